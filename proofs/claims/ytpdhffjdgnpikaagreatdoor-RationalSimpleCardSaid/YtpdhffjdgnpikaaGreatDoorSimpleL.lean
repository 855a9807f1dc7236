/- narrowslaw02.RationalSimple returns true. -/
import Derived.Test.YtpdhffjdgnpikaaGreatDoorRatSv
import Derived.Test.YtpdhffjdgnpikaaGreatDoorRatValB
import Derived.Test.YtpdhffjdgnpikaaGreatDoorRatWh
import Derived.Test.YtpdhffjdgnpikaaGreatDoorSimple
namespace Go.Proofs.YtpdhffjdgnpikaaGreatDoor
open Go.RowKit Go.Shelf

set_option maxHeartbeats 8000000 in
set_option maxRecDepth 100000 in
theorem simplest_err (b c : Bool) (s t u v : ByteArray) (n : Int) (hn : 0 < n)
    (c1 : ∀ W : World, Calls Tryz.prog 35 #[.agg #[.bool b, .string s, .string t], .agg #[.bool c, .string u, .string v]] W fun e w' => e = .returned (.int .i64 n) ∧ Below W.heap.size W w')
    (w : World) : Calls Tryz.prog 39 #[.agg #[.bool b, .string s, .string t], .agg #[.bool c, .string u, .string v]] w fun e w' => e = .returned (.tuple #[.agg #[.bool false, .string ⟨#[]⟩, .string ⟨#[]⟩], .int .i64 8]) ∧ Below w.heap.size w w' := by
  have R1 := Lib.hid c1
  clear c1
  go_enter Tryz.func39, Tryz.ntmps39
  go_wp2_with fail
  obtain ⟨W0, hW0⟩ : ∃ V, (((w.alloc (Obj.cells #[Value.bool b, Value.string s, Value.string t] 25)).alloc (Obj.cells #[Value.bool c, Value.string u, Value.string v] 25)).alloc (Obj.cells #[Value.bool false, Value.string ⟨#[]⟩, Value.string ⟨#[]⟩] 25)) = V := ⟨_, rfl⟩
  have sW0 : W0.heap.size = w.heap.size + 1 + 1 + 1 := by rw [← hW0]; simp
  have k0 : Cells (w.heap.size) [.bool b, .string s, .string t] W0 := by
    rw [← hW0]
    have h := cells_new w #[.bool b, .string s, .string t] 25
    exact ((h.alloc (by simp; try omega) _).alloc (by simp; try omega) _)
  have k1 : Cells (w.heap.size + 1) [.bool c, .string u, .string v] W0 := by
    rw [← hW0]
    have h := cells_new (w.alloc (Obj.cells #[Value.bool b, Value.string s, Value.string t] 25)) #[.bool c, .string u, .string v] 25
    simp only [World.size_alloc] at h
    exact (h.alloc (by simp; try omega) _)
  have k2 : Cells (w.heap.size + 1 + 1) [.bool false, .string ⟨#[]⟩, .string ⟨#[]⟩] W0 := by
    rw [← hW0]
    have h := cells_new ((w.alloc (Obj.cells #[Value.bool b, Value.string s, Value.string t] 25)).alloc (Obj.cells #[Value.bool c, Value.string u, Value.string v] 25)) #[.bool false, .string ⟨#[]⟩, .string ⟨#[]⟩] 25
    simp only [World.size_alloc] at h
    exact h
  have bW0 : Below w.heap.size w W0 := by
    rw [← hW0]
    exact ((((Below.refl _ _).alloc (Nat.le_refl _) _).alloc (by simp; try omega) _).alloc (by simp; try omega) _)
  rw [hW0]
  clear hW0
  have HS0 := Lib.hid (And.intro bW0 (And.intro k0 (And.intro k1 k2)))
  clear bW0 k0 k1 k2
  have l0 := (HS0.out.2.1).lt
  have m00 := (HS0.out.2.1 0 _ rfl).1
  have m01 := (HS0.out.2.1 1 _ rfl).1
  have m02 := (HS0.out.2.1 2 _ rfl).1
  have l1 := (HS0.out.2.2.1).lt
  have m10 := (HS0.out.2.2.1 0 _ rfl).1
  have m11 := (HS0.out.2.2.1 1 _ rfl).1
  have m12 := (HS0.out.2.2.1 2 _ rfl).1
  have l2 := (HS0.out.2.2.2).lt
  go_wp2_with fail
  clear l0 m00 m01 m02 l1 m10 m11 m12 l2
  refine (R1.out _).mono ?_
  rintro e w1 ⟨rfl, c⟩
  have f := HS0.out.1.trans (c.mono HS0.out.1.size)
  have t0 := (HS0.out.2.1).below c (HS0.out.2.1).lt
  have t1 := (HS0.out.2.2.1).below c (HS0.out.2.2.1).lt
  have t2 := (HS0.out.2.2.2).below c (HS0.out.2.2.2).lt
  have HS1 := Lib.hid (And.intro f (And.intro t0 (And.intro t1 t2)))
  clear c f t0 t1 t2
  have l0 := (HS1.out.2.1).lt
  have l1 := (HS1.out.2.2.1).lt
  have l2 := (HS1.out.2.2.2).lt
  have m20 := (HS1.out.2.2.2 0 _ rfl).1
  have z20 := (HS1.out.2.2.2 0 _ rfl).2
  have m21 := (HS1.out.2.2.2 1 _ rfl).1
  have z21 := (HS1.out.2.2.2 1 _ rfl).2
  have m22 := (HS1.out.2.2.2 2 _ rfl).1
  have z22 := (HS1.out.2.2.2 2 _ rfl).2
  go_wp2_with fail
  clear l0 l1 l2 m20 z20 m21 z21 m22 z22
  obtain ⟨wz, hwz⟩ : ∃ V, (((w1.setCell ⟨w.heap.size + 1 + 1, 0, none⟩ (Value.bool false)).setCell ⟨w.heap.size + 1 + 1, 1, none⟩ (Value.string ⟨#[]⟩)).setCell ⟨w.heap.size + 1 + 1, 2, none⟩ (Value.string ⟨#[]⟩)) = V := ⟨_, rfl⟩
  have f : Below w.heap.size w wz := by rw [← hwz]; exact (below_sets (below_sets (below_sets HS1.out.1 (by first | assumption | exact Nat.le_refl _ | omega) 0 (Value.bool false)) (by first | assumption | exact Nat.le_refl _ | omega) 1 (Value.string ⟨#[]⟩)) (by first | assumption | exact Nat.le_refl _ | omega) 2 (Value.string ⟨#[]⟩))
  have t0 : Cells (w.heap.size) [.bool b, .string s, .string t] wz := by rw [← hwz]; exact ((((((HS1.out.2.1).other (by omega))).other (by omega))).other (by omega))
  have t1 : Cells (w.heap.size + 1) [.bool c, .string u, .string v] wz := by rw [← hwz]; exact ((((((HS1.out.2.2.1).other (by omega))).other (by omega))).other (by omega))
  have t2 : Cells (w.heap.size + 1 + 1) [.bool false, .string ⟨#[]⟩, .string ⟨#[]⟩] wz := by rw [← hwz]; exact ((((((HS1.out.2.2.2).set (k := 0) (Value.bool false) _ rfl)).set (k := 1) (Value.string ⟨#[]⟩) _ rfl)).set (k := 2) (Value.string ⟨#[]⟩) _ rfl)
  have HSz := Lib.hid (And.intro f (And.intro t0 (And.intro t1 t2)))
  rw [hwz]
  clear hwz f t0 t1 t2
  have y0 := (HSz.out.2.2.2 0 _ rfl).1
  have y1 := (HSz.out.2.2.2 1 _ rfl).1
  have y2 := (HSz.out.2.2.2 2 _ rfl).1
  refine bodyPost_ret (v := .tuple #[.agg #[.bool false, .string ⟨#[]⟩, .string ⟨#[]⟩], .int .i64 8]) (by simp [results, Tryz.results39, go_sem, y0, y1, y2]) rfl ⟨rfl, HSz.out.1⟩

set_option maxHeartbeats 8000000 in
set_option maxRecDepth 100000 in
theorem simplest_zero (b c : Bool) (s t u v : ByteArray) (n k j : Int) (hn : ¬ 0 < n) (hk : ¬ 0 < k) (hj : ¬ j < 0)
    (c1 : ∀ W : World, Calls Tryz.prog 35 #[.agg #[.bool b, .string s, .string t], .agg #[.bool c, .string u, .string v]] W fun e w' => e = .returned (.int .i64 n) ∧ Below W.heap.size W w')
    (c2 : ∀ W : World, Calls Tryz.prog 37 #[.agg #[.bool b, .string s, .string t]] W fun e w' => e = .returned (.int .i64 k) ∧ Below W.heap.size W w')
    (c3 : ∀ W : World, Calls Tryz.prog 37 #[.agg #[.bool c, .string u, .string v]] W fun e w' => e = .returned (.int .i64 j) ∧ Below W.heap.size W w')
    (w : World) : Calls Tryz.prog 39 #[.agg #[.bool b, .string s, .string t], .agg #[.bool c, .string u, .string v]] w fun e w' => e = .returned (.tuple #[.agg #[.bool false, .string ⟨#[]⟩, .string ⟨#[]⟩], .int .i64 0]) ∧ Below w.heap.size w w' := by
  have R1 := Lib.hid c1
  have R2 := Lib.hid c2
  have R3 := Lib.hid c3
  clear c1 c2 c3
  have hn2 : n ≤ 0 := by omega
  have hk2 : k ≤ 0 := by omega
  have hj2 : 0 ≤ j := by omega
  go_enter Tryz.func39, Tryz.ntmps39
  go_wp2_with fail
  obtain ⟨W0, hW0⟩ : ∃ V, (((w.alloc (Obj.cells #[Value.bool b, Value.string s, Value.string t] 25)).alloc (Obj.cells #[Value.bool c, Value.string u, Value.string v] 25)).alloc (Obj.cells #[Value.bool false, Value.string ⟨#[]⟩, Value.string ⟨#[]⟩] 25)) = V := ⟨_, rfl⟩
  have sW0 : W0.heap.size = w.heap.size + 1 + 1 + 1 := by rw [← hW0]; simp
  have k0 : Cells (w.heap.size) [.bool b, .string s, .string t] W0 := by
    rw [← hW0]
    have h := cells_new w #[.bool b, .string s, .string t] 25
    exact ((h.alloc (by simp; try omega) _).alloc (by simp; try omega) _)
  have k1 : Cells (w.heap.size + 1) [.bool c, .string u, .string v] W0 := by
    rw [← hW0]
    have h := cells_new (w.alloc (Obj.cells #[Value.bool b, Value.string s, Value.string t] 25)) #[.bool c, .string u, .string v] 25
    simp only [World.size_alloc] at h
    exact (h.alloc (by simp; try omega) _)
  have k2 : Cells (w.heap.size + 1 + 1) [.bool false, .string ⟨#[]⟩, .string ⟨#[]⟩] W0 := by
    rw [← hW0]
    have h := cells_new ((w.alloc (Obj.cells #[Value.bool b, Value.string s, Value.string t] 25)).alloc (Obj.cells #[Value.bool c, Value.string u, Value.string v] 25)) #[.bool false, .string ⟨#[]⟩, .string ⟨#[]⟩] 25
    simp only [World.size_alloc] at h
    exact h
  have bW0 : Below w.heap.size w W0 := by
    rw [← hW0]
    exact ((((Below.refl _ _).alloc (Nat.le_refl _) _).alloc (by simp; try omega) _).alloc (by simp; try omega) _)
  rw [hW0]
  clear hW0
  have HS0 := Lib.hid (And.intro bW0 (And.intro k0 (And.intro k1 k2)))
  clear bW0 k0 k1 k2
  have l0 := (HS0.out.2.1).lt
  have m00 := (HS0.out.2.1 0 _ rfl).1
  have m01 := (HS0.out.2.1 1 _ rfl).1
  have m02 := (HS0.out.2.1 2 _ rfl).1
  have l1 := (HS0.out.2.2.1).lt
  have m10 := (HS0.out.2.2.1 0 _ rfl).1
  have m11 := (HS0.out.2.2.1 1 _ rfl).1
  have m12 := (HS0.out.2.2.1 2 _ rfl).1
  have l2 := (HS0.out.2.2.2).lt
  go_wp2_with fail
  clear l0 m00 m01 m02 l1 m10 m11 m12 l2
  refine (R1.out _).mono ?_
  rintro e w1 ⟨rfl, c⟩
  have f := HS0.out.1.trans (c.mono HS0.out.1.size)
  have t0 := (HS0.out.2.1).below c (HS0.out.2.1).lt
  have t1 := (HS0.out.2.2.1).below c (HS0.out.2.2.1).lt
  have t2 := (HS0.out.2.2.2).below c (HS0.out.2.2.2).lt
  have HS1 := Lib.hid (And.intro f (And.intro t0 (And.intro t1 t2)))
  clear c f t0 t1 t2
  have l0 := (HS1.out.2.1).lt
  have m00 := (HS1.out.2.1 0 _ rfl).1
  have m01 := (HS1.out.2.1 1 _ rfl).1
  have m02 := (HS1.out.2.1 2 _ rfl).1
  have l1 := (HS1.out.2.2.1).lt
  have l2 := (HS1.out.2.2.2).lt
  go_wp2_with fail
  clear l0 m00 m01 m02 l1 l2
  refine (R2.out _).mono ?_
  rintro e w2 ⟨rfl, c⟩
  have f := HS1.out.1.trans (c.mono HS1.out.1.size)
  have t0 := (HS1.out.2.1).below c (HS1.out.2.1).lt
  have t1 := (HS1.out.2.2.1).below c (HS1.out.2.2.1).lt
  have t2 := (HS1.out.2.2.2).below c (HS1.out.2.2.2).lt
  have HS2 := Lib.hid (And.intro f (And.intro t0 (And.intro t1 t2)))
  clear c f t0 t1 t2
  have l0 := (HS2.out.2.1).lt
  have l1 := (HS2.out.2.2.1).lt
  have m10 := (HS2.out.2.2.1 0 _ rfl).1
  have m11 := (HS2.out.2.2.1 1 _ rfl).1
  have m12 := (HS2.out.2.2.1 2 _ rfl).1
  have l2 := (HS2.out.2.2.2).lt
  go_wp2_with fail
  clear l0 l1 m10 m11 m12 l2
  refine (R3.out _).mono ?_
  rintro e w3 ⟨rfl, c⟩
  have f := HS2.out.1.trans (c.mono HS2.out.1.size)
  have t0 := (HS2.out.2.1).below c (HS2.out.2.1).lt
  have t1 := (HS2.out.2.2.1).below c (HS2.out.2.2.1).lt
  have t2 := (HS2.out.2.2.2).below c (HS2.out.2.2.2).lt
  have HS3 := Lib.hid (And.intro f (And.intro t0 (And.intro t1 t2)))
  clear c f t0 t1 t2
  have l0 := (HS3.out.2.1).lt
  have l1 := (HS3.out.2.2.1).lt
  have l2 := (HS3.out.2.2.2).lt
  have m20 := (HS3.out.2.2.2 0 _ rfl).1
  have z20 := (HS3.out.2.2.2 0 _ rfl).2
  have m21 := (HS3.out.2.2.2 1 _ rfl).1
  have z21 := (HS3.out.2.2.2 1 _ rfl).2
  have m22 := (HS3.out.2.2.2 2 _ rfl).1
  have z22 := (HS3.out.2.2.2 2 _ rfl).2
  go_wp2_with fail
  clear l0 l1 l2 m20 z20 m21 z21 m22 z22
  obtain ⟨wz, hwz⟩ : ∃ V, (((w3.setCell ⟨w.heap.size + 1 + 1, 0, none⟩ (Value.bool false)).setCell ⟨w.heap.size + 1 + 1, 1, none⟩ (Value.string ⟨#[]⟩)).setCell ⟨w.heap.size + 1 + 1, 2, none⟩ (Value.string ⟨#[]⟩)) = V := ⟨_, rfl⟩
  have f : Below w.heap.size w wz := by rw [← hwz]; exact (below_sets (below_sets (below_sets HS3.out.1 (by first | assumption | exact Nat.le_refl _ | omega) 0 (Value.bool false)) (by first | assumption | exact Nat.le_refl _ | omega) 1 (Value.string ⟨#[]⟩)) (by first | assumption | exact Nat.le_refl _ | omega) 2 (Value.string ⟨#[]⟩))
  have t0 : Cells (w.heap.size) [.bool b, .string s, .string t] wz := by rw [← hwz]; exact ((((((HS3.out.2.1).other (by omega))).other (by omega))).other (by omega))
  have t1 : Cells (w.heap.size + 1) [.bool c, .string u, .string v] wz := by rw [← hwz]; exact ((((((HS3.out.2.2.1).other (by omega))).other (by omega))).other (by omega))
  have t2 : Cells (w.heap.size + 1 + 1) [.bool false, .string ⟨#[]⟩, .string ⟨#[]⟩] wz := by rw [← hwz]; exact ((((((HS3.out.2.2.2).set (k := 0) (Value.bool false) _ rfl)).set (k := 1) (Value.string ⟨#[]⟩) _ rfl)).set (k := 2) (Value.string ⟨#[]⟩) _ rfl)
  have HSz := Lib.hid (And.intro f (And.intro t0 (And.intro t1 t2)))
  rw [hwz]
  clear hwz f t0 t1 t2
  have y0 := (HSz.out.2.2.2 0 _ rfl).1
  have y1 := (HSz.out.2.2.2 1 _ rfl).1
  have y2 := (HSz.out.2.2.2 2 _ rfl).1
  refine bodyPost_ret (v := .tuple #[.agg #[.bool false, .string ⟨#[]⟩, .string ⟨#[]⟩], .int .i64 0]) (by simp [results, Tryz.results39, go_sem, y0, y1, y2]) rfl ⟨rfl, HSz.out.1⟩

set_option maxHeartbeats 8000000 in
set_option maxRecDepth 100000 in
theorem simplest_neg (b c : Bool) (s t u v : ByteArray) (qa qb s3 s4 s1 t1 : ByteArray) (b3 b4 b1 : Bool) (b' : Bool) (s' t' : ByteArray) (n k j : Int) (hn : ¬ 0 < n) (hk : ¬ 0 < k) (hj : j < 0)
    (c1 : ∀ W : World, Calls Tryz.prog 35 #[.agg #[.bool b, .string s, .string t], .agg #[.bool c, .string u, .string v]] W fun e w' => e = .returned (.int .i64 n) ∧ Below W.heap.size W w')
    (c2 : ∀ W : World, Calls Tryz.prog 37 #[.agg #[.bool b, .string s, .string t]] W fun e w' => e = .returned (.int .i64 k) ∧ Below W.heap.size W w')
    (c3 : ∀ W : World, Calls Tryz.prog 37 #[.agg #[.bool c, .string u, .string v]] W fun e w' => e = .returned (.int .i64 j) ∧ Below W.heap.size W w')
    (c4 : ∀ W : World, Calls Tryz.prog 61 #[.agg #[.bool (!c), .string u, .string v]] W fun e w' => e = .returned (.agg #[.bool (!c), .string u, .bool false, .string qb]) ∧ Below W.heap.size W w')
    (c5 : ∀ W : World, Calls Tryz.prog 61 #[.agg #[.bool (!b), .string s, .string t]] W fun e w' => e = .returned (.agg #[.bool (!b), .string s, .bool false, .string qa]) ∧ Below W.heap.size W w')
    (c6 : ∀ W : World, Calls Tryz.prog 86 #[.agg #[.bool (!c), .string u, .bool false, .string qb], .agg #[.bool (!b), .string s, .bool false, .string qa]] W fun e w' => e = .returned (.agg #[.bool b3, .string s3, .bool b4, .string s4]) ∧ Below W.heap.size W w')
    (c7 : ∀ W : World, Calls Tryz.prog 73 #[.agg #[.bool b3, .string s3, .bool b4, .string s4]] W fun e w' => e = .returned (.agg #[.bool b1, .string s1, .string t1]) ∧ Below W.heap.size W w')
    (c8 : ∀ W : World, Calls Tryz.prog 27 #[.agg #[.bool b1, .string s1, .string t1]] W fun e w' => e = .returned (.agg #[.bool b', .string s', .string t']) ∧ Below W.heap.size W w')
    (w : World) : Calls Tryz.prog 39 #[.agg #[.bool b, .string s, .string t], .agg #[.bool c, .string u, .string v]] w fun e w' => e = .returned (.tuple #[.agg #[.bool b', .string s', .string t'], .int .i64 0]) ∧ Below w.heap.size w w' := by
  have R1 := Lib.hid c1
  have R2 := Lib.hid c2
  have R3 := Lib.hid c3
  have R4 := Lib.hid c4
  have R5 := Lib.hid c5
  have R6 := Lib.hid c6
  have R7 := Lib.hid c7
  have R8 := Lib.hid c8
  clear c1 c2 c3 c4 c5 c6 c7 c8
  have RO := Lib.hid (fun (x : Bool) (y z : ByteArray) (W : World) => opposite_rat x y z W)
  have hn2 : n ≤ 0 := by omega
  have hk2 : k ≤ 0 := by omega
  go_enter Tryz.func39, Tryz.ntmps39
  go_wp2_with fail
  obtain ⟨W0, hW0⟩ : ∃ V, (((w.alloc (Obj.cells #[Value.bool b, Value.string s, Value.string t] 25)).alloc (Obj.cells #[Value.bool c, Value.string u, Value.string v] 25)).alloc (Obj.cells #[Value.bool false, Value.string ⟨#[]⟩, Value.string ⟨#[]⟩] 25)) = V := ⟨_, rfl⟩
  have sW0 : W0.heap.size = w.heap.size + 1 + 1 + 1 := by rw [← hW0]; simp
  have k0 : Cells (w.heap.size) [.bool b, .string s, .string t] W0 := by
    rw [← hW0]
    have h := cells_new w #[.bool b, .string s, .string t] 25
    exact ((h.alloc (by simp; try omega) _).alloc (by simp; try omega) _)
  have k1 : Cells (w.heap.size + 1) [.bool c, .string u, .string v] W0 := by
    rw [← hW0]
    have h := cells_new (w.alloc (Obj.cells #[Value.bool b, Value.string s, Value.string t] 25)) #[.bool c, .string u, .string v] 25
    simp only [World.size_alloc] at h
    exact (h.alloc (by simp; try omega) _)
  have k2 : Cells (w.heap.size + 1 + 1) [.bool false, .string ⟨#[]⟩, .string ⟨#[]⟩] W0 := by
    rw [← hW0]
    have h := cells_new ((w.alloc (Obj.cells #[Value.bool b, Value.string s, Value.string t] 25)).alloc (Obj.cells #[Value.bool c, Value.string u, Value.string v] 25)) #[.bool false, .string ⟨#[]⟩, .string ⟨#[]⟩] 25
    simp only [World.size_alloc] at h
    exact h
  have bW0 : Below w.heap.size w W0 := by
    rw [← hW0]
    exact ((((Below.refl _ _).alloc (Nat.le_refl _) _).alloc (by simp; try omega) _).alloc (by simp; try omega) _)
  rw [hW0]
  clear hW0
  have HS0 := Lib.hid (And.intro bW0 (And.intro k0 (And.intro k1 k2)))
  clear bW0 k0 k1 k2
  have l0 := (HS0.out.2.1).lt
  have m00 := (HS0.out.2.1 0 _ rfl).1
  have m01 := (HS0.out.2.1 1 _ rfl).1
  have m02 := (HS0.out.2.1 2 _ rfl).1
  have l1 := (HS0.out.2.2.1).lt
  have m10 := (HS0.out.2.2.1 0 _ rfl).1
  have m11 := (HS0.out.2.2.1 1 _ rfl).1
  have m12 := (HS0.out.2.2.1 2 _ rfl).1
  have l2 := (HS0.out.2.2.2).lt
  go_wp2_with fail
  clear l0 m00 m01 m02 l1 m10 m11 m12 l2
  refine (R1.out _).mono ?_
  rintro e w1 ⟨rfl, c⟩
  have f := HS0.out.1.trans (c.mono HS0.out.1.size)
  have t0 := (HS0.out.2.1).below c (HS0.out.2.1).lt
  have t1 := (HS0.out.2.2.1).below c (HS0.out.2.2.1).lt
  have t2 := (HS0.out.2.2.2).below c (HS0.out.2.2.2).lt
  have HS1 := Lib.hid (And.intro f (And.intro t0 (And.intro t1 t2)))
  clear c f t0 t1 t2
  have l0 := (HS1.out.2.1).lt
  have m00 := (HS1.out.2.1 0 _ rfl).1
  have m01 := (HS1.out.2.1 1 _ rfl).1
  have m02 := (HS1.out.2.1 2 _ rfl).1
  have l1 := (HS1.out.2.2.1).lt
  have l2 := (HS1.out.2.2.2).lt
  go_wp2_with fail
  clear l0 m00 m01 m02 l1 l2
  refine (R2.out _).mono ?_
  rintro e w2 ⟨rfl, c⟩
  have f := HS1.out.1.trans (c.mono HS1.out.1.size)
  have t0 := (HS1.out.2.1).below c (HS1.out.2.1).lt
  have t1 := (HS1.out.2.2.1).below c (HS1.out.2.2.1).lt
  have t2 := (HS1.out.2.2.2).below c (HS1.out.2.2.2).lt
  have HS2 := Lib.hid (And.intro f (And.intro t0 (And.intro t1 t2)))
  clear c f t0 t1 t2
  have l0 := (HS2.out.2.1).lt
  have l1 := (HS2.out.2.2.1).lt
  have m10 := (HS2.out.2.2.1 0 _ rfl).1
  have m11 := (HS2.out.2.2.1 1 _ rfl).1
  have m12 := (HS2.out.2.2.1 2 _ rfl).1
  have l2 := (HS2.out.2.2.2).lt
  go_wp2_with fail
  clear l0 l1 m10 m11 m12 l2
  refine (R3.out _).mono ?_
  rintro e w3 ⟨rfl, c⟩
  have f := HS2.out.1.trans (c.mono HS2.out.1.size)
  have t0 := (HS2.out.2.1).below c (HS2.out.2.1).lt
  have t1 := (HS2.out.2.2.1).below c (HS2.out.2.2.1).lt
  have t2 := (HS2.out.2.2.2).below c (HS2.out.2.2.2).lt
  have HS3 := Lib.hid (And.intro f (And.intro t0 (And.intro t1 t2)))
  clear c f t0 t1 t2
  have l0 := (HS3.out.2.1).lt
  have m00 := (HS3.out.2.1 0 _ rfl).1
  have m01 := (HS3.out.2.1 1 _ rfl).1
  have m02 := (HS3.out.2.1 2 _ rfl).1
  have l1 := (HS3.out.2.2.1).lt
  have m10 := (HS3.out.2.2.1 0 _ rfl).1
  have m11 := (HS3.out.2.2.1 1 _ rfl).1
  have m12 := (HS3.out.2.2.1 2 _ rfl).1
  have l2 := (HS3.out.2.2.2).lt
  go_wp2_with fail
  have tok1 : True := trivial
  have tok2 : True := trivial
  have tok3 : True := trivial
  have tok4 : True := trivial
  have tok5 : True := trivial
  have tok6 : True := trivial
  have tok7 : True := trivial
  have hRb : w.heap.size + 1 + 1 ≤ w3.heap.size := by omega
  go_region_held3 (fun w' => ∀ (a o : Nat), a < w.heap.size + 1 + 1 → w'.cell? ⟨a, o, none⟩ = w3.cell? ⟨a, o, none⟩) (first | with_reducible assumption | (intro _ _ _; rfl) | (repeat' (first | with_reducible assumption | with_reducible exact keepN_refl _ _ | with_reducible (refine keepN_drew ?_) | with_reducible (refine keepN_set ?_ ?_) | with_reducible (refine keepN_alloc ?_ ?_) | exact Nat.le_refl _ | omega | (intro _ _ _; rfl))))
    (first | (go_at_call 66; have _t := tok1; clear tok1; refine (RO.out c u v _).mono ?_; rintro e u1 ⟨rfl, d1⟩; have E1 := Lib.hid (d1); have kS1 : ∀ (a o : Nat), a < w.heap.size + 1 + 1 → u1.cell? ⟨a, o, none⟩ = w3.cell? ⟨a, o, none⟩ := fun a o h => E1.out.cell (p := ⟨a, o, none⟩) (Nat.lt_of_lt_of_le h hRb); have hz1 : w3.heap.size ≤ u1.heap.size := E1.out.size; clear d1) | (go_at_call 61; have _t := tok2; clear tok2; refine (R4.out _).mono ?_; rintro e u2 ⟨rfl, d2⟩; have E2 := Lib.hid (E1.out.trans (d2.mono E1.out.size)); have kS2 : ∀ (a o : Nat), a < w.heap.size + 1 + 1 → u2.cell? ⟨a, o, none⟩ = w3.cell? ⟨a, o, none⟩ := fun a o h => E2.out.cell (p := ⟨a, o, none⟩) (Nat.lt_of_lt_of_le h hRb); have hz2 : w3.heap.size ≤ u2.heap.size := E2.out.size; clear d2) | (go_at_call 66; have _t := tok3; clear tok3; refine (RO.out b s t _).mono ?_; rintro e u3 ⟨rfl, d3⟩; have E3 := Lib.hid (E2.out.trans (d3.mono E2.out.size)); have kS3 : ∀ (a o : Nat), a < w.heap.size + 1 + 1 → u3.cell? ⟨a, o, none⟩ = w3.cell? ⟨a, o, none⟩ := fun a o h => E3.out.cell (p := ⟨a, o, none⟩) (Nat.lt_of_lt_of_le h hRb); have hz3 : w3.heap.size ≤ u3.heap.size := E3.out.size; clear d3) | (go_at_call 61; have _t := tok4; clear tok4; refine (R5.out _).mono ?_; rintro e u4 ⟨rfl, d4⟩; have E4 := Lib.hid (E3.out.trans (d4.mono E3.out.size)); have kS4 : ∀ (a o : Nat), a < w.heap.size + 1 + 1 → u4.cell? ⟨a, o, none⟩ = w3.cell? ⟨a, o, none⟩ := fun a o h => E4.out.cell (p := ⟨a, o, none⟩) (Nat.lt_of_lt_of_le h hRb); have hz4 : w3.heap.size ≤ u4.heap.size := E4.out.size; clear d4) | (go_at_call 86; have _t := tok5; clear tok5; refine (R6.out _).mono ?_; rintro e u5 ⟨rfl, d5⟩; have E5 := Lib.hid (E4.out.trans (d5.mono E4.out.size)); have kS5 : ∀ (a o : Nat), a < w.heap.size + 1 + 1 → u5.cell? ⟨a, o, none⟩ = w3.cell? ⟨a, o, none⟩ := fun a o h => E5.out.cell (p := ⟨a, o, none⟩) (Nat.lt_of_lt_of_le h hRb); have hz5 : w3.heap.size ≤ u5.heap.size := E5.out.size; clear d5) | (go_at_call 73; have _t := tok6; clear tok6; refine (R7.out _).mono ?_; rintro e u6 ⟨rfl, d6⟩; have E6 := Lib.hid (E5.out.trans (d6.mono E5.out.size)); have kS6 : ∀ (a o : Nat), a < w.heap.size + 1 + 1 → u6.cell? ⟨a, o, none⟩ = w3.cell? ⟨a, o, none⟩ := fun a o h => E6.out.cell (p := ⟨a, o, none⟩) (Nat.lt_of_lt_of_le h hRb); have hz6 : w3.heap.size ≤ u6.heap.size := E6.out.size; clear d6) | (go_at_call 27; have _t := tok7; clear tok7; refine (R8.out _).mono ?_; rintro e u7 ⟨rfl, d7⟩; have E7 := Lib.hid (E6.out.trans (d7.mono E6.out.size)); have kS7 : ∀ (a o : Nat), a < w.heap.size + 1 + 1 → u7.cell? ⟨a, o, none⟩ = w3.cell? ⟨a, o, none⟩ := fun a o h => E7.out.cell (p := ⟨a, o, none⟩) (Nat.lt_of_lt_of_le h hRb); have hz7 : w3.heap.size ≤ u7.heap.size := E7.out.size; clear d7; have kR := (show Cells _ _ w3.drew from HS3.out.2.2.2).below E7.out l2; obtain ⟨r00, r01⟩ := kR 0 _ rfl; obtain ⟨r10, r11⟩ := kR 1 _ rfl; obtain ⟨r20, r21⟩ := kR 2 _ rfl; clear kR))
  have kF0 := (show Cells _ _ w3.drew from HS3.out.2.2.2).below E7.out l2
  have kF1 := kF0.set (k := 0) (Value.bool b') _ rfl
  have kF2 := kF1.set (k := 1) (Value.string s') _ rfl
  have kF3 := kF2.set (k := 2) (Value.string t') _ rfl
  have y0 := (kF3 0 _ rfl).1
  have y1 := (kF3 1 _ rfl).1
  have y2 := (kF3 2 _ rfl).1
  have hbf := HS3.out.1.trans ((((Below.refl w3.heap.size w3).drew).trans E7.out).mono HS3.out.1.size)
  have hbg := (below_sets (below_sets (below_sets hbf (show w.heap.size ≤ w.heap.size + 1 + 1 by omega) 0 (Value.bool b')) (show w.heap.size ≤ w.heap.size + 1 + 1 by omega) 1 (Value.string s')) (show w.heap.size ≤ w.heap.size + 1 + 1 by omega) 2 (Value.string t'))
  have HBG := Lib.hid hbg
  clear hbg hbf kF0 kF1 kF2 kF3
  go_wp2_with fail
  refine bodyPost_ret (v := .tuple #[.agg #[.bool b', .string s', .string t'], .int .i64 0]) (by simp [results, Tryz.results39, go_sem, y0, y1, y2]) rfl ⟨rfl, HBG.out⟩

end Go.Proofs.YtpdhffjdgnpikaaGreatDoor

namespace Go.Proofs.YtpdhffjdgnpikaaGreatDoor
open Go.RowKit Go.Shelf

/-- A number of the interval from p to q, none of which has a lesser denominator. -/
structure Fewest (p q x : Rat) : Prop where
  low : p ≤ x
  high : x ≤ q
  least : ∀ (m : Int) (k : Nat), 0 < k → p * (k : Rat) ≤ (m : Rat) → (m : Rat) ≤ q * (k : Rat) → x.den ≤ k
theorem Fewest.neg {p q x : Rat} (h : Fewest p q x) : Fewest (-q) (-p) (-x) := by
  refine ⟨by have := h.high; grind, by have := h.low; grind, fun m k hk h1 h2 => ?_⟩
  rw [Rat.neg_den]
  refine h.least (-m) k hk ?_ ?_
  · rw [Rat.intCast_neg]; grind
  · rw [Rat.intCast_neg]; grind
theorem fewest_zero {p q : Rat} (h1 : p ≤ 0) (h2 : 0 ≤ q) : Fewest p q 0 := ⟨h1, h2, fun _ _ hk _ _ => hk⟩
theorem mul_mk (n : Int) (d k : Nat) : mkRat n d * (k : Rat) = mkRat (n * (k : Int)) d := by
  rw [show ((k : Nat) : Rat) = mkRat (k : Int) 1 from (Rat.mkRat_one (k : Int)).symm, Rat.mkRat_mul_mkRat, Nat.mul_one]
theorem fewest_pos {n1 n2 d1 d2 P Q : Nat} (hd1 : 0 < d1) (hd2 : 0 < d2) (hn : 0 < n1) (hS : Simple n1 d1 n2 d2 P Q) : Fewest (mkRat (n1 : Int) d1) (mkRat (n2 : Int) d2) (mkRat (P : Int) Q) := by
  refine ⟨?_, ?_, fun m k hk h1 h2 => ?_⟩
  · rw [mk_le_iff _ _ _ _ hd1 hS.q0, ← Int.natCast_mul, ← Int.natCast_mul]
    exact Int.ofNat_le.2 hS.low
  · rw [mk_le_iff _ _ _ _ hS.q0 hd2, ← Int.natCast_mul, ← Int.natCast_mul]
    exact Int.ofNat_le.2 hS.high
  · rw [mul_mk, ← Rat.mkRat_one m, mk_le_iff _ _ _ _ hd1 (by omega)] at h1
    rw [mul_mk, ← Rat.mkRat_one m, mk_le_iff _ _ _ _ (by omega) hd2] at h2
    have hm : 0 ≤ m := by
      refine Classical.byContradiction fun h => ?_
      have a1 : 0 ≤ (n1 : Int) * (k : Int) := Int.mul_nonneg (by omega) (by omega)
      have a2 := Int.mul_nonneg (show 0 ≤ -m by omega) (show (0 : Int) ≤ (d1 : Int) by omega)
      have a3 : 0 < (n1 : Int) * (k : Int) := Int.mul_pos (by omega) (by omega)
      rw [Int.neg_mul] at a2
      omega
    obtain ⟨x, rfl⟩ : ∃ x : Nat, m = (x : Int) := ⟨m.toNat, by omega⟩
    have b1 : n1 * k ≤ x * d1 := by
      have : ((n1 * k : Nat) : Int) ≤ ((x * d1 : Nat) : Int) := by rw [Int.natCast_mul, Int.natCast_mul]; omega
      omega
    have b2 : x * d2 ≤ n2 * k := by
      have : ((x * d2 : Nat) : Int) ≤ ((n2 * k : Nat) : Int) := by rw [Int.natCast_mul, Int.natCast_mul]; omega
      omega
    exact Nat.le_trans (mk_le (P : Int) Q hS.q0).2 (hS.least x k hk b1 b2).2
section
variable {b c : Bool} {s t u v : ByteArray} {p q : Rat}
/-- between and number at an interval of positive numbers. -/
theorem pos_core (hp : RVal b s t p) (hq : RVal c u v q) (h0 : 0 < p) (hle : p ≤ q) : ∃ (x : Rat) (nP nQ b1 : Bool) (sP sQ s1 t1 : ByteArray), Fewest p q x ∧ RNam b1 s1 t1 x ∧ RSz (s.size + t.size + 1) x ∧
    (∀ W : World, Calls Tryz.prog 86 #[.agg #[.bool b, .string s, .bool false, .string (dvs t)], .agg #[.bool c, .string u, .bool false, .string (dvs v)]] W fun e w' => e = .returned (.agg #[.bool nP, .string sP, .bool nQ, .string sQ]) ∧ Below W.heap.size W w') ∧
    ∀ W : World, Calls Tryz.prog 73 #[.agg #[.bool nP, .string sP, .bool nQ, .string sQ]] W fun e w' => e = .returned (.agg #[.bool b1, .string s1, .string t1]) ∧ Below W.heap.size W w' := by
  have p1 : 0 < ival b s := by
    rw [← mk_pos _ _ (rden_pos t)]
    have := hp.val
    unfold rval at this
    rw [this]; exact h0
  have l1 : ival b s * (rden v : Int) ≤ ival c u * (rden t : Int) := by
    rw [← mk_le_iff _ _ _ _ (rden_pos t) (rden_pos v)]
    have e1 := hp.val
    have e2 := hq.val
    unfold rval at e1 e2
    rw [e1, e2]; exact hle
  have p2 : 0 < ival c u := by
    have h1 : 0 < ival b s * (rden v : Int) := Int.mul_pos p1 (by have := rden_pos v; omega)
    have h2 : 0 < ival c u * (rden t : Int) := by omega
    refine Classical.byContradiction fun h3 => ?_
    have := Int.mul_nonneg (show 0 ≤ -ival c u by omega) (show (0 : Int) ≤ (rden t : Int) by omega)
    rw [Int.neg_mul] at this
    omega
  obtain ⟨n1, e1⟩ : ∃ n1 : Nat, ival b s = (n1 : Int) := ⟨(ival b s).toNat, by omega⟩
  obtain ⟨n2, e2⟩ : ∃ n2 : Nat, ival c u = (n2 : Int) := ⟨(ival c u).toNat, by omega⟩
  have va := hp.valN
  have vb := hp.valD
  have vc := hq.valN
  have vd := hq.valD
  have z1 := hp.szN
  have z2 := hp.szD
  have z3 := hq.szN
  have z4 := hq.szD
  rw [e1] at va z1 p1
  rw [e2] at vc z3 p2
  rw [e1, e2] at l1
  have d1 := rden_pos t
  have d2 := rden_pos v
  obtain ⟨j, hj⟩ : ∃ j, s.size + (dvs t).size + u.size + (dvs v).size = j := ⟨_, rfl⟩
  have hjb : j ≤ 16000 := by have := hp.num; have := hp.dsz; have := hq.num; have := hq.dsz; omega
  have zj : ∀ (k : Nat) (x : Nat), k ≤ j → Sz k (x : Int) → x < 256 ^ j := fun k x hk hz => by
    have h1 : ((x : Nat) : Int).natAbs < 256 ^ k := hz
    rw [Int.natAbs_natCast] at h1
    exact Nat.lt_of_lt_of_le h1 (Nat.pow_le_pow_right (by omega) hk)
  have y1 := zj _ n1 (by omega) z1
  have y2 := zj _ (rden t) (by omega) z2
  have y3 := zj _ n2 (by omega) z3
  have y4 := zj _ (rden v) (by omega) z4
  have hM : n1 + rden t + n2 + rden v < 256 ^ (j + 1) := by rw [Nat.pow_succ]; omega
  have hl : n1 * rden v ≤ n2 * rden t := by
    have : ((n1 * rden v : Nat) : Int) ≤ ((n2 * rden t : Nat) : Int) := by rw [Int.natCast_mul, Int.natCast_mul]; exact l1
    omega
  obtain ⟨P, Q, hS⟩ := simple_ex _ n1 (rden t) n2 (rden v) (Nat.le_refl _) d1 d2 (by omega) hl
  have hls := hS.least n1 (rden t) d1 (Nat.le_refl _) hl
  obtain ⟨nP, sP, mP⟩ := nam_ex (P : Int)
  obtain ⟨nQ, sQ, mQ⟩ := nam_ex (Q : Int)
  have hQ0 := hS.q0
  obtain ⟨b1, s1, t1, m⟩ := rnam_ex (mkRat (P : Int) Q)
  have hx : p = mkRat (n1 : Int) (rden t) := by rw [← hp.val, ← e1]; rfl
  have hy : q = mkRat (n2 : Int) (rden v) := by rw [← hq.val, ← e2]; rfl
  have hrs : RSz (s.size + t.size + 1) (mkRat (P : Int) Q) := by
    have y5 : n1 < 256 ^ (s.size + t.size + 1) := Nat.lt_of_lt_of_le (show n1 < 256 ^ s.size by have h9 : ((n1 : Nat) : Int).natAbs < 256 ^ s.size := z1; rwa [Int.natAbs_natCast] at h9) (Nat.pow_le_pow_right (by omega) (by omega))
    have y6 : rden t < 256 ^ (s.size + t.size + 1) := Nat.lt_of_lt_of_le (show rden t < 256 ^ (dvs t).size by have h9 : ((rden t : Nat) : Int).natAbs < 256 ^ (dvs t).size := z2; rwa [Int.natAbs_natCast] at h9) (Nat.pow_le_pow_right (by omega) (by have := dvs_size t (t.size + 1) (by omega) (by omega); omega))
    exact rsz_mk _ _ _ hQ0 (by rw [Int.natAbs_natCast]; omega) (by omega)
  refine ⟨_, nP, nQ, b1, sP, sQ, s1, t1, by rw [hx, hy]; exact fewest_pos d1 d2 (by omega) hS, m, hrs,
    fun W => between_qt (M := n1 + rden t + n2 + rden v) (m := j + 1) va vb vc vd d1 d2 (by omega) hl hS (by omega) (by omega) (by omega) (by omega) hM (by omega) mP mQ W,
    fun W => number_qt (nam_of mP (by omega) hM (by omega)) (nam_of mQ (by omega) hM (by omega)) hQ0 m W⟩
/-- Simplest at an interval that is not empty. -/
theorem simplest_ex (hp : RVal b s t p) (hq : RVal c u v q) (hle : p ≤ q) (hsm : s.size + t.size + u.size + v.size ≤ 3000) : ∃ (x : Rat) (nx : Bool) (sx tx : ByteArray), Fewest p q x ∧ RNam nx sx tx x ∧ RSz (s.size + t.size + u.size + v.size + 1) x ∧
    ∀ W : World, Calls Tryz.prog 39 #[.agg #[.bool b, .string s, .string t], .agg #[.bool c, .string u, .string v]] W fun e w' => e = .returned (.tuple #[.agg #[.bool nx, .string sx, .string tx], .int .i64 0]) ∧ Below W.heap.size W w' := by
  have hn : ¬ 0 < cmpQ p q := by
    unfold cmpQ
    split
    · omega
    · rw [if_neg (Rat.not_lt.2 hle)]; omega
  by_cases h0 : 0 < p
  · have hk : 0 < cmpQ p 0 := by
      unfold cmpQ
      rw [if_neg (Rat.not_lt.2 (Rat.le_of_lt h0)), if_pos h0]; omega
    obtain ⟨x, nP, nQ, b1, sP, sQ, s1, t1, hf, m, hz, c5, c6⟩ := pos_core hp hq h0 hle
    exact ⟨x, b1, s1, t1, hf, m, hz.mono (by omega), fun W => simplest_pos b c s t u v (dvs t) (dvs v) nP nQ sP sQ b1 s1 t1 _ _ hn hk (fun W => cmp_q hp hq _ rfl W) (fun W => sign_q hp _ rfl W) (fun W => quotientOf_any b s t W (by have := hp.den; omega)) (fun W => quotientOf_any c u v W (by have := hq.den; omega)) c5 c6 W⟩
  · have hk : ¬ 0 < cmpQ p 0 := by
      unfold cmpQ
      rw [if_neg h0]
      split <;> omega
    by_cases h1 : q < 0
    · have hj : cmpQ q 0 < 0 := by unfold cmpQ; rw [if_pos h1]; omega
      obtain ⟨x, nP, nQ, b1, sP, sQ, s1, t1, hf, m, hz, c5, c6⟩ := pos_core hq.neg hp.neg (by grind) (by grind)
      have v1 : RVal b1 s1 t1 x := m.toVal hz (by omega)
      obtain ⟨nx, sx, tx, mx⟩ := rnam_ex (-x)
      refine ⟨-x, nx, sx, tx, by have := hf.neg; rwa [Rat.neg_neg, Rat.neg_neg] at this, mx, (rsz_neg hz).mono (by omega), fun W => ?_⟩
      exact simplest_neg b c s t u v (dvs t) (dvs v) sP sQ s1 t1 nP nQ b1 nx sx tx _ _ _ hn hk hj (fun W => cmp_q hp hq _ rfl W) (fun W => sign_q hp _ rfl W) (fun W => sign_q hq _ rfl W)
        (fun W => quotientOf_any (!c) u v W (by have := hq.den; omega)) (fun W => quotientOf_any (!b) s t W (by have := hp.den; omega)) c5 c6 (fun W => neg_q v1 rfl mx W) W
    · have hj : ¬ cmpQ q 0 < 0 := by
        unfold cmpQ
        rw [if_neg h1]
        split <;> omega
      have m0 : RNam false ⟨#[]⟩ ⟨#[]⟩ 0 := ⟨by decide +kernel, by decide +kernel, by decide +kernel⟩
      exact ⟨0, false, ⟨#[]⟩, ⟨#[]⟩, fewest_zero (Rat.not_lt.1 h0) (Rat.not_lt.1 h1), m0, ⟨Nat.pow_pos (by omega), Nat.one_lt_pow (by omega) (by omega)⟩,
        fun W => simplest_zero b c s t u v _ _ _ hn hk hj (fun W => cmp_q hp hq _ rfl W) (fun W => sign_q hp _ rfl W) (fun W => sign_q hq _ rfl W) W⟩
end
theorem simple_any (na nb : Bool) (sa ta sb tb : ByteArray) (w : World) (htab : Tab w) (ha : sa.size ≤ maxLen) (ga : ta.size ≤ maxLen) (hb : sb.size ≤ maxLen) (gb : tb.size ≤ maxLen) :
    Calls Tryz.prog 10 #[.agg #[.bool na, .string sa, .string ta], .agg #[.bool nb, .string sb, .string tb]] w fun e w' => e = .returned (.bool true) ∧ Below w.heap.size w w' := by
  unfold maxLen at ha ga hb gb
  have hsz : ∀ p ∈ ([(na, sa, ta), (nb, sb, tb)] : List (Bool × ByteArray × ByteArray)), p.2.1.size ≤ 9223372036854775807 ∧ p.2.2.size ≤ 9223372036854775807 := by
    intro p hp
    simp only [List.mem_cons, List.not_mem_nil, or_false] at hp
    rcases hp with rfl | rfl
    · exact ⟨by show sa.size ≤ _; omega, by show ta.size ≤ _; omega⟩
    · exact ⟨by show sb.size ≤ _; omega, by show tb.size ≤ _; omega⟩
  cases hg : ([(na, sa, ta), (nb, sb, tb)] : List (Bool × ByteArray × ByteArray)).any grt
  · have ha2 : sa.size ≤ 60 ∧ ta.size ≤ 60 := grt_false hg (na, sa, ta) (by simp)
    have hb2 : sb.size ≤ 60 ∧ tb.size ≤ 60 := grt_false hg (nb, sb, tb) (by simp)
    obtain ⟨k, p, q, hk1, hk2, vp, vq, zp, zq⟩ : ∃ (k : Nat) (p q : Rat), 1 ≤ k ∧ k ≤ 100 ∧ RVal na sa ta p ∧ RVal nb sb tb q ∧ RSz k p ∧ RSz k q :=
      ⟨60, _, _, by omega, by omega, ⟨rfl, by omega, by omega⟩, ⟨rfl, by omega, by omega⟩, rsz_rval na sa ta 60 ha2.1 ha2.2 (by omega), rsz_rval nb sb tb 60 hb2.1 hb2.2 (by omega)⟩
    by_cases hle : p ≤ q
    · obtain ⟨x, nx, sx, tx, hf, mx, zx, c1⟩ := simplest_ex vp vq hle (by omega)
      have vx := mx.toVal zx (by omega)
      have sz := mx.sizes zx
      have hd : Val false (dvs tx) (x.den : Int) := ⟨by obtain ⟨h3, h4⟩ := mx.namD; rw [← h3, ← h4]; exact ival_mg _, dvs_size tx 262144 (by omega) (by omega)⟩
      have cle : ∀ y z : Rat, y ≤ z → ¬ 0 < cmpQ y z := fun y z h => by
        unfold cmpQ
        rw [if_neg (Rat.not_lt.2 h)]
        split <;> omega
      refine simple_ok na nb sa ta sb tb nx nx sx tx sx (dvs tx) _ _ _ (cle p q hle) (cle p x hf.low) (cle x q hf.high) w htab hsz hg (fun W hW => awake_any W hW) c1 (fun W => cmp_q vp vq _ rfl W) (fun W => cmp_q vp vx _ rfl W) (fun W => cmp_q vx vq _ rfl W) (fun W => parts_q vx mx (by omega) W) (fun j hj1 hj2 => ?_)
      obtain ⟨nk, sk, mk⟩ := nam_ex (j : Int)
      have zj : RSz 1 ((j : Int) : Rat) := ⟨by rw [Rat.num_intCast, Int.natAbs_natCast]; omega, by rw [Rat.den_intCast]; omega⟩
      have vk := mk.val (k := 1) (show ((j : Nat) : Int).natAbs < _ by rw [Int.natAbs_natCast]; omega) (by omega)
      obtain ⟨nr, sr, tr, mr⟩ := rnam_ex ((j : Int) : Rat)
      have vr := mr.toVal zj (by omega)
      obtain ⟨ng, sg, tg, mg⟩ := rnam_ex (p * ((j : Int) : Rat))
      have zg := rsz_mul zp zj
      have vg := mg.toVal zg (by omega)
      obtain ⟨nc, sc, mc⟩ := nam_ex (-(-(p * ((j : Int) : Rat))).floor)
      have zc : Sz (k + 1) (-(-(p * ((j : Int) : Rat))).floor) := by
        have h1 : ((-(p * ((j : Int) : Rat))).num / ((-(p * ((j : Int) : Rat))).den : Int)).natAbs ≤ (-(p * ((j : Int) : Rat))).num.natAbs := Int.natAbs_ediv_le_natAbs _ _
        rw [← Rat.floor_def] at h1
        have h2 := (rsz_neg zg).1
        unfold Sz
        rw [Int.natAbs_neg]
        exact Nat.lt_of_le_of_lt h1 h2
      have vc := mc.val zc (by omega)
      obtain ⟨nh, sh, th, mh⟩ := rnam_ex ((-(-(p * ((j : Int) : Rat))).floor : Int) : Rat)
      have vh := mh.toVal (show RSz (k + 1) ((-(-(p * ((j : Int) : Rat))).floor : Int) : Rat) from ⟨by rw [Rat.num_intCast]; exact zc, by rw [Rat.den_intCast]; exact Nat.one_lt_pow (by omega) (by omega)⟩) (by omega)
      obtain ⟨ni, si, ti, mi⟩ := rnam_ex (q * ((j : Int) : Rat))
      have vi := mi.toVal (rsz_mul zq zj) (by omega)
      refine ⟨nk, nr, ng, nc, nh, ni, sk, sr, tr, sg, tg, sc, sh, th, si, ti, cmpZ (j : Int) (x.den : Int), _, fun hck => ?_, fun W => of_lit (j : Int) nk sk mk.sign mk.mag (by omega) (by omega) W, fun W => cmp_val vk hd _ rfl W, fun W => of_q (n := (j : Int)) (by omega) (by omega) rfl mr W, fun W => mul_q vp vr rfl mg W, fun W => ceil_q vg rfl mc W, fun W => whole_q vc mh W, fun W => mul_q vq vr rfl mi W, fun W => cmp_q vh vi _ rfl W⟩
      have hjd : j < x.den := by
        unfold cmpZ at hck
        split at hck
        · omega
        · split at hck <;> omega
      refine Classical.byContradiction fun hc => ?_
      have hm : ((-(-(p * ((j : Int) : Rat))).floor : Int) : Rat) ≤ q * ((j : Int) : Rat) := by
        refine Rat.not_lt.1 fun hlt => hc ?_
        unfold cmpQ
        rw [if_neg (by grind), if_pos hlt]; omega
      have hl : p * ((j : Int) : Rat) ≤ ((-(-(p * ((j : Int) : Rat))).floor : Int) : Rat) := by
        have := Rat.floor_le (-(p * ((j : Int) : Rat)))
        rw [Rat.intCast_neg]
        grind
      have := hf.least _ j (by omega) hl hm
      omega
    · have hn : 0 < cmpQ p q := by
        unfold cmpQ
        rw [if_neg (by grind), if_pos (Rat.not_le.1 hle)]; omega
      exact simple_err na nb sa ta sb tb _ hn w htab hsz hg (fun W hW => awake_any W hW) (fun W => simplest_err na nb sa ta sb tb _ hn (fun W => cmp_q vp vq _ rfl W) W) (fun W => cmp_q vp vq _ rfl W)
  · exact simple_great na nb sa ta sb tb w htab hsz hg (fun W hW => awake_any W hW)
end Go.Proofs.YtpdhffjdgnpikaaGreatDoor
