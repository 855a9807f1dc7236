/- The contracts of rational.Sub and Quo; those of Mul, Sub, Quo by the values of numbers. -/
import Derived.Test.YtpdhffjdgnpikaaGreatDoorRatMulF
import Derived.Test.YtpdhffjdgnpikaaGreatDoorRatVal
namespace Go.Proofs.YtpdhffjdgnpikaaGreatDoor
open Go.RowKit Go.Shelf

set_option maxHeartbeats 4000000 in
set_option maxRecDepth 100000 in
theorem sub_walk (b c : Bool) (s t u v : ByteArray) (b' : Bool) (s' t' : ByteArray)
    (c2 : ∀ W : World, Calls Tryz.prog 29 #[.agg #[.bool b, .string s, .string t], .agg #[.bool (!c), .string u, .string v]] W fun e w' => e = .returned (.agg #[.bool b', .string s', .string t']) ∧ Below W.heap.size W w') (w : World) :
    Calls Tryz.prog 31 #[.agg #[.bool b, .string s, .string t], .agg #[.bool c, .string u, .string v]] w fun e w' => e = .returned (.agg #[.bool b', .string s', .string t']) ∧ Below w.heap.size w w' := by
  have R1 := Lib.hid (fun W => opposite_rat c u v W)
  have R2 := Lib.hid c2
  clear c2
  go_enter Tryz.func31, Tryz.ntmps31
  go_wp2_with fail
  obtain ⟨W0, hW0⟩ : ∃ V, (((w.alloc (Obj.cells #[Value.bool b, Value.string s, Value.string t] 25)).alloc (Obj.cells #[Value.bool c, Value.string u, Value.string v] 25)).alloc (Obj.cells #[Value.bool false, Value.string ⟨#[]⟩, Value.string ⟨#[]⟩] 25)) = V := ⟨_, rfl⟩
  have sW0 : W0.heap.size = w.heap.size + 1 + 1 + 1 := by rw [← hW0]; simp
  have k0 : Cells (w.heap.size) [.bool b, .string s, .string t] W0 := by
    rw [← hW0]
    have h := cells_new w #[.bool b, .string s, .string t] 25
    exact ((h.alloc (by simp; try omega) _).alloc (by simp; try omega) _)
  have k1 : Cells (w.heap.size + 1) [.bool c, .string u, .string v] W0 := by
    rw [← hW0]
    have h := cells_new (w.alloc (Obj.cells #[Value.bool b, Value.string s, Value.string t] 25)) #[.bool c, .string u, .string v] 25
    simp only [World.size_alloc] at h
    exact (h.alloc (by simp; try omega) _)
  have k2 : Cells (w.heap.size + 1 + 1) [.bool false, .string ⟨#[]⟩, .string ⟨#[]⟩] W0 := by
    rw [← hW0]
    have h := cells_new ((w.alloc (Obj.cells #[Value.bool b, Value.string s, Value.string t] 25)).alloc (Obj.cells #[Value.bool c, Value.string u, Value.string v] 25)) #[.bool false, .string ⟨#[]⟩, .string ⟨#[]⟩] 25
    simp only [World.size_alloc] at h
    exact h
  have bW0 : Below w.heap.size w W0 := by
    rw [← hW0]
    exact ((((Below.refl _ _).alloc (Nat.le_refl _) _).alloc (by simp; try omega) _).alloc (by simp; try omega) _)
  rw [hW0]
  clear hW0
  have l0 := k0.lt
  have m00 := (k0 0 _ rfl).1
  have m01 := (k0 1 _ rfl).1
  have m02 := (k0 2 _ rfl).1
  have l1 := k1.lt
  have m10 := (k1 0 _ rfl).1
  have m11 := (k1 1 _ rfl).1
  have m12 := (k1 2 _ rfl).1
  have l2 := k2.lt
  have HQ := Lib.hid (And.intro bW0 (And.intro k0 (And.intro k1 k2)))
  clear bW0 sW0 k0 k1 k2
  have tok1 : True := trivial
  have tok2 : True := trivial
  have hRb : w.heap.size + 1 + 1 ≤ W0.heap.size := by omega
  go_region_held3 (fun w' => ∀ (a o : Nat), a < w.heap.size + 1 + 1 → w'.cell? ⟨a, o, none⟩ = W0.cell? ⟨a, o, none⟩) (first | with_reducible assumption | (intro _ _ _; rfl) | (repeat' (first | with_reducible assumption | with_reducible exact keepN_refl _ _ | with_reducible (refine keepN_drew ?_) | with_reducible (refine keepN_set ?_ ?_) | with_reducible (refine keepN_alloc ?_ ?_) | exact Nat.le_refl _ | omega | (intro _ _ _; rfl))))
    (first | (go_at_call 66; have _t := tok1; clear tok1; refine (R1.out _).mono ?_; rintro e u1 ⟨rfl, d1⟩; have E1 := Lib.hid (d1); have kS1 : ∀ (a o : Nat), a < w.heap.size + 1 + 1 → u1.cell? ⟨a, o, none⟩ = W0.cell? ⟨a, o, none⟩ := fun a o h => E1.out.cell (p := ⟨a, o, none⟩) (Nat.lt_of_lt_of_le h hRb); have hz1 : W0.heap.size ≤ u1.heap.size := E1.out.size; clear d1) | (go_at_call 29; have _t := tok2; clear tok2; refine (R2.out _).mono ?_; rintro e u2 ⟨rfl, d2⟩; have E2 := Lib.hid (E1.out.trans (d2.mono E1.out.size)); have kS2 : ∀ (a o : Nat), a < w.heap.size + 1 + 1 → u2.cell? ⟨a, o, none⟩ = W0.cell? ⟨a, o, none⟩ := fun a o h => E2.out.cell (p := ⟨a, o, none⟩) (Nat.lt_of_lt_of_le h hRb); have hz2 : W0.heap.size ≤ u2.heap.size := E2.out.size; clear d2; have kR := (show Cells _ _ W0.drew from HQ.out.2.2.2).below E2.out l2; obtain ⟨r00, r01⟩ := kR 0 _ rfl; obtain ⟨r10, r11⟩ := kR 1 _ rfl; obtain ⟨r20, r21⟩ := kR 2 _ rfl; clear kR))
  have kF0 := (show Cells _ _ W0.drew from HQ.out.2.2.2).below E2.out l2
  have kF1 := kF0.set (k := 0) (Value.bool b') _ rfl
  have kF2 := kF1.set (k := 1) (Value.string s') _ rfl
  have kF3 := kF2.set (k := 2) (Value.string t') _ rfl
  have y0 := (kF3 0 _ rfl).1
  have y1 := (kF3 1 _ rfl).1
  have y2 := (kF3 2 _ rfl).1
  have hbf := HQ.out.1.trans ((((Below.refl W0.heap.size W0).drew).trans E2.out).mono HQ.out.1.size)
  have hbg := (below_sets (below_sets (below_sets hbf (show w.heap.size ≤ w.heap.size + 1 + 1 by omega) 0 (Value.bool b')) (show w.heap.size ≤ w.heap.size + 1 + 1 by omega) 1 (Value.string s')) (show w.heap.size ≤ w.heap.size + 1 + 1 by omega) 2 (Value.string t'))
  have HBG := Lib.hid hbg
  clear hbg hbf kF0 kF1 kF2 kF3
  go_wp2_with fail
  refine bodyPost_ret (v := .agg #[.bool b', .string s', .string t']) (by simp [results, Tryz.results31, go_sem, y0, y1, y2]) rfl ⟨rfl, HBG.out⟩

set_option maxHeartbeats 4000000 in
set_option maxRecDepth 100000 in
theorem quo_walk (b c : Bool) (s t u v : ByteArray) (d : ByteArray) (b' : Bool) (s' t' : ByteArray) (n : Int) (hn : ¬ n = 0)
    (c1 : ∀ W : World, Calls Tryz.prog 37 #[.agg #[.bool c, .string u, .string v]] W fun e w' => e = .returned (.int .i64 n) ∧ Below W.heap.size W w')
    (c2 : ∀ W : World, Calls Tryz.prog 65 #[.agg #[.bool c, .string u, .string v]] W fun e w' => e = .returned (.string d) ∧ Below W.heap.size W w')
    (c3 : ∀ W : World, Calls Tryz.prog 33 #[.agg #[.bool b, .string s, .string t], .agg #[.bool c, .string d, .string u]] W fun e w' => e = .returned (.agg #[.bool b', .string s', .string t']) ∧ Below W.heap.size W w')
    (w : World) : Calls Tryz.prog 25 #[.agg #[.bool b, .string s, .string t], .agg #[.bool c, .string u, .string v]] w fun e w' => e = .returned (.tuple #[.agg #[.bool b', .string s', .string t'], .int .i64 0]) ∧ Below w.heap.size w w' := by
  have R1 := Lib.hid c1
  have R2 := Lib.hid c2
  have R3 := Lib.hid c3
  clear c1 c2 c3
  go_enter Tryz.func25, Tryz.ntmps25
  go_wp2_with fail
  obtain ⟨W0, hW0⟩ : ∃ V, (((w.alloc (Obj.cells #[Value.bool b, Value.string s, Value.string t] 25)).alloc (Obj.cells #[Value.bool c, Value.string u, Value.string v] 25)).alloc (Obj.cells #[Value.bool false, Value.string ⟨#[]⟩, Value.string ⟨#[]⟩] 25)) = V := ⟨_, rfl⟩
  have sW0 : W0.heap.size = w.heap.size + 1 + 1 + 1 := by rw [← hW0]; simp
  have k0 : Cells (w.heap.size) [.bool b, .string s, .string t] W0 := by
    rw [← hW0]
    have h := cells_new w #[.bool b, .string s, .string t] 25
    exact ((h.alloc (by simp; try omega) _).alloc (by simp; try omega) _)
  have k1 : Cells (w.heap.size + 1) [.bool c, .string u, .string v] W0 := by
    rw [← hW0]
    have h := cells_new (w.alloc (Obj.cells #[Value.bool b, Value.string s, Value.string t] 25)) #[.bool c, .string u, .string v] 25
    simp only [World.size_alloc] at h
    exact (h.alloc (by simp; try omega) _)
  have k2 : Cells (w.heap.size + 1 + 1) [.bool false, .string ⟨#[]⟩, .string ⟨#[]⟩] W0 := by
    rw [← hW0]
    have h := cells_new ((w.alloc (Obj.cells #[Value.bool b, Value.string s, Value.string t] 25)).alloc (Obj.cells #[Value.bool c, Value.string u, Value.string v] 25)) #[.bool false, .string ⟨#[]⟩, .string ⟨#[]⟩] 25
    simp only [World.size_alloc] at h
    exact h
  have bW0 : Below w.heap.size w W0 := by
    rw [← hW0]
    exact ((((Below.refl _ _).alloc (Nat.le_refl _) _).alloc (by simp; try omega) _).alloc (by simp; try omega) _)
  rw [hW0]
  clear hW0
  have HS0 := Lib.hid (And.intro bW0 (And.intro k0 (And.intro k1 k2)))
  clear bW0 k0 k1 k2
  refine (R1.out _).mono ?_
  rintro e w1 ⟨rfl, c⟩
  have f := HS0.out.1.trans (c.mono HS0.out.1.size)
  have t0 := (HS0.out.2.1).below c (HS0.out.2.1).lt
  have t1 := (HS0.out.2.2.1).below c (HS0.out.2.2.1).lt
  have t2 := (HS0.out.2.2.2).below c (HS0.out.2.2.2).lt
  have HS1 := Lib.hid (And.intro f (And.intro t0 (And.intro t1 t2)))
  clear c f t0 t1 t2
  have l0 := (HS1.out.2.1).lt
  have m00 := (HS1.out.2.1 0 _ rfl).1
  have m01 := (HS1.out.2.1 1 _ rfl).1
  have m02 := (HS1.out.2.1 2 _ rfl).1
  have l1 := (HS1.out.2.2.1).lt
  have m10 := (HS1.out.2.2.1 0 _ rfl).1
  have m11 := (HS1.out.2.2.1 1 _ rfl).1
  have m12 := (HS1.out.2.2.1 2 _ rfl).1
  have l2 := (HS1.out.2.2.2).lt
  go_wp2_with fail
  have tok1 : True := trivial
  have tok2 : True := trivial
  have hRb : w.heap.size + 1 + 1 ≤ w1.heap.size := by omega
  go_region_held3 (fun w' => ∀ (a o : Nat), a < w.heap.size + 1 + 1 → w'.cell? ⟨a, o, none⟩ = w1.cell? ⟨a, o, none⟩) (first | with_reducible assumption | (intro _ _ _; rfl) | (repeat' (first | with_reducible assumption | with_reducible exact keepN_refl _ _ | with_reducible (refine keepN_drew ?_) | with_reducible (refine keepN_set ?_ ?_) | with_reducible (refine keepN_alloc ?_ ?_) | exact Nat.le_refl _ | omega | (intro _ _ _; rfl))))
    (first | (go_at_call 65; have _t := tok1; clear tok1; refine (R2.out _).mono ?_; rintro e u1 ⟨rfl, d1⟩; have E1 := Lib.hid (d1); have kS1 : ∀ (a o : Nat), a < w.heap.size + 1 + 1 → u1.cell? ⟨a, o, none⟩ = w1.cell? ⟨a, o, none⟩ := fun a o h => E1.out.cell (p := ⟨a, o, none⟩) (Nat.lt_of_lt_of_le h hRb); have hz1 : w1.heap.size ≤ u1.heap.size := E1.out.size; clear d1) | (go_at_call 33; have _t := tok2; clear tok2; refine (R3.out _).mono ?_; rintro e u2 ⟨rfl, d2⟩; have E2 := Lib.hid (E1.out.trans (d2.mono E1.out.size)); have kS2 : ∀ (a o : Nat), a < w.heap.size + 1 + 1 → u2.cell? ⟨a, o, none⟩ = w1.cell? ⟨a, o, none⟩ := fun a o h => E2.out.cell (p := ⟨a, o, none⟩) (Nat.lt_of_lt_of_le h hRb); have hz2 : w1.heap.size ≤ u2.heap.size := E2.out.size; clear d2; have kR := (show Cells _ _ w1.drew from HS1.out.2.2.2).below E2.out l2; obtain ⟨r00, r01⟩ := kR 0 _ rfl; obtain ⟨r10, r11⟩ := kR 1 _ rfl; obtain ⟨r20, r21⟩ := kR 2 _ rfl; clear kR))
  have kF0 := (show Cells _ _ w1.drew from HS1.out.2.2.2).below E2.out l2
  have kF1 := kF0.set (k := 0) (Value.bool b') _ rfl
  have kF2 := kF1.set (k := 1) (Value.string s') _ rfl
  have kF3 := kF2.set (k := 2) (Value.string t') _ rfl
  have y0 := (kF3 0 _ rfl).1
  have y1 := (kF3 1 _ rfl).1
  have y2 := (kF3 2 _ rfl).1
  have hbf := HS1.out.1.trans ((((Below.refl w1.heap.size w1).drew).trans E2.out).mono HS1.out.1.size)
  have hbg := (below_sets (below_sets (below_sets hbf (show w.heap.size ≤ w.heap.size + 1 + 1 by omega) 0 (Value.bool b')) (show w.heap.size ≤ w.heap.size + 1 + 1 by omega) 1 (Value.string s')) (show w.heap.size ≤ w.heap.size + 1 + 1 by omega) 2 (Value.string t'))
  have HBG := Lib.hid hbg
  clear hbg hbf kF0 kF1 kF2 kF3
  go_wp2_with fail
  refine bodyPost_ret (v := .tuple #[.agg #[.bool b', .string s', .string t'], .int .i64 0]) (by simp [results, Tryz.results25, go_sem, y0, y1, y2]) rfl ⟨rfl, HBG.out⟩

set_option maxHeartbeats 4000000 in
set_option maxRecDepth 100000 in
theorem quo_none (b c : Bool) (s t u v : ByteArray) (n : Int) (hn : n = 0)
    (c1 : ∀ W : World, Calls Tryz.prog 37 #[.agg #[.bool c, .string u, .string v]] W fun e w' => e = .returned (.int .i64 n) ∧ Below W.heap.size W w')
    (w : World) : Calls Tryz.prog 25 #[.agg #[.bool b, .string s, .string t], .agg #[.bool c, .string u, .string v]] w fun e w' => e = .returned (.tuple #[.agg #[.bool false, .string ⟨#[]⟩, .string ⟨#[]⟩], .int .i64 10]) ∧ Below w.heap.size w w' := by
  have R1 := Lib.hid c1
  clear c1
  subst hn
  go_enter Tryz.func25, Tryz.ntmps25
  go_wp2_with fail
  obtain ⟨W0, hW0⟩ : ∃ V, (((w.alloc (Obj.cells #[Value.bool b, Value.string s, Value.string t] 25)).alloc (Obj.cells #[Value.bool c, Value.string u, Value.string v] 25)).alloc (Obj.cells #[Value.bool false, Value.string ⟨#[]⟩, Value.string ⟨#[]⟩] 25)) = V := ⟨_, rfl⟩
  have sW0 : W0.heap.size = w.heap.size + 1 + 1 + 1 := by rw [← hW0]; simp
  have k0 : Cells (w.heap.size) [.bool b, .string s, .string t] W0 := by
    rw [← hW0]
    have h := cells_new w #[.bool b, .string s, .string t] 25
    exact ((h.alloc (by simp; try omega) _).alloc (by simp; try omega) _)
  have k1 : Cells (w.heap.size + 1) [.bool c, .string u, .string v] W0 := by
    rw [← hW0]
    have h := cells_new (w.alloc (Obj.cells #[Value.bool b, Value.string s, Value.string t] 25)) #[.bool c, .string u, .string v] 25
    simp only [World.size_alloc] at h
    exact (h.alloc (by simp; try omega) _)
  have k2 : Cells (w.heap.size + 1 + 1) [.bool false, .string ⟨#[]⟩, .string ⟨#[]⟩] W0 := by
    rw [← hW0]
    have h := cells_new ((w.alloc (Obj.cells #[Value.bool b, Value.string s, Value.string t] 25)).alloc (Obj.cells #[Value.bool c, Value.string u, Value.string v] 25)) #[.bool false, .string ⟨#[]⟩, .string ⟨#[]⟩] 25
    simp only [World.size_alloc] at h
    exact h
  have bW0 : Below w.heap.size w W0 := by
    rw [← hW0]
    exact ((((Below.refl _ _).alloc (Nat.le_refl _) _).alloc (by simp; try omega) _).alloc (by simp; try omega) _)
  rw [hW0]
  clear hW0
  have HS0 := Lib.hid (And.intro bW0 (And.intro k0 (And.intro k1 k2)))
  clear bW0 k0 k1 k2
  refine (R1.out _).mono ?_
  rintro e w1 ⟨rfl, c⟩
  have f := HS0.out.1.trans (c.mono HS0.out.1.size)
  have t0 := (HS0.out.2.1).below c (HS0.out.2.1).lt
  have t1 := (HS0.out.2.2.1).below c (HS0.out.2.2.1).lt
  have t2 := (HS0.out.2.2.2).below c (HS0.out.2.2.2).lt
  have HS1 := Lib.hid (And.intro f (And.intro t0 (And.intro t1 t2)))
  clear c f t0 t1 t2
  have l0 := (HS1.out.2.1).lt
  have l1 := (HS1.out.2.2.1).lt
  have l2 := (HS1.out.2.2.2).lt
  have m20 := (HS1.out.2.2.2 0 _ rfl).1
  have z20 := (HS1.out.2.2.2 0 _ rfl).2
  have m21 := (HS1.out.2.2.2 1 _ rfl).1
  have z21 := (HS1.out.2.2.2 1 _ rfl).2
  have m22 := (HS1.out.2.2.2 2 _ rfl).1
  have z22 := (HS1.out.2.2.2 2 _ rfl).2
  go_wp2_with fail
  clear l0 l1 l2 m20 z20 m21 z21 m22 z22
  obtain ⟨w2, hw2⟩ : ∃ V, (((w1.setCell ⟨w.heap.size + 1 + 1, 0, none⟩ (Value.bool false)).setCell ⟨w.heap.size + 1 + 1, 1, none⟩ (Value.string ⟨#[]⟩)).setCell ⟨w.heap.size + 1 + 1, 2, none⟩ (Value.string ⟨#[]⟩)) = V := ⟨_, rfl⟩
  have f : Below w.heap.size w w2 := by rw [← hw2]; exact (below_sets (below_sets (below_sets HS1.out.1 (by first | assumption | exact Nat.le_refl _ | omega) 0 (Value.bool false)) (by first | assumption | exact Nat.le_refl _ | omega) 1 (Value.string ⟨#[]⟩)) (by first | assumption | exact Nat.le_refl _ | omega) 2 (Value.string ⟨#[]⟩))
  have t0 : Cells (w.heap.size) [.bool b, .string s, .string t] w2 := by rw [← hw2]; exact ((((((HS1.out.2.1).other (by omega))).other (by omega))).other (by omega))
  have t1 : Cells (w.heap.size + 1) [.bool c, .string u, .string v] w2 := by rw [← hw2]; exact ((((((HS1.out.2.2.1).other (by omega))).other (by omega))).other (by omega))
  have t2 : Cells (w.heap.size + 1 + 1) [.bool false, .string ⟨#[]⟩, .string ⟨#[]⟩] w2 := by rw [← hw2]; exact ((((((HS1.out.2.2.2).set (k := 0) (Value.bool false) _ rfl)).set (k := 1) (Value.string ⟨#[]⟩) _ rfl)).set (k := 2) (Value.string ⟨#[]⟩) _ rfl)
  have HS2 := Lib.hid (And.intro f (And.intro t0 (And.intro t1 t2)))
  rw [hw2]
  clear hw2 f t0 t1 t2
  have y0 := (HS2.out.2.2.2 0 _ rfl).1
  have y1 := (HS2.out.2.2.2 1 _ rfl).1
  have y2 := (HS2.out.2.2.2 2 _ rfl).1
  refine bodyPost_ret (v := .tuple #[.agg #[.bool false, .string ⟨#[]⟩, .string ⟨#[]⟩], .int .i64 10]) (by simp [results, Tryz.results25, go_sem, y0, y1, y2]) rfl ⟨rfl, HS2.out.1⟩


section
variable {b c b' : Bool} {s t u v s' t' : ByteArray} {p q z : Rat}
theorem mul_q (hp : RVal b s t p) (hq : RVal c u v q) (he : p * q = z) (m : RNam b' s' t' z) (w : World) :
    Calls Tryz.prog 33 #[.agg #[.bool b, .string s, .string t], .agg #[.bool c, .string u, .string v]] w fun e w' => e = .returned (.agg #[.bool b', .string s', .string t']) ∧ Below w.heap.size w w' := by
  obtain ⟨n1, d1, a1, a2, a3, a4, hv1, C1⟩ := fractionOf_ex b s t
  obtain ⟨n2, d2, b1, b2, b3, b4, hv2, C2⟩ := fractionOf_ex c u v
  obtain ⟨o1, h1, F1⟩ := fits_ex n1 n2 a1 a2 b1 b2
  obtain ⟨o2, h2, F2⟩ := fits_ex d1 d2 (by omega) a4 (by omega) b4
  have hz : z = mkRat (ival b s * ival c u) (rden t * rden v) := by rw [← he, ← hp.val, ← hq.val]; exact Rat.mkRat_mul_mkRat _ _ _ _
  subst hz
  refine mul_walk b c s t u v n1 d1 n2 d2 o1 o2 b' s' t' C1 C2 F1 F2 (fun e1 e2 X Y W hX hY => ?_) (fun A B W hA hB => ?_) w
  · have k1 := h1 e1
    have k2 := h2 e2
    obtain ⟨rfl, rfl⟩ : n1 = ival b s ∧ d1 = (rden t : Int) := hv1.resolve_right (by omega)
    obtain ⟨rfl, rfl⟩ : n2 = ival c u ∧ d2 = (rden v : Int) := hv2.resolve_right (by omega)
    have e : (rden t : Int) * (rden v : Int) = ((rden t * rden v : Nat) : Int) := (Int.natCast_mul _ _).symm
    have hd : rden t * rden v < 4611686018427387904 := k2.1
    have hn : (ival b s * ival c u).natAbs < 4611686018427387904 := by rw [Int.natAbs_mul]; exact k1.1
    refine mul1_any X Y _ _ _ _ (ival b s * ival c u) ((rden t * rden v : Nat) : Int) b' s' t' W hX hY (i64_in _ (by omega) (by omega)) (by rw [e]; exact i64_in _ (by omega) (by omega)) (fun W => ?_)
    exact fnumber_any _ _ (by omega) (by omega) (Nat.mul_pos (rden_pos t) (rden_pos v)) (by omega) m W
  · obtain ⟨x3, y3, m3⟩ := nam_ex (ival b s * ival c u)
    obtain ⟨x4, y4, m4⟩ := nam_ex ((rden t : Int) * (rden v : Int))
    have v3 := m3.val (hp.szN.mul hq.szN) (by have := hp.num; have := hq.num; omega)
    have v4 := m4.val (hp.szD.mul hq.szD) (by have := hp.dsz; have := hq.dsz; omega)
    rw [← Int.natCast_mul] at v4
    exact mul2_any A B b c s t u v (dvs t) (dvs v) x3 x4 y3 y4 b' s' t' W hA hB (fun W => quotientOf_any b s t W (by have := hp.den; omega)) (fun W => quotientOf_any c u v W (by have := hq.den; omega)) (fun W => times_qt hp.valN hp.valD hq.valN hq.valD m3 m4 W) (fun W => number_qt v3 v4 (Nat.mul_pos (rden_pos t) (rden_pos v)) m W)
theorem sub_q (hp : RVal b s t p) (hq : RVal c u v q) (he : p - q = z) (m : RNam b' s' t' z) (w : World) :
    Calls Tryz.prog 31 #[.agg #[.bool b, .string s, .string t], .agg #[.bool c, .string u, .string v]] w fun e w' => e = .returned (.agg #[.bool b', .string s', .string t']) ∧ Below w.heap.size w w' := by
  exact sub_walk b c s t u v b' s' t' (fun W => add_q hp hq.neg (by rw [← he, Rat.sub_eq_add_neg]) m W) w
theorem cmpQ_eq0 : cmpQ q 0 = 0 ↔ q = 0 := by
  unfold cmpQ
  split
  · rename_i h
    refine ⟨fun e => by omega, fun e => ?_⟩
    subst e; exact absurd h (Rat.lt_irrefl)
  · split
    · rename_i h
      refine ⟨fun e => by omega, fun e => ?_⟩
      subst e; exact absurd h (Rat.lt_irrefl)
    · rename_i h1 h2
      refine ⟨fun _ => Rat.le_antisymm (Rat.not_lt.1 h2) (Rat.not_lt.1 h1), fun _ => rfl⟩
theorem RVal.inv (hq : RVal c u v q) (h0 : q ≠ 0) : RVal c (dvs v) u q⁻¹ := by
  refine ⟨?_, hq.dsz, hq.num⟩
  have h1 : rval c (dvs v) u * q = 1 := by
    have hu : beVal u.data.toList ≠ 0 := by
      intro e
      apply h0
      rw [← hq.val]
      unfold rval
      rw [show ival c u = 0 by have := ival_abs c u; omega, Rat.zero_mkRat]
    have hr : (rden u : Int) = (ival false u) := by
      unfold rden ival
      rw [if_neg hu]; rfl
    have hm : ival c (dvs v) * ival c u = ((rden u * rden v : Nat) : Int) := by
      rw [Int.natCast_mul, hr, ← dvs_val v]
      cases c
      · exact Int.mul_comm _ _
      · have e1 : ∀ x : ByteArray, ival true x = -ival false x := fun x => ival_not false x
        rw [e1, e1, Int.neg_mul_neg, Int.mul_comm]
    rw [← hq.val]
    unfold rval
    rw [Rat.mkRat_mul_mkRat, hm]
    have hp := Nat.mul_pos (rden_pos u) (rden_pos v)
    generalize rden u * rden v = k at *
    rw [show (1 : Rat) = mkRat 1 1 from rfl]
    exact (Rat.mkRat_eq_iff (by omega) (by omega)).2 (by simp)
  calc rval c (dvs v) u = rval c (dvs v) u * q * q⁻¹ := by rw [Rat.mul_assoc, Rat.mul_inv_cancel q h0, Rat.mul_one]
    _ = q⁻¹ := by rw [h1, Rat.one_mul]
theorem quo_q (hp : RVal b s t p) (hq : RVal c u v q) (h0 : q ≠ 0) (he : p / q = z) (m : RNam b' s' t' z) (w : World) :
    Calls Tryz.prog 25 #[.agg #[.bool b, .string s, .string t], .agg #[.bool c, .string u, .string v]] w fun e w' => e = .returned (.tuple #[.agg #[.bool b', .string s', .string t'], .int .i64 0]) ∧ Below w.heap.size w w' := by
  exact quo_walk b c s t u v (dvs v) b' s' t' (cmpQ q 0) (fun e => h0 (cmpQ_eq0.1 e)) (fun W => sign_q hq _ rfl W) (fun W => divisor_any c u v W (by have := hq.den; omega)) (fun W => mul_q hp (hq.inv h0) (by rw [← he, Rat.div_def]) m W) w
theorem quo_q0 (hq : RVal c u v q) (h0 : q = 0) (w : World) :
    Calls Tryz.prog 25 #[.agg #[.bool b, .string s, .string t], .agg #[.bool c, .string u, .string v]] w fun e w' => e = .returned (.tuple #[.agg #[.bool false, .string ⟨#[]⟩, .string ⟨#[]⟩], .int .i64 10]) ∧ Below w.heap.size w w' := by
  exact quo_none b c s t u v (cmpQ q 0) (cmpQ_eq0.2 h0) (fun W => sign_q hq _ rfl W) w
end
end Go.Proofs.YtpdhffjdgnpikaaGreatDoor
