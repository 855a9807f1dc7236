/- The contract of rational.Simplest: an interval of positive numbers. -/
import Derived.Test.YtpdhffjdgnpikaaGreatDoorRatLaw
namespace Go.Proofs.YtpdhffjdgnpikaaGreatDoor
open Go.RowKit Go.Shelf

set_option maxHeartbeats 8000000 in
set_option maxRecDepth 100000 in
theorem simplest_pos (b c : Bool) (s t u v qa qb : ByteArray) (b3 b4 : Bool) (s3 s4 : ByteArray) (b' : Bool) (s' t' : ByteArray) (n k : Int) (hn : ¬ 0 < n) (hk : 0 < k)
    (c1 : ∀ W : World, Calls Tryz.prog 35 #[.agg #[.bool b, .string s, .string t], .agg #[.bool c, .string u, .string v]] W fun e w' => e = .returned (.int .i64 n) ∧ Below W.heap.size W w')
    (c2 : ∀ W : World, Calls Tryz.prog 37 #[.agg #[.bool b, .string s, .string t]] W fun e w' => e = .returned (.int .i64 k) ∧ Below W.heap.size W w')
    (c3 : ∀ W : World, Calls Tryz.prog 61 #[.agg #[.bool b, .string s, .string t]] W fun e w' => e = .returned (.agg #[.bool b, .string s, .bool false, .string qa]) ∧ Below W.heap.size W w')
    (c4 : ∀ W : World, Calls Tryz.prog 61 #[.agg #[.bool c, .string u, .string v]] W fun e w' => e = .returned (.agg #[.bool c, .string u, .bool false, .string qb]) ∧ Below W.heap.size W w')
    (c5 : ∀ W : World, Calls Tryz.prog 86 #[.agg #[.bool b, .string s, .bool false, .string qa], .agg #[.bool c, .string u, .bool false, .string qb]] W fun e w' => e = .returned (.agg #[.bool b3, .string s3, .bool b4, .string s4]) ∧ Below W.heap.size W w')
    (c6 : ∀ W : World, Calls Tryz.prog 73 #[.agg #[.bool b3, .string s3, .bool b4, .string s4]] W fun e w' => e = .returned (.agg #[.bool b', .string s', .string t']) ∧ Below W.heap.size W w') (w : World) :
    Calls Tryz.prog 39 #[.agg #[.bool b, .string s, .string t], .agg #[.bool c, .string u, .string v]] w fun e w' => e = .returned (.tuple #[.agg #[.bool b', .string s', .string t'], .int .i64 0]) ∧ Below w.heap.size w w' := by
  have R1 := Lib.hid c1
  have R2 := Lib.hid c2
  have R3 := Lib.hid c3
  have R4 := Lib.hid c4
  have R5 := Lib.hid c5
  have R6 := Lib.hid c6
  clear c1 c2 c3 c4 c5 c6
  have hn2 : n ≤ 0 := by omega
  go_enter Tryz.func39, Tryz.ntmps39
  go_wp2_with fail
  obtain ⟨W0, hW0⟩ : ∃ V, (((w.alloc (Obj.cells #[Value.bool b, Value.string s, Value.string t] 25)).alloc (Obj.cells #[Value.bool c, Value.string u, Value.string v] 25)).alloc (Obj.cells #[Value.bool false, Value.string ⟨#[]⟩, Value.string ⟨#[]⟩] 25)) = V := ⟨_, rfl⟩
  have sW0 : W0.heap.size = w.heap.size + 1 + 1 + 1 := by rw [← hW0]; simp
  have k0 : Cells (w.heap.size) [.bool b, .string s, .string t] W0 := by
    rw [← hW0]
    have h := cells_new w #[.bool b, .string s, .string t] 25
    exact ((h.alloc (by simp; try omega) _).alloc (by simp; try omega) _)
  have k1 : Cells (w.heap.size + 1) [.bool c, .string u, .string v] W0 := by
    rw [← hW0]
    have h := cells_new (w.alloc (Obj.cells #[Value.bool b, Value.string s, Value.string t] 25)) #[.bool c, .string u, .string v] 25
    simp only [World.size_alloc] at h
    exact (h.alloc (by simp; try omega) _)
  have k2 : Cells (w.heap.size + 1 + 1) [.bool false, .string ⟨#[]⟩, .string ⟨#[]⟩] W0 := by
    rw [← hW0]
    have h := cells_new ((w.alloc (Obj.cells #[Value.bool b, Value.string s, Value.string t] 25)).alloc (Obj.cells #[Value.bool c, Value.string u, Value.string v] 25)) #[.bool false, .string ⟨#[]⟩, .string ⟨#[]⟩] 25
    simp only [World.size_alloc] at h
    exact h
  have bW0 : Below w.heap.size w W0 := by
    rw [← hW0]
    exact ((((Below.refl _ _).alloc (Nat.le_refl _) _).alloc (by simp; try omega) _).alloc (by simp; try omega) _)
  rw [hW0]
  clear hW0
  have HS0 := Lib.hid (And.intro bW0 (And.intro k0 (And.intro k1 k2)))
  clear bW0 k0 k1 k2
  have l0 := (HS0.out.2.1).lt
  have m00 := (HS0.out.2.1 0 _ rfl).1
  have m01 := (HS0.out.2.1 1 _ rfl).1
  have m02 := (HS0.out.2.1 2 _ rfl).1
  have l1 := (HS0.out.2.2.1).lt
  have m10 := (HS0.out.2.2.1 0 _ rfl).1
  have m11 := (HS0.out.2.2.1 1 _ rfl).1
  have m12 := (HS0.out.2.2.1 2 _ rfl).1
  have l2 := (HS0.out.2.2.2).lt
  go_wp2_with fail
  clear l0 m00 m01 m02 l1 m10 m11 m12 l2
  refine (R1.out _).mono ?_
  rintro e w1 ⟨rfl, c⟩
  have f := HS0.out.1.trans (c.mono HS0.out.1.size)
  have t0 := (HS0.out.2.1).below c (HS0.out.2.1).lt
  have t1 := (HS0.out.2.2.1).below c (HS0.out.2.2.1).lt
  have t2 := (HS0.out.2.2.2).below c (HS0.out.2.2.2).lt
  have HS1 := Lib.hid (And.intro f (And.intro t0 (And.intro t1 t2)))
  clear c f t0 t1 t2
  have l0 := (HS1.out.2.1).lt
  have m00 := (HS1.out.2.1 0 _ rfl).1
  have m01 := (HS1.out.2.1 1 _ rfl).1
  have m02 := (HS1.out.2.1 2 _ rfl).1
  have l1 := (HS1.out.2.2.1).lt
  have l2 := (HS1.out.2.2.2).lt
  go_wp2_with fail
  clear l0 m00 m01 m02 l1 l2
  refine (R2.out _).mono ?_
  rintro e w2 ⟨rfl, c⟩
  have f := HS1.out.1.trans (c.mono HS1.out.1.size)
  have t0 := (HS1.out.2.1).below c (HS1.out.2.1).lt
  have t1 := (HS1.out.2.2.1).below c (HS1.out.2.2.1).lt
  have t2 := (HS1.out.2.2.2).below c (HS1.out.2.2.2).lt
  have HS2 := Lib.hid (And.intro f (And.intro t0 (And.intro t1 t2)))
  clear c f t0 t1 t2
  have l0 := (HS2.out.2.1).lt
  have m00 := (HS2.out.2.1 0 _ rfl).1
  have m01 := (HS2.out.2.1 1 _ rfl).1
  have m02 := (HS2.out.2.1 2 _ rfl).1
  have l1 := (HS2.out.2.2.1).lt
  have m10 := (HS2.out.2.2.1 0 _ rfl).1
  have m11 := (HS2.out.2.2.1 1 _ rfl).1
  have m12 := (HS2.out.2.2.1 2 _ rfl).1
  have l2 := (HS2.out.2.2.2).lt
  go_wp2_with fail
  have tok1 : True := trivial
  have tok2 : True := trivial
  have tok3 : True := trivial
  have tok4 : True := trivial
  have hRb : w.heap.size + 1 + 1 ≤ w2.heap.size := by omega
  go_region_held3 (fun w' => ∀ (a o : Nat), a < w.heap.size + 1 + 1 → w'.cell? ⟨a, o, none⟩ = w2.cell? ⟨a, o, none⟩) (first | with_reducible assumption | (intro _ _ _; rfl) | (repeat' (first | with_reducible assumption | with_reducible exact keepN_refl _ _ | with_reducible (refine keepN_drew ?_) | with_reducible (refine keepN_set ?_ ?_) | with_reducible (refine keepN_alloc ?_ ?_) | exact Nat.le_refl _ | omega | (intro _ _ _; rfl))))
    (first | (go_at_call 61; have _t := tok1; clear tok1; refine (R3.out _).mono ?_; rintro e u1 ⟨rfl, d1⟩; have E1 := Lib.hid (d1); have kS1 : ∀ (a o : Nat), a < w.heap.size + 1 + 1 → u1.cell? ⟨a, o, none⟩ = w2.cell? ⟨a, o, none⟩ := fun a o h => E1.out.cell (p := ⟨a, o, none⟩) (Nat.lt_of_lt_of_le h hRb); have hz1 : w2.heap.size ≤ u1.heap.size := E1.out.size; clear d1) | (go_at_call 61; have _t := tok2; clear tok2; refine (R4.out _).mono ?_; rintro e u2 ⟨rfl, d2⟩; have E2 := Lib.hid (E1.out.trans (d2.mono E1.out.size)); have kS2 : ∀ (a o : Nat), a < w.heap.size + 1 + 1 → u2.cell? ⟨a, o, none⟩ = w2.cell? ⟨a, o, none⟩ := fun a o h => E2.out.cell (p := ⟨a, o, none⟩) (Nat.lt_of_lt_of_le h hRb); have hz2 : w2.heap.size ≤ u2.heap.size := E2.out.size; clear d2) | (go_at_call 86; have _t := tok3; clear tok3; refine (R5.out _).mono ?_; rintro e u3 ⟨rfl, d3⟩; have E3 := Lib.hid (E2.out.trans (d3.mono E2.out.size)); have kS3 : ∀ (a o : Nat), a < w.heap.size + 1 + 1 → u3.cell? ⟨a, o, none⟩ = w2.cell? ⟨a, o, none⟩ := fun a o h => E3.out.cell (p := ⟨a, o, none⟩) (Nat.lt_of_lt_of_le h hRb); have hz3 : w2.heap.size ≤ u3.heap.size := E3.out.size; clear d3) | (go_at_call 73; have _t := tok4; clear tok4; refine (R6.out _).mono ?_; rintro e u4 ⟨rfl, d4⟩; have E4 := Lib.hid (E3.out.trans (d4.mono E3.out.size)); have kS4 : ∀ (a o : Nat), a < w.heap.size + 1 + 1 → u4.cell? ⟨a, o, none⟩ = w2.cell? ⟨a, o, none⟩ := fun a o h => E4.out.cell (p := ⟨a, o, none⟩) (Nat.lt_of_lt_of_le h hRb); have hz4 : w2.heap.size ≤ u4.heap.size := E4.out.size; clear d4; have kR := (show Cells _ _ w2.drew from HS2.out.2.2.2).below E4.out l2; obtain ⟨r00, r01⟩ := kR 0 _ rfl; obtain ⟨r10, r11⟩ := kR 1 _ rfl; obtain ⟨r20, r21⟩ := kR 2 _ rfl; clear kR))
  have kF0 := (show Cells _ _ w2.drew from HS2.out.2.2.2).below E4.out l2
  have kF1 := kF0.set (k := 0) (Value.bool b') _ rfl
  have kF2 := kF1.set (k := 1) (Value.string s') _ rfl
  have kF3 := kF2.set (k := 2) (Value.string t') _ rfl
  have y0 := (kF3 0 _ rfl).1
  have y1 := (kF3 1 _ rfl).1
  have y2 := (kF3 2 _ rfl).1
  have hbf := HS2.out.1.trans ((((Below.refl w2.heap.size w2).drew).trans E4.out).mono HS2.out.1.size)
  have hbg := (below_sets (below_sets (below_sets hbf (show w.heap.size ≤ w.heap.size + 1 + 1 by omega) 0 (Value.bool b')) (show w.heap.size ≤ w.heap.size + 1 + 1 by omega) 1 (Value.string s')) (show w.heap.size ≤ w.heap.size + 1 + 1 by omega) 2 (Value.string t'))
  have HBG := Lib.hid hbg
  clear hbg hbf kF0 kF1 kF2 kF3
  go_wp2_with fail
  refine bodyPost_ret (v := .tuple #[.agg #[.bool b', .string s', .string t'], .int .i64 0]) (by simp [results, Tryz.results39, go_sem, y0, y1, y2]) rfl ⟨rfl, HBG.out⟩

end Go.Proofs.YtpdhffjdgnpikaaGreatDoor
