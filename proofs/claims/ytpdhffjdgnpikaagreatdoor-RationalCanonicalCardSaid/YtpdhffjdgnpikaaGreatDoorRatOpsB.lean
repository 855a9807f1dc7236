/- The contracts of rational.New at 0 and of Check. -/
import Derived.Test.YtpdhffjdgnpikaaGreatDoorRatVal2
import Derived.Test.YtpdhffjdgnpikaaGreatDoorRatEq
namespace Go.Proofs.YtpdhffjdgnpikaaGreatDoor
open Go.RowKit Go.Shelf

theorem neq_ratC (n n' : Bool) (s s' t t' : ByteArray) (w : World) :
  (binOp .neq 25 (.agg #[.bool n, .string s, .string t]) (.agg #[.bool n', .string s', .string t'])).run Tryz.prog w = .ok (.bool (!eqR n s t n' s' t')) w := by
 rw [run_neq_struct, eqIn_rat]; rfl
set_option maxHeartbeats 2000000 in
set_option maxRecDepth 100000 in
theorem new_zero (b c : Bool) (s t : ByteArray) (ht : t.size ≤ 262144) (h0 : beVal t.data.toList = 0) (w : World) :
  Calls Tryz.prog 17 #[.agg #[.bool b, .string s], .agg #[.bool c, .string t]] w fun e w' => e = .returned (.tuple #[.agg #[.bool false, .string ⟨#[]⟩, .string ⟨#[]⟩], .int .i64 10]) ∧ Below w.heap.size w w' := by
 have R1 := Lib.hid (fun W => bits_any c t W (by omega))
 have hk : bl (beVal t.data.toList) = 0 := by rw [h0]; rfl
 rw [hk] at R1
 clear hk
 go_enter Tryz.func17, Tryz.ntmps17
 go_wp2_with fail
 obtain ⟨W0, hW0⟩ : ∃ V, (((w.alloc (Obj.cells #[Value.bool b, Value.string s] 23)).alloc (Obj.cells #[Value.bool c, Value.string t] 23)).alloc (Obj.cells #[Value.bool false, Value.string ⟨#[]⟩, Value.string ⟨#[]⟩] 25)) = V := ⟨_, rfl⟩
 have sW0 : W0.heap.size = w.heap.size + 1 + 1 + 1 := by rw [← hW0]; simp
 have k0 : Cells (w.heap.size) [.bool b, .string s] W0 := by
  rw [← hW0]
  have h := cells_new w #[.bool b, .string s] 23
  exact ((h.alloc (by simp; try omega) _).alloc (by simp; try omega) _)
 have k1 : Cells (w.heap.size + 1) [.bool c, .string t] W0 := by
  rw [← hW0]
  have h := cells_new (w.alloc (Obj.cells #[Value.bool b, Value.string s] 23)) #[.bool c, .string t] 23
  simp only [World.size_alloc] at h
  exact (h.alloc (by simp; try omega) _)
 have k2 : Cells (w.heap.size + 1 + 1) [.bool false, .string ⟨#[]⟩, .string ⟨#[]⟩] W0 := by
  rw [← hW0]
  have h := cells_new ((w.alloc (Obj.cells #[Value.bool b, Value.string s] 23)).alloc (Obj.cells #[Value.bool c, Value.string t] 23)) #[.bool false, .string ⟨#[]⟩, .string ⟨#[]⟩] 25
  simp only [World.size_alloc] at h
  exact h
 have bW0 : Below w.heap.size w W0 := by
  rw [← hW0]
  exact ((((Below.refl _ _).alloc (Nat.le_refl _) _).alloc (by simp; try omega) _).alloc (by simp; try omega) _)
 rw [hW0]
 clear hW0
 have HS0 := Lib.hid (And.intro bW0 (And.intro k0 (And.intro k1 k2)))
 clear bW0 k0 k1 k2
 refine (R1.out _).mono ?_
 rintro e w1 ⟨rfl, c⟩
 have f := HS0.out.1.trans (c.mono HS0.out.1.size)
 have t0 := (HS0.out.2.1).below c (HS0.out.2.1).lt
 have t1 := (HS0.out.2.2.1).below c (HS0.out.2.2.1).lt
 have t2 := (HS0.out.2.2.2).below c (HS0.out.2.2.2).lt
 have HS1 := Lib.hid (And.intro f (And.intro t0 (And.intro t1 t2)))
 clear c f t0 t1 t2
 have l0 := (HS1.out.2.1).lt
 have l1 := (HS1.out.2.2.1).lt
 have l2 := (HS1.out.2.2.2).lt
 have m20 := (HS1.out.2.2.2 0 _ rfl).1
 have z20 := (HS1.out.2.2.2 0 _ rfl).2
 have m21 := (HS1.out.2.2.2 1 _ rfl).1
 have z21 := (HS1.out.2.2.2 1 _ rfl).2
 have m22 := (HS1.out.2.2.2 2 _ rfl).1
 have z22 := (HS1.out.2.2.2 2 _ rfl).2
 go_wp2_with fail
 clear l0 l1 l2 m20 z20 m21 z21 m22 z22
 obtain ⟨w2, hw2⟩ : ∃ V, (((w1.setCell ⟨w.heap.size + 1 + 1, 0, none⟩ (Value.bool false)).setCell ⟨w.heap.size + 1 + 1, 1, none⟩ (Value.string ⟨#[]⟩)).setCell ⟨w.heap.size + 1 + 1, 2, none⟩ (Value.string ⟨#[]⟩)) = V := ⟨_, rfl⟩
 have f : Below w.heap.size w w2 := by rw [← hw2]; exact (below_sets (below_sets (below_sets HS1.out.1 (by first | assumption | exact Nat.le_refl _ | omega) 0 (Value.bool false)) (by first | assumption | exact Nat.le_refl _ | omega) 1 (Value.string ⟨#[]⟩)) (by first | assumption | exact Nat.le_refl _ | omega) 2 (Value.string ⟨#[]⟩))
 have t0 : Cells (w.heap.size) [.bool b, .string s] w2 := by rw [← hw2]; exact ((((((HS1.out.2.1).other (by omega))).other (by omega))).other (by omega))
 have t1 : Cells (w.heap.size + 1) [.bool c, .string t] w2 := by rw [← hw2]; exact ((((((HS1.out.2.2.1).other (by omega))).other (by omega))).other (by omega))
 have t2 : Cells (w.heap.size + 1 + 1) [.bool false, .string ⟨#[]⟩, .string ⟨#[]⟩] w2 := by rw [← hw2]; exact ((((((HS1.out.2.2.2).set (k := 0) (Value.bool false) _ rfl)).set (k := 1) (Value.string ⟨#[]⟩) _ rfl)).set (k := 2) (Value.string ⟨#[]⟩) _ rfl)
 have HS2 := Lib.hid (And.intro f (And.intro t0 (And.intro t1 t2)))
 rw [hw2]
 clear hw2 f t0 t1 t2
 have y0 := (HS2.out.2.2.2 0 _ rfl).1
 have y1 := (HS2.out.2.2.2 1 _ rfl).1
 have y2 := (HS2.out.2.2.2 2 _ rfl).1
 refine bodyPost_ret (v := .tuple #[.agg #[.bool false, .string ⟨#[]⟩, .string ⟨#[]⟩], .int .i64 10]) (by simp [results, Tryz.results17, go_sem, y0, y1, y2]) rfl ⟨rfl, HS2.out.1⟩

set_option maxHeartbeats 2000000 in
set_option maxRecDepth 100000 in
theorem check_rat (b : Bool) (s t : ByteArray) (b' : Bool) (s' t' : ByteArray) (hs : s.size ≤ 262144) (ht : t.size ≤ 262144) (m : RNam b' s' t' (rval b s t)) (w : World) :
  Calls Tryz.prog 23 #[.agg #[.bool b, .string s, .string t]] w fun e w' => e = .returned (.int .i64 (if eqR b s t b' s' t' = true then 0 else 1)) ∧ Below w.heap.size w w' := by
 have R1 := Lib.hid (fun W => ratcan_any b s t b' s' t' hs ht m W)
 have q1 := eql_rat
 have q2 := neq_ratC
 have q3 := guard_rat
 obtain ⟨v, hv⟩ : ∃ v, eqR b s t b' s' t' = v := ⟨_, rfl⟩
 rw [hv]
 clear m
 go_enter Tryz.func23, Tryz.ntmps23
 go_wp2_with fail
 obtain ⟨W0, hW0⟩ : ∃ V, (w.alloc (Obj.cells #[Value.bool b, Value.string s, Value.string t] 25)) = V := ⟨_, rfl⟩
 have sW0 : W0.heap.size = w.heap.size + 1 := by rw [← hW0]; simp
 have k0 : Cells (w.heap.size) [.bool b, .string s, .string t] W0 := by
  rw [← hW0]
  have h := cells_new w #[.bool b, .string s, .string t] 25
  exact h
 have bW0 : Below w.heap.size w W0 := by
  rw [← hW0]
  exact ((Below.refl _ _).alloc (Nat.le_refl _) _)
 rw [hW0]
 clear hW0
 have l0 := k0.lt
 have m00 := (k0 0 _ rfl).1
 have m01 := (k0 1 _ rfl).1
 have m02 := (k0 2 _ rfl).1
 have HS0 := Lib.hid (And.intro bW0 k0)
 clear bW0 k0
 have tok1 : True := trivial
 have hRb : w.heap.size + 1 ≤ W0.heap.size := by omega
 go_region_held3 (fun w' => ∀ (a o : Nat), a < w.heap.size + 1 → w'.cell? ⟨a, o, none⟩ = W0.cell? ⟨a, o, none⟩) (first | with_reducible assumption | (intro _ _ _; rfl) | (repeat' (first | with_reducible assumption | with_reducible exact keepN_refl _ _ | with_reducible (refine keepN_drew ?_) | with_reducible (refine keepN_set ?_ ?_) | with_reducible (refine keepN_alloc ?_ ?_) | exact Nat.le_refl _ | omega | (intro _ _ _; rfl))))
  (first | (go_at_call 58; have _t := tok1; clear tok1; refine (R1.out _).mono ?_; rintro e u1 ⟨rfl, d1⟩; have E1 := Lib.hid (d1); have kS1 : ∀ (a o : Nat), a < w.heap.size + 1 → u1.cell? ⟨a, o, none⟩ = W0.cell? ⟨a, o, none⟩ := fun a o h => E1.out.cell (p := ⟨a, o, none⟩) (Nat.lt_of_lt_of_le h hRb); have hz1 : W0.heap.size ≤ u1.heap.size := E1.out.size; clear d1))
 cases v
 ·go_wp2_with fail
  go_ret
  exact ⟨rfl, HS0.out.1.trans ((((Below.refl W0.heap.size W0).drew).trans E1.out).mono HS0.out.1.size)⟩
 ·go_wp2_with fail
  go_ret
  exact ⟨rfl, HS0.out.1.trans ((((Below.refl W0.heap.size W0).drew).trans E1.out).mono HS0.out.1.size)⟩

section
variable {b c b' bq : Bool} {s t u v s' t' sq : ByteArray} {p q z : Rat} {f n d : Int}
theorem new_q0 (hd : Val c t 0) (w : World) :
  Calls Tryz.prog 17 #[.agg #[.bool b, .string s], .agg #[.bool c, .string t]] w fun e w' => e = .returned (.tuple #[.agg #[.bool false, .string ⟨#[]⟩, .string ⟨#[]⟩], .int .i64 10]) ∧ Below w.heap.size w w' := by
 have hb : beVal t.data.toList = 0 := by have := ival_abs c t; rw [hd.val] at this; omega
 exact new_zero b c s t hd.small hb w
theorem check_q (hp : RVal b s t p) (m : RNam b' s' t' p) (w : World) :
  Calls Tryz.prog 23 #[.agg #[.bool b, .string s, .string t]] w fun e w' => e = .returned (.int .i64 (if eqR b s t b' s' t' = true then 0 else 1)) ∧ Below w.heap.size w w' :=
 check_rat b s t b' s' t' (by have := hp.num; omega) (by have := hp.den; omega) (by rw [hp.val]; exact m) w
end
end Go.Proofs.YtpdhffjdgnpikaaGreatDoor
