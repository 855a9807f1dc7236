/- The contract of the reference's Div. -/
import Derived.Test.YtajollhpimfefaaGreatDoorRDvA
import Derived.Test.YtajollhpimfefaaGreatDoorRDvB
import Derived.Test.YtajollhpimfefaaGreatDoorRDvC
import Derived.Test.YtajollhpimfefaaGreatDoorRDvD
import Derived.Test.YtajollhpimfefaaGreatDoorRDvE
import Derived.Test.YtajollhpimfefaaGreatDoorRDvG
namespace Go.Proofs.YtajollhpimfefaaGreatDoor
open Go.RowKit Go.Shelf

theorem rdiv_val (na nb : Bool) (sa sb : ByteArray) (w : World) (ha : sa.size ≤ 100) (hb : sb.size ≤ 100) (hy0 : ival nb sb ≠ 0) {q r : Int} {bq br : Bool} {sq sr : ByteArray} (hd : IsDiv (ival na sa) (ival nb sb) q r) (h3 : Nam bq sq q) (h4 : Nam br sr r) :
  Calls Tryz.prog 35 #[.agg #[.bool na, .string sa], .agg #[.bool nb, .string sb]] w fun e w' => e = .returned (.tuple #[.agg #[.bool bq, .string sq], .agg #[.bool br, .string sr], .int .i64 0]) ∧ Below w.heap.size w w' := by
 cases hs : ng (ival na sa) <;> cases ht : ng (ival nb sb)
 ·exact rdiv_pp na nb sa sb w ha hb hs ht hy0 hd h3 h4
 ·by_cases hrz : (ival na sa).natAbs % (ival nb sb).natAbs = 0
  ·exact rdiv_pnz na nb sa sb w ha hb hs ht hy0 hrz hd h3 h4
  ·exact rdiv_pnn na nb sa sb w ha hb hs ht hy0 hrz hd h3 h4
 ·by_cases hrz : (ival na sa).natAbs % (ival nb sb).natAbs = 0
  ·exact rdiv_npz na nb sa sb w ha hb hs ht hy0 hrz hd h3 h4
  ·exact rdiv_npn na nb sa sb w ha hb hs ht hy0 hrz hd h3 h4
 ·exact rdiv_nn na nb sa sb w ha hb hs ht hy0 hd h3 h4

set_option maxHeartbeats 8000000 in
set_option maxRecDepth 100000 in
/-- Div at the divisor 0. -/
theorem rdiv_zero (na nb : Bool) (sa sb : ByteArray) (w : World) (hy0 : ival nb sb = 0) :
  Calls Tryz.prog 35 #[.agg #[.bool na, .string sa], .agg #[.bool nb, .string sb]] w fun e w' => e = .returned (.tuple #[.agg #[.bool false, .string ⟨#[]⟩], .agg #[.bool false, .string ⟨#[]⟩], .int .i64 10]) ∧ Below w.heap.size w w' := by
 obtain ⟨bx, sx, nX⟩ := nam_ex (ival na sa)
 have nY : Nam false ⟨#[]⟩ (ival nb sb) := by rw [hy0]; exact ⟨rfl, rfl⟩
 have CA := Lib.hid (fun W => rcan_val (bx := na) (sx := sa) rfl nX W)
 have CB := Lib.hid (fun W => rcan_val (bx := nb) (sx := sb) rfl nY W)
 have hYe : (⟨#[]⟩ : ByteArray).toList.isEmpty = true := (nam_empty nY).trans (decide_eq_true hy0)
 clear hy0 nX nY
 go_enter Tryz.func35, Tryz.ntmps35
 go_upto_region 1 with fail
 obtain ⟨W0, hW0⟩ : ∃ W0, ((((w.alloc (Obj.cells #[Value.bool na, Value.string sa] 23)).alloc (Obj.cells #[Value.bool nb, Value.string sb] 23)).alloc (Obj.cells #[Value.bool false, Value.string ⟨#[]⟩] 23)).alloc (Obj.cells #[Value.bool false, Value.string ⟨#[]⟩] 23)) = W0 := ⟨_, rfl⟩
 have hs0 : W0.heap.size = w.heap.size + 1 + 1 + 1 + 1 := by rw [← hW0]; simp
 have t0 : Two (w.heap.size) (.bool na) (.string sa) W0 := by
  rw [← hW0]
  have h := two_new w (.bool na) (.string sa) 23
  (try simp only [World.size_alloc] at h)
  exact h.below (B0 := w.heap.size + 1) ((((Below.refl _ _).alloc (by simp) _).alloc (by simp) _).alloc (by simp) _) (by omega)
 have t1 : Two (w.heap.size + 1) (.bool nb) (.string sb) W0 := by
  rw [← hW0]
  have h := two_new (w.alloc (Obj.cells #[Value.bool na, Value.string sa] 23)) (.bool nb) (.string sb) 23
  (try simp only [World.size_alloc] at h)
  exact h.below (B0 := w.heap.size + 1 + 1) (((Below.refl _ _).alloc (by simp) _).alloc (by simp) _) (by omega)
 have t2 : Two (w.heap.size + 1 + 1) (.bool false) (.string ⟨#[]⟩) W0 := by
  rw [← hW0]
  have h := two_new ((w.alloc (Obj.cells #[Value.bool na, Value.string sa] 23)).alloc (Obj.cells #[Value.bool nb, Value.string sb] 23)) (.bool false) (.string ⟨#[]⟩) 23
  (try simp only [World.size_alloc] at h)
  exact h.below (B0 := w.heap.size + 1 + 1 + 1) ((Below.refl _ _).alloc (by simp) _) (by omega)
 have t3 : Two (w.heap.size + 1 + 1 + 1) (.bool false) (.string ⟨#[]⟩) W0 := by
  rw [← hW0]
  have h := two_new (((w.alloc (Obj.cells #[Value.bool na, Value.string sa] 23)).alloc (Obj.cells #[Value.bool nb, Value.string sb] 23)).alloc (Obj.cells #[Value.bool false, Value.string ⟨#[]⟩] 23)) (.bool false) (.string ⟨#[]⟩) 23
  (try simp only [World.size_alloc] at h)
  exact h
 have f : Below w.heap.size w W0 := by
  rw [← hW0]
  exact ((((Below.refl _ _).alloc (Nat.le_refl _) _).alloc (by simp) _).alloc (by simp; omega) _).alloc (by simp; omega) _
 rw [hW0]
 have HQ := Lib.hid (And.intro f (And.intro t0 (And.intro t1 (And.intro t2 t3))))
 have q1 : Two w.heap.size (.bool na) (.string sa) W0.drew := t0
 have q2 : Two (w.heap.size + 1) (.bool nb) (.string sb) W0.drew := t1
 have HD := Lib.hid (And.intro q1 q2)
 obtain ⟨⟨a1, a2⟩, a3, a4⟩ := q1
 obtain ⟨⟨b1, b2⟩, b3, b4⟩ := q2
 clear f t0 t1 t2 t3 hW0
 have l0 : w.heap.size < W0.heap.size := by omega
 have l1 : w.heap.size + 1 < W0.heap.size := by omega
 go_cut [] from 13 to 16 (fun wc => Two w.heap.size (.bool bx) (.string sx) wc ∧ Two (w.heap.size + 1) (.bool false) (.string ⟨#[]⟩) wc ∧ Two (w.heap.size + 1 + 1) (.bool false) (.string ⟨#[]⟩) wc ∧ Two (w.heap.size + 1 + 1 + 1) (.bool false) (.string ⟨#[]⟩) wc ∧ Below w.heap.size w wc)
 case first =>
  have tok1 : True := trivial
  go_region_with (first
   | (go_at_call 48; have _t := tok1; clear tok1; refine (CA.out _).mono ?_; intro e w1 h1; obtain ⟨he, hb1⟩ := h1; subst he; have H1 := Lib.hid hb1; have k1 := HD.out.1.below hb1 l0; have k2 := HD.out.2.below hb1 l1; obtain ⟨⟨k11, k12⟩, k13, k14⟩ := k1; obtain ⟨⟨k21, k22⟩, k23, k24⟩ := k2; clear hb1)
   | (go_at_call 48; refine (CB.out _).mono ?_; intro e w2 h2; obtain ⟨he, hb2⟩ := h2; subst he; have H2 := Lib.hid hb2; have j1 := (HD.out.1.below H1.out l0).below hb2 (Nat.lt_of_lt_of_le l0 H1.out.size); have j2 := (HD.out.2.below H1.out l1).below hb2 (Nat.lt_of_lt_of_le l1 H1.out.size); obtain ⟨⟨j11, j12⟩, j13, j14⟩ := j1; obtain ⟨⟨j21, j22⟩, j23, j24⟩ := j2; clear hb2))
  all_goals (go_wp2_with fail; go_meet)
  all_goals
   have hb2 : Below W0.heap.size W0 w2 := ((Below.refl W0.heap.size W0).drew).trans (H1.out.trans (H2.out.mono H1.out.size))
   obtain ⟨f, t0, t1, t2, t3⟩ := HQ.out
   have x0 := t0.below hb2 t0.lt
   have x1 := t1.below hb2 t1.lt
   have x2 := t2.below hb2 t2.lt
   have x3 := t3.below hb2 t3.lt
   have xf := f.trans (hb2.mono f.size)
   exact ⟨((two_set x0 _ _).other (by omega)).other (by omega), two_set ((x1.other (by omega)).other (by omega)) _ _, (((x2.other (by omega)).other (by omega)).other (by omega)).other (by omega), (((x3.other (by omega)).other (by omega)).other (by omega)).other (by omega), (((xf.setCell (Nat.le_refl _) _).setCell (Nat.le_refl _) _).setCell (by show w.heap.size ≤ w.heap.size + 1; omega) _).setCell (by show w.heap.size ≤ w.heap.size + 1; omega) _⟩
 case rest =>
  obtain ⟨t0, t1, t2, t3, f⟩ := hcut
  clear a1 a2 a3 a4 b1 b2 b3 b4 l0 l1 hs0 HD HQ
  have z1 := two_set t2 (.bool false) (.string ⟨#[]⟩)
  have z2 := (two_set ((t3.other (B' := w.heap.size + 1 + 1) (o := 0) (u := .bool false) (by omega)).other (B' := w.heap.size + 1 + 1) (o := 1) (u := .string ⟨#[]⟩) (by omega)) (.bool false) (.string ⟨#[]⟩))
  have z3 := ((z1.other (B' := w.heap.size + 1 + 1 + 1) (o := 0) (u := .bool false) (by omega)).other (B' := w.heap.size + 1 + 1 + 1) (o := 1) (u := .string ⟨#[]⟩) (by omega))
  have g := (((f.setCell (p := ⟨w.heap.size + 1 + 1, 0, none⟩) (by show w.heap.size ≤ w.heap.size + 1 + 1; omega) (.bool false)).setCell (p := ⟨w.heap.size + 1 + 1, 1, none⟩) (by show w.heap.size ≤ w.heap.size + 1 + 1; omega) (.string ⟨#[]⟩)).setCell (p := ⟨w.heap.size + 1 + 1 + 1, 0, none⟩) (by show w.heap.size ≤ w.heap.size + 1 + 1 + 1; omega) (.bool false)).setCell (p := ⟨w.heap.size + 1 + 1 + 1, 1, none⟩) (by show w.heap.size ≤ w.heap.size + 1 + 1 + 1; omega) (.string ⟨#[]⟩)
  have HG := Lib.hid g
  have y0 := z3.1.1
  have y1 := z3.2.1
  have y2 := z2.1.1
  have y3 := z2.2.1
  have m0 := t1.1.1
  have m1 := t1.2.1
  have m20 := t2.1.1
  have m21 := t2.1.2
  have m22 := t2.2.1
  have m23 := t2.2.2
  have m30 := t3.1.1
  have m31 := t3.1.2
  have m32 := t3.2.1
  have m33 := t3.2.2
  clear t0 t1 t2 t3 f z1 z2 z3 g
  go_wp2_with fail
  (try go_region)
  all_goals (try go_wp2_with fail)
  all_goals refine bodyPost_ret (v := .tuple #[.agg #[.bool false, .string ⟨#[]⟩], .agg #[.bool false, .string ⟨#[]⟩], .int .i64 10]) (by simp [results, Tryz.results35, go_sem, y0, y1, y2, y3]) rfl ⟨rfl, HG.out⟩
end Go.Proofs.YtajollhpimfefaaGreatDoor
