/- The contract of the reference's Add: one sign. The contract of the reference's Add: two signs, the first number less. The contract of the reference's Add: two signs, equal magnitudes. The contract of the reference's Add: two signs, the first number greater. The contracts of the reference's Add and Sub. -/
import Derived.Test.YtajollhpimfefaaGreatDoorRArith
namespace Go.Proofs.YtajollhpimfefaaGreatDoor
open Go.RowKit Go.Shelf

set_option maxHeartbeats 40000000 in
set_option maxRecDepth 100000 in
theorem radd_same (na nb : Bool) (sa sb : ByteArray) (w : World) (ha : sa.size ≤ 100000) (hb : sb.size ≤ 100000) (h8 : ¬ ((mg (ival na sa)).size < 8 ∧ (mg (ival nb sb)).size < 8)) (hs : ng (ival na sa) = ng (ival nb sb)) :
  Calls Tryz.prog 29 #[.agg #[.bool na, .string sa], .agg #[.bool nb, .string sb]] w fun e w' => e = .returned (.agg #[.bool (ng (ival na sa + ival nb sb)), .string (mg (ival na sa + ival nb sb))]) ∧ Below w.heap.size w w' := by
 obtain ⟨x, hx⟩ : ∃ x, x = ival na sa := ⟨_, rfl⟩
 obtain ⟨y, hy⟩ : ∃ y, y = ival nb sb := ⟨_, rfl⟩
 have ca := fun W => rcanonical_any na sa W
 have cb := fun W => rcanonical_any nb sb W
 rw [← hx] at ca
 rw [← hy] at cb
 rw [← hx, ← hy]
 rw [← hx, ← hy] at h8 hs
 have hXl : (mg x).size ≤ 100000 := by rw [hx]; exact mg_le na sa _ ha
 have hYl : (mg y).size ≤ 100000 := by rw [hy]; exact mg_le nb sb _ hb
 have hXv := mg_val x
 have hYv := mg_val y
 have hXi := ival_mg x
 have hYi := ival_mg y
 have hXm : mg x = ⟨(be x.natAbs).toArray⟩ := rfl
 have hYm : mg y = ⟨(be y.natAbs).toArray⟩ := rfl
 obtain ⟨X, hX⟩ : ∃ X, mg x = X := ⟨_, rfl⟩
 obtain ⟨Y, hY⟩ : ∃ Y, mg y = Y := ⟨_, rfl⟩
 obtain ⟨bx, hbx⟩ : ∃ b, ng x = b := ⟨_, rfl⟩
 obtain ⟨by', hby⟩ : ∃ b, ng y = b := ⟨_, rfl⟩
 rw [hX, hY] at h8
 rw [hX] at ca hXl hXv hXi hXm
 rw [hY] at cb hYl hYv hYi hYm
 rw [hbx] at ca hXi
 rw [hby] at cb hYi
 rw [hbx, hby] at hs
 have H8 := Lib.hid h8
 have HSG := Lib.hid hs
 clear h8 hs
 have CA := Lib.hid ca
 have CB := Lib.hid cb
 have HXY := Lib.hid (And.intro hXl (And.intro hYl (And.intro hXv (And.intro hYv (And.intro hXi (And.intro hYi (And.intro hXm (And.intro hYm (And.intro hbx hby)))))))))
 clear ca cb hx hy hXl hYl hXv hYv hXi hYi hXm hYm hX hY hbx hby ha hb
 obtain ⟨bz, hbz⟩ : ∃ b, ng (x + y) = b := ⟨_, rfl⟩
 obtain ⟨sz, hsz⟩ : ∃ s, mg (x + y) = s := ⟨_, rfl⟩
 rw [hbz, hsz]
 have HRES := Lib.hid (And.intro hbz hsz)
 clear hbz hsz
 go_enter Tryz.func29, Tryz.ntmps29
 go_upto_region 1 with fail
 obtain ⟨W0, hW0⟩ : ∃ W0, (((w.alloc (Obj.cells #[Value.bool na, Value.string sa] 23)).alloc (Obj.cells #[Value.bool nb, Value.string sb] 23)).alloc (Obj.cells #[Value.bool false, Value.string ⟨#[]⟩] 23)) = W0 := ⟨_, rfl⟩
 have hs0 : W0.heap.size = w.heap.size + 1 + 1 + 1 := by rw [← hW0]; simp
 have tA : Two w.heap.size (.bool na) (.string sa) W0 := by
  rw [← hW0]
  exact (two_new w _ _ _).below (B0 := w.heap.size + 1) (((Below.refl _ _).alloc (by simp) _).alloc (by simp) _) (by omega)
 have tB : Two (w.heap.size + 1) (.bool nb) (.string sb) W0 := by
  rw [← hW0]
  have h := two_new (w.alloc (Obj.cells #[Value.bool na, Value.string sa] 23)) (.bool nb) (.string sb) 23
  rw [World.size_alloc] at h
  exact h.below (B0 := w.heap.size + 1 + 1) ((Below.refl _ _).alloc (by simp) _) (by omega)
 have tR : Two (w.heap.size + 1 + 1) (.bool false) (.string ⟨#[]⟩) W0 := by
  rw [← hW0]
  have h := two_new ((w.alloc (Obj.cells #[Value.bool na, Value.string sa] 23)).alloc (Obj.cells #[Value.bool nb, Value.string sb] 23)) (.bool false) (.string ⟨#[]⟩) 23
  rw [World.size_alloc, World.size_alloc] at h
  exact h
 have b0 : Below w.heap.size w W0 := by
  rw [← hW0]
  exact (((Below.refl _ _).alloc (Nat.le_refl _) _).alloc (by simp) _).alloc (by simp; omega) _
 rw [hW0]
 have q1 : Two w.heap.size (.bool na) (.string sa) W0.drew := tA
 have q2 : Two (w.heap.size + 1) (.bool nb) (.string sb) W0.drew := tB
 have q3 : Two (w.heap.size + 1 + 1) (.bool false) (.string ⟨#[]⟩) W0.drew := tR
 have q5 : w.heap.size + 1 + 1 + 1 ≤ W0.drew.heap.size := by show _ ≤ W0.heap.size; omega
 have HQ := Lib.hid (And.intro q1 (And.intro q2 (And.intro q3 (And.intro b0.drew q5))))
 obtain ⟨⟨a1, a2⟩, a3, a4⟩ := q1
 obtain ⟨⟨b1, b2⟩, b3, b4⟩ := q2
 clear tA tB tR q3 b0 hs0 hW0 q5
 go_cut [] from 6 to 9 (fun wc => Two w.heap.size (.bool bx) (.string X) wc ∧ Two (w.heap.size + 1) (.bool by') (.string Y) wc ∧ Two (w.heap.size + 1 + 1) (.bool false) (.string ⟨#[]⟩) wc ∧ Below w.heap.size w wc)
 case first =>
  have tok1 : True := trivial
  go_region_with (first
   | (go_at_call 48; have _t := tok1; clear tok1; refine (CA.out _).mono ?_; intro e w1 h1; obtain ⟨he, hb1⟩ := h1; subst he; have H1 := Lib.hid hb1; have k1 := HQ.out.1.below hb1 (by have := HQ.out.2.2.2.2; omega); have k2 := HQ.out.2.1.below hb1 (by have := HQ.out.2.2.2.2; omega); obtain ⟨⟨k11, k12⟩, k13, k14⟩ := k1; obtain ⟨⟨k21, k22⟩, k23, k24⟩ := k2; clear hb1)
   | (go_at_call 48; refine (CB.out _).mono ?_; intro e w2 h2; obtain ⟨he, hb2⟩ := h2; subst he; have H2 := Lib.hid hb2; have l1 := (HQ.out.1.below H1.out (by have := HQ.out.2.2.2.2; omega)).below hb2 (by have := HQ.out.2.2.2.2; have := H1.out.size; omega); have l2 := (HQ.out.2.1.below H1.out (by have := HQ.out.2.2.2.2; omega)).below hb2 (by have := HQ.out.2.2.2.2; have := H1.out.size; omega); obtain ⟨⟨l11, l12⟩, l13, l14⟩ := l1; obtain ⟨⟨l21, l22⟩, l23, l24⟩ := l2; clear hb2))
  all_goals (go_wp2_with fail; go_meet)
  all_goals
   have m1 : Two w.heap.size (.bool na) (.string sa) w2 := ⟨⟨l11, l12⟩, l13, l14⟩
   have m2 : Two (w.heap.size + 1) (.bool nb) (.string sb) w2 := ⟨⟨l21, l22⟩, l23, l24⟩
   have m3 := (HQ.out.2.2.1.below H1.out (by have := HQ.out.2.2.2.2; omega)).below H2.out (by have := HQ.out.2.2.2.2; have := H1.out.size; omega)
   refine ⟨Two.other (Two.other (two_set m1 _ _) (by omega)) (by omega), two_set (Two.other (Two.other m2 (by omega)) (by omega)) _ _, Two.other (Two.other (Two.other (Two.other m3 (by omega)) (by omega)) (by omega)) (by omega), ?_⟩
   have s1 := HQ.out.2.2.2.2
   have s2 := H1.out.size
   exact ((((((HQ.out.2.2.2.1.trans (H1.out.mono (by omega))).trans (H2.out.mono (by omega))).setCell (by simp) _).setCell (by simp) _).setCell (by simp) _).setCell (by simp) _)
 case rest =>
  obtain ⟨t1, t2, t3, hb⟩ := hcut
  clear a1 a2 a3 a4 b1 b2 b3 b4
  have HQ := Lib.hid (And.intro t1 (And.intro t2 (And.intro t3 hb)))
  have HD := Lib.hid (show Two w.heap.size (.bool bx) (.string X) wc.drew ∧ Two (w.heap.size + 1) (.bool by') (.string Y) wc.drew ∧ Two (w.heap.size + 1 + 1) (.bool false) (.string ⟨#[]⟩) wc.drew from ⟨t1, t2, t3⟩)
  have lA := t1.lt
  have lB := t2.lt
  have lR := t3.lt
  have m1 := t1.1.1
  have m2 := t1.2.1
  have m3 := t2.1.1
  have m4 := t2.2.1
  have m5 := t3.1.1
  have m6 := t3.1.2
  have m7 := t3.2.1
  have m8 := t3.2.2
  have n1 : wc.drew.cell? ⟨w.heap.size, 0, none⟩ = some (.bool bx) := t1.1.1
  have n2 : wc.drew.cell? ⟨w.heap.size, 1, none⟩ = some (.string X) := t1.2.1
  have n3 : wc.drew.cell? ⟨w.heap.size + 1, 0, none⟩ = some (.bool by') := t2.1.1
  have n4 : wc.drew.cell? ⟨w.heap.size + 1, 1, none⟩ = some (.string Y) := t2.2.1
  have hsX : X.size < 8 → x.natAbs < 72057594037927936 := fun h => by
   have h1 := beVal_lt X.data.toList
   rw [HXY.out.2.2.1, ← Lib.size_eq] at h1
   exact Nat.lt_of_lt_of_le h1 (Nat.pow_le_pow_right (n := 256) (by omega) (show X.size ≤ 7 by omega))
  have hsY : Y.size < 8 → y.natAbs < 72057594037927936 := fun h => by
   have h1 := beVal_lt Y.data.toList
   rw [HXY.out.2.2.2.1, ← Lib.size_eq] at h1
   exact Nat.lt_of_lt_of_le h1 (Nat.pow_le_pow_right (n := 256) (by omega) (show Y.size ≤ 7 by omega))
  clear t1 t2 t3 hb
  clear hsX hsY
  by_cases h1 : X.size < 8
  ·have h2 : ¬ Y.size < 8 := fun h => H8.out ⟨h1, h⟩
   have hs := HSG.out
   clear HSG
   subst hs
   have hz : bz = bx ∧ sz = ⟨(be (beVal X.data.toList + beVal Y.data.toList)).toArray⟩ := by
    have e1 := HXY.out.2.2.2.2.2.2.2.2.1
    have e2 := HXY.out.2.2.2.2.2.2.2.2.2
    have e3 : (x < 0 ∧ y < 0) ∨ (0 ≤ x ∧ 0 ≤ y) := by
     rw [← e2] at e1
     simp only [ng, decide_eq_decide] at e1
     omega
    refine ⟨by rw [← HRES.out.1, ← e1]; simp only [ng, decide_eq_decide]; omega, ?_⟩
    rw [← HRES.out.2, HXY.out.2.2.1, HXY.out.2.2.2.1, mg, show (x + y).natAbs = x.natAbs + y.natAbs by omega]
   have HZ := Lib.hid hz
   have HC := Lib.hid (fun W => addMag_any X Y W HXY.out.1 HXY.out.2.1)
   clear hz
   have H0s := Lib.hid (show wc.heap.size ≤ wc.drew.heap.size from Nat.le_refl _)
   have tok1 : True := trivial
   go_wp2_with fail
   go_region_held3 (fun w' => w'.cell? ⟨w.heap.size, 0, none⟩ = some (.bool bx) ∧ w'.cell? ⟨w.heap.size, 1, none⟩ = some (.string X) ∧ w'.cell? ⟨w.heap.size + 1, 0, none⟩ = some (.bool bx) ∧ w'.cell? ⟨w.heap.size + 1, 1, none⟩ = some (.string Y)) (refine ⟨?_, ?_, ?_, ?_⟩ <;> (first | assumption | (rw [World.cell?_setCell_other _ _ _ _ (by intro e; have := congrArg Addr.block e; simp at this <;> omega), World.cell?_setCell_other _ _ _ _ (by intro e; have := congrArg Addr.block e; simp at this <;> omega)]; assumption))) (first | (go_at_call 62; have _t := tok1; clear tok1; refine (HC.out _).mono ?_; intro e u1 h1; obtain ⟨he, d1⟩ := h1; subst he; have H1 := Lib.hid d1; have k0 := HD.out.1.below d1 (by have := H0s.out; omega); obtain ⟨⟨k011, k012⟩, k013, k014⟩ := k0; have k1 := HD.out.2.1.below d1 (by have := H0s.out; omega); obtain ⟨⟨k111, k112⟩, k113, k114⟩ := k1; have k2 := HD.out.2.2.below d1 (by have := H0s.out; omega); obtain ⟨⟨k211, k212⟩, k213, k214⟩ := k2; have H1s := Lib.hid (show wc.heap.size ≤ u1.heap.size by have h1 := H0s.out; have h2 := d1.size; omega); clear d1))
   all_goals go_wp2_with fail
   all_goals refine bodyPost_ret (v := .agg #[.bool bx, .string ⟨(be (beVal X.data.toList + beVal Y.data.toList)).toArray⟩]) (by simp [results, Tryz.results29, go_sem, k211, k213]) rfl ⟨by rw [HZ.out.1, HZ.out.2], ?_⟩
   all_goals exact (((HQ.out.2.2.2.drew).trans (H1.out.mono (by have h1 := HQ.out.2.2.2.size; have h2 := H0s.out; omega))).setCell (by show w.heap.size ≤ w.heap.size + 1 + 1; omega) _).setCell (by show w.heap.size ≤ w.heap.size + 1 + 1; omega) _
  ·have hs := HSG.out
   clear HSG
   subst hs
   have hz : bz = bx ∧ sz = ⟨(be (beVal X.data.toList + beVal Y.data.toList)).toArray⟩ := by
    have e1 := HXY.out.2.2.2.2.2.2.2.2.1
    have e2 := HXY.out.2.2.2.2.2.2.2.2.2
    have e3 : (x < 0 ∧ y < 0) ∨ (0 ≤ x ∧ 0 ≤ y) := by
     rw [← e2] at e1
     simp only [ng, decide_eq_decide] at e1
     omega
    refine ⟨by rw [← HRES.out.1, ← e1]; simp only [ng, decide_eq_decide]; omega, ?_⟩
    rw [← HRES.out.2, HXY.out.2.2.1, HXY.out.2.2.2.1, mg, show (x + y).natAbs = x.natAbs + y.natAbs by omega]
   have HZ := Lib.hid hz
   have HC := Lib.hid (fun W => addMag_any X Y W HXY.out.1 HXY.out.2.1)
   clear hz
   have H0s := Lib.hid (show wc.heap.size ≤ wc.drew.heap.size from Nat.le_refl _)
   have tok1 : True := trivial
   go_wp2_with fail
   go_region_held3 (fun w' => w'.cell? ⟨w.heap.size, 0, none⟩ = some (.bool bx) ∧ w'.cell? ⟨w.heap.size, 1, none⟩ = some (.string X) ∧ w'.cell? ⟨w.heap.size + 1, 0, none⟩ = some (.bool bx) ∧ w'.cell? ⟨w.heap.size + 1, 1, none⟩ = some (.string Y)) (refine ⟨?_, ?_, ?_, ?_⟩ <;> (first | assumption | (rw [World.cell?_setCell_other _ _ _ _ (by intro e; have := congrArg Addr.block e; simp at this <;> omega), World.cell?_setCell_other _ _ _ _ (by intro e; have := congrArg Addr.block e; simp at this <;> omega)]; assumption))) (first | (go_at_call 62; have _t := tok1; clear tok1; refine (HC.out _).mono ?_; intro e u1 h1; obtain ⟨he, d1⟩ := h1; subst he; have H1 := Lib.hid d1; have k0 := HD.out.1.below d1 (by have := H0s.out; omega); obtain ⟨⟨k011, k012⟩, k013, k014⟩ := k0; have k1 := HD.out.2.1.below d1 (by have := H0s.out; omega); obtain ⟨⟨k111, k112⟩, k113, k114⟩ := k1; have k2 := HD.out.2.2.below d1 (by have := H0s.out; omega); obtain ⟨⟨k211, k212⟩, k213, k214⟩ := k2; have H1s := Lib.hid (show wc.heap.size ≤ u1.heap.size by have h1 := H0s.out; have h2 := d1.size; omega); clear d1))
   all_goals go_wp2_with fail
   all_goals refine bodyPost_ret (v := .agg #[.bool bx, .string ⟨(be (beVal X.data.toList + beVal Y.data.toList)).toArray⟩]) (by simp [results, Tryz.results29, go_sem, k211, k213]) rfl ⟨by rw [HZ.out.1, HZ.out.2], ?_⟩
   all_goals exact (((HQ.out.2.2.2.drew).trans (H1.out.mono (by have h1 := HQ.out.2.2.2.size; have h2 := H0s.out; omega))).setCell (by show w.heap.size ≤ w.heap.size + 1 + 1; omega) _).setCell (by show w.heap.size ≤ w.heap.size + 1 + 1; omega) _

end Go.Proofs.YtajollhpimfefaaGreatDoor

namespace Go.Proofs.YtajollhpimfefaaGreatDoor
open Go.RowKit Go.Shelf

set_option maxHeartbeats 40000000 in
set_option maxRecDepth 100000 in
theorem radd_lt (na nb : Bool) (sa sb : ByteArray) (w : World) (ha : sa.size ≤ 100000) (hb : sb.size ≤ 100000) (h8 : ¬ ((mg (ival na sa)).size < 8 ∧ (mg (ival nb sb)).size < 8)) (hs : ng (ival nb sb) = !ng (ival na sa)) (hd : (ival na sa).natAbs < (ival nb sb).natAbs) :
  Calls Tryz.prog 29 #[.agg #[.bool na, .string sa], .agg #[.bool nb, .string sb]] w fun e w' => e = .returned (.agg #[.bool (ng (ival na sa + ival nb sb)), .string (mg (ival na sa + ival nb sb))]) ∧ Below w.heap.size w w' := by
 obtain ⟨x, hx⟩ : ∃ x, x = ival na sa := ⟨_, rfl⟩
 obtain ⟨y, hy⟩ : ∃ y, y = ival nb sb := ⟨_, rfl⟩
 have ca := fun W => rcanonical_any na sa W
 have cb := fun W => rcanonical_any nb sb W
 rw [← hx] at ca
 rw [← hy] at cb
 rw [← hx, ← hy]
 rw [← hx, ← hy] at h8 hs hd
 have hXl : (mg x).size ≤ 100000 := by rw [hx]; exact mg_le na sa _ ha
 have hYl : (mg y).size ≤ 100000 := by rw [hy]; exact mg_le nb sb _ hb
 have hXv := mg_val x
 have hYv := mg_val y
 have hXi := ival_mg x
 have hYi := ival_mg y
 have hXm : mg x = ⟨(be x.natAbs).toArray⟩ := rfl
 have hYm : mg y = ⟨(be y.natAbs).toArray⟩ := rfl
 obtain ⟨X, hX⟩ : ∃ X, mg x = X := ⟨_, rfl⟩
 obtain ⟨Y, hY⟩ : ∃ Y, mg y = Y := ⟨_, rfl⟩
 obtain ⟨bx, hbx⟩ : ∃ b, ng x = b := ⟨_, rfl⟩
 obtain ⟨by', hby⟩ : ∃ b, ng y = b := ⟨_, rfl⟩
 rw [hX, hY] at h8
 rw [hX] at ca hXl hXv hXi hXm
 rw [hY] at cb hYl hYv hYi hYm
 rw [hbx] at ca hXi
 rw [hby] at cb hYi
 rw [hbx, hby] at hs
 have H8 := Lib.hid h8
 have HSG := Lib.hid hs
 have HD8 := Lib.hid hd
 clear h8 hs hd
 have CA := Lib.hid ca
 have CB := Lib.hid cb
 have HXY := Lib.hid (And.intro hXl (And.intro hYl (And.intro hXv (And.intro hYv (And.intro hXi (And.intro hYi (And.intro hXm (And.intro hYm (And.intro hbx hby)))))))))
 clear ca cb hx hy hXl hYl hXv hYv hXi hYi hXm hYm hX hY hbx hby ha hb
 obtain ⟨bz, hbz⟩ : ∃ b, ng (x + y) = b := ⟨_, rfl⟩
 obtain ⟨sz, hsz⟩ : ∃ s, mg (x + y) = s := ⟨_, rfl⟩
 rw [hbz, hsz]
 have HRES := Lib.hid (And.intro hbz hsz)
 clear hbz hsz
 go_enter Tryz.func29, Tryz.ntmps29
 go_upto_region 1 with fail
 obtain ⟨W0, hW0⟩ : ∃ W0, (((w.alloc (Obj.cells #[Value.bool na, Value.string sa] 23)).alloc (Obj.cells #[Value.bool nb, Value.string sb] 23)).alloc (Obj.cells #[Value.bool false, Value.string ⟨#[]⟩] 23)) = W0 := ⟨_, rfl⟩
 have hs0 : W0.heap.size = w.heap.size + 1 + 1 + 1 := by rw [← hW0]; simp
 have tA : Two w.heap.size (.bool na) (.string sa) W0 := by
  rw [← hW0]
  exact (two_new w _ _ _).below (B0 := w.heap.size + 1) (((Below.refl _ _).alloc (by simp) _).alloc (by simp) _) (by omega)
 have tB : Two (w.heap.size + 1) (.bool nb) (.string sb) W0 := by
  rw [← hW0]
  have h := two_new (w.alloc (Obj.cells #[Value.bool na, Value.string sa] 23)) (.bool nb) (.string sb) 23
  rw [World.size_alloc] at h
  exact h.below (B0 := w.heap.size + 1 + 1) ((Below.refl _ _).alloc (by simp) _) (by omega)
 have tR : Two (w.heap.size + 1 + 1) (.bool false) (.string ⟨#[]⟩) W0 := by
  rw [← hW0]
  have h := two_new ((w.alloc (Obj.cells #[Value.bool na, Value.string sa] 23)).alloc (Obj.cells #[Value.bool nb, Value.string sb] 23)) (.bool false) (.string ⟨#[]⟩) 23
  rw [World.size_alloc, World.size_alloc] at h
  exact h
 have b0 : Below w.heap.size w W0 := by
  rw [← hW0]
  exact (((Below.refl _ _).alloc (Nat.le_refl _) _).alloc (by simp) _).alloc (by simp; omega) _
 rw [hW0]
 have q1 : Two w.heap.size (.bool na) (.string sa) W0.drew := tA
 have q2 : Two (w.heap.size + 1) (.bool nb) (.string sb) W0.drew := tB
 have q3 : Two (w.heap.size + 1 + 1) (.bool false) (.string ⟨#[]⟩) W0.drew := tR
 have q5 : w.heap.size + 1 + 1 + 1 ≤ W0.drew.heap.size := by show _ ≤ W0.heap.size; omega
 have HQ := Lib.hid (And.intro q1 (And.intro q2 (And.intro q3 (And.intro b0.drew q5))))
 obtain ⟨⟨a1, a2⟩, a3, a4⟩ := q1
 obtain ⟨⟨b1, b2⟩, b3, b4⟩ := q2
 clear tA tB tR q3 b0 hs0 hW0 q5
 go_cut [] from 6 to 9 (fun wc => Two w.heap.size (.bool bx) (.string X) wc ∧ Two (w.heap.size + 1) (.bool by') (.string Y) wc ∧ Two (w.heap.size + 1 + 1) (.bool false) (.string ⟨#[]⟩) wc ∧ Below w.heap.size w wc)
 case first =>
  have tok1 : True := trivial
  go_region_with (first
   | (go_at_call 48; have _t := tok1; clear tok1; refine (CA.out _).mono ?_; intro e w1 h1; obtain ⟨he, hb1⟩ := h1; subst he; have H1 := Lib.hid hb1; have k1 := HQ.out.1.below hb1 (by have := HQ.out.2.2.2.2; omega); have k2 := HQ.out.2.1.below hb1 (by have := HQ.out.2.2.2.2; omega); obtain ⟨⟨k11, k12⟩, k13, k14⟩ := k1; obtain ⟨⟨k21, k22⟩, k23, k24⟩ := k2; clear hb1)
   | (go_at_call 48; refine (CB.out _).mono ?_; intro e w2 h2; obtain ⟨he, hb2⟩ := h2; subst he; have H2 := Lib.hid hb2; have l1 := (HQ.out.1.below H1.out (by have := HQ.out.2.2.2.2; omega)).below hb2 (by have := HQ.out.2.2.2.2; have := H1.out.size; omega); have l2 := (HQ.out.2.1.below H1.out (by have := HQ.out.2.2.2.2; omega)).below hb2 (by have := HQ.out.2.2.2.2; have := H1.out.size; omega); obtain ⟨⟨l11, l12⟩, l13, l14⟩ := l1; obtain ⟨⟨l21, l22⟩, l23, l24⟩ := l2; clear hb2))
  all_goals (go_wp2_with fail; go_meet)
  all_goals
   have m1 : Two w.heap.size (.bool na) (.string sa) w2 := ⟨⟨l11, l12⟩, l13, l14⟩
   have m2 : Two (w.heap.size + 1) (.bool nb) (.string sb) w2 := ⟨⟨l21, l22⟩, l23, l24⟩
   have m3 := (HQ.out.2.2.1.below H1.out (by have := HQ.out.2.2.2.2; omega)).below H2.out (by have := HQ.out.2.2.2.2; have := H1.out.size; omega)
   refine ⟨Two.other (Two.other (two_set m1 _ _) (by omega)) (by omega), two_set (Two.other (Two.other m2 (by omega)) (by omega)) _ _, Two.other (Two.other (Two.other (Two.other m3 (by omega)) (by omega)) (by omega)) (by omega), ?_⟩
   have s1 := HQ.out.2.2.2.2
   have s2 := H1.out.size
   exact ((((((HQ.out.2.2.2.1.trans (H1.out.mono (by omega))).trans (H2.out.mono (by omega))).setCell (by simp) _).setCell (by simp) _).setCell (by simp) _).setCell (by simp) _)
 case rest =>
  obtain ⟨t1, t2, t3, hb⟩ := hcut
  clear a1 a2 a3 a4 b1 b2 b3 b4
  have HQ := Lib.hid (And.intro t1 (And.intro t2 (And.intro t3 hb)))
  have HD := Lib.hid (show Two w.heap.size (.bool bx) (.string X) wc.drew ∧ Two (w.heap.size + 1) (.bool by') (.string Y) wc.drew ∧ Two (w.heap.size + 1 + 1) (.bool false) (.string ⟨#[]⟩) wc.drew from ⟨t1, t2, t3⟩)
  have lA := t1.lt
  have lB := t2.lt
  have lR := t3.lt
  have m1 := t1.1.1
  have m2 := t1.2.1
  have m3 := t2.1.1
  have m4 := t2.2.1
  have m5 := t3.1.1
  have m6 := t3.1.2
  have m7 := t3.2.1
  have m8 := t3.2.2
  have n1 : wc.drew.cell? ⟨w.heap.size, 0, none⟩ = some (.bool bx) := t1.1.1
  have n2 : wc.drew.cell? ⟨w.heap.size, 1, none⟩ = some (.string X) := t1.2.1
  have n3 : wc.drew.cell? ⟨w.heap.size + 1, 0, none⟩ = some (.bool by') := t2.1.1
  have n4 : wc.drew.cell? ⟨w.heap.size + 1, 1, none⟩ = some (.string Y) := t2.2.1
  have hsX : X.size < 8 → x.natAbs < 72057594037927936 := fun h => by
   have h1 := beVal_lt X.data.toList
   rw [HXY.out.2.2.1, ← Lib.size_eq] at h1
   exact Nat.lt_of_lt_of_le h1 (Nat.pow_le_pow_right (n := 256) (by omega) (show X.size ≤ 7 by omega))
  have hsY : Y.size < 8 → y.natAbs < 72057594037927936 := fun h => by
   have h1 := beVal_lt Y.data.toList
   rw [HXY.out.2.2.2.1, ← Lib.size_eq] at h1
   exact Nat.lt_of_lt_of_le h1 (Nat.pow_le_pow_right (n := 256) (by omega) (show Y.size ≤ 7 by omega))
  clear t1 t2 t3 hb
  clear hsX hsY
  by_cases h1 : X.size < 8
  ·have h2 : ¬ Y.size < 8 := fun h => H8.out ⟨h1, h⟩
   have hs := HSG.out
   clear HSG
   subst hs
   have hd := HD8.out
   have hc := fun W => rcmpMag_any x.natAbs y.natAbs W
   rw [← HXY.out.2.2.2.2.2.2.1, ← HXY.out.2.2.2.2.2.2.2.1] at hc
   rw [cmpZ_lt (by omega)] at hc
   have HC := Lib.hid hc
   have hz : bz = (!bx) ∧ sz = ⟨(be (beVal Y.data.toList - beVal X.data.toList)).toArray⟩ := by
    have e1 := HXY.out.2.2.2.2.2.2.2.2.1
    have e2 := HXY.out.2.2.2.2.2.2.2.2.2
    have e3 : (x < 0 ∧ 0 ≤ y) ∨ (0 ≤ x ∧ y < 0) := by
     rw [← e1] at e2
     by_cases h1 : x < 0 <;> by_cases h2 : y < 0 <;> simp_all [ng] <;> omega
    refine ⟨by rw [← HRES.out.1, ← e2]; simp only [ng, decide_eq_decide]; omega, ?_⟩
    rw [← HRES.out.2, HXY.out.2.2.1, HXY.out.2.2.2.1, mg, show (x + y).natAbs = y.natAbs - x.natAbs by omega]
   have HS := Lib.hid (fun W => subMag_any Y X W HXY.out.2.1 HXY.out.1 (by rw [HXY.out.2.2.1, HXY.out.2.2.2.1]; omega))
   have HZ := Lib.hid hz
   clear hz hc hd
   go_wp2_with fail
   refine (HC.out _).mono ?_
   rintro e w' ⟨rfl, rfl⟩
   have H0s := Lib.hid (show wc.heap.size ≤ wc.drew.heap.size from Nat.le_refl _)
   have tok1 : True := trivial
   go_wp2_with fail
   go_region_held3 (fun w' => w'.cell? ⟨w.heap.size, 0, none⟩ = some (.bool bx) ∧ w'.cell? ⟨w.heap.size, 1, none⟩ = some (.string X) ∧ w'.cell? ⟨w.heap.size + 1, 0, none⟩ = some (.bool (!bx)) ∧ w'.cell? ⟨w.heap.size + 1, 1, none⟩ = some (.string Y)) (refine ⟨?_, ?_, ?_, ?_⟩ <;> (first | assumption | (rw [World.cell?_setCell_other _ _ _ _ (by intro e; have := congrArg Addr.block e; simp at this <;> omega), World.cell?_setCell_other _ _ _ _ (by intro e; have := congrArg Addr.block e; simp at this <;> omega)]; assumption))) (first | (go_at_call 63; have _t := tok1; clear tok1; refine (HS.out _).mono ?_; intro e u1 h1; obtain ⟨he, d1⟩ := h1; subst he; have H1 := Lib.hid d1; have k0 := HD.out.1.below d1 (by have := H0s.out; omega); obtain ⟨⟨k011, k012⟩, k013, k014⟩ := k0; have k1 := HD.out.2.1.below d1 (by have := H0s.out; omega); obtain ⟨⟨k111, k112⟩, k113, k114⟩ := k1; have k2 := HD.out.2.2.below d1 (by have := H0s.out; omega); obtain ⟨⟨k211, k212⟩, k213, k214⟩ := k2; have H1s := Lib.hid (show wc.heap.size ≤ u1.heap.size by have h1 := H0s.out; have h2 := d1.size; omega); clear d1))
   all_goals go_wp2_with fail
   all_goals refine bodyPost_ret (v := .agg #[.bool (!bx), .string ⟨(be (beVal Y.data.toList - beVal X.data.toList)).toArray⟩]) (by simp [results, Tryz.results29, go_sem, k211, k213]) rfl ⟨by rw [HZ.out.1, HZ.out.2], ?_⟩
   all_goals exact (((HQ.out.2.2.2.drew).trans (H1.out.mono (by have h1 := HQ.out.2.2.2.size; have h2 := H0s.out; omega))).setCell (by show w.heap.size ≤ w.heap.size + 1 + 1; omega) _).setCell (by show w.heap.size ≤ w.heap.size + 1 + 1; omega) _
  ·have hs := HSG.out
   clear HSG
   subst hs
   have hd := HD8.out
   have hc := fun W => rcmpMag_any x.natAbs y.natAbs W
   rw [← HXY.out.2.2.2.2.2.2.1, ← HXY.out.2.2.2.2.2.2.2.1] at hc
   rw [cmpZ_lt (by omega)] at hc
   have HC := Lib.hid hc
   have hz : bz = (!bx) ∧ sz = ⟨(be (beVal Y.data.toList - beVal X.data.toList)).toArray⟩ := by
    have e1 := HXY.out.2.2.2.2.2.2.2.2.1
    have e2 := HXY.out.2.2.2.2.2.2.2.2.2
    have e3 : (x < 0 ∧ 0 ≤ y) ∨ (0 ≤ x ∧ y < 0) := by
     rw [← e1] at e2
     by_cases h1 : x < 0 <;> by_cases h2 : y < 0 <;> simp_all [ng] <;> omega
    refine ⟨by rw [← HRES.out.1, ← e2]; simp only [ng, decide_eq_decide]; omega, ?_⟩
    rw [← HRES.out.2, HXY.out.2.2.1, HXY.out.2.2.2.1, mg, show (x + y).natAbs = y.natAbs - x.natAbs by omega]
   have HS := Lib.hid (fun W => subMag_any Y X W HXY.out.2.1 HXY.out.1 (by rw [HXY.out.2.2.1, HXY.out.2.2.2.1]; omega))
   have HZ := Lib.hid hz
   clear hz hc hd
   go_wp2_with fail
   refine (HC.out _).mono ?_
   rintro e w' ⟨rfl, rfl⟩
   have H0s := Lib.hid (show wc.heap.size ≤ wc.drew.heap.size from Nat.le_refl _)
   have tok1 : True := trivial
   go_wp2_with fail
   go_region_held3 (fun w' => w'.cell? ⟨w.heap.size, 0, none⟩ = some (.bool bx) ∧ w'.cell? ⟨w.heap.size, 1, none⟩ = some (.string X) ∧ w'.cell? ⟨w.heap.size + 1, 0, none⟩ = some (.bool (!bx)) ∧ w'.cell? ⟨w.heap.size + 1, 1, none⟩ = some (.string Y)) (refine ⟨?_, ?_, ?_, ?_⟩ <;> (first | assumption | (rw [World.cell?_setCell_other _ _ _ _ (by intro e; have := congrArg Addr.block e; simp at this <;> omega), World.cell?_setCell_other _ _ _ _ (by intro e; have := congrArg Addr.block e; simp at this <;> omega)]; assumption))) (first | (go_at_call 63; have _t := tok1; clear tok1; refine (HS.out _).mono ?_; intro e u1 h1; obtain ⟨he, d1⟩ := h1; subst he; have H1 := Lib.hid d1; have k0 := HD.out.1.below d1 (by have := H0s.out; omega); obtain ⟨⟨k011, k012⟩, k013, k014⟩ := k0; have k1 := HD.out.2.1.below d1 (by have := H0s.out; omega); obtain ⟨⟨k111, k112⟩, k113, k114⟩ := k1; have k2 := HD.out.2.2.below d1 (by have := H0s.out; omega); obtain ⟨⟨k211, k212⟩, k213, k214⟩ := k2; have H1s := Lib.hid (show wc.heap.size ≤ u1.heap.size by have h1 := H0s.out; have h2 := d1.size; omega); clear d1))
   all_goals go_wp2_with fail
   all_goals refine bodyPost_ret (v := .agg #[.bool (!bx), .string ⟨(be (beVal Y.data.toList - beVal X.data.toList)).toArray⟩]) (by simp [results, Tryz.results29, go_sem, k211, k213]) rfl ⟨by rw [HZ.out.1, HZ.out.2], ?_⟩
   all_goals exact (((HQ.out.2.2.2.drew).trans (H1.out.mono (by have h1 := HQ.out.2.2.2.size; have h2 := H0s.out; omega))).setCell (by show w.heap.size ≤ w.heap.size + 1 + 1; omega) _).setCell (by show w.heap.size ≤ w.heap.size + 1 + 1; omega) _

end Go.Proofs.YtajollhpimfefaaGreatDoor

namespace Go.Proofs.YtajollhpimfefaaGreatDoor
open Go.RowKit Go.Shelf

set_option maxHeartbeats 40000000 in
set_option maxRecDepth 100000 in
theorem radd_eq (na nb : Bool) (sa sb : ByteArray) (w : World) (ha : sa.size ≤ 100000) (hb : sb.size ≤ 100000) (h8 : ¬ ((mg (ival na sa)).size < 8 ∧ (mg (ival nb sb)).size < 8)) (hs : ng (ival nb sb) = !ng (ival na sa)) (hd : (ival na sa).natAbs = (ival nb sb).natAbs) :
  Calls Tryz.prog 29 #[.agg #[.bool na, .string sa], .agg #[.bool nb, .string sb]] w fun e w' => e = .returned (.agg #[.bool (ng (ival na sa + ival nb sb)), .string (mg (ival na sa + ival nb sb))]) ∧ Below w.heap.size w w' := by
 obtain ⟨x, hx⟩ : ∃ x, x = ival na sa := ⟨_, rfl⟩
 obtain ⟨y, hy⟩ : ∃ y, y = ival nb sb := ⟨_, rfl⟩
 have ca := fun W => rcanonical_any na sa W
 have cb := fun W => rcanonical_any nb sb W
 rw [← hx] at ca
 rw [← hy] at cb
 rw [← hx, ← hy]
 rw [← hx, ← hy] at h8 hs hd
 have hXl : (mg x).size ≤ 100000 := by rw [hx]; exact mg_le na sa _ ha
 have hYl : (mg y).size ≤ 100000 := by rw [hy]; exact mg_le nb sb _ hb
 have hXv := mg_val x
 have hYv := mg_val y
 have hXi := ival_mg x
 have hYi := ival_mg y
 have hXm : mg x = ⟨(be x.natAbs).toArray⟩ := rfl
 have hYm : mg y = ⟨(be y.natAbs).toArray⟩ := rfl
 obtain ⟨X, hX⟩ : ∃ X, mg x = X := ⟨_, rfl⟩
 obtain ⟨Y, hY⟩ : ∃ Y, mg y = Y := ⟨_, rfl⟩
 obtain ⟨bx, hbx⟩ : ∃ b, ng x = b := ⟨_, rfl⟩
 obtain ⟨by', hby⟩ : ∃ b, ng y = b := ⟨_, rfl⟩
 rw [hX, hY] at h8
 rw [hX] at ca hXl hXv hXi hXm
 rw [hY] at cb hYl hYv hYi hYm
 rw [hbx] at ca hXi
 rw [hby] at cb hYi
 rw [hbx, hby] at hs
 have H8 := Lib.hid h8
 have HSG := Lib.hid hs
 have HD8 := Lib.hid hd
 clear h8 hs hd
 have CA := Lib.hid ca
 have CB := Lib.hid cb
 have HXY := Lib.hid (And.intro hXl (And.intro hYl (And.intro hXv (And.intro hYv (And.intro hXi (And.intro hYi (And.intro hXm (And.intro hYm (And.intro hbx hby)))))))))
 clear ca cb hx hy hXl hYl hXv hYv hXi hYi hXm hYm hX hY hbx hby ha hb
 obtain ⟨bz, hbz⟩ : ∃ b, ng (x + y) = b := ⟨_, rfl⟩
 obtain ⟨sz, hsz⟩ : ∃ s, mg (x + y) = s := ⟨_, rfl⟩
 rw [hbz, hsz]
 have HRES := Lib.hid (And.intro hbz hsz)
 clear hbz hsz
 go_enter Tryz.func29, Tryz.ntmps29
 go_upto_region 1 with fail
 obtain ⟨W0, hW0⟩ : ∃ W0, (((w.alloc (Obj.cells #[Value.bool na, Value.string sa] 23)).alloc (Obj.cells #[Value.bool nb, Value.string sb] 23)).alloc (Obj.cells #[Value.bool false, Value.string ⟨#[]⟩] 23)) = W0 := ⟨_, rfl⟩
 have hs0 : W0.heap.size = w.heap.size + 1 + 1 + 1 := by rw [← hW0]; simp
 have tA : Two w.heap.size (.bool na) (.string sa) W0 := by
  rw [← hW0]
  exact (two_new w _ _ _).below (B0 := w.heap.size + 1) (((Below.refl _ _).alloc (by simp) _).alloc (by simp) _) (by omega)
 have tB : Two (w.heap.size + 1) (.bool nb) (.string sb) W0 := by
  rw [← hW0]
  have h := two_new (w.alloc (Obj.cells #[Value.bool na, Value.string sa] 23)) (.bool nb) (.string sb) 23
  rw [World.size_alloc] at h
  exact h.below (B0 := w.heap.size + 1 + 1) ((Below.refl _ _).alloc (by simp) _) (by omega)
 have tR : Two (w.heap.size + 1 + 1) (.bool false) (.string ⟨#[]⟩) W0 := by
  rw [← hW0]
  have h := two_new ((w.alloc (Obj.cells #[Value.bool na, Value.string sa] 23)).alloc (Obj.cells #[Value.bool nb, Value.string sb] 23)) (.bool false) (.string ⟨#[]⟩) 23
  rw [World.size_alloc, World.size_alloc] at h
  exact h
 have b0 : Below w.heap.size w W0 := by
  rw [← hW0]
  exact (((Below.refl _ _).alloc (Nat.le_refl _) _).alloc (by simp) _).alloc (by simp; omega) _
 rw [hW0]
 have q1 : Two w.heap.size (.bool na) (.string sa) W0.drew := tA
 have q2 : Two (w.heap.size + 1) (.bool nb) (.string sb) W0.drew := tB
 have q3 : Two (w.heap.size + 1 + 1) (.bool false) (.string ⟨#[]⟩) W0.drew := tR
 have q5 : w.heap.size + 1 + 1 + 1 ≤ W0.drew.heap.size := by show _ ≤ W0.heap.size; omega
 have HQ := Lib.hid (And.intro q1 (And.intro q2 (And.intro q3 (And.intro b0.drew q5))))
 obtain ⟨⟨a1, a2⟩, a3, a4⟩ := q1
 obtain ⟨⟨b1, b2⟩, b3, b4⟩ := q2
 clear tA tB tR q3 b0 hs0 hW0 q5
 go_cut [] from 6 to 9 (fun wc => Two w.heap.size (.bool bx) (.string X) wc ∧ Two (w.heap.size + 1) (.bool by') (.string Y) wc ∧ Two (w.heap.size + 1 + 1) (.bool false) (.string ⟨#[]⟩) wc ∧ Below w.heap.size w wc)
 case first =>
  have tok1 : True := trivial
  go_region_with (first
   | (go_at_call 48; have _t := tok1; clear tok1; refine (CA.out _).mono ?_; intro e w1 h1; obtain ⟨he, hb1⟩ := h1; subst he; have H1 := Lib.hid hb1; have k1 := HQ.out.1.below hb1 (by have := HQ.out.2.2.2.2; omega); have k2 := HQ.out.2.1.below hb1 (by have := HQ.out.2.2.2.2; omega); obtain ⟨⟨k11, k12⟩, k13, k14⟩ := k1; obtain ⟨⟨k21, k22⟩, k23, k24⟩ := k2; clear hb1)
   | (go_at_call 48; refine (CB.out _).mono ?_; intro e w2 h2; obtain ⟨he, hb2⟩ := h2; subst he; have H2 := Lib.hid hb2; have l1 := (HQ.out.1.below H1.out (by have := HQ.out.2.2.2.2; omega)).below hb2 (by have := HQ.out.2.2.2.2; have := H1.out.size; omega); have l2 := (HQ.out.2.1.below H1.out (by have := HQ.out.2.2.2.2; omega)).below hb2 (by have := HQ.out.2.2.2.2; have := H1.out.size; omega); obtain ⟨⟨l11, l12⟩, l13, l14⟩ := l1; obtain ⟨⟨l21, l22⟩, l23, l24⟩ := l2; clear hb2))
  all_goals (go_wp2_with fail; go_meet)
  all_goals
   have m1 : Two w.heap.size (.bool na) (.string sa) w2 := ⟨⟨l11, l12⟩, l13, l14⟩
   have m2 : Two (w.heap.size + 1) (.bool nb) (.string sb) w2 := ⟨⟨l21, l22⟩, l23, l24⟩
   have m3 := (HQ.out.2.2.1.below H1.out (by have := HQ.out.2.2.2.2; omega)).below H2.out (by have := HQ.out.2.2.2.2; have := H1.out.size; omega)
   refine ⟨Two.other (Two.other (two_set m1 _ _) (by omega)) (by omega), two_set (Two.other (Two.other m2 (by omega)) (by omega)) _ _, Two.other (Two.other (Two.other (Two.other m3 (by omega)) (by omega)) (by omega)) (by omega), ?_⟩
   have s1 := HQ.out.2.2.2.2
   have s2 := H1.out.size
   exact ((((((HQ.out.2.2.2.1.trans (H1.out.mono (by omega))).trans (H2.out.mono (by omega))).setCell (by simp) _).setCell (by simp) _).setCell (by simp) _).setCell (by simp) _)
 case rest =>
  obtain ⟨t1, t2, t3, hb⟩ := hcut
  clear a1 a2 a3 a4 b1 b2 b3 b4
  have HQ := Lib.hid (And.intro t1 (And.intro t2 (And.intro t3 hb)))
  have HD := Lib.hid (show Two w.heap.size (.bool bx) (.string X) wc.drew ∧ Two (w.heap.size + 1) (.bool by') (.string Y) wc.drew ∧ Two (w.heap.size + 1 + 1) (.bool false) (.string ⟨#[]⟩) wc.drew from ⟨t1, t2, t3⟩)
  have lA := t1.lt
  have lB := t2.lt
  have lR := t3.lt
  have m1 := t1.1.1
  have m2 := t1.2.1
  have m3 := t2.1.1
  have m4 := t2.2.1
  have m5 := t3.1.1
  have m6 := t3.1.2
  have m7 := t3.2.1
  have m8 := t3.2.2
  have n1 : wc.drew.cell? ⟨w.heap.size, 0, none⟩ = some (.bool bx) := t1.1.1
  have n2 : wc.drew.cell? ⟨w.heap.size, 1, none⟩ = some (.string X) := t1.2.1
  have n3 : wc.drew.cell? ⟨w.heap.size + 1, 0, none⟩ = some (.bool by') := t2.1.1
  have n4 : wc.drew.cell? ⟨w.heap.size + 1, 1, none⟩ = some (.string Y) := t2.2.1
  have hsX : X.size < 8 → x.natAbs < 72057594037927936 := fun h => by
   have h1 := beVal_lt X.data.toList
   rw [HXY.out.2.2.1, ← Lib.size_eq] at h1
   exact Nat.lt_of_lt_of_le h1 (Nat.pow_le_pow_right (n := 256) (by omega) (show X.size ≤ 7 by omega))
  have hsY : Y.size < 8 → y.natAbs < 72057594037927936 := fun h => by
   have h1 := beVal_lt Y.data.toList
   rw [HXY.out.2.2.2.1, ← Lib.size_eq] at h1
   exact Nat.lt_of_lt_of_le h1 (Nat.pow_le_pow_right (n := 256) (by omega) (show Y.size ≤ 7 by omega))
  clear t1 t2 t3 hb
  clear hsX hsY
  by_cases h1 : X.size < 8
  ·have h2 : ¬ Y.size < 8 := fun h => H8.out ⟨h1, h⟩
   have hs := HSG.out
   clear HSG
   subst hs
   have hd := HD8.out
   have hc := fun W => rcmpMag_any x.natAbs y.natAbs W
   rw [← HXY.out.2.2.2.2.2.2.1, ← HXY.out.2.2.2.2.2.2.2.1] at hc
   rw [cmpZ_eq (by omega)] at hc
   have HC := Lib.hid hc
   have hz : bz = false ∧ sz = ⟨#[]⟩ := by
    have e1 := HXY.out.2.2.2.2.2.2.2.2.1
    have e2 := HXY.out.2.2.2.2.2.2.2.2.2
    have e3 : (x < 0 ∧ 0 ≤ y) ∨ (0 ≤ x ∧ y < 0) := by
     rw [← e1] at e2
     by_cases h1 : x < 0 <;> by_cases h2 : y < 0 <;> simp_all [ng] <;> omega
    have e : x + y = 0 := by omega
    refine ⟨by rw [← HRES.out.1, e]; rfl, by rw [← HRES.out.2, e]; rfl⟩
   have HZ := Lib.hid hz
   clear hz hc hd
   go_wp2_with fail
   refine (HC.out _).mono ?_
   rintro e w' ⟨rfl, rfl⟩
   go_wp2_with fail
   refine bodyPost_ret (v := .agg #[.bool false, .string ⟨#[]⟩]) (by simp [results, Tryz.results29, go_sem, m5, m7]) rfl ⟨by rw [HZ.out.1, HZ.out.2], ?_⟩
   exact (HQ.out.2.2.2.setCell (by show w.heap.size ≤ w.heap.size + 1 + 1; omega) _).setCell (by show w.heap.size ≤ w.heap.size + 1 + 1; omega) _
  ·have hs := HSG.out
   clear HSG
   subst hs
   have hd := HD8.out
   have hc := fun W => rcmpMag_any x.natAbs y.natAbs W
   rw [← HXY.out.2.2.2.2.2.2.1, ← HXY.out.2.2.2.2.2.2.2.1] at hc
   rw [cmpZ_eq (by omega)] at hc
   have HC := Lib.hid hc
   have hz : bz = false ∧ sz = ⟨#[]⟩ := by
    have e1 := HXY.out.2.2.2.2.2.2.2.2.1
    have e2 := HXY.out.2.2.2.2.2.2.2.2.2
    have e3 : (x < 0 ∧ 0 ≤ y) ∨ (0 ≤ x ∧ y < 0) := by
     rw [← e1] at e2
     by_cases h1 : x < 0 <;> by_cases h2 : y < 0 <;> simp_all [ng] <;> omega
    have e : x + y = 0 := by omega
    refine ⟨by rw [← HRES.out.1, e]; rfl, by rw [← HRES.out.2, e]; rfl⟩
   have HZ := Lib.hid hz
   clear hz hc hd
   go_wp2_with fail
   refine (HC.out _).mono ?_
   rintro e w' ⟨rfl, rfl⟩
   go_wp2_with fail
   refine bodyPost_ret (v := .agg #[.bool false, .string ⟨#[]⟩]) (by simp [results, Tryz.results29, go_sem, m5, m7]) rfl ⟨by rw [HZ.out.1, HZ.out.2], ?_⟩
   exact (HQ.out.2.2.2.setCell (by show w.heap.size ≤ w.heap.size + 1 + 1; omega) _).setCell (by show w.heap.size ≤ w.heap.size + 1 + 1; omega) _

end Go.Proofs.YtajollhpimfefaaGreatDoor

namespace Go.Proofs.YtajollhpimfefaaGreatDoor
open Go.RowKit Go.Shelf

set_option maxHeartbeats 40000000 in
set_option maxRecDepth 100000 in
theorem radd_gt (na nb : Bool) (sa sb : ByteArray) (w : World) (ha : sa.size ≤ 100000) (hb : sb.size ≤ 100000) (h8 : ¬ ((mg (ival na sa)).size < 8 ∧ (mg (ival nb sb)).size < 8)) (hs : ng (ival nb sb) = !ng (ival na sa)) (hd : (ival nb sb).natAbs < (ival na sa).natAbs) :
  Calls Tryz.prog 29 #[.agg #[.bool na, .string sa], .agg #[.bool nb, .string sb]] w fun e w' => e = .returned (.agg #[.bool (ng (ival na sa + ival nb sb)), .string (mg (ival na sa + ival nb sb))]) ∧ Below w.heap.size w w' := by
 obtain ⟨x, hx⟩ : ∃ x, x = ival na sa := ⟨_, rfl⟩
 obtain ⟨y, hy⟩ : ∃ y, y = ival nb sb := ⟨_, rfl⟩
 have ca := fun W => rcanonical_any na sa W
 have cb := fun W => rcanonical_any nb sb W
 rw [← hx] at ca
 rw [← hy] at cb
 rw [← hx, ← hy]
 rw [← hx, ← hy] at h8 hs hd
 have hXl : (mg x).size ≤ 100000 := by rw [hx]; exact mg_le na sa _ ha
 have hYl : (mg y).size ≤ 100000 := by rw [hy]; exact mg_le nb sb _ hb
 have hXv := mg_val x
 have hYv := mg_val y
 have hXi := ival_mg x
 have hYi := ival_mg y
 have hXm : mg x = ⟨(be x.natAbs).toArray⟩ := rfl
 have hYm : mg y = ⟨(be y.natAbs).toArray⟩ := rfl
 obtain ⟨X, hX⟩ : ∃ X, mg x = X := ⟨_, rfl⟩
 obtain ⟨Y, hY⟩ : ∃ Y, mg y = Y := ⟨_, rfl⟩
 obtain ⟨bx, hbx⟩ : ∃ b, ng x = b := ⟨_, rfl⟩
 obtain ⟨by', hby⟩ : ∃ b, ng y = b := ⟨_, rfl⟩
 rw [hX, hY] at h8
 rw [hX] at ca hXl hXv hXi hXm
 rw [hY] at cb hYl hYv hYi hYm
 rw [hbx] at ca hXi
 rw [hby] at cb hYi
 rw [hbx, hby] at hs
 have H8 := Lib.hid h8
 have HSG := Lib.hid hs
 have HD8 := Lib.hid hd
 clear h8 hs hd
 have CA := Lib.hid ca
 have CB := Lib.hid cb
 have HXY := Lib.hid (And.intro hXl (And.intro hYl (And.intro hXv (And.intro hYv (And.intro hXi (And.intro hYi (And.intro hXm (And.intro hYm (And.intro hbx hby)))))))))
 clear ca cb hx hy hXl hYl hXv hYv hXi hYi hXm hYm hX hY hbx hby ha hb
 obtain ⟨bz, hbz⟩ : ∃ b, ng (x + y) = b := ⟨_, rfl⟩
 obtain ⟨sz, hsz⟩ : ∃ s, mg (x + y) = s := ⟨_, rfl⟩
 rw [hbz, hsz]
 have HRES := Lib.hid (And.intro hbz hsz)
 clear hbz hsz
 go_enter Tryz.func29, Tryz.ntmps29
 go_upto_region 1 with fail
 obtain ⟨W0, hW0⟩ : ∃ W0, (((w.alloc (Obj.cells #[Value.bool na, Value.string sa] 23)).alloc (Obj.cells #[Value.bool nb, Value.string sb] 23)).alloc (Obj.cells #[Value.bool false, Value.string ⟨#[]⟩] 23)) = W0 := ⟨_, rfl⟩
 have hs0 : W0.heap.size = w.heap.size + 1 + 1 + 1 := by rw [← hW0]; simp
 have tA : Two w.heap.size (.bool na) (.string sa) W0 := by
  rw [← hW0]
  exact (two_new w _ _ _).below (B0 := w.heap.size + 1) (((Below.refl _ _).alloc (by simp) _).alloc (by simp) _) (by omega)
 have tB : Two (w.heap.size + 1) (.bool nb) (.string sb) W0 := by
  rw [← hW0]
  have h := two_new (w.alloc (Obj.cells #[Value.bool na, Value.string sa] 23)) (.bool nb) (.string sb) 23
  rw [World.size_alloc] at h
  exact h.below (B0 := w.heap.size + 1 + 1) ((Below.refl _ _).alloc (by simp) _) (by omega)
 have tR : Two (w.heap.size + 1 + 1) (.bool false) (.string ⟨#[]⟩) W0 := by
  rw [← hW0]
  have h := two_new ((w.alloc (Obj.cells #[Value.bool na, Value.string sa] 23)).alloc (Obj.cells #[Value.bool nb, Value.string sb] 23)) (.bool false) (.string ⟨#[]⟩) 23
  rw [World.size_alloc, World.size_alloc] at h
  exact h
 have b0 : Below w.heap.size w W0 := by
  rw [← hW0]
  exact (((Below.refl _ _).alloc (Nat.le_refl _) _).alloc (by simp) _).alloc (by simp; omega) _
 rw [hW0]
 have q1 : Two w.heap.size (.bool na) (.string sa) W0.drew := tA
 have q2 : Two (w.heap.size + 1) (.bool nb) (.string sb) W0.drew := tB
 have q3 : Two (w.heap.size + 1 + 1) (.bool false) (.string ⟨#[]⟩) W0.drew := tR
 have q5 : w.heap.size + 1 + 1 + 1 ≤ W0.drew.heap.size := by show _ ≤ W0.heap.size; omega
 have HQ := Lib.hid (And.intro q1 (And.intro q2 (And.intro q3 (And.intro b0.drew q5))))
 obtain ⟨⟨a1, a2⟩, a3, a4⟩ := q1
 obtain ⟨⟨b1, b2⟩, b3, b4⟩ := q2
 clear tA tB tR q3 b0 hs0 hW0 q5
 go_cut [] from 6 to 9 (fun wc => Two w.heap.size (.bool bx) (.string X) wc ∧ Two (w.heap.size + 1) (.bool by') (.string Y) wc ∧ Two (w.heap.size + 1 + 1) (.bool false) (.string ⟨#[]⟩) wc ∧ Below w.heap.size w wc)
 case first =>
  have tok1 : True := trivial
  go_region_with (first
   | (go_at_call 48; have _t := tok1; clear tok1; refine (CA.out _).mono ?_; intro e w1 h1; obtain ⟨he, hb1⟩ := h1; subst he; have H1 := Lib.hid hb1; have k1 := HQ.out.1.below hb1 (by have := HQ.out.2.2.2.2; omega); have k2 := HQ.out.2.1.below hb1 (by have := HQ.out.2.2.2.2; omega); obtain ⟨⟨k11, k12⟩, k13, k14⟩ := k1; obtain ⟨⟨k21, k22⟩, k23, k24⟩ := k2; clear hb1)
   | (go_at_call 48; refine (CB.out _).mono ?_; intro e w2 h2; obtain ⟨he, hb2⟩ := h2; subst he; have H2 := Lib.hid hb2; have l1 := (HQ.out.1.below H1.out (by have := HQ.out.2.2.2.2; omega)).below hb2 (by have := HQ.out.2.2.2.2; have := H1.out.size; omega); have l2 := (HQ.out.2.1.below H1.out (by have := HQ.out.2.2.2.2; omega)).below hb2 (by have := HQ.out.2.2.2.2; have := H1.out.size; omega); obtain ⟨⟨l11, l12⟩, l13, l14⟩ := l1; obtain ⟨⟨l21, l22⟩, l23, l24⟩ := l2; clear hb2))
  all_goals (go_wp2_with fail; go_meet)
  all_goals
   have m1 : Two w.heap.size (.bool na) (.string sa) w2 := ⟨⟨l11, l12⟩, l13, l14⟩
   have m2 : Two (w.heap.size + 1) (.bool nb) (.string sb) w2 := ⟨⟨l21, l22⟩, l23, l24⟩
   have m3 := (HQ.out.2.2.1.below H1.out (by have := HQ.out.2.2.2.2; omega)).below H2.out (by have := HQ.out.2.2.2.2; have := H1.out.size; omega)
   refine ⟨Two.other (Two.other (two_set m1 _ _) (by omega)) (by omega), two_set (Two.other (Two.other m2 (by omega)) (by omega)) _ _, Two.other (Two.other (Two.other (Two.other m3 (by omega)) (by omega)) (by omega)) (by omega), ?_⟩
   have s1 := HQ.out.2.2.2.2
   have s2 := H1.out.size
   exact ((((((HQ.out.2.2.2.1.trans (H1.out.mono (by omega))).trans (H2.out.mono (by omega))).setCell (by simp) _).setCell (by simp) _).setCell (by simp) _).setCell (by simp) _)
 case rest =>
  obtain ⟨t1, t2, t3, hb⟩ := hcut
  clear a1 a2 a3 a4 b1 b2 b3 b4
  have HQ := Lib.hid (And.intro t1 (And.intro t2 (And.intro t3 hb)))
  have HD := Lib.hid (show Two w.heap.size (.bool bx) (.string X) wc.drew ∧ Two (w.heap.size + 1) (.bool by') (.string Y) wc.drew ∧ Two (w.heap.size + 1 + 1) (.bool false) (.string ⟨#[]⟩) wc.drew from ⟨t1, t2, t3⟩)
  have lA := t1.lt
  have lB := t2.lt
  have lR := t3.lt
  have m1 := t1.1.1
  have m2 := t1.2.1
  have m3 := t2.1.1
  have m4 := t2.2.1
  have m5 := t3.1.1
  have m6 := t3.1.2
  have m7 := t3.2.1
  have m8 := t3.2.2
  have n1 : wc.drew.cell? ⟨w.heap.size, 0, none⟩ = some (.bool bx) := t1.1.1
  have n2 : wc.drew.cell? ⟨w.heap.size, 1, none⟩ = some (.string X) := t1.2.1
  have n3 : wc.drew.cell? ⟨w.heap.size + 1, 0, none⟩ = some (.bool by') := t2.1.1
  have n4 : wc.drew.cell? ⟨w.heap.size + 1, 1, none⟩ = some (.string Y) := t2.2.1
  have hsX : X.size < 8 → x.natAbs < 72057594037927936 := fun h => by
   have h1 := beVal_lt X.data.toList
   rw [HXY.out.2.2.1, ← Lib.size_eq] at h1
   exact Nat.lt_of_lt_of_le h1 (Nat.pow_le_pow_right (n := 256) (by omega) (show X.size ≤ 7 by omega))
  have hsY : Y.size < 8 → y.natAbs < 72057594037927936 := fun h => by
   have h1 := beVal_lt Y.data.toList
   rw [HXY.out.2.2.2.1, ← Lib.size_eq] at h1
   exact Nat.lt_of_lt_of_le h1 (Nat.pow_le_pow_right (n := 256) (by omega) (show Y.size ≤ 7 by omega))
  clear t1 t2 t3 hb
  clear hsX hsY
  by_cases h1 : X.size < 8
  ·have h2 : ¬ Y.size < 8 := fun h => H8.out ⟨h1, h⟩
   have hs := HSG.out
   clear HSG
   subst hs
   have hd := HD8.out
   have hc := fun W => rcmpMag_any x.natAbs y.natAbs W
   rw [← HXY.out.2.2.2.2.2.2.1, ← HXY.out.2.2.2.2.2.2.2.1] at hc
   rw [cmpZ_gt (by omega)] at hc
   have HC := Lib.hid hc
   have hz : bz = bx ∧ sz = ⟨(be (beVal X.data.toList - beVal Y.data.toList)).toArray⟩ := by
    have e1 := HXY.out.2.2.2.2.2.2.2.2.1
    have e2 := HXY.out.2.2.2.2.2.2.2.2.2
    have e3 : (x < 0 ∧ 0 ≤ y) ∨ (0 ≤ x ∧ y < 0) := by
     rw [← e1] at e2
     by_cases h1 : x < 0 <;> by_cases h2 : y < 0 <;> simp_all [ng] <;> omega
    refine ⟨by rw [← HRES.out.1, ← e1]; simp only [ng, decide_eq_decide]; omega, ?_⟩
    rw [← HRES.out.2, HXY.out.2.2.1, HXY.out.2.2.2.1, mg, show (x + y).natAbs = x.natAbs - y.natAbs by omega]
   have HS := Lib.hid (fun W => subMag_any X Y W HXY.out.1 HXY.out.2.1 (by rw [HXY.out.2.2.1, HXY.out.2.2.2.1]; omega))
   have HZ := Lib.hid hz
   clear hz hc hd
   go_wp2_with fail
   refine (HC.out _).mono ?_
   rintro e w' ⟨rfl, rfl⟩
   have H0s := Lib.hid (show wc.heap.size ≤ wc.drew.heap.size from Nat.le_refl _)
   have tok1 : True := trivial
   go_wp2_with fail
   go_region_held3 (fun w' => w'.cell? ⟨w.heap.size, 0, none⟩ = some (.bool bx) ∧ w'.cell? ⟨w.heap.size, 1, none⟩ = some (.string X) ∧ w'.cell? ⟨w.heap.size + 1, 0, none⟩ = some (.bool (!bx)) ∧ w'.cell? ⟨w.heap.size + 1, 1, none⟩ = some (.string Y)) (refine ⟨?_, ?_, ?_, ?_⟩ <;> (first | assumption | (rw [World.cell?_setCell_other _ _ _ _ (by intro e; have := congrArg Addr.block e; simp at this <;> omega), World.cell?_setCell_other _ _ _ _ (by intro e; have := congrArg Addr.block e; simp at this <;> omega)]; assumption))) (first | (go_at_call 63; have _t := tok1; clear tok1; refine (HS.out _).mono ?_; intro e u1 h1; obtain ⟨he, d1⟩ := h1; subst he; have H1 := Lib.hid d1; have k0 := HD.out.1.below d1 (by have := H0s.out; omega); obtain ⟨⟨k011, k012⟩, k013, k014⟩ := k0; have k1 := HD.out.2.1.below d1 (by have := H0s.out; omega); obtain ⟨⟨k111, k112⟩, k113, k114⟩ := k1; have k2 := HD.out.2.2.below d1 (by have := H0s.out; omega); obtain ⟨⟨k211, k212⟩, k213, k214⟩ := k2; have H1s := Lib.hid (show wc.heap.size ≤ u1.heap.size by have h1 := H0s.out; have h2 := d1.size; omega); clear d1))
   all_goals go_wp2_with fail
   all_goals refine bodyPost_ret (v := .agg #[.bool bx, .string ⟨(be (beVal X.data.toList - beVal Y.data.toList)).toArray⟩]) (by simp [results, Tryz.results29, go_sem, k211, k213]) rfl ⟨by rw [HZ.out.1, HZ.out.2], ?_⟩
   all_goals exact (((HQ.out.2.2.2.drew).trans (H1.out.mono (by have h1 := HQ.out.2.2.2.size; have h2 := H0s.out; omega))).setCell (by show w.heap.size ≤ w.heap.size + 1 + 1; omega) _).setCell (by show w.heap.size ≤ w.heap.size + 1 + 1; omega) _
  ·have hs := HSG.out
   clear HSG
   subst hs
   have hd := HD8.out
   have hc := fun W => rcmpMag_any x.natAbs y.natAbs W
   rw [← HXY.out.2.2.2.2.2.2.1, ← HXY.out.2.2.2.2.2.2.2.1] at hc
   rw [cmpZ_gt (by omega)] at hc
   have HC := Lib.hid hc
   have hz : bz = bx ∧ sz = ⟨(be (beVal X.data.toList - beVal Y.data.toList)).toArray⟩ := by
    have e1 := HXY.out.2.2.2.2.2.2.2.2.1
    have e2 := HXY.out.2.2.2.2.2.2.2.2.2
    have e3 : (x < 0 ∧ 0 ≤ y) ∨ (0 ≤ x ∧ y < 0) := by
     rw [← e1] at e2
     by_cases h1 : x < 0 <;> by_cases h2 : y < 0 <;> simp_all [ng] <;> omega
    refine ⟨by rw [← HRES.out.1, ← e1]; simp only [ng, decide_eq_decide]; omega, ?_⟩
    rw [← HRES.out.2, HXY.out.2.2.1, HXY.out.2.2.2.1, mg, show (x + y).natAbs = x.natAbs - y.natAbs by omega]
   have HS := Lib.hid (fun W => subMag_any X Y W HXY.out.1 HXY.out.2.1 (by rw [HXY.out.2.2.1, HXY.out.2.2.2.1]; omega))
   have HZ := Lib.hid hz
   clear hz hc hd
   go_wp2_with fail
   refine (HC.out _).mono ?_
   rintro e w' ⟨rfl, rfl⟩
   have H0s := Lib.hid (show wc.heap.size ≤ wc.drew.heap.size from Nat.le_refl _)
   have tok1 : True := trivial
   go_wp2_with fail
   go_region_held3 (fun w' => w'.cell? ⟨w.heap.size, 0, none⟩ = some (.bool bx) ∧ w'.cell? ⟨w.heap.size, 1, none⟩ = some (.string X) ∧ w'.cell? ⟨w.heap.size + 1, 0, none⟩ = some (.bool (!bx)) ∧ w'.cell? ⟨w.heap.size + 1, 1, none⟩ = some (.string Y)) (refine ⟨?_, ?_, ?_, ?_⟩ <;> (first | assumption | (rw [World.cell?_setCell_other _ _ _ _ (by intro e; have := congrArg Addr.block e; simp at this <;> omega), World.cell?_setCell_other _ _ _ _ (by intro e; have := congrArg Addr.block e; simp at this <;> omega)]; assumption))) (first | (go_at_call 63; have _t := tok1; clear tok1; refine (HS.out _).mono ?_; intro e u1 h1; obtain ⟨he, d1⟩ := h1; subst he; have H1 := Lib.hid d1; have k0 := HD.out.1.below d1 (by have := H0s.out; omega); obtain ⟨⟨k011, k012⟩, k013, k014⟩ := k0; have k1 := HD.out.2.1.below d1 (by have := H0s.out; omega); obtain ⟨⟨k111, k112⟩, k113, k114⟩ := k1; have k2 := HD.out.2.2.below d1 (by have := H0s.out; omega); obtain ⟨⟨k211, k212⟩, k213, k214⟩ := k2; have H1s := Lib.hid (show wc.heap.size ≤ u1.heap.size by have h1 := H0s.out; have h2 := d1.size; omega); clear d1))
   all_goals go_wp2_with fail
   all_goals refine bodyPost_ret (v := .agg #[.bool bx, .string ⟨(be (beVal X.data.toList - beVal Y.data.toList)).toArray⟩]) (by simp [results, Tryz.results29, go_sem, k211, k213]) rfl ⟨by rw [HZ.out.1, HZ.out.2], ?_⟩
   all_goals exact (((HQ.out.2.2.2.drew).trans (H1.out.mono (by have h1 := HQ.out.2.2.2.size; have h2 := H0s.out; omega))).setCell (by show w.heap.size ≤ w.heap.size + 1 + 1; omega) _).setCell (by show w.heap.size ≤ w.heap.size + 1 + 1; omega) _

end Go.Proofs.YtajollhpimfefaaGreatDoor

namespace Go.Proofs.YtajollhpimfefaaGreatDoor
open Go.RowKit Go.Shelf

set_option maxHeartbeats 40000000 in
set_option maxRecDepth 100000 in
theorem radd_any (na nb : Bool) (sa sb : ByteArray) (w : World) (ha : sa.size ≤ 100000) (hb : sb.size ≤ 100000) :
  Calls Tryz.prog 29 #[.agg #[.bool na, .string sa], .agg #[.bool nb, .string sb]] w fun e w' => e = .returned (.agg #[.bool (ng (ival na sa + ival nb sb)), .string (mg (ival na sa + ival nb sb))]) ∧ Below w.heap.size w w' := by
 by_cases h8 : (mg (ival na sa)).size < 8 ∧ (mg (ival nb sb)).size < 8
 ·exact radd_small na nb sa sb w ha hb h8
 ·by_cases hs : ng (ival na sa) = ng (ival nb sb)
  ·exact radd_same na nb sa sb w ha hb h8 hs
  ·have hs' : ng (ival nb sb) = !ng (ival na sa) := by
    cases h1 : ng (ival na sa) <;> cases h2 : ng (ival nb sb) <;> simp_all
   rcases Nat.lt_trichotomy (ival na sa).natAbs (ival nb sb).natAbs with h | h | h
   ·exact radd_lt na nb sa sb w ha hb h8 hs' h
   ·exact radd_eq na nb sa sb w ha hb h8 hs' h
   ·exact radd_gt na nb sa sb w ha hb h8 hs' h

set_option maxHeartbeats 40000000 in
set_option maxRecDepth 100000 in
theorem rsub_any (na nb : Bool) (sa sb : ByteArray) (w : World) (ha : sa.size ≤ 100000) (hb : sb.size ≤ 100000) :
  Calls Tryz.prog 31 #[.agg #[.bool na, .string sa], .agg #[.bool nb, .string sb]] w fun e w' => e = .returned (.agg #[.bool (ng (ival na sa - ival nb sb)), .string (mg (ival na sa - ival nb sb))]) ∧ Below w.heap.size w w' := by
 obtain ⟨bn, hbn⟩ : ∃ b, ng (-ival nb sb) = b := ⟨_, rfl⟩
 obtain ⟨sn, hsn⟩ : ∃ s, mg (-ival nb sb) = s := ⟨_, rfl⟩
 have hn := fun W => rneg_any nb sb W
 rw [hbn, hsn] at hn
 have hadd := fun W => radd_any na bn sa sn W ha (by rw [← hsn, mg_neg]; exact mg_le _ _ _ hb)
 have hv : ival bn sn = -ival nb sb := by rw [← hbn, ← hsn, ival_mg]
 rw [hv, ← Int.sub_eq_add_neg] at hadd
 obtain ⟨bz, hbz⟩ : ∃ b, ng (ival na sa - ival nb sb) = b := ⟨_, rfl⟩
 obtain ⟨sz, hsz⟩ : ∃ s, mg (ival na sa - ival nb sb) = s := ⟨_, rfl⟩
 rw [hbz, hsz] at hadd
 rw [hbz, hsz]
 have HN := Lib.hid hn
 have HA := Lib.hid hadd
 clear hn hadd hv hbn hsn hbz hsz ha hb
 go_enter Tryz.func31, Tryz.ntmps31
 go_upto_region 1 with fail
 obtain ⟨W0, hW0⟩ : ∃ W0, (((w.alloc (Obj.cells #[Value.bool na, Value.string sa] 23)).alloc (Obj.cells #[Value.bool nb, Value.string sb] 23)).alloc (Obj.cells #[Value.bool false, Value.string ⟨#[]⟩] 23)) = W0 := ⟨_, rfl⟩
 have hs0 : W0.heap.size = w.heap.size + 1 + 1 + 1 := by rw [← hW0]; simp
 have tA : Two w.heap.size (.bool na) (.string sa) W0 := by
  rw [← hW0]
  exact (two_new w _ _ _).below (B0 := w.heap.size + 1) (((Below.refl _ _).alloc (by simp) _).alloc (by simp) _) (by omega)
 have tB : Two (w.heap.size + 1) (.bool nb) (.string sb) W0 := by
  rw [← hW0]
  have h := two_new (w.alloc (Obj.cells #[Value.bool na, Value.string sa] 23)) (.bool nb) (.string sb) 23
  rw [World.size_alloc] at h
  exact h.below (B0 := w.heap.size + 1 + 1) ((Below.refl _ _).alloc (by simp) _) (by omega)
 have tR : Two (w.heap.size + 1 + 1) (.bool false) (.string ⟨#[]⟩) W0 := by
  rw [← hW0]
  have h := two_new ((w.alloc (Obj.cells #[Value.bool na, Value.string sa] 23)).alloc (Obj.cells #[Value.bool nb, Value.string sb] 23)) (.bool false) (.string ⟨#[]⟩) 23
  rw [World.size_alloc, World.size_alloc] at h
  exact h
 have b0 : Below w.heap.size w W0 := by
  rw [← hW0]
  exact (((Below.refl _ _).alloc (Nat.le_refl _) _).alloc (by simp) _).alloc (by simp; omega) _
 rw [hW0]
 have q1 : Two w.heap.size (.bool na) (.string sa) W0.drew := tA
 have q2 : Two (w.heap.size + 1) (.bool nb) (.string sb) W0.drew := tB
 have q3 : Two (w.heap.size + 1 + 1) (.bool false) (.string ⟨#[]⟩) W0.drew := tR
 have q5 : w.heap.size + 1 + 1 + 1 ≤ W0.drew.heap.size := by show _ ≤ W0.heap.size; omega
 have HQ := Lib.hid (And.intro q1 (And.intro q2 (And.intro q3 (And.intro b0.drew q5))))
 obtain ⟨⟨a1, a2⟩, a3, a4⟩ := q1
 obtain ⟨⟨b1, b2⟩, b3, b4⟩ := q2
 clear tA tB tR q3 b0 hs0 hW0 q5
 have tok1 : True := trivial
 go_region_with (first
  | (go_at_call 23; have _t := tok1; clear tok1; refine (HN.out _).mono ?_; intro e u1 h1; obtain ⟨he, d1⟩ := h1; subst he; have H1 := Lib.hid d1; have k1 := HQ.out.1.below d1 (by have := HQ.out.2.2.2.2; omega); obtain ⟨⟨k11, k12⟩, k13, k14⟩ := k1; clear d1)
  | (go_at_call 29; refine (HA.out _).mono ?_; intro e u2 h2; obtain ⟨he, d2⟩ := h2; subst he; have H2 := Lib.hid d2; have k3 := (HQ.out.2.2.1.below H1.out (by have := HQ.out.2.2.2.2; omega)).below d2 (by have := HQ.out.2.2.2.2; have := H1.out.size; omega); obtain ⟨⟨k31, k32⟩, k33, k34⟩ := k3; clear d2))
 all_goals go_wp2_with fail
 all_goals refine bodyPost_ret (v := .agg #[.bool bz, .string sz]) (by simp [results, Tryz.results31, go_sem, k31, k33]) rfl ⟨rfl, ?_⟩
 all_goals exact ((((HQ.out.2.2.2.1.trans (H1.out.mono (by have := HQ.out.2.2.2.2; omega))).trans (H2.out.mono (by have := HQ.out.2.2.2.2; have := H1.out.size; omega))).setCell (by show w.heap.size ≤ w.heap.size + 1 + 1; omega) _).setCell (by show w.heap.size ≤ w.heap.size + 1 + 1; omega) _)

end Go.Proofs.YtajollhpimfefaaGreatDoor
