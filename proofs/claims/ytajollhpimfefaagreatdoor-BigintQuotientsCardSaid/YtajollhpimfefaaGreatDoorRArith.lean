/- A bound of magnitudes. The contract of the reference's Add: small numbers. The contract of the reference's Mul: zeros, small numbers. -/
import Derived.Test.YtajollhpimfefaaGreatDoorRMul
namespace Go.Proofs.YtajollhpimfefaaGreatDoor
open Go.RowKit Go.Shelf

theorem mg_le (n : Bool) (s : ByteArray) (k : Nat) (h : s.size ≤ k) : (mg (ival n s)).size ≤ k := by
 rw [mg_len, ival_abs]
 have h1 := beVal_lt s.data.toList
 rw [← Lib.size_eq] at h1
 exact Nat.le_trans (be_length_le _ _ h1) h

end Go.Proofs.YtajollhpimfefaaGreatDoor

namespace Go.Proofs.YtajollhpimfefaaGreatDoor
open Go.RowKit Go.Shelf

set_option maxHeartbeats 40000000 in
set_option maxRecDepth 100000 in
theorem radd_small (na nb : Bool) (sa sb : ByteArray) (w : World) (ha : sa.size ≤ 100000) (hb : sb.size ≤ 100000) (h8 : (mg (ival na sa)).size < 8 ∧ (mg (ival nb sb)).size < 8) :
  Calls Tryz.prog 29 #[.agg #[.bool na, .string sa], .agg #[.bool nb, .string sb]] w fun e w' => e = .returned (.agg #[.bool (ng (ival na sa + ival nb sb)), .string (mg (ival na sa + ival nb sb))]) ∧ Below w.heap.size w w' := by
 obtain ⟨x, hx⟩ : ∃ x, x = ival na sa := ⟨_, rfl⟩
 obtain ⟨y, hy⟩ : ∃ y, y = ival nb sb := ⟨_, rfl⟩
 have ca := fun W => rcanonical_any na sa W
 have cb := fun W => rcanonical_any nb sb W
 rw [← hx] at ca
 rw [← hy] at cb
 rw [← hx, ← hy]
 rw [← hx, ← hy] at h8
 have hXl : (mg x).size ≤ 100000 := by rw [hx]; exact mg_le na sa _ ha
 have hYl : (mg y).size ≤ 100000 := by rw [hy]; exact mg_le nb sb _ hb
 have hXv := mg_val x
 have hYv := mg_val y
 have hXi := ival_mg x
 have hYi := ival_mg y
 have hXm : mg x = ⟨(be x.natAbs).toArray⟩ := rfl
 have hYm : mg y = ⟨(be y.natAbs).toArray⟩ := rfl
 obtain ⟨X, hX⟩ : ∃ X, mg x = X := ⟨_, rfl⟩
 obtain ⟨Y, hY⟩ : ∃ Y, mg y = Y := ⟨_, rfl⟩
 obtain ⟨bx, hbx⟩ : ∃ b, ng x = b := ⟨_, rfl⟩
 obtain ⟨by', hby⟩ : ∃ b, ng y = b := ⟨_, rfl⟩
 rw [hX, hY] at h8
 rw [hX] at ca hXl hXv hXi hXm
 rw [hY] at cb hYl hYv hYi hYm
 rw [hbx] at ca hXi
 rw [hby] at cb hYi
 have CA := Lib.hid ca
 have CB := Lib.hid cb
 have HXY := Lib.hid (And.intro hXl (And.intro hYl (And.intro hXv (And.intro hYv (And.intro hXi (And.intro hYi (And.intro hXm (And.intro hYm (And.intro hbx hby)))))))))
 clear ca cb hx hy hXl hYl hXv hYv hXi hYi hXm hYm hX hY hbx hby ha hb
 obtain ⟨bz, hbz⟩ : ∃ b, ng (x + y) = b := ⟨_, rfl⟩
 obtain ⟨sz, hsz⟩ : ∃ s, mg (x + y) = s := ⟨_, rfl⟩
 rw [hbz, hsz]
 have HRES := Lib.hid (And.intro hbz hsz)
 clear hbz hsz
 go_enter Tryz.func29, Tryz.ntmps29
 go_upto_region 1 with fail
 obtain ⟨W0, hW0⟩ : ∃ W0, (((w.alloc (Obj.cells #[Value.bool na, Value.string sa] 23)).alloc (Obj.cells #[Value.bool nb, Value.string sb] 23)).alloc (Obj.cells #[Value.bool false, Value.string ⟨#[]⟩] 23)) = W0 := ⟨_, rfl⟩
 have hs0 : W0.heap.size = w.heap.size + 1 + 1 + 1 := by rw [← hW0]; simp
 have tA : Two w.heap.size (.bool na) (.string sa) W0 := by
  rw [← hW0]
  exact (two_new w _ _ _).below (B0 := w.heap.size + 1) (((Below.refl _ _).alloc (by simp) _).alloc (by simp) _) (by omega)
 have tB : Two (w.heap.size + 1) (.bool nb) (.string sb) W0 := by
  rw [← hW0]
  have h := two_new (w.alloc (Obj.cells #[Value.bool na, Value.string sa] 23)) (.bool nb) (.string sb) 23
  rw [World.size_alloc] at h
  exact h.below (B0 := w.heap.size + 1 + 1) ((Below.refl _ _).alloc (by simp) _) (by omega)
 have tR : Two (w.heap.size + 1 + 1) (.bool false) (.string ⟨#[]⟩) W0 := by
  rw [← hW0]
  have h := two_new ((w.alloc (Obj.cells #[Value.bool na, Value.string sa] 23)).alloc (Obj.cells #[Value.bool nb, Value.string sb] 23)) (.bool false) (.string ⟨#[]⟩) 23
  rw [World.size_alloc, World.size_alloc] at h
  exact h
 have b0 : Below w.heap.size w W0 := by
  rw [← hW0]
  exact (((Below.refl _ _).alloc (Nat.le_refl _) _).alloc (by simp) _).alloc (by simp; omega) _
 rw [hW0]
 have q1 : Two w.heap.size (.bool na) (.string sa) W0.drew := tA
 have q2 : Two (w.heap.size + 1) (.bool nb) (.string sb) W0.drew := tB
 have q3 : Two (w.heap.size + 1 + 1) (.bool false) (.string ⟨#[]⟩) W0.drew := tR
 have q5 : w.heap.size + 1 + 1 + 1 ≤ W0.drew.heap.size := by show _ ≤ W0.heap.size; omega
 have HQ := Lib.hid (And.intro q1 (And.intro q2 (And.intro q3 (And.intro b0.drew q5))))
 obtain ⟨⟨a1, a2⟩, a3, a4⟩ := q1
 obtain ⟨⟨b1, b2⟩, b3, b4⟩ := q2
 clear tA tB tR q3 b0 hs0 hW0 q5
 go_cut [] from 6 to 9 (fun wc => Two w.heap.size (.bool bx) (.string X) wc ∧ Two (w.heap.size + 1) (.bool by') (.string Y) wc ∧ Two (w.heap.size + 1 + 1) (.bool false) (.string ⟨#[]⟩) wc ∧ Below w.heap.size w wc)
 case first =>
  have tok1 : True := trivial
  go_region_with (first
   | (go_at_call 48; have _t := tok1; clear tok1; refine (CA.out _).mono ?_; intro e w1 h1; obtain ⟨he, hb1⟩ := h1; subst he; have H1 := Lib.hid hb1; have k1 := HQ.out.1.below hb1 (by have := HQ.out.2.2.2.2; omega); have k2 := HQ.out.2.1.below hb1 (by have := HQ.out.2.2.2.2; omega); obtain ⟨⟨k11, k12⟩, k13, k14⟩ := k1; obtain ⟨⟨k21, k22⟩, k23, k24⟩ := k2; clear hb1)
   | (go_at_call 48; refine (CB.out _).mono ?_; intro e w2 h2; obtain ⟨he, hb2⟩ := h2; subst he; have H2 := Lib.hid hb2; have l1 := (HQ.out.1.below H1.out (by have := HQ.out.2.2.2.2; omega)).below hb2 (by have := HQ.out.2.2.2.2; have := H1.out.size; omega); have l2 := (HQ.out.2.1.below H1.out (by have := HQ.out.2.2.2.2; omega)).below hb2 (by have := HQ.out.2.2.2.2; have := H1.out.size; omega); obtain ⟨⟨l11, l12⟩, l13, l14⟩ := l1; obtain ⟨⟨l21, l22⟩, l23, l24⟩ := l2; clear hb2))
  all_goals (go_wp2_with fail; go_meet)
  all_goals
   have m1 : Two w.heap.size (.bool na) (.string sa) w2 := ⟨⟨l11, l12⟩, l13, l14⟩
   have m2 : Two (w.heap.size + 1) (.bool nb) (.string sb) w2 := ⟨⟨l21, l22⟩, l23, l24⟩
   have m3 := (HQ.out.2.2.1.below H1.out (by have := HQ.out.2.2.2.2; omega)).below H2.out (by have := HQ.out.2.2.2.2; have := H1.out.size; omega)
   refine ⟨Two.other (Two.other (two_set m1 _ _) (by omega)) (by omega), two_set (Two.other (Two.other m2 (by omega)) (by omega)) _ _, Two.other (Two.other (Two.other (Two.other m3 (by omega)) (by omega)) (by omega)) (by omega), ?_⟩
   have s1 := HQ.out.2.2.2.2
   have s2 := H1.out.size
   exact ((((((HQ.out.2.2.2.1.trans (H1.out.mono (by omega))).trans (H2.out.mono (by omega))).setCell (by simp) _).setCell (by simp) _).setCell (by simp) _).setCell (by simp) _)
 case rest =>
  obtain ⟨t1, t2, t3, hb⟩ := hcut
  clear a1 a2 a3 a4 b1 b2 b3 b4
  have HQ := Lib.hid (And.intro t1 (And.intro t2 (And.intro t3 hb)))
  have HD := Lib.hid (show Two w.heap.size (.bool bx) (.string X) wc.drew ∧ Two (w.heap.size + 1) (.bool by') (.string Y) wc.drew ∧ Two (w.heap.size + 1 + 1) (.bool false) (.string ⟨#[]⟩) wc.drew from ⟨t1, t2, t3⟩)
  have lA := t1.lt
  have lB := t2.lt
  have lR := t3.lt
  have m1 := t1.1.1
  have m2 := t1.2.1
  have m3 := t2.1.1
  have m4 := t2.2.1
  have m5 := t3.1.1
  have m6 := t3.1.2
  have m7 := t3.2.1
  have m8 := t3.2.2
  have n1 : wc.drew.cell? ⟨w.heap.size, 0, none⟩ = some (.bool bx) := t1.1.1
  have n2 : wc.drew.cell? ⟨w.heap.size, 1, none⟩ = some (.string X) := t1.2.1
  have n3 : wc.drew.cell? ⟨w.heap.size + 1, 0, none⟩ = some (.bool by') := t2.1.1
  have n4 : wc.drew.cell? ⟨w.heap.size + 1, 1, none⟩ = some (.string Y) := t2.2.1
  have hsX : X.size < 8 → x.natAbs < 72057594037927936 := fun h => by
   have h1 := beVal_lt X.data.toList
   rw [HXY.out.2.2.1, ← Lib.size_eq] at h1
   exact Nat.lt_of_lt_of_le h1 (Nat.pow_le_pow_right (n := 256) (by omega) (show X.size ≤ 7 by omega))
  have hsY : Y.size < 8 → y.natAbs < 72057594037927936 := fun h => by
   have h1 := beVal_lt Y.data.toList
   rw [HXY.out.2.2.2.1, ← Lib.size_eq] at h1
   exact Nat.lt_of_lt_of_le h1 (Nat.pow_le_pow_right (n := 256) (by omega) (show Y.size ≤ 7 by omega))
  clear t1 t2 t3 hb
  have h1' := hsX h8.1
  have h2' := hsY h8.2
  have h1 := h8.1
  have h2 := h8.2
  have hb1 : -9223372036854775808 ≤ x + y ∧ x + y ≤ 9223372036854775807 := by omega
  clear hsX hsY
  have hv1 : beVal X.data.toList < 9223372036854775808 := by rw [HXY.out.2.2.1]; omega
  have hv2 : beVal Y.data.toList < 9223372036854775808 := by rw [HXY.out.2.2.2.1]; omega
  have V1 := fun W => rvalue_any bx X W (by omega) hv1
  have V2 := fun W => rvalue_any by' Y W (by omega) hv2
  rw [HXY.out.2.2.2.2.1] at V1
  rw [HXY.out.2.2.2.2.2.1] at V2
  have hxx : -72057594037927936 < x ∧ x < 72057594037927936 := by omega
  have hyy : -72057594037927936 < y ∧ y < 72057594037927936 := by omega
  have hwr : IntKind.i64.wrap (x + y) = x + y := by apply IntWalk.i64_in <;> omega
  have O1 := fun W => rof_any (x + y) W (by omega) (by omega)
  rw [HRES.out.1, HRES.out.2] at O1
  have HV1 := Lib.hid V1
  have HV2 := Lib.hid V2
  have HO1 := Lib.hid O1
  have tok1 : True := trivial
  have tok2 : True := trivial
  have tok3 : True := trivial
  have H0s := Lib.hid (show wc.heap.size ≤ wc.drew.heap.size from Nat.le_refl _)
  clear V1 V2 O1 hv1 hv2
  go_wp2_with fail
  go_region_with (first
   | (go_at_call 49; have _t := tok1; clear tok1; refine (HV1.out _).mono ?_; intro e u1 h1; obtain ⟨he, d1⟩ := h1; subst he; have H1 := Lib.hid d1; have k0 := HD.out.1.below d1 (by have := H0s.out; omega); obtain ⟨⟨k011, k012⟩, k013, k014⟩ := k0; have k1 := HD.out.2.1.below d1 (by have := H0s.out; omega); obtain ⟨⟨k111, k112⟩, k113, k114⟩ := k1; have k2 := HD.out.2.2.below d1 (by have := H0s.out; omega); obtain ⟨⟨k211, k212⟩, k213, k214⟩ := k2; have H1s := Lib.hid (show wc.heap.size ≤ u1.heap.size by have h1 := H0s.out; have h2 := d1.size; omega); clear d1)
   | (go_at_call 49; have _t := tok2; clear tok2; refine (HV2.out _).mono ?_; intro e u2 h2; obtain ⟨he, d2⟩ := h2; subst he; have H2 := Lib.hid d2; have k0 := (HD.out.1.below H1.out (by have := H0s.out; omega)).below d2 (by have := H1s.out; omega); obtain ⟨⟨k021, k022⟩, k023, k024⟩ := k0; have k1 := (HD.out.2.1.below H1.out (by have := H0s.out; omega)).below d2 (by have := H1s.out; omega); obtain ⟨⟨k121, k122⟩, k123, k124⟩ := k1; have k2 := (HD.out.2.2.below H1.out (by have := H0s.out; omega)).below d2 (by have := H1s.out; omega); obtain ⟨⟨k221, k222⟩, k223, k224⟩ := k2; have H2s := Lib.hid (show wc.heap.size ≤ u2.heap.size by have h1 := H1s.out; have h2 := d2.size; omega); clear d2)
   | (go_at_call 19; have _t := tok3; clear tok3; refine (HO1.out _).mono ?_; intro e u3 h3; obtain ⟨he, d3⟩ := h3; subst he; have H3 := Lib.hid d3; have k0 := ((HD.out.1.below H1.out (by have := H0s.out; omega)).below H2.out (by have := H1s.out; omega)).below d3 (by have := H2s.out; omega); obtain ⟨⟨k031, k032⟩, k033, k034⟩ := k0; have k1 := ((HD.out.2.1.below H1.out (by have := H0s.out; omega)).below H2.out (by have := H1s.out; omega)).below d3 (by have := H2s.out; omega); obtain ⟨⟨k131, k132⟩, k133, k134⟩ := k1; have k2 := ((HD.out.2.2.below H1.out (by have := H0s.out; omega)).below H2.out (by have := H1s.out; omega)).below d3 (by have := H2s.out; omega); obtain ⟨⟨k231, k232⟩, k233, k234⟩ := k2; have H3s := Lib.hid (show wc.heap.size ≤ u3.heap.size by have h1 := H2s.out; have h2 := d3.size; omega); clear d3))
  all_goals go_wp2_with fail
  all_goals refine bodyPost_ret (v := .agg #[.bool bz, .string sz]) (by simp [results, Tryz.results29, go_sem, k231, k233]) rfl ⟨rfl, ?_⟩
  all_goals exact (((((HQ.out.2.2.2.drew).trans (H1.out.mono (by have h1 := HQ.out.2.2.2.size; have h2 := H0s.out; omega))).trans (H2.out.mono (by have h1 := HQ.out.2.2.2.size; have h2 := H1s.out; omega))).trans (H3.out.mono (by have h1 := HQ.out.2.2.2.size; have h2 := H2s.out; omega))).setCell (by show w.heap.size ≤ w.heap.size + 1 + 1; omega) _).setCell (by show w.heap.size ≤ w.heap.size + 1 + 1; omega) _

end Go.Proofs.YtajollhpimfefaaGreatDoor

namespace Go.Proofs.YtajollhpimfefaaGreatDoor
open Go.RowKit Go.Shelf

set_option maxHeartbeats 40000000 in
set_option maxRecDepth 100000 in
theorem rmul_zx (na nb : Bool) (sa sb : ByteArray) (w : World) (ha : sa.size ≤ 100000) (hb : sb.size ≤ 100000) (hz0 : ival na sa = 0) :
  Calls Tryz.prog 33 #[.agg #[.bool na, .string sa], .agg #[.bool nb, .string sb]] w fun e w' => e = .returned (.agg #[.bool (ng (ival na sa * ival nb sb)), .string (mg (ival na sa * ival nb sb))]) ∧ Below w.heap.size w w' := by
 obtain ⟨x, hx⟩ : ∃ x, x = ival na sa := ⟨_, rfl⟩
 obtain ⟨y, hy⟩ : ∃ y, y = ival nb sb := ⟨_, rfl⟩
 have ca := fun W => rcanonical_any na sa W
 have cb := fun W => rcanonical_any nb sb W
 rw [← hx] at ca
 rw [← hy] at cb
 rw [← hx, ← hy]
 rw [← hx] at hz0
 have hXl : (mg x).size ≤ 100000 := by rw [hx]; exact mg_le na sa _ ha
 have hYl : (mg y).size ≤ 100000 := by rw [hy]; exact mg_le nb sb _ hb
 have hXv := mg_val x
 have hYv := mg_val y
 have hXi := ival_mg x
 have hYi := ival_mg y
 have hXm : mg x = ⟨(be x.natAbs).toArray⟩ := rfl
 have hYm : mg y = ⟨(be y.natAbs).toArray⟩ := rfl
 obtain ⟨X, hX⟩ : ∃ X, mg x = X := ⟨_, rfl⟩
 obtain ⟨Y, hY⟩ : ∃ Y, mg y = Y := ⟨_, rfl⟩
 obtain ⟨bx, hbx⟩ : ∃ b, ng x = b := ⟨_, rfl⟩
 obtain ⟨by', hby⟩ : ∃ b, ng y = b := ⟨_, rfl⟩
 rw [hX] at ca hXl hXv hXi hXm
 rw [hY] at cb hYl hYv hYi hYm
 rw [hbx] at ca hXi
 rw [hby] at cb hYi
 have HX0 := Lib.hid hz0
 clear hz0
 have CA := Lib.hid ca
 have CB := Lib.hid cb
 have HXY := Lib.hid (And.intro hXl (And.intro hYl (And.intro hXv (And.intro hYv (And.intro hXi (And.intro hYi (And.intro hXm (And.intro hYm (And.intro hbx hby)))))))))
 clear ca cb hx hy hXl hYl hXv hYv hXi hYi hXm hYm hX hY hbx hby ha hb
 obtain ⟨bz, hbz⟩ : ∃ b, ng (x * y) = b := ⟨_, rfl⟩
 obtain ⟨sz, hsz⟩ : ∃ s, mg (x * y) = s := ⟨_, rfl⟩
 rw [hbz, hsz]
 have HRES := Lib.hid (And.intro hbz hsz)
 clear hbz hsz
 go_enter Tryz.func33, Tryz.ntmps33
 go_upto_region 1 with fail
 obtain ⟨W0, hW0⟩ : ∃ W0, (((w.alloc (Obj.cells #[Value.bool na, Value.string sa] 23)).alloc (Obj.cells #[Value.bool nb, Value.string sb] 23)).alloc (Obj.cells #[Value.bool false, Value.string ⟨#[]⟩] 23)) = W0 := ⟨_, rfl⟩
 have hs0 : W0.heap.size = w.heap.size + 1 + 1 + 1 := by rw [← hW0]; simp
 have tA : Two w.heap.size (.bool na) (.string sa) W0 := by
  rw [← hW0]
  exact (two_new w _ _ _).below (B0 := w.heap.size + 1) (((Below.refl _ _).alloc (by simp) _).alloc (by simp) _) (by omega)
 have tB : Two (w.heap.size + 1) (.bool nb) (.string sb) W0 := by
  rw [← hW0]
  have h := two_new (w.alloc (Obj.cells #[Value.bool na, Value.string sa] 23)) (.bool nb) (.string sb) 23
  rw [World.size_alloc] at h
  exact h.below (B0 := w.heap.size + 1 + 1) ((Below.refl _ _).alloc (by simp) _) (by omega)
 have tR : Two (w.heap.size + 1 + 1) (.bool false) (.string ⟨#[]⟩) W0 := by
  rw [← hW0]
  have h := two_new ((w.alloc (Obj.cells #[Value.bool na, Value.string sa] 23)).alloc (Obj.cells #[Value.bool nb, Value.string sb] 23)) (.bool false) (.string ⟨#[]⟩) 23
  rw [World.size_alloc, World.size_alloc] at h
  exact h
 have b0 : Below w.heap.size w W0 := by
  rw [← hW0]
  exact (((Below.refl _ _).alloc (Nat.le_refl _) _).alloc (by simp) _).alloc (by simp; omega) _
 rw [hW0]
 have q1 : Two w.heap.size (.bool na) (.string sa) W0.drew := tA
 have q2 : Two (w.heap.size + 1) (.bool nb) (.string sb) W0.drew := tB
 have q3 : Two (w.heap.size + 1 + 1) (.bool false) (.string ⟨#[]⟩) W0.drew := tR
 have q5 : w.heap.size + 1 + 1 + 1 ≤ W0.drew.heap.size := by show _ ≤ W0.heap.size; omega
 have HQ := Lib.hid (And.intro q1 (And.intro q2 (And.intro q3 (And.intro b0.drew q5))))
 obtain ⟨⟨a1, a2⟩, a3, a4⟩ := q1
 obtain ⟨⟨b1, b2⟩, b3, b4⟩ := q2
 clear tA tB tR q3 b0 hs0 hW0 q5
 go_cut [] from 5 to 8 (fun wc => Two w.heap.size (.bool bx) (.string X) wc ∧ Two (w.heap.size + 1) (.bool by') (.string Y) wc ∧ Two (w.heap.size + 1 + 1) (.bool false) (.string ⟨#[]⟩) wc ∧ Below w.heap.size w wc)
 case first =>
  have tok1 : True := trivial
  go_region_with (first
   | (go_at_call 48; have _t := tok1; clear tok1; refine (CA.out _).mono ?_; intro e w1 h1; obtain ⟨he, hb1⟩ := h1; subst he; have H1 := Lib.hid hb1; have k1 := HQ.out.1.below hb1 (by have := HQ.out.2.2.2.2; omega); have k2 := HQ.out.2.1.below hb1 (by have := HQ.out.2.2.2.2; omega); obtain ⟨⟨k11, k12⟩, k13, k14⟩ := k1; obtain ⟨⟨k21, k22⟩, k23, k24⟩ := k2; clear hb1)
   | (go_at_call 48; refine (CB.out _).mono ?_; intro e w2 h2; obtain ⟨he, hb2⟩ := h2; subst he; have H2 := Lib.hid hb2; have l1 := (HQ.out.1.below H1.out (by have := HQ.out.2.2.2.2; omega)).below hb2 (by have := HQ.out.2.2.2.2; have := H1.out.size; omega); have l2 := (HQ.out.2.1.below H1.out (by have := HQ.out.2.2.2.2; omega)).below hb2 (by have := HQ.out.2.2.2.2; have := H1.out.size; omega); obtain ⟨⟨l11, l12⟩, l13, l14⟩ := l1; obtain ⟨⟨l21, l22⟩, l23, l24⟩ := l2; clear hb2))
  all_goals (go_wp2_with fail; go_meet)
  all_goals
   have m1 : Two w.heap.size (.bool na) (.string sa) w2 := ⟨⟨l11, l12⟩, l13, l14⟩
   have m2 : Two (w.heap.size + 1) (.bool nb) (.string sb) w2 := ⟨⟨l21, l22⟩, l23, l24⟩
   have m3 := (HQ.out.2.2.1.below H1.out (by have := HQ.out.2.2.2.2; omega)).below H2.out (by have := HQ.out.2.2.2.2; have := H1.out.size; omega)
   refine ⟨Two.other (Two.other (two_set m1 _ _) (by omega)) (by omega), two_set (Two.other (Two.other m2 (by omega)) (by omega)) _ _, Two.other (Two.other (Two.other (Two.other m3 (by omega)) (by omega)) (by omega)) (by omega), ?_⟩
   have s1 := HQ.out.2.2.2.2
   have s2 := H1.out.size
   exact ((((((HQ.out.2.2.2.1.trans (H1.out.mono (by omega))).trans (H2.out.mono (by omega))).setCell (by simp) _).setCell (by simp) _).setCell (by simp) _).setCell (by simp) _)
 case rest =>
  obtain ⟨t1, t2, t3, hb⟩ := hcut
  clear a1 a2 a3 a4 b1 b2 b3 b4
  have HQ := Lib.hid (And.intro t1 (And.intro t2 (And.intro t3 hb)))
  have HD := Lib.hid (show Two w.heap.size (.bool bx) (.string X) wc.drew ∧ Two (w.heap.size + 1) (.bool by') (.string Y) wc.drew ∧ Two (w.heap.size + 1 + 1) (.bool false) (.string ⟨#[]⟩) wc.drew from ⟨t1, t2, t3⟩)
  have lA := t1.lt
  have lB := t2.lt
  have lR := t3.lt
  have m1 := t1.1.1
  have m2 := t1.2.1
  have m3 := t2.1.1
  have m4 := t2.2.1
  have m5 := t3.1.1
  have m6 := t3.1.2
  have m7 := t3.2.1
  have m8 := t3.2.2
  have n1 : wc.drew.cell? ⟨w.heap.size, 0, none⟩ = some (.bool bx) := t1.1.1
  have n2 : wc.drew.cell? ⟨w.heap.size, 1, none⟩ = some (.string X) := t1.2.1
  have n3 : wc.drew.cell? ⟨w.heap.size + 1, 0, none⟩ = some (.bool by') := t2.1.1
  have n4 : wc.drew.cell? ⟨w.heap.size + 1, 1, none⟩ = some (.string Y) := t2.2.1
  have hsX : X.size < 8 → x.natAbs < 72057594037927936 := fun h => by
   have h1 := beVal_lt X.data.toList
   rw [HXY.out.2.2.1, ← Lib.size_eq] at h1
   exact Nat.lt_of_lt_of_le h1 (Nat.pow_le_pow_right (n := 256) (by omega) (show X.size ≤ 7 by omega))
  have hsY : Y.size < 8 → y.natAbs < 72057594037927936 := fun h => by
   have h1 := beVal_lt Y.data.toList
   rw [HXY.out.2.2.2.1, ← Lib.size_eq] at h1
   exact Nat.lt_of_lt_of_le h1 (Nat.pow_le_pow_right (n := 256) (by omega) (show Y.size ≤ 7 by omega))
  clear t1 t2 t3 hb
  have hXe : X.toList.isEmpty = decide (x = 0) := by rw [HXY.out.2.2.2.2.2.2.1]; exact mg_empty x
  have hYe : Y.toList.isEmpty = decide (y = 0) := by rw [HXY.out.2.2.2.2.2.2.2.1]; exact mg_empty y
  have hbnd : X.size + Y.size < 8 → x.natAbs * y.natAbs < 72057594037927936 := fun h => by
   have h1 := beVal_lt X.data.toList
   have h2 := beVal_lt Y.data.toList
   rw [HXY.out.2.2.1, ← Lib.size_eq] at h1
   rw [HXY.out.2.2.2.1, ← Lib.size_eq] at h2
   have h3 : x.natAbs * y.natAbs < 256 ^ X.size * 256 ^ Y.size := Nat.mul_lt_mul_of_lt_of_lt h1 h2
   rw [← Nat.pow_add] at h3
   exact Nat.lt_of_lt_of_le h3 (Nat.pow_le_pow_right (n := 256) (by omega) (show X.size + Y.size ≤ 7 by omega))
  have hx0 := HX0.out
  rw [decide_eq_true hx0] at hXe
  have hz : bz = false ∧ sz = ⟨#[]⟩ := by
   refine ⟨by rw [← HRES.out.1, hx0]; simp [ng], by rw [← HRES.out.2, hx0]; simp [mg, be_zero]⟩
  have HZ := Lib.hid hz
  clear hz hsX hsY hbnd
  go_wp2_with fail
  refine bodyPost_ret (v := .agg #[.bool false, .string ⟨#[]⟩]) (by simp [results, Tryz.results33, go_sem, m5, m7]) rfl ⟨by rw [HZ.out.1, HZ.out.2], ?_⟩
  exact (HQ.out.2.2.2.setCell (by show w.heap.size ≤ w.heap.size + 1 + 1; omega) _).setCell (by show w.heap.size ≤ w.heap.size + 1 + 1; omega) _

set_option maxHeartbeats 40000000 in
set_option maxRecDepth 100000 in
theorem rmul_zy (na nb : Bool) (sa sb : ByteArray) (w : World) (ha : sa.size ≤ 100000) (hb : sb.size ≤ 100000) (hz0 : ival na sa ≠ 0 ∧ ival nb sb = 0) :
  Calls Tryz.prog 33 #[.agg #[.bool na, .string sa], .agg #[.bool nb, .string sb]] w fun e w' => e = .returned (.agg #[.bool (ng (ival na sa * ival nb sb)), .string (mg (ival na sa * ival nb sb))]) ∧ Below w.heap.size w w' := by
 obtain ⟨x, hx⟩ : ∃ x, x = ival na sa := ⟨_, rfl⟩
 obtain ⟨y, hy⟩ : ∃ y, y = ival nb sb := ⟨_, rfl⟩
 have ca := fun W => rcanonical_any na sa W
 have cb := fun W => rcanonical_any nb sb W
 rw [← hx] at ca
 rw [← hy] at cb
 rw [← hx, ← hy]
 rw [← hx, ← hy] at hz0
 have hXl : (mg x).size ≤ 100000 := by rw [hx]; exact mg_le na sa _ ha
 have hYl : (mg y).size ≤ 100000 := by rw [hy]; exact mg_le nb sb _ hb
 have hXv := mg_val x
 have hYv := mg_val y
 have hXi := ival_mg x
 have hYi := ival_mg y
 have hXm : mg x = ⟨(be x.natAbs).toArray⟩ := rfl
 have hYm : mg y = ⟨(be y.natAbs).toArray⟩ := rfl
 obtain ⟨X, hX⟩ : ∃ X, mg x = X := ⟨_, rfl⟩
 obtain ⟨Y, hY⟩ : ∃ Y, mg y = Y := ⟨_, rfl⟩
 obtain ⟨bx, hbx⟩ : ∃ b, ng x = b := ⟨_, rfl⟩
 obtain ⟨by', hby⟩ : ∃ b, ng y = b := ⟨_, rfl⟩
 rw [hX] at ca hXl hXv hXi hXm
 rw [hY] at cb hYl hYv hYi hYm
 rw [hbx] at ca hXi
 rw [hby] at cb hYi
 have HX0 := Lib.hid hz0
 clear hz0
 have CA := Lib.hid ca
 have CB := Lib.hid cb
 have HXY := Lib.hid (And.intro hXl (And.intro hYl (And.intro hXv (And.intro hYv (And.intro hXi (And.intro hYi (And.intro hXm (And.intro hYm (And.intro hbx hby)))))))))
 clear ca cb hx hy hXl hYl hXv hYv hXi hYi hXm hYm hX hY hbx hby ha hb
 obtain ⟨bz, hbz⟩ : ∃ b, ng (x * y) = b := ⟨_, rfl⟩
 obtain ⟨sz, hsz⟩ : ∃ s, mg (x * y) = s := ⟨_, rfl⟩
 rw [hbz, hsz]
 have HRES := Lib.hid (And.intro hbz hsz)
 clear hbz hsz
 go_enter Tryz.func33, Tryz.ntmps33
 go_upto_region 1 with fail
 obtain ⟨W0, hW0⟩ : ∃ W0, (((w.alloc (Obj.cells #[Value.bool na, Value.string sa] 23)).alloc (Obj.cells #[Value.bool nb, Value.string sb] 23)).alloc (Obj.cells #[Value.bool false, Value.string ⟨#[]⟩] 23)) = W0 := ⟨_, rfl⟩
 have hs0 : W0.heap.size = w.heap.size + 1 + 1 + 1 := by rw [← hW0]; simp
 have tA : Two w.heap.size (.bool na) (.string sa) W0 := by
  rw [← hW0]
  exact (two_new w _ _ _).below (B0 := w.heap.size + 1) (((Below.refl _ _).alloc (by simp) _).alloc (by simp) _) (by omega)
 have tB : Two (w.heap.size + 1) (.bool nb) (.string sb) W0 := by
  rw [← hW0]
  have h := two_new (w.alloc (Obj.cells #[Value.bool na, Value.string sa] 23)) (.bool nb) (.string sb) 23
  rw [World.size_alloc] at h
  exact h.below (B0 := w.heap.size + 1 + 1) ((Below.refl _ _).alloc (by simp) _) (by omega)
 have tR : Two (w.heap.size + 1 + 1) (.bool false) (.string ⟨#[]⟩) W0 := by
  rw [← hW0]
  have h := two_new ((w.alloc (Obj.cells #[Value.bool na, Value.string sa] 23)).alloc (Obj.cells #[Value.bool nb, Value.string sb] 23)) (.bool false) (.string ⟨#[]⟩) 23
  rw [World.size_alloc, World.size_alloc] at h
  exact h
 have b0 : Below w.heap.size w W0 := by
  rw [← hW0]
  exact (((Below.refl _ _).alloc (Nat.le_refl _) _).alloc (by simp) _).alloc (by simp; omega) _
 rw [hW0]
 have q1 : Two w.heap.size (.bool na) (.string sa) W0.drew := tA
 have q2 : Two (w.heap.size + 1) (.bool nb) (.string sb) W0.drew := tB
 have q3 : Two (w.heap.size + 1 + 1) (.bool false) (.string ⟨#[]⟩) W0.drew := tR
 have q5 : w.heap.size + 1 + 1 + 1 ≤ W0.drew.heap.size := by show _ ≤ W0.heap.size; omega
 have HQ := Lib.hid (And.intro q1 (And.intro q2 (And.intro q3 (And.intro b0.drew q5))))
 obtain ⟨⟨a1, a2⟩, a3, a4⟩ := q1
 obtain ⟨⟨b1, b2⟩, b3, b4⟩ := q2
 clear tA tB tR q3 b0 hs0 hW0 q5
 go_cut [] from 5 to 8 (fun wc => Two w.heap.size (.bool bx) (.string X) wc ∧ Two (w.heap.size + 1) (.bool by') (.string Y) wc ∧ Two (w.heap.size + 1 + 1) (.bool false) (.string ⟨#[]⟩) wc ∧ Below w.heap.size w wc)
 case first =>
  have tok1 : True := trivial
  go_region_with (first
   | (go_at_call 48; have _t := tok1; clear tok1; refine (CA.out _).mono ?_; intro e w1 h1; obtain ⟨he, hb1⟩ := h1; subst he; have H1 := Lib.hid hb1; have k1 := HQ.out.1.below hb1 (by have := HQ.out.2.2.2.2; omega); have k2 := HQ.out.2.1.below hb1 (by have := HQ.out.2.2.2.2; omega); obtain ⟨⟨k11, k12⟩, k13, k14⟩ := k1; obtain ⟨⟨k21, k22⟩, k23, k24⟩ := k2; clear hb1)
   | (go_at_call 48; refine (CB.out _).mono ?_; intro e w2 h2; obtain ⟨he, hb2⟩ := h2; subst he; have H2 := Lib.hid hb2; have l1 := (HQ.out.1.below H1.out (by have := HQ.out.2.2.2.2; omega)).below hb2 (by have := HQ.out.2.2.2.2; have := H1.out.size; omega); have l2 := (HQ.out.2.1.below H1.out (by have := HQ.out.2.2.2.2; omega)).below hb2 (by have := HQ.out.2.2.2.2; have := H1.out.size; omega); obtain ⟨⟨l11, l12⟩, l13, l14⟩ := l1; obtain ⟨⟨l21, l22⟩, l23, l24⟩ := l2; clear hb2))
  all_goals (go_wp2_with fail; go_meet)
  all_goals
   have m1 : Two w.heap.size (.bool na) (.string sa) w2 := ⟨⟨l11, l12⟩, l13, l14⟩
   have m2 : Two (w.heap.size + 1) (.bool nb) (.string sb) w2 := ⟨⟨l21, l22⟩, l23, l24⟩
   have m3 := (HQ.out.2.2.1.below H1.out (by have := HQ.out.2.2.2.2; omega)).below H2.out (by have := HQ.out.2.2.2.2; have := H1.out.size; omega)
   refine ⟨Two.other (Two.other (two_set m1 _ _) (by omega)) (by omega), two_set (Two.other (Two.other m2 (by omega)) (by omega)) _ _, Two.other (Two.other (Two.other (Two.other m3 (by omega)) (by omega)) (by omega)) (by omega), ?_⟩
   have s1 := HQ.out.2.2.2.2
   have s2 := H1.out.size
   exact ((((((HQ.out.2.2.2.1.trans (H1.out.mono (by omega))).trans (H2.out.mono (by omega))).setCell (by simp) _).setCell (by simp) _).setCell (by simp) _).setCell (by simp) _)
 case rest =>
  obtain ⟨t1, t2, t3, hb⟩ := hcut
  clear a1 a2 a3 a4 b1 b2 b3 b4
  have HQ := Lib.hid (And.intro t1 (And.intro t2 (And.intro t3 hb)))
  have HD := Lib.hid (show Two w.heap.size (.bool bx) (.string X) wc.drew ∧ Two (w.heap.size + 1) (.bool by') (.string Y) wc.drew ∧ Two (w.heap.size + 1 + 1) (.bool false) (.string ⟨#[]⟩) wc.drew from ⟨t1, t2, t3⟩)
  have lA := t1.lt
  have lB := t2.lt
  have lR := t3.lt
  have m1 := t1.1.1
  have m2 := t1.2.1
  have m3 := t2.1.1
  have m4 := t2.2.1
  have m5 := t3.1.1
  have m6 := t3.1.2
  have m7 := t3.2.1
  have m8 := t3.2.2
  have n1 : wc.drew.cell? ⟨w.heap.size, 0, none⟩ = some (.bool bx) := t1.1.1
  have n2 : wc.drew.cell? ⟨w.heap.size, 1, none⟩ = some (.string X) := t1.2.1
  have n3 : wc.drew.cell? ⟨w.heap.size + 1, 0, none⟩ = some (.bool by') := t2.1.1
  have n4 : wc.drew.cell? ⟨w.heap.size + 1, 1, none⟩ = some (.string Y) := t2.2.1
  have hsX : X.size < 8 → x.natAbs < 72057594037927936 := fun h => by
   have h1 := beVal_lt X.data.toList
   rw [HXY.out.2.2.1, ← Lib.size_eq] at h1
   exact Nat.lt_of_lt_of_le h1 (Nat.pow_le_pow_right (n := 256) (by omega) (show X.size ≤ 7 by omega))
  have hsY : Y.size < 8 → y.natAbs < 72057594037927936 := fun h => by
   have h1 := beVal_lt Y.data.toList
   rw [HXY.out.2.2.2.1, ← Lib.size_eq] at h1
   exact Nat.lt_of_lt_of_le h1 (Nat.pow_le_pow_right (n := 256) (by omega) (show Y.size ≤ 7 by omega))
  clear t1 t2 t3 hb
  have hXe : X.toList.isEmpty = decide (x = 0) := by rw [HXY.out.2.2.2.2.2.2.1]; exact mg_empty x
  have hYe : Y.toList.isEmpty = decide (y = 0) := by rw [HXY.out.2.2.2.2.2.2.2.1]; exact mg_empty y
  have hbnd : X.size + Y.size < 8 → x.natAbs * y.natAbs < 72057594037927936 := fun h => by
   have h1 := beVal_lt X.data.toList
   have h2 := beVal_lt Y.data.toList
   rw [HXY.out.2.2.1, ← Lib.size_eq] at h1
   rw [HXY.out.2.2.2.1, ← Lib.size_eq] at h2
   have h3 : x.natAbs * y.natAbs < 256 ^ X.size * 256 ^ Y.size := Nat.mul_lt_mul_of_lt_of_lt h1 h2
   rw [← Nat.pow_add] at h3
   exact Nat.lt_of_lt_of_le h3 (Nat.pow_le_pow_right (n := 256) (by omega) (show X.size + Y.size ≤ 7 by omega))
  have hx0 := HX0.out.1
  have hy0 := HX0.out.2
  rw [decide_eq_false hx0] at hXe
  rw [decide_eq_true hy0] at hYe
  have hz : bz = false ∧ sz = ⟨#[]⟩ := by
   refine ⟨by rw [← HRES.out.1, hy0]; simp [ng], by rw [← HRES.out.2, hy0]; simp [mg, be_zero]⟩
  have HZ := Lib.hid hz
  clear hz hsX hsY hbnd
  go_wp2_with fail
  refine bodyPost_ret (v := .agg #[.bool false, .string ⟨#[]⟩]) (by simp [results, Tryz.results33, go_sem, m5, m7]) rfl ⟨by rw [HZ.out.1, HZ.out.2], ?_⟩
  exact (HQ.out.2.2.2.setCell (by show w.heap.size ≤ w.heap.size + 1 + 1; omega) _).setCell (by show w.heap.size ≤ w.heap.size + 1 + 1; omega) _

set_option maxHeartbeats 40000000 in
set_option maxRecDepth 100000 in
theorem rmul_small (na nb : Bool) (sa sb : ByteArray) (w : World) (ha : sa.size ≤ 100000) (hb : sb.size ≤ 100000) (hz0 : ival na sa ≠ 0 ∧ ival nb sb ≠ 0) (h8 : (mg (ival na sa)).size + (mg (ival nb sb)).size < 8) :
  Calls Tryz.prog 33 #[.agg #[.bool na, .string sa], .agg #[.bool nb, .string sb]] w fun e w' => e = .returned (.agg #[.bool (ng (ival na sa * ival nb sb)), .string (mg (ival na sa * ival nb sb))]) ∧ Below w.heap.size w w' := by
 obtain ⟨x, hx⟩ : ∃ x, x = ival na sa := ⟨_, rfl⟩
 obtain ⟨y, hy⟩ : ∃ y, y = ival nb sb := ⟨_, rfl⟩
 have ca := fun W => rcanonical_any na sa W
 have cb := fun W => rcanonical_any nb sb W
 rw [← hx] at ca
 rw [← hy] at cb
 rw [← hx, ← hy]
 rw [← hx, ← hy] at hz0 h8
 have hXl : (mg x).size ≤ 100000 := by rw [hx]; exact mg_le na sa _ ha
 have hYl : (mg y).size ≤ 100000 := by rw [hy]; exact mg_le nb sb _ hb
 have hXv := mg_val x
 have hYv := mg_val y
 have hXi := ival_mg x
 have hYi := ival_mg y
 have hXm : mg x = ⟨(be x.natAbs).toArray⟩ := rfl
 have hYm : mg y = ⟨(be y.natAbs).toArray⟩ := rfl
 obtain ⟨X, hX⟩ : ∃ X, mg x = X := ⟨_, rfl⟩
 obtain ⟨Y, hY⟩ : ∃ Y, mg y = Y := ⟨_, rfl⟩
 obtain ⟨bx, hbx⟩ : ∃ b, ng x = b := ⟨_, rfl⟩
 obtain ⟨by', hby⟩ : ∃ b, ng y = b := ⟨_, rfl⟩
 rw [hX, hY] at h8
 rw [hX] at ca hXl hXv hXi hXm
 rw [hY] at cb hYl hYv hYi hYm
 rw [hbx] at ca hXi
 rw [hby] at cb hYi
 have HX0 := Lib.hid hz0
 clear hz0
 have H8 := Lib.hid h8
 clear h8
 have CA := Lib.hid ca
 have CB := Lib.hid cb
 have HXY := Lib.hid (And.intro hXl (And.intro hYl (And.intro hXv (And.intro hYv (And.intro hXi (And.intro hYi (And.intro hXm (And.intro hYm (And.intro hbx hby)))))))))
 clear ca cb hx hy hXl hYl hXv hYv hXi hYi hXm hYm hX hY hbx hby ha hb
 obtain ⟨bz, hbz⟩ : ∃ b, ng (x * y) = b := ⟨_, rfl⟩
 obtain ⟨sz, hsz⟩ : ∃ s, mg (x * y) = s := ⟨_, rfl⟩
 rw [hbz, hsz]
 have HRES := Lib.hid (And.intro hbz hsz)
 clear hbz hsz
 go_enter Tryz.func33, Tryz.ntmps33
 go_upto_region 1 with fail
 obtain ⟨W0, hW0⟩ : ∃ W0, (((w.alloc (Obj.cells #[Value.bool na, Value.string sa] 23)).alloc (Obj.cells #[Value.bool nb, Value.string sb] 23)).alloc (Obj.cells #[Value.bool false, Value.string ⟨#[]⟩] 23)) = W0 := ⟨_, rfl⟩
 have hs0 : W0.heap.size = w.heap.size + 1 + 1 + 1 := by rw [← hW0]; simp
 have tA : Two w.heap.size (.bool na) (.string sa) W0 := by
  rw [← hW0]
  exact (two_new w _ _ _).below (B0 := w.heap.size + 1) (((Below.refl _ _).alloc (by simp) _).alloc (by simp) _) (by omega)
 have tB : Two (w.heap.size + 1) (.bool nb) (.string sb) W0 := by
  rw [← hW0]
  have h := two_new (w.alloc (Obj.cells #[Value.bool na, Value.string sa] 23)) (.bool nb) (.string sb) 23
  rw [World.size_alloc] at h
  exact h.below (B0 := w.heap.size + 1 + 1) ((Below.refl _ _).alloc (by simp) _) (by omega)
 have tR : Two (w.heap.size + 1 + 1) (.bool false) (.string ⟨#[]⟩) W0 := by
  rw [← hW0]
  have h := two_new ((w.alloc (Obj.cells #[Value.bool na, Value.string sa] 23)).alloc (Obj.cells #[Value.bool nb, Value.string sb] 23)) (.bool false) (.string ⟨#[]⟩) 23
  rw [World.size_alloc, World.size_alloc] at h
  exact h
 have b0 : Below w.heap.size w W0 := by
  rw [← hW0]
  exact (((Below.refl _ _).alloc (Nat.le_refl _) _).alloc (by simp) _).alloc (by simp; omega) _
 rw [hW0]
 have q1 : Two w.heap.size (.bool na) (.string sa) W0.drew := tA
 have q2 : Two (w.heap.size + 1) (.bool nb) (.string sb) W0.drew := tB
 have q3 : Two (w.heap.size + 1 + 1) (.bool false) (.string ⟨#[]⟩) W0.drew := tR
 have q5 : w.heap.size + 1 + 1 + 1 ≤ W0.drew.heap.size := by show _ ≤ W0.heap.size; omega
 have HQ := Lib.hid (And.intro q1 (And.intro q2 (And.intro q3 (And.intro b0.drew q5))))
 obtain ⟨⟨a1, a2⟩, a3, a4⟩ := q1
 obtain ⟨⟨b1, b2⟩, b3, b4⟩ := q2
 clear tA tB tR q3 b0 hs0 hW0 q5
 go_cut [] from 5 to 8 (fun wc => Two w.heap.size (.bool bx) (.string X) wc ∧ Two (w.heap.size + 1) (.bool by') (.string Y) wc ∧ Two (w.heap.size + 1 + 1) (.bool false) (.string ⟨#[]⟩) wc ∧ Below w.heap.size w wc)
 case first =>
  have tok1 : True := trivial
  go_region_with (first
   | (go_at_call 48; have _t := tok1; clear tok1; refine (CA.out _).mono ?_; intro e w1 h1; obtain ⟨he, hb1⟩ := h1; subst he; have H1 := Lib.hid hb1; have k1 := HQ.out.1.below hb1 (by have := HQ.out.2.2.2.2; omega); have k2 := HQ.out.2.1.below hb1 (by have := HQ.out.2.2.2.2; omega); obtain ⟨⟨k11, k12⟩, k13, k14⟩ := k1; obtain ⟨⟨k21, k22⟩, k23, k24⟩ := k2; clear hb1)
   | (go_at_call 48; refine (CB.out _).mono ?_; intro e w2 h2; obtain ⟨he, hb2⟩ := h2; subst he; have H2 := Lib.hid hb2; have l1 := (HQ.out.1.below H1.out (by have := HQ.out.2.2.2.2; omega)).below hb2 (by have := HQ.out.2.2.2.2; have := H1.out.size; omega); have l2 := (HQ.out.2.1.below H1.out (by have := HQ.out.2.2.2.2; omega)).below hb2 (by have := HQ.out.2.2.2.2; have := H1.out.size; omega); obtain ⟨⟨l11, l12⟩, l13, l14⟩ := l1; obtain ⟨⟨l21, l22⟩, l23, l24⟩ := l2; clear hb2))
  all_goals (go_wp2_with fail; go_meet)
  all_goals
   have m1 : Two w.heap.size (.bool na) (.string sa) w2 := ⟨⟨l11, l12⟩, l13, l14⟩
   have m2 : Two (w.heap.size + 1) (.bool nb) (.string sb) w2 := ⟨⟨l21, l22⟩, l23, l24⟩
   have m3 := (HQ.out.2.2.1.below H1.out (by have := HQ.out.2.2.2.2; omega)).below H2.out (by have := HQ.out.2.2.2.2; have := H1.out.size; omega)
   refine ⟨Two.other (Two.other (two_set m1 _ _) (by omega)) (by omega), two_set (Two.other (Two.other m2 (by omega)) (by omega)) _ _, Two.other (Two.other (Two.other (Two.other m3 (by omega)) (by omega)) (by omega)) (by omega), ?_⟩
   have s1 := HQ.out.2.2.2.2
   have s2 := H1.out.size
   exact ((((((HQ.out.2.2.2.1.trans (H1.out.mono (by omega))).trans (H2.out.mono (by omega))).setCell (by simp) _).setCell (by simp) _).setCell (by simp) _).setCell (by simp) _)
 case rest =>
  obtain ⟨t1, t2, t3, hb⟩ := hcut
  clear a1 a2 a3 a4 b1 b2 b3 b4
  have HQ := Lib.hid (And.intro t1 (And.intro t2 (And.intro t3 hb)))
  have HD := Lib.hid (show Two w.heap.size (.bool bx) (.string X) wc.drew ∧ Two (w.heap.size + 1) (.bool by') (.string Y) wc.drew ∧ Two (w.heap.size + 1 + 1) (.bool false) (.string ⟨#[]⟩) wc.drew from ⟨t1, t2, t3⟩)
  have lA := t1.lt
  have lB := t2.lt
  have lR := t3.lt
  have m1 := t1.1.1
  have m2 := t1.2.1
  have m3 := t2.1.1
  have m4 := t2.2.1
  have m5 := t3.1.1
  have m6 := t3.1.2
  have m7 := t3.2.1
  have m8 := t3.2.2
  have n1 : wc.drew.cell? ⟨w.heap.size, 0, none⟩ = some (.bool bx) := t1.1.1
  have n2 : wc.drew.cell? ⟨w.heap.size, 1, none⟩ = some (.string X) := t1.2.1
  have n3 : wc.drew.cell? ⟨w.heap.size + 1, 0, none⟩ = some (.bool by') := t2.1.1
  have n4 : wc.drew.cell? ⟨w.heap.size + 1, 1, none⟩ = some (.string Y) := t2.2.1
  have hsX : X.size < 8 → x.natAbs < 72057594037927936 := fun h => by
   have h1 := beVal_lt X.data.toList
   rw [HXY.out.2.2.1, ← Lib.size_eq] at h1
   exact Nat.lt_of_lt_of_le h1 (Nat.pow_le_pow_right (n := 256) (by omega) (show X.size ≤ 7 by omega))
  have hsY : Y.size < 8 → y.natAbs < 72057594037927936 := fun h => by
   have h1 := beVal_lt Y.data.toList
   rw [HXY.out.2.2.2.1, ← Lib.size_eq] at h1
   exact Nat.lt_of_lt_of_le h1 (Nat.pow_le_pow_right (n := 256) (by omega) (show Y.size ≤ 7 by omega))
  clear t1 t2 t3 hb
  have hXe : X.toList.isEmpty = decide (x = 0) := by rw [HXY.out.2.2.2.2.2.2.1]; exact mg_empty x
  have hYe : Y.toList.isEmpty = decide (y = 0) := by rw [HXY.out.2.2.2.2.2.2.2.1]; exact mg_empty y
  have hbnd : X.size + Y.size < 8 → x.natAbs * y.natAbs < 72057594037927936 := fun h => by
   have h1 := beVal_lt X.data.toList
   have h2 := beVal_lt Y.data.toList
   rw [HXY.out.2.2.1, ← Lib.size_eq] at h1
   rw [HXY.out.2.2.2.1, ← Lib.size_eq] at h2
   have h3 : x.natAbs * y.natAbs < 256 ^ X.size * 256 ^ Y.size := Nat.mul_lt_mul_of_lt_of_lt h1 h2
   rw [← Nat.pow_add] at h3
   exact Nat.lt_of_lt_of_le h3 (Nat.pow_le_pow_right (n := 256) (by omega) (show X.size + Y.size ≤ 7 by omega))
  have hx0 := HX0.out.1
  have hy0 := HX0.out.2
  rw [decide_eq_false hx0] at hXe
  rw [decide_eq_false hy0] at hYe
  have h8 := H8.out
  have hxy := hbnd h8
  have h8i : (X.size : Int) + (Y.size : Int) < 8 := by omega
  have h1' := hsX (by omega)
  have h2' := hsY (by omega)
  rw [← Int.natAbs_mul] at hxy
  clear hsX hsY hbnd
  have hv1 : beVal X.data.toList < 9223372036854775808 := by rw [HXY.out.2.2.1]; omega
  have hv2 : beVal Y.data.toList < 9223372036854775808 := by rw [HXY.out.2.2.2.1]; omega
  have V1 := fun W => rvalue_any bx X W (by omega) hv1
  have V2 := fun W => rvalue_any by' Y W (by omega) hv2
  rw [HXY.out.2.2.2.2.1] at V1
  rw [HXY.out.2.2.2.2.2.1] at V2
  have hxx : -72057594037927936 < x ∧ x < 72057594037927936 := by omega
  have hyy : -72057594037927936 < y ∧ y < 72057594037927936 := by omega
  have hxyb : -72057594037927936 < x * y ∧ x * y < 72057594037927936 := by omega
  have hwr : IntKind.i64.wrap (x * y) = x * y := by apply IntWalk.i64_in <;> omega
  have O1 := fun W => rof_any (x * y) W (by omega) (by omega)
  rw [HRES.out.1, HRES.out.2] at O1
  have HV1 := Lib.hid V1
  have HV2 := Lib.hid V2
  have HO1 := Lib.hid O1
  have tok1 : True := trivial
  have tok2 : True := trivial
  have tok3 : True := trivial
  have H0s := Lib.hid (show wc.heap.size ≤ wc.drew.heap.size from Nat.le_refl _)
  clear V1 V2 O1 hv1 hv2
  go_wp2_with fail
  go_region_with (first
   | (go_at_call 49; have _t := tok1; clear tok1; refine (HV1.out _).mono ?_; intro e u1 h1; obtain ⟨he, d1⟩ := h1; subst he; have H1 := Lib.hid d1; have k0 := HD.out.1.below d1 (by have := H0s.out; omega); obtain ⟨⟨k011, k012⟩, k013, k014⟩ := k0; have k1 := HD.out.2.1.below d1 (by have := H0s.out; omega); obtain ⟨⟨k111, k112⟩, k113, k114⟩ := k1; have k2 := HD.out.2.2.below d1 (by have := H0s.out; omega); obtain ⟨⟨k211, k212⟩, k213, k214⟩ := k2; have H1s := Lib.hid (show wc.heap.size ≤ u1.heap.size by have h1 := H0s.out; have h2 := d1.size; omega); clear d1)
   | (go_at_call 49; have _t := tok2; clear tok2; refine (HV2.out _).mono ?_; intro e u2 h2; obtain ⟨he, d2⟩ := h2; subst he; have H2 := Lib.hid d2; have k0 := (HD.out.1.below H1.out (by have := H0s.out; omega)).below d2 (by have := H1s.out; omega); obtain ⟨⟨k021, k022⟩, k023, k024⟩ := k0; have k1 := (HD.out.2.1.below H1.out (by have := H0s.out; omega)).below d2 (by have := H1s.out; omega); obtain ⟨⟨k121, k122⟩, k123, k124⟩ := k1; have k2 := (HD.out.2.2.below H1.out (by have := H0s.out; omega)).below d2 (by have := H1s.out; omega); obtain ⟨⟨k221, k222⟩, k223, k224⟩ := k2; have H2s := Lib.hid (show wc.heap.size ≤ u2.heap.size by have h1 := H1s.out; have h2 := d2.size; omega); clear d2)
   | (go_at_call 19; have _t := tok3; clear tok3; refine (HO1.out _).mono ?_; intro e u3 h3; obtain ⟨he, d3⟩ := h3; subst he; have H3 := Lib.hid d3; have k0 := ((HD.out.1.below H1.out (by have := H0s.out; omega)).below H2.out (by have := H1s.out; omega)).below d3 (by have := H2s.out; omega); obtain ⟨⟨k031, k032⟩, k033, k034⟩ := k0; have k1 := ((HD.out.2.1.below H1.out (by have := H0s.out; omega)).below H2.out (by have := H1s.out; omega)).below d3 (by have := H2s.out; omega); obtain ⟨⟨k131, k132⟩, k133, k134⟩ := k1; have k2 := ((HD.out.2.2.below H1.out (by have := H0s.out; omega)).below H2.out (by have := H1s.out; omega)).below d3 (by have := H2s.out; omega); obtain ⟨⟨k231, k232⟩, k233, k234⟩ := k2; have H3s := Lib.hid (show wc.heap.size ≤ u3.heap.size by have h1 := H2s.out; have h2 := d3.size; omega); clear d3))
  all_goals go_wp2_with fail
  all_goals refine bodyPost_ret (v := .agg #[.bool bz, .string sz]) (by simp [results, Tryz.results33, go_sem, k231, k233]) rfl ⟨rfl, ?_⟩
  all_goals exact (((((HQ.out.2.2.2.drew).trans (H1.out.mono (by have h1 := HQ.out.2.2.2.size; have h2 := H0s.out; omega))).trans (H2.out.mono (by have h1 := HQ.out.2.2.2.size; have h2 := H1s.out; omega))).trans (H3.out.mono (by have h1 := HQ.out.2.2.2.size; have h2 := H2s.out; omega))).setCell (by show w.heap.size ≤ w.heap.size + 1 + 1; omega) _).setCell (by show w.heap.size ≤ w.heap.size + 1 + 1; omega) _

end Go.Proofs.YtajollhpimfefaaGreatDoor
