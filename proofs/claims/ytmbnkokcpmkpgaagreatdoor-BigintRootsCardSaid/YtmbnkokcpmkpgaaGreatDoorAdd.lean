/- The contract of bigint.Add. -/
import Derived.Test.YtmbnkokcpmkpgaaGreatDoorSum
import Derived.Test.YtmbnkokcpmkpgaaGreatDoorCmpNat
import Derived.Test.YtmbnkokcpmkpgaaGreatDoorMul
namespace Go.Proofs.YtmbnkokcpmkpgaaGreatDoor
open Go.RowKit

theorem loaded_cap {w w' : World} {b n : Nat} {e : Ending} (h : Loaded w b n e w') : ∃ g cap, e = .returned (.slice (some ⟨g, 0, none⟩) (nw n).length cap) ∧ Row w' g 0 (nw n) ∧ (g = b ∨ w.heap.size ≤ g) ∧ w.grownBy w' (some b) ∧ (nw n).length ≤ cap := by
  obtain ⟨g, cap, h1, h2, _, h4, h5, h6⟩ := h
  exact ⟨g, cap, h1, h4, h5, h6, h2⟩
theorem nw_add_length (m n : Nat) : (nw (m + n)).length ≤ (nw m).length + (nw n).length + 1 := by
  apply nw_length_le
  have h1 := wv_lt (nw m) (nw_ok m)
  have h2 := wv_lt (nw n) (nw_ok n)
  rw [wv_nw] at h1 h2
  have h3 : 18446744073709551616 ^ (nw m).length ≤ 18446744073709551616 ^ ((nw m).length + (nw n).length) := Nat.pow_le_pow_right (by omega) (by omega)
  have h4 : 18446744073709551616 ^ (nw n).length ≤ 18446744073709551616 ^ ((nw m).length + (nw n).length) := Nat.pow_le_pow_right (by omega) (by omega)
  rw [Nat.pow_succ]
  omega
theorem nw_sub_length (m n : Nat) : (nw (m - n)).length ≤ (nw m).length := by
  apply nw_length_le
  have h1 := wv_lt (nw m) (nw_ok m)
  rw [wv_nw] at h1
  omega

set_option maxHeartbeats 1000000 in
set_option maxRecDepth 100000 in
theorem add_any (na nb : Bool) (sa sb : ByteArray) (w : World) (ha : sa.size ≤ 262144) (hb : sb.size ≤ 262144) :
    Calls Tryz.prog 28 #[.agg #[.bool na, .string sa], .agg #[.bool nb, .string sb]] w (IntRes w (ival na sa + ival nb sb)) := by
  go_enter Tryz.func28, Tryz.ntmps28
  go_wp2_with fail
  -- the world in which the operands are loaded, by what holds of it
  obtain ⟨zs, hzs⟩ : ∃ zs : Array Value, #[Value.int .u64 0, .int .u64 0, .int .u64 0, .int .u64 0, .int .u64 0, .int .u64 0, .int .u64 0, .int .u64 0, .int .u64 0, .int .u64 0, .int .u64 0, .int .u64 0, .int .u64 0, .int .u64 0, .int .u64 0, .int .u64 0] = zs := ⟨_, rfl⟩
  have hz16 : zs.size = 16 := by rw [← hzs]; rfl
  rw [hzs]
  obtain ⟨W0, hW0⟩ : ∃ W0, ((((w.alloc (Obj.cells #[Value.bool na, Value.string sa] 23)).alloc (Obj.cells #[Value.bool nb, Value.string sb] 23)).alloc (Obj.cells #[Value.bool false, Value.string ⟨#[]⟩] 23)).alloc (Obj.cells zs 60)).alloc (Obj.cells zs 60) = W0 := ⟨_, rfl⟩
  have hs0 : W0.heap.size = w.heap.size + 1 + 1 + 1 + 1 + 1 := by rw [← hW0]; simp
  have tA : Two w.heap.size (.bool na) (.string sa) W0 := by
    rw [← hW0]
    exact (two_new w _ _ _).below (B0 := w.heap.size + 1) (((((Below.refl _ _).alloc (by simp) _).alloc (by simp) _).alloc (by simp) _).alloc (by simp) _) (by omega)
  have tB : Two (w.heap.size + 1) (.bool nb) (.string sb) W0 := by
    rw [← hW0]
    have h := two_new (w.alloc (Obj.cells #[Value.bool na, Value.string sa] 23)) (.bool nb) (.string sb) 23
    rw [World.size_alloc] at h
    exact h.below (B0 := w.heap.size + 1 + 1) ((((Below.refl _ _).alloc (by simp) _).alloc (by simp) _).alloc (by simp) _) (by omega)
  have tR : Two (w.heap.size + 1 + 1) (.bool false) (.string ⟨#[]⟩) W0 := by
    rw [← hW0]
    have h := two_new ((w.alloc (Obj.cells #[Value.bool na, Value.string sa] 23)).alloc (Obj.cells #[Value.bool nb, Value.string sb] 23)) (.bool false) (.string ⟨#[]⟩) 23
    rw [World.size_alloc, World.size_alloc] at h
    exact h.below (B0 := w.heap.size + 1 + 1 + 1) (((Below.refl _ _).alloc (by simp) _).alloc (by simp) _) (by omega)
  have rL : Room W0 (w.heap.size + 1 + 1 + 1) 16 := by
    rw [← hW0]
    have h := room_alloc (((w.alloc (Obj.cells #[Value.bool na, Value.string sa] 23)).alloc (Obj.cells #[Value.bool nb, Value.string sb] 23)).alloc (Obj.cells #[Value.bool false, Value.string ⟨#[]⟩] 23)) zs 60 16 hz16
    rw [World.size_alloc, World.size_alloc, World.size_alloc] at h
    exact h.below (B := w.heap.size + 1 + 1 + 1 + 1) ((Below.refl _ _).alloc (by simp) _) (by omega)
  have rR : Room W0 (w.heap.size + 1 + 1 + 1 + 1) 16 := by
    rw [← hW0]
    have h := room_alloc ((((w.alloc (Obj.cells #[Value.bool na, Value.string sa] 23)).alloc (Obj.cells #[Value.bool nb, Value.string sb] 23)).alloc (Obj.cells #[Value.bool false, Value.string ⟨#[]⟩] 23)).alloc (Obj.cells zs 60)) zs 60 16 hz16
    rw [World.size_alloc, World.size_alloc, World.size_alloc, World.size_alloc] at h
    exact h
  have b0 : Below w.heap.size w W0 := by
    rw [← hW0]
    exact (((((Below.refl _ _).alloc (Nat.le_refl _) _).alloc (by simp) _).alloc (by simp; omega) _).alloc (by simp; omega) _).alloc (by simp; omega) _
  rw [hW0]
  have kA := tA.2.1
  have kB := tB.2.1
  have hsd : W0.drew.heap.size = w.heap.size + 1 + 1 + 1 + 1 + 1 := hs0
  have tA' : Two w.heap.size (.bool na) (.string sa) W0.drew := tA
  have tB' : Two (w.heap.size + 1) (.bool nb) (.string sb) W0.drew := tB
  have tR' : Two (w.heap.size + 1 + 1) (.bool false) (.string ⟨#[]⟩) W0.drew := tR
  have rL' : Room W0.drew (w.heap.size + 1 + 1 + 1) 16 := rL
  have rR' : Room W0.drew (w.heap.size + 1 + 1 + 1 + 1) 16 := rR
  have H0 := Lib.hid (And.intro tA' (And.intro tB' (And.intro tR' (And.intro rL' (And.intro rR' (And.intro b0.drew hsd))))))
  clear tA tB tR rL rR tA' tB' tR' rL' rR' b0 hs0 hsd hW0 hzs hz16
  have tok1 : True := trivial
  go_region_held3 (fun w' => w'.cell? ⟨w.heap.size, 1, none⟩ = some (.string sa) ∧ w'.cell? ⟨w.heap.size + 1, 1, none⟩ = some (.string sb)) (go_keep)
    (first | (go_at_call 58; have _t := tok1; clear tok1; refine (load_any (w.heap.size + 1 + 1 + 1) sa _ (by omega) H0.out.2.2.2.1).mono ?_; intro e wL hL; obtain ⟨gL, capL, rfl, rowL, hgL, hgrL, capLge⟩ := loaded_cap hL; have H1 := Lib.hid (And.intro rowL (And.intro hgL hgrL)); have HCL := Lib.hid capLge; clear capLge; have kA1 := ((H0.out.1.grown hgrL (by omega)).2.1); have kB1 := ((H0.out.2.1.grown hgrL (by omega)).2.1); clear hL rowL hgL hgrL) | (go_at_call 58; refine (load_any (w.heap.size + 1 + 1 + 1 + 1) sb _ (by omega) (H0.out.2.2.2.2.1.grown H1.out.2.2 (by omega))).mono ?_; intro e wR hR; obtain ⟨gR, capR, rfl, rowR, hgR, hgrR, capRge⟩ := loaded_cap hR; have H2 := Lib.hid (And.intro rowR (And.intro hgR hgrR)); have HCR := Lib.hid capRge; clear capRge; have kA2 := (((H0.out.1.grown H1.out.2.2 (by omega)).grown hgrR (by omega)).2.1); have kB2 := (((H0.out.2.1.grown H1.out.2.2 (by omega)).grown hgrR (by omega)).2.1); clear hR rowR hgR hgrR))
  have h1 := H1.out
  have h2 := H2.out
  have h0 := H0.out
  obtain ⟨cA, cB, cR, _, _, cb, cs⟩ := h0
  have gLne : gL ≠ w.heap.size + 1 + 1 + 1 + 1 := by rcases h1.2.1 with h | h <;> omega
  have gLge : w.heap.size ≤ gL := by rcases h1.2.1 with h | h <;> omega
  have rowL2 := h1.1.grown h2.2.2 gLne
  have rowR2 := h2.1
  have cA2 := (cA.grown h1.2.2 (by omega)).grown h2.2.2 (by omega)
  have cB2 := (cB.grown h1.2.2 (by omega)).grown h2.2.2 (by omega)
  have cR2 := (cR.grown h1.2.2 (by omega)).grown h2.2.2 (by omega)
  have cb2 : Below w.heap.size w wR := (cb.grown h1.2.2 (by omega) (fun k e => by cases e; omega)).grown h2.2.2 (by have := h1.2.2.size; omega) (fun k e => by cases e; omega)
  have cz2 : w.heap.size + 1 + 1 + 1 + 1 + 1 ≤ wR.heap.size := by have := h1.2.2.size; have := h2.2.2.size; omega
  have hla := nw_be_length sa.data.toList
  have hlb := nw_be_length sb.data.toList
  rw [← Lib.size_eq] at hla hlb
  have capLge := HCL.out
  have capRge := HCR.out
  obtain ⟨m, hm⟩ : ∃ m, m = beVal sa.data.toList := ⟨_, rfl⟩
  obtain ⟨n, hn⟩ : ∃ n, n = beVal sb.data.toList := ⟨_, rfl⟩
  obtain ⟨z, hz⟩ : ∃ z, ival na sa + ival nb sb = z := ⟨_, rfl⟩
  have hms := hz
  unfold ival at hms
  rw [← hm, ← hn] at hms
  rw [← hm] at hla rowL2 capLge
  rw [← hn] at hlb rowR2 capRge
  rw [← hm, ← hn]
  have HZ := Lib.hid hz
  have HMS := Lib.hid hms
  have HW := Lib.hid (And.intro cA2 (And.intro cB2 (And.intro cR2 (And.intro cb2 (And.intro cz2 (And.intro rowL2 rowR2))))))
  have HN := Lib.hid (And.intro hla (And.intro hlb (And.intro capLge capRge)))
  clear h1 h2 cA cB cR cb cs gLne gLge rowL2 rowR2 cA2 cB2 cR2 cb2 cz2 hla hlb hms hm hn hz capLge capRge H0 H1 H2 HCL HCR
  by_cases hs : na = nb
  · have hq : (na == nb) = true := by rw [hs]; simp
    have hms : (if na = true then -((m + n : Nat) : Int) else ((m + n : Nat) : Int)) = z := by
      rw [← HMS.out, ← hs]; cases na <;> simp <;> omega
    have H5 := Lib.hid hms
    have h1 := HW.out
    have hpr := sum_any (some ⟨gL, 0, none⟩) (some ⟨gR, 0, none⟩) capL capR m n wR.drew (.inr ⟨_, _, rfl, (h1.2.2.2.2.2.1 : Row wR.drew gL 0 (nw m))⟩) (.inr ⟨_, _, rfl, (h1.2.2.2.2.2.2 : Row wR.drew gR 0 (nw n))⟩) HN.out.2.2.1 HN.out.2.2.2 (by have := HN.out.1; omega) (by have := HN.out.2.1; omega)
    have HPR := Lib.hid hpr
    have hlen : (nw (m + n)).length ≤ 70000 := by have := nw_add_length m n; have := HN.out.1; have := HN.out.2.1; omega
    have HLEN := Lib.hid hlen
    have q1 : Two w.heap.size (.bool na) (.string sa) wR.drew := h1.1
    have q2 : Two (w.heap.size + 1) (.bool nb) (.string sb) wR.drew := h1.2.1
    have q3 : Two (w.heap.size + 1 + 1) (.bool false) (.string ⟨#[]⟩) wR.drew := h1.2.2.1
    have q5 : w.heap.size + 1 + 1 + 1 + 1 + 1 ≤ wR.drew.heap.size := h1.2.2.2.2.1
    have HQ := Lib.hid (And.intro q1 (And.intro q2 (And.intro q3 (And.intro h1.2.2.2.1.drew q5))))
    clear q1 q2 q3 q5
    have kA := h1.1.1.1
    have kB := h1.2.1.1.1
    have kA5 : wR.drew.cell? ⟨w.heap.size, 0, none⟩ = some (.bool na) := h1.1.1.1
    have ne0 : ¬ (w.heap.size + 1 + 1 = w.heap.size) := by omega
    clear h1 hpr hms hlen hs kA1 kB1 kA2 kB2
    go_wp2_with fail
    go_region_held3 (fun w' => w'.cell? ⟨w.heap.size, 0, none⟩ = some (.bool na)) (go_keep)
      (first | (go_at_call 59; refine HPR.out.mono ?_; intro e wP hP; obtain ⟨gP, capP, rfl, _, _, rowP, gPge, bP⟩ := hP; have H6 := Lib.hid (And.intro rowP (And.intro gPge bP)); have kS3 := (HQ.out.1.below bP (by have := HQ.out.2.2.2.2; omega)).1.1; clear rowP gPge bP) | (go_at_call 50; have hsn := signed_nat na (some ⟨gP, 0, none⟩) (m + n) capP wP (.inr ⟨_, _, rfl, H6.out.1⟩) (by have := HLEN.out; omega); rw [H5.out] at hsn; refine hsn.mono ?_; clear hsn; intro e wS hS; obtain ⟨he, bS⟩ := hS; subst he; have H7 := Lib.hid bS; have kS4 := ((HQ.out.1.below H6.out.2.2 (by have := HQ.out.2.2.2.2; omega)).below bS (by have := HQ.out.2.2.2.2; have := H6.out.2.2.size; omega)).1.1; have kR4 := ((HQ.out.2.2.1.below H6.out.2.2 (by have := HQ.out.2.2.2.2; omega)).below bS (by have := HQ.out.2.2.2.2; have := H6.out.2.2.size; omega)); obtain ⟨⟨r1, r2⟩, r3, r4⟩ := kR4; clear bS))
    have hsz := HQ.out.2.2.2.2
    have hbw := HQ.out.2.2.2.1
    have hbP := H6.out.2.2
    have hbS := H7.out
    have hsP := hbP.size
    have hbel : Below w.heap.size w ((wS.setCell ⟨w.heap.size + 1 + 1, 0, none⟩ (.bool (ng z))).setCell ⟨w.heap.size + 1 + 1, 1, none⟩ (.string (mg z))) :=
      (((hbw.trans (hbP.mono (by omega))).trans (hbS.mono (by omega))).setCell (by show w.heap.size ≤ w.heap.size + 1 + 1; omega) _).setCell (by show w.heap.size ≤ w.heap.size + 1 + 1; omega) _
    have HBEL := Lib.hid hbel
    clear hsz hbw hbP hbS hsP hbel
    go_wp2_with fail
    refine bodyPost_ret (v := .agg #[.bool (ng z), .string (mg z)]) (by simp [results, Tryz.results28, go_sem, r1, r3]) rfl ?_
    rw [HZ.out]
    exact ⟨rfl, HBEL.out⟩
  · have hq : (na == nb) = false := by cases na <;> cases nb <;> simp at hs ⊢
    have h1 := HW.out
    have hcm := compare_any (some ⟨gL, 0, none⟩) (some ⟨gR, 0, none⟩) m n capL capR wR (.inr ⟨_, _, rfl, h1.2.2.2.2.2.1⟩) (.inr ⟨_, _, rfl, h1.2.2.2.2.2.2⟩) (by have := HN.out.1; omega)
    have kA := h1.1.1.1
    have kB := h1.2.1.1.1
    clear h1
    by_cases hlt : m < n
    · have hcz : cmpZ m n = -1 := cmpZ_lt (by omega)
      rw [hcz] at hcm
      have HCM := Lib.hid hcm
      have hms : (if nb = true then -((n - m : Nat) : Int) else ((n - m : Nat) : Int)) = z := by
        rw [← HMS.out]; cases na <;> cases nb <;> simp at hs ⊢ <;> omega
      have H5 := Lib.hid hms
      have hlen : (nw (n - m)).length ≤ 70000 := by have := nw_sub_length n m; have := HN.out.1; have := HN.out.2.1; omega
      have HLEN := Lib.hid hlen
      have hle : m ≤ n := by omega
      clear hcm hms hlen hs hcz kA1 kB1 kA2 kB2
      go_wp2_with fail
      refine HCM.out.mono ?_
      rintro e wC ⟨rfl, hbC⟩
      have h1 := HW.out
      have cA5 := h1.1.below hbC h1.1.lt
      have cB5 := h1.2.1.below hbC h1.2.1.lt
      have cR5 := h1.2.2.1.below hbC h1.2.2.1.lt
      have cb5 : Below w.heap.size w wC := h1.2.2.2.1.trans (hbC.mono (by have := h1.2.2.2.2.1; omega))
      have cz5 : w.heap.size + 1 + 1 + 1 + 1 + 1 ≤ wC.heap.size := by have := h1.2.2.2.2.1; have := hbC.size; omega
      have nL5 : Nt wC (some ⟨gL, 0, none⟩) (nw m) := Nt.below (.inr ⟨_, _, rfl, h1.2.2.2.2.2.1⟩) hbC
      have nR5 : Nt wC (some ⟨gR, 0, none⟩) (nw n) := Nt.below (.inr ⟨_, _, rfl, h1.2.2.2.2.2.2⟩) hbC
      have nL6 : Nt wC.drew (some ⟨gL, 0, none⟩) (nw m) := nL5
      have nR6 : Nt wC.drew (some ⟨gR, 0, none⟩) (nw n) := nR5
      have hpr := difference_any (some ⟨gR, 0, none⟩) (some ⟨gL, 0, none⟩) capR capL n m wC.drew nR6 nL6 HN.out.2.2.2 HN.out.2.2.1 (by have := HN.out.1; have := HN.out.2.1; omega) hle
      have HPR := Lib.hid hpr
      have q1 : Two w.heap.size (.bool na) (.string sa) wC.drew := cA5
      have q2 : Two (w.heap.size + 1) (.bool nb) (.string sb) wC.drew := cB5
      have q3 : Two (w.heap.size + 1 + 1) (.bool false) (.string ⟨#[]⟩) wC.drew := cR5
      have q5 : w.heap.size + 1 + 1 + 1 + 1 + 1 ≤ wC.drew.heap.size := cz5
      have HQ := Lib.hid (And.intro q1 (And.intro q2 (And.intro q3 (And.intro cb5.drew q5))))
      clear q1 q2 q3 q5
      have kS5 : wC.cell? ⟨w.heap.size + 1, 0, none⟩ = some (.bool nb) := cB5.1.1
      have kS6 : wC.drew.cell? ⟨w.heap.size + 1, 0, none⟩ = some (.bool nb) := cB5.1.1
      have ne0 : ¬ (w.heap.size + 1 + 1 = w.heap.size + 1) := by omega
      clear h1 cA5 cB5 cR5 cb5 cz5 nL5 nR5 nL6 nR6 hpr hbC
      go_wp2_with fail
      go_region_held3 (fun w' => w'.cell? ⟨w.heap.size + 1, 0, none⟩ = some (.bool nb)) (go_keep)
        (first | (go_at_call 61; refine HPR.out.mono ?_; intro e wP hP; obtain ⟨gP, capP, rfl, _, _, rowP, gPge, bP⟩ := hP; have H6 := Lib.hid (And.intro rowP (And.intro gPge bP)); have kS3 := (HQ.out.2.1.below bP (by have := HQ.out.2.2.2.2; omega)).1.1; clear rowP gPge bP) | (go_at_call 50; have hsn := signed_nat nb (some ⟨gP, 0, none⟩) (n - m) capP wP (.inr ⟨_, _, rfl, H6.out.1⟩) (by have := HLEN.out; omega); rw [H5.out] at hsn; refine hsn.mono ?_; clear hsn; intro e wS hS; obtain ⟨he, bS⟩ := hS; subst he; have H7 := Lib.hid bS; have kS4 := ((HQ.out.2.1.below H6.out.2.2 (by have := HQ.out.2.2.2.2; omega)).below bS (by have := HQ.out.2.2.2.2; have := H6.out.2.2.size; omega)).1.1; have kR4 := ((HQ.out.2.2.1.below H6.out.2.2 (by have := HQ.out.2.2.2.2; omega)).below bS (by have := HQ.out.2.2.2.2; have := H6.out.2.2.size; omega)); obtain ⟨⟨r1, r2⟩, r3, r4⟩ := kR4; clear bS))
      have hsz := HQ.out.2.2.2.2
      have hbw := HQ.out.2.2.2.1
      have hbP := H6.out.2.2
      have hbS := H7.out
      have hsP := hbP.size
      have hbel : Below w.heap.size w ((wS.setCell ⟨w.heap.size + 1 + 1, 0, none⟩ (.bool (ng z))).setCell ⟨w.heap.size + 1 + 1, 1, none⟩ (.string (mg z))) :=
        (((hbw.trans (hbP.mono (by omega))).trans (hbS.mono (by omega))).setCell (by show w.heap.size ≤ w.heap.size + 1 + 1; omega) _).setCell (by show w.heap.size ≤ w.heap.size + 1 + 1; omega) _
      have HBEL := Lib.hid hbel
      clear hsz hbw hbP hbS hsP hbel
      go_wp2_with fail
      refine bodyPost_ret (v := .agg #[.bool (ng z), .string (mg z)]) (by simp [results, Tryz.results28, go_sem, r1, r3]) rfl ?_
      rw [HZ.out]
      exact ⟨rfl, HBEL.out⟩
    · obtain ⟨cz, hcz, hge⟩ : ∃ cz : Int, cmpZ m n = cz ∧ ¬ cz < 0 := ⟨_, rfl, by unfold cmpZ; rw [if_neg (by omega)]; split <;> omega⟩
      rw [hcz] at hcm
      have HCM := Lib.hid hcm
      have hms : (if na = true then -((m - n : Nat) : Int) else ((m - n : Nat) : Int)) = z := by
        rw [← HMS.out]; cases na <;> cases nb <;> simp at hs ⊢ <;> omega
      have H5 := Lib.hid hms
      have hlen : (nw (m - n)).length ≤ 70000 := by have := nw_sub_length m n; have := HN.out.1; have := HN.out.2.1; omega
      have HLEN := Lib.hid hlen
      have hle : n ≤ m := by omega
      clear hcm hms hlen hs hcz kA1 kB1 kA2 kB2
      go_wp2_with fail
      refine HCM.out.mono ?_
      rintro e wC ⟨rfl, hbC⟩
      have h1 := HW.out
      have cA5 := h1.1.below hbC h1.1.lt
      have cB5 := h1.2.1.below hbC h1.2.1.lt
      have cR5 := h1.2.2.1.below hbC h1.2.2.1.lt
      have cb5 : Below w.heap.size w wC := h1.2.2.2.1.trans (hbC.mono (by have := h1.2.2.2.2.1; omega))
      have cz5 : w.heap.size + 1 + 1 + 1 + 1 + 1 ≤ wC.heap.size := by have := h1.2.2.2.2.1; have := hbC.size; omega
      have nL5 : Nt wC (some ⟨gL, 0, none⟩) (nw m) := Nt.below (.inr ⟨_, _, rfl, h1.2.2.2.2.2.1⟩) hbC
      have nR5 : Nt wC (some ⟨gR, 0, none⟩) (nw n) := Nt.below (.inr ⟨_, _, rfl, h1.2.2.2.2.2.2⟩) hbC
      have nL6 : Nt wC.drew (some ⟨gL, 0, none⟩) (nw m) := nL5
      have nR6 : Nt wC.drew (some ⟨gR, 0, none⟩) (nw n) := nR5
      have hpr := difference_any (some ⟨gL, 0, none⟩) (some ⟨gR, 0, none⟩) capL capR m n wC.drew nL6 nR6 HN.out.2.2.1 HN.out.2.2.2 (by have := HN.out.1; have := HN.out.2.1; omega) hle
      have HPR := Lib.hid hpr
      have q1 : Two w.heap.size (.bool na) (.string sa) wC.drew := cA5
      have q2 : Two (w.heap.size + 1) (.bool nb) (.string sb) wC.drew := cB5
      have q3 : Two (w.heap.size + 1 + 1) (.bool false) (.string ⟨#[]⟩) wC.drew := cR5
      have q5 : w.heap.size + 1 + 1 + 1 + 1 + 1 ≤ wC.drew.heap.size := cz5
      have HQ := Lib.hid (And.intro q1 (And.intro q2 (And.intro q3 (And.intro cb5.drew q5))))
      clear q1 q2 q3 q5
      have kS5 : wC.cell? ⟨w.heap.size, 0, none⟩ = some (.bool na) := cA5.1.1
      have kS6 : wC.drew.cell? ⟨w.heap.size, 0, none⟩ = some (.bool na) := cA5.1.1
      have ne0 : ¬ (w.heap.size + 1 + 1 = w.heap.size) := by omega
      clear h1 cA5 cB5 cR5 cb5 cz5 nL5 nR5 nL6 nR6 hpr hbC
      go_wp2_with fail
      go_region_held3 (fun w' => w'.cell? ⟨w.heap.size, 0, none⟩ = some (.bool na)) (go_keep)
        (first | (go_at_call 61; refine HPR.out.mono ?_; intro e wP hP; obtain ⟨gP, capP, rfl, _, _, rowP, gPge, bP⟩ := hP; have H6 := Lib.hid (And.intro rowP (And.intro gPge bP)); have kS3 := (HQ.out.1.below bP (by have := HQ.out.2.2.2.2; omega)).1.1; clear rowP gPge bP) | (go_at_call 50; have hsn := signed_nat na (some ⟨gP, 0, none⟩) (m - n) capP wP (.inr ⟨_, _, rfl, H6.out.1⟩) (by have := HLEN.out; omega); rw [H5.out] at hsn; refine hsn.mono ?_; clear hsn; intro e wS hS; obtain ⟨he, bS⟩ := hS; subst he; have H7 := Lib.hid bS; have kS4 := ((HQ.out.1.below H6.out.2.2 (by have := HQ.out.2.2.2.2; omega)).below bS (by have := HQ.out.2.2.2.2; have := H6.out.2.2.size; omega)).1.1; have kR4 := ((HQ.out.2.2.1.below H6.out.2.2 (by have := HQ.out.2.2.2.2; omega)).below bS (by have := HQ.out.2.2.2.2; have := H6.out.2.2.size; omega)); obtain ⟨⟨r1, r2⟩, r3, r4⟩ := kR4; clear bS))
      have hsz := HQ.out.2.2.2.2
      have hbw := HQ.out.2.2.2.1
      have hbP := H6.out.2.2
      have hbS := H7.out
      have hsP := hbP.size
      have hbel : Below w.heap.size w ((wS.setCell ⟨w.heap.size + 1 + 1, 0, none⟩ (.bool (ng z))).setCell ⟨w.heap.size + 1 + 1, 1, none⟩ (.string (mg z))) :=
        (((hbw.trans (hbP.mono (by omega))).trans (hbS.mono (by omega))).setCell (by show w.heap.size ≤ w.heap.size + 1 + 1; omega) _).setCell (by show w.heap.size ≤ w.heap.size + 1 + 1; omega) _
      have HBEL := Lib.hid hbel
      clear hsz hbw hbP hbS hsP hbel
      go_wp2_with fail
      refine bodyPost_ret (v := .agg #[.bool (ng z), .string (mg z)]) (by simp [results, Tryz.results28, go_sem, r1, r3]) rfl ?_
      rw [HZ.out]
      exact ⟨rfl, HBEL.out⟩
end Go.Proofs.YtmbnkokcpmkpgaaGreatDoor
