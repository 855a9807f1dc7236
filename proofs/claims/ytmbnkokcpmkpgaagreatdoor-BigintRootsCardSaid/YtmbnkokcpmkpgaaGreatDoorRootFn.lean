/- The contract of bigint.Root, where the contract of root holds for its number. -/
import Derived.Test.YtmbnkokcpmkpgaaGreatDoorWordRoot
import Derived.Test.YtmbnkokcpmkpgaaGreatDoorDivZ
namespace Go.Proofs.YtmbnkokcpmkpgaaGreatDoor
open Go.RowKit Go.Shelf

/-- The words of a number; nothing that was there has turned. -/
def NtRes (w : World) (n : Nat) (e : Ending) (w' : World) : Prop := ∃ (p : Option Addr) (c : Nat), e = .returned (.slice p (nw n).length c) ∧ (nw n).length ≤ c ∧ Nt w' p (nw n) ∧ Below w.heap.size w w'
/-- The contract of root for a number. -/
def RootOk (n r : Nat) : Prop := ∀ (p : Option Addr) (cx : Nat) (w : World), Nt w p (nw n) →
  Calls Tryz.prog 69 #[.slice p (nw n).length cx] w (NtRes w r)

set_option maxHeartbeats 400000 in
set_option maxRecDepth 100000 in
theorem rootOk_word (n r : Nat) (hn : n < 18446744073709551616) (hr : IsRoot n r) : RootOk n r := by
  intro p cx w hx
  by_cases h0 : n = 0
  · subst h0
    have hr0 : r = 0 := hr.unique (by exact ⟨Nat.le_refl _, by omega⟩)
    subst hr0
    rw [nw_zero]
    clear hx hr
    go_enter Tryz.func69, Tryz.ntmps69
    go_wp2_with fail
    go_ret
    exact ⟨none, 0, by rw [nw_zero]; rfl, by rw [nw_zero]; exact Nat.le_refl _, .inl rfl, Below.refl _ _⟩
  · have hny : nw n = [n] := nw_small n hn h0
    have hr1 : r ≠ 0 := by
      rintro rfl
      have := hr.2
      omega
    have hrn : r < 18446744073709551616 := by
      have h1 := hr.1
      have h2 : r * 1 ≤ r * r := Nat.mul_le_mul_left _ (by omega)
      omega
    have hwr := fun W => wordRoot_any n r W (by omega) hn hr
    have HWR := Lib.hid hwr
    have HR := Lib.hid (And.intro hr1 hrn)
    rw [hny] at hx ⊢
    rcases hx with hx | ⟨b, off, rfl, hxr⟩
    · cases hx
    · have kX : w.cell? ⟨b, off, none⟩ = some (.int .u64 (n : Nat)) := (hxr 0 (by simp)).1
      clear hxr hwr hr1 hrn hny hr h0 hn
      go_enter Tryz.func69, Tryz.ntmps69
      go_wp2_with (go_at_call 91; refine (HWR.out _).mono ?_; rintro e w' ⟨rfl, rfl⟩)
      go_ret
      have e1 : nw r = [r] := nw_small r HR.out.2 HR.out.1
      exact ⟨some ⟨w.heap.size, 0, none⟩, 1, by rw [e1]; rfl, by rw [e1]; exact Nat.le_refl _, .inr ⟨_, _, rfl, by rw [e1]; exact row_one w r 51⟩, (Below.refl _ _).alloc (Nat.le_refl _) _⟩
end Go.Proofs.YtmbnkokcpmkpgaaGreatDoor

namespace Go.Proofs.YtmbnkokcpmkpgaaGreatDoor
open Go.RowKit Go.Shelf

theorem cmpZ_zero (a b : Nat) : (cmpZ a b == 0) = decide (a = b) := by
  rcases Nat.lt_trichotomy a b with h | h | h
  · rw [cmpZ_lt (by omega)]; simp; omega
  · subst h; rw [cmpZ_eq rfl]; simp
  · rw [cmpZ_gt (by omega)]; simp; omega

set_option maxHeartbeats 1000000 in
set_option maxRecDepth 100000 in
theorem root_gen (na : Bool) (sa : ByteArray) (r : Nat) (w : World) (ha : sa.size ≤ 262144) (hok : RootOk (beVal sa.data.toList) r) (hr : IsRoot (beVal sa.data.toList) r) (hn : na = false ∨ beVal sa.data.toList = 0) :
    Calls Tryz.prog 36 #[.agg #[.bool na, .string sa]] w fun e w' => e = .returned (.tuple #[iv (r : Int), .bool (decide (r * r = beVal sa.data.toList)), .int .i64 0]) ∧ Below w.heap.size w w' := by
  have HOK := Lib.hid (And.intro hok (And.intro hr hn))
  clear hok hr hn
  go_enter Tryz.func36, Tryz.ntmps36
  go_wp2_with fail
  obtain ⟨zs, hzs⟩ : ∃ zs : Array Value, #[Value.int .u64 0, .int .u64 0, .int .u64 0, .int .u64 0, .int .u64 0, .int .u64 0, .int .u64 0, .int .u64 0, .int .u64 0, .int .u64 0, .int .u64 0, .int .u64 0, .int .u64 0, .int .u64 0, .int .u64 0, .int .u64 0] = zs := ⟨_, rfl⟩
  have hz16 : zs.size = 16 := by rw [← hzs]; rfl
  rw [hzs]
  obtain ⟨W0, hW0⟩ : ∃ W0, ((w.alloc (Obj.cells #[Value.bool na, Value.string sa] 23)).alloc (Obj.cells #[Value.bool false, Value.string ⟨#[]⟩] 23)).alloc (Obj.cells zs 60) = W0 := ⟨_, rfl⟩
  have hs0 : W0.heap.size = w.heap.size + 1 + 1 + 1 := by rw [← hW0]; simp
  have tA : Two w.heap.size (.bool na) (.string sa) W0 := by
    rw [← hW0]
    exact (two_new w _ _ _).below (B0 := w.heap.size + 1) (((Below.refl _ _).alloc (by simp) _).alloc (by simp) _) (by omega)
  have tR : Two (w.heap.size + 1) (.bool false) (.string ⟨#[]⟩) W0 := by
    rw [← hW0]
    have h := two_new (w.alloc (Obj.cells #[Value.bool na, Value.string sa] 23)) (.bool false) (.string ⟨#[]⟩) 23
    simp only [World.size_alloc] at h
    exact h.below (B0 := w.heap.size + 1 + 1) ((Below.refl _ _).alloc (by simp) _) (by omega)
  have rL : Room W0 (w.heap.size + 1 + 1) 16 := by
    rw [← hW0]
    have h := room_alloc ((w.alloc (Obj.cells #[Value.bool na, Value.string sa] 23)).alloc (Obj.cells #[Value.bool false, Value.string ⟨#[]⟩] 23)) zs 60 16 hz16
    simp only [World.size_alloc] at h
    exact h
  have b0 : Below w.heap.size w W0 := by
    rw [← hW0]
    exact (((Below.refl _ _).alloc (Nat.le_refl _) _).alloc (by simp) _).alloc (by simp; omega) _
  rw [hW0]
  have kA := tA.2.1
  have H0 := Lib.hid (And.intro tA (And.intro tR (And.intro rL (And.intro b0 hs0))))
  clear tA tR rL b0 hs0 hW0 hzs hz16
  go_wp2_with fail
  refine (load_any (w.heap.size + 1 + 1) sa _ (by omega) H0.out.2.2.1).mono ?_
  intro e wL hL
  obtain ⟨gL, capL, rfl, rowL, hgL, hgrL, capLge⟩ := loaded_cap hL
  have cA := H0.out.1.grown hgrL (by omega)
  have cR := H0.out.2.1.grown hgrL (by omega)
  have cb : Below w.heap.size w wL := H0.out.2.2.2.1.grown hgrL (by have := H0.out.2.2.2.2; omega) (fun k e => by cases e; omega)
  have cz : w.heap.size + 1 + 1 + 1 ≤ wL.heap.size := by have := H0.out.2.2.2.2; have := hgrL.size; omega
  have hla := nw_be_length sa.data.toList
  rw [← Lib.size_eq] at hla
  obtain ⟨m, hm⟩ : ∃ m, m = beVal sa.data.toList := ⟨_, rfl⟩
  have HM := Lib.hid hm
  rw [← hm] at hla rowL capLge
  rw [← hm]
  have kA := cA.1.1
  clear hL hgL hgrL H0 hm
  have hok := HOK.out.1
  have hr := HOK.out.2.1
  have hn := HOK.out.2.2
  rw [← HM.out] at hok hr hn
  have hrt := hok (some ⟨gL, 0, none⟩) capL wL (.inr ⟨_, _, rfl, rowL⟩)
  have hrm : r ≤ m := by
    have h1 := hr.1
    rcases Nat.eq_zero_or_pos r with h | h
    · omega
    · have : r * 1 ≤ r * r := Nat.mul_le_mul_left _ h
      omega
  have hrl : (nw r).length ≤ (nw m).length := by
    apply nw_length_le
    have h1 := wv_lt (nw m) (nw_ok m)
    rw [wv_nw] at h1
    omega
  have hnl : na = true → (nw m).length = 0 := fun h => by
    rcases hn with h' | h'
    · rw [h'] at h; cases h
    · rw [h']; rfl
  have HRT := Lib.hid hrt
  have HW := Lib.hid (And.intro cA (And.intro cR (And.intro cb (And.intro cz rowL))))
  have HN := Lib.hid (And.intro hla (And.intro hrl (And.intro capLge hr)))
  clear cA cR cb cz rowL hla hrl capLge hok hr hn hrt hrm HOK
  cases na
  all_goals (first | have hl0 := hnl rfl | skip)
  all_goals (try clear hnl)
  all_goals (try have hl1 : ¬ (0 < (nw m).length) := by omega)
  all_goals (try have hl2 : ¬ ((0 : Int) < ((nw m).length : Int)) := by omega)
  all_goals (try have HL0 := Lib.hid hl0)
  all_goals (try clear hl0)
  all_goals go_wp2_with fail
  all_goals refine HRT.out.mono ?_
  all_goals rintro e wQ ⟨pq, cq, rfl, hcq, ntq, hbQ⟩
  all_goals have dR := HW.out.2.1.below hbQ HW.out.2.1.lt
  all_goals have db : Below w.heap.size w wQ := HW.out.2.2.1.trans (hbQ.mono (by have := HW.out.2.2.2.1; omega))
  all_goals have dz : w.heap.size + 1 + 1 + 1 ≤ wQ.heap.size := Nat.le_trans HW.out.2.2.2.1 hbQ.size
  all_goals have dx : Nt wQ (some ⟨gL, 0, none⟩) (nw m) := Nt.below (.inr ⟨_, _, rfl, HW.out.2.2.2.2⟩) hbQ
  all_goals have HE := Lib.hid (And.intro dR (And.intro db (And.intro dz (And.intro dx (And.intro hcq ntq)))))
  all_goals clear dR db dz dx hcq ntq hbQ
  all_goals go_wp2_with fail
  all_goals have hsn := signed_nat false pq r cq wQ HE.out.2.2.2.2.2 (by have := HN.out.1; have := HN.out.2.1; omega)
  all_goals rw [show (if false = true then -(r : Int) else (r : Int)) = (r : Int) from rfl] at hsn
  all_goals refine hsn.mono ?_
  all_goals clear hsn
  all_goals rintro e wS ⟨he, hbS⟩
  all_goals subst he
  all_goals have hpr := product_any pq pq cq cq (nw r) (nw r) wS (HE.out.2.2.2.2.2.below hbS) (HE.out.2.2.2.2.2.below hbS) (by have := HN.out.1; have := HN.out.2.1; omega) (by have := HN.out.1; have := HN.out.2.1; omega) (nw_ok r) (nw_ok r)
  all_goals rw [wv_nw] at hpr
  all_goals have HPR := Lib.hid hpr
  all_goals have HBS := Lib.hid hbS
  all_goals clear hpr hbS
  all_goals go_wp2_with fail
  all_goals refine HPR.out.mono ?_
  all_goals rintro e wP ⟨gP, cP, rfl, hcP, _, rowP, hgP, hbP⟩
  all_goals have hml := nw_mul_length r r
  all_goals have hcm := compare_any (some ⟨gP, 0, none⟩) (some ⟨gL, 0, none⟩) (r * r) m cP capL wP (.inr ⟨_, _, rfl, rowP⟩) ((HE.out.2.2.2.1.below HBS.out).below hbP) (by have := HN.out.1; have := HN.out.2.1; omega)
  all_goals have hcz := cmpZ_zero (r * r) m
  all_goals obtain ⟨cz, hczz⟩ : ∃ cz, cmpZ ((r * r : Nat) : Int) (m : Int) = cz := ⟨_, rfl⟩
  all_goals rw [hczz] at hcm hcz
  all_goals obtain ⟨ex, hex⟩ : ∃ ex, decide (r * r = m) = ex := ⟨_, rfl⟩
  all_goals rw [hex] at hcz
  all_goals have HCM := Lib.hid hcm
  all_goals have HEX := Lib.hid hex
  all_goals have HBP := Lib.hid hbP
  all_goals clear hcm hczz hex hbP hcP rowP hgP hml
  all_goals go_wp2_with fail
  all_goals refine HCM.out.mono ?_
  all_goals rintro e wC ⟨rfl, hbC⟩
  all_goals have gR := (((HE.out.1.below HBS.out HE.out.1.lt).below HBP.out (HE.out.1.below HBS.out HE.out.1.lt).lt).below hbC ((HE.out.1.below HBS.out HE.out.1.lt).below HBP.out (HE.out.1.below HBS.out HE.out.1.lt).lt).lt)
  all_goals have hs1 := HBS.out.size
  all_goals have hs2 := HBP.out.size
  all_goals have hs3 := HE.out.2.2.1
  all_goals have hbel : Below w.heap.size w ((wC.setCell ⟨w.heap.size + 1, 0, none⟩ (.bool (ng (r : Int)))).setCell ⟨w.heap.size + 1, 1, none⟩ (.string (mg (r : Int)))) :=
    ((((HE.out.2.1.trans (HBS.out.mono (by omega))).trans (HBP.out.mono (by omega))).trans (hbC.mono (by omega))).setCell (by show w.heap.size ≤ w.heap.size + 1; omega) _).setCell (by show w.heap.size ≤ w.heap.size + 1; omega) _
  all_goals have fR : Two (w.heap.size + 1) (.bool (ng (r : Int))) (.string (mg (r : Int))) ((wC.setCell ⟨w.heap.size + 1, 0, none⟩ (.bool (ng (r : Int)))).setCell ⟨w.heap.size + 1, 1, none⟩ (.string (mg (r : Int)))) := two_set gR _ _
  all_goals have k1 := fR.1.1
  all_goals have k2 := fR.2.1
  all_goals obtain ⟨⟨r1, r2⟩, r3, r4⟩ := gR
  all_goals have HBEL := Lib.hid hbel
  all_goals clear hs1 hs2 hs3 hbel fR hbC
  all_goals go_wp2_with fail
  all_goals refine bodyPost_ret (v := .tuple #[iv (r : Int), .bool ex, .int .i64 0]) (by simp [results, Tryz.results36, go_sem, k1, k2, iv]) rfl ?_
  all_goals rw [← HM.out, HEX.out]
  all_goals exact ⟨rfl, HBEL.out⟩
set_option maxHeartbeats 1000000 in
set_option maxRecDepth 100000 in
theorem root_neg (sa : ByteArray) (w : World) (ha : sa.size ≤ 262144) (hn : beVal sa.data.toList ≠ 0) :
    Calls Tryz.prog 36 #[.agg #[.bool true, .string sa]] w fun e w' => e = .returned (.tuple #[iv 0, .bool false, .int .i64 2]) ∧ Below w.heap.size w w' := by
  obtain ⟨na, hna⟩ : ∃ na, na = true := ⟨_, rfl⟩
  rw [← hna]
  have HNA := Lib.hid hna
  have HOK := Lib.hid hn
  clear hn hna
  go_enter Tryz.func36, Tryz.ntmps36
  go_wp2_with fail
  obtain ⟨zs, hzs⟩ : ∃ zs : Array Value, #[Value.int .u64 0, .int .u64 0, .int .u64 0, .int .u64 0, .int .u64 0, .int .u64 0, .int .u64 0, .int .u64 0, .int .u64 0, .int .u64 0, .int .u64 0, .int .u64 0, .int .u64 0, .int .u64 0, .int .u64 0, .int .u64 0] = zs := ⟨_, rfl⟩
  have hz16 : zs.size = 16 := by rw [← hzs]; rfl
  rw [hzs]
  obtain ⟨W0, hW0⟩ : ∃ W0, ((w.alloc (Obj.cells #[Value.bool na, Value.string sa] 23)).alloc (Obj.cells #[Value.bool false, Value.string ⟨#[]⟩] 23)).alloc (Obj.cells zs 60) = W0 := ⟨_, rfl⟩
  have hs0 : W0.heap.size = w.heap.size + 1 + 1 + 1 := by rw [← hW0]; simp
  have tA : Two w.heap.size (.bool na) (.string sa) W0 := by
    rw [← hW0]
    exact (two_new w _ _ _).below (B0 := w.heap.size + 1) (((Below.refl _ _).alloc (by simp) _).alloc (by simp) _) (by omega)
  have tR : Two (w.heap.size + 1) (.bool false) (.string ⟨#[]⟩) W0 := by
    rw [← hW0]
    have h := two_new (w.alloc (Obj.cells #[Value.bool na, Value.string sa] 23)) (.bool false) (.string ⟨#[]⟩) 23
    simp only [World.size_alloc] at h
    exact h.below (B0 := w.heap.size + 1 + 1) ((Below.refl _ _).alloc (by simp) _) (by omega)
  have rL : Room W0 (w.heap.size + 1 + 1) 16 := by
    rw [← hW0]
    have h := room_alloc ((w.alloc (Obj.cells #[Value.bool na, Value.string sa] 23)).alloc (Obj.cells #[Value.bool false, Value.string ⟨#[]⟩] 23)) zs 60 16 hz16
    simp only [World.size_alloc] at h
    exact h
  have b0 : Below w.heap.size w W0 := by
    rw [← hW0]
    exact (((Below.refl _ _).alloc (Nat.le_refl _) _).alloc (by simp) _).alloc (by simp; omega) _
  rw [hW0]
  have kA := tA.2.1
  have H0 := Lib.hid (And.intro tA (And.intro tR (And.intro rL (And.intro b0 hs0))))
  clear tA tR rL b0 hs0 hW0 hzs hz16
  go_wp2_with fail
  refine (load_any (w.heap.size + 1 + 1) sa _ (by omega) H0.out.2.2.1).mono ?_
  intro e wL hL
  obtain ⟨gL, capL, rfl, rowL, hgL, hgrL, capLge⟩ := loaded_cap hL
  have cA := H0.out.1.grown hgrL (by omega)
  have cR := H0.out.2.1.grown hgrL (by omega)
  have cb : Below w.heap.size w wL := H0.out.2.2.2.1.grown hgrL (by have := H0.out.2.2.2.2; omega) (fun k e => by cases e; omega)
  have cz : w.heap.size + 1 + 1 + 1 ≤ wL.heap.size := by have := H0.out.2.2.2.2; have := hgrL.size; omega
  have hla := nw_be_length sa.data.toList
  rw [← Lib.size_eq] at hla
  obtain ⟨m, hm⟩ : ∃ m, m = beVal sa.data.toList := ⟨_, rfl⟩
  have HM := Lib.hid hm
  rw [← hm] at hla rowL capLge
  rw [← hm]
  have kA := cA.1.1
  clear hL hgL hgrL H0 hm
  have hn := HOK.out
  rw [← HM.out] at hn
  have hlp : 0 < (nw m).length := by rw [List.length_pos_iff]; exact fun h => hn ((nw_eq_nil _).1 h)
  have hl1 : (0 : Int) < ((nw m).length : Int) := by omega
  have fR : Two (w.heap.size + 1) (.bool false) (.string ⟨#[]⟩) ((wL.setCell ⟨w.heap.size + 1, 0, none⟩ (.bool false)).setCell ⟨w.heap.size + 1, 1, none⟩ (.string ⟨#[]⟩)) := two_set cR _ _
  have k1 := fR.1.1
  have k2 := fR.2.1
  have hbel : Below w.heap.size w ((wL.setCell ⟨w.heap.size + 1, 0, none⟩ (.bool false)).setCell ⟨w.heap.size + 1, 1, none⟩ (.string ⟨#[]⟩)) := (cb.setCell (by show w.heap.size ≤ w.heap.size + 1; omega) _).setCell (by show w.heap.size ≤ w.heap.size + 1; omega) _
  have HBEL := Lib.hid hbel
  obtain ⟨⟨r1, r2⟩, r3, r4⟩ := cR
  clear hbel fR cb cz rowL hla capLge hn HOK HM
  have hna := HNA.out
  clear HNA
  subst hna
  go_wp2_with fail
  refine bodyPost_ret (v := .tuple #[iv 0, .bool false, .int .i64 2]) (by simp [results, Tryz.results36, go_sem, k1, k2, iv_zero]) rfl ?_
  exact ⟨rfl, HBEL.out⟩
end Go.Proofs.YtmbnkokcpmkpgaaGreatDoor
