/- The walk of narrowslaw01.BigintRoots. -/
import Derived.Test.YtmbnkokcpmkpgaaGreatDoorRootAll
import Derived.Deep.CutRange
import Derived.Outline
import Derived.Handy
namespace Go.Proofs.YtmbnkokcpmkpgaaGreatDoor
open Go.RowKit Go.Shelf

set_option maxHeartbeats 1000000 in
set_option maxRecDepth 100000 in
theorem root_genC (na : Bool) (sa : ByteArray) (r : Nat) (w : World) (ha : sa.size ≤ 262144) (hok : RootOkC (beVal sa.data.toList) r) (hr : IsRoot (beVal sa.data.toList) r) (hn : na = false ∨ beVal sa.data.toList = 0) :
    Calls Tryz.prog 36 #[.agg #[.bool na, .string sa]] w fun e w' => e = .returned (.tuple #[iv (r : Int), .bool (decide (r * r = beVal sa.data.toList)), .int .i64 0]) ∧ Below w.heap.size w w' := by
  have HOK := Lib.hid (And.intro hok (And.intro hr hn))
  clear hok hr hn
  go_enter Tryz.func36, Tryz.ntmps36
  go_wp2_with fail
  obtain ⟨zs, hzs⟩ : ∃ zs : Array Value, #[Value.int .u64 0, .int .u64 0, .int .u64 0, .int .u64 0, .int .u64 0, .int .u64 0, .int .u64 0, .int .u64 0, .int .u64 0, .int .u64 0, .int .u64 0, .int .u64 0, .int .u64 0, .int .u64 0, .int .u64 0, .int .u64 0] = zs := ⟨_, rfl⟩
  have hz16 : zs.size = 16 := by rw [← hzs]; rfl
  rw [hzs]
  obtain ⟨W0, hW0⟩ : ∃ W0, ((w.alloc (Obj.cells #[Value.bool na, Value.string sa] 23)).alloc (Obj.cells #[Value.bool false, Value.string ⟨#[]⟩] 23)).alloc (Obj.cells zs 60) = W0 := ⟨_, rfl⟩
  have hs0 : W0.heap.size = w.heap.size + 1 + 1 + 1 := by rw [← hW0]; simp
  have tA : Two w.heap.size (.bool na) (.string sa) W0 := by
    rw [← hW0]
    exact (two_new w _ _ _).below (B0 := w.heap.size + 1) (((Below.refl _ _).alloc (by simp) _).alloc (by simp) _) (by omega)
  have tR : Two (w.heap.size + 1) (.bool false) (.string ⟨#[]⟩) W0 := by
    rw [← hW0]
    have h := two_new (w.alloc (Obj.cells #[Value.bool na, Value.string sa] 23)) (.bool false) (.string ⟨#[]⟩) 23
    simp only [World.size_alloc] at h
    exact h.below (B0 := w.heap.size + 1 + 1) ((Below.refl _ _).alloc (by simp) _) (by omega)
  have rL : Room W0 (w.heap.size + 1 + 1) 16 := by
    rw [← hW0]
    have h := room_alloc ((w.alloc (Obj.cells #[Value.bool na, Value.string sa] 23)).alloc (Obj.cells #[Value.bool false, Value.string ⟨#[]⟩] 23)) zs 60 16 hz16
    simp only [World.size_alloc] at h
    exact h
  have b0 : Below w.heap.size w W0 := by
    rw [← hW0]
    exact (((Below.refl _ _).alloc (Nat.le_refl _) _).alloc (by simp) _).alloc (by simp; omega) _
  rw [hW0]
  have kA := tA.2.1
  have H0 := Lib.hid (And.intro tA (And.intro tR (And.intro rL (And.intro b0 hs0))))
  clear tA tR rL b0 hs0 hW0 hzs hz16
  go_wp2_with fail
  refine (load_any (w.heap.size + 1 + 1) sa _ (by omega) H0.out.2.2.1).mono ?_
  intro e wL hL
  obtain ⟨gL, capL, rfl, rowL, hgL, hgrL, capLge⟩ := loaded_cap hL
  have cA := H0.out.1.grown hgrL (by omega)
  have cR := H0.out.2.1.grown hgrL (by omega)
  have cb : Below w.heap.size w wL := H0.out.2.2.2.1.grown hgrL (by have := H0.out.2.2.2.2; omega) (fun k e => by cases e; omega)
  have cz : w.heap.size + 1 + 1 + 1 ≤ wL.heap.size := by have := H0.out.2.2.2.2; have := hgrL.size; omega
  have hla := nw_be_length sa.data.toList
  rw [← Lib.size_eq] at hla
  obtain ⟨m, hm⟩ : ∃ m, m = beVal sa.data.toList := ⟨_, rfl⟩
  have HM := Lib.hid hm
  rw [← hm] at hla rowL capLge
  rw [← hm]
  have kA := cA.1.1
  clear hL hgL hgrL H0 hm
  have hok := HOK.out.1
  have hr := HOK.out.2.1
  have hn := HOK.out.2.2
  rw [← HM.out] at hok hr hn
  have hrt := hok (some ⟨gL, 0, none⟩) capL wL (.inr ⟨_, _, rfl, rowL⟩) capLge
  have hrm : r ≤ m := by
    have h1 := hr.1
    rcases Nat.eq_zero_or_pos r with h | h
    · omega
    · have : r * 1 ≤ r * r := Nat.mul_le_mul_left _ h
      omega
  have hrl : (nw r).length ≤ (nw m).length := by
    apply nw_length_le
    have h1 := wv_lt (nw m) (nw_ok m)
    rw [wv_nw] at h1
    omega
  have hnl : na = true → (nw m).length = 0 := fun h => by
    rcases hn with h' | h'
    · rw [h'] at h; cases h
    · rw [h']; rfl
  have HRT := Lib.hid hrt
  have HW := Lib.hid (And.intro cA (And.intro cR (And.intro cb (And.intro cz rowL))))
  have HN := Lib.hid (And.intro hla (And.intro hrl (And.intro capLge hr)))
  clear cA cR cb cz rowL hla hrl capLge hok hr hn hrt hrm HOK
  cases na
  all_goals (first | have hl0 := hnl rfl | skip)
  all_goals (try clear hnl)
  all_goals (try have hl1 : ¬ (0 < (nw m).length) := by omega)
  all_goals (try have hl2 : ¬ ((0 : Int) < ((nw m).length : Int)) := by omega)
  all_goals (try have HL0 := Lib.hid hl0)
  all_goals (try clear hl0)
  all_goals go_wp2_with fail
  all_goals refine HRT.out.mono ?_
  all_goals rintro e wQ ⟨pq, cq, rfl, hcq, ntq, hbQ⟩
  all_goals have dR := HW.out.2.1.below hbQ HW.out.2.1.lt
  all_goals have db : Below w.heap.size w wQ := HW.out.2.2.1.trans (hbQ.mono (by have := HW.out.2.2.2.1; omega))
  all_goals have dz : w.heap.size + 1 + 1 + 1 ≤ wQ.heap.size := Nat.le_trans HW.out.2.2.2.1 hbQ.size
  all_goals have dx : Nt wQ (some ⟨gL, 0, none⟩) (nw m) := Nt.below (.inr ⟨_, _, rfl, HW.out.2.2.2.2⟩) hbQ
  all_goals have HE := Lib.hid (And.intro dR (And.intro db (And.intro dz (And.intro dx (And.intro hcq ntq)))))
  all_goals clear dR db dz dx hcq ntq hbQ
  all_goals go_wp2_with fail
  all_goals have hsn := signed_nat false pq r cq wQ HE.out.2.2.2.2.2 (by have := HN.out.1; have := HN.out.2.1; omega)
  all_goals rw [show (if false = true then -(r : Int) else (r : Int)) = (r : Int) from rfl] at hsn
  all_goals refine hsn.mono ?_
  all_goals clear hsn
  all_goals rintro e wS ⟨he, hbS⟩
  all_goals subst he
  all_goals have hpr := product_any pq pq cq cq (nw r) (nw r) wS (HE.out.2.2.2.2.2.below hbS) (HE.out.2.2.2.2.2.below hbS) (by have := HN.out.1; have := HN.out.2.1; omega) (by have := HN.out.1; have := HN.out.2.1; omega) (nw_ok r) (nw_ok r)
  all_goals rw [wv_nw] at hpr
  all_goals have HPR := Lib.hid hpr
  all_goals have HBS := Lib.hid hbS
  all_goals clear hpr hbS
  all_goals go_wp2_with fail
  all_goals refine HPR.out.mono ?_
  all_goals rintro e wP ⟨gP, cP, rfl, hcP, _, rowP, hgP, hbP⟩
  all_goals have hml := nw_mul_length r r
  all_goals have hcm := compare_any (some ⟨gP, 0, none⟩) (some ⟨gL, 0, none⟩) (r * r) m cP capL wP (.inr ⟨_, _, rfl, rowP⟩) ((HE.out.2.2.2.1.below HBS.out).below hbP) (by have := HN.out.1; have := HN.out.2.1; omega)
  all_goals have hcz := cmpZ_zero (r * r) m
  all_goals obtain ⟨cz, hczz⟩ : ∃ cz, cmpZ ((r * r : Nat) : Int) (m : Int) = cz := ⟨_, rfl⟩
  all_goals rw [hczz] at hcm hcz
  all_goals obtain ⟨ex, hex⟩ : ∃ ex, decide (r * r = m) = ex := ⟨_, rfl⟩
  all_goals rw [hex] at hcz
  all_goals have HCM := Lib.hid hcm
  all_goals have HEX := Lib.hid hex
  all_goals have HBP := Lib.hid hbP
  all_goals clear hcm hczz hex hbP hcP rowP hgP hml
  all_goals go_wp2_with fail
  all_goals refine HCM.out.mono ?_
  all_goals rintro e wC ⟨rfl, hbC⟩
  all_goals have gR := (((HE.out.1.below HBS.out HE.out.1.lt).below HBP.out (HE.out.1.below HBS.out HE.out.1.lt).lt).below hbC ((HE.out.1.below HBS.out HE.out.1.lt).below HBP.out (HE.out.1.below HBS.out HE.out.1.lt).lt).lt)
  all_goals have hs1 := HBS.out.size
  all_goals have hs2 := HBP.out.size
  all_goals have hs3 := HE.out.2.2.1
  all_goals have hbel : Below w.heap.size w ((wC.setCell ⟨w.heap.size + 1, 0, none⟩ (.bool (ng (r : Int)))).setCell ⟨w.heap.size + 1, 1, none⟩ (.string (mg (r : Int)))) :=
    ((((HE.out.2.1.trans (HBS.out.mono (by omega))).trans (HBP.out.mono (by omega))).trans (hbC.mono (by omega))).setCell (by show w.heap.size ≤ w.heap.size + 1; omega) _).setCell (by show w.heap.size ≤ w.heap.size + 1; omega) _
  all_goals have fR : Two (w.heap.size + 1) (.bool (ng (r : Int))) (.string (mg (r : Int))) ((wC.setCell ⟨w.heap.size + 1, 0, none⟩ (.bool (ng (r : Int)))).setCell ⟨w.heap.size + 1, 1, none⟩ (.string (mg (r : Int)))) := two_set gR _ _
  all_goals have k1 := fR.1.1
  all_goals have k2 := fR.2.1
  all_goals obtain ⟨⟨r1, r2⟩, r3, r4⟩ := gR
  all_goals have HBEL := Lib.hid hbel
  all_goals clear hs1 hs2 hs3 hbel fR hbC
  all_goals go_wp2_with fail
  all_goals refine bodyPost_ret (v := .tuple #[iv (r : Int), .bool ex, .int .i64 0]) (by simp [results, Tryz.results36, go_sem, k1, k2, iv]) rfl ?_
  all_goals rw [← HM.out, HEX.out]
  all_goals exact ⟨rfl, HBEL.out⟩

theorem root_val {x : Int} {r : Nat} {bx br : Bool} {sx sr : ByteArray} (hx : Val bx sx x) (hs : sx.size ≤ 200) (h0 : 0 ≤ x) (hr : IsRoot x.natAbs r) (h3 : Nam br sr (r : Int)) (W : World) :
    Calls Tryz.prog 36 #[.agg #[.bool bx, .string sx]] W fun e w' => e = .returned (.tuple #[.agg #[.bool br, .string sr], .bool (decide (r * r = x.natAbs)), .int .i64 0]) ∧ Below W.heap.size W w' := by
  have e1 : beVal sx.data.toList = x.natAbs := by rw [← ival_abs bx sx, hx.val]
  have hl : (nw (beVal sx.data.toList)).length ≤ 65536 := by
    have h := nw_be_length sx.data.toList
    rw [← Lib.size_eq] at h
    omega
  have hn : bx = false ∨ beVal sx.data.toList = 0 := by
    cases bx
    · exact .inl rfl
    · refine .inr ?_
      have h1 := hx.val
      have h2 : ival true sx = -(beVal sx.data.toList : Int) := rfl
      omega
  have h := root_genC bx sx r W hx.small (rootOkC _ r (by rw [e1]; exact hr) hl) (by rw [e1]; exact hr) hn
  rw [e1] at h
  obtain ⟨rfl, rfl⟩ := h3
  exact h
theorem rootNeg_val {x : Int} {bx : Bool} {sx : ByteArray} (hx : Val bx sx x) (h0 : x < 0) (W : World) :
    Calls Tryz.prog 36 #[.agg #[.bool bx, .string sx]] W fun e w' => e = .returned (.tuple #[.agg #[.bool false, .string ⟨#[]⟩], .bool false, .int .i64 2]) ∧ Below W.heap.size W w' := by
  cases bx
  · have h1 := hx.val
    have h2 : ival false sx = (beVal sx.data.toList : Int) := rfl
    omega
  · have h1 := hx.val
    have h2 : ival true sx = -(beVal sx.data.toList : Int) := rfl
    exact root_neg sx W hx.small (by omega)

set_option maxHeartbeats 4000000 in
set_option maxRecDepth 100000 in
theorem roots_great (na : Bool) (sa : ByteArray) (w : World) (htab : Tab w) (ha : sa.size ≤ maxLen)
    (hg : (([(na, sa)] : List (Bool × ByteArray)).any fun p => decide ((60 : Int) < (p.2.size : Int))) = true) :
    Calls Tryz.prog 11 #[.agg #[.bool na, .string sa]] w fun e w' => e = .returned (.bool true) ∧ Below w.heap.size w w' := by
  unfold maxLen at ha
  have HG := Lib.hid hg
  have HT := Lib.hid htab
  have hss : ∀ p ∈ ([(na, sa)] : List (Bool × ByteArray)), p.2.size ≤ 9223372036854775807 := by
    intro p hp
    simp at hp
    rcases hp with rfl <;> simp <;> omega
  have HSS := Lib.hid hss
  clear htab hg hss
  go_enter Tryz.func11, Tryz.ntmps11
  go_wp2_with fail
  obtain ⟨W0, hW0⟩ : ∃ W0, (w.alloc (Obj.cells #[Value.bool na, Value.string sa] 23)).alloc (Obj.cells #[Value.bool na, Value.string sa] 23) = W0 := ⟨_, rfl⟩
  have z0 : W0.heap.size = w.heap.size + 1 + 1 := by rw [← hW0]; simp
  have ta : Two (w.heap.size) (.bool na) (.string sa) W0 := by
    rw [← hW0]
    have h := two_new w (.bool na) (.string sa) 23
    (try simp only [World.size_alloc] at h)
    exact h.below (B0 := w.heap.size + 1) ((Below.refl _ _).alloc (by simp) _) (by omega)
  have hrow : RowI W0 (w.heap.size + 1) [(na, sa)] := by
    rw [← hW0]
    have h := rowI_1 (w.alloc (Obj.cells #[Value.bool na, Value.string sa] 23)) na sa 23
    simp only [World.size_alloc] at h
    exact h
  have b0 : Below w.heap.size w W0 := by
    rw [← hW0]
    exact (((Below.refl _ _).alloc (Nat.le_refl _) _).alloc (by simp) _)
  rw [hW0]
  have hgr := great_any (w.heap.size + 1) [(na, sa)] W0 hrow (by omega) (by simp) HSS.out
  rw [HG.out] at hgr
  have HGR := Lib.hid hgr
  have H0 := Lib.hid (And.intro z0 (And.intro b0 (And.intro ta trivial)))
  clear hW0 z0 hrow b0 hgr ta
  refine HGR.out.mono ?_
  rintro e wG ⟨rfl, cG⟩
  have bG : Below w.heap.size w wG := H0.out.2.1.trans (cG.mono H0.out.2.1.size)
  have haw := awake_any wG (tab_of HT.out bG)
  have HAW := Lib.hid haw
  have HB := Lib.hid bG
  clear cG bG haw
  go_wp2_with fail
  refine HAW.out.mono ?_
  rintro e wA ⟨rfl, cA⟩
  go_wp2_with fail
  go_ret
  exact ⟨rfl, HB.out.trans (cA.mono HB.out.size)⟩

set_option maxHeartbeats 4000000 in
set_option maxRecDepth 100000 in
theorem roots_neg (na : Bool) (sa : ByteArray) (w : World) (htab : Tab w) (ha : sa.size ≤ maxLen)
    (hg : (([(na, sa)] : List (Bool × ByteArray)).any fun p => decide ((60 : Int) < (p.2.size : Int))) = false) (hs : ival na sa < 0) :
    Calls Tryz.prog 11 #[.agg #[.bool na, .string sa]] w fun e w' => e = .returned (.bool true) ∧ Below w.heap.size w w' := by
  unfold maxLen at ha
  have HG := Lib.hid hg
  have HT := Lib.hid htab
  have hss : ∀ p ∈ ([(na, sa)] : List (Bool × ByteArray)), p.2.size ≤ 9223372036854775807 := by
    intro p hp
    simp at hp
    rcases hp with rfl <;> simp <;> omega
  have HSS := Lib.hid hss
  have HSG := Lib.hid hs
  clear htab hg hss hs
  go_enter Tryz.func11, Tryz.ntmps11
  go_wp2_with fail
  obtain ⟨W0, hW0⟩ : ∃ W0, (w.alloc (Obj.cells #[Value.bool na, Value.string sa] 23)).alloc (Obj.cells #[Value.bool na, Value.string sa] 23) = W0 := ⟨_, rfl⟩
  have z0 : W0.heap.size = w.heap.size + 1 + 1 := by rw [← hW0]; simp
  have ta : Two (w.heap.size) (.bool na) (.string sa) W0 := by
    rw [← hW0]
    have h := two_new w (.bool na) (.string sa) 23
    (try simp only [World.size_alloc] at h)
    exact h.below (B0 := w.heap.size + 1) ((Below.refl _ _).alloc (by simp) _) (by omega)
  have hrow : RowI W0 (w.heap.size + 1) [(na, sa)] := by
    rw [← hW0]
    have h := rowI_1 (w.alloc (Obj.cells #[Value.bool na, Value.string sa] 23)) na sa 23
    simp only [World.size_alloc] at h
    exact h
  have b0 : Below w.heap.size w W0 := by
    rw [← hW0]
    exact (((Below.refl _ _).alloc (Nat.le_refl _) _).alloc (by simp) _)
  rw [hW0]
  have hgr := great_any (w.heap.size + 1) [(na, sa)] W0 hrow (by omega) (by simp) HSS.out
  rw [HG.out] at hgr
  have HGR := Lib.hid hgr
  have H0 := Lib.hid (And.intro z0 (And.intro b0 (And.intro ta trivial)))
  clear hW0 z0 hrow b0 hgr ta
  refine HGR.out.mono ?_
  rintro e wG ⟨rfl, cG⟩
  have bG : Below w.heap.size w wG := H0.out.2.1.trans (cG.mono H0.out.2.1.size)
  have hsm := small_size HG.out
  have zx : Sz 60 (ival na sa) := Sz.ival na sa 60 (hsm (na, sa) (by simp))
  have px : sa.size ≤ 60 := hsm (na, sa) (by simp)
  obtain ⟨x, hx⟩ : ∃ x, ival na sa = x := ⟨_, rfl⟩
  have vx : Val na sa x := ⟨hx, Nat.le_trans px (by omega)⟩
  rw [hx] at zx
  have tA : Two (w.heap.size) (.bool na) (.string sa) wG := H0.out.2.2.1.below cG H0.out.2.2.1.lt
  have v0 : Val false ⟨#[]⟩ 0 := ⟨rfl, Nat.zero_le _⟩
  have hx0 : x < 0 := by rw [← hx]; exact HSG.out
  have D1 := Lib.hid (rootNeg_val vx hx0)
  have K1 := Lib.hid (cmp_val vx v0 (-1) (cmpZ_lt hx0))
  have HS := Lib.hid (And.intro bG tA)
  have l1 := tA.lt
  have m1 := tA.1.1
  have m2 := tA.2.1
  have q1 := eql_int
  have q2 := guard_int
  have e0 : eqI false ⟨#[]⟩ false ⟨#[]⟩ = true := Nam.eq (z := 0) ⟨rfl, rfl⟩
  clear hx0 v0 cG bG tA hsm hx zx px vx
  go_wp2_with fail
  refine (D1.out _).mono ?_
  rintro e w1 ⟨rfl, c1⟩
  have d1 := HS.out.2.below c1 l1
  have f1 := HS.out.1.trans (c1.mono HS.out.1.size)
  clear m1 m2 l1 c1
  have HS1 := Lib.hid (And.intro f1 d1)
  have l1 := d1.lt
  have m1 := d1.1.1
  have m2 := d1.2.1
  clear d1 f1
  go_wp2_with fail
  obtain ⟨w2, hw2⟩ : ∃ V, (w1.alloc (Obj.cells #[Value.bool false, Value.string ⟨#[]⟩] 23)).alloc (Obj.cells #[Value.bool false, Value.string ⟨#[]⟩] 23) = V := ⟨_, rfl⟩
  obtain ⟨BR, hBR⟩ : ∃ B, w1.heap.size = B := ⟨_, rfl⟩
  obtain ⟨BZ, hBZ⟩ : ∃ B, w1.heap.size + 1 = B := ⟨_, rfl⟩
  have bw2 : Below w1.heap.size w1 w2 := by rw [← hw2]; exact ((Below.refl _ _).alloc (Nat.le_refl _) _).alloc (by simp) _
  have tBR : Two BR (.bool false) (.string ⟨#[]⟩) w2 := by rw [← hw2, ← hBR]; exact (two_new w1 _ _ _).below (B0 := w1.heap.size + 1) ((Below.refl _ _).alloc (by simp) _) (by omega)
  have tBZ : Two BZ (.bool false) (.string ⟨#[]⟩) w2 := by
    rw [← hw2, ← hBZ]
    have h := two_new (w1.alloc (Obj.cells #[Value.bool false, Value.string ⟨#[]⟩] 23)) (.bool false) (.string ⟨#[]⟩) 23
    rwa [World.size_alloc] at h
  rw [hw2, hBZ, hBR]
  have f2 := HS1.out.1.trans (bw2.mono HS1.out.1.size)
  have HS2 := Lib.hid (And.intro f2 (And.intro tBR tBZ))
  have hn1 : BR ≠ BZ := by omega
  have l3 := tBR.lt
  have l4 := tBZ.lt
  clear m1 m2 hw2 hBR hBZ bw2 f2 tBR tBZ l1
  refine (K1.out _).mono ?_
  rintro e w3 ⟨rfl, c3⟩
  have d3 := HS2.out.2.1.below c3 l3
  have d4 := HS2.out.2.2.below c3 l4
  have f3 := HS2.out.1.trans (c3.mono HS2.out.1.size)
  have HF3 := Lib.hid f3
  have m1 := d3.1.1
  have m2 := d3.2.1
  have m3 := d4.1.1
  have m4 := d4.2.1
  have haw := awake_any w3 (tab_of HT.out f3)
  have HAW := Lib.hid haw
  clear d3 d4 f3 c3 haw l3 l4
  go_wp2_with fail
  refine HAW.out.mono ?_
  rintro e wA ⟨rfl, cA⟩
  go_wp2_with fail
  go_ret
  exact ⟨rfl, HF3.out.trans (cA.mono HF3.out.size)⟩

set_option maxHeartbeats 4000000 in
set_option maxRecDepth 100000 in
theorem roots_exact (na : Bool) (sa : ByteArray) (w : World) (htab : Tab w) (ha : sa.size ≤ maxLen)
    (hg : (([(na, sa)] : List (Bool × ByteArray)).any fun p => decide ((60 : Int) < (p.2.size : Int))) = false) (hs : 0 ≤ ival na sa) (r : Nat) (hr : IsRoot (ival na sa).natAbs r) (hexact : r * r = (ival na sa).natAbs) :
    Calls Tryz.prog 11 #[.agg #[.bool na, .string sa]] w fun e w' => e = .returned (.bool true) ∧ Below w.heap.size w w' := by
  unfold maxLen at ha
  have HG := Lib.hid hg
  have HT := Lib.hid htab
  have hss : ∀ p ∈ ([(na, sa)] : List (Bool × ByteArray)), p.2.size ≤ 9223372036854775807 := by
    intro p hp
    simp at hp
    rcases hp with rfl <;> simp <;> omega
  have HSS := Lib.hid hss
  have HSG := Lib.hid (And.intro hs (And.intro hr hexact))
  clear htab hg hss hs hr hexact
  go_enter Tryz.func11, Tryz.ntmps11
  go_wp2_with fail
  obtain ⟨W0, hW0⟩ : ∃ W0, (w.alloc (Obj.cells #[Value.bool na, Value.string sa] 23)).alloc (Obj.cells #[Value.bool na, Value.string sa] 23) = W0 := ⟨_, rfl⟩
  have z0 : W0.heap.size = w.heap.size + 1 + 1 := by rw [← hW0]; simp
  have ta : Two (w.heap.size) (.bool na) (.string sa) W0 := by
    rw [← hW0]
    have h := two_new w (.bool na) (.string sa) 23
    (try simp only [World.size_alloc] at h)
    exact h.below (B0 := w.heap.size + 1) ((Below.refl _ _).alloc (by simp) _) (by omega)
  have hrow : RowI W0 (w.heap.size + 1) [(na, sa)] := by
    rw [← hW0]
    have h := rowI_1 (w.alloc (Obj.cells #[Value.bool na, Value.string sa] 23)) na sa 23
    simp only [World.size_alloc] at h
    exact h
  have b0 : Below w.heap.size w W0 := by
    rw [← hW0]
    exact (((Below.refl _ _).alloc (Nat.le_refl _) _).alloc (by simp) _)
  rw [hW0]
  have hgr := great_any (w.heap.size + 1) [(na, sa)] W0 hrow (by omega) (by simp) HSS.out
  rw [HG.out] at hgr
  have HGR := Lib.hid hgr
  have H0 := Lib.hid (And.intro z0 (And.intro b0 (And.intro ta trivial)))
  clear hW0 z0 hrow b0 hgr ta
  refine HGR.out.mono ?_
  rintro e wG ⟨rfl, cG⟩
  have bG : Below w.heap.size w wG := H0.out.2.1.trans (cG.mono H0.out.2.1.size)
  have hsm := small_size HG.out
  have zx : Sz 60 (ival na sa) := Sz.ival na sa 60 (hsm (na, sa) (by simp))
  have px : sa.size ≤ 60 := hsm (na, sa) (by simp)
  obtain ⟨x, hx⟩ : ∃ x, ival na sa = x := ⟨_, rfl⟩
  have vx : Val na sa x := ⟨hx, Nat.le_trans px (by omega)⟩
  rw [hx] at zx
  have tA : Two (w.heap.size) (.bool na) (.string sa) wG := H0.out.2.2.1.below cG H0.out.2.2.1.lt
  have v0 : Val false ⟨#[]⟩ 0 := ⟨rfl, Nat.zero_le _⟩
  have hsg := HSG.out
  rw [hx] at hsg
  obtain ⟨hx0, hr, hex⟩ := hsg
  obtain ⟨X, hX⟩ : ∃ X, x.natAbs = X := ⟨_, rfl⟩
  have hxX : x = (X : Int) := by omega
  obtain ⟨bR, sR, mR⟩ := nam_ex (r : Int)
  have hrt := root_val (r := r) vx (by omega) hx0 hr mR
  rw [hX] at hr hex hrt
  obtain ⟨S, hS⟩ : ∃ S, r * r = S := ⟨_, rfl⟩
  obtain ⟨N2, hN2⟩ : ∃ N2, (r + 1) * (r + 1) = N2 := ⟨_, rfl⟩
  have iS : (r : Int) * (r : Int) = (S : Int) := by rw [← hS]; push_cast; rfl
  have iN : ((r : Int) + 1) * ((r : Int) + 1) = (N2 : Int) := by rw [← hN2]; push_cast; rfl
  have iX : x * x = ((X * X : Nat) : Int) := by rw [hxX]; push_cast; rfl
  have hrX : r ≤ X := by
    have h1 := hr.1
    rcases Nat.eq_zero_or_pos r with h | h
    · omega
    · have : r * 1 ≤ r * r := Nat.mul_le_mul_left _ h
      omega
  have h1 := hr.1
  have h2 := hr.2
  rw [hS] at h1 hex hrt
  rw [hN2] at h2
  have zr : Sz 60 (r : Int) := by unfold Sz at *; omega
  have z1 : Sz 60 1 := by unfold Sz; decide
  obtain ⟨bN, sN, mN⟩ := nam_ex ((r : Int) + 1)
  obtain ⟨bS, sS, mS⟩ := nam_ex (S : Int)
  obtain ⟨bM, sM, mM⟩ := nam_ex (N2 : Int)
  obtain ⟨bQ, sQ, mQ⟩ := nam_ex (x * x)
  obtain ⟨bE, sE, mE⟩ := nam_ex x
  have hbR : bR = false := by obtain ⟨rfl, _⟩ := mR; exact decide_eq_false (by omega)
  have vR := mR.val zr (by omega)
  have vN := mN.val (zr.add z1) (by omega)
  have vS := mS.val (iS ▸ zr.mul zr) (by omega)
  have vM := mM.val (iN ▸ (zr.add z1).mul (zr.add z1)) (by omega)
  have vQ := mQ.val (zx.mul zx) (by omega)
  have vE := mE.val zx (by omega)
  have v1 : Val false ⟨#[1]⟩ 1 := ⟨by decide, by decide⟩
  have hsQ : sQ.size ≤ 200 := by obtain ⟨_, rfl⟩ := mQ; exact Nat.le_trans (zx.mul zx).size (by omega)
  have hrt2 := root_val (r := X) (br := bE) (sr := sE) vQ hsQ (by rw [iX]; omega) (by rw [iX]; exact ⟨Nat.le_refl _, Nat.mul_lt_mul_of_lt_of_lt (Nat.lt_succ_self _) (Nat.lt_succ_self _)⟩) (by rw [← hxX]; exact mE)
  rw [iX, Int.natAbs_natCast, decide_eq_true rfl] at hrt2
  have hrt1 := hrt
  rw [show decide (S = X) = true from decide_eq_true hex] at hrt1
  have D1 := Lib.hid hrt1
  have D2 := Lib.hid hrt2
  have O1 := Lib.hid (of_lit 1 false ⟨#[1]⟩ (by decide) (by decide) (by omega) (by omega))
  have A1 := Lib.hid (add_val vR v1 rfl mN)
  have M1 := Lib.hid (mul_val vR vR iS mS)
  have M2 := Lib.hid (mul_val vx vx rfl mQ)
  have R1 := Lib.hid (cmp_val vS vx 0 (cmpZ_eq (by omega)))
  have R2 := Lib.hid (mul_val vN vN iN mM)
  have R3 := Lib.hid (cmp_val vx vM (-1) (cmpZ_lt (by omega)))
  have R5 := Lib.hid (cmp_val vE vx 0 (cmpZ_eq rfl))
  subst hbR
  have HS := Lib.hid (And.intro bG tA)
  have l1 := tA.lt
  have m1 := tA.1.1
  have m2 := tA.2.1
  clear v0 cG bG tA hsm hx zx px vx hx0 hr hex hX hxX hrt hS hN2 iS iN iX hrX h1 h2 zr z1 mR mN mS mM mQ mE vR vN vS vM vQ vE v1 hsQ hrt1 hrt2
  go_wp2_with fail
  refine (D1.out _).mono ?_
  rintro e w1 ⟨rfl, c1⟩
  have d1 := HS.out.2.below c1 l1
  have f1 := HS.out.1.trans (c1.mono HS.out.1.size)
  clear m1 m2 l1 c1
  have HS1 := Lib.hid (And.intro f1 d1)
  have l1 := d1.lt
  have m1 := d1.1.1
  have m2 := d1.2.1
  clear d1 f1
  go_wp2_with fail
  obtain ⟨w2, hw2⟩ : ∃ V, (w1.alloc (Obj.cells #[Value.bool false, Value.string sR] 23)).alloc (Obj.cells #[Value.bool false, Value.string ⟨#[]⟩] 23) = V := ⟨_, rfl⟩
  obtain ⟨BR, hBR⟩ : ∃ B, w1.heap.size = B := ⟨_, rfl⟩
  obtain ⟨BZ, hBZ⟩ : ∃ B, w1.heap.size + 1 = B := ⟨_, rfl⟩
  have bw2 : Below w1.heap.size w1 w2 := by rw [← hw2]; exact ((Below.refl _ _).alloc (Nat.le_refl _) _).alloc (by simp) _
  have tBR : Two BR (.bool false) (.string sR) w2 := by rw [← hw2, ← hBR]; exact (two_new w1 _ _ _).below (B0 := w1.heap.size + 1) ((Below.refl _ _).alloc (by simp) _) (by omega)
  have tBZ : Two BZ (.bool false) (.string ⟨#[]⟩) w2 := by
    rw [← hw2, ← hBZ]
    have h := two_new (w1.alloc (Obj.cells #[Value.bool false, Value.string sR] 23)) (.bool false) (.string ⟨#[]⟩) 23
    rwa [World.size_alloc] at h
  rw [hw2, hBZ, hBR]
  have f2 := HS1.out.1.trans (bw2.mono HS1.out.1.size)
  have dA := HS1.out.2.below bw2 l1
  have HS2 := Lib.hid (And.intro f2 (And.intro dA (And.intro tBR tBZ)))
  clear m1 m2 l1 hw2 hBZ hBR bw2
  have l1 := dA.lt
  have l3 := tBR.lt
  have l4 := tBZ.lt
  have m3 := tBR.1.1
  have m4 := tBR.2.1
  clear f2 tBR tBZ dA
  go_cut [7] from 45 to 47 (fun p wc => ∃ B7 : Nat, p = .pointer (some ⟨B7, 0, none⟩) ∧ Two B7 (.bool bN) (.string sN) wc ∧ w2.heap.size ≤ B7 ∧ Below w2.heap.size w2 wc)
  case first =>
    have D0 := Lib.hid ((Below.refl w2.heap.size w2).drew)
    have hz0 : w2.heap.size ≤ w2.drew.heap.size := Nat.le_refl _
    have tok1 : True := trivial
    have tok2 : True := trivial
    go_region_held3 (fun w' => ∀ (a o : Nat), a < w2.heap.size → w'.cell? ⟨a, o, none⟩ = w2.cell? ⟨a, o, none⟩) (repeat' (first | with_reducible assumption | with_reducible exact keepS_refl _ | with_reducible (refine keepS_drew ?_) | with_reducible (refine keepS_alloc ?_ ?_) | with_reducible (refine keepS_set ?_ ?_) | go_size))
      (first
        | (go_at_call 18; have _t := tok1; clear tok1; refine (O1.out _).mono ?_; rintro e u1 ⟨rfl, d1⟩; have E2 := Lib.hid (show Below w2.heap.size w2 u1 from Below.trans (by have Dp := D0.out; go_grown) (d1.mono (by go_size))); have kS1 : ∀ (a o : Nat), a < w2.heap.size → u1.cell? ⟨a, o, none⟩ = w2.cell? ⟨a, o, none⟩ := fun a o h => E2.out.cell (p := ⟨a, o, none⟩) h; have hz1 : w2.heap.size ≤ u1.heap.size := E2.out.size; (try (have q10 := carry_two d1 (w2.heap.size) (by first | omega | (simp only [World.size_alloc, World.size_drew]; omega)); obtain ⟨⟨f100, f101⟩, ⟨g100, g101⟩, t10, n10, s10⟩ := q10)); clear d1)
        | (go_at_call 28; have _t := tok2; clear tok2; refine (A1.out _).mono ?_; rintro e u2 ⟨rfl, d2⟩; have E3 := Lib.hid (show Below w2.heap.size w2 u2 from Below.trans (by have Dp := E2.out; go_grown) (d2.mono (by go_size))); have kS2 : ∀ (a o : Nat), a < w2.heap.size → u2.cell? ⟨a, o, none⟩ = w2.cell? ⟨a, o, none⟩ := fun a o h => E3.out.cell (p := ⟨a, o, none⟩) h; have hz2 : w2.heap.size ≤ u2.heap.size := E3.out.size; (try (have q20 := carry_two d2 (w2.heap.size) (by first | omega | (simp only [World.size_alloc]; omega)); obtain ⟨⟨f200, f201⟩, ⟨g200, g201⟩, t20, n20, s20⟩ := q20)); (try (have q21 := carry_two d2 (u1.heap.size) (by first | omega | (simp only [World.size_alloc]; omega)); obtain ⟨⟨f210, f211⟩, ⟨g210, g211⟩, t21, n21, s21⟩ := q21)); clear d2))
    all_goals (go_wp2_with fail; go_meet)
    all_goals exact ⟨_, rfl, ⟨⟨(by first | (simp; done) | (simp [go_sem, *]; done)), (by first | (simp; done) | (simp [go_sem, *]; done))⟩, ⟨(by first | (simp; done) | (simp [go_sem, *]; done)), (by first | (simp; done) | (simp [go_sem, *]; done))⟩⟩, (by first | omega | (simp only [World.size_alloc, World.size_drew] at *; omega)), (by have Dp := E3.out; go_grown)⟩
  case rest =>
    obtain ⟨B7, rfl, t7, hB7, bC⟩ := hcut
    have f3 := HS2.out.1.trans (bC.mono HS2.out.1.size)
    have dA := HS2.out.2.1.below bC l1
    have dR := HS2.out.2.2.1.below bC l3
    have HS3 := Lib.hid (And.intro f3 (And.intro dA (And.intro dR t7)))
    clear l1 l3 l4 m3 m4 bC hB7
    have l1 := dA.lt
    have l2 := dR.lt
    have l3 := t7.lt
    have m1 := dR.1.1
    have m2 := dR.2.1
    clear f3 dA dR t7
    go_wp2_with fail
    refine (M1.out _).mono ?_
    rintro e w4 ⟨rfl, c4⟩
    have f4 := HS3.out.1.trans (c4.mono HS3.out.1.size)
    have dA := HS3.out.2.1.below c4 l1
    have dR := HS3.out.2.2.1.below c4 l2
    have d7 := HS3.out.2.2.2.below c4 l3
    have HS4 := Lib.hid (And.intro f4 (And.intro dA (And.intro dR d7)))
    clear l1 l2 l3 m1 m2 c4
    have l1 := dA.lt
    have m1 := dA.1.1
    have m2 := dA.2.1
    clear f4 dA dR d7
    go_wp2_with fail
    obtain ⟨w5, hw5⟩ : ∃ V, w4.alloc (Obj.cells #[Value.bool bS, Value.string sS] 23) = V := ⟨_, rfl⟩
    obtain ⟨B8, hB8⟩ : ∃ B, w4.heap.size = B := ⟨_, rfl⟩
    rw [hw5, hB8]
    have b5 : Below w4.heap.size w4 w5 := by rw [← hw5]; exact (Below.refl _ _).alloc (Nat.le_refl _) _
    have t8 : Two B8 (.bool bS) (.string sS) w5 := by rw [← hw5, ← hB8]; exact two_new w4 _ _ _
    obtain ⟨f4, dA, dR, d7⟩ := HS4.out
    have f5 := f4.trans (b5.mono f4.size)
    have eA := dA.below b5 dA.lt
    have eR := dR.below b5 dR.lt
    have e7 := d7.below b5 d7.lt
    have HS5 := Lib.hid (And.intro f5 (And.intro eA (And.intro eR (And.intro e7 t8))))
    have l2 := eA.lt
    have l3 := eR.lt
    have l4 := e7.lt
    have l5 := t8.lt
    clear l1 m1 m2 hw5 hB8 b5 t8 f4 dA dR d7 f5 eA eR e7
    refine (M2.out _).mono ?_
    rintro e w6 ⟨rfl, c6⟩
    have f6 := HS5.out.1.trans (c6.mono HS5.out.1.size)
    have eA := HS5.out.2.1.below c6 l2
    have eR := HS5.out.2.2.1.below c6 l3
    have e7 := HS5.out.2.2.2.1.below c6 l4
    have e8 := HS5.out.2.2.2.2.below c6 l5
    have HS6 := Lib.hid (And.intro f6 (And.intro eA (And.intro eR (And.intro e7 e8))))
    clear l2 l3 l4 l5 c6
    have l2 := eA.lt
    have l3 := eR.lt
    have l4 := e7.lt
    have l5 := e8.lt
    clear f6 eA eR e7 e8
    go_wp2_with fail
    refine (D2.out _).mono ?_
    rintro e w7 ⟨rfl, c7⟩
    have f7 := HS6.out.1.trans (c7.mono HS6.out.1.size)
    have eA := HS6.out.2.1.below c7 l2
    have eR := HS6.out.2.2.1.below c7 l3
    have e7 := HS6.out.2.2.2.1.below c7 l4
    have e8 := HS6.out.2.2.2.2.below c7 l5
    have HS7 := Lib.hid (And.intro f7 (And.intro eA (And.intro eR (And.intro e7 e8))))
    clear l2 l3 l4 l5 c7 f7 eA eR e7 e8
    go_wp2_with fail
    obtain ⟨w8, hw8⟩ : ∃ V, w7.alloc (Obj.cells #[Value.bool bE, Value.string sE] 23) = V := ⟨_, rfl⟩
    obtain ⟨B9, hB9⟩ : ∃ B, w7.heap.size = B := ⟨_, rfl⟩
    rw [hw8, hB9]
    have b8 : Below w7.heap.size w7 w8 := by rw [← hw8]; exact (Below.refl _ _).alloc (Nat.le_refl _) _
    have t9 : Two B9 (.bool bE) (.string sE) w8 := by rw [← hw8, ← hB9]; exact two_new w7 _ _ _
    obtain ⟨f7, dA, dR, d7, d8⟩ := HS7.out
    have f8 := f7.trans (b8.mono f7.size)
    have eA := dA.below b8 dA.lt
    have eR := dR.below b8 dR.lt
    have e7 := d7.below b8 d7.lt
    have e8 := d8.below b8 d8.lt
    have l1 := eA.lt
    have l2 := eR.lt
    have l3 := e7.lt
    have l4 := e8.lt
    have l5 := t9.lt
    have m1 := eA.1.1
    have m2 := eA.2.1
    have m3 := eR.1.1
    have m4 := eR.2.1
    have m5 := e7.1.1
    have m6 := e7.2.1
    have m7 := e8.1.1
    have m8 := e8.2.1
    have m9 := t9.1.1
    have m10 := t9.2.1
    have HTV := Lib.hid (tab_below HT.out f8.drew)
    have HF8 := Lib.hid f8
    clear f7 dA dR d7 d8 f8 eA eR e7 e8 hw8 hB9 b8 t9
    have tok1 : True := trivial
    have tok2 : True := trivial
    have tok3 : True := trivial
    have tok4 : True := trivial
    have tok5 : True := trivial
    have tok6 : True := trivial
    go_region_held3 (fun w' => ∀ (a o : Nat), a < w8.heap.size → w'.cell? ⟨a, o, none⟩ = w8.cell? ⟨a, o, none⟩) (first | assumption | (intro _ _ _; rfl))
      (first | (go_at_call 24; have _t := tok1; clear tok1; refine (R1.out _).mono ?_; rintro e u1 ⟨rfl, d1⟩; have E1 := Lib.hid (d1); have kS1 : ∀ (a o : Nat), a < w8.heap.size → u1.cell? ⟨a, o, none⟩ = w8.cell? ⟨a, o, none⟩ := fun a o h => E1.out.cell (p := ⟨a, o, none⟩) h; have hz1 : w8.heap.size ≤ u1.heap.size := E1.out.size; clear d1) | (go_at_call 32; have _t := tok2; clear tok2; refine (R2.out _).mono ?_; rintro e u2 ⟨rfl, d2⟩; have E2 := Lib.hid (E1.out.trans (d2.mono E1.out.size)); have kS2 : ∀ (a o : Nat), a < w8.heap.size → u2.cell? ⟨a, o, none⟩ = w8.cell? ⟨a, o, none⟩ := fun a o h => E2.out.cell (p := ⟨a, o, none⟩) h; have hz2 : w8.heap.size ≤ u2.heap.size := E2.out.size; clear d2) | (go_at_call 24; have _t := tok3; clear tok3; refine (R3.out _).mono ?_; rintro e u3 ⟨rfl, d3⟩; have E3 := Lib.hid (E2.out.trans (d3.mono E2.out.size)); have kS3 : ∀ (a o : Nat), a < w8.heap.size → u3.cell? ⟨a, o, none⟩ = w8.cell? ⟨a, o, none⟩ := fun a o h => E3.out.cell (p := ⟨a, o, none⟩) h; have hz3 : w8.heap.size ≤ u3.heap.size := E3.out.size; clear d3) | (go_at_call 24; have _t := tok4; clear tok4; refine (R1.out _).mono ?_; rintro e u4 ⟨rfl, d4⟩; have E4 := Lib.hid (E3.out.trans (d4.mono E3.out.size)); have kS4 : ∀ (a o : Nat), a < w8.heap.size → u4.cell? ⟨a, o, none⟩ = w8.cell? ⟨a, o, none⟩ := fun a o h => E4.out.cell (p := ⟨a, o, none⟩) h; have hz4 : w8.heap.size ≤ u4.heap.size := E4.out.size; clear d4) | (go_at_call 24; have _t := tok5; clear tok5; refine (R5.out _).mono ?_; rintro e u5 ⟨rfl, d5⟩; have E5 := Lib.hid (E4.out.trans (d5.mono E4.out.size)); have kS5 : ∀ (a o : Nat), a < w8.heap.size → u5.cell? ⟨a, o, none⟩ = w8.cell? ⟨a, o, none⟩ := fun a o h => E5.out.cell (p := ⟨a, o, none⟩) h; have hz5 : w8.heap.size ≤ u5.heap.size := E5.out.size; clear d5) | (go_at_call 15; have _t := tok6; clear tok6; refine (awake_any _ (tab_below HTV.out E5.out)).mono ?_; rintro e u6 ⟨rfl, d6⟩; have E6 := Lib.hid (E5.out.trans (d6.mono E5.out.size)); have kS6 : ∀ (a o : Nat), a < w8.heap.size → u6.cell? ⟨a, o, none⟩ = w8.cell? ⟨a, o, none⟩ := fun a o h => E6.out.cell (p := ⟨a, o, none⟩) h; have hz6 : w8.heap.size ≤ u6.heap.size := E6.out.size; clear d6))
    all_goals (go_wp2_with fail)
    go_ret
    exact ⟨rfl, HF8.out.trans ((((Below.refl w8.heap.size w8).drew).trans E6.out).mono HF8.out.size)⟩

set_option maxHeartbeats 4000000 in
set_option maxRecDepth 100000 in
theorem roots_less (na : Bool) (sa : ByteArray) (w : World) (htab : Tab w) (ha : sa.size ≤ maxLen)
    (hg : (([(na, sa)] : List (Bool × ByteArray)).any fun p => decide ((60 : Int) < (p.2.size : Int))) = false) (hs : 0 ≤ ival na sa) (r : Nat) (hr : IsRoot (ival na sa).natAbs r) (hexact : r * r < (ival na sa).natAbs) :
    Calls Tryz.prog 11 #[.agg #[.bool na, .string sa]] w fun e w' => e = .returned (.bool true) ∧ Below w.heap.size w w' := by
  unfold maxLen at ha
  have HG := Lib.hid hg
  have HT := Lib.hid htab
  have hss : ∀ p ∈ ([(na, sa)] : List (Bool × ByteArray)), p.2.size ≤ 9223372036854775807 := by
    intro p hp
    simp at hp
    rcases hp with rfl <;> simp <;> omega
  have HSS := Lib.hid hss
  have HSG := Lib.hid (And.intro hs (And.intro hr hexact))
  clear htab hg hss hs hr hexact
  go_enter Tryz.func11, Tryz.ntmps11
  go_wp2_with fail
  obtain ⟨W0, hW0⟩ : ∃ W0, (w.alloc (Obj.cells #[Value.bool na, Value.string sa] 23)).alloc (Obj.cells #[Value.bool na, Value.string sa] 23) = W0 := ⟨_, rfl⟩
  have z0 : W0.heap.size = w.heap.size + 1 + 1 := by rw [← hW0]; simp
  have ta : Two (w.heap.size) (.bool na) (.string sa) W0 := by
    rw [← hW0]
    have h := two_new w (.bool na) (.string sa) 23
    (try simp only [World.size_alloc] at h)
    exact h.below (B0 := w.heap.size + 1) ((Below.refl _ _).alloc (by simp) _) (by omega)
  have hrow : RowI W0 (w.heap.size + 1) [(na, sa)] := by
    rw [← hW0]
    have h := rowI_1 (w.alloc (Obj.cells #[Value.bool na, Value.string sa] 23)) na sa 23
    simp only [World.size_alloc] at h
    exact h
  have b0 : Below w.heap.size w W0 := by
    rw [← hW0]
    exact (((Below.refl _ _).alloc (Nat.le_refl _) _).alloc (by simp) _)
  rw [hW0]
  have hgr := great_any (w.heap.size + 1) [(na, sa)] W0 hrow (by omega) (by simp) HSS.out
  rw [HG.out] at hgr
  have HGR := Lib.hid hgr
  have H0 := Lib.hid (And.intro z0 (And.intro b0 (And.intro ta trivial)))
  clear hW0 z0 hrow b0 hgr ta
  refine HGR.out.mono ?_
  rintro e wG ⟨rfl, cG⟩
  have bG : Below w.heap.size w wG := H0.out.2.1.trans (cG.mono H0.out.2.1.size)
  have hsm := small_size HG.out
  have zx : Sz 60 (ival na sa) := Sz.ival na sa 60 (hsm (na, sa) (by simp))
  have px : sa.size ≤ 60 := hsm (na, sa) (by simp)
  obtain ⟨x, hx⟩ : ∃ x, ival na sa = x := ⟨_, rfl⟩
  have vx : Val na sa x := ⟨hx, Nat.le_trans px (by omega)⟩
  rw [hx] at zx
  have tA : Two (w.heap.size) (.bool na) (.string sa) wG := H0.out.2.2.1.below cG H0.out.2.2.1.lt
  have v0 : Val false ⟨#[]⟩ 0 := ⟨rfl, Nat.zero_le _⟩
  have hsg := HSG.out
  rw [hx] at hsg
  obtain ⟨hx0, hr, hex⟩ := hsg
  obtain ⟨X, hX⟩ : ∃ X, x.natAbs = X := ⟨_, rfl⟩
  have hxX : x = (X : Int) := by omega
  obtain ⟨bR, sR, mR⟩ := nam_ex (r : Int)
  have hrt := root_val (r := r) vx (by omega) hx0 hr mR
  rw [hX] at hr hex hrt
  obtain ⟨S, hS⟩ : ∃ S, r * r = S := ⟨_, rfl⟩
  obtain ⟨N2, hN2⟩ : ∃ N2, (r + 1) * (r + 1) = N2 := ⟨_, rfl⟩
  have iS : (r : Int) * (r : Int) = (S : Int) := by rw [← hS]; push_cast; rfl
  have iN : ((r : Int) + 1) * ((r : Int) + 1) = (N2 : Int) := by rw [← hN2]; push_cast; rfl
  have iX : x * x = ((X * X : Nat) : Int) := by rw [hxX]; push_cast; rfl
  have hrX : r ≤ X := by
    have h1 := hr.1
    rcases Nat.eq_zero_or_pos r with h | h
    · omega
    · have : r * 1 ≤ r * r := Nat.mul_le_mul_left _ h
      omega
  have h1 := hr.1
  have h2 := hr.2
  rw [hS] at h1 hex hrt
  rw [hN2] at h2
  have zr : Sz 60 (r : Int) := by unfold Sz at *; omega
  have z1 : Sz 60 1 := by unfold Sz; decide
  obtain ⟨bN, sN, mN⟩ := nam_ex ((r : Int) + 1)
  obtain ⟨bS, sS, mS⟩ := nam_ex (S : Int)
  obtain ⟨bM, sM, mM⟩ := nam_ex (N2 : Int)
  obtain ⟨bQ, sQ, mQ⟩ := nam_ex (x * x)
  obtain ⟨bE, sE, mE⟩ := nam_ex x
  have hbR : bR = false := by obtain ⟨rfl, _⟩ := mR; exact decide_eq_false (by omega)
  have vR := mR.val zr (by omega)
  have vN := mN.val (zr.add z1) (by omega)
  have vS := mS.val (iS ▸ zr.mul zr) (by omega)
  have vM := mM.val (iN ▸ (zr.add z1).mul (zr.add z1)) (by omega)
  have vQ := mQ.val (zx.mul zx) (by omega)
  have vE := mE.val zx (by omega)
  have v1 : Val false ⟨#[1]⟩ 1 := ⟨by decide, by decide⟩
  have hsQ : sQ.size ≤ 200 := by obtain ⟨_, rfl⟩ := mQ; exact Nat.le_trans (zx.mul zx).size (by omega)
  have hrt2 := root_val (r := X) (br := bE) (sr := sE) vQ hsQ (by rw [iX]; omega) (by rw [iX]; exact ⟨Nat.le_refl _, Nat.mul_lt_mul_of_lt_of_lt (Nat.lt_succ_self _) (Nat.lt_succ_self _)⟩) (by rw [← hxX]; exact mE)
  rw [iX, Int.natAbs_natCast, decide_eq_true rfl] at hrt2
  have hrt1 := hrt
  rw [show decide (S = X) = false from decide_eq_false (by omega)] at hrt1
  have D1 := Lib.hid hrt1
  have D2 := Lib.hid hrt2
  have O1 := Lib.hid (of_lit 1 false ⟨#[1]⟩ (by decide) (by decide) (by omega) (by omega))
  have A1 := Lib.hid (add_val vR v1 rfl mN)
  have M1 := Lib.hid (mul_val vR vR iS mS)
  have M2 := Lib.hid (mul_val vx vx rfl mQ)
  have R1 := Lib.hid (cmp_val vS vx (-1) (cmpZ_lt (by omega)))
  have R2 := Lib.hid (mul_val vN vN iN mM)
  have R3 := Lib.hid (cmp_val vx vM (-1) (cmpZ_lt (by omega)))
  have R5 := Lib.hid (cmp_val vE vx 0 (cmpZ_eq rfl))
  subst hbR
  have HS := Lib.hid (And.intro bG tA)
  have l1 := tA.lt
  have m1 := tA.1.1
  have m2 := tA.2.1
  clear v0 cG bG tA hsm hx zx px vx hx0 hr hex hX hxX hrt hS hN2 iS iN iX hrX h1 h2 zr z1 mR mN mS mM mQ mE vR vN vS vM vQ vE v1 hsQ hrt1 hrt2
  go_wp2_with fail
  refine (D1.out _).mono ?_
  rintro e w1 ⟨rfl, c1⟩
  have d1 := HS.out.2.below c1 l1
  have f1 := HS.out.1.trans (c1.mono HS.out.1.size)
  clear m1 m2 l1 c1
  have HS1 := Lib.hid (And.intro f1 d1)
  have l1 := d1.lt
  have m1 := d1.1.1
  have m2 := d1.2.1
  clear d1 f1
  go_wp2_with fail
  obtain ⟨w2, hw2⟩ : ∃ V, (w1.alloc (Obj.cells #[Value.bool false, Value.string sR] 23)).alloc (Obj.cells #[Value.bool false, Value.string ⟨#[]⟩] 23) = V := ⟨_, rfl⟩
  obtain ⟨BR, hBR⟩ : ∃ B, w1.heap.size = B := ⟨_, rfl⟩
  obtain ⟨BZ, hBZ⟩ : ∃ B, w1.heap.size + 1 = B := ⟨_, rfl⟩
  have bw2 : Below w1.heap.size w1 w2 := by rw [← hw2]; exact ((Below.refl _ _).alloc (Nat.le_refl _) _).alloc (by simp) _
  have tBR : Two BR (.bool false) (.string sR) w2 := by rw [← hw2, ← hBR]; exact (two_new w1 _ _ _).below (B0 := w1.heap.size + 1) ((Below.refl _ _).alloc (by simp) _) (by omega)
  have tBZ : Two BZ (.bool false) (.string ⟨#[]⟩) w2 := by
    rw [← hw2, ← hBZ]
    have h := two_new (w1.alloc (Obj.cells #[Value.bool false, Value.string sR] 23)) (.bool false) (.string ⟨#[]⟩) 23
    rwa [World.size_alloc] at h
  rw [hw2, hBZ, hBR]
  have f2 := HS1.out.1.trans (bw2.mono HS1.out.1.size)
  have dA := HS1.out.2.below bw2 l1
  have HS2 := Lib.hid (And.intro f2 (And.intro dA (And.intro tBR tBZ)))
  clear m1 m2 l1 hw2 hBZ hBR bw2
  have l1 := dA.lt
  have l3 := tBR.lt
  have l4 := tBZ.lt
  have m3 := tBR.1.1
  have m4 := tBR.2.1
  clear f2 tBR tBZ dA
  go_cut [7] from 45 to 47 (fun p wc => ∃ B7 : Nat, p = .pointer (some ⟨B7, 0, none⟩) ∧ Two B7 (.bool bN) (.string sN) wc ∧ w2.heap.size ≤ B7 ∧ Below w2.heap.size w2 wc)
  case first =>
    have D0 := Lib.hid ((Below.refl w2.heap.size w2).drew)
    have hz0 : w2.heap.size ≤ w2.drew.heap.size := Nat.le_refl _
    have tok1 : True := trivial
    have tok2 : True := trivial
    go_region_held3 (fun w' => ∀ (a o : Nat), a < w2.heap.size → w'.cell? ⟨a, o, none⟩ = w2.cell? ⟨a, o, none⟩) (repeat' (first | with_reducible assumption | with_reducible exact keepS_refl _ | with_reducible (refine keepS_drew ?_) | with_reducible (refine keepS_alloc ?_ ?_) | with_reducible (refine keepS_set ?_ ?_) | go_size))
      (first
        | (go_at_call 18; have _t := tok1; clear tok1; refine (O1.out _).mono ?_; rintro e u1 ⟨rfl, d1⟩; have E2 := Lib.hid (show Below w2.heap.size w2 u1 from Below.trans (by have Dp := D0.out; go_grown) (d1.mono (by go_size))); have kS1 : ∀ (a o : Nat), a < w2.heap.size → u1.cell? ⟨a, o, none⟩ = w2.cell? ⟨a, o, none⟩ := fun a o h => E2.out.cell (p := ⟨a, o, none⟩) h; have hz1 : w2.heap.size ≤ u1.heap.size := E2.out.size; (try (have q10 := carry_two d1 (w2.heap.size) (by first | omega | (simp only [World.size_alloc, World.size_drew]; omega)); obtain ⟨⟨f100, f101⟩, ⟨g100, g101⟩, t10, n10, s10⟩ := q10)); clear d1)
        | (go_at_call 28; have _t := tok2; clear tok2; refine (A1.out _).mono ?_; rintro e u2 ⟨rfl, d2⟩; have E3 := Lib.hid (show Below w2.heap.size w2 u2 from Below.trans (by have Dp := E2.out; go_grown) (d2.mono (by go_size))); have kS2 : ∀ (a o : Nat), a < w2.heap.size → u2.cell? ⟨a, o, none⟩ = w2.cell? ⟨a, o, none⟩ := fun a o h => E3.out.cell (p := ⟨a, o, none⟩) h; have hz2 : w2.heap.size ≤ u2.heap.size := E3.out.size; (try (have q20 := carry_two d2 (w2.heap.size) (by first | omega | (simp only [World.size_alloc]; omega)); obtain ⟨⟨f200, f201⟩, ⟨g200, g201⟩, t20, n20, s20⟩ := q20)); (try (have q21 := carry_two d2 (u1.heap.size) (by first | omega | (simp only [World.size_alloc]; omega)); obtain ⟨⟨f210, f211⟩, ⟨g210, g211⟩, t21, n21, s21⟩ := q21)); clear d2))
    all_goals (go_wp2_with fail; go_meet)
    all_goals exact ⟨_, rfl, ⟨⟨(by first | (simp; done) | (simp [go_sem, *]; done)), (by first | (simp; done) | (simp [go_sem, *]; done))⟩, ⟨(by first | (simp; done) | (simp [go_sem, *]; done)), (by first | (simp; done) | (simp [go_sem, *]; done))⟩⟩, (by first | omega | (simp only [World.size_alloc, World.size_drew] at *; omega)), (by have Dp := E3.out; go_grown)⟩
  case rest =>
    obtain ⟨B7, rfl, t7, hB7, bC⟩ := hcut
    have f3 := HS2.out.1.trans (bC.mono HS2.out.1.size)
    have dA := HS2.out.2.1.below bC l1
    have dR := HS2.out.2.2.1.below bC l3
    have HS3 := Lib.hid (And.intro f3 (And.intro dA (And.intro dR t7)))
    clear l1 l3 l4 m3 m4 bC hB7
    have l1 := dA.lt
    have l2 := dR.lt
    have l3 := t7.lt
    have m1 := dR.1.1
    have m2 := dR.2.1
    clear f3 dA dR t7
    go_wp2_with fail
    refine (M1.out _).mono ?_
    rintro e w4 ⟨rfl, c4⟩
    have f4 := HS3.out.1.trans (c4.mono HS3.out.1.size)
    have dA := HS3.out.2.1.below c4 l1
    have dR := HS3.out.2.2.1.below c4 l2
    have d7 := HS3.out.2.2.2.below c4 l3
    have HS4 := Lib.hid (And.intro f4 (And.intro dA (And.intro dR d7)))
    clear l1 l2 l3 m1 m2 c4
    have l1 := dA.lt
    have m1 := dA.1.1
    have m2 := dA.2.1
    clear f4 dA dR d7
    go_wp2_with fail
    obtain ⟨w5, hw5⟩ : ∃ V, w4.alloc (Obj.cells #[Value.bool bS, Value.string sS] 23) = V := ⟨_, rfl⟩
    obtain ⟨B8, hB8⟩ : ∃ B, w4.heap.size = B := ⟨_, rfl⟩
    rw [hw5, hB8]
    have b5 : Below w4.heap.size w4 w5 := by rw [← hw5]; exact (Below.refl _ _).alloc (Nat.le_refl _) _
    have t8 : Two B8 (.bool bS) (.string sS) w5 := by rw [← hw5, ← hB8]; exact two_new w4 _ _ _
    obtain ⟨f4, dA, dR, d7⟩ := HS4.out
    have f5 := f4.trans (b5.mono f4.size)
    have eA := dA.below b5 dA.lt
    have eR := dR.below b5 dR.lt
    have e7 := d7.below b5 d7.lt
    have HS5 := Lib.hid (And.intro f5 (And.intro eA (And.intro eR (And.intro e7 t8))))
    have l2 := eA.lt
    have l3 := eR.lt
    have l4 := e7.lt
    have l5 := t8.lt
    clear l1 m1 m2 hw5 hB8 b5 t8 f4 dA dR d7 f5 eA eR e7
    refine (M2.out _).mono ?_
    rintro e w6 ⟨rfl, c6⟩
    have f6 := HS5.out.1.trans (c6.mono HS5.out.1.size)
    have eA := HS5.out.2.1.below c6 l2
    have eR := HS5.out.2.2.1.below c6 l3
    have e7 := HS5.out.2.2.2.1.below c6 l4
    have e8 := HS5.out.2.2.2.2.below c6 l5
    have HS6 := Lib.hid (And.intro f6 (And.intro eA (And.intro eR (And.intro e7 e8))))
    clear l2 l3 l4 l5 c6
    have l2 := eA.lt
    have l3 := eR.lt
    have l4 := e7.lt
    have l5 := e8.lt
    clear f6 eA eR e7 e8
    go_wp2_with fail
    refine (D2.out _).mono ?_
    rintro e w7 ⟨rfl, c7⟩
    have f7 := HS6.out.1.trans (c7.mono HS6.out.1.size)
    have eA := HS6.out.2.1.below c7 l2
    have eR := HS6.out.2.2.1.below c7 l3
    have e7 := HS6.out.2.2.2.1.below c7 l4
    have e8 := HS6.out.2.2.2.2.below c7 l5
    have HS7 := Lib.hid (And.intro f7 (And.intro eA (And.intro eR (And.intro e7 e8))))
    clear l2 l3 l4 l5 c7 f7 eA eR e7 e8
    go_wp2_with fail
    obtain ⟨w8, hw8⟩ : ∃ V, w7.alloc (Obj.cells #[Value.bool bE, Value.string sE] 23) = V := ⟨_, rfl⟩
    obtain ⟨B9, hB9⟩ : ∃ B, w7.heap.size = B := ⟨_, rfl⟩
    rw [hw8, hB9]
    have b8 : Below w7.heap.size w7 w8 := by rw [← hw8]; exact (Below.refl _ _).alloc (Nat.le_refl _) _
    have t9 : Two B9 (.bool bE) (.string sE) w8 := by rw [← hw8, ← hB9]; exact two_new w7 _ _ _
    obtain ⟨f7, dA, dR, d7, d8⟩ := HS7.out
    have f8 := f7.trans (b8.mono f7.size)
    have eA := dA.below b8 dA.lt
    have eR := dR.below b8 dR.lt
    have e7 := d7.below b8 d7.lt
    have e8 := d8.below b8 d8.lt
    have l1 := eA.lt
    have l2 := eR.lt
    have l3 := e7.lt
    have l4 := e8.lt
    have l5 := t9.lt
    have m1 := eA.1.1
    have m2 := eA.2.1
    have m3 := eR.1.1
    have m4 := eR.2.1
    have m5 := e7.1.1
    have m6 := e7.2.1
    have m7 := e8.1.1
    have m8 := e8.2.1
    have m9 := t9.1.1
    have m10 := t9.2.1
    have HTV := Lib.hid (tab_below HT.out f8.drew)
    have HF8 := Lib.hid f8
    clear f7 dA dR d7 d8 f8 eA eR e7 e8 hw8 hB9 b8 t9
    have tok1 : True := trivial
    have tok2 : True := trivial
    have tok3 : True := trivial
    have tok4 : True := trivial
    have tok5 : True := trivial
    have tok6 : True := trivial
    go_region_held3 (fun w' => ∀ (a o : Nat), a < w8.heap.size → w'.cell? ⟨a, o, none⟩ = w8.cell? ⟨a, o, none⟩) (first | assumption | (intro _ _ _; rfl))
      (first | (go_at_call 24; have _t := tok1; clear tok1; refine (R1.out _).mono ?_; rintro e u1 ⟨rfl, d1⟩; have E1 := Lib.hid (d1); have kS1 : ∀ (a o : Nat), a < w8.heap.size → u1.cell? ⟨a, o, none⟩ = w8.cell? ⟨a, o, none⟩ := fun a o h => E1.out.cell (p := ⟨a, o, none⟩) h; have hz1 : w8.heap.size ≤ u1.heap.size := E1.out.size; clear d1) | (go_at_call 32; have _t := tok2; clear tok2; refine (R2.out _).mono ?_; rintro e u2 ⟨rfl, d2⟩; have E2 := Lib.hid (E1.out.trans (d2.mono E1.out.size)); have kS2 : ∀ (a o : Nat), a < w8.heap.size → u2.cell? ⟨a, o, none⟩ = w8.cell? ⟨a, o, none⟩ := fun a o h => E2.out.cell (p := ⟨a, o, none⟩) h; have hz2 : w8.heap.size ≤ u2.heap.size := E2.out.size; clear d2) | (go_at_call 24; have _t := tok3; clear tok3; refine (R3.out _).mono ?_; rintro e u3 ⟨rfl, d3⟩; have E3 := Lib.hid (E2.out.trans (d3.mono E2.out.size)); have kS3 : ∀ (a o : Nat), a < w8.heap.size → u3.cell? ⟨a, o, none⟩ = w8.cell? ⟨a, o, none⟩ := fun a o h => E3.out.cell (p := ⟨a, o, none⟩) h; have hz3 : w8.heap.size ≤ u3.heap.size := E3.out.size; clear d3) | (go_at_call 24; have _t := tok4; clear tok4; refine (R1.out _).mono ?_; rintro e u4 ⟨rfl, d4⟩; have E4 := Lib.hid (E3.out.trans (d4.mono E3.out.size)); have kS4 : ∀ (a o : Nat), a < w8.heap.size → u4.cell? ⟨a, o, none⟩ = w8.cell? ⟨a, o, none⟩ := fun a o h => E4.out.cell (p := ⟨a, o, none⟩) h; have hz4 : w8.heap.size ≤ u4.heap.size := E4.out.size; clear d4) | (go_at_call 24; have _t := tok5; clear tok5; refine (R5.out _).mono ?_; rintro e u5 ⟨rfl, d5⟩; have E5 := Lib.hid (E4.out.trans (d5.mono E4.out.size)); have kS5 : ∀ (a o : Nat), a < w8.heap.size → u5.cell? ⟨a, o, none⟩ = w8.cell? ⟨a, o, none⟩ := fun a o h => E5.out.cell (p := ⟨a, o, none⟩) h; have hz5 : w8.heap.size ≤ u5.heap.size := E5.out.size; clear d5) | (go_at_call 15; have _t := tok6; clear tok6; refine (awake_any _ (tab_below HTV.out E5.out)).mono ?_; rintro e u6 ⟨rfl, d6⟩; have E6 := Lib.hid (E5.out.trans (d6.mono E5.out.size)); have kS6 : ∀ (a o : Nat), a < w8.heap.size → u6.cell? ⟨a, o, none⟩ = w8.cell? ⟨a, o, none⟩ := fun a o h => E6.out.cell (p := ⟨a, o, none⟩) h; have hz6 : w8.heap.size ≤ u6.heap.size := E6.out.size; clear d6))
    all_goals (go_wp2_with fail)
    go_ret
    exact ⟨rfl, HF8.out.trans ((((Below.refl w8.heap.size w8).drew).trans E6.out).mono HF8.out.size)⟩

theorem roots_any (na : Bool) (sa : ByteArray) (w : World) (htab : Tab w) (ha : sa.size ≤ maxLen) :
    Calls Tryz.prog 11 #[.agg #[.bool na, .string sa]] w fun e w' => e = .returned (.bool true) ∧ Below w.heap.size w w' := by
  cases hg : (([(na, sa)] : List (Bool × ByteArray)).any fun p => decide ((60 : Int) < (p.2.size : Int)))
  · rcases Decidable.em (ival na sa < 0) with h | h
    · exact roots_neg na sa w htab ha hg h
    · have h := Int.not_lt.1 h
      obtain ⟨r, hr⟩ := isRoot_ex (ival na sa).natAbs
      rcases Nat.lt_or_eq_of_le hr.1 with he | he
      · exact roots_less na sa w htab ha hg h r hr he
      · exact roots_exact na sa w htab ha hg h r hr he
  · exact roots_great na sa w htab ha hg
end Go.Proofs.YtmbnkokcpmkpgaaGreatDoor
