/- The walk of narrowslaw01.BigintRing. -/
import Derived.Test.YtggojipbllkcgaaGreatDoorLawKit
import Derived.Test.YtggojipbllkcgaaGreatDoorCmp
import Derived.Test.YtggojipbllkcgaaGreatDoorInts
import Derived.Deep.CutRange
import Derived.Outline
import Derived.Handy
namespace Go.Proofs.YtggojipbllkcgaaGreatDoor
open Go.RowKit Go.Shelf

set_option maxHeartbeats 4000000 in
set_option maxRecDepth 100000 in
theorem ring_great (na nb nc : Bool) (sa sb sc : ByteArray) (w : World) (htab : Tab w) (ha : sa.size ≤ maxLen) (hb : sb.size ≤ maxLen) (hc : sc.size ≤ maxLen)
    (hg : (([(na, sa), (nb, sb), (nc, sc)] : List (Bool × ByteArray)).any fun p => decide ((60 : Int) < (p.2.size : Int))) = true) :
    Calls Tryz.prog 7 #[.agg #[.bool na, .string sa], .agg #[.bool nb, .string sb], .agg #[.bool nc, .string sc]] w fun e w' => e = .returned (.bool true) ∧ Below w.heap.size w w' := by
  unfold maxLen at ha hb hc
  have HG := Lib.hid hg
  have HT := Lib.hid htab
  have hss : ∀ p ∈ ([(na, sa), (nb, sb), (nc, sc)] : List (Bool × ByteArray)), p.2.size ≤ 9223372036854775807 := by
    intro p hp
    simp at hp
    rcases hp with rfl | rfl | rfl <;> simp <;> omega
  have HSS := Lib.hid hss
  clear htab hg hss
  go_enter Tryz.func7, Tryz.ntmps7
  go_wp2_with fail
  obtain ⟨W0, hW0⟩ : ∃ W0, (((w.alloc (Obj.cells #[Value.bool na, Value.string sa] 23)).alloc (Obj.cells #[Value.bool nb, Value.string sb] 23)).alloc (Obj.cells #[Value.bool nc, Value.string sc] 23)).alloc (Obj.cells #[Value.bool na, Value.string sa, Value.bool nb, Value.string sb, Value.bool nc, Value.string sc] 23) = W0 := ⟨_, rfl⟩
  have z0 : W0.heap.size = w.heap.size + 1 + 1 + 1 + 1 := by rw [← hW0]; simp
  have ta : Two (w.heap.size) (.bool na) (.string sa) W0 := by
    rw [← hW0]
    have h := two_new w (.bool na) (.string sa) 23
    (try simp only [World.size_alloc] at h)
    exact h.below (B0 := w.heap.size + 1) ((((Below.refl _ _).alloc (by simp) _).alloc (by simp) _).alloc (by simp) _) (by omega)
  have tb : Two (w.heap.size + 1) (.bool nb) (.string sb) W0 := by
    rw [← hW0]
    have h := two_new (w.alloc (Obj.cells #[Value.bool na, Value.string sa] 23)) (.bool nb) (.string sb) 23
    (try simp only [World.size_alloc] at h)
    exact h.below (B0 := w.heap.size + 1 + 1) (((Below.refl _ _).alloc (by simp) _).alloc (by simp) _) (by omega)
  have tc : Two (w.heap.size + 1 + 1) (.bool nc) (.string sc) W0 := by
    rw [← hW0]
    have h := two_new ((w.alloc (Obj.cells #[Value.bool na, Value.string sa] 23)).alloc (Obj.cells #[Value.bool nb, Value.string sb] 23)) (.bool nc) (.string sc) 23
    (try simp only [World.size_alloc] at h)
    exact h.below (B0 := w.heap.size + 1 + 1 + 1) ((Below.refl _ _).alloc (by simp) _) (by omega)
  have hrow : RowI W0 (w.heap.size + 1 + 1 + 1) [(na, sa), (nb, sb), (nc, sc)] := by
    rw [← hW0]
    have h := rowI_3 (((w.alloc (Obj.cells #[Value.bool na, Value.string sa] 23)).alloc (Obj.cells #[Value.bool nb, Value.string sb] 23)).alloc (Obj.cells #[Value.bool nc, Value.string sc] 23)) na nb nc sa sb sc 23
    simp only [World.size_alloc] at h
    exact h
  have b0 : Below w.heap.size w W0 := by
    rw [← hW0]
    exact (((((Below.refl _ _).alloc (Nat.le_refl _) _).alloc (by simp) _).alloc (by simp; omega) _).alloc (by simp; omega) _)
  rw [hW0]
  have hgr := great_any (w.heap.size + 1 + 1 + 1) [(na, sa), (nb, sb), (nc, sc)] W0 hrow (by omega) (by simp) HSS.out
  rw [HG.out] at hgr
  have HGR := Lib.hid hgr
  have H0 := Lib.hid (And.intro z0 (And.intro b0 (And.intro ta (And.intro tb (And.intro tc trivial)))))
  clear hW0 z0 hrow b0 hgr ta tb tc
  refine HGR.out.mono ?_
  rintro e wG ⟨rfl, cG⟩
  have bG : Below w.heap.size w wG := H0.out.2.1.trans (cG.mono H0.out.2.1.size)
  have haw := awake_any wG (tab_of HT.out bG)
  have HAW := Lib.hid haw
  have HB := Lib.hid bG
  clear cG bG haw
  go_wp2_with fail
  refine HAW.out.mono ?_
  rintro e wA ⟨rfl, cA⟩
  go_wp2_with fail
  go_ret
  exact ⟨rfl, HB.out.trans (cA.mono HB.out.size)⟩

set_option maxHeartbeats 4000000 in
set_option maxRecDepth 100000 in
theorem ring_small (na nb nc : Bool) (sa sb sc : ByteArray) (w : World) (htab : Tab w) (ha : sa.size ≤ maxLen) (hb : sb.size ≤ maxLen) (hc : sc.size ≤ maxLen)
    (hg : (([(na, sa), (nb, sb), (nc, sc)] : List (Bool × ByteArray)).any fun p => decide ((60 : Int) < (p.2.size : Int))) = false) :
    Calls Tryz.prog 7 #[.agg #[.bool na, .string sa], .agg #[.bool nb, .string sb], .agg #[.bool nc, .string sc]] w fun e w' => e = .returned (.bool true) ∧ Below w.heap.size w w' := by
  unfold maxLen at ha hb hc
  have HG := Lib.hid hg
  have HT := Lib.hid htab
  have hss : ∀ p ∈ ([(na, sa), (nb, sb), (nc, sc)] : List (Bool × ByteArray)), p.2.size ≤ 9223372036854775807 := by
    intro p hp
    simp at hp
    rcases hp with rfl | rfl | rfl <;> simp <;> omega
  have HSS := Lib.hid hss
  clear htab hg hss
  go_enter Tryz.func7, Tryz.ntmps7
  go_wp2_with fail
  obtain ⟨W0, hW0⟩ : ∃ W0, (((w.alloc (Obj.cells #[Value.bool na, Value.string sa] 23)).alloc (Obj.cells #[Value.bool nb, Value.string sb] 23)).alloc (Obj.cells #[Value.bool nc, Value.string sc] 23)).alloc (Obj.cells #[Value.bool na, Value.string sa, Value.bool nb, Value.string sb, Value.bool nc, Value.string sc] 23) = W0 := ⟨_, rfl⟩
  have z0 : W0.heap.size = w.heap.size + 1 + 1 + 1 + 1 := by rw [← hW0]; simp
  have ta : Two (w.heap.size) (.bool na) (.string sa) W0 := by
    rw [← hW0]
    have h := two_new w (.bool na) (.string sa) 23
    (try simp only [World.size_alloc] at h)
    exact h.below (B0 := w.heap.size + 1) ((((Below.refl _ _).alloc (by simp) _).alloc (by simp) _).alloc (by simp) _) (by omega)
  have tb : Two (w.heap.size + 1) (.bool nb) (.string sb) W0 := by
    rw [← hW0]
    have h := two_new (w.alloc (Obj.cells #[Value.bool na, Value.string sa] 23)) (.bool nb) (.string sb) 23
    (try simp only [World.size_alloc] at h)
    exact h.below (B0 := w.heap.size + 1 + 1) (((Below.refl _ _).alloc (by simp) _).alloc (by simp) _) (by omega)
  have tc : Two (w.heap.size + 1 + 1) (.bool nc) (.string sc) W0 := by
    rw [← hW0]
    have h := two_new ((w.alloc (Obj.cells #[Value.bool na, Value.string sa] 23)).alloc (Obj.cells #[Value.bool nb, Value.string sb] 23)) (.bool nc) (.string sc) 23
    (try simp only [World.size_alloc] at h)
    exact h.below (B0 := w.heap.size + 1 + 1 + 1) ((Below.refl _ _).alloc (by simp) _) (by omega)
  have hrow : RowI W0 (w.heap.size + 1 + 1 + 1) [(na, sa), (nb, sb), (nc, sc)] := by
    rw [← hW0]
    have h := rowI_3 (((w.alloc (Obj.cells #[Value.bool na, Value.string sa] 23)).alloc (Obj.cells #[Value.bool nb, Value.string sb] 23)).alloc (Obj.cells #[Value.bool nc, Value.string sc] 23)) na nb nc sa sb sc 23
    simp only [World.size_alloc] at h
    exact h
  have b0 : Below w.heap.size w W0 := by
    rw [← hW0]
    exact (((((Below.refl _ _).alloc (Nat.le_refl _) _).alloc (by simp) _).alloc (by simp; omega) _).alloc (by simp; omega) _)
  rw [hW0]
  have hgr := great_any (w.heap.size + 1 + 1 + 1) [(na, sa), (nb, sb), (nc, sc)] W0 hrow (by omega) (by simp) HSS.out
  rw [HG.out] at hgr
  have HGR := Lib.hid hgr
  have H0 := Lib.hid (And.intro z0 (And.intro b0 (And.intro ta (And.intro tb (And.intro tc trivial)))))
  clear hW0 z0 hrow b0 hgr ta tb tc
  refine HGR.out.mono ?_
  rintro e wG ⟨rfl, cG⟩
  have bG : Below w.heap.size w wG := H0.out.2.1.trans (cG.mono H0.out.2.1.size)
  have hsm := small_size HG.out
  have zx : Sz 60 (ival na sa) := Sz.ival na sa 60 (hsm (na, sa) (by simp))
  have zy : Sz 60 (ival nb sb) := Sz.ival nb sb 60 (hsm (nb, sb) (by simp))
  have zz : Sz 60 (ival nc sc) := Sz.ival nc sc 60 (hsm (nc, sc) (by simp))
  obtain ⟨x, hx⟩ : ∃ x, ival na sa = x := ⟨_, rfl⟩
  obtain ⟨y, hy⟩ : ∃ y, ival nb sb = y := ⟨_, rfl⟩
  obtain ⟨z, hz⟩ : ∃ z, ival nc sc = z := ⟨_, rfl⟩
  have vx : Val na sa x := ⟨hx, Nat.le_trans (hsm (na, sa) (by simp)) (by omega)⟩
  have vy : Val nb sb y := ⟨hy, Nat.le_trans (hsm (nb, sb) (by simp)) (by omega)⟩
  have vz : Val nc sc z := ⟨hz, Nat.le_trans (hsm (nc, sc) (by simp)) (by omega)⟩
  rw [hx] at zx
  rw [hy] at zy
  rw [hz] at zz
  obtain ⟨bS, sS, mS⟩ := nam_ex (x + y)
  obtain ⟨bP, sP, mP⟩ := nam_ex (x * y)
  have vS := mS.val (zx.add zy) (by omega)
  have vP := mP.val (zx.mul zy) (by omega)
  have hA1 := Lib.hid (add_val vx vy rfl mS)
  have hM1 := Lib.hid (mul_val vx vy rfl mP)
  have tA : Two (w.heap.size) (.bool na) (.string sa) wG := H0.out.2.2.1.below cG H0.out.2.2.1.lt
  have tB : Two (w.heap.size + 1) (.bool nb) (.string sb) wG := H0.out.2.2.2.1.below cG H0.out.2.2.2.1.lt
  have tC : Two (w.heap.size + 1 + 1) (.bool nc) (.string sc) wG := H0.out.2.2.2.2.1.below cG H0.out.2.2.2.2.1.lt
  have l1 := tA.lt
  have l2 := tB.lt
  have l3 := tC.lt
  have m1 := tA.1.1
  have m2 := tA.2.1
  have m3 := tB.1.1
  have m4 := tB.2.1
  have HS := Lib.hid (And.intro bG (And.intro tA (And.intro tB tC)))
  have hB1 := Lib.hid bG
  clear cG bG hsm tA tB tC hx hy hz
  have HV := Lib.hid (And.intro vx (And.intro vy (And.intro vz (And.intro mS (And.intro mP (And.intro vS (And.intro vP (And.intro zx (And.intro zy zz)))))))))
  clear vx vy vz mS mP vS vP zx zy zz
  go_wp2_with fail
  go_cut [7, 8] from 17 to 23 (fun p q wc => ∃ B1 B2 : Nat, p = .pointer (some ⟨B1, 0, none⟩) ∧ q = .pointer (some ⟨B2, 0, none⟩) ∧ (wc.cell? ⟨B1, 0, none⟩ = some (.bool bS) ∧ wc.cell? ⟨B1, 1, none⟩ = some (.string sS)) ∧ (wc.cell? ⟨B2, 0, none⟩ = some (.bool bP) ∧ wc.cell? ⟨B2, 1, none⟩ = some (.string sP)) ∧ Below wG.heap.size wG wc)
  case first =>
    have D0 := Lib.hid ((Below.refl wG.heap.size wG).drew)
    have hz0 : wG.heap.size ≤ wG.drew.heap.size := Nat.le_refl _
    have tok1 : True := trivial
    have tok2 : True := trivial
    go_region_held3 (fun w' => ∀ (a o : Nat), a < wG.heap.size → w'.cell? ⟨a, o, none⟩ = wG.cell? ⟨a, o, none⟩) (repeat' (first | with_reducible assumption | with_reducible exact keepS_refl _ | with_reducible (refine keepS_drew ?_) | with_reducible (refine keepS_alloc ?_ ?_) | with_reducible (refine keepS_set ?_ ?_) | go_size))
      (first | (go_at_call 29; have _t := tok1; clear tok1; refine (hA1.out _).mono ?_; rintro e u1 ⟨rfl, d1⟩; have D1 := Lib.hid (show Below wG.heap.size wG u1 from Below.trans (by have Dp := D0.out; go_grown) (d1.mono (by go_size))); have kS1 : ∀ (a o : Nat), a < wG.heap.size → u1.cell? ⟨a, o, none⟩ = wG.cell? ⟨a, o, none⟩ := fun a o h => D1.out.cell (p := ⟨a, o, none⟩) h; have hz1 : wG.heap.size ≤ u1.heap.size := D1.out.size; (try (have q10 := carry_two d1 wG.heap.size (by first | omega | (simp only [World.size_alloc, World.size_drew]; omega)); obtain ⟨⟨f100, f101⟩, ⟨g100, g101⟩, t10, n10, s10⟩ := q10)); (try (have q11 := carry_two d1 (wG.heap.size + 1) (by first | omega | (simp only [World.size_alloc, World.size_drew]; omega)); obtain ⟨⟨f110, f111⟩, ⟨g110, g111⟩, t11, n11, s11⟩ := q11)); clear d1) | (go_at_call 33; have _t := tok2; clear tok2; refine (hM1.out _).mono ?_; rintro e u2 ⟨rfl, d2⟩; have D2 := Lib.hid (show Below wG.heap.size wG u2 from Below.trans (by have Dp := D1.out; go_grown) (d2.mono (by go_size))); have kS2 : ∀ (a o : Nat), a < wG.heap.size → u2.cell? ⟨a, o, none⟩ = wG.cell? ⟨a, o, none⟩ := fun a o h => D2.out.cell (p := ⟨a, o, none⟩) h; have hz2 : wG.heap.size ≤ u2.heap.size := D2.out.size; (try (have q20 := carry_two d2 wG.heap.size (by first | omega | (simp only [World.size_alloc]; omega)); obtain ⟨⟨f200, f201⟩, ⟨g200, g201⟩, t20, n20, s20⟩ := q20)); (try (have q21 := carry_two d2 (wG.heap.size + 1) (by first | omega | (simp only [World.size_alloc]; omega)); obtain ⟨⟨f210, f211⟩, ⟨g210, g211⟩, t21, n21, s21⟩ := q21)); (try (have q22 := carry_two d2 u1.heap.size (by first | omega | (simp only [World.size_alloc]; omega)); obtain ⟨⟨f220, f221⟩, ⟨g220, g221⟩, t22, n22, s22⟩ := q22)); (try (have q23 := carry_two d2 (u1.heap.size + 1) (by first | omega | (simp only [World.size_alloc]; omega)); obtain ⟨⟨f230, f231⟩, ⟨g230, g231⟩, t23, n23, s23⟩ := q23)); clear d2))
    all_goals (go_wp2_with fail; go_meet)
    all_goals exact ⟨_, _, rfl, rfl, ⟨(by first | (simp; done) | (simp [go_sem, *]; done)), (by first | (simp; done) | (simp [go_sem, *]; done))⟩, ⟨(by first | (simp; done) | (simp [go_sem, *]; done)), (by first | (simp; done) | (simp [go_sem, *]; done))⟩, (by have Dp := D2.out; go_grown)⟩
  case rest =>
    obtain ⟨B1, B2, rfl, rfl, ⟨p1, p2⟩, ⟨q1, q2⟩, bC⟩ := hcut
    obtain ⟨vx, vy, vz, mS, mP, vS, vP, zx, zy, zz⟩ := HV.out
    have m0 : Nam false ⟨#[]⟩ 0 := ⟨rfl, rfl⟩
    have v0 : Val false ⟨#[]⟩ 0 := ⟨rfl, Nat.zero_le _⟩
    obtain ⟨bD, sD, mD⟩ := nam_ex (x - y)
    obtain ⟨bN, sN, mN⟩ := nam_ex (-x)
    obtain ⟨bE, sE, mE⟩ := nam_ex x
    obtain ⟨bT, sT, mT⟩ := nam_ex (x + y + z)
    obtain ⟨bU, sU, mU⟩ := nam_ex (y + z)
    obtain ⟨bQ, sQ, mQ⟩ := nam_ex (x * y * z)
    obtain ⟨bV, sV, mV⟩ := nam_ex (y * z)
    obtain ⟨bR, sR, mR⟩ := nam_ex (x * (y + z))
    obtain ⟨bX, sX, mX⟩ := nam_ex (x * z)
    obtain ⟨bO, sO, mO⟩ := nam_ex (-(x + y))
    have vU := mU.val (zy.add zz) (by omega)
    have vV := mV.val (zy.mul zz) (by omega)
    have vX := mX.val (zx.mul zz) (by omega)
    have vE := mE.val zx (by omega)
    have vO := mO.val (zx.add zy).neg (by omega)
    have K1 := Lib.hid (sub_val vx vy rfl mD)
    have K2 := Lib.hid (neg_val vx rfl mN)
    have K3 := Lib.hid (add_val vx v0 (Int.add_zero x) mE)
    have R1 := Lib.hid (add_val vy vx (Int.add_comm y x) mS)
    have R2 := Lib.hid (mul_val vy vx (Int.mul_comm y x) mP)
    have R3 := Lib.hid (add_val vS vz rfl mT)
    have R4 := Lib.hid (add_val vy vz rfl mU)
    have R5 := Lib.hid (add_val vx vU (Int.add_assoc x y z).symm mT)
    have R6 := Lib.hid (mul_val vP vz rfl mQ)
    have R7 := Lib.hid (mul_val vy vz rfl mV)
    have R8 := Lib.hid (mul_val vx vV (Int.mul_assoc x y z).symm mQ)
    have R9 := Lib.hid (mul_val vx vU rfl mR)
    have R10 := Lib.hid (mul_val vx vz rfl mX)
    have R11 := Lib.hid (add_val vP vX (Int.mul_add x y z).symm mR)
    have R12 := Lib.hid (sub_val vS vy (by omega : x + y - y = x) mE)
    have R13 := Lib.hid (cmp_val vE vx 0 (by unfold cmpZ; simp))
    have R14 := Lib.hid (neg_val vS rfl mO)
    have R15 := Lib.hid (add_val vS vO (by omega : x + y + -(x + y) = 0) m0)
    have HE := Lib.hid (And.intro mS.eq (And.intro mP.eq (And.intro mT.eq (And.intro mQ.eq (And.intro mR.eq m0.eq)))))
    have hCh : ∀ p ∈ ([(bS, sS), (bP, sP), (bD, sD), (bN, sN), (bE, sE)] : List (Bool × ByteArray)), ∀ W, Calls Tryz.prog 21 #[.agg #[.bool p.1, .string p.2]] W fun e w' => e = .returned (.int .i64 0) ∧ Below W.heap.size W w' := by
      intro p hp W
      simp only [List.mem_cons, List.not_mem_nil, or_false] at hp
      rcases hp with rfl | rfl | rfl | rfl | rfl
      · exact check_val mS W
      · exact check_val mP W
      · exact check_val mD W
      · exact check_val mN W
      · exact check_val mE W
    have HCH := Lib.hid hCh
    have tA : Two (w.heap.size) (.bool na) (.string sa) wc := HS.out.2.1.below bC l1
    have tB : Two (w.heap.size + 1) (.bool nb) (.string sb) wc := HS.out.2.2.1.below bC l2
    have tC : Two (w.heap.size + 1 + 1) (.bool nc) (.string sc) wc := HS.out.2.2.2.below bC l3
    have HK := Lib.hid (And.intro (hB1.out.trans (bC.mono hB1.out.size)) (And.intro tA (And.intro tB tC)))
    clear l1 l2 l3 m1 m2 m3 m4
    have l1 := tA.lt
    have l2 := tB.lt
    have l3 := World.block_lt_of_cell? wc _ p1
    have l4 := World.block_lt_of_cell? wc _ q1
    have m1 := tA.1.1
    have m2 := tA.2.1
    have m3 := tB.1.1
    have m4 := tB.2.1
    have HP := Lib.hid (And.intro (And.intro p1 p2) (And.intro q1 q2))
    clear vx vy vz mS mP vS vP zx zy zz m0 v0 mD mN mE mT mU mQ mV mR mX mO vU vV vX vE vO hCh tA tB tC bC
    go_wp2_with fail
    have tok1 : True := trivial
    have tok2 : True := trivial
    have tok3 : True := trivial
    go_region_held3 (fun w' => ∀ (a o : Nat), a < wc.heap.size → w'.cell? ⟨a, o, none⟩ = wc.cell? ⟨a, o, none⟩) (first | assumption | (intro _ _ _; rfl) | (repeat' (first | with_reducible assumption | with_reducible (refine keepS_alloc ?_ ?_) | with_reducible (refine keepS_set ?_ ?_) | omega | (intro _ _ _; rfl))))
      (first | (go_at_call 31; have _t := tok1; clear tok1; refine (K1.out _).mono ?_; rintro e u1 ⟨rfl, d1⟩; have E1 := Lib.hid d1; have kS1 : ∀ (a o : Nat), a < wc.heap.size → u1.cell? ⟨a, o, none⟩ = wc.cell? ⟨a, o, none⟩ := fun a o h => E1.out.cell (p := ⟨a, o, none⟩) h; have hz1 : wc.heap.size ≤ u1.heap.size := E1.out.size; clear d1) | (go_at_call 23; have _t := tok2; clear tok2; refine (K2.out _).mono ?_; rintro e u2 ⟨rfl, d2⟩; have E2 := Lib.hid (E1.out.trans (d2.mono E1.out.size)); have kS2 : ∀ (a o : Nat), a < wc.heap.size → u2.cell? ⟨a, o, none⟩ = wc.cell? ⟨a, o, none⟩ := fun a o h => E2.out.cell (p := ⟨a, o, none⟩) h; have hz2 : wc.heap.size ≤ u2.heap.size := E2.out.size; clear d2) | (go_at_call 29; have _t := tok3; clear tok3; refine (K3.out _).mono ?_; rintro e u3 ⟨rfl, d3⟩; have E3 := Lib.hid (E2.out.trans (d3.mono E2.out.size)); have kS3 : ∀ (a o : Nat), a < wc.heap.size → u3.cell? ⟨a, o, none⟩ = wc.cell? ⟨a, o, none⟩ := fun a o h => E3.out.cell (p := ⟨a, o, none⟩) h; have hz3 : wc.heap.size ≤ u3.heap.size := E3.out.size; clear d3))
    go_wp2_with fail
    obtain ⟨w5, h5⟩ : ∃ w5, u3.alloc (Obj.cells #[Value.bool bS, Value.string sS, Value.bool bP, Value.string sP, Value.bool bD, Value.string sD, Value.bool bN, Value.string sN, Value.bool bE, Value.string sE] 23) = w5 := ⟨_, rfl⟩
    have row5 : RowI w5 u3.heap.size [(bS, sS), (bP, sP), (bD, sD), (bN, sN), (bE, sE)] := by rw [← h5]; exact rowI_5 u3 _ _ _ _ _ _ _ _ _ _ _
    have b5 : Below wc.heap.size wc w5 := by rw [← h5]; exact ((Below.refl wc.heap.size wc).drew).trans (E3.out.alloc hz3 _)
    have z5 : u3.heap.size < w5.heap.size := by rw [← h5]; simp
    rw [h5]
    obtain ⟨B5, hB5⟩ : ∃ B5, u3.heap.size = B5 := ⟨_, rfl⟩
    rw [hB5] at row5 z5 ⊢
    have HR5 := Lib.hid row5
    have H5 := Lib.hid b5
    clear h5 hB5 row5 b5 E3 kS3 hz3 l1 l2 l3 l4 m1 m2 m3 m4 p1 p2 q1 q2
    go_loopw [35] (fun i wr => ∃ k : Nat, k ≤ 5 ∧ i = .int .i64 k ∧ Below w5.heap.size w5 wr) (fun i _ => 5 - (intOf i).toNat)
    case atStart => exact ⟨0, by omega, rfl, Below.refl _ _⟩
    case round =>
      obtain ⟨k, hk, rfl, hbel⟩ := hrel
      by_cases hlt : k < 5
      · obtain ⟨n, s, hns⟩ : ∃ n s, ([(bS, sS), (bP, sP), (bD, sD), (bN, sN), (bE, sE)] : List (Bool × ByteArray)).getD k (false, ⟨#[]⟩) = (n, s) := ⟨_, _, rfl⟩
        have hmem : (n, s) ∈ ([(bS, sS), (bP, sP), (bD, sD), (bN, sN), (bE, sE)] : List (Bool × ByteArray)) := by
          rw [← hns, List.getD_eq_getElem?_getD, List.getElem?_eq_getElem (by simpa using hlt)]
          exact List.getElem_mem _
        have k1 : wr.cell? ⟨B5, k * 2, none⟩ = some (.bool n) := by rw [hbel.cell (p := ⟨B5, k * 2, none⟩) z5, (HR5.out k (by simpa using hlt)).1, hns]
        have k2 : wr.cell? ⟨B5, k * 2 + 1, none⟩ = some (.string s) := by rw [hbel.cell (p := ⟨B5, k * 2 + 1, none⟩) z5, (HR5.out k (by simpa using hlt)).2, hns]
        have HC := Lib.hid (HCH.out _ hmem)
        have HA := Lib.hid hbel
        have hli : (k : Int) < 5 := by omega
        clear hbel hns hmem
        go_wp2_with fail
        refine (HC.out _).mono ?_
        rintro e w2 ⟨rfl, d2⟩
        have HD := Lib.hid d2
        clear d2
        go_wp2_with fail
        go_roundw
        case rel => exact ⟨k + 1, by omega, by go_num, (HA.out.alloc HA.out.size _).trans (HD.out.mono (by have := HA.out.size; simp; omega))⟩
        case measure => simp [intOf]; omega
      · have HA := Lib.hid hbel
        clear hbel
        go_wp2_with fail
        have bW : Below wc.heap.size wc wr := H5.out.trans (HA.out.mono H5.out.size)
        have htv : Tab wr.drew := tab_below HT.out (HK.out.1.trans (bW.mono HK.out.1.size)).drew
        have HTV := Lib.hid htv
        have tA := HK.out.2.1.below bW HK.out.2.1.lt
        have tB := HK.out.2.2.1.below bW HK.out.2.2.1.lt
        have tC := HK.out.2.2.2.below bW HK.out.2.2.2.lt
        have p1 := (bW.cell (p := ⟨B1, 0, none⟩) (World.block_lt_of_cell? wc _ HP.out.1.1)).trans HP.out.1.1
        have p2 := (bW.cell (p := ⟨B1, 1, none⟩) (World.block_lt_of_cell? wc _ HP.out.1.2)).trans HP.out.1.2
        have q1 := (bW.cell (p := ⟨B2, 0, none⟩) (World.block_lt_of_cell? wc _ HP.out.2.1)).trans HP.out.2.1
        have q2 := (bW.cell (p := ⟨B2, 1, none⟩) (World.block_lt_of_cell? wc _ HP.out.2.2)).trans HP.out.2.2
        have l1 := tA.lt
        have l2 := tB.lt
        have l3 := tC.lt
        have l4 := World.block_lt_of_cell? wr _ p1
        have l5 := World.block_lt_of_cell? wr _ q1
        have m1 := tA.1.1
        have m2 := tA.2.1
        have m3 := tB.1.1
        have m4 := tB.2.1
        have m5 := tC.1.1
        have m6 := tC.2.1
        have g1 := eql_int
        have g2 := guard_int
        obtain ⟨e1, e2, e3, e4, e5, e6⟩ := HE.out
        have HW := Lib.hid (HK.out.1.trans (bW.mono HK.out.1.size))
        clear tA tB tC bW htv
        have tok1 : True := trivial
        have tok2 : True := trivial
        have tok3 : True := trivial
        have tok4 : True := trivial
        have tok5 : True := trivial
        have tok6 : True := trivial
        have tok7 : True := trivial
        have tok8 : True := trivial
        have tok9 : True := trivial
        have tok10 : True := trivial
        have tok11 : True := trivial
        have tok12 : True := trivial
        have tok13 : True := trivial
        have tok14 : True := trivial
        have tok15 : True := trivial
        have tok16 : True := trivial
        have tok17 : True := trivial
        simp only [List.append_eq, List.cons_append, List.nil_append]
        go_region_held3 (fun w' => ∀ (a o : Nat), a < wr.heap.size → w'.cell? ⟨a, o, none⟩ = wr.cell? ⟨a, o, none⟩) (first | assumption | (intro _ _ _; rfl) | (repeat' (first | with_reducible assumption | with_reducible (refine keepS_alloc ?_ ?_) | with_reducible (refine keepS_set ?_ ?_) | omega | (intro _ _ _; rfl))))
          (first | (go_at_call 29; have _t := tok1; clear tok1; refine (R1.out _).mono ?_; rintro e u1 ⟨rfl, d1⟩; have E1 := Lib.hid d1; have kS1 : ∀ (a o : Nat), a < wr.heap.size → u1.cell? ⟨a, o, none⟩ = wr.cell? ⟨a, o, none⟩ := fun a o h => E1.out.cell (p := ⟨a, o, none⟩) h; have hz1 : wr.heap.size ≤ u1.heap.size := E1.out.size; clear d1) | (go_at_call 33; have _t := tok2; clear tok2; refine (R2.out _).mono ?_; rintro e u2 ⟨rfl, d2⟩; have E2 := Lib.hid (E1.out.trans (d2.mono E1.out.size)); have kS2 : ∀ (a o : Nat), a < wr.heap.size → u2.cell? ⟨a, o, none⟩ = wr.cell? ⟨a, o, none⟩ := fun a o h => E2.out.cell (p := ⟨a, o, none⟩) h; have hz2 : wr.heap.size ≤ u2.heap.size := E2.out.size; clear d2) | (go_at_call 29; have _t := tok3; clear tok3; refine (R3.out _).mono ?_; rintro e u3 ⟨rfl, d3⟩; have E3 := Lib.hid (E2.out.trans (d3.mono E2.out.size)); have kS3 : ∀ (a o : Nat), a < wr.heap.size → u3.cell? ⟨a, o, none⟩ = wr.cell? ⟨a, o, none⟩ := fun a o h => E3.out.cell (p := ⟨a, o, none⟩) h; have hz3 : wr.heap.size ≤ u3.heap.size := E3.out.size; clear d3) | (go_at_call 29; have _t := tok4; clear tok4; refine (R4.out _).mono ?_; rintro e u4 ⟨rfl, d4⟩; have E4 := Lib.hid (E3.out.trans (d4.mono E3.out.size)); have kS4 : ∀ (a o : Nat), a < wr.heap.size → u4.cell? ⟨a, o, none⟩ = wr.cell? ⟨a, o, none⟩ := fun a o h => E4.out.cell (p := ⟨a, o, none⟩) h; have hz4 : wr.heap.size ≤ u4.heap.size := E4.out.size; clear d4) | (go_at_call 29; have _t := tok5; clear tok5; refine (R5.out _).mono ?_; rintro e u5 ⟨rfl, d5⟩; have E5 := Lib.hid (E4.out.trans (d5.mono E4.out.size)); have kS5 : ∀ (a o : Nat), a < wr.heap.size → u5.cell? ⟨a, o, none⟩ = wr.cell? ⟨a, o, none⟩ := fun a o h => E5.out.cell (p := ⟨a, o, none⟩) h; have hz5 : wr.heap.size ≤ u5.heap.size := E5.out.size; clear d5) | (go_at_call 33; have _t := tok6; clear tok6; refine (R6.out _).mono ?_; rintro e u6 ⟨rfl, d6⟩; have E6 := Lib.hid (E5.out.trans (d6.mono E5.out.size)); have kS6 : ∀ (a o : Nat), a < wr.heap.size → u6.cell? ⟨a, o, none⟩ = wr.cell? ⟨a, o, none⟩ := fun a o h => E6.out.cell (p := ⟨a, o, none⟩) h; have hz6 : wr.heap.size ≤ u6.heap.size := E6.out.size; clear d6) | (go_at_call 33; have _t := tok7; clear tok7; refine (R7.out _).mono ?_; rintro e u7 ⟨rfl, d7⟩; have E7 := Lib.hid (E6.out.trans (d7.mono E6.out.size)); have kS7 : ∀ (a o : Nat), a < wr.heap.size → u7.cell? ⟨a, o, none⟩ = wr.cell? ⟨a, o, none⟩ := fun a o h => E7.out.cell (p := ⟨a, o, none⟩) h; have hz7 : wr.heap.size ≤ u7.heap.size := E7.out.size; clear d7) | (go_at_call 33; have _t := tok8; clear tok8; refine (R8.out _).mono ?_; rintro e u8 ⟨rfl, d8⟩; have E8 := Lib.hid (E7.out.trans (d8.mono E7.out.size)); have kS8 : ∀ (a o : Nat), a < wr.heap.size → u8.cell? ⟨a, o, none⟩ = wr.cell? ⟨a, o, none⟩ := fun a o h => E8.out.cell (p := ⟨a, o, none⟩) h; have hz8 : wr.heap.size ≤ u8.heap.size := E8.out.size; clear d8) | (go_at_call 29; have _t := tok9; clear tok9; refine (R4.out _).mono ?_; rintro e u9 ⟨rfl, d9⟩; have E9 := Lib.hid (E8.out.trans (d9.mono E8.out.size)); have kS9 : ∀ (a o : Nat), a < wr.heap.size → u9.cell? ⟨a, o, none⟩ = wr.cell? ⟨a, o, none⟩ := fun a o h => E9.out.cell (p := ⟨a, o, none⟩) h; have hz9 : wr.heap.size ≤ u9.heap.size := E9.out.size; clear d9) | (go_at_call 33; have _t := tok10; clear tok10; refine (R9.out _).mono ?_; rintro e u10 ⟨rfl, d10⟩; have E10 := Lib.hid (E9.out.trans (d10.mono E9.out.size)); have kS10 : ∀ (a o : Nat), a < wr.heap.size → u10.cell? ⟨a, o, none⟩ = wr.cell? ⟨a, o, none⟩ := fun a o h => E10.out.cell (p := ⟨a, o, none⟩) h; have hz10 : wr.heap.size ≤ u10.heap.size := E10.out.size; clear d10) | (go_at_call 33; have _t := tok11; clear tok11; refine (R10.out _).mono ?_; rintro e u11 ⟨rfl, d11⟩; have E11 := Lib.hid (E10.out.trans (d11.mono E10.out.size)); have kS11 : ∀ (a o : Nat), a < wr.heap.size → u11.cell? ⟨a, o, none⟩ = wr.cell? ⟨a, o, none⟩ := fun a o h => E11.out.cell (p := ⟨a, o, none⟩) h; have hz11 : wr.heap.size ≤ u11.heap.size := E11.out.size; clear d11) | (go_at_call 29; have _t := tok12; clear tok12; refine (R11.out _).mono ?_; rintro e u12 ⟨rfl, d12⟩; have E12 := Lib.hid (E11.out.trans (d12.mono E11.out.size)); have kS12 : ∀ (a o : Nat), a < wr.heap.size → u12.cell? ⟨a, o, none⟩ = wr.cell? ⟨a, o, none⟩ := fun a o h => E12.out.cell (p := ⟨a, o, none⟩) h; have hz12 : wr.heap.size ≤ u12.heap.size := E12.out.size; clear d12) | (go_at_call 31; have _t := tok13; clear tok13; refine (R12.out _).mono ?_; rintro e u13 ⟨rfl, d13⟩; have E13 := Lib.hid (E12.out.trans (d13.mono E12.out.size)); have kS13 : ∀ (a o : Nat), a < wr.heap.size → u13.cell? ⟨a, o, none⟩ = wr.cell? ⟨a, o, none⟩ := fun a o h => E13.out.cell (p := ⟨a, o, none⟩) h; have hz13 : wr.heap.size ≤ u13.heap.size := E13.out.size; clear d13) | (go_at_call 25; have _t := tok14; clear tok14; refine (R13.out _).mono ?_; rintro e u14 ⟨rfl, d14⟩; have E14 := Lib.hid (E13.out.trans (d14.mono E13.out.size)); have kS14 : ∀ (a o : Nat), a < wr.heap.size → u14.cell? ⟨a, o, none⟩ = wr.cell? ⟨a, o, none⟩ := fun a o h => E14.out.cell (p := ⟨a, o, none⟩) h; have hz14 : wr.heap.size ≤ u14.heap.size := E14.out.size; clear d14) | (go_at_call 23; have _t := tok15; clear tok15; refine (R14.out _).mono ?_; rintro e u15 ⟨rfl, d15⟩; have E15 := Lib.hid (E14.out.trans (d15.mono E14.out.size)); have kS15 : ∀ (a o : Nat), a < wr.heap.size → u15.cell? ⟨a, o, none⟩ = wr.cell? ⟨a, o, none⟩ := fun a o h => E15.out.cell (p := ⟨a, o, none⟩) h; have hz15 : wr.heap.size ≤ u15.heap.size := E15.out.size; clear d15) | (go_at_call 29; have _t := tok16; clear tok16; refine (R15.out _).mono ?_; rintro e u16 ⟨rfl, d16⟩; have E16 := Lib.hid (E15.out.trans (d16.mono E15.out.size)); have kS16 : ∀ (a o : Nat), a < wr.heap.size → u16.cell? ⟨a, o, none⟩ = wr.cell? ⟨a, o, none⟩ := fun a o h => E16.out.cell (p := ⟨a, o, none⟩) h; have hz16 : wr.heap.size ≤ u16.heap.size := E16.out.size; clear d16) | (go_at_call 16; have _t := tok17; clear tok17; refine (awake_any _ (tab_below HTV.out E16.out)).mono ?_; rintro e u17 ⟨rfl, d17⟩; have E17 := Lib.hid (E16.out.trans (d17.mono E16.out.size)); have kS17 : ∀ (a o : Nat), a < wr.heap.size → u17.cell? ⟨a, o, none⟩ = wr.cell? ⟨a, o, none⟩ := fun a o h => E17.out.cell (p := ⟨a, o, none⟩) h; have hz17 : wr.heap.size ≤ u17.heap.size := E17.out.size; clear d17))
        all_goals (go_wp2_with fail)
        go_ret
        exact ⟨rfl, HW.out.trans ((((Below.refl wr.heap.size wr).drew).trans E17.out).mono HW.out.size)⟩
theorem ring_any (na nb nc : Bool) (sa sb sc : ByteArray) (w : World) (htab : Tab w) (ha : sa.size ≤ maxLen) (hb : sb.size ≤ maxLen) (hc : sc.size ≤ maxLen) :
    Calls Tryz.prog 7 #[.agg #[.bool na, .string sa], .agg #[.bool nb, .string sb], .agg #[.bool nc, .string sc]] w fun e w' => e = .returned (.bool true) ∧ Below w.heap.size w w' := by
  cases hg : (([(na, sa), (nb, sb), (nc, sc)] : List (Bool × ByteArray)).any fun p => decide ((60 : Int) < (p.2.size : Int)))
  · exact ring_small na nb nc sa sb sc w htab ha hb hc hg
  · exact ring_great na nb nc sa sb sc w htab ha hb hc hg
end Go.Proofs.YtggojipbllkcgaaGreatDoor
