/- The walk of narrowslaw01.BigintDivides. -/
import Derived.Test.YtmbnkokcpmkpgaaGreatDoorLong
import Derived.Deep.CutRange
import Derived.Outline
import Derived.Handy
namespace Go.Proofs.YtmbnkokcpmkpgaaGreatDoor
open Go.RowKit Go.Shelf

theorem isDiv_rest_pos {x y q r : Int} (h : IsDiv x y q r) (hy : 0 < y) : 0 ≤ r ∧ r < y := by
  obtain ⟨_, h | h⟩ := h <;> omega
theorem isDiv_rest_neg {x y q r : Int} (h : IsDiv x y q r) (hy : y < 0) : 0 ≤ -r ∧ -r < -y := by
  obtain ⟨_, h | h⟩ := h <;> omega
/-- How large a quotient is. -/
theorem isDiv_abs {x y q r : Int} (h : IsDiv x y q r) (_hy : y ≠ 0) : q.natAbs ≤ x.natAbs + 1 ∧ r.natAbs ≤ y.natAbs := by
  obtain ⟨he, h⟩ := h
  refine ⟨?_, by omega⟩
  refine Classical.byContradiction fun hn => ?_
  have h1 : y.natAbs * (x.natAbs + 2) ≤ y.natAbs * q.natAbs := Nat.mul_le_mul_left _ (by omega)
  have h6 : 1 * x.natAbs ≤ y.natAbs * x.natAbs := Nat.mul_le_mul_right _ (by omega)
  rw [Nat.mul_add] at h1
  have h2 : (y * q).natAbs = y.natAbs * q.natAbs := Int.natAbs_mul y q
  have h3 : y * q = x - r := by omega
  rw [h3] at h2
  omega

/-- Div at the divisor 0. -/
theorem div0_val (na nb : Bool) {sa sb : ByteArray} (ha : sa.size ≤ 262144) (hb : sb.size ≤ 262144) (hy0 : beVal sb.data.toList = 0) (W : World) :
    Calls Tryz.prog 34 #[.agg #[.bool na, .string sa], .agg #[.bool nb, .string sb]] W fun e w' => e = .returned (.tuple #[.agg #[.bool false, .string ⟨#[]⟩], .agg #[.bool false, .string ⟨#[]⟩], .int .i64 10]) ∧ Below W.heap.size W w' := div_zero na nb sa sb W ha hb hy0

set_option maxHeartbeats 4000000 in
set_option maxRecDepth 100000 in
theorem divides_great (na nb : Bool) (sa sb : ByteArray) (w : World) (htab : Tab w) (ha : sa.size ≤ maxLen) (hb : sb.size ≤ maxLen)
    (hg : (([(na, sa), (nb, sb)] : List (Bool × ByteArray)).any fun p => decide ((60 : Int) < (p.2.size : Int))) = true) :
    Calls Tryz.prog 9 #[.agg #[.bool na, .string sa], .agg #[.bool nb, .string sb]] w fun e w' => e = .returned (.bool true) ∧ Below w.heap.size w w' := by
  unfold maxLen at ha hb
  have HG := Lib.hid hg
  have HT := Lib.hid htab
  have hss : ∀ p ∈ ([(na, sa), (nb, sb)] : List (Bool × ByteArray)), p.2.size ≤ 9223372036854775807 := by
    intro p hp
    simp at hp
    rcases hp with rfl | rfl <;> simp <;> omega
  have HSS := Lib.hid hss
  clear htab hg hss
  go_enter Tryz.func9, Tryz.ntmps9
  go_wp2_with fail
  obtain ⟨W0, hW0⟩ : ∃ W0, ((w.alloc (Obj.cells #[Value.bool na, Value.string sa] 23)).alloc (Obj.cells #[Value.bool nb, Value.string sb] 23)).alloc (Obj.cells #[Value.bool na, Value.string sa, Value.bool nb, Value.string sb] 23) = W0 := ⟨_, rfl⟩
  have z0 : W0.heap.size = w.heap.size + 1 + 1 + 1 := by rw [← hW0]; simp
  have ta : Two (w.heap.size) (.bool na) (.string sa) W0 := by
    rw [← hW0]
    have h := two_new w (.bool na) (.string sa) 23
    (try simp only [World.size_alloc] at h)
    exact h.below (B0 := w.heap.size + 1) (((Below.refl _ _).alloc (by simp) _).alloc (by simp) _) (by omega)
  have tb : Two (w.heap.size + 1) (.bool nb) (.string sb) W0 := by
    rw [← hW0]
    have h := two_new (w.alloc (Obj.cells #[Value.bool na, Value.string sa] 23)) (.bool nb) (.string sb) 23
    (try simp only [World.size_alloc] at h)
    exact h.below (B0 := w.heap.size + 1 + 1) ((Below.refl _ _).alloc (by simp) _) (by omega)
  have hrow : RowI W0 (w.heap.size + 1 + 1) [(na, sa), (nb, sb)] := by
    rw [← hW0]
    have h := rowI_2 ((w.alloc (Obj.cells #[Value.bool na, Value.string sa] 23)).alloc (Obj.cells #[Value.bool nb, Value.string sb] 23)) na nb sa sb 23
    simp only [World.size_alloc] at h
    exact h
  have b0 : Below w.heap.size w W0 := by
    rw [← hW0]
    exact ((((Below.refl _ _).alloc (Nat.le_refl _) _).alloc (by simp) _).alloc (by simp; omega) _)
  rw [hW0]
  have hgr := great_any (w.heap.size + 1 + 1) [(na, sa), (nb, sb)] W0 hrow (by omega) (by simp) HSS.out
  rw [HG.out] at hgr
  have HGR := Lib.hid hgr
  have H0 := Lib.hid (And.intro z0 (And.intro b0 (And.intro ta (And.intro tb trivial))))
  clear hW0 z0 hrow b0 hgr ta tb
  refine HGR.out.mono ?_
  rintro e wG ⟨rfl, cG⟩
  have bG : Below w.heap.size w wG := H0.out.2.1.trans (cG.mono H0.out.2.1.size)
  have haw := awake_any wG (tab_of HT.out bG)
  have HAW := Lib.hid haw
  have HB := Lib.hid bG
  clear cG bG haw
  go_wp2_with fail
  refine HAW.out.mono ?_
  rintro e wA ⟨rfl, cA⟩
  go_wp2_with fail
  go_ret
  exact ⟨rfl, HB.out.trans (cA.mono HB.out.size)⟩

set_option maxHeartbeats 4000000 in
set_option maxRecDepth 100000 in
theorem divides_zero (na nb : Bool) (sa sb : ByteArray) (w : World) (htab : Tab w) (ha : sa.size ≤ maxLen) (hb : sb.size ≤ maxLen)
    (hg : (([(na, sa), (nb, sb)] : List (Bool × ByteArray)).any fun p => decide ((60 : Int) < (p.2.size : Int))) = false) (hs : ival nb sb = 0) :
    Calls Tryz.prog 9 #[.agg #[.bool na, .string sa], .agg #[.bool nb, .string sb]] w fun e w' => e = .returned (.bool true) ∧ Below w.heap.size w w' := by
  unfold maxLen at ha hb
  have HG := Lib.hid hg
  have HT := Lib.hid htab
  have hss : ∀ p ∈ ([(na, sa), (nb, sb)] : List (Bool × ByteArray)), p.2.size ≤ 9223372036854775807 := by
    intro p hp
    simp at hp
    rcases hp with rfl | rfl <;> simp <;> omega
  have HSS := Lib.hid hss
  have HSG := Lib.hid hs
  clear htab hg hss hs
  go_enter Tryz.func9, Tryz.ntmps9
  go_wp2_with fail
  obtain ⟨W0, hW0⟩ : ∃ W0, ((w.alloc (Obj.cells #[Value.bool na, Value.string sa] 23)).alloc (Obj.cells #[Value.bool nb, Value.string sb] 23)).alloc (Obj.cells #[Value.bool na, Value.string sa, Value.bool nb, Value.string sb] 23) = W0 := ⟨_, rfl⟩
  have z0 : W0.heap.size = w.heap.size + 1 + 1 + 1 := by rw [← hW0]; simp
  have ta : Two (w.heap.size) (.bool na) (.string sa) W0 := by
    rw [← hW0]
    have h := two_new w (.bool na) (.string sa) 23
    (try simp only [World.size_alloc] at h)
    exact h.below (B0 := w.heap.size + 1) (((Below.refl _ _).alloc (by simp) _).alloc (by simp) _) (by omega)
  have tb : Two (w.heap.size + 1) (.bool nb) (.string sb) W0 := by
    rw [← hW0]
    have h := two_new (w.alloc (Obj.cells #[Value.bool na, Value.string sa] 23)) (.bool nb) (.string sb) 23
    (try simp only [World.size_alloc] at h)
    exact h.below (B0 := w.heap.size + 1 + 1) ((Below.refl _ _).alloc (by simp) _) (by omega)
  have hrow : RowI W0 (w.heap.size + 1 + 1) [(na, sa), (nb, sb)] := by
    rw [← hW0]
    have h := rowI_2 ((w.alloc (Obj.cells #[Value.bool na, Value.string sa] 23)).alloc (Obj.cells #[Value.bool nb, Value.string sb] 23)) na nb sa sb 23
    simp only [World.size_alloc] at h
    exact h
  have b0 : Below w.heap.size w W0 := by
    rw [← hW0]
    exact ((((Below.refl _ _).alloc (Nat.le_refl _) _).alloc (by simp) _).alloc (by simp; omega) _)
  rw [hW0]
  have hgr := great_any (w.heap.size + 1 + 1) [(na, sa), (nb, sb)] W0 hrow (by omega) (by simp) HSS.out
  rw [HG.out] at hgr
  have HGR := Lib.hid hgr
  have H0 := Lib.hid (And.intro z0 (And.intro b0 (And.intro ta (And.intro tb trivial))))
  clear hW0 z0 hrow b0 hgr ta tb
  refine HGR.out.mono ?_
  rintro e wG ⟨rfl, cG⟩
  have bG : Below w.heap.size w wG := H0.out.2.1.trans (cG.mono H0.out.2.1.size)
  have hsm := small_size HG.out
  have zx : Sz 60 (ival na sa) := Sz.ival na sa 60 (hsm (na, sa) (by simp))
  have px : sa.size ≤ 60 := hsm (na, sa) (by simp)
  obtain ⟨x, hx⟩ : ∃ x, ival na sa = x := ⟨_, rfl⟩
  have vx : Val na sa x := ⟨hx, Nat.le_trans px (by omega)⟩
  rw [hx] at zx
  have zy : Sz 60 (ival nb sb) := Sz.ival nb sb 60 (hsm (nb, sb) (by simp))
  have py : sb.size ≤ 60 := hsm (nb, sb) (by simp)
  obtain ⟨y, hy⟩ : ∃ y, ival nb sb = y := ⟨_, rfl⟩
  have vy : Val nb sb y := ⟨hy, Nat.le_trans py (by omega)⟩
  rw [hy] at zy
  have tA : Two (w.heap.size) (.bool na) (.string sa) wG := H0.out.2.2.1.below cG H0.out.2.2.1.lt
  have tB : Two (w.heap.size + 1) (.bool nb) (.string sb) wG := H0.out.2.2.2.1.below cG H0.out.2.2.2.1.lt
  have v0 : Val false ⟨#[]⟩ 0 := ⟨rfl, Nat.zero_le _⟩
  have hy0 : beVal sb.data.toList = 0 := by have := ival_abs nb sb; rw [HSG.out] at this; omega
  have D1 := Lib.hid (div0_val na nb vx.small vy.small hy0)
  have K1 := Lib.hid (cmp_val vy v0 0 (by rw [← hy, HSG.out]; exact cmpZ_eq rfl))
  have HS := Lib.hid (And.intro bG (And.intro tA tB))
  have l1 := tA.lt
  have l2 := tB.lt
  have m1 := tA.1.1
  have m2 := tA.2.1
  have m3 := tB.1.1
  have m4 := tB.2.1
  have q1 := eql_int
  have q2 := guard_int
  have e0 : eqI false ⟨#[]⟩ false ⟨#[]⟩ = true := Nam.eq (z := 0) ⟨rfl, rfl⟩
  clear hy0 v0 cG bG tA tB hsm hx hy zx zy px py vx vy
  go_wp2_with fail
  refine (D1.out _).mono ?_
  rintro e w1 ⟨rfl, c1⟩
  have d1 := HS.out.2.1.below c1 l1
  have d2 := HS.out.2.2.below c1 l2
  have f1 := HS.out.1.trans (c1.mono HS.out.1.size)
  clear m1 m2 m3 m4 l1 l2 c1
  have HS1 := Lib.hid (And.intro f1 (And.intro d1 d2))
  have l1 := d1.lt
  have l2 := d2.lt
  have m1 := d1.1.1
  have m2 := d1.2.1
  have m3 := d2.1.1
  have m4 := d2.2.1
  clear d1 d2 f1
  go_wp2_with fail
  obtain ⟨w2, hw2⟩ : ∃ V, ((w1.alloc (Obj.cells #[Value.bool false, Value.string ⟨#[]⟩] 23)).alloc (Obj.cells #[Value.bool false, Value.string ⟨#[]⟩] 23)).alloc (Obj.cells #[Value.bool false, Value.string ⟨#[]⟩] 23) = V := ⟨_, rfl⟩
  obtain ⟨BQ, hBQ⟩ : ∃ B, w1.heap.size = B := ⟨_, rfl⟩
  obtain ⟨BR, hBR⟩ : ∃ B, BQ + 1 = B := ⟨_, rfl⟩
  obtain ⟨BZ, hBZ⟩ : ∃ B, BQ + 1 + 1 = B := ⟨_, rfl⟩
  have bw2 : Below w1.heap.size w1 w2 := by rw [← hw2]; exact (((Below.refl _ _).alloc (Nat.le_refl _) _).alloc (by simp) _).alloc (by simp; omega) _
  have tBQ : Two BQ (.bool false) (.string ⟨#[]⟩) w2 := by rw [← hw2, ← hBQ]; exact (two_new w1 _ _ _).below (B0 := w1.heap.size + 1) (((Below.refl _ _).alloc (by simp) _).alloc (by simp) _) (by omega)
  have tBR : Two BR (.bool false) (.string ⟨#[]⟩) w2 := by
    rw [← hw2, ← hBR, ← hBQ]
    have h := two_new (w1.alloc (Obj.cells #[Value.bool false, Value.string ⟨#[]⟩] 23)) (.bool false) (.string ⟨#[]⟩) 23
    rw [World.size_alloc] at h
    exact h.below (B0 := w1.heap.size + 1 + 1) ((Below.refl _ _).alloc (by simp) _) (by omega)
  have tBZ : Two BZ (.bool false) (.string ⟨#[]⟩) w2 := by
    rw [← hw2, ← hBZ, ← hBQ]
    have h := two_new ((w1.alloc (Obj.cells #[Value.bool false, Value.string ⟨#[]⟩] 23)).alloc (Obj.cells #[Value.bool false, Value.string ⟨#[]⟩] 23)) (.bool false) (.string ⟨#[]⟩) 23
    rwa [World.size_alloc, World.size_alloc] at h
  rw [hw2, hBQ, hBZ, hBR]
  have hn1BQ : BQ ≠ BR := by omega
  have hn2BQ : BQ ≠ BZ := by omega
  have hn3BQ : BR ≠ BZ := by omega
  have f2 := HS1.out.1.trans (bw2.mono HS1.out.1.size)
  have HS2 := Lib.hid (And.intro f2 (And.intro tBQ (And.intro tBR tBZ)))
  have l3 := tBQ.lt
  have l4 := tBR.lt
  have l5 := tBZ.lt
  clear m1 m2 m3 m4 hw2 hBQ hBR hBZ bw2 f2 tBQ tBR tBZ l1 l2
  refine (K1.out _).mono ?_
  rintro e w3 ⟨rfl, c3⟩
  have d3 := HS2.out.2.1.below c3 l3
  have d4 := HS2.out.2.2.1.below c3 l4
  have d5 := HS2.out.2.2.2.below c3 l5
  have f3 := HS2.out.1.trans (c3.mono HS2.out.1.size)
  have HF3 := Lib.hid f3
  have m1 := d3.1.1
  have m2 := d3.2.1
  have m3 := d4.1.1
  have m4 := d4.2.1
  have m5 := d5.1.1
  have m6 := d5.2.1
  have haw := awake_any w3 (tab_of HT.out f3)
  have HAW := Lib.hid haw
  clear d3 d4 d5 f3 c3 haw l3 l4 l5 hn1BQ hn2BQ hn3BQ
  go_wp2_with fail
  refine HAW.out.mono ?_
  rintro e wA ⟨rfl, cA⟩
  go_wp2_with fail
  go_ret
  exact ⟨rfl, HF3.out.trans (cA.mono HF3.out.size)⟩

set_option maxHeartbeats 4000000 in
set_option maxRecDepth 100000 in
theorem divides_pos (na nb : Bool) (sa sb : ByteArray) (w : World) (htab : Tab w) (ha : sa.size ≤ maxLen) (hb : sb.size ≤ maxLen)
    (hg : (([(na, sa), (nb, sb)] : List (Bool × ByteArray)).any fun p => decide ((60 : Int) < (p.2.size : Int))) = false) (hs : ival nb sb > 0) :
    Calls Tryz.prog 9 #[.agg #[.bool na, .string sa], .agg #[.bool nb, .string sb]] w fun e w' => e = .returned (.bool true) ∧ Below w.heap.size w w' := by
  unfold maxLen at ha hb
  have HG := Lib.hid hg
  have HT := Lib.hid htab
  have hss : ∀ p ∈ ([(na, sa), (nb, sb)] : List (Bool × ByteArray)), p.2.size ≤ 9223372036854775807 := by
    intro p hp
    simp at hp
    rcases hp with rfl | rfl <;> simp <;> omega
  have HSS := Lib.hid hss
  have HSG := Lib.hid hs
  clear htab hg hss hs
  go_enter Tryz.func9, Tryz.ntmps9
  go_wp2_with fail
  obtain ⟨W0, hW0⟩ : ∃ W0, ((w.alloc (Obj.cells #[Value.bool na, Value.string sa] 23)).alloc (Obj.cells #[Value.bool nb, Value.string sb] 23)).alloc (Obj.cells #[Value.bool na, Value.string sa, Value.bool nb, Value.string sb] 23) = W0 := ⟨_, rfl⟩
  have z0 : W0.heap.size = w.heap.size + 1 + 1 + 1 := by rw [← hW0]; simp
  have ta : Two (w.heap.size) (.bool na) (.string sa) W0 := by
    rw [← hW0]
    have h := two_new w (.bool na) (.string sa) 23
    (try simp only [World.size_alloc] at h)
    exact h.below (B0 := w.heap.size + 1) (((Below.refl _ _).alloc (by simp) _).alloc (by simp) _) (by omega)
  have tb : Two (w.heap.size + 1) (.bool nb) (.string sb) W0 := by
    rw [← hW0]
    have h := two_new (w.alloc (Obj.cells #[Value.bool na, Value.string sa] 23)) (.bool nb) (.string sb) 23
    (try simp only [World.size_alloc] at h)
    exact h.below (B0 := w.heap.size + 1 + 1) ((Below.refl _ _).alloc (by simp) _) (by omega)
  have hrow : RowI W0 (w.heap.size + 1 + 1) [(na, sa), (nb, sb)] := by
    rw [← hW0]
    have h := rowI_2 ((w.alloc (Obj.cells #[Value.bool na, Value.string sa] 23)).alloc (Obj.cells #[Value.bool nb, Value.string sb] 23)) na nb sa sb 23
    simp only [World.size_alloc] at h
    exact h
  have b0 : Below w.heap.size w W0 := by
    rw [← hW0]
    exact ((((Below.refl _ _).alloc (Nat.le_refl _) _).alloc (by simp) _).alloc (by simp; omega) _)
  rw [hW0]
  have hgr := great_any (w.heap.size + 1 + 1) [(na, sa), (nb, sb)] W0 hrow (by omega) (by simp) HSS.out
  rw [HG.out] at hgr
  have HGR := Lib.hid hgr
  have H0 := Lib.hid (And.intro z0 (And.intro b0 (And.intro ta (And.intro tb trivial))))
  clear hW0 z0 hrow b0 hgr ta tb
  refine HGR.out.mono ?_
  rintro e wG ⟨rfl, cG⟩
  have bG : Below w.heap.size w wG := H0.out.2.1.trans (cG.mono H0.out.2.1.size)
  have hsm := small_size HG.out
  have zx : Sz 60 (ival na sa) := Sz.ival na sa 60 (hsm (na, sa) (by simp))
  have px : sa.size ≤ 60 := hsm (na, sa) (by simp)
  obtain ⟨x, hx⟩ : ∃ x, ival na sa = x := ⟨_, rfl⟩
  have vx : Val na sa x := ⟨hx, Nat.le_trans px (by omega)⟩
  rw [hx] at zx
  have zy : Sz 60 (ival nb sb) := Sz.ival nb sb 60 (hsm (nb, sb) (by simp))
  have py : sb.size ≤ 60 := hsm (nb, sb) (by simp)
  obtain ⟨y, hy⟩ : ∃ y, ival nb sb = y := ⟨_, rfl⟩
  have vy : Val nb sb y := ⟨hy, Nat.le_trans py (by omega)⟩
  rw [hy] at zy
  have tA : Two (w.heap.size) (.bool na) (.string sa) wG := H0.out.2.2.1.below cG H0.out.2.2.1.lt
  have tB : Two (w.heap.size + 1) (.bool nb) (.string sb) wG := H0.out.2.2.2.1.below cG H0.out.2.2.2.1.lt
  have v0 : Val false ⟨#[]⟩ 0 := ⟨rfl, Nat.zero_le _⟩
  have hys : y > 0 := by rw [← hy]; exact HSG.out
  have hy0 : y ≠ 0 := by omega
  obtain ⟨q, r, hdv⟩ := isDiv_ex x y hy0
  have habs := isDiv_abs hdv hy0
  have zq : Sz 61 q := by unfold Sz at *; omega
  have zr : Sz 60 r := by unfold Sz at *; omega
  obtain ⟨bQ, sQ, mQ⟩ := nam_ex q
  obtain ⟨bR, sR, mR⟩ := nam_ex r
  obtain ⟨bP, sP, mP⟩ := nam_ex (q * y)
  obtain ⟨bE, sE, mE⟩ := nam_ex x
  have vQ := mQ.val zq (by omega)
  have vR := mR.val zr (by omega)
  have vP := mP.val (zq.mul zy) (by omega)
  have vE := mE.val zx (by omega)
  have hrest := isDiv_rest_pos hdv hys
  obtain ⟨e1, he1⟩ : ∃ e, cmpZ r 0 = e := ⟨_, rfl⟩
  have hde : decide (0 ≤ e1) = true := by rw [← he1]; refine decide_eq_true ?_; unfold cmpZ; rw [if_neg (by omega)]; split <;> omega
  have hde2 : decide (e1 ≥ 0) = true := hde
  have D1 := Lib.hid (divAll_val vx vy hy0 hdv mQ mR)
  have K1 := Lib.hid (cmp_val vy v0 1 (by first | exact cmpZ_gt (by omega) | exact cmpZ_lt (by omega)))
  have R1 := Lib.hid (cmp_val vR v0 e1 he1)
  have R2 := Lib.hid (cmp_val vR vy (-1) (cmpZ_lt (by omega)))
  have R3 := Lib.hid (mul_val vQ vy rfl mP)
  have R4 := Lib.hid (add_val vP vR (by rw [Int.mul_comm]; exact hdv.1.symm) mE)
  have R5 := Lib.hid (cmp_val vE vx 0 (cmpZ_eq rfl))
  have HS := Lib.hid (And.intro bG (And.intro tA tB))
  have l1 := tA.lt
  have l2 := tB.lt
  have m1 := tA.1.1
  have m2 := tA.2.1
  have m3 := tB.1.1
  have m4 := tB.2.1
  clear hde2 v0 cG bG tA tB hsm hx hy zx zy px py vx vy hys hy0 hdv habs zq zr mQ mR mP mE vQ vR vP vE hrest he1
  go_wp2_with fail
  refine (D1.out _).mono ?_
  rintro e w1 ⟨rfl, c1⟩
  have d1 := HS.out.2.1.below c1 l1
  have d2 := HS.out.2.2.below c1 l2
  have f1 := HS.out.1.trans (c1.mono HS.out.1.size)
  clear m1 m2 m3 m4 l1 l2 c1
  have HS1 := Lib.hid (And.intro f1 (And.intro d1 d2))
  have l1 := d1.lt
  have l2 := d2.lt
  have m1 := d1.1.1
  have m2 := d1.2.1
  have m3 := d2.1.1
  have m4 := d2.2.1
  clear d1 d2 f1
  go_wp2_with fail
  obtain ⟨w2, hw2⟩ : ∃ V, ((w1.alloc (Obj.cells #[Value.bool bQ, Value.string sQ] 23)).alloc (Obj.cells #[Value.bool bR, Value.string sR] 23)).alloc (Obj.cells #[Value.bool false, Value.string ⟨#[]⟩] 23) = V := ⟨_, rfl⟩
  obtain ⟨BQ, hBQ⟩ : ∃ B, w1.heap.size = B := ⟨_, rfl⟩
  obtain ⟨BR, hBR⟩ : ∃ B, BQ + 1 = B := ⟨_, rfl⟩
  obtain ⟨BZ, hBZ⟩ : ∃ B, BQ + 1 + 1 = B := ⟨_, rfl⟩
  have bw2 : Below w1.heap.size w1 w2 := by rw [← hw2]; exact (((Below.refl _ _).alloc (Nat.le_refl _) _).alloc (by simp) _).alloc (by simp; omega) _
  have tBQ : Two BQ (.bool bQ) (.string sQ) w2 := by rw [← hw2, ← hBQ]; exact (two_new w1 _ _ _).below (B0 := w1.heap.size + 1) (((Below.refl _ _).alloc (by simp) _).alloc (by simp) _) (by omega)
  have tBR : Two BR (.bool bR) (.string sR) w2 := by
    rw [← hw2, ← hBR, ← hBQ]
    have h := two_new (w1.alloc (Obj.cells #[Value.bool bQ, Value.string sQ] 23)) (.bool bR) (.string sR) 23
    rw [World.size_alloc] at h
    exact h.below (B0 := w1.heap.size + 1 + 1) ((Below.refl _ _).alloc (by simp) _) (by omega)
  have tBZ : Two BZ (.bool false) (.string ⟨#[]⟩) w2 := by
    rw [← hw2, ← hBZ, ← hBQ]
    have h := two_new ((w1.alloc (Obj.cells #[Value.bool bQ, Value.string sQ] 23)).alloc (Obj.cells #[Value.bool bR, Value.string sR] 23)) (.bool false) (.string ⟨#[]⟩) 23
    rwa [World.size_alloc, World.size_alloc] at h
  rw [hw2, hBQ, hBZ, hBR]
  have hn1BQ : BQ ≠ BR := by omega
  have hn2BQ : BQ ≠ BZ := by omega
  have hn3BQ : BR ≠ BZ := by omega
  have f2 := HS1.out.1.trans (bw2.mono HS1.out.1.size)
  have dA := HS1.out.2.1.below bw2 l1
  have dB := HS1.out.2.2.below bw2 l2
  have HS2 := Lib.hid (And.intro f2 (And.intro dA (And.intro dB (And.intro tBQ (And.intro tBR tBZ)))))
  have hA1 : w.heap.size < BQ := by omega
  have hA2 : w.heap.size + 1 < BQ := by omega
  have hA3 : w.heap.size + 1 < BR := by omega
  have hA4 : w.heap.size + 1 < BZ := by omega
  clear m1 m2 m3 m4 l1 l2 hw2 hBQ hBR hBZ bw2
  have l1 := dA.lt
  have l2 := dB.lt
  have l3 := tBQ.lt
  have l4 := tBR.lt
  have l5 := tBZ.lt
  have m3 := dB.1.1
  have m4 := dB.2.1
  have m9 := tBZ.1.1
  have m10 := tBZ.2.1
  clear f2 tBQ tBR tBZ dA dB
  go_cut [9, 10] from 50 to 54 (fun v p wc => v = .int .i64 1 ∧ ∃ B10 : Nat, p = .pointer (some ⟨B10, 0, none⟩) ∧ Two B10 (.bool nb) (.string sb) wc ∧ w2.heap.size ≤ B10 ∧ Below w2.heap.size w2 wc)
  case first =>
    have D0 := Lib.hid ((Below.refl w2.heap.size w2).drew)
    have hz0 : w2.heap.size ≤ w2.drew.heap.size := Nat.le_refl _
    have tok1 : True := trivial
    go_region_held3 (fun w' => ∀ (a o : Nat), a < w2.heap.size → w'.cell? ⟨a, o, none⟩ = w2.cell? ⟨a, o, none⟩) (repeat' (first | with_reducible assumption | with_reducible exact keepS_refl _ | with_reducible (refine keepS_drew ?_) | with_reducible (refine keepS_alloc ?_ ?_) | with_reducible (refine keepS_set ?_ ?_) | go_size))
      (first | (go_at_call 24; have _t := tok1; clear tok1; refine (K1.out _).mono ?_; rintro e u1 ⟨rfl, d1⟩; have D2 := Lib.hid (show Below w2.heap.size w2 u1 from Below.trans (by have Dp := D0.out; go_grown) (d1.mono (by go_size))); have kS1 : ∀ (a o : Nat), a < w2.heap.size → u1.cell? ⟨a, o, none⟩ = w2.cell? ⟨a, o, none⟩ := fun a o h => D2.out.cell (p := ⟨a, o, none⟩) h; have hz1 : w2.heap.size ≤ u1.heap.size := D2.out.size; (try (have q10 := carry_two d1 (w2.heap.size) (by first | omega | (simp only [World.size_alloc, World.size_drew]; omega)); obtain ⟨⟨f100, f101⟩, ⟨g100, g101⟩, t10, n10, s10⟩ := q10)); clear d1))
    all_goals (go_wp2_with fail; go_meet)
    all_goals exact ⟨rfl, _, rfl, ⟨⟨(by first | (simp; done) | (simp [go_sem, *]; done)), (by first | (simp; done) | (simp [go_sem, *]; done))⟩, ⟨(by first | (simp; done) | (simp [go_sem, *]; done)), (by first | (simp; done) | (simp [go_sem, *]; done))⟩⟩, (by first | omega | (simp only [World.size_alloc, World.size_drew] at *; omega)), (by have Dp := D2.out; go_grown)⟩
  case rest =>
    obtain ⟨rfl, B10, rfl, t10, hB10, bC⟩ := hcut
    have f3 := HS2.out.1.trans (bC.mono HS2.out.1.size)
    have dA := HS2.out.2.1.below bC l1
    have dB := HS2.out.2.2.1.below bC l2
    have dQ := HS2.out.2.2.2.1.below bC l3
    have dR := HS2.out.2.2.2.2.1.below bC l4
    have dZ := HS2.out.2.2.2.2.2.below bC l5
    have hne1 : BR ≠ B10 := by omega
    have hne2 : B10 ≠ BR := by omega
    have hne3 : BQ ≠ B10 := by omega
    have hne4 : BZ ≠ B10 := by omega
    have hww : w.heap.size ≤ BR := by omega
    have hww2 : w.heap.size ≤ B10 := by omega
    have hT1 : w.heap.size + 1 < B10 := by omega
    have HS3 := Lib.hid (And.intro f3 (And.intro dA (And.intro dB (And.intro dQ (And.intro dR (And.intro dZ t10))))))
    clear l1 l2 l3 l4 l5 m3 m4 m9 m10 bC hB10
    have l1 := dA.lt
    have l2 := dB.lt
    have l3 := dQ.lt
    have l4 := dR.lt
    have l5 := dZ.lt
    have l6 := t10.lt
    have m1 := dA.1.1
    have m2 := dA.2.1
    have m3 := dB.1.1
    have m4 := dB.2.1
    have HS4 := HS3
    clear f3 dA dB dQ dR dZ t10
    obtain ⟨wd, hwd⟩ : ∃ V, wc = V := ⟨_, rfl⟩
    subst hwd
    go_wp2_with fail
    refine (D1.out _).mono ?_
    rintro e w4 ⟨rfl, c4⟩
    have f4 := HS4.out.1.trans (c4.mono HS4.out.1.size)
    have xA := HS4.out.2.1.below c4 l1
    have xB := HS4.out.2.2.1.below c4 l2
    have xQ := HS4.out.2.2.2.1.below c4 l3
    have xR := HS4.out.2.2.2.2.1.below c4 l4
    have xZ := HS4.out.2.2.2.2.2.1.below c4 l5
    have xT := HS4.out.2.2.2.2.2.2.below c4 l6
    clear l1 l2 l3 l4 l5 l6 m1 m2 m3 m4 c4
    have HS5 := Lib.hid (And.intro f4 (And.intro xA (And.intro xB (And.intro xQ (And.intro xR (And.intro xZ xT))))))
    clear f4 xA xB xQ xR xZ xT
    go_wp2_with fail
    obtain ⟨w5, hw5⟩ : ∃ V, (w4.alloc (Obj.cells #[Value.bool bQ, Value.string sQ] 23)).alloc (Obj.cells #[Value.bool bR, Value.string sR] 23) = V := ⟨_, rfl⟩
    obtain ⟨B11, hB11⟩ : ∃ B, w4.heap.size = B := ⟨_, rfl⟩
    obtain ⟨B12, hB12⟩ : ∃ B, w4.heap.size + 1 = B := ⟨_, rfl⟩
    have bw5 : Below w4.heap.size w4 w5 := by rw [← hw5]; exact ((Below.refl _ _).alloc (Nat.le_refl _) _).alloc (by simp) _
    have tB11 : Two B11 (.bool bQ) (.string sQ) w5 := by rw [← hw5, ← hB11]; exact (two_new w4 _ _ _).below (B0 := w4.heap.size + 1) ((Below.refl _ _).alloc (by simp) _) (by omega)
    have tB12 : Two B12 (.bool bR) (.string sR) w5 := by
      rw [← hw5, ← hB12]
      have h := two_new (w4.alloc (Obj.cells #[Value.bool bQ, Value.string sQ] 23)) (.bool bR) (.string sR) 23
      rwa [World.size_alloc] at h
    rw [hw5, hB12, hB11]
    obtain ⟨f4, xA, xB, xQ, xR, xZ, xT⟩ := HS5.out
    have f5 := f4.trans (bw5.mono f4.size)
    have yA := xA.below bw5 xA.lt
    have yB := xB.below bw5 xB.lt
    have yQ := xQ.below bw5 xQ.lt
    have yR := xR.below bw5 xR.lt
    have yZ := xZ.below bw5 xZ.lt
    have yT := xT.below bw5 xT.lt
    have l1 := yA.lt
    have l2 := yB.lt
    have l3 := yQ.lt
    have l4 := yR.lt
    have l5 := yZ.lt
    have l6 := yT.lt
    have l7 := tB12.lt
    have m1 := yA.1.1
    have m2 := yA.2.1
    have m3 := yB.1.1
    have m4 := yB.2.1
    have m5 := yQ.1.1
    have m6 := yQ.2.1
    have m7 := yR.1.1
    have m8 := yR.2.1
    have m9 := yZ.1.1
    have m10 := yZ.2.1
    have m11 := yT.1.1
    have m12 := yT.2.1
    have m13 := tB12.1.1
    have m14 := tB12.2.1
    have HTV := Lib.hid (tab_below HT.out f5.drew)
    have HF5 := Lib.hid f5
    clear f4 xA xB xQ xR xZ xT yA yB yQ yR yZ yT f5 hw5 hB11 hB12 bw5 tB11 tB12
    have tok1 : True := trivial
    have tok2 : True := trivial
    have tok3 : True := trivial
    have tok4 : True := trivial
    have tok5 : True := trivial
    have tok6 : True := trivial
    go_region_held3 (fun w' => ∀ (a o : Nat), a < w5.heap.size → w'.cell? ⟨a, o, none⟩ = w5.cell? ⟨a, o, none⟩) (first | assumption | (intro _ _ _; rfl))
      (first | (go_at_call 24; have _t := tok1; clear tok1; refine (R1.out _).mono ?_; rintro e u1 ⟨rfl, d1⟩; have E1 := Lib.hid (d1); have kS1 : ∀ (a o : Nat), a < w5.heap.size → u1.cell? ⟨a, o, none⟩ = w5.cell? ⟨a, o, none⟩ := fun a o h => E1.out.cell (p := ⟨a, o, none⟩) h; have hz1 : w5.heap.size ≤ u1.heap.size := E1.out.size; clear d1) | (go_at_call 24; have _t := tok2; clear tok2; refine (R2.out _).mono ?_; rintro e u2 ⟨rfl, d2⟩; have E2 := Lib.hid (E1.out.trans (d2.mono E1.out.size)); have kS2 : ∀ (a o : Nat), a < w5.heap.size → u2.cell? ⟨a, o, none⟩ = w5.cell? ⟨a, o, none⟩ := fun a o h => E2.out.cell (p := ⟨a, o, none⟩) h; have hz2 : w5.heap.size ≤ u2.heap.size := E2.out.size; clear d2) | (go_at_call 32; have _t := tok3; clear tok3; refine (R3.out _).mono ?_; rintro e u3 ⟨rfl, d3⟩; have E3 := Lib.hid (E2.out.trans (d3.mono E2.out.size)); have kS3 : ∀ (a o : Nat), a < w5.heap.size → u3.cell? ⟨a, o, none⟩ = w5.cell? ⟨a, o, none⟩ := fun a o h => E3.out.cell (p := ⟨a, o, none⟩) h; have hz3 : w5.heap.size ≤ u3.heap.size := E3.out.size; clear d3) | (go_at_call 28; have _t := tok4; clear tok4; refine (R4.out _).mono ?_; rintro e u4 ⟨rfl, d4⟩; have E4 := Lib.hid (E3.out.trans (d4.mono E3.out.size)); have kS4 : ∀ (a o : Nat), a < w5.heap.size → u4.cell? ⟨a, o, none⟩ = w5.cell? ⟨a, o, none⟩ := fun a o h => E4.out.cell (p := ⟨a, o, none⟩) h; have hz4 : w5.heap.size ≤ u4.heap.size := E4.out.size; clear d4) | (go_at_call 24; have _t := tok5; clear tok5; refine (R5.out _).mono ?_; rintro e u5 ⟨rfl, d5⟩; have E5 := Lib.hid (E4.out.trans (d5.mono E4.out.size)); have kS5 : ∀ (a o : Nat), a < w5.heap.size → u5.cell? ⟨a, o, none⟩ = w5.cell? ⟨a, o, none⟩ := fun a o h => E5.out.cell (p := ⟨a, o, none⟩) h; have hz5 : w5.heap.size ≤ u5.heap.size := E5.out.size; clear d5) | (go_at_call 15; have _t := tok6; clear tok6; refine (awake_any _ (tab_below HTV.out E5.out)).mono ?_; rintro e u6 ⟨rfl, d6⟩; have E6 := Lib.hid (E5.out.trans (d6.mono E5.out.size)); have kS6 : ∀ (a o : Nat), a < w5.heap.size → u6.cell? ⟨a, o, none⟩ = w5.cell? ⟨a, o, none⟩ := fun a o h => E6.out.cell (p := ⟨a, o, none⟩) h; have hz6 : w5.heap.size ≤ u6.heap.size := E6.out.size; clear d6))
    all_goals (go_wp2_with fail)
    go_ret
    exact ⟨rfl, HF5.out.trans ((((Below.refl w5.heap.size w5).drew).trans E6.out).mono HF5.out.size)⟩

set_option maxHeartbeats 4000000 in
set_option maxRecDepth 100000 in
theorem divides_neg (na nb : Bool) (sa sb : ByteArray) (w : World) (htab : Tab w) (ha : sa.size ≤ maxLen) (hb : sb.size ≤ maxLen)
    (hg : (([(na, sa), (nb, sb)] : List (Bool × ByteArray)).any fun p => decide ((60 : Int) < (p.2.size : Int))) = false) (hs : ival nb sb < 0) :
    Calls Tryz.prog 9 #[.agg #[.bool na, .string sa], .agg #[.bool nb, .string sb]] w fun e w' => e = .returned (.bool true) ∧ Below w.heap.size w w' := by
  unfold maxLen at ha hb
  have HG := Lib.hid hg
  have HT := Lib.hid htab
  have hss : ∀ p ∈ ([(na, sa), (nb, sb)] : List (Bool × ByteArray)), p.2.size ≤ 9223372036854775807 := by
    intro p hp
    simp at hp
    rcases hp with rfl | rfl <;> simp <;> omega
  have HSS := Lib.hid hss
  have HSG := Lib.hid hs
  clear htab hg hss hs
  go_enter Tryz.func9, Tryz.ntmps9
  go_wp2_with fail
  obtain ⟨W0, hW0⟩ : ∃ W0, ((w.alloc (Obj.cells #[Value.bool na, Value.string sa] 23)).alloc (Obj.cells #[Value.bool nb, Value.string sb] 23)).alloc (Obj.cells #[Value.bool na, Value.string sa, Value.bool nb, Value.string sb] 23) = W0 := ⟨_, rfl⟩
  have z0 : W0.heap.size = w.heap.size + 1 + 1 + 1 := by rw [← hW0]; simp
  have ta : Two (w.heap.size) (.bool na) (.string sa) W0 := by
    rw [← hW0]
    have h := two_new w (.bool na) (.string sa) 23
    (try simp only [World.size_alloc] at h)
    exact h.below (B0 := w.heap.size + 1) (((Below.refl _ _).alloc (by simp) _).alloc (by simp) _) (by omega)
  have tb : Two (w.heap.size + 1) (.bool nb) (.string sb) W0 := by
    rw [← hW0]
    have h := two_new (w.alloc (Obj.cells #[Value.bool na, Value.string sa] 23)) (.bool nb) (.string sb) 23
    (try simp only [World.size_alloc] at h)
    exact h.below (B0 := w.heap.size + 1 + 1) ((Below.refl _ _).alloc (by simp) _) (by omega)
  have hrow : RowI W0 (w.heap.size + 1 + 1) [(na, sa), (nb, sb)] := by
    rw [← hW0]
    have h := rowI_2 ((w.alloc (Obj.cells #[Value.bool na, Value.string sa] 23)).alloc (Obj.cells #[Value.bool nb, Value.string sb] 23)) na nb sa sb 23
    simp only [World.size_alloc] at h
    exact h
  have b0 : Below w.heap.size w W0 := by
    rw [← hW0]
    exact ((((Below.refl _ _).alloc (Nat.le_refl _) _).alloc (by simp) _).alloc (by simp; omega) _)
  rw [hW0]
  have hgr := great_any (w.heap.size + 1 + 1) [(na, sa), (nb, sb)] W0 hrow (by omega) (by simp) HSS.out
  rw [HG.out] at hgr
  have HGR := Lib.hid hgr
  have H0 := Lib.hid (And.intro z0 (And.intro b0 (And.intro ta (And.intro tb trivial))))
  clear hW0 z0 hrow b0 hgr ta tb
  refine HGR.out.mono ?_
  rintro e wG ⟨rfl, cG⟩
  have bG : Below w.heap.size w wG := H0.out.2.1.trans (cG.mono H0.out.2.1.size)
  have hsm := small_size HG.out
  have zx : Sz 60 (ival na sa) := Sz.ival na sa 60 (hsm (na, sa) (by simp))
  have px : sa.size ≤ 60 := hsm (na, sa) (by simp)
  obtain ⟨x, hx⟩ : ∃ x, ival na sa = x := ⟨_, rfl⟩
  have vx : Val na sa x := ⟨hx, Nat.le_trans px (by omega)⟩
  rw [hx] at zx
  have zy : Sz 60 (ival nb sb) := Sz.ival nb sb 60 (hsm (nb, sb) (by simp))
  have py : sb.size ≤ 60 := hsm (nb, sb) (by simp)
  obtain ⟨y, hy⟩ : ∃ y, ival nb sb = y := ⟨_, rfl⟩
  have vy : Val nb sb y := ⟨hy, Nat.le_trans py (by omega)⟩
  rw [hy] at zy
  have tA : Two (w.heap.size) (.bool na) (.string sa) wG := H0.out.2.2.1.below cG H0.out.2.2.1.lt
  have tB : Two (w.heap.size + 1) (.bool nb) (.string sb) wG := H0.out.2.2.2.1.below cG H0.out.2.2.2.1.lt
  have v0 : Val false ⟨#[]⟩ 0 := ⟨rfl, Nat.zero_le _⟩
  have hys : y < 0 := by rw [← hy]; exact HSG.out
  have hy0 : y ≠ 0 := by omega
  obtain ⟨q, r, hdv⟩ := isDiv_ex x y hy0
  have habs := isDiv_abs hdv hy0
  have zq : Sz 61 q := by unfold Sz at *; omega
  have zr : Sz 60 r := by unfold Sz at *; omega
  obtain ⟨bQ, sQ, mQ⟩ := nam_ex q
  obtain ⟨bR, sR, mR⟩ := nam_ex r
  obtain ⟨bP, sP, mP⟩ := nam_ex (q * y)
  obtain ⟨bE, sE, mE⟩ := nam_ex x
  have vQ := mQ.val zq (by omega)
  have vR := mR.val zr (by omega)
  have vP := mP.val (zq.mul zy) (by omega)
  have vE := mE.val zx (by omega)
  obtain ⟨bS, sS, mS⟩ := nam_ex (-r)
  obtain ⟨bB, sB, mB⟩ := nam_ex (-y)
  have vS := mS.val zr.neg (by omega)
  have vB := mB.val zy.neg (by omega)
  have N1 := Lib.hid (neg_val vy rfl mB)
  have N2 := Lib.hid (neg_val vR rfl mS)
  have hrest := isDiv_rest_neg hdv hys
  obtain ⟨e1, he1⟩ : ∃ e, cmpZ (-r) 0 = e := ⟨_, rfl⟩
  have hde : decide (0 ≤ e1) = true := by rw [← he1]; refine decide_eq_true ?_; unfold cmpZ; rw [if_neg (by omega)]; split <;> omega
  have hde2 : decide (e1 ≥ 0) = true := hde
  have D1 := Lib.hid (divAll_val vx vy hy0 hdv mQ mR)
  have K1 := Lib.hid (cmp_val vy v0 (-1) (by first | exact cmpZ_gt (by omega) | exact cmpZ_lt (by omega)))
  have R1 := Lib.hid (cmp_val vS v0 e1 he1)
  have R2 := Lib.hid (cmp_val vS vB (-1) (cmpZ_lt (by omega)))
  have R3 := Lib.hid (mul_val vQ vy rfl mP)
  have R4 := Lib.hid (add_val vP vR (by rw [Int.mul_comm]; exact hdv.1.symm) mE)
  have R5 := Lib.hid (cmp_val vE vx 0 (cmpZ_eq rfl))
  have HS := Lib.hid (And.intro bG (And.intro tA tB))
  have l1 := tA.lt
  have l2 := tB.lt
  have m1 := tA.1.1
  have m2 := tA.2.1
  have m3 := tB.1.1
  have m4 := tB.2.1
  clear hde2 v0 cG bG tA tB hsm hx hy zx zy px py vx vy hys hy0 hdv habs zq zr mQ mR mP mE vQ vR vP vE hrest he1 mS mB vS vB
  go_wp2_with fail
  refine (D1.out _).mono ?_
  rintro e w1 ⟨rfl, c1⟩
  have d1 := HS.out.2.1.below c1 l1
  have d2 := HS.out.2.2.below c1 l2
  have f1 := HS.out.1.trans (c1.mono HS.out.1.size)
  clear m1 m2 m3 m4 l1 l2 c1
  have HS1 := Lib.hid (And.intro f1 (And.intro d1 d2))
  have l1 := d1.lt
  have l2 := d2.lt
  have m1 := d1.1.1
  have m2 := d1.2.1
  have m3 := d2.1.1
  have m4 := d2.2.1
  clear d1 d2 f1
  go_wp2_with fail
  obtain ⟨w2, hw2⟩ : ∃ V, ((w1.alloc (Obj.cells #[Value.bool bQ, Value.string sQ] 23)).alloc (Obj.cells #[Value.bool bR, Value.string sR] 23)).alloc (Obj.cells #[Value.bool false, Value.string ⟨#[]⟩] 23) = V := ⟨_, rfl⟩
  obtain ⟨BQ, hBQ⟩ : ∃ B, w1.heap.size = B := ⟨_, rfl⟩
  obtain ⟨BR, hBR⟩ : ∃ B, BQ + 1 = B := ⟨_, rfl⟩
  obtain ⟨BZ, hBZ⟩ : ∃ B, BQ + 1 + 1 = B := ⟨_, rfl⟩
  have bw2 : Below w1.heap.size w1 w2 := by rw [← hw2]; exact (((Below.refl _ _).alloc (Nat.le_refl _) _).alloc (by simp) _).alloc (by simp; omega) _
  have tBQ : Two BQ (.bool bQ) (.string sQ) w2 := by rw [← hw2, ← hBQ]; exact (two_new w1 _ _ _).below (B0 := w1.heap.size + 1) (((Below.refl _ _).alloc (by simp) _).alloc (by simp) _) (by omega)
  have tBR : Two BR (.bool bR) (.string sR) w2 := by
    rw [← hw2, ← hBR, ← hBQ]
    have h := two_new (w1.alloc (Obj.cells #[Value.bool bQ, Value.string sQ] 23)) (.bool bR) (.string sR) 23
    rw [World.size_alloc] at h
    exact h.below (B0 := w1.heap.size + 1 + 1) ((Below.refl _ _).alloc (by simp) _) (by omega)
  have tBZ : Two BZ (.bool false) (.string ⟨#[]⟩) w2 := by
    rw [← hw2, ← hBZ, ← hBQ]
    have h := two_new ((w1.alloc (Obj.cells #[Value.bool bQ, Value.string sQ] 23)).alloc (Obj.cells #[Value.bool bR, Value.string sR] 23)) (.bool false) (.string ⟨#[]⟩) 23
    rwa [World.size_alloc, World.size_alloc] at h
  rw [hw2, hBQ, hBZ, hBR]
  have hn1BQ : BQ ≠ BR := by omega
  have hn2BQ : BQ ≠ BZ := by omega
  have hn3BQ : BR ≠ BZ := by omega
  have f2 := HS1.out.1.trans (bw2.mono HS1.out.1.size)
  have dA := HS1.out.2.1.below bw2 l1
  have dB := HS1.out.2.2.below bw2 l2
  have HS2 := Lib.hid (And.intro f2 (And.intro dA (And.intro dB (And.intro tBQ (And.intro tBR tBZ)))))
  have hA1 : w.heap.size < BQ := by omega
  have hA2 : w.heap.size + 1 < BQ := by omega
  have hA3 : w.heap.size + 1 < BR := by omega
  have hA4 : w.heap.size + 1 < BZ := by omega
  clear m1 m2 m3 m4 l1 l2 hw2 hBQ hBR hBZ bw2
  have l1 := dA.lt
  have l2 := dB.lt
  have l3 := tBQ.lt
  have l4 := tBR.lt
  have l5 := tBZ.lt
  have m3 := dB.1.1
  have m4 := dB.2.1
  have m9 := tBZ.1.1
  have m10 := tBZ.2.1
  clear f2 tBQ tBR tBZ dA dB
  go_cut [9, 10] from 50 to 54 (fun v p wc => v = .int .i64 (-1) ∧ ∃ B10 : Nat, p = .pointer (some ⟨B10, 0, none⟩) ∧ Two B10 (.bool nb) (.string sb) wc ∧ w2.heap.size ≤ B10 ∧ Below w2.heap.size w2 wc)
  case first =>
    have D0 := Lib.hid ((Below.refl w2.heap.size w2).drew)
    have hz0 : w2.heap.size ≤ w2.drew.heap.size := Nat.le_refl _
    have tok1 : True := trivial
    go_region_held3 (fun w' => ∀ (a o : Nat), a < w2.heap.size → w'.cell? ⟨a, o, none⟩ = w2.cell? ⟨a, o, none⟩) (repeat' (first | with_reducible assumption | with_reducible exact keepS_refl _ | with_reducible (refine keepS_drew ?_) | with_reducible (refine keepS_alloc ?_ ?_) | with_reducible (refine keepS_set ?_ ?_) | go_size))
      (first | (go_at_call 24; have _t := tok1; clear tok1; refine (K1.out _).mono ?_; rintro e u1 ⟨rfl, d1⟩; have D2 := Lib.hid (show Below w2.heap.size w2 u1 from Below.trans (by have Dp := D0.out; go_grown) (d1.mono (by go_size))); have kS1 : ∀ (a o : Nat), a < w2.heap.size → u1.cell? ⟨a, o, none⟩ = w2.cell? ⟨a, o, none⟩ := fun a o h => D2.out.cell (p := ⟨a, o, none⟩) h; have hz1 : w2.heap.size ≤ u1.heap.size := D2.out.size; (try (have q10 := carry_two d1 (w2.heap.size) (by first | omega | (simp only [World.size_alloc, World.size_drew]; omega)); obtain ⟨⟨f100, f101⟩, ⟨g100, g101⟩, t10, n10, s10⟩ := q10)); clear d1))
    all_goals (go_wp2_with fail; go_meet)
    all_goals exact ⟨rfl, _, rfl, ⟨⟨(by first | (simp; done) | (simp [go_sem, *]; done)), (by first | (simp; done) | (simp [go_sem, *]; done))⟩, ⟨(by first | (simp; done) | (simp [go_sem, *]; done)), (by first | (simp; done) | (simp [go_sem, *]; done))⟩⟩, (by first | omega | (simp only [World.size_alloc, World.size_drew] at *; omega)), (by have Dp := D2.out; go_grown)⟩
  case rest =>
    obtain ⟨rfl, B10, rfl, t10, hB10, bC⟩ := hcut
    have f3 := HS2.out.1.trans (bC.mono HS2.out.1.size)
    have dA := HS2.out.2.1.below bC l1
    have dB := HS2.out.2.2.1.below bC l2
    have dQ := HS2.out.2.2.2.1.below bC l3
    have dR := HS2.out.2.2.2.2.1.below bC l4
    have dZ := HS2.out.2.2.2.2.2.below bC l5
    have hne1 : BR ≠ B10 := by omega
    have hne2 : B10 ≠ BR := by omega
    have hne3 : BQ ≠ B10 := by omega
    have hne4 : BZ ≠ B10 := by omega
    have hww : w.heap.size ≤ BR := by omega
    have hww2 : w.heap.size ≤ B10 := by omega
    have hT1 : w.heap.size + 1 < B10 := by omega
    have HS3 := Lib.hid (And.intro f3 (And.intro dA (And.intro dB (And.intro dQ (And.intro dR (And.intro dZ t10))))))
    clear l1 l2 l3 l4 l5 m3 m4 m9 m10 bC hB10
    go_wp2_with fail
    have lB := dB.lt
    have lR := dR.lt
    have lT := t10.lt
    have hQ2 : (Two (w.heap.size + 1) (.bool nb) (.string sb) wc.drew ∧ Two BR (.bool bR) (.string sR) wc.drew ∧ Two B10 (.bool nb) (.string sb) wc.drew) := ⟨dB, dR, t10⟩
    have HQ2 := Lib.hid hQ2
    have hbR : w.heap.size + 1 ≠ BR := by omega
    have hbT : w.heap.size + 1 ≠ B10 := by omega
    have haR : w.heap.size ≠ BR := by omega
    have haT : w.heap.size ≠ B10 := by omega
    have b1 : wc.drew.cell? ⟨w.heap.size + 1, 0, none⟩ = some (.bool nb) := dB.1.1
    have b2 : wc.drew.cell? ⟨w.heap.size + 1, 1, none⟩ = some (.string sb) := dB.2.1
    have r1 : wc.drew.cell? ⟨BR, 0, none⟩ = some (.bool bR) := dR.1.1
    have r2 : wc.drew.cell? ⟨BR, 1, none⟩ = some (.string sR) := dR.2.1
    clear f3 dA dB dQ dR dZ t10
    go_cut [] from 56 to 60 (fun wd => Below w.heap.size w wd ∧ Two w.heap.size (.bool na) (.string sa) wd ∧ Two (w.heap.size + 1) (.bool nb) (.string sb) wd ∧ Two BQ (.bool bQ) (.string sQ) wd ∧ Two BR (.bool bS) (.string sS) wd ∧ Two BZ (.bool false) (.string ⟨#[]⟩) wd ∧ Two B10 (.bool bB) (.string sB) wd)
    case first =>
      have tok1 : True := trivial
      go_region_with (first
        | (go_at_call 22; have _t := tok1; clear tok1; refine (N1.out _).mono ?_; intro e u1 h1; obtain ⟨he, d1⟩ := h1; subst he; have H1 := Lib.hid d1; have k2 := HQ2.out.2.1.below d1 lR; have k3 := HQ2.out.2.2.below d1 lT; obtain ⟨⟨k21, k22⟩, k23, k24⟩ := k2; obtain ⟨⟨k31, k32⟩, k33, k34⟩ := k3; clear d1)
        | (go_at_call 22; refine (N2.out _).mono ?_; intro e u2 h2; obtain ⟨he, d2⟩ := h2; subst he; have H2 := Lib.hid d2; have j2 := (HQ2.out.2.1.below H1.out lR).below d2 (Nat.lt_of_lt_of_le lR H1.out.size); have j3 := (HQ2.out.2.2.below H1.out lT).below d2 (Nat.lt_of_lt_of_le lT H1.out.size); obtain ⟨⟨j21, j22⟩, j23, j24⟩ := j2; obtain ⟨⟨j31, j32⟩, j33, j34⟩ := j3; clear d2))
      all_goals (go_wp2_with fail; go_meet)
      all_goals
        have hb2 : Below wc.heap.size wc u2 := ((Below.refl wc.heap.size wc).drew).trans (H1.out.trans (H2.out.mono H1.out.size))
        obtain ⟨f3, dA, dB, dQ, dR, dZ, t10⟩ := HS3.out
        have xA := dA.below hb2 dA.lt
        have xB := dB.below hb2 dB.lt
        have xQ := dQ.below hb2 dQ.lt
        have xR := dR.below hb2 dR.lt
        have xZ := dZ.below hb2 dZ.lt
        have xT := t10.below hb2 t10.lt
        have xF := f3.trans (hb2.mono f3.size)
        exact ⟨(((xF.setCell hww2 _).setCell hww2 _).setCell hww _).setCell hww _, (((xA.other haT).other haT).other haR).other haR, (((xB.other hbT).other hbT).other hbR).other hbR, (((xQ.other hne3).other hne3).other hn1BQ).other hn1BQ, two_set ((xR.other hne1).other hne1) _ _, (((xZ.other hne4).other hne4).other (Ne.symm hn3BQ)).other (Ne.symm hn3BQ), ((two_set xT _ _).other hne2).other hne2⟩
    case rest =>
      have HS4 := Lib.hid hcut
      obtain ⟨f3, dA, dB, dQ, dR, dZ, t10⟩ := hcut
      clear lB lR lT b1 b2 r1 r2
      have l1 := dA.lt
      have l2 := dB.lt
      have l3 := dQ.lt
      have l4 := dR.lt
      have l5 := dZ.lt
      have l6 := t10.lt
      have m1 := dA.1.1
      have m2 := dA.2.1
      have m3 := dB.1.1
      have m4 := dB.2.1
      clear f3 dA dB dQ dR dZ t10
      go_wp2_with fail
      refine (D1.out _).mono ?_
      rintro e w4 ⟨rfl, c4⟩
      have f4 := HS4.out.1.trans (c4.mono HS4.out.1.size)
      have xA := HS4.out.2.1.below c4 l1
      have xB := HS4.out.2.2.1.below c4 l2
      have xQ := HS4.out.2.2.2.1.below c4 l3
      have xR := HS4.out.2.2.2.2.1.below c4 l4
      have xZ := HS4.out.2.2.2.2.2.1.below c4 l5
      have xT := HS4.out.2.2.2.2.2.2.below c4 l6
      clear l1 l2 l3 l4 l5 l6 m1 m2 m3 m4 c4
      have HS5 := Lib.hid (And.intro f4 (And.intro xA (And.intro xB (And.intro xQ (And.intro xR (And.intro xZ xT))))))
      clear f4 xA xB xQ xR xZ xT
      go_wp2_with fail
      obtain ⟨w5, hw5⟩ : ∃ V, (w4.alloc (Obj.cells #[Value.bool bQ, Value.string sQ] 23)).alloc (Obj.cells #[Value.bool bR, Value.string sR] 23) = V := ⟨_, rfl⟩
      obtain ⟨B11, hB11⟩ : ∃ B, w4.heap.size = B := ⟨_, rfl⟩
      obtain ⟨B12, hB12⟩ : ∃ B, w4.heap.size + 1 = B := ⟨_, rfl⟩
      have bw5 : Below w4.heap.size w4 w5 := by rw [← hw5]; exact ((Below.refl _ _).alloc (Nat.le_refl _) _).alloc (by simp) _
      have tB11 : Two B11 (.bool bQ) (.string sQ) w5 := by rw [← hw5, ← hB11]; exact (two_new w4 _ _ _).below (B0 := w4.heap.size + 1) ((Below.refl _ _).alloc (by simp) _) (by omega)
      have tB12 : Two B12 (.bool bR) (.string sR) w5 := by
        rw [← hw5, ← hB12]
        have h := two_new (w4.alloc (Obj.cells #[Value.bool bQ, Value.string sQ] 23)) (.bool bR) (.string sR) 23
        rwa [World.size_alloc] at h
      rw [hw5, hB12, hB11]
      obtain ⟨f4, xA, xB, xQ, xR, xZ, xT⟩ := HS5.out
      have f5 := f4.trans (bw5.mono f4.size)
      have yA := xA.below bw5 xA.lt
      have yB := xB.below bw5 xB.lt
      have yQ := xQ.below bw5 xQ.lt
      have yR := xR.below bw5 xR.lt
      have yZ := xZ.below bw5 xZ.lt
      have yT := xT.below bw5 xT.lt
      have l1 := yA.lt
      have l2 := yB.lt
      have l3 := yQ.lt
      have l4 := yR.lt
      have l5 := yZ.lt
      have l6 := yT.lt
      have l7 := tB12.lt
      have m1 := yA.1.1
      have m2 := yA.2.1
      have m3 := yB.1.1
      have m4 := yB.2.1
      have m5 := yQ.1.1
      have m6 := yQ.2.1
      have m7 := yR.1.1
      have m8 := yR.2.1
      have m9 := yZ.1.1
      have m10 := yZ.2.1
      have m11 := yT.1.1
      have m12 := yT.2.1
      have m13 := tB12.1.1
      have m14 := tB12.2.1
      have HTV := Lib.hid (tab_below HT.out f5.drew)
      have HF5 := Lib.hid f5
      clear f4 xA xB xQ xR xZ xT yA yB yQ yR yZ yT f5 hw5 hB11 hB12 bw5 tB11 tB12
      have tok1 : True := trivial
      have tok2 : True := trivial
      have tok3 : True := trivial
      have tok4 : True := trivial
      have tok5 : True := trivial
      have tok6 : True := trivial
      go_region_held3 (fun w' => ∀ (a o : Nat), a < w5.heap.size → w'.cell? ⟨a, o, none⟩ = w5.cell? ⟨a, o, none⟩) (first | assumption | (intro _ _ _; rfl))
        (first | (go_at_call 24; have _t := tok1; clear tok1; refine (R1.out _).mono ?_; rintro e u1 ⟨rfl, d1⟩; have E1 := Lib.hid (d1); have kS1 : ∀ (a o : Nat), a < w5.heap.size → u1.cell? ⟨a, o, none⟩ = w5.cell? ⟨a, o, none⟩ := fun a o h => E1.out.cell (p := ⟨a, o, none⟩) h; have hz1 : w5.heap.size ≤ u1.heap.size := E1.out.size; clear d1) | (go_at_call 24; have _t := tok2; clear tok2; refine (R2.out _).mono ?_; rintro e u2 ⟨rfl, d2⟩; have E2 := Lib.hid (E1.out.trans (d2.mono E1.out.size)); have kS2 : ∀ (a o : Nat), a < w5.heap.size → u2.cell? ⟨a, o, none⟩ = w5.cell? ⟨a, o, none⟩ := fun a o h => E2.out.cell (p := ⟨a, o, none⟩) h; have hz2 : w5.heap.size ≤ u2.heap.size := E2.out.size; clear d2) | (go_at_call 32; have _t := tok3; clear tok3; refine (R3.out _).mono ?_; rintro e u3 ⟨rfl, d3⟩; have E3 := Lib.hid (E2.out.trans (d3.mono E2.out.size)); have kS3 : ∀ (a o : Nat), a < w5.heap.size → u3.cell? ⟨a, o, none⟩ = w5.cell? ⟨a, o, none⟩ := fun a o h => E3.out.cell (p := ⟨a, o, none⟩) h; have hz3 : w5.heap.size ≤ u3.heap.size := E3.out.size; clear d3) | (go_at_call 28; have _t := tok4; clear tok4; refine (R4.out _).mono ?_; rintro e u4 ⟨rfl, d4⟩; have E4 := Lib.hid (E3.out.trans (d4.mono E3.out.size)); have kS4 : ∀ (a o : Nat), a < w5.heap.size → u4.cell? ⟨a, o, none⟩ = w5.cell? ⟨a, o, none⟩ := fun a o h => E4.out.cell (p := ⟨a, o, none⟩) h; have hz4 : w5.heap.size ≤ u4.heap.size := E4.out.size; clear d4) | (go_at_call 24; have _t := tok5; clear tok5; refine (R5.out _).mono ?_; rintro e u5 ⟨rfl, d5⟩; have E5 := Lib.hid (E4.out.trans (d5.mono E4.out.size)); have kS5 : ∀ (a o : Nat), a < w5.heap.size → u5.cell? ⟨a, o, none⟩ = w5.cell? ⟨a, o, none⟩ := fun a o h => E5.out.cell (p := ⟨a, o, none⟩) h; have hz5 : w5.heap.size ≤ u5.heap.size := E5.out.size; clear d5) | (go_at_call 15; have _t := tok6; clear tok6; refine (awake_any _ (tab_below HTV.out E5.out)).mono ?_; rintro e u6 ⟨rfl, d6⟩; have E6 := Lib.hid (E5.out.trans (d6.mono E5.out.size)); have kS6 : ∀ (a o : Nat), a < w5.heap.size → u6.cell? ⟨a, o, none⟩ = w5.cell? ⟨a, o, none⟩ := fun a o h => E6.out.cell (p := ⟨a, o, none⟩) h; have hz6 : w5.heap.size ≤ u6.heap.size := E6.out.size; clear d6))
      all_goals (go_wp2_with fail)
      go_ret
      exact ⟨rfl, HF5.out.trans ((((Below.refl w5.heap.size w5).drew).trans E6.out).mono HF5.out.size)⟩

theorem divides_any (na nb : Bool) (sa sb : ByteArray) (w : World) (htab : Tab w) (ha : sa.size ≤ maxLen) (hb : sb.size ≤ maxLen) :
    Calls Tryz.prog 9 #[.agg #[.bool na, .string sa], .agg #[.bool nb, .string sb]] w fun e w' => e = .returned (.bool true) ∧ Below w.heap.size w w' := by
  cases hg : (([(na, sa), (nb, sb)] : List (Bool × ByteArray)).any fun p => decide ((60 : Int) < (p.2.size : Int)))
  · rcases Int.lt_trichotomy (ival nb sb) 0 with h | h | h
    · exact divides_neg na nb sa sb w htab ha hb hg h
    · exact divides_zero na nb sa sb w htab ha hb hg h
    · exact divides_pos na nb sa sb w htab ha hb hg h
  · exact divides_great na nb sa sb w htab ha hb hg
end Go.Proofs.YtmbnkokcpmkpgaaGreatDoor
