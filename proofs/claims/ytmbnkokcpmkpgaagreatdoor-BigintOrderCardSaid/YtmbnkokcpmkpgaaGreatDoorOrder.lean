/- The walk of narrowslaw01.BigintOrder. -/
import Derived.Test.YtmbnkokcpmkpgaaGreatDoorLawKit
import Derived.Deep.CutRange
import Derived.Outline
import Derived.Handy
namespace Go.Proofs.YtmbnkokcpmkpgaaGreatDoor
open Go.RowKit Go.Shelf

theorem cmpZ_swap (x y : Int) : cmpZ y x = -cmpZ x y := by unfold cmpZ; split <;> split <;> (try split) <;> omega
theorem cmpZ_sub (x y : Int) : cmpZ (x - y) 0 = cmpZ x y := by unfold cmpZ; split <;> split <;> (try split) <;> (try split) <;> omega
theorem cmpZ_flip (x y : Int) : cmpZ (-y) (-x) = cmpZ x y := by unfold cmpZ; split <;> split <;> (try split) <;> (try split) <;> omega
theorem cmpZ_add (x y z : Int) : cmpZ (x + z) (y + z) = cmpZ x y := by unfold cmpZ; split <;> split <;> (try split) <;> (try split) <;> omega
theorem cmpZ_range (x y : Int) : -1 ≤ cmpZ x y ∧ cmpZ x y ≤ 1 := by unfold cmpZ; split <;> (try split) <;> omega
theorem cmpZ_le (x y z : Int) (h : cmpZ x y ≤ 0) (h' : cmpZ y z ≤ 0) : cmpZ x z ≤ 0 := by
  have a : x ≤ y := by revert h; unfold cmpZ; split <;> (try split) <;> omega
  have b : y ≤ z := by revert h'; unfold cmpZ; split <;> (try split) <;> omega
  unfold cmpZ; split <;> (try split) <;> omega

/-- Half of a power of two, as the law's loop has it. -/
def hf (j : Nat) : Int := if j = 0 then 0 else ((2 ^ (j - 1) : Nat) : Int)
theorem hf_zero : hf 0 = 0 := rfl
theorem hf_succ (j : Nat) : hf (j + 1) = ((2 ^ j : Nat) : Int) := by unfold hf; rw [if_neg (by omega), Nat.add_sub_cancel]
theorem hf_le (n : Nat) : hf (bl n) ≤ (n : Int) := by
  unfold hf bl
  by_cases h : n = 0
  · subst h; decide
  · rw [if_neg h, if_neg (by omega), Nat.add_sub_cancel]
    have := Nat.log2_self_le h
    omega
theorem hf_nonneg (j : Nat) : 0 ≤ hf j := by
  unfold hf
  split
  · exact Int.le_refl 0
  · exact Int.natCast_nonneg _
theorem lt_two_bl (n : Nat) : n < 2 ^ bl n := by
  unfold bl
  by_cases h : n = 0
  · subst h; decide
  · rw [if_neg h]; exact Nat.lt_log2_self
theorem bl_le {n k : Nat} (h : n < 2 ^ k) : bl n ≤ k := by
  unfold bl
  by_cases h0 : n = 0
  · rw [if_pos h0]; omega
  · rw [if_neg h0]
    have := (Nat.log2_lt h0).2 h
    omega

theorem bl_le256 {n j : Nat} (h : n < 256 ^ j) : bl n ≤ 8 * j := bl_le (k := 8 * j) (by rw [Nat.pow_mul]; exact h)
theorem sz_pow {j k : Nat} (h : j < 8 * k) : Sz k ((2 ^ j : Nat) : Int) := by
  unfold Sz
  rw [Int.natAbs_natCast, show (256 : Nat) = 2 ^ 8 from rfl, ← Nat.pow_mul]
  exact Nat.pow_lt_pow_right (by omega) h

set_option maxHeartbeats 4000000 in
set_option maxRecDepth 100000 in
theorem order_great (na nb nc : Bool) (sa sb sc : ByteArray) (w : World) (htab : Tab w) (ha : sa.size ≤ maxLen) (hb : sb.size ≤ maxLen) (hc : sc.size ≤ maxLen)
    (hg : (([(na, sa), (nb, sb), (nc, sc)] : List (Bool × ByteArray)).any fun p => decide ((60 : Int) < (p.2.size : Int))) = true) :
    Calls Tryz.prog 13 #[.agg #[.bool na, .string sa], .agg #[.bool nb, .string sb], .agg #[.bool nc, .string sc]] w fun e w' => e = .returned (.bool true) ∧ Below w.heap.size w w' := by
  unfold maxLen at ha hb hc
  have HG := Lib.hid hg
  have HT := Lib.hid htab
  have hss : ∀ p ∈ ([(na, sa), (nb, sb), (nc, sc)] : List (Bool × ByteArray)), p.2.size ≤ 9223372036854775807 := by
    intro p hp
    simp at hp
    rcases hp with rfl | rfl | rfl <;> simp <;> omega
  have HSS := Lib.hid hss
  clear htab hg hss
  go_enter Tryz.func13, Tryz.ntmps13
  go_wp2_with fail
  obtain ⟨W0, hW0⟩ : ∃ W0, (((w.alloc (Obj.cells #[Value.bool na, Value.string sa] 23)).alloc (Obj.cells #[Value.bool nb, Value.string sb] 23)).alloc (Obj.cells #[Value.bool nc, Value.string sc] 23)).alloc (Obj.cells #[Value.bool na, Value.string sa, Value.bool nb, Value.string sb, Value.bool nc, Value.string sc] 23) = W0 := ⟨_, rfl⟩
  have z0 : W0.heap.size = w.heap.size + 1 + 1 + 1 + 1 := by rw [← hW0]; simp
  have ta : Two (w.heap.size) (.bool na) (.string sa) W0 := by
    rw [← hW0]
    have h := two_new w (.bool na) (.string sa) 23
    (try simp only [World.size_alloc] at h)
    exact h.below (B0 := w.heap.size + 1) ((((Below.refl _ _).alloc (by simp) _).alloc (by simp) _).alloc (by simp) _) (by omega)
  have tb : Two (w.heap.size + 1) (.bool nb) (.string sb) W0 := by
    rw [← hW0]
    have h := two_new (w.alloc (Obj.cells #[Value.bool na, Value.string sa] 23)) (.bool nb) (.string sb) 23
    (try simp only [World.size_alloc] at h)
    exact h.below (B0 := w.heap.size + 1 + 1) (((Below.refl _ _).alloc (by simp) _).alloc (by simp) _) (by omega)
  have tc : Two (w.heap.size + 1 + 1) (.bool nc) (.string sc) W0 := by
    rw [← hW0]
    have h := two_new ((w.alloc (Obj.cells #[Value.bool na, Value.string sa] 23)).alloc (Obj.cells #[Value.bool nb, Value.string sb] 23)) (.bool nc) (.string sc) 23
    (try simp only [World.size_alloc] at h)
    exact h.below (B0 := w.heap.size + 1 + 1 + 1) ((Below.refl _ _).alloc (by simp) _) (by omega)
  have hrow : RowI W0 (w.heap.size + 1 + 1 + 1) [(na, sa), (nb, sb), (nc, sc)] := by
    rw [← hW0]
    have h := rowI_3 (((w.alloc (Obj.cells #[Value.bool na, Value.string sa] 23)).alloc (Obj.cells #[Value.bool nb, Value.string sb] 23)).alloc (Obj.cells #[Value.bool nc, Value.string sc] 23)) na nb nc sa sb sc 23
    simp only [World.size_alloc] at h
    exact h
  have b0 : Below w.heap.size w W0 := by
    rw [← hW0]
    exact (((((Below.refl _ _).alloc (Nat.le_refl _) _).alloc (by simp) _).alloc (by simp; omega) _).alloc (by simp; omega) _)
  rw [hW0]
  have hgr := great_any (w.heap.size + 1 + 1 + 1) [(na, sa), (nb, sb), (nc, sc)] W0 hrow (by omega) (by simp) HSS.out
  rw [HG.out] at hgr
  have HGR := Lib.hid hgr
  have H0 := Lib.hid (And.intro z0 (And.intro b0 (And.intro ta (And.intro tb (And.intro tc trivial)))))
  clear hW0 z0 hrow b0 hgr ta tb tc
  refine HGR.out.mono ?_
  rintro e wG ⟨rfl, cG⟩
  have bG : Below w.heap.size w wG := H0.out.2.1.trans (cG.mono H0.out.2.1.size)
  have haw := awake_any wG (tab_of HT.out bG)
  have HAW := Lib.hid haw
  have HB := Lib.hid bG
  clear cG bG haw
  go_wp2_with fail
  refine HAW.out.mono ?_
  rintro e wA ⟨rfl, cA⟩
  go_wp2_with fail
  go_ret
  exact ⟨rfl, HB.out.trans (cA.mono HB.out.size)⟩

set_option maxHeartbeats 4000000 in
set_option maxRecDepth 100000 in
theorem order_small (na nb nc : Bool) (sa sb sc : ByteArray) (w : World) (htab : Tab w) (ha : sa.size ≤ maxLen) (hb : sb.size ≤ maxLen) (hc : sc.size ≤ maxLen)
    (hg : (([(na, sa), (nb, sb), (nc, sc)] : List (Bool × ByteArray)).any fun p => decide ((60 : Int) < (p.2.size : Int))) = false) :
    Calls Tryz.prog 13 #[.agg #[.bool na, .string sa], .agg #[.bool nb, .string sb], .agg #[.bool nc, .string sc]] w fun e w' => e = .returned (.bool true) ∧ Below w.heap.size w w' := by
  unfold maxLen at ha hb hc
  have HG := Lib.hid hg
  have HT := Lib.hid htab
  have hss : ∀ p ∈ ([(na, sa), (nb, sb), (nc, sc)] : List (Bool × ByteArray)), p.2.size ≤ 9223372036854775807 := by
    intro p hp
    simp at hp
    rcases hp with rfl | rfl | rfl <;> simp <;> omega
  have HSS := Lib.hid hss
  clear htab hg hss
  go_enter Tryz.func13, Tryz.ntmps13
  go_wp2_with fail
  obtain ⟨W0, hW0⟩ : ∃ W0, (((w.alloc (Obj.cells #[Value.bool na, Value.string sa] 23)).alloc (Obj.cells #[Value.bool nb, Value.string sb] 23)).alloc (Obj.cells #[Value.bool nc, Value.string sc] 23)).alloc (Obj.cells #[Value.bool na, Value.string sa, Value.bool nb, Value.string sb, Value.bool nc, Value.string sc] 23) = W0 := ⟨_, rfl⟩
  have z0 : W0.heap.size = w.heap.size + 1 + 1 + 1 + 1 := by rw [← hW0]; simp
  have ta : Two (w.heap.size) (.bool na) (.string sa) W0 := by
    rw [← hW0]
    have h := two_new w (.bool na) (.string sa) 23
    (try simp only [World.size_alloc] at h)
    exact h.below (B0 := w.heap.size + 1) ((((Below.refl _ _).alloc (by simp) _).alloc (by simp) _).alloc (by simp) _) (by omega)
  have tb : Two (w.heap.size + 1) (.bool nb) (.string sb) W0 := by
    rw [← hW0]
    have h := two_new (w.alloc (Obj.cells #[Value.bool na, Value.string sa] 23)) (.bool nb) (.string sb) 23
    (try simp only [World.size_alloc] at h)
    exact h.below (B0 := w.heap.size + 1 + 1) (((Below.refl _ _).alloc (by simp) _).alloc (by simp) _) (by omega)
  have tc : Two (w.heap.size + 1 + 1) (.bool nc) (.string sc) W0 := by
    rw [← hW0]
    have h := two_new ((w.alloc (Obj.cells #[Value.bool na, Value.string sa] 23)).alloc (Obj.cells #[Value.bool nb, Value.string sb] 23)) (.bool nc) (.string sc) 23
    (try simp only [World.size_alloc] at h)
    exact h.below (B0 := w.heap.size + 1 + 1 + 1) ((Below.refl _ _).alloc (by simp) _) (by omega)
  have hrow : RowI W0 (w.heap.size + 1 + 1 + 1) [(na, sa), (nb, sb), (nc, sc)] := by
    rw [← hW0]
    have h := rowI_3 (((w.alloc (Obj.cells #[Value.bool na, Value.string sa] 23)).alloc (Obj.cells #[Value.bool nb, Value.string sb] 23)).alloc (Obj.cells #[Value.bool nc, Value.string sc] 23)) na nb nc sa sb sc 23
    simp only [World.size_alloc] at h
    exact h
  have b0 : Below w.heap.size w W0 := by
    rw [← hW0]
    exact (((((Below.refl _ _).alloc (Nat.le_refl _) _).alloc (by simp) _).alloc (by simp; omega) _).alloc (by simp; omega) _)
  rw [hW0]
  have hgr := great_any (w.heap.size + 1 + 1 + 1) [(na, sa), (nb, sb), (nc, sc)] W0 hrow (by omega) (by simp) HSS.out
  rw [HG.out] at hgr
  have HGR := Lib.hid hgr
  have H0 := Lib.hid (And.intro z0 (And.intro b0 (And.intro ta (And.intro tb (And.intro tc trivial)))))
  clear hW0 z0 hrow b0 hgr ta tb tc
  refine HGR.out.mono ?_
  rintro e wG ⟨rfl, cG⟩
  have bG : Below w.heap.size w wG := H0.out.2.1.trans (cG.mono H0.out.2.1.size)
  have hsm := small_size HG.out
  have zx : Sz 60 (ival na sa) := Sz.ival na sa 60 (hsm (na, sa) (by simp))
  have zy : Sz 60 (ival nb sb) := Sz.ival nb sb 60 (hsm (nb, sb) (by simp))
  have zz : Sz 60 (ival nc sc) := Sz.ival nc sc 60 (hsm (nc, sc) (by simp))
  obtain ⟨x, hx⟩ : ∃ x, ival na sa = x := ⟨_, rfl⟩
  obtain ⟨y, hy⟩ : ∃ y, ival nb sb = y := ⟨_, rfl⟩
  obtain ⟨z, hz⟩ : ∃ z, ival nc sc = z := ⟨_, rfl⟩
  have vx : Val na sa x := ⟨hx, Nat.le_trans (hsm (na, sa) (by simp)) (by omega)⟩
  have vy : Val nb sb y := ⟨hy, Nat.le_trans (hsm (nb, sb) (by simp)) (by omega)⟩
  have vz : Val nc sc z := ⟨hz, Nat.le_trans (hsm (nc, sc) (by simp)) (by omega)⟩
  rw [hx] at zx
  rw [hy] at zy
  rw [hz] at zz
  obtain ⟨bD, sD, mD⟩ := nam_ex (x - y)
  obtain ⟨bY, sY, mY⟩ := nam_ex (-y)
  obtain ⟨bX, sX, mX⟩ := nam_ex (-x)
  obtain ⟨bU, sU, mU⟩ := nam_ex (x + z)
  obtain ⟨bV, sV, mV⟩ := nam_ex (y + z)
  have v0 : Val false ⟨#[]⟩ 0 := ⟨rfl, Nat.zero_le _⟩
  have vD := mD.val (zx.sub zy) (by omega)
  have vY := mY.val zy.neg (by omega)
  have vX := mX.val zx.neg (by omega)
  have vU := mU.val (zx.add zz) (by omega)
  have vV := mV.val (zy.add zz) (by omega)
  obtain ⟨c, hc⟩ : ∃ c, cmpZ x y = c := ⟨_, rfl⟩
  obtain ⟨d, hd⟩ : ∃ c, cmpZ y z = c := ⟨_, rfl⟩
  obtain ⟨g, hg⟩ : ∃ c, cmpZ x z = c := ⟨_, rfl⟩
  have hr := cmpZ_range x y
  have hle := cmpZ_le x y z
  rw [hc] at hr
  rw [hc, hd, hg] at hle
  have Q0 := Lib.hid (cmp_val vx vy c hc)
  have Q1 := Lib.hid (cmp_val vy vx (-c) (by rw [cmpZ_swap, hc]))
  have Q2 := Lib.hid (sub_val vx vy rfl mD)
  have Q3 := Lib.hid (cmp_val vD v0 c (by rw [cmpZ_sub, hc]))
  have Q4 := Lib.hid (neg_val vy rfl mY)
  have Q5 := Lib.hid (neg_val vx rfl mX)
  have Q6 := Lib.hid (cmp_val vY vX c (by rw [cmpZ_flip, hc]))
  have Q7 := Lib.hid (add_val vx vz rfl mU)
  have Q8 := Lib.hid (add_val vy vz rfl mV)
  have Q9 := Lib.hid (cmp_val vU vV c (by rw [cmpZ_add, hc]))
  have Q10 := Lib.hid (cmp_val vy vz d hd)
  have Q11 := Lib.hid (cmp_val vx vz g hg)
  have tA : Two (w.heap.size) (.bool na) (.string sa) wG := H0.out.2.2.1.below cG H0.out.2.2.1.lt
  have tB : Two (w.heap.size + 1) (.bool nb) (.string sb) wG := H0.out.2.2.2.1.below cG H0.out.2.2.2.1.lt
  have tC : Two (w.heap.size + 1 + 1) (.bool nc) (.string sc) wG := H0.out.2.2.2.2.1.below cG H0.out.2.2.2.2.1.lt
  have HS := Lib.hid (And.intro bG (And.intro tA (And.intro tB tC)))
  have l1 := tA.lt
  have l2 := tB.lt
  have l3 := tC.lt
  have m1 := tA.1.1
  have m2 := tA.2.1
  have m3 := tB.1.1
  have m4 := tB.2.1
  have m5 := tC.1.1
  have m6 := tC.2.1
  have HVV := Lib.hid (And.intro vx (And.intro vy (And.intro vz (And.intro hc (And.intro zx (And.intro zy zz))))))
  have HR := Lib.hid (And.intro hr hle)
  have HVX := Lib.hid vX
  have w0 : IntKind.i64.wrap c = c := by apply IntWalk.i64_in <;> omega
  have w9 : IntKind.i64.wrap (- -c) = c := by rw [Int.neg_neg]; exact w0
  clear mD mY mX mU mV v0 vD vY vX vU vV hc hd hg hr hle tA tB tC cG bG hsm hx hy hz vx vy vz zx zy zz
  go_wp2_with fail
  obtain ⟨w1, h1⟩ : ∃ V, wG.alloc (Obj.cells #[Value.bool false, Value.string ⟨#[]⟩] 23) = V := ⟨_, rfl⟩
  obtain ⟨B, hB⟩ : ∃ B, wG.heap.size = B := ⟨_, rfl⟩
  have b1 : Below wG.heap.size wG w1 := by rw [← h1]; exact (Below.refl _ _).alloc (Nat.le_refl _) _
  have t0 : Two B (.bool false) (.string ⟨#[]⟩) w1 := by rw [← h1, ← hB]; exact two_new _ _ _ _
  have f1 : Below w.heap.size w w1 := HS.out.1.trans (b1.mono HS.out.1.size)
  have a1 := HS.out.2.1.below b1 HS.out.2.1.lt
  have a2 := HS.out.2.2.1.below b1 HS.out.2.2.1.lt
  have a3 := HS.out.2.2.2.below b1 HS.out.2.2.2.lt
  rw [h1, hB]
  have HW := Lib.hid (And.intro f1 (And.intro a1 (And.intro a2 (And.intro a3 t0))))
  clear h1 hB b1 t0 f1 a1 a2 a3 l1 l2 l3 m1 m2 m3 m4 m5 m6
  refine (Q0.out _).mono ?_
  rintro e w2 ⟨rfl, c2⟩
  have d1 := HW.out.2.1.below c2 HW.out.2.1.lt
  have d2 := HW.out.2.2.1.below c2 HW.out.2.2.1.lt
  have d3 := HW.out.2.2.2.1.below c2 HW.out.2.2.2.1.lt
  have d4 := HW.out.2.2.2.2.below c2 HW.out.2.2.2.2.lt
  have f2 := HW.out.1.trans (c2.mono HW.out.1.size)
  have HX := Lib.hid (And.intro f2 (And.intro d1 (And.intro d2 (And.intro d3 d4))))
  obtain ⟨hr1, hr2⟩ := HR.out.1
  have hr3 : decide (c < -1) = false := decide_eq_false (by omega)
  have hr4 : decide (1 < c) = false := decide_eq_false (by omega)
  clear hr1 hr2
  have l1 := d1.lt
  have l2 := d2.lt
  have l3 := d3.lt
  have l4 := d4.lt
  have m1 := d1.1.1
  have m2 := d1.2.1
  have m3 := d2.1.1
  have m4 := d2.2.1
  have m5 := d3.1.1
  have m6 := d3.2.1
  have m7 := d4.1.1
  have m8 := d4.2.1
  clear c2 d1 d2 d3 d4 f2
  go_wp2_with fail
  go_cut [81] from 23 to 82 (fun p wc => p = .bool false ∧ Below w2.heap.size w2 wc)
  case first =>
    by_cases hc0 : c ≤ 0
    · have hc1 : decide (c ≤ 0) = true := decide_eq_true hc0
      by_cases hd0 : d ≤ 0
      · have hd1 : decide (d ≤ 0) = true := decide_eq_true hd0
        have hg0 : g ≤ 0 := HR.out.2 hc0 hd0
        have hg1 : decide (0 < g) = false := decide_eq_false (by omega)
        clear hg0 hc0 hd0
        have tok1 : True := trivial
        have tok2 : True := trivial
        have tok3 : True := trivial
        have tok4 : True := trivial
        have tok5 : True := trivial
        have tok6 : True := trivial
        have tok7 : True := trivial
        have tok8 : True := trivial
        have tok9 : True := trivial
        have tok10 : True := trivial
        have tok11 : True := trivial
        go_region_held3 (fun w' => ∀ (a o : Nat), a < w2.heap.size → w'.cell? ⟨a, o, none⟩ = w2.cell? ⟨a, o, none⟩) (first | assumption | (intro _ _ _; rfl))
              (first | (go_at_call 24; have _t := tok1; clear tok1; refine (Q1.out _).mono ?_; rintro e u1 ⟨rfl, d1⟩; have E1 := Lib.hid d1; have kS1 : ∀ (a o : Nat), a < w2.heap.size → u1.cell? ⟨a, o, none⟩ = w2.cell? ⟨a, o, none⟩ := fun a o h => E1.out.cell (p := ⟨a, o, none⟩) h; have hz1 : w2.heap.size ≤ u1.heap.size := E1.out.size; clear d1) | (go_at_call 30; have _t := tok2; clear tok2; refine (Q2.out _).mono ?_; rintro e u2 ⟨rfl, d2⟩; have E2 := Lib.hid (E1.out.trans (d2.mono E1.out.size)); have kS2 : ∀ (a o : Nat), a < w2.heap.size → u2.cell? ⟨a, o, none⟩ = w2.cell? ⟨a, o, none⟩ := fun a o h => E2.out.cell (p := ⟨a, o, none⟩) h; have hz2 : w2.heap.size ≤ u2.heap.size := E2.out.size; clear d2) | (go_at_call 24; have _t := tok3; clear tok3; refine (Q3.out _).mono ?_; rintro e u3 ⟨rfl, d3⟩; have E3 := Lib.hid (E2.out.trans (d3.mono E2.out.size)); have kS3 : ∀ (a o : Nat), a < w2.heap.size → u3.cell? ⟨a, o, none⟩ = w2.cell? ⟨a, o, none⟩ := fun a o h => E3.out.cell (p := ⟨a, o, none⟩) h; have hz3 : w2.heap.size ≤ u3.heap.size := E3.out.size; clear d3) | (go_at_call 22; have _t := tok4; clear tok4; refine (Q4.out _).mono ?_; rintro e u4 ⟨rfl, d4⟩; have E4 := Lib.hid (E3.out.trans (d4.mono E3.out.size)); have kS4 : ∀ (a o : Nat), a < w2.heap.size → u4.cell? ⟨a, o, none⟩ = w2.cell? ⟨a, o, none⟩ := fun a o h => E4.out.cell (p := ⟨a, o, none⟩) h; have hz4 : w2.heap.size ≤ u4.heap.size := E4.out.size; clear d4) | (go_at_call 22; have _t := tok5; clear tok5; refine (Q5.out _).mono ?_; rintro e u5 ⟨rfl, d5⟩; have E5 := Lib.hid (E4.out.trans (d5.mono E4.out.size)); have kS5 : ∀ (a o : Nat), a < w2.heap.size → u5.cell? ⟨a, o, none⟩ = w2.cell? ⟨a, o, none⟩ := fun a o h => E5.out.cell (p := ⟨a, o, none⟩) h; have hz5 : w2.heap.size ≤ u5.heap.size := E5.out.size; clear d5) | (go_at_call 24; have _t := tok6; clear tok6; refine (Q6.out _).mono ?_; rintro e u6 ⟨rfl, d6⟩; have E6 := Lib.hid (E5.out.trans (d6.mono E5.out.size)); have kS6 : ∀ (a o : Nat), a < w2.heap.size → u6.cell? ⟨a, o, none⟩ = w2.cell? ⟨a, o, none⟩ := fun a o h => E6.out.cell (p := ⟨a, o, none⟩) h; have hz6 : w2.heap.size ≤ u6.heap.size := E6.out.size; clear d6) | (go_at_call 28; have _t := tok7; clear tok7; refine (Q7.out _).mono ?_; rintro e u7 ⟨rfl, d7⟩; have E7 := Lib.hid (E6.out.trans (d7.mono E6.out.size)); have kS7 : ∀ (a o : Nat), a < w2.heap.size → u7.cell? ⟨a, o, none⟩ = w2.cell? ⟨a, o, none⟩ := fun a o h => E7.out.cell (p := ⟨a, o, none⟩) h; have hz7 : w2.heap.size ≤ u7.heap.size := E7.out.size; clear d7) | (go_at_call 28; have _t := tok8; clear tok8; refine (Q8.out _).mono ?_; rintro e u8 ⟨rfl, d8⟩; have E8 := Lib.hid (E7.out.trans (d8.mono E7.out.size)); have kS8 : ∀ (a o : Nat), a < w2.heap.size → u8.cell? ⟨a, o, none⟩ = w2.cell? ⟨a, o, none⟩ := fun a o h => E8.out.cell (p := ⟨a, o, none⟩) h; have hz8 : w2.heap.size ≤ u8.heap.size := E8.out.size; clear d8) | (go_at_call 24; have _t := tok9; clear tok9; refine (Q9.out _).mono ?_; rintro e u9 ⟨rfl, d9⟩; have E9 := Lib.hid (E8.out.trans (d9.mono E8.out.size)); have kS9 : ∀ (a o : Nat), a < w2.heap.size → u9.cell? ⟨a, o, none⟩ = w2.cell? ⟨a, o, none⟩ := fun a o h => E9.out.cell (p := ⟨a, o, none⟩) h; have hz9 : w2.heap.size ≤ u9.heap.size := E9.out.size; clear d9) | (go_at_call 24; have _t := tok10; clear tok10; refine (Q10.out _).mono ?_; rintro e u10 ⟨rfl, d10⟩; have E10 := Lib.hid (E9.out.trans (d10.mono E9.out.size)); have kS10 : ∀ (a o : Nat), a < w2.heap.size → u10.cell? ⟨a, o, none⟩ = w2.cell? ⟨a, o, none⟩ := fun a o h => E10.out.cell (p := ⟨a, o, none⟩) h; have hz10 : w2.heap.size ≤ u10.heap.size := E10.out.size; clear d10) | (go_at_call 24; have _t := tok11; clear tok11; refine (Q11.out _).mono ?_; rintro e u11 ⟨rfl, d11⟩; have E11 := Lib.hid (E10.out.trans (d11.mono E10.out.size)); have kS11 : ∀ (a o : Nat), a < w2.heap.size → u11.cell? ⟨a, o, none⟩ = w2.cell? ⟨a, o, none⟩ := fun a o h => E11.out.cell (p := ⟨a, o, none⟩) h; have hz11 : w2.heap.size ≤ u11.heap.size := E11.out.size; clear d11))
        all_goals (go_wp2_with fail; go_meet)
        all_goals exact ⟨rfl, ((Below.refl w2.heap.size w2).drew).trans E11.out⟩
      · have hd1 : decide (d ≤ 0) = false := decide_eq_false hd0
        clear hc0 hd0
        refine wp_region_noPanic ?_
        refine wp_region_held_drew (S := fun w' => ∀ (a o : Nat), a < w2.heap.size → w'.cell? ⟨a, o, none⟩ = w2.cell? ⟨a, o, none⟩) (by kernel_rfl) (fun _ _ _ => rfl) (fun hHeld => ?_)
        refine wpAnyH_take (i := 0) (v := ?vE0) (List.getElem?_toArray.trans rfl) (by kernel_rfl) (by kernel_rfl) (by kernel_rfl) (fun _ _ _ h => h) (Or.inl ⟨by rfl, ?hyE0⟩) (by assumption) ?_
        case hyE0 => (intro w9 hS9; (try dsimp only at hS9); go_simp; try with_reducible rfl)
        try simp only [Act.put, List.setIfInBounds_toArray, List.set_cons_zero, List.set_cons_succ]
        refine wpAnyH_take (i := 1) (v := ?vE1) (List.getElem?_toArray.trans rfl) (by kernel_rfl) (by kernel_rfl) (by kernel_rfl) (fun _ _ _ h => h) (Or.inl ⟨by rfl, ?hyE1⟩) (by assumption) ?_
        case hyE1 => (intro w9 hS9; (try dsimp only at hS9); go_simp; try with_reducible rfl)
        try simp only [Act.put, List.setIfInBounds_toArray, List.set_cons_zero, List.set_cons_succ]
        refine wpAnyH_take (i := 2) (v := ?vE2) (List.getElem?_toArray.trans rfl) (by kernel_rfl) (by kernel_rfl) (by kernel_rfl) (fun _ _ _ h => h) (Or.inl ⟨by rfl, ?hyE2⟩) (by assumption) ?_
        case hyE2 => (intro w9 hS9; (try dsimp only at hS9); go_simp; try with_reducible rfl)
        try simp only [Act.put, List.setIfInBounds_toArray, List.set_cons_zero, List.set_cons_succ]
        refine wpAnyH_ready (rs := [3]) (by kernel_rfl) (by simp) ?_
        refine AllReadyH.cons (List.getElem?_toArray.trans rfl) (fun K hK => ?_) AllReadyH.nil
        go_simp
        go_at_call 24
        refine (Q1.out _).mono ?_
        rintro e u1 ⟨rfl, d1⟩
        have E1 := Lib.hid (d1)
        have kS1 : ∀ (a o : Nat), a < w2.heap.size → u1.cell? ⟨a, o, none⟩ = w2.cell? ⟨a, o, none⟩ := fun a o h => E1.out.cell (p := ⟨a, o, none⟩) h
        clear d1 hHeld
        go_simp
        refine hK.out _ _ kS1 (fun hHeld => ?_)
        clear hK K
        try simp only [Act.put, List.setIfInBounds_toArray, List.set_cons_zero, List.set_cons_succ]
        refine wpAnyH_take (i := 4) (v := ?vE4) (List.getElem?_toArray.trans rfl) (by kernel_rfl) (by kernel_rfl) (by kernel_rfl) (fun _ _ _ h => h) (Or.inl ⟨by rfl, ?hyE4⟩) (by assumption) ?_
        case hyE4 => (intro w9 hS9; (try dsimp only at hS9); go_simp; try with_reducible rfl)
        try simp only [Act.put, List.setIfInBounds_toArray, List.set_cons_zero, List.set_cons_succ]
        refine wpAnyH_take (i := 5) (v := ?vE5) (List.getElem?_toArray.trans rfl) (by kernel_rfl) (by kernel_rfl) (by kernel_rfl) (fun _ _ _ h => h) (Or.inl ⟨by rfl, ?hyE5⟩) (by assumption) ?_
        case hyE5 => (intro w9 hS9; (try dsimp only at hS9); go_simp; try with_reducible rfl)
        try simp only [Act.put, List.setIfInBounds_toArray, List.set_cons_zero, List.set_cons_succ]
        refine wpAnyH_take (i := 6) (v := ?vE6) (List.getElem?_toArray.trans rfl) (by kernel_rfl) (by kernel_rfl) (by kernel_rfl) (fun _ _ _ h => h) (Or.inl ⟨by rfl, ?hyE6⟩) (by assumption) ?_
        case hyE6 => (intro w9 hS9; (try dsimp only at hS9); go_simp; try with_reducible rfl)
        try simp only [Act.put, List.setIfInBounds_toArray, List.set_cons_zero, List.set_cons_succ]
        refine wpAnyH_take (i := 7) (v := ?vE7) (List.getElem?_toArray.trans rfl) (by kernel_rfl) (by kernel_rfl) (by kernel_rfl) (fun _ _ _ h => h) (Or.inl ⟨by rfl, ?hyE7⟩) (by assumption) ?_
        case hyE7 => (intro w9 hS9; (try dsimp only at hS9); go_simp; try with_reducible rfl)
        try simp only [Act.put, List.setIfInBounds_toArray, List.set_cons_zero, List.set_cons_succ]
        refine wpAnyH_take (i := 8) (v := ?vE8) (List.getElem?_toArray.trans rfl) (by kernel_rfl) (by kernel_rfl) (by kernel_rfl) (fun _ _ _ h => h) (Or.inl ⟨by rfl, ?hyE8⟩) (by assumption) ?_
        case hyE8 => (intro w9 hS9; (try dsimp only at hS9); go_simp; try with_reducible rfl)
        try simp only [Act.put, List.setIfInBounds_toArray, List.set_cons_zero, List.set_cons_succ]
        refine wpAnyH_take (i := 9) (v := ?vE9) (List.getElem?_toArray.trans rfl) (by kernel_rfl) (by kernel_rfl) (by kernel_rfl) (fun _ _ _ h => h) (Or.inl ⟨by rfl, ?hyE9⟩) (by assumption) ?_
        case hyE9 => (intro w9 hS9; (try dsimp only at hS9); go_simp; try with_reducible rfl)
        try simp only [Act.put, List.setIfInBounds_toArray, List.set_cons_zero, List.set_cons_succ]
        refine wpAnyH_take (i := 10) (v := ?vE10) (List.getElem?_toArray.trans rfl) (by kernel_rfl) (by kernel_rfl) (by kernel_rfl) (fun _ _ _ h => h) (Or.inl ⟨by rfl, ?hyE10⟩) (by assumption) ?_
        case hyE10 => (intro w9 hS9; (try dsimp only at hS9); go_simp; try with_reducible rfl)
        try simp only [Act.put, List.setIfInBounds_toArray, List.set_cons_zero, List.set_cons_succ]
        refine wpAnyH_take (i := 11) (v := ?vE11) (List.getElem?_toArray.trans rfl) (by kernel_rfl) (by kernel_rfl) (by kernel_rfl) (fun _ _ _ h => h) (Or.inl ⟨by rfl, ?hyE11⟩) (by assumption) ?_
        case hyE11 => (intro w9 hS9; (try dsimp only at hS9); go_simp; try with_reducible rfl)
        try simp only [Act.put, List.setIfInBounds_toArray, List.set_cons_zero, List.set_cons_succ]
        refine wpAnyH_take (i := 12) (v := ?vE12) (List.getElem?_toArray.trans rfl) (by kernel_rfl) (by kernel_rfl) (by kernel_rfl) (fun _ _ _ h => h) (Or.inl ⟨by rfl, ?hyE12⟩) (by assumption) ?_
        case hyE12 => (intro w9 hS9; (try dsimp only at hS9); go_simp; try with_reducible rfl)
        try simp only [Act.put, List.setIfInBounds_toArray, List.set_cons_zero, List.set_cons_succ]
        refine wpAnyH_take (i := 13) (v := ?vE13) (List.getElem?_toArray.trans rfl) (by kernel_rfl) (by kernel_rfl) (by kernel_rfl) (fun _ _ _ h => h) (Or.inl ⟨by rfl, ?hyE13⟩) (by assumption) ?_
        case hyE13 => (intro w9 hS9; (try dsimp only at hS9); go_simp; try with_reducible rfl)
        try simp only [Act.put, List.setIfInBounds_toArray, List.set_cons_zero, List.set_cons_succ]
        refine wpAnyH_take (i := 14) (v := ?vE14) (List.getElem?_toArray.trans rfl) (by kernel_rfl) (by kernel_rfl) (by kernel_rfl) (fun _ _ _ h => h) (Or.inl ⟨by rfl, ?hyE14⟩) (by assumption) ?_
        case hyE14 => (intro w9 hS9; (try dsimp only at hS9); go_simp; try with_reducible rfl)
        try simp only [Act.put, List.setIfInBounds_toArray, List.set_cons_zero, List.set_cons_succ]
        refine wpAnyH_take (i := 15) (v := ?vE15) (List.getElem?_toArray.trans rfl) (by kernel_rfl) (by kernel_rfl) (by kernel_rfl) (fun _ _ _ h => h) (Or.inl ⟨by rfl, ?hyE15⟩) (by assumption) ?_
        case hyE15 => (intro w9 hS9; (try dsimp only at hS9); go_simp; try with_reducible rfl)
        try simp only [Act.put, List.setIfInBounds_toArray, List.set_cons_zero, List.set_cons_succ]
        refine wpAnyH_take (i := 16) (v := ?vE16) (List.getElem?_toArray.trans rfl) (by kernel_rfl) (by kernel_rfl) (by kernel_rfl) (fun _ _ _ h => h) (Or.inl ⟨by rfl, ?hyE16⟩) (by assumption) ?_
        case hyE16 => (intro w9 hS9; (try dsimp only at hS9); go_simp; try with_reducible rfl)
        try simp only [Act.put, List.setIfInBounds_toArray, List.set_cons_zero, List.set_cons_succ]
        refine wpAnyH_take (i := 17) (v := ?vE17) (List.getElem?_toArray.trans rfl) (by kernel_rfl) (by kernel_rfl) (by kernel_rfl) (fun _ _ _ h => h) (Or.inl ⟨by rfl, ?hyE17⟩) (by assumption) ?_
        case hyE17 => (intro w9 hS9; (try dsimp only at hS9); go_simp; try with_reducible rfl)
        try simp only [Act.put, List.setIfInBounds_toArray, List.set_cons_zero, List.set_cons_succ]
        refine wpAnyH_take (i := 19) (v := ?vE19) (List.getElem?_toArray.trans rfl) (by kernel_rfl) (by kernel_rfl) (by kernel_rfl) (fun _ _ _ h => h) (Or.inl ⟨by rfl, ?hyE19⟩) (by assumption) ?_
        case hyE19 => (intro w9 hS9; (try dsimp only at hS9); go_simp; try with_reducible rfl)
        try simp only [Act.put, List.setIfInBounds_toArray, List.set_cons_zero, List.set_cons_succ]
        refine wpAnyH_ready (rs := [18]) (by kernel_rfl) (by simp) ?_
        refine AllReadyH.cons (List.getElem?_toArray.trans rfl) (fun K hK => ?_) AllReadyH.nil
        go_simp
        go_at_call 30
        refine (Q2.out _).mono ?_
        rintro e u2 ⟨rfl, d2⟩
        have E2 := Lib.hid (E1.out.trans (d2.mono E1.out.size))
        have kS2 : ∀ (a o : Nat), a < w2.heap.size → u2.cell? ⟨a, o, none⟩ = w2.cell? ⟨a, o, none⟩ := fun a o h => E2.out.cell (p := ⟨a, o, none⟩) h
        clear d2 hHeld
        go_simp
        refine hK.out _ _ kS2 (fun hHeld => ?_)
        clear hK K
        try simp only [Act.put, List.setIfInBounds_toArray, List.set_cons_zero, List.set_cons_succ]
        refine wpAnyH_ready (rs := [20]) (by kernel_rfl) (by simp) ?_
        refine AllReadyH.cons (List.getElem?_toArray.trans rfl) (fun K hK => ?_) AllReadyH.nil
        go_simp
        go_at_call 24
        refine (Q3.out _).mono ?_
        rintro e u3 ⟨rfl, d3⟩
        have E3 := Lib.hid (E2.out.trans (d3.mono E2.out.size))
        have kS3 : ∀ (a o : Nat), a < w2.heap.size → u3.cell? ⟨a, o, none⟩ = w2.cell? ⟨a, o, none⟩ := fun a o h => E3.out.cell (p := ⟨a, o, none⟩) h
        clear d3 hHeld
        go_simp
        refine hK.out _ _ kS3 (fun hHeld => ?_)
        clear hK K
        try simp only [Act.put, List.setIfInBounds_toArray, List.set_cons_zero, List.set_cons_succ]
        refine wpAnyH_take (i := 21) (v := ?vE21) (List.getElem?_toArray.trans rfl) (by kernel_rfl) (by kernel_rfl) (by kernel_rfl) (fun _ _ _ h => h) (Or.inl ⟨by rfl, ?hyE21⟩) (by assumption) ?_
        case hyE21 => (intro w9 hS9; (try dsimp only at hS9); go_simp; try with_reducible rfl)
        try simp only [Act.put, List.setIfInBounds_toArray, List.set_cons_zero, List.set_cons_succ]
        refine wpAnyH_take (i := 22) (v := ?vE22) (List.getElem?_toArray.trans rfl) (by kernel_rfl) (by kernel_rfl) (by kernel_rfl) (fun _ _ _ h => h) (Or.inl ⟨by rfl, ?hyE22⟩) (by assumption) ?_
        case hyE22 => (intro w9 hS9; (try dsimp only at hS9); go_simp; try with_reducible rfl)
        try simp only [Act.put, List.setIfInBounds_toArray, List.set_cons_zero, List.set_cons_succ]
        refine wpAnyH_take (i := 23) (v := ?vE23) (List.getElem?_toArray.trans rfl) (by kernel_rfl) (by kernel_rfl) (by kernel_rfl) (fun _ _ _ h => h) (Or.inl ⟨by rfl, ?hyE23⟩) (by assumption) ?_
        case hyE23 => (intro w9 hS9; (try dsimp only at hS9); go_simp; try with_reducible rfl)
        try simp only [Act.put, List.setIfInBounds_toArray, List.set_cons_zero, List.set_cons_succ]
        refine wpAnyH_take (i := 24) (v := ?vE24) (List.getElem?_toArray.trans rfl) (by kernel_rfl) (by kernel_rfl) (by kernel_rfl) (fun _ _ _ h => h) (Or.inl ⟨by rfl, ?hyE24⟩) (by assumption) ?_
        case hyE24 => (intro w9 hS9; (try dsimp only at hS9); go_simp; try with_reducible rfl)
        try simp only [Act.put, List.setIfInBounds_toArray, List.set_cons_zero, List.set_cons_succ]
        refine wpAnyH_take (i := 25) (v := ?vE25) (List.getElem?_toArray.trans rfl) (by kernel_rfl) (by kernel_rfl) (by kernel_rfl) (fun _ _ _ h => h) (Or.inl ⟨by rfl, ?hyE25⟩) (by assumption) ?_
        case hyE25 => (intro w9 hS9; (try dsimp only at hS9); go_simp; try with_reducible rfl)
        try simp only [Act.put, List.setIfInBounds_toArray, List.set_cons_zero, List.set_cons_succ]
        refine wpAnyH_take (i := 27) (v := ?vE27) (List.getElem?_toArray.trans rfl) (by kernel_rfl) (by kernel_rfl) (by kernel_rfl) (fun _ _ _ h => h) (Or.inl ⟨by rfl, ?hyE27⟩) (by assumption) ?_
        case hyE27 => (intro w9 hS9; (try dsimp only at hS9); go_simp; try with_reducible rfl)
        try simp only [Act.put, List.setIfInBounds_toArray, List.set_cons_zero, List.set_cons_succ]
        refine wpAnyH_ready (rs := [26]) (by kernel_rfl) (by simp) ?_
        refine AllReadyH.cons (List.getElem?_toArray.trans rfl) (fun K hK => ?_) AllReadyH.nil
        go_simp
        go_at_call 22
        refine (Q4.out _).mono ?_
        rintro e u4 ⟨rfl, d4⟩
        have E4 := Lib.hid (E3.out.trans (d4.mono E3.out.size))
        have kS4 : ∀ (a o : Nat), a < w2.heap.size → u4.cell? ⟨a, o, none⟩ = w2.cell? ⟨a, o, none⟩ := fun a o h => E4.out.cell (p := ⟨a, o, none⟩) h
        clear d4 hHeld
        go_simp
        refine hK.out _ _ kS4 (fun hHeld => ?_)
        clear hK K
        try simp only [Act.put, List.setIfInBounds_toArray, List.set_cons_zero, List.set_cons_succ]
        refine wpAnyH_ready (rs := [28]) (by kernel_rfl) (by simp) ?_
        refine AllReadyH.cons (List.getElem?_toArray.trans rfl) (fun K hK => ?_) AllReadyH.nil
        go_simp
        go_at_call 22
        refine (Q5.out _).mono ?_
        rintro e u5 ⟨rfl, d5⟩
        have E5 := Lib.hid (E4.out.trans (d5.mono E4.out.size))
        have kS5 : ∀ (a o : Nat), a < w2.heap.size → u5.cell? ⟨a, o, none⟩ = w2.cell? ⟨a, o, none⟩ := fun a o h => E5.out.cell (p := ⟨a, o, none⟩) h
        clear d5 hHeld
        go_simp
        refine hK.out _ _ kS5 (fun hHeld => ?_)
        clear hK K
        try simp only [Act.put, List.setIfInBounds_toArray, List.set_cons_zero, List.set_cons_succ]
        refine wpAnyH_ready (rs := [29]) (by kernel_rfl) (by simp) ?_
        refine AllReadyH.cons (List.getElem?_toArray.trans rfl) (fun K hK => ?_) AllReadyH.nil
        go_simp
        go_at_call 24
        refine (Q6.out _).mono ?_
        rintro e u6 ⟨rfl, d6⟩
        have E6 := Lib.hid (E5.out.trans (d6.mono E5.out.size))
        have kS6 : ∀ (a o : Nat), a < w2.heap.size → u6.cell? ⟨a, o, none⟩ = w2.cell? ⟨a, o, none⟩ := fun a o h => E6.out.cell (p := ⟨a, o, none⟩) h
        clear d6 hHeld
        go_simp
        refine hK.out _ _ kS6 (fun hHeld => ?_)
        clear hK K
        try simp only [Act.put, List.setIfInBounds_toArray, List.set_cons_zero, List.set_cons_succ]
        refine wpAnyH_take (i := 30) (v := ?vE30) (List.getElem?_toArray.trans rfl) (by kernel_rfl) (by kernel_rfl) (by kernel_rfl) (fun _ _ _ h => h) (Or.inl ⟨by rfl, ?hyE30⟩) (by assumption) ?_
        case hyE30 => (intro w9 hS9; (try dsimp only at hS9); go_simp; try with_reducible rfl)
        try simp only [Act.put, List.setIfInBounds_toArray, List.set_cons_zero, List.set_cons_succ]
        refine wpAnyH_take (i := 31) (v := ?vE31) (List.getElem?_toArray.trans rfl) (by kernel_rfl) (by kernel_rfl) (by kernel_rfl) (fun _ _ _ h => h) (Or.inl ⟨by rfl, ?hyE31⟩) (by assumption) ?_
        case hyE31 => (intro w9 hS9; (try dsimp only at hS9); go_simp; try with_reducible rfl)
        try simp only [Act.put, List.setIfInBounds_toArray, List.set_cons_zero, List.set_cons_succ]
        refine wpAnyH_take (i := 32) (v := ?vE32) (List.getElem?_toArray.trans rfl) (by kernel_rfl) (by kernel_rfl) (by kernel_rfl) (fun _ _ _ h => h) (Or.inl ⟨by rfl, ?hyE32⟩) (by assumption) ?_
        case hyE32 => (intro w9 hS9; (try dsimp only at hS9); go_simp; try with_reducible rfl)
        try simp only [Act.put, List.setIfInBounds_toArray, List.set_cons_zero, List.set_cons_succ]
        refine wpAnyH_take (i := 33) (v := ?vE33) (List.getElem?_toArray.trans rfl) (by kernel_rfl) (by kernel_rfl) (by kernel_rfl) (fun _ _ _ h => h) (Or.inl ⟨by rfl, ?hyE33⟩) (by assumption) ?_
        case hyE33 => (intro w9 hS9; (try dsimp only at hS9); go_simp; try with_reducible rfl)
        try simp only [Act.put, List.setIfInBounds_toArray, List.set_cons_zero, List.set_cons_succ]
        refine wpAnyH_take (i := 34) (v := ?vE34) (List.getElem?_toArray.trans rfl) (by kernel_rfl) (by kernel_rfl) (by kernel_rfl) (fun _ _ _ h => h) (Or.inl ⟨by rfl, ?hyE34⟩) (by assumption) ?_
        case hyE34 => (intro w9 hS9; (try dsimp only at hS9); go_simp; try with_reducible rfl)
        try simp only [Act.put, List.setIfInBounds_toArray, List.set_cons_zero, List.set_cons_succ]
        refine wpAnyH_take (i := 35) (v := ?vE35) (List.getElem?_toArray.trans rfl) (by kernel_rfl) (by kernel_rfl) (by kernel_rfl) (fun _ _ _ h => h) (Or.inl ⟨by rfl, ?hyE35⟩) (by assumption) ?_
        case hyE35 => (intro w9 hS9; (try dsimp only at hS9); go_simp; try with_reducible rfl)
        try simp only [Act.put, List.setIfInBounds_toArray, List.set_cons_zero, List.set_cons_succ]
        refine wpAnyH_take (i := 37) (v := ?vE37) (List.getElem?_toArray.trans rfl) (by kernel_rfl) (by kernel_rfl) (by kernel_rfl) (fun _ _ _ h => h) (Or.inl ⟨by rfl, ?hyE37⟩) (by assumption) ?_
        case hyE37 => (intro w9 hS9; (try dsimp only at hS9); go_simp; try with_reducible rfl)
        try simp only [Act.put, List.setIfInBounds_toArray, List.set_cons_zero, List.set_cons_succ]
        refine wpAnyH_take (i := 38) (v := ?vE38) (List.getElem?_toArray.trans rfl) (by kernel_rfl) (by kernel_rfl) (by kernel_rfl) (fun _ _ _ h => h) (Or.inl ⟨by rfl, ?hyE38⟩) (by assumption) ?_
        case hyE38 => (intro w9 hS9; (try dsimp only at hS9); go_simp; try with_reducible rfl)
        try simp only [Act.put, List.setIfInBounds_toArray, List.set_cons_zero, List.set_cons_succ]
        refine wpAnyH_ready (rs := [36]) (by kernel_rfl) (by simp) ?_
        refine AllReadyH.cons (List.getElem?_toArray.trans rfl) (fun K hK => ?_) AllReadyH.nil
        go_simp
        go_at_call 28
        refine (Q7.out _).mono ?_
        rintro e u7 ⟨rfl, d7⟩
        have E7 := Lib.hid (E6.out.trans (d7.mono E6.out.size))
        have kS7 : ∀ (a o : Nat), a < w2.heap.size → u7.cell? ⟨a, o, none⟩ = w2.cell? ⟨a, o, none⟩ := fun a o h => E7.out.cell (p := ⟨a, o, none⟩) h
        clear d7 hHeld
        go_simp
        refine hK.out _ _ kS7 (fun hHeld => ?_)
        clear hK K
        try simp only [Act.put, List.setIfInBounds_toArray, List.set_cons_zero, List.set_cons_succ]
        refine wpAnyH_ready (rs := [39]) (by kernel_rfl) (by simp) ?_
        refine AllReadyH.cons (List.getElem?_toArray.trans rfl) (fun K hK => ?_) AllReadyH.nil
        go_simp
        go_at_call 28
        refine (Q8.out _).mono ?_
        rintro e u8 ⟨rfl, d8⟩
        have E8 := Lib.hid (E7.out.trans (d8.mono E7.out.size))
        have kS8 : ∀ (a o : Nat), a < w2.heap.size → u8.cell? ⟨a, o, none⟩ = w2.cell? ⟨a, o, none⟩ := fun a o h => E8.out.cell (p := ⟨a, o, none⟩) h
        clear d8 hHeld
        go_simp
        refine hK.out _ _ kS8 (fun hHeld => ?_)
        clear hK K
        try simp only [Act.put, List.setIfInBounds_toArray, List.set_cons_zero, List.set_cons_succ]
        refine wpAnyH_ready (rs := [40]) (by kernel_rfl) (by simp) ?_
        refine AllReadyH.cons (List.getElem?_toArray.trans rfl) (fun K hK => ?_) AllReadyH.nil
        go_simp
        go_at_call 24
        refine (Q9.out _).mono ?_
        rintro e u9 ⟨rfl, d9⟩
        have E9 := Lib.hid (E8.out.trans (d9.mono E8.out.size))
        have kS9 : ∀ (a o : Nat), a < w2.heap.size → u9.cell? ⟨a, o, none⟩ = w2.cell? ⟨a, o, none⟩ := fun a o h => E9.out.cell (p := ⟨a, o, none⟩) h
        clear d9 hHeld
        go_simp
        refine hK.out _ _ kS9 (fun hHeld => ?_)
        clear hK K
        try simp only [Act.put, List.setIfInBounds_toArray, List.set_cons_zero, List.set_cons_succ]
        refine wpAnyH_take (i := 41) (v := ?vE41) (List.getElem?_toArray.trans rfl) (by kernel_rfl) (by kernel_rfl) (by kernel_rfl) (fun _ _ _ h => h) (Or.inl ⟨by rfl, ?hyE41⟩) (by assumption) ?_
        case hyE41 => (intro w9 hS9; (try dsimp only at hS9); go_simp; try with_reducible rfl)
        try simp only [Act.put, List.setIfInBounds_toArray, List.set_cons_zero, List.set_cons_succ]
        refine wpAnyH_take (i := 42) (v := ?vE42) (List.getElem?_toArray.trans rfl) (by kernel_rfl) (by kernel_rfl) (by kernel_rfl) (fun _ _ _ h => h) (Or.inl ⟨by rfl, ?hyE42⟩) (by assumption) ?_
        case hyE42 => (intro w9 hS9; (try dsimp only at hS9); go_simp; try with_reducible rfl)
        try simp only [Act.put, List.setIfInBounds_toArray, List.set_cons_zero, List.set_cons_succ]
        refine wpAnyH_take (i := 43) (v := ?vE43) (List.getElem?_toArray.trans rfl) (by kernel_rfl) (by kernel_rfl) (by kernel_rfl) (fun _ _ _ h => h) (Or.inl ⟨by rfl, ?hyE43⟩) (by assumption) ?_
        case hyE43 => (intro w9 hS9; (try dsimp only at hS9); go_simp; try with_reducible rfl)
        try simp only [Act.put, List.setIfInBounds_toArray, List.set_cons_zero, List.set_cons_succ]
        refine wpAnyH_take (i := 44) (v := ?vE44) (List.getElem?_toArray.trans rfl) (by kernel_rfl) (by kernel_rfl) (by kernel_rfl) (fun _ _ _ h => h) (Or.inl ⟨by rfl, ?hyE44⟩) (by assumption) ?_
        case hyE44 => (intro w9 hS9; (try dsimp only at hS9); go_simp; try with_reducible rfl)
        try simp only [Act.put, List.setIfInBounds_toArray, List.set_cons_zero, List.set_cons_succ]
        refine wpAnyH_take (i := 45) (v := ?vE45) (List.getElem?_toArray.trans rfl) (by kernel_rfl) (by kernel_rfl) (by kernel_rfl) (fun _ _ _ h => h) (Or.inl ⟨by rfl, ?hyE45⟩) (by assumption) ?_
        case hyE45 => (intro w9 hS9; (try dsimp only at hS9); go_simp; try with_reducible rfl)
        try simp only [Act.put, List.setIfInBounds_toArray, List.set_cons_zero, List.set_cons_succ]
        refine wpAnyH_take (i := 46) (v := ?vE46) (List.getElem?_toArray.trans rfl) (by kernel_rfl) (by kernel_rfl) (by kernel_rfl) (fun _ _ _ h => h) (Or.inl ⟨by rfl, ?hyE46⟩) (by assumption) ?_
        case hyE46 => (intro w9 hS9; (try dsimp only at hS9); go_simp; try with_reducible rfl)
        try simp only [Act.put, List.setIfInBounds_toArray, List.set_cons_zero, List.set_cons_succ]
        refine wpAnyH_take (i := 47) (v := ?vE47) (List.getElem?_toArray.trans rfl) (by kernel_rfl) (by kernel_rfl) (by kernel_rfl) (fun _ _ _ h => h) (Or.inl ⟨by rfl, ?hyE47⟩) (by assumption) ?_
        case hyE47 => (intro w9 hS9; (try dsimp only at hS9); go_simp; try with_reducible rfl)
        try simp only [Act.put, List.setIfInBounds_toArray, List.set_cons_zero, List.set_cons_succ]
        refine wpAnyH_take (i := 48) (v := ?vE48) (List.getElem?_toArray.trans rfl) (by kernel_rfl) (by kernel_rfl) (by kernel_rfl) (fun _ _ _ h => h) (Or.inl ⟨by rfl, ?hyE48⟩) (by assumption) ?_
        case hyE48 => (intro w9 hS9; (try dsimp only at hS9); go_simp; try with_reducible rfl)
        try simp only [Act.put, List.setIfInBounds_toArray, List.set_cons_zero, List.set_cons_succ]
        refine wpAnyH_ready (rs := [49]) (by kernel_rfl) (by simp) ?_
        refine AllReadyH.cons (List.getElem?_toArray.trans rfl) (fun K hK => ?_) AllReadyH.nil
        go_simp
        go_at_call 24
        refine (Q10.out _).mono ?_
        rintro e u10 ⟨rfl, d10⟩
        have E10 := Lib.hid (E9.out.trans (d10.mono E9.out.size))
        have kS10 : ∀ (a o : Nat), a < w2.heap.size → u10.cell? ⟨a, o, none⟩ = w2.cell? ⟨a, o, none⟩ := fun a o h => E10.out.cell (p := ⟨a, o, none⟩) h
        clear d10 hHeld
        go_simp
        refine hK.out _ _ kS10 (fun hHeld => ?_)
        clear hK K
        try simp only [Act.put, List.setIfInBounds_toArray, List.set_cons_zero, List.set_cons_succ]
        refine wpAnyH_take (i := 50) (v := ?vE50) (List.getElem?_toArray.trans rfl) (by kernel_rfl) (by kernel_rfl) (by kernel_rfl) (fun _ _ _ h => h) (Or.inl ⟨by rfl, ?hyE50⟩) (by assumption) ?_
        case hyE50 => (intro w9 hS9; (try dsimp only at hS9); go_simp; try with_reducible rfl)
        try simp only [Act.put, List.setIfInBounds_toArray, List.set_cons_zero, List.set_cons_succ]
        refine wpAnyH_take (i := 51) (v := ?vE51) (List.getElem?_toArray.trans rfl) (by kernel_rfl) (by kernel_rfl) (by kernel_rfl) (fun _ _ _ h => h) (Or.inl ⟨by rfl, ?hyE51⟩) (by assumption) ?_
        case hyE51 => (intro w9 hS9; (try dsimp only at hS9); go_simp; try with_reducible rfl)
        try simp only [Act.put, List.setIfInBounds_toArray, List.set_cons_zero, List.set_cons_succ]
        refine wpAnyH_take (i := 52) (v := ?vE52) (List.getElem?_toArray.trans rfl) (by kernel_rfl) (by kernel_rfl) (by kernel_rfl) (fun _ _ _ h => h) (Or.inl ⟨by rfl, ?hyE52⟩) (by assumption) ?_
        case hyE52 => (intro w9 hS9; (try dsimp only at hS9); go_simp; try with_reducible rfl)
        try simp only [Act.put, List.setIfInBounds_toArray, List.set_cons_zero, List.set_cons_succ]
        refine wpAnyH_take (i := 53) (v := undef) (List.getElem?_toArray.trans rfl) (by kernel_rfl) (by kernel_rfl) (by kernel_rfl) (fun _ _ _ h => h) (Or.inr ⟨by rfl, rfl⟩) (by assumption) ?_
        try simp only [Act.put, List.setIfInBounds_toArray, List.set_cons_zero, List.set_cons_succ]
        refine wpAnyH_take (i := 54) (v := undef) (List.getElem?_toArray.trans rfl) (by kernel_rfl) (by kernel_rfl) (by kernel_rfl) (fun _ _ _ h => h) (Or.inr ⟨by rfl, rfl⟩) (by assumption) ?_
        try simp only [Act.put, List.setIfInBounds_toArray, List.set_cons_zero, List.set_cons_succ]
        refine wpAnyH_take (i := 55) (v := undef) (List.getElem?_toArray.trans rfl) (by kernel_rfl) (by kernel_rfl) (by kernel_rfl) (fun _ _ _ h => h) (Or.inr ⟨by rfl, rfl⟩) (by assumption) ?_
        try simp only [Act.put, List.setIfInBounds_toArray, List.set_cons_zero, List.set_cons_succ]
        refine wpAnyH_take (i := 56) (v := undef) (List.getElem?_toArray.trans rfl) (by kernel_rfl) (by kernel_rfl) (by kernel_rfl) (fun _ _ _ h => h) (Or.inr ⟨by rfl, rfl⟩) (by assumption) ?_
        try simp only [Act.put, List.setIfInBounds_toArray, List.set_cons_zero, List.set_cons_succ]
        refine wpAnyH_take (i := 57) (v := ?vE57) (List.getElem?_toArray.trans rfl) (by kernel_rfl) (by kernel_rfl) (by kernel_rfl) (fun _ _ _ h => h) (Or.inl ⟨by rfl, ?hyE57⟩) (by assumption) ?_
        case hyE57 => (intro w9 hS9; (try dsimp only at hS9); go_simp; try with_reducible rfl)
        try simp only [Act.put, List.setIfInBounds_toArray, List.set_cons_zero, List.set_cons_succ]
        refine wpAnyH_take (i := 58) (v := ?vE58) (List.getElem?_toArray.trans rfl) (by kernel_rfl) (by kernel_rfl) (by kernel_rfl) (fun _ _ _ h => h) (Or.inl ⟨by rfl, ?hyE58⟩) (by assumption) ?_
        case hyE58 => (intro w9 hS9; (try dsimp only at hS9); go_simp; try with_reducible rfl)
        try simp only [Act.put, List.setIfInBounds_toArray, List.set_cons_zero, List.set_cons_succ]
        refine wpAnyH_done (by kernel_rfl) ?_ _
        refine NoPanic.normal ?_
        go_wp2_with fail
        go_meet
        exact ⟨rfl, ((Below.refl w2.heap.size w2).drew).trans E10.out⟩
    · have hc1 : decide (c ≤ 0) = false := decide_eq_false hc0
      clear hc0
      refine wp_region_noPanic ?_
      refine wp_region_held_drew (S := fun w' => ∀ (a o : Nat), a < w2.heap.size → w'.cell? ⟨a, o, none⟩ = w2.cell? ⟨a, o, none⟩) (by kernel_rfl) (fun _ _ _ => rfl) (fun hHeld => ?_)
      refine wpAnyH_take (i := 0) (v := ?vF0) (List.getElem?_toArray.trans rfl) (by kernel_rfl) (by kernel_rfl) (by kernel_rfl) (fun _ _ _ h => h) (Or.inl ⟨by rfl, ?hyF0⟩) (by assumption) ?_
      case hyF0 => (intro w9 hS9; (try dsimp only at hS9); go_simp; try with_reducible rfl)
      try simp only [Act.put, List.setIfInBounds_toArray, List.set_cons_zero, List.set_cons_succ]
      refine wpAnyH_take (i := 1) (v := ?vF1) (List.getElem?_toArray.trans rfl) (by kernel_rfl) (by kernel_rfl) (by kernel_rfl) (fun _ _ _ h => h) (Or.inl ⟨by rfl, ?hyF1⟩) (by assumption) ?_
      case hyF1 => (intro w9 hS9; (try dsimp only at hS9); go_simp; try with_reducible rfl)
      try simp only [Act.put, List.setIfInBounds_toArray, List.set_cons_zero, List.set_cons_succ]
      refine wpAnyH_take (i := 2) (v := ?vF2) (List.getElem?_toArray.trans rfl) (by kernel_rfl) (by kernel_rfl) (by kernel_rfl) (fun _ _ _ h => h) (Or.inl ⟨by rfl, ?hyF2⟩) (by assumption) ?_
      case hyF2 => (intro w9 hS9; (try dsimp only at hS9); go_simp; try with_reducible rfl)
      try simp only [Act.put, List.setIfInBounds_toArray, List.set_cons_zero, List.set_cons_succ]
      refine wpAnyH_ready (rs := [3]) (by kernel_rfl) (by simp) ?_
      refine AllReadyH.cons (List.getElem?_toArray.trans rfl) (fun K hK => ?_) AllReadyH.nil
      go_simp
      go_at_call 24
      refine (Q1.out _).mono ?_
      rintro e u1 ⟨rfl, d1⟩
      have E1 := Lib.hid (d1)
      have kS1 : ∀ (a o : Nat), a < w2.heap.size → u1.cell? ⟨a, o, none⟩ = w2.cell? ⟨a, o, none⟩ := fun a o h => E1.out.cell (p := ⟨a, o, none⟩) h
      clear d1 hHeld
      go_simp
      refine hK.out _ _ kS1 (fun hHeld => ?_)
      clear hK K
      try simp only [Act.put, List.setIfInBounds_toArray, List.set_cons_zero, List.set_cons_succ]
      refine wpAnyH_take (i := 4) (v := ?vF4) (List.getElem?_toArray.trans rfl) (by kernel_rfl) (by kernel_rfl) (by kernel_rfl) (fun _ _ _ h => h) (Or.inl ⟨by rfl, ?hyF4⟩) (by assumption) ?_
      case hyF4 => (intro w9 hS9; (try dsimp only at hS9); go_simp; try with_reducible rfl)
      try simp only [Act.put, List.setIfInBounds_toArray, List.set_cons_zero, List.set_cons_succ]
      refine wpAnyH_take (i := 5) (v := ?vF5) (List.getElem?_toArray.trans rfl) (by kernel_rfl) (by kernel_rfl) (by kernel_rfl) (fun _ _ _ h => h) (Or.inl ⟨by rfl, ?hyF5⟩) (by assumption) ?_
      case hyF5 => (intro w9 hS9; (try dsimp only at hS9); go_simp; try with_reducible rfl)
      try simp only [Act.put, List.setIfInBounds_toArray, List.set_cons_zero, List.set_cons_succ]
      refine wpAnyH_take (i := 6) (v := ?vF6) (List.getElem?_toArray.trans rfl) (by kernel_rfl) (by kernel_rfl) (by kernel_rfl) (fun _ _ _ h => h) (Or.inl ⟨by rfl, ?hyF6⟩) (by assumption) ?_
      case hyF6 => (intro w9 hS9; (try dsimp only at hS9); go_simp; try with_reducible rfl)
      try simp only [Act.put, List.setIfInBounds_toArray, List.set_cons_zero, List.set_cons_succ]
      refine wpAnyH_take (i := 7) (v := ?vF7) (List.getElem?_toArray.trans rfl) (by kernel_rfl) (by kernel_rfl) (by kernel_rfl) (fun _ _ _ h => h) (Or.inl ⟨by rfl, ?hyF7⟩) (by assumption) ?_
      case hyF7 => (intro w9 hS9; (try dsimp only at hS9); go_simp; try with_reducible rfl)
      try simp only [Act.put, List.setIfInBounds_toArray, List.set_cons_zero, List.set_cons_succ]
      refine wpAnyH_take (i := 8) (v := ?vF8) (List.getElem?_toArray.trans rfl) (by kernel_rfl) (by kernel_rfl) (by kernel_rfl) (fun _ _ _ h => h) (Or.inl ⟨by rfl, ?hyF8⟩) (by assumption) ?_
      case hyF8 => (intro w9 hS9; (try dsimp only at hS9); go_simp; try with_reducible rfl)
      try simp only [Act.put, List.setIfInBounds_toArray, List.set_cons_zero, List.set_cons_succ]
      refine wpAnyH_take (i := 9) (v := ?vF9) (List.getElem?_toArray.trans rfl) (by kernel_rfl) (by kernel_rfl) (by kernel_rfl) (fun _ _ _ h => h) (Or.inl ⟨by rfl, ?hyF9⟩) (by assumption) ?_
      case hyF9 => (intro w9 hS9; (try dsimp only at hS9); go_simp; try with_reducible rfl)
      try simp only [Act.put, List.setIfInBounds_toArray, List.set_cons_zero, List.set_cons_succ]
      refine wpAnyH_take (i := 10) (v := ?vF10) (List.getElem?_toArray.trans rfl) (by kernel_rfl) (by kernel_rfl) (by kernel_rfl) (fun _ _ _ h => h) (Or.inl ⟨by rfl, ?hyF10⟩) (by assumption) ?_
      case hyF10 => (intro w9 hS9; (try dsimp only at hS9); go_simp; try with_reducible rfl)
      try simp only [Act.put, List.setIfInBounds_toArray, List.set_cons_zero, List.set_cons_succ]
      refine wpAnyH_take (i := 11) (v := ?vF11) (List.getElem?_toArray.trans rfl) (by kernel_rfl) (by kernel_rfl) (by kernel_rfl) (fun _ _ _ h => h) (Or.inl ⟨by rfl, ?hyF11⟩) (by assumption) ?_
      case hyF11 => (intro w9 hS9; (try dsimp only at hS9); go_simp; try with_reducible rfl)
      try simp only [Act.put, List.setIfInBounds_toArray, List.set_cons_zero, List.set_cons_succ]
      refine wpAnyH_take (i := 12) (v := ?vF12) (List.getElem?_toArray.trans rfl) (by kernel_rfl) (by kernel_rfl) (by kernel_rfl) (fun _ _ _ h => h) (Or.inl ⟨by rfl, ?hyF12⟩) (by assumption) ?_
      case hyF12 => (intro w9 hS9; (try dsimp only at hS9); go_simp; try with_reducible rfl)
      try simp only [Act.put, List.setIfInBounds_toArray, List.set_cons_zero, List.set_cons_succ]
      refine wpAnyH_take (i := 13) (v := ?vF13) (List.getElem?_toArray.trans rfl) (by kernel_rfl) (by kernel_rfl) (by kernel_rfl) (fun _ _ _ h => h) (Or.inl ⟨by rfl, ?hyF13⟩) (by assumption) ?_
      case hyF13 => (intro w9 hS9; (try dsimp only at hS9); go_simp; try with_reducible rfl)
      try simp only [Act.put, List.setIfInBounds_toArray, List.set_cons_zero, List.set_cons_succ]
      refine wpAnyH_take (i := 14) (v := ?vF14) (List.getElem?_toArray.trans rfl) (by kernel_rfl) (by kernel_rfl) (by kernel_rfl) (fun _ _ _ h => h) (Or.inl ⟨by rfl, ?hyF14⟩) (by assumption) ?_
      case hyF14 => (intro w9 hS9; (try dsimp only at hS9); go_simp; try with_reducible rfl)
      try simp only [Act.put, List.setIfInBounds_toArray, List.set_cons_zero, List.set_cons_succ]
      refine wpAnyH_take (i := 15) (v := ?vF15) (List.getElem?_toArray.trans rfl) (by kernel_rfl) (by kernel_rfl) (by kernel_rfl) (fun _ _ _ h => h) (Or.inl ⟨by rfl, ?hyF15⟩) (by assumption) ?_
      case hyF15 => (intro w9 hS9; (try dsimp only at hS9); go_simp; try with_reducible rfl)
      try simp only [Act.put, List.setIfInBounds_toArray, List.set_cons_zero, List.set_cons_succ]
      refine wpAnyH_take (i := 16) (v := ?vF16) (List.getElem?_toArray.trans rfl) (by kernel_rfl) (by kernel_rfl) (by kernel_rfl) (fun _ _ _ h => h) (Or.inl ⟨by rfl, ?hyF16⟩) (by assumption) ?_
      case hyF16 => (intro w9 hS9; (try dsimp only at hS9); go_simp; try with_reducible rfl)
      try simp only [Act.put, List.setIfInBounds_toArray, List.set_cons_zero, List.set_cons_succ]
      refine wpAnyH_take (i := 17) (v := ?vF17) (List.getElem?_toArray.trans rfl) (by kernel_rfl) (by kernel_rfl) (by kernel_rfl) (fun _ _ _ h => h) (Or.inl ⟨by rfl, ?hyF17⟩) (by assumption) ?_
      case hyF17 => (intro w9 hS9; (try dsimp only at hS9); go_simp; try with_reducible rfl)
      try simp only [Act.put, List.setIfInBounds_toArray, List.set_cons_zero, List.set_cons_succ]
      refine wpAnyH_take (i := 19) (v := ?vF19) (List.getElem?_toArray.trans rfl) (by kernel_rfl) (by kernel_rfl) (by kernel_rfl) (fun _ _ _ h => h) (Or.inl ⟨by rfl, ?hyF19⟩) (by assumption) ?_
      case hyF19 => (intro w9 hS9; (try dsimp only at hS9); go_simp; try with_reducible rfl)
      try simp only [Act.put, List.setIfInBounds_toArray, List.set_cons_zero, List.set_cons_succ]
      refine wpAnyH_ready (rs := [18]) (by kernel_rfl) (by simp) ?_
      refine AllReadyH.cons (List.getElem?_toArray.trans rfl) (fun K hK => ?_) AllReadyH.nil
      go_simp
      go_at_call 30
      refine (Q2.out _).mono ?_
      rintro e u2 ⟨rfl, d2⟩
      have E2 := Lib.hid (E1.out.trans (d2.mono E1.out.size))
      have kS2 : ∀ (a o : Nat), a < w2.heap.size → u2.cell? ⟨a, o, none⟩ = w2.cell? ⟨a, o, none⟩ := fun a o h => E2.out.cell (p := ⟨a, o, none⟩) h
      clear d2 hHeld
      go_simp
      refine hK.out _ _ kS2 (fun hHeld => ?_)
      clear hK K
      try simp only [Act.put, List.setIfInBounds_toArray, List.set_cons_zero, List.set_cons_succ]
      refine wpAnyH_ready (rs := [20]) (by kernel_rfl) (by simp) ?_
      refine AllReadyH.cons (List.getElem?_toArray.trans rfl) (fun K hK => ?_) AllReadyH.nil
      go_simp
      go_at_call 24
      refine (Q3.out _).mono ?_
      rintro e u3 ⟨rfl, d3⟩
      have E3 := Lib.hid (E2.out.trans (d3.mono E2.out.size))
      have kS3 : ∀ (a o : Nat), a < w2.heap.size → u3.cell? ⟨a, o, none⟩ = w2.cell? ⟨a, o, none⟩ := fun a o h => E3.out.cell (p := ⟨a, o, none⟩) h
      clear d3 hHeld
      go_simp
      refine hK.out _ _ kS3 (fun hHeld => ?_)
      clear hK K
      try simp only [Act.put, List.setIfInBounds_toArray, List.set_cons_zero, List.set_cons_succ]
      refine wpAnyH_take (i := 21) (v := ?vF21) (List.getElem?_toArray.trans rfl) (by kernel_rfl) (by kernel_rfl) (by kernel_rfl) (fun _ _ _ h => h) (Or.inl ⟨by rfl, ?hyF21⟩) (by assumption) ?_
      case hyF21 => (intro w9 hS9; (try dsimp only at hS9); go_simp; try with_reducible rfl)
      try simp only [Act.put, List.setIfInBounds_toArray, List.set_cons_zero, List.set_cons_succ]
      refine wpAnyH_take (i := 22) (v := ?vF22) (List.getElem?_toArray.trans rfl) (by kernel_rfl) (by kernel_rfl) (by kernel_rfl) (fun _ _ _ h => h) (Or.inl ⟨by rfl, ?hyF22⟩) (by assumption) ?_
      case hyF22 => (intro w9 hS9; (try dsimp only at hS9); go_simp; try with_reducible rfl)
      try simp only [Act.put, List.setIfInBounds_toArray, List.set_cons_zero, List.set_cons_succ]
      refine wpAnyH_take (i := 23) (v := ?vF23) (List.getElem?_toArray.trans rfl) (by kernel_rfl) (by kernel_rfl) (by kernel_rfl) (fun _ _ _ h => h) (Or.inl ⟨by rfl, ?hyF23⟩) (by assumption) ?_
      case hyF23 => (intro w9 hS9; (try dsimp only at hS9); go_simp; try with_reducible rfl)
      try simp only [Act.put, List.setIfInBounds_toArray, List.set_cons_zero, List.set_cons_succ]
      refine wpAnyH_take (i := 24) (v := ?vF24) (List.getElem?_toArray.trans rfl) (by kernel_rfl) (by kernel_rfl) (by kernel_rfl) (fun _ _ _ h => h) (Or.inl ⟨by rfl, ?hyF24⟩) (by assumption) ?_
      case hyF24 => (intro w9 hS9; (try dsimp only at hS9); go_simp; try with_reducible rfl)
      try simp only [Act.put, List.setIfInBounds_toArray, List.set_cons_zero, List.set_cons_succ]
      refine wpAnyH_take (i := 25) (v := ?vF25) (List.getElem?_toArray.trans rfl) (by kernel_rfl) (by kernel_rfl) (by kernel_rfl) (fun _ _ _ h => h) (Or.inl ⟨by rfl, ?hyF25⟩) (by assumption) ?_
      case hyF25 => (intro w9 hS9; (try dsimp only at hS9); go_simp; try with_reducible rfl)
      try simp only [Act.put, List.setIfInBounds_toArray, List.set_cons_zero, List.set_cons_succ]
      refine wpAnyH_take (i := 27) (v := ?vF27) (List.getElem?_toArray.trans rfl) (by kernel_rfl) (by kernel_rfl) (by kernel_rfl) (fun _ _ _ h => h) (Or.inl ⟨by rfl, ?hyF27⟩) (by assumption) ?_
      case hyF27 => (intro w9 hS9; (try dsimp only at hS9); go_simp; try with_reducible rfl)
      try simp only [Act.put, List.setIfInBounds_toArray, List.set_cons_zero, List.set_cons_succ]
      refine wpAnyH_ready (rs := [26]) (by kernel_rfl) (by simp) ?_
      refine AllReadyH.cons (List.getElem?_toArray.trans rfl) (fun K hK => ?_) AllReadyH.nil
      go_simp
      go_at_call 22
      refine (Q4.out _).mono ?_
      rintro e u4 ⟨rfl, d4⟩
      have E4 := Lib.hid (E3.out.trans (d4.mono E3.out.size))
      have kS4 : ∀ (a o : Nat), a < w2.heap.size → u4.cell? ⟨a, o, none⟩ = w2.cell? ⟨a, o, none⟩ := fun a o h => E4.out.cell (p := ⟨a, o, none⟩) h
      clear d4 hHeld
      go_simp
      refine hK.out _ _ kS4 (fun hHeld => ?_)
      clear hK K
      try simp only [Act.put, List.setIfInBounds_toArray, List.set_cons_zero, List.set_cons_succ]
      refine wpAnyH_ready (rs := [28]) (by kernel_rfl) (by simp) ?_
      refine AllReadyH.cons (List.getElem?_toArray.trans rfl) (fun K hK => ?_) AllReadyH.nil
      go_simp
      go_at_call 22
      refine (Q5.out _).mono ?_
      rintro e u5 ⟨rfl, d5⟩
      have E5 := Lib.hid (E4.out.trans (d5.mono E4.out.size))
      have kS5 : ∀ (a o : Nat), a < w2.heap.size → u5.cell? ⟨a, o, none⟩ = w2.cell? ⟨a, o, none⟩ := fun a o h => E5.out.cell (p := ⟨a, o, none⟩) h
      clear d5 hHeld
      go_simp
      refine hK.out _ _ kS5 (fun hHeld => ?_)
      clear hK K
      try simp only [Act.put, List.setIfInBounds_toArray, List.set_cons_zero, List.set_cons_succ]
      refine wpAnyH_ready (rs := [29]) (by kernel_rfl) (by simp) ?_
      refine AllReadyH.cons (List.getElem?_toArray.trans rfl) (fun K hK => ?_) AllReadyH.nil
      go_simp
      go_at_call 24
      refine (Q6.out _).mono ?_
      rintro e u6 ⟨rfl, d6⟩
      have E6 := Lib.hid (E5.out.trans (d6.mono E5.out.size))
      have kS6 : ∀ (a o : Nat), a < w2.heap.size → u6.cell? ⟨a, o, none⟩ = w2.cell? ⟨a, o, none⟩ := fun a o h => E6.out.cell (p := ⟨a, o, none⟩) h
      clear d6 hHeld
      go_simp
      refine hK.out _ _ kS6 (fun hHeld => ?_)
      clear hK K
      try simp only [Act.put, List.setIfInBounds_toArray, List.set_cons_zero, List.set_cons_succ]
      refine wpAnyH_take (i := 30) (v := ?vF30) (List.getElem?_toArray.trans rfl) (by kernel_rfl) (by kernel_rfl) (by kernel_rfl) (fun _ _ _ h => h) (Or.inl ⟨by rfl, ?hyF30⟩) (by assumption) ?_
      case hyF30 => (intro w9 hS9; (try dsimp only at hS9); go_simp; try with_reducible rfl)
      try simp only [Act.put, List.setIfInBounds_toArray, List.set_cons_zero, List.set_cons_succ]
      refine wpAnyH_take (i := 31) (v := ?vF31) (List.getElem?_toArray.trans rfl) (by kernel_rfl) (by kernel_rfl) (by kernel_rfl) (fun _ _ _ h => h) (Or.inl ⟨by rfl, ?hyF31⟩) (by assumption) ?_
      case hyF31 => (intro w9 hS9; (try dsimp only at hS9); go_simp; try with_reducible rfl)
      try simp only [Act.put, List.setIfInBounds_toArray, List.set_cons_zero, List.set_cons_succ]
      refine wpAnyH_take (i := 32) (v := ?vF32) (List.getElem?_toArray.trans rfl) (by kernel_rfl) (by kernel_rfl) (by kernel_rfl) (fun _ _ _ h => h) (Or.inl ⟨by rfl, ?hyF32⟩) (by assumption) ?_
      case hyF32 => (intro w9 hS9; (try dsimp only at hS9); go_simp; try with_reducible rfl)
      try simp only [Act.put, List.setIfInBounds_toArray, List.set_cons_zero, List.set_cons_succ]
      refine wpAnyH_take (i := 33) (v := ?vF33) (List.getElem?_toArray.trans rfl) (by kernel_rfl) (by kernel_rfl) (by kernel_rfl) (fun _ _ _ h => h) (Or.inl ⟨by rfl, ?hyF33⟩) (by assumption) ?_
      case hyF33 => (intro w9 hS9; (try dsimp only at hS9); go_simp; try with_reducible rfl)
      try simp only [Act.put, List.setIfInBounds_toArray, List.set_cons_zero, List.set_cons_succ]
      refine wpAnyH_take (i := 34) (v := ?vF34) (List.getElem?_toArray.trans rfl) (by kernel_rfl) (by kernel_rfl) (by kernel_rfl) (fun _ _ _ h => h) (Or.inl ⟨by rfl, ?hyF34⟩) (by assumption) ?_
      case hyF34 => (intro w9 hS9; (try dsimp only at hS9); go_simp; try with_reducible rfl)
      try simp only [Act.put, List.setIfInBounds_toArray, List.set_cons_zero, List.set_cons_succ]
      refine wpAnyH_take (i := 35) (v := ?vF35) (List.getElem?_toArray.trans rfl) (by kernel_rfl) (by kernel_rfl) (by kernel_rfl) (fun _ _ _ h => h) (Or.inl ⟨by rfl, ?hyF35⟩) (by assumption) ?_
      case hyF35 => (intro w9 hS9; (try dsimp only at hS9); go_simp; try with_reducible rfl)
      try simp only [Act.put, List.setIfInBounds_toArray, List.set_cons_zero, List.set_cons_succ]
      refine wpAnyH_take (i := 37) (v := ?vF37) (List.getElem?_toArray.trans rfl) (by kernel_rfl) (by kernel_rfl) (by kernel_rfl) (fun _ _ _ h => h) (Or.inl ⟨by rfl, ?hyF37⟩) (by assumption) ?_
      case hyF37 => (intro w9 hS9; (try dsimp only at hS9); go_simp; try with_reducible rfl)
      try simp only [Act.put, List.setIfInBounds_toArray, List.set_cons_zero, List.set_cons_succ]
      refine wpAnyH_take (i := 38) (v := ?vF38) (List.getElem?_toArray.trans rfl) (by kernel_rfl) (by kernel_rfl) (by kernel_rfl) (fun _ _ _ h => h) (Or.inl ⟨by rfl, ?hyF38⟩) (by assumption) ?_
      case hyF38 => (intro w9 hS9; (try dsimp only at hS9); go_simp; try with_reducible rfl)
      try simp only [Act.put, List.setIfInBounds_toArray, List.set_cons_zero, List.set_cons_succ]
      refine wpAnyH_ready (rs := [36]) (by kernel_rfl) (by simp) ?_
      refine AllReadyH.cons (List.getElem?_toArray.trans rfl) (fun K hK => ?_) AllReadyH.nil
      go_simp
      go_at_call 28
      refine (Q7.out _).mono ?_
      rintro e u7 ⟨rfl, d7⟩
      have E7 := Lib.hid (E6.out.trans (d7.mono E6.out.size))
      have kS7 : ∀ (a o : Nat), a < w2.heap.size → u7.cell? ⟨a, o, none⟩ = w2.cell? ⟨a, o, none⟩ := fun a o h => E7.out.cell (p := ⟨a, o, none⟩) h
      clear d7 hHeld
      go_simp
      refine hK.out _ _ kS7 (fun hHeld => ?_)
      clear hK K
      try simp only [Act.put, List.setIfInBounds_toArray, List.set_cons_zero, List.set_cons_succ]
      refine wpAnyH_ready (rs := [39]) (by kernel_rfl) (by simp) ?_
      refine AllReadyH.cons (List.getElem?_toArray.trans rfl) (fun K hK => ?_) AllReadyH.nil
      go_simp
      go_at_call 28
      refine (Q8.out _).mono ?_
      rintro e u8 ⟨rfl, d8⟩
      have E8 := Lib.hid (E7.out.trans (d8.mono E7.out.size))
      have kS8 : ∀ (a o : Nat), a < w2.heap.size → u8.cell? ⟨a, o, none⟩ = w2.cell? ⟨a, o, none⟩ := fun a o h => E8.out.cell (p := ⟨a, o, none⟩) h
      clear d8 hHeld
      go_simp
      refine hK.out _ _ kS8 (fun hHeld => ?_)
      clear hK K
      try simp only [Act.put, List.setIfInBounds_toArray, List.set_cons_zero, List.set_cons_succ]
      refine wpAnyH_ready (rs := [40]) (by kernel_rfl) (by simp) ?_
      refine AllReadyH.cons (List.getElem?_toArray.trans rfl) (fun K hK => ?_) AllReadyH.nil
      go_simp
      go_at_call 24
      refine (Q9.out _).mono ?_
      rintro e u9 ⟨rfl, d9⟩
      have E9 := Lib.hid (E8.out.trans (d9.mono E8.out.size))
      have kS9 : ∀ (a o : Nat), a < w2.heap.size → u9.cell? ⟨a, o, none⟩ = w2.cell? ⟨a, o, none⟩ := fun a o h => E9.out.cell (p := ⟨a, o, none⟩) h
      clear d9 hHeld
      go_simp
      refine hK.out _ _ kS9 (fun hHeld => ?_)
      clear hK K
      try simp only [Act.put, List.setIfInBounds_toArray, List.set_cons_zero, List.set_cons_succ]
      refine wpAnyH_take (i := 41) (v := ?vF41) (List.getElem?_toArray.trans rfl) (by kernel_rfl) (by kernel_rfl) (by kernel_rfl) (fun _ _ _ h => h) (Or.inl ⟨by rfl, ?hyF41⟩) (by assumption) ?_
      case hyF41 => (intro w9 hS9; (try dsimp only at hS9); go_simp; try with_reducible rfl)
      try simp only [Act.put, List.setIfInBounds_toArray, List.set_cons_zero, List.set_cons_succ]
      refine wpAnyH_take (i := 42) (v := ?vF42) (List.getElem?_toArray.trans rfl) (by kernel_rfl) (by kernel_rfl) (by kernel_rfl) (fun _ _ _ h => h) (Or.inl ⟨by rfl, ?hyF42⟩) (by assumption) ?_
      case hyF42 => (intro w9 hS9; (try dsimp only at hS9); go_simp; try with_reducible rfl)
      try simp only [Act.put, List.setIfInBounds_toArray, List.set_cons_zero, List.set_cons_succ]
      refine wpAnyH_take (i := 43) (v := ?vF43) (List.getElem?_toArray.trans rfl) (by kernel_rfl) (by kernel_rfl) (by kernel_rfl) (fun _ _ _ h => h) (Or.inl ⟨by rfl, ?hyF43⟩) (by assumption) ?_
      case hyF43 => (intro w9 hS9; (try dsimp only at hS9); go_simp; try with_reducible rfl)
      try simp only [Act.put, List.setIfInBounds_toArray, List.set_cons_zero, List.set_cons_succ]
      refine wpAnyH_take (i := 44) (v := ?vF44) (List.getElem?_toArray.trans rfl) (by kernel_rfl) (by kernel_rfl) (by kernel_rfl) (fun _ _ _ h => h) (Or.inl ⟨by rfl, ?hyF44⟩) (by assumption) ?_
      case hyF44 => (intro w9 hS9; (try dsimp only at hS9); go_simp; try with_reducible rfl)
      try simp only [Act.put, List.setIfInBounds_toArray, List.set_cons_zero, List.set_cons_succ]
      refine wpAnyH_take (i := 45) (v := ?vF45) (List.getElem?_toArray.trans rfl) (by kernel_rfl) (by kernel_rfl) (by kernel_rfl) (fun _ _ _ h => h) (Or.inl ⟨by rfl, ?hyF45⟩) (by assumption) ?_
      case hyF45 => (intro w9 hS9; (try dsimp only at hS9); go_simp; try with_reducible rfl)
      try simp only [Act.put, List.setIfInBounds_toArray, List.set_cons_zero, List.set_cons_succ]
      refine wpAnyH_take (i := 46) (v := ?vF46) (List.getElem?_toArray.trans rfl) (by kernel_rfl) (by kernel_rfl) (by kernel_rfl) (fun _ _ _ h => h) (Or.inl ⟨by rfl, ?hyF46⟩) (by assumption) ?_
      case hyF46 => (intro w9 hS9; (try dsimp only at hS9); go_simp; try with_reducible rfl)
      try simp only [Act.put, List.setIfInBounds_toArray, List.set_cons_zero, List.set_cons_succ]
      refine wpAnyH_take (i := 47) (v := undef) (List.getElem?_toArray.trans rfl) (by kernel_rfl) (by kernel_rfl) (by kernel_rfl) (fun _ _ _ h => h) (Or.inr ⟨by rfl, rfl⟩) (by assumption) ?_
      try simp only [Act.put, List.setIfInBounds_toArray, List.set_cons_zero, List.set_cons_succ]
      refine wpAnyH_take (i := 48) (v := undef) (List.getElem?_toArray.trans rfl) (by kernel_rfl) (by kernel_rfl) (by kernel_rfl) (fun _ _ _ h => h) (Or.inr ⟨by rfl, rfl⟩) (by assumption) ?_
      try simp only [Act.put, List.setIfInBounds_toArray, List.set_cons_zero, List.set_cons_succ]
      refine wpAnyH_take (i := 49) (v := undef) (List.getElem?_toArray.trans rfl) (by kernel_rfl) (by kernel_rfl) (by kernel_rfl) (fun _ _ _ h => h) (Or.inr ⟨by rfl, rfl⟩) (by assumption) ?_
      try simp only [Act.put, List.setIfInBounds_toArray, List.set_cons_zero, List.set_cons_succ]
      refine wpAnyH_take (i := 50) (v := undef) (List.getElem?_toArray.trans rfl) (by kernel_rfl) (by kernel_rfl) (by kernel_rfl) (fun _ _ _ h => h) (Or.inr ⟨by rfl, rfl⟩) (by assumption) ?_
      try simp only [Act.put, List.setIfInBounds_toArray, List.set_cons_zero, List.set_cons_succ]
      refine wpAnyH_take (i := 51) (v := ?vF51) (List.getElem?_toArray.trans rfl) (by kernel_rfl) (by kernel_rfl) (by kernel_rfl) (fun _ _ _ h => h) (Or.inl ⟨by rfl, ?hyF51⟩) (by assumption) ?_
      case hyF51 => (intro w9 hS9; (try dsimp only at hS9); go_simp; try with_reducible rfl)
      try simp only [Act.put, List.setIfInBounds_toArray, List.set_cons_zero, List.set_cons_succ]
      refine wpAnyH_take (i := 52) (v := ?vF52) (List.getElem?_toArray.trans rfl) (by kernel_rfl) (by kernel_rfl) (by kernel_rfl) (fun _ _ _ h => h) (Or.inl ⟨by rfl, ?hyF52⟩) (by assumption) ?_
      case hyF52 => (intro w9 hS9; (try dsimp only at hS9); go_simp; try with_reducible rfl)
      try simp only [Act.put, List.setIfInBounds_toArray, List.set_cons_zero, List.set_cons_succ]
      refine wpAnyH_take (i := 53) (v := undef) (List.getElem?_toArray.trans rfl) (by kernel_rfl) (by kernel_rfl) (by kernel_rfl) (fun _ _ _ h => h) (Or.inr ⟨by rfl, rfl⟩) (by assumption) ?_
      try simp only [Act.put, List.setIfInBounds_toArray, List.set_cons_zero, List.set_cons_succ]
      refine wpAnyH_take (i := 54) (v := undef) (List.getElem?_toArray.trans rfl) (by kernel_rfl) (by kernel_rfl) (by kernel_rfl) (fun _ _ _ h => h) (Or.inr ⟨by rfl, rfl⟩) (by assumption) ?_
      try simp only [Act.put, List.setIfInBounds_toArray, List.set_cons_zero, List.set_cons_succ]
      refine wpAnyH_take (i := 55) (v := undef) (List.getElem?_toArray.trans rfl) (by kernel_rfl) (by kernel_rfl) (by kernel_rfl) (fun _ _ _ h => h) (Or.inr ⟨by rfl, rfl⟩) (by assumption) ?_
      try simp only [Act.put, List.setIfInBounds_toArray, List.set_cons_zero, List.set_cons_succ]
      refine wpAnyH_take (i := 56) (v := undef) (List.getElem?_toArray.trans rfl) (by kernel_rfl) (by kernel_rfl) (by kernel_rfl) (fun _ _ _ h => h) (Or.inr ⟨by rfl, rfl⟩) (by assumption) ?_
      try simp only [Act.put, List.setIfInBounds_toArray, List.set_cons_zero, List.set_cons_succ]
      refine wpAnyH_take (i := 57) (v := ?vF57) (List.getElem?_toArray.trans rfl) (by kernel_rfl) (by kernel_rfl) (by kernel_rfl) (fun _ _ _ h => h) (Or.inl ⟨by rfl, ?hyF57⟩) (by assumption) ?_
      case hyF57 => (intro w9 hS9; (try dsimp only at hS9); go_simp; try with_reducible rfl)
      try simp only [Act.put, List.setIfInBounds_toArray, List.set_cons_zero, List.set_cons_succ]
      refine wpAnyH_take (i := 58) (v := ?vF58) (List.getElem?_toArray.trans rfl) (by kernel_rfl) (by kernel_rfl) (by kernel_rfl) (fun _ _ _ h => h) (Or.inl ⟨by rfl, ?hyF58⟩) (by assumption) ?_
      case hyF58 => (intro w9 hS9; (try dsimp only at hS9); go_simp; try with_reducible rfl)
      try simp only [Act.put, List.setIfInBounds_toArray, List.set_cons_zero, List.set_cons_succ]
      refine wpAnyH_done (by kernel_rfl) ?_ _
      refine NoPanic.normal ?_
      go_wp2_with fail
      go_meet
      exact ⟨rfl, ((Below.refl w2.heap.size w2).drew).trans E9.out⟩
  case rest =>
    obtain ⟨rfl, bC⟩ := hcut
    obtain ⟨f2, d1, d2, d3, d4⟩ := HX.out
    have a1 := d1.below bC d1.lt
    have a4 := d4.below bC d4.lt
    have fC := f2.trans (bC.mono f2.size)
    have HC := Lib.hid (And.intro fC (And.intro a1 a4))
    clear d1 d2 d3 d4 f2 bC l1 l2 l3 l4 m1 m2 m3 m4 m5 m6 m7 m8 hr3 hr4 w0 w9 Q0 Q1 Q2 Q3 Q4 Q6 Q7 Q8 Q9 Q10 Q11
    have l1 := a1.lt
    have l4 := a4.lt
    have m1 := a1.1.1
    have m2 := a1.2.1
    have m7 := a4.1.1
    have m8 := a4.2.1
    clear a1 a4 fC
    go_upto_region 8 with fail
    obtain ⟨G, hG⟩ : ∃ G, wc.heap.size = G := ⟨_, rfl⟩
    obtain ⟨W8, h8⟩ : ∃ V, wc.alloc (Obj.cells #[Value.bool na, Value.string sa] 23) = V := ⟨_, rfl⟩
    have tS : Two G (.bool na) (.string sa) W8 := by rw [← h8, ← hG]; exact two_new wc _ _ _
    have b8 : Below G wc W8 := by rw [← h8, ← hG]; exact (Below.refl _ _).alloc (Nat.le_refl _) _
    have f8 : Below w.heap.size w W8 := HC.out.1.trans (b8.mono (by rw [← hG]; exact HC.out.1.size))
    have a1 := HC.out.2.1.below b8 (by rw [← hG]; exact l1)
    have a4 := HC.out.2.2.below b8 (by rw [← hG]; exact l4)
    have lG1 : w.heap.size < G := by rw [← hG]; exact l1
    have lG4 : B < G := by rw [← hG]; exact l4
    rw [h8, hG]
    clear h8 hG b8 l1 l4 m1 m2 m7 m8
    have l1 := a1.lt
    have l4 := a4.lt
    have lS := tS.lt
    have m1 := a1.1.1
    have m2 := a1.2.1
    have m7 := a4.1.1
    have m8 := a4.2.1
    have HD := Lib.hid (And.intro f8 (And.intro a1 (And.intro a4 tS)))
    clear f8 a1 a4 tS
    obtain ⟨e0, he0⟩ : ∃ e0, cmpZ x 0 = e0 := ⟨_, rfl⟩
    have v0 : Val false ⟨#[]⟩ 0 := ⟨rfl, Nat.zero_le _⟩
    have K0 := Lib.hid (cmp_val HVV.out.1 v0 e0 he0)
    have hs0 : e0 < 0 ↔ x < 0 := by rw [← he0]; unfold cmpZ; split <;> (try split) <;> omega
    have HE0 := Lib.hid hs0
    clear v0 he0 hs0
    go_wp2_with fail
    refine (K0.out _).mono ?_
    rintro e w9 ⟨rfl, c9⟩
    have f9 := HD.out.1.trans (c9.mono HD.out.1.size)
    have a9 := HD.out.2.1.below c9 l1
    have a49 := HD.out.2.2.1.below c9 l4
    have s9 := HD.out.2.2.2.below c9 lS
    clear l1 l4 lS m1 m2 m7 m8
    have l1 := a9.lt
    have l4 := a49.lt
    have lS := s9.lt
    have m1 := a9.1.1
    have m2 := a9.2.1
    have m7 := a49.1.1
    have m8 := a49.2.1
    have HD9 := Lib.hid (And.intro f9 (And.intro a9 (And.intro a49 s9)))
    clear f9 a9 a49 s9 c9
    go_upto_if 86 with fail
    go_cut [] from 86 to 89 (fun wd => ∃ (bz : Bool) (sz : ByteArray), Val bz sz (x.natAbs : Int) ∧ Two G (.bool bz) (.string sz) wd ∧ Below G w9 wd)
    case first =>
      by_cases hx0 : e0 < 0
      · have HX0 := Lib.hid (HE0.out.1 hx0)
        go_wp2_with fail
        refine (Q5.out _).mono ?_
        rintro e w10 ⟨rfl, c10⟩
        have s10 := HD9.out.2.2.2.below c10 lS
        have b10 : Below G w9 w10 := c10.mono (by omega)
        have HS10 := Lib.hid s10
        have HB10 := Lib.hid b10
        have hls10 := s10.lt
        obtain ⟨⟨g1, g2⟩, g3, g4⟩ := s10
        clear c10 b10
        go_wp2_with fail
        go_meet
        exact ⟨bX, sX, (show -x = (x.natAbs : Int) by have := HX0.out; omega) ▸ HVX.out, two_set HS10.out _ _, (HB10.out.setCell (Nat.le_refl _) _).setCell (Nat.le_refl _) _⟩
      · have HX0 := Lib.hid (show ¬ x < 0 from fun h => hx0 (HE0.out.2 h))
        go_wp2_with fail
        go_meet
        exact ⟨na, sa, (show x = (x.natAbs : Int) by have := HX0.out; omega) ▸ HVV.out.1, HD9.out.2.2.2, Below.refl _ _⟩
    case rest =>
      obtain ⟨bz, sz, vS, tS, bD⟩ := hcut
      have zx := HVV.out.2.2.2.2.1
      obtain ⟨n, hn⟩ : ∃ n, x.natAbs = n := ⟨_, rfl⟩
      have hn60 : n < 256 ^ 60 := by rw [← hn]; exact zx
      obtain ⟨k, hk⟩ : ∃ k, bl n = k := ⟨_, rfl⟩
      have hk480 : k ≤ 480 := by rw [← hk]; exact bl_le256 hn60
      have hbe : beVal sa.data.toList = n := by rw [← ival_abs na sa, HVV.out.1.val, hn]
      have hbi := fun W => bits_any na sa W (by have := HVV.out.1.small; omega)
      rw [hbe, hk] at hbi
      rw [hn] at vS
      have KB := Lib.hid hbi
      have HK := Lib.hid (And.intro hk hk480)
      have HVS := Lib.hid vS
      have a1 := HD9.out.2.1.below bD lG1
      have a4 := HD9.out.2.2.1.below bD lG4
      have f1 := HD9.out.1.trans (bD.mono (by omega))
      have hk0 : ¬ (k : Int) < 0 := by omega
      have hk1 : ¬ (480 : Int) < (k : Int) := by omega
      have HD2 := Lib.hid (And.intro f1 (And.intro a4 tS))
      clear l1 l4 lS m1 m2 m7 m8 zx hn60 hk hbe hbi bD vS hk480 hn
      have l1 := a1.lt
      have l4 := a4.lt
      have lS := tS.lt
      have m1 := a1.1.1
      have m2 := a1.2.1
      clear f1 a1 a4 tS
      go_wp2_with fail
      refine (KB.out _).mono ?_
      rintro e w11 ⟨rfl, c11⟩
      have a4 := HD2.out.2.1.below c11 l4
      have tS := HD2.out.2.2.below c11 lS
      have f11 := HD2.out.1.trans (c11.mono HD2.out.1.size)
      clear l1 l4 lS m1 m2 c11
      have l4 := a4.lt
      have lS := tS.lt
      have m7 := a4.1.1
      have m8 := a4.2.1
      have HD3 := Lib.hid (And.intro f11 (And.intro a4 tS))
      clear f11 a4 tS
      go_wp2_with fail
      obtain ⟨b1, s1, mO⟩ := nam_ex 1
      have O1 := Lib.hid (fun W => of_lit 1 b1 s1 mO.sign mO.mag (by omega) (by omega) W)
      have HMO := Lib.hid mO
      clear mO
      go_cut [11, 12] from 97 to 99 (fun p q wc => ∃ B1 B2 : Nat, p = .pointer (some ⟨B1, 0, none⟩) ∧ q = .pointer (some ⟨B2, 0, none⟩) ∧ Two B1 (.bool b1) (.string s1) wc ∧ Two B2 (.bool false) (.string ⟨#[]⟩) wc ∧ (B1 ≠ B2 ∧ w11.heap.size ≤ B1 ∧ w11.heap.size ≤ B2) ∧ Below w11.heap.size w11 wc)
      case first =>
        have D0 := Lib.hid ((Below.refl w11.heap.size w11).drew)
        have hz0 : w11.heap.size ≤ w11.drew.heap.size := Nat.le_refl _
        have tok1 : True := trivial
        go_region_held3 (fun w' => ∀ (a o : Nat), a < w11.heap.size → w'.cell? ⟨a, o, none⟩ = w11.cell? ⟨a, o, none⟩) (repeat' (first | with_reducible assumption | with_reducible exact keepS_refl _ | with_reducible (refine keepS_drew ?_) | with_reducible (refine keepS_alloc ?_ ?_) | with_reducible (refine keepS_set ?_ ?_) | go_size))
          (first | (go_at_call 18; have _t := tok1; clear tok1; refine (O1.out _).mono ?_; rintro e u1 ⟨rfl, d1⟩; have D1 := Lib.hid (show Below w11.heap.size w11 u1 from Below.trans (by have Dp := D0.out; go_grown) (d1.mono (by go_size))); have kS1 : ∀ (a o : Nat), a < w11.heap.size → u1.cell? ⟨a, o, none⟩ = w11.cell? ⟨a, o, none⟩ := fun a o h => D1.out.cell (p := ⟨a, o, none⟩) h; have hz1 : w11.heap.size ≤ u1.heap.size := D1.out.size; (try (have q10 := carry_two d1 w11.heap.size (by first | omega | (simp only [World.size_alloc, World.size_drew]; omega)); obtain ⟨⟨f100, f101⟩, ⟨g100, g101⟩, t10, n10, s10⟩ := q10)); (try (have q11 := carry_two d1 (w11.heap.size + 1) (by first | omega | (simp only [World.size_alloc, World.size_drew]; omega)); obtain ⟨⟨f110, f111⟩, ⟨g110, g111⟩, t11, n11, s11⟩ := q11)); clear d1))
        all_goals (go_wp2_with fail; go_meet)
        all_goals exact ⟨_, _, rfl, rfl, ⟨⟨(by first | (simp; done) | (simp [go_sem, *]; done)), (by first | (simp; done) | (simp [go_sem, *]; done))⟩, ⟨(by first | (simp; done) | (simp [go_sem, *]; done)), (by first | (simp; done) | (simp [go_sem, *]; done))⟩⟩, ⟨⟨(by first | (simp; done) | (simp [go_sem, *]; done)), (by first | (simp; done) | (simp [go_sem, *]; done))⟩, ⟨(by first | (simp; done) | (simp [go_sem, *]; done)), (by first | (simp; done) | (simp [go_sem, *]; done))⟩⟩, ⟨by go_size, by go_size, by go_size⟩, (by have Dp := D1.out; go_grown)⟩
      case rest =>
        obtain ⟨B1, B2, rfl, rfl, t1, t2, ⟨hne, hl1, hl2⟩, bE⟩ := hcut
        have tS := HD3.out.2.2.below bE lS
        have fE := HD3.out.1.trans (bE.mono HD3.out.1.size)
        have hG1 : G ≠ B1 := by omega
        have hG2 : G ≠ B2 := by omega
        have hw0 := HD3.out.1.size
        have hw1 : w.heap.size ≤ B1 := by omega
        have hw2 : w.heap.size ≤ B2 := by omega
        have HT0 := Lib.hid (And.intro t1 (And.intro t2 (And.intro tS fE)))
        have HNE := Lib.hid (And.intro hne (And.intro hG1 (And.intro hG2 (And.intro hw1 hw2))))
        clear t1 t2 tS fE m7 m8 l4 lS hne hl1 hl2 hG1 hG2 hw0 hw1 hw2 bE hk0 hk1
        go_wp2_with fail
        go_loopw [100] (fun i wr => ∃ j : Nat, j ≤ k ∧ i = .int .i64 j ∧ (∃ b s, Nam b s ((2 ^ j : Nat) : Int) ∧ Two B1 (.bool b) (.string s) wr) ∧ (∃ b s, Nam b s (hf j) ∧ Two B2 (.bool b) (.string s) wr) ∧ Two G (.bool bz) (.string sz) wr ∧ Below w.heap.size w wr) (fun i _ => k - (intOf i).toNat)
        case atStart => exact ⟨0, Nat.zero_le _, rfl, ⟨b1, s1, HMO.out, HT0.out.1⟩, ⟨false, ⟨#[]⟩, ⟨rfl, rfl⟩, HT0.out.2.1⟩, HT0.out.2.2.1, HT0.out.2.2.2⟩
        case round =>
          obtain ⟨j, hj, rfl, ⟨bp, sp, mp, tp⟩, ⟨bh, sh, mh, th⟩, tg, fr⟩ := hrel
          obtain ⟨hne, hG1, hG2, hw1, hw2⟩ := HNE.out
          have zp : Sz 61 ((2 ^ j : Nat) : Int) := sz_pow (by have := HK.out.2; omega)
          have vp := mp.val zp (by omega)
          by_cases hlt : j < k
          · obtain ⟨bn, sn, mn⟩ := nam_ex ((2 ^ (j + 1) : Nat) : Int)
            have KA := Lib.hid (add_val vp vp (by rw [Nat.pow_succ]; omega) mn)
            have mh' : Nam bp sp (hf (j + 1)) := by rw [hf_succ]; exact mp
            have HM := Lib.hid (And.intro mn mh')
            have HTP := Lib.hid (And.intro tp (And.intro th (And.intro tg fr)))
            have HN2 := Lib.hid (And.intro hne (And.intro hG1 (And.intro hG2 (And.intro hw1 hw2))))
            have hji : (j : Int) < (k : Int) := by omega
            clear zp vp mn mh' mp mh fr hne hG1 hG2 hw1 hw2
            have l1 := tp.lt
            have l2 := th.lt
            obtain ⟨⟨p1, p2⟩, p3, p4⟩ := tp
            obtain ⟨⟨q1, q2⟩, q3, q4⟩ := th
            clear tg
            go_upto_region 17 with fail
            obtain ⟨W2, h2⟩ : ∃ V, (wr.setCell ⟨B2, 0, none⟩ (.bool bp)).setCell ⟨B2, 1, none⟩ (.string sp) = V := ⟨_, rfl⟩
            have tp2 : Two B1 (.bool bp) (.string sp) W2 := by rw [← h2]; exact (HTP.out.1.other HN2.out.1).other HN2.out.1
            have th2 : Two B2 (.bool bp) (.string sp) W2 := by rw [← h2]; exact two_set HTP.out.2.1 _ _
            have tg2 : Two G (.bool bz) (.string sz) W2 := by rw [← h2]; exact (HTP.out.2.2.1.other HN2.out.2.2.1).other HN2.out.2.2.1
            have fr2 : Below w.heap.size w W2 := by rw [← h2]; exact (HTP.out.2.2.2.setCell HN2.out.2.2.2.2 _).setCell HN2.out.2.2.2.2 _
            rw [h2]
            clear p1 p2 p3 p4 q1 q2 q3 q4 l1 l2 h2
            have l1 := tp2.lt
            have l2 := th2.lt
            have l3 := tg2.lt
            have p1 := tp2.1.1
            have p2 := tp2.2.1
            have HT2 := Lib.hid (And.intro tp2 (And.intro th2 (And.intro tg2 fr2)))
            clear tp2 th2 tg2 fr2
            go_wp2_with fail
            refine (KA.out _).mono ?_
            rintro e w3 ⟨rfl, c3⟩
            have tp3 := HT2.out.1.below c3 l1
            have th3 := HT2.out.2.1.below c3 l2
            have tg3 := HT2.out.2.2.1.below c3 l3
            have fr3 := HT2.out.2.2.2.trans (c3.mono HT2.out.2.2.2.size)
            have HT3 := Lib.hid (And.intro tp3 (And.intro th3 (And.intro tg3 fr3)))
            clear p1 p2 l1 l2 l3 th3 tg3 fr3 c3
            have l1 := tp3.lt
            obtain ⟨⟨p1, p2⟩, p3, p4⟩ := tp3
            go_wp2_with fail
            go_roundw
            case rel => exact ⟨j + 1, by omega, by go_num, ⟨bn, sn, HM.out.1, two_set HT3.out.1 _ _⟩, ⟨bp, sp, HM.out.2, (HT3.out.2.1.other (Ne.symm HN2.out.1)).other (Ne.symm HN2.out.1)⟩, (HT3.out.2.2.1.other HN2.out.2.1).other HN2.out.2.1, (HT3.out.2.2.2.setCell HN2.out.2.2.2.1 _).setCell HN2.out.2.2.2.1 _⟩
            case measure => simp [intOf]; omega
          · have hjk : j = k := by omega
            have hsz : hf j ≤ (n : Int) := by rw [hjk, ← HK.out.1]; exact hf_le n
            have hs2 : (n : Int) < ((2 ^ j : Nat) : Int) := by rw [hjk, ← HK.out.1]; have := lt_two_bl n; omega
            have hn0 : 0 ≤ hf j := hf_nonneg j
            have zh : Sz 61 (hf j) := by unfold Sz at *; omega
            obtain ⟨e1, he1⟩ : ∃ e1, cmpZ (n : Int) (hf j) = e1 := ⟨_, rfl⟩
            have h0e : 0 ≤ e1 := by rw [← he1]; unfold cmpZ; rw [if_neg (by omega)]; split <;> omega
            have K1 := Lib.hid (cmp_val HVS.out (mh.val zh (by omega)) e1 he1)
            have K2 := Lib.hid (cmp_val HVS.out vp (-1) (cmpZ_lt hs2))
            have HT2 := Lib.hid (And.intro tp (And.intro tg fr))
            have hji : ¬ (j : Int) < (k : Int) := by omega
            clear zp vp zh hn0 hsz hs2 he1 mp mh hne hG1 hG2 hw1 hw2 fr hjk
            have l1 := tp.lt
            have l2 := th.lt
            have l3 := tg.lt
            have p1 := th.1.1
            have p2 := th.2.1
            have p3 := tg.1.1
            have p4 := tg.2.1
            clear tp th tg
            go_wp2_with fail
            refine (K1.out _).mono ?_
            rintro e w3 ⟨rfl, c3⟩
            have tp3 := HT2.out.1.below c3 l1
            have tg3 := HT2.out.2.1.below c3 l3
            have fr3 := HT2.out.2.2.trans (c3.mono HT2.out.2.2.size)
            have HF3 := Lib.hid fr3
            clear p1 p2 p3 p4 l1 l2 l3 fr3 c3
            have p1 := tp3.1.1
            have p2 := tp3.2.1
            have p3 := tg3.1.1
            have p4 := tg3.2.1
            clear tp3 tg3
            go_wp2_with fail
            refine (K2.out _).mono ?_
            rintro e w4 ⟨rfl, c4⟩
            have fr4 := HF3.out.trans (c4.mono HF3.out.size)
            have HF4 := Lib.hid fr4
            have haw := awake_any w4 (tab_of HT.out fr4)
            have HAW := Lib.hid haw
            clear fr4 haw c4 p1 p2 p3 p4
            go_wp2_with fail
            refine HAW.out.mono ?_
            rintro e wA ⟨rfl, cA⟩
            go_wp2_with fail
            go_ret
            exact ⟨rfl, HF4.out.trans (cA.mono HF4.out.size)⟩

theorem order_any (na nb nc : Bool) (sa sb sc : ByteArray) (w : World) (htab : Tab w) (ha : sa.size ≤ maxLen) (hb : sb.size ≤ maxLen) (hc : sc.size ≤ maxLen) :
    Calls Tryz.prog 13 #[.agg #[.bool na, .string sa], .agg #[.bool nb, .string sb], .agg #[.bool nc, .string sc]] w fun e w' => e = .returned (.bool true) ∧ Below w.heap.size w w' := by
  cases hg : (([(na, sa), (nb, sb), (nc, sc)] : List (Bool × ByteArray)).any fun p => decide ((60 : Int) < (p.2.size : Int)))
  · exact order_small na nb nc sa sb sc w htab ha hb hc hg
  · exact order_great na nb nc sa sb sc w htab ha hb hc hg
end Go.Proofs.YtmbnkokcpmkpgaaGreatDoor
