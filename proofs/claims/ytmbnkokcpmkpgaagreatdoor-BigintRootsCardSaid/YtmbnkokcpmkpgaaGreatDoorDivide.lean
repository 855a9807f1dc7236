/- The contract of bigint.divide, at a greater divisor and at one of a single word. -/
import Derived.Test.YtmbnkokcpmkpgaaGreatDoorWords
import Derived.Test.YtmbnkokcpmkpgaaGreatDoorDivWord
import Derived.Test.YtmbnkokcpmkpgaaGreatDoorClone
import Derived.Test.YtmbnkokcpmkpgaaGreatDoorSigned
import Derived.Outline
namespace Go.Proofs.YtmbnkokcpmkpgaaGreatDoor

/-- q is the quotient of z and y, rounded down, and r the remainder. -/
def IsDiv (z y q r : Int) : Prop := z = y * q + r ∧ ((0 ≤ r ∧ r < y) ∨ (r ≤ 0 ∧ y < r))
theorem int_gap (y t : Int) (ht : 1 ≤ t) (hy : 0 < y) : y ≤ y * t := by
  have := Int.mul_le_mul_of_nonneg_left ht (show (0 : Int) ≤ y by omega)
  rwa [Int.mul_one] at this
theorem isDiv_aux {y q r q' r' : Int} (e : y * q + r = y * q' + r') (h1 : 0 ≤ r ∧ r < y) (h2 : 0 ≤ r' ∧ r' < y) : q = q' := by
  have e2 : y * (q - q') = r' - r := by rw [Int.mul_sub]; omega
  rcases Int.lt_or_le 0 (q - q') with h | h
  · have := int_gap y (q - q') (by omega) (by omega)
    omega
  · rcases Int.lt_or_le (q - q') 0 with h' | h'
    · have := int_gap y (q' - q) (by omega) (by omega)
      rw [show q' - q = -(q - q') by omega, Int.mul_neg] at this
      omega
    · omega
theorem IsDiv.unique {z y q r q' r' : Int} (h : IsDiv z y q r) (h' : IsDiv z y q' r') : q = q' ∧ r = r' := by
  obtain ⟨e, h⟩ := h
  obtain ⟨e', h'⟩ := h'
  have eq : q = q' := by
    rcases h with h | h <;> rcases h' with h' | h'
    · exact isDiv_aux (by omega) h h'
    · omega
    · omega
    · exact isDiv_aux (y := -y) (q := q) (q' := q') (r := -r) (r' := -r') (by rw [Int.neg_mul, Int.neg_mul]; omega) (by omega) (by omega)
  subst eq
  exact ⟨rfl, by omega⟩

/-- The number with this sign and this absolute value. -/
def sgn (b : Bool) (n : Nat) : Int := if b then -(n : Int) else n
theorem div_cast (m n : Nat) : (m : Int) = (n : Int) * ((m / n : Nat) : Int) + ((m % n : Nat) : Int) := by
  rw [← Int.natCast_mul, ← Int.natCast_add, Nat.div_add_mod]
theorem isDiv_same (b : Bool) (m n : Nat) (hn : 0 < n) : IsDiv (sgn b m) (sgn b n) ((m / n : Nat) : Int) (sgn b (m % n)) := by
  have h := div_cast m n
  have hr := Nat.mod_lt m hn
  generalize m / n = q at *
  generalize m % n = r at *
  cases b
  · exact ⟨h, .inl ⟨by simp [sgn], by simp [sgn]; omega⟩⟩
  · refine ⟨?_, .inr ⟨by simp [sgn], by simp [sgn]; omega⟩⟩
    simp only [sgn, if_true, Int.neg_mul]
    omega
theorem isDiv_even (a b : Bool) (hab : a ≠ b) (m n : Nat) (hn : 0 < n) (hr : m % n = 0) : IsDiv (sgn a m) (sgn b n) (-((m / n : Nat) : Int)) 0 := by
  have h := div_cast m n
  rw [hr] at h
  generalize m / n = q at *
  cases a <;> cases b <;> simp only [ne_eq, not_true] at hab
  · refine ⟨?_, .inr ⟨by omega, by simp [sgn]; omega⟩⟩
    simp only [sgn, if_true, Int.neg_mul, Int.mul_neg]
    simp at h ⊢
    omega
  · refine ⟨?_, .inl ⟨by omega, by simp [sgn]; omega⟩⟩
    simp only [sgn, if_true, Int.mul_neg]
    simp at h ⊢
    omega
theorem isDiv_more (a b : Bool) (hab : a ≠ b) (m n : Nat) (hn : 0 < n) (hr : m % n ≠ 0) : IsDiv (sgn a m) (sgn b n) (-((m / n + 1 : Nat) : Int)) (sgn b (n - m % n)) := by
  have h := div_cast m n
  have hr2 := Nat.mod_lt m hn
  generalize m / n = q at *
  generalize m % n = r at *
  have e : ((n - r : Nat) : Int) = (n : Int) - (r : Int) := by omega
  have e2 : ((q + 1 : Nat) : Int) = (q : Int) + 1 := by omega
  cases a <;> cases b <;> simp only [ne_eq, not_true] at hab
  · refine ⟨?_, .inr ⟨by simp only [sgn, if_true]; omega, by simp only [sgn, if_true]; omega⟩⟩
    simp only [sgn, if_true, e, e2, Int.neg_mul, Int.mul_neg, Int.mul_add, Int.mul_one]
    simp
    omega
  · refine ⟨?_, .inl ⟨by simp [sgn], by simp [sgn]; omega⟩⟩
    simp only [sgn, if_true, e, e2, Int.mul_neg, Int.mul_add, Int.mul_one]
    simp
    omega
end Go.Proofs.YtmbnkokcpmkpgaaGreatDoor

namespace Go.Proofs.YtmbnkokcpmkpgaaGreatDoor
open Go.RowKit Go.Shelf

/-- The words of the quotient and of the remainder; nothing that was there has turned. -/
def DivRes (w : World) (m n : Nat) (e : Ending) (w' : World) : Prop :=
  ∃ (pq : Option Addr) (cq : Nat) (pr : Option Addr) (cr : Nat), e = .returned (.tuple #[.slice pq (nw (m / n)).length cq, .slice pr (nw (m % n)).length cr]) ∧
    (nw (m / n)).length ≤ cq ∧ (nw (m % n)).length ≤ cr ∧ Nt w' pq (nw (m / n)) ∧ Nt w' pr (nw (m % n)) ∧ Below w.heap.size w w'

set_option maxHeartbeats 400000 in
set_option maxRecDepth 100000 in
theorem divide_less (p q : Option Addr) (cx cy m n : Nat) (w : World) (hx : Nt w p (nw m)) (hy : Nt w q (nw n)) (hcx : (nw m).length ≤ cx) (hlt : m < n) (hl : (nw m).length ≤ 1048576) :
    Calls Tryz.prog 66 #[.slice p (nw m).length cx, .slice q (nw n).length cy] w (DivRes w m n) := by
  have hcm := compare_any p q m n cx cy w hx hy hl
  rw [cmpZ_lt (by omega)] at hcm
  have HCM := Lib.hid hcm
  have HX := Lib.hid (And.intro hx (And.intro hcx hlt))
  clear hcm hx hy hcx hl hlt
  go_enter Tryz.func66, Tryz.ntmps66
  go_wp2_with fail
  refine HCM.out.mono ?_
  rintro e wC ⟨rfl, hbC⟩
  have HB := Lib.hid hbC
  clear hbC
  go_wp2_with fail
  go_ret2
  obtain ⟨hx, hcx, hlt⟩ := HX.out
  refine ⟨none, 0, p, cx, ?_, ?_, ?_, ?_, ?_, HB.out⟩
  · rw [Nat.div_eq_of_lt hlt, Nat.mod_eq_of_lt hlt]; rfl
  · rw [Nat.div_eq_of_lt hlt, nw_zero]; exact Nat.le_refl _
  · rw [Nat.mod_eq_of_lt hlt]; exact hcx
  · rw [Nat.div_eq_of_lt hlt]; exact .inl rfl
  · rw [Nat.mod_eq_of_lt hlt]; exact hx.below HB.out

set_option maxHeartbeats 1000000 in
set_option maxRecDepth 100000 in
theorem divide_word (p q : Option Addr) (cx cy m n : Nat) (w : World) (hx : Nt w p (nw m)) (hy : Nt w q (nw n)) (hn0 : 0 < n) (hn1 : n < 18446744073709551616) (hle : n ≤ m) (hl : (nw m).length ≤ 1048576) :
    Calls Tryz.prog 66 #[.slice p (nw m).length cx, .slice q (nw n).length cy] w (DivRes w m n) := by
  have hcm := compare_any p q m n cx cy w hx hy hl
  have hcz : 0 ≤ cmpZ m n := by
    rcases Nat.lt_or_ge n m with h | h
    · rw [cmpZ_gt (by omega)]; omega
    · rw [cmpZ_eq (by omega)]; omega
  obtain ⟨cz, hczz⟩ : ∃ cz, cmpZ m n = cz := ⟨_, rfl⟩
  rw [hczz] at hcm hcz
  have hczn : ¬ cz < 0 := by omega
  have hm0 : m ≠ 0 := by omega
  have hmp : 0 < (nw m).length := by rw [List.length_pos_iff]; exact fun h => hm0 ((nw_eq_nil m).1 h)
  have hny : nw n = [n] := nw_small n hn1 (by omega)
  rw [hny] at hy hcm ⊢
  have HCM := Lib.hid hcm
  rcases hx with hx | ⟨bx, ox, rfl, hxr⟩
  · rw [hx] at hmp; simp at hmp
  · rcases hy with hy | ⟨by', oy, rfl, hyr⟩
    · cases hy
    · have HX := Lib.hid hxr
      have HY := Lib.hid hyr
      have HM := Lib.hid (And.intro hm0 (And.intro hmp (And.intro hn0 hn1)))
      clear hcm hxr hyr hczz hle hm0 hny
      go_enter Tryz.func66, Tryz.ntmps66
      go_wp2_with fail
      refine HCM.out.mono ?_
      rintro e wC ⟨rfl, hbC⟩
      have hxC := HX.out.below hbC (HX.out.lt HM.out.2.1)
      have hyC := HY.out.below hbC (HY.out.lt (by simp))
      have HXC := Lib.hid hxC
      have HYC := Lib.hid (And.intro hyC hbC)
      clear hxC hyC hbC
      go_wp2_with fail
      refine (clone_any bx ox cx (nw m) wC HXC.out HM.out.2.1 (by omega)).mono ?_
      rintro e wD ⟨g, cg, rfl, hcg, hcm2, rowg, hgC, hgD, hbD⟩
      have hyD := HYC.out.1.below hbD (HYC.out.1.lt (by simp))
      have kY : wD.cell? ⟨by', oy, none⟩ = some (.int .u64 (n : Nat)) := (hyD 0 (by simp)).1
      have HG := Lib.hid (And.intro hcg (And.intro hcm2 (And.intro rowg (And.intro hgC (And.intro hgD hbD)))))
      clear hcg hcm2 rowg hgC hgD hbD hyD
      go_wp2_with fail
      refine (divWord_any g cg n (nw m) wD HG.out.2.2.1 HG.out.2.2.2.2.1 (nw_ok m) HM.out.2.2.1 HM.out.2.2.2 hl).mono ?_
      rintro e wE ⟨qs, r, rfl, hv, hr, hlen, hok, rowq, htq⟩
      have ht := trim_any (some ⟨g, 0, none⟩) qs cg wE (.inr ⟨g, 0, rfl, rowq⟩) (by omega) (by rw [hlen]; exact HG.out.1) HG.out.2.1
      rw [hlen, trimW_length qs hok] at ht
      have hdm : wv qs = m / n ∧ r = m % n := by
        have h1 : m = n * wv qs + r := by rw [← hv, wv_nw]
        rw [h1]
        exact ⟨by rw [Nat.mul_add_div (by omega), Nat.div_eq_of_lt hr, Nat.add_zero], by rw [Nat.mul_add_mod, Nat.mod_eq_of_lt hr]⟩
      rw [hdm.1] at ht
      have HT := Lib.hid ht
      have htk := take_trimW qs hok
      rw [hdm.1] at htk
      have hrw : r < 18446744073709551616 := by have := HM.out.2.2.2; omega
      have HQ := Lib.hid (And.intro hdm (And.intro htk (And.intro rowq (And.intro htq (And.intro hlen hrw)))))
      clear hv hr hlen hok rowq htq ht hdm htk hrw
      go_wp2_with fail
      refine HT.out.mono ?_
      rintro e wF ⟨rfl, rfl⟩
      go_wp2_with fail
      have hrow1 := row_one wE r 51
      have ht2 := trim_any (some ⟨wE.heap.size, 0, none⟩) [r] 1 _ (.inr ⟨wE.heap.size, 0, rfl, hrow1⟩) (by simp) (by simp) (by unfold maxLen; omega)
      refine ht2.mono ?_
      rintro e wG ⟨rfl, rfl⟩
      obtain ⟨hdm, htk, rowq, htq, hlen, hrw⟩ := HQ.out
      have hok1 : Ok [r] := Ok.nil.cons hrw
      have htl := trimW_length [r] hok1
      have htk1 := take_trimW [r] hok1
      have e1 : wv [r] = m % n := by rw [← hdm.2]; simp [wv]
      rw [e1] at htl htk1
      rw [htl]
      have HF := Lib.hid (And.intro htk1 htl)
      clear htl htk1 hok1 e1 hdm htk rowq htq hlen hrw
      go_wp2_with fail
      go_ret2
      obtain ⟨hdm, htk, rowq, htq, hlen, hrw⟩ := HQ.out
      obtain ⟨hcg, hcm2, rowg, hgC, hgD, hbD⟩ := HG.out
      have hql : (nw (m / n)).length ≤ cg := by rw [← htk, List.length_take]; omega
      have hgE : wD.heap.size ≤ wE.heap.size := htq.grown.size
      have hbel : Below w.heap.size w wE := by
        have h1 : Below w.heap.size w wD := HYC.out.2.trans (hbD.mono HYC.out.2.size)
        exact touch_below h1 htq h1.size (Nat.le_trans HYC.out.2.size hgC)
      refine ⟨some ⟨g, 0, none⟩, cg, some ⟨wE.heap.size, 0, none⟩, 1, rfl, hql, by rw [← HF.out.2]; exact trimW_le _, .inr ⟨g, 0, rfl, ?_⟩, .inr ⟨wE.heap.size, 0, rfl, ?_⟩, ?_⟩
      · rw [← htk]
        exact (rowq.take _).below ((Below.refl wE.heap.size wE).alloc (Nat.le_refl _) _) (by omega)
      · rw [← HF.out.1]
        exact hrow1.take _
      · exact hbel.alloc hbel.size _
end Go.Proofs.YtmbnkokcpmkpgaaGreatDoor
