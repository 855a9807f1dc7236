/- How numbers of layer 2 compare; the simplest number of an interval. -/
import Derived.Test.YtpdhffjdgnpikaaGreatDoorRatMath
namespace Go.Proofs.YtpdhffjdgnpikaaGreatDoor
open Go.RowKit

theorem mk_cross (n : Int) (d : Nat) (hd : 0 < d) : (mkRat n d).num * (d : Int) = n * ((mkRat n d).den : Int) := by
  have h : mkRat (mkRat n d).num (mkRat n d).den = mkRat n d := Rat.mkRat_self _
  exact (Rat.mkRat_eq_iff (mkRat n d).den_nz (by omega)).1 h
theorem mk_lt (n1 n2 : Int) (d1 d2 : Nat) (h1 : 0 < d1) (h2 : 0 < d2) : mkRat n1 d1 < mkRat n2 d2 ↔ n1 * (d2 : Int) < n2 * (d1 : Int) := by
  have c1 := mk_cross n1 d1 h1
  have c2 := mk_cross n2 d2 h2
  rw [Rat.lt_iff]
  have e1 : 0 < ((mkRat n1 d1).den : Int) := by have := (mkRat n1 d1).den_pos; omega
  have e2 : 0 < ((mkRat n2 d2).den : Int) := by have := (mkRat n2 d2).den_pos; omega
  generalize (mkRat n1 d1).num = a1 at *
  generalize ((mkRat n1 d1).den : Int) = b1 at *
  generalize (mkRat n2 d2).num = a2 at *
  generalize ((mkRat n2 d2).den : Int) = b2 at *
  have hd1 : (0 : Int) < d1 := by omega
  have hd2 : (0 : Int) < d2 := by omega
  generalize (d1 : Int) = D1 at *
  generalize (d2 : Int) = D2 at *
  have k1 : a1 * b2 * (D1 * D2) = n1 * D2 * (b1 * b2) := by grind
  have k2 : a2 * b1 * (D1 * D2) = n2 * D1 * (b1 * b2) := by grind
  have p1 := Int.mul_pos hd1 hd2
  have p2 := Int.mul_pos e1 e2
  constructor
  · intro h
    have := Int.mul_lt_mul_of_pos_right h p1
    rw [k1, k2] at this
    exact Int.lt_of_mul_lt_mul_right this (Int.le_of_lt p2)
  · intro h
    have := Int.mul_lt_mul_of_pos_right h p2
    rw [← k1, ← k2] at this
    exact Int.lt_of_mul_lt_mul_right this (Int.le_of_lt p1)
/-- How two values compare. -/
def cmpQ (p q : Rat) : Int := if p < q then -1 else if q < p then 1 else 0
theorem cmpZ_mk (n1 n2 : Int) (d1 d2 : Nat) (h1 : 0 < d1) (h2 : 0 < d2) : cmpZ (n1 * (d2 : Int)) (n2 * (d1 : Int)) = cmpQ (mkRat n1 d1) (mkRat n2 d2) := by
  unfold cmpZ cmpQ
  by_cases h3 : n1 * (d2 : Int) < n2 * (d1 : Int)
  · rw [if_pos h3, if_pos ((mk_lt n1 n2 d1 d2 h1 h2).2 h3)]
  · rw [if_neg h3, if_neg (fun e => h3 ((mk_lt n1 n2 d1 d2 h1 h2).1 e))]
    by_cases h4 : n2 * (d1 : Int) < n1 * (d2 : Int)
    · rw [if_pos h4, if_pos ((mk_lt n2 n1 d2 d1 h2 h1).2 h4)]
    · rw [if_neg h4, if_neg (fun e => h4 ((mk_lt n2 n1 d2 d1 h2 h1).1 e))]
/-- The simplest fraction from n1 / d1 to n2 / d2, which are positive: both its parts are least. -/
structure Simple (n1 d1 n2 d2 p q : Nat) : Prop where
  q0 : 0 < q
  p0 : 0 < p
  low : n1 * q ≤ p * d1
  high : p * d2 ≤ n2 * q
  least : ∀ x y, 0 < y → n1 * y ≤ x * d1 → x * d2 ≤ n2 * y → p ≤ x ∧ q ≤ y
theorem Simple.same {n1 d1 n2 d2 p q p' q' : Nat} (h : Simple n1 d1 n2 d2 p q) (h' : Simple n1 d1 n2 d2 p' q') : p = p' ∧ q = q' := by
  have a := h.least p' q' h'.q0 h'.low h'.high
  have b := h'.least p q h.q0 h.low h.high
  omega
theorem div_parts (n d : Nat) : n = n / d * d + n % d := by rw [Nat.mul_comm]; exact (Nat.div_add_mod n d).symm
theorem simple_int {n1 d1 n2 d2 : Nat} (hd1 : 0 < d1) (_hd2 : 0 < d2) (hn : 0 < n1) (hle : n1 * d2 ≤ n2 * d1) (hr : n1 % d1 = 0) : Simple n1 d1 n2 d2 (n1 / d1) 1 := by
  have e := div_parts n1 d1
  rw [hr, Nat.add_zero] at e
  have c0 : 0 < n1 / d1 := by
    refine Nat.pos_of_ne_zero fun h => ?_
    rw [h] at e; omega
  refine ⟨by omega, c0, by omega, ?_, fun x y hy h1 h2 => ⟨?_, hy⟩⟩
  · generalize n1 / d1 = c at *
    rw [Nat.mul_one]
    subst e
    refine Nat.le_of_mul_le_mul_right (c := d1) ?_ hd1
    calc c * d2 * d1 = c * d1 * d2 := by rw [Nat.mul_right_comm]
      _ ≤ n2 * d1 := hle
  · generalize n1 / d1 = c at *
    subst e
    have h3 : c * d1 * 1 ≤ c * d1 * y := Nat.mul_le_mul_left _ hy
    exact Nat.le_of_mul_le_mul_right (c := d1) (by omega) hd1
theorem simple_next {n1 d1 n2 d2 : Nat} (hd1 : 0 < d1) (hd2 : 0 < d2) (hle : n1 * d2 ≤ n2 * d1) (hr : ¬ n1 % d1 = 0) (hc : ¬ n1 / d1 = n2 / d2) : Simple n1 d1 n2 d2 (n1 / d1 + 1) 1 := by
  have e1 := div_parts n1 d1
  have e2 := div_parts n2 d2
  have r1 := Nat.mod_lt n1 hd1
  have r2 := Nat.mod_lt n2 hd2
  have hcc : n1 / d1 ≤ n2 / d2 := by
    rw [Nat.le_div_iff_mul_le hd2]
    refine Nat.le_of_mul_le_mul_right (c := d1) ?_ hd1
    have h := Nat.div_mul_le_self n1 d1
    calc n1 / d1 * d2 * d1 = n1 / d1 * d1 * d2 := by rw [Nat.mul_right_comm]
      _ ≤ n1 * d2 := Nat.mul_le_mul_right _ h
      _ ≤ n2 * d1 := hle
  generalize n1 / d1 = c at *
  generalize n1 % d1 = s at *
  generalize n2 / d2 = c' at *
  generalize n2 % d2 = s' at *
  refine ⟨by omega, by omega, by rw [Nat.add_mul]; omega, ?_, fun x y hy h1 h2 => ⟨?_, hy⟩⟩
  · have : (c + 1) * d2 ≤ c' * d2 := Nat.mul_le_mul_right _ (by omega)
    omega
  · refine Classical.byContradiction fun hx => ?_
    have hx : x ≤ c := by omega
    have h3 : x * d1 ≤ c * d1 := Nat.mul_le_mul_right _ hx
    have h4 : n1 * 1 ≤ n1 * y := Nat.mul_le_mul_left _ hy
    omega
theorem simple_step {n1 d1 n2 d2 p q : Nat} (hd1 : 0 < d1) (_hd2 : 0 < d2) (hr : ¬ n1 % d1 = 0) (hc : n1 / d1 = n2 / d2) (h : Simple d2 (n2 % d2) d1 (n1 % d1) p q) : Simple n1 d1 n2 d2 (n1 / d1 * p + q) p := by
  have e1 := div_parts n1 d1
  have e2 := div_parts n2 d2
  rw [← hc] at e2
  obtain ⟨q0, p0, low, high, least⟩ := h
  generalize n1 / d1 = c at *
  generalize n1 % d1 = r1 at *
  generalize n2 % d2 = r2 at *
  subst e1
  subst e2
  refine ⟨p0, by omega, ?_, ?_, fun x y hy h1 h2 => ?_⟩
  · grind
  · grind
  · have hx : c * y ≤ x := by
      refine Nat.le_of_mul_le_mul_right (c := d1) ?_ hd1
      grind
    obtain ⟨z, rfl⟩ := Nat.exists_eq_add_of_le hx
    have hz : 0 < z := by
      refine Nat.pos_of_ne_zero fun e => ?_
      subst e
      have : 0 < r1 * y := Nat.mul_pos (by omega) hy
      grind
    have := least y z hz (by grind) (by grind)
    refine ⟨?_, this.1⟩
    have := Nat.mul_le_mul_left c this.1
    omega
/-- What the step asks of the next pair. -/
theorem simple_pair {n1 d1 n2 d2 : Nat} (_hd1 : 0 < d1) (hd2 : 0 < d2) (hle : n1 * d2 ≤ n2 * d1) (hr : ¬ n1 % d1 = 0) (hc : n1 / d1 = n2 / d2) : 0 < n2 % d2 ∧ d2 * (n1 % d1) ≤ d1 * (n2 % d2) := by
  have e1 := div_parts n1 d1
  have e2 := div_parts n2 d2
  rw [← hc] at e2
  generalize n1 / d1 = c at *
  generalize n1 % d1 = r1 at *
  generalize n2 % d2 = r2 at *
  subst e1
  subst e2
  have h : d2 * r1 ≤ d1 * r2 := by grind
  refine ⟨Nat.pos_of_ne_zero fun e => ?_, h⟩
  subst e
  have : 0 < d2 * r1 := Nat.mul_pos hd2 (by omega)
  omega
theorem simple_ex : ∀ (k n1 d1 n2 d2 : Nat), d1 + d2 ≤ k → 0 < d1 → 0 < d2 → 0 < n1 → n1 * d2 ≤ n2 * d1 → ∃ p q, Simple n1 d1 n2 d2 p q
  | 0, n1, d1, n2, d2, hk, hd1, hd2, hn, hle => by omega
  | k + 1, n1, d1, n2, d2, hk, hd1, hd2, hn, hle => by
    by_cases hr : n1 % d1 = 0
    · exact ⟨_, _, simple_int hd1 hd2 hn hle hr⟩
    · by_cases hc : n1 / d1 = n2 / d2
      · have hp := simple_pair hd1 hd2 hle hr hc
        have m1 := Nat.mod_lt n1 hd1
        have m2 := Nat.mod_lt n2 hd2
        obtain ⟨p, q, h⟩ := simple_ex k d2 (n2 % d2) d1 (n1 % d1) (by omega) hp.1 (by omega) hd2 hp.2
        exact ⟨_, _, simple_step hd1 hd2 hr hc h⟩
      · exact ⟨_, _, simple_next hd1 hd2 hle hr hc⟩
end Go.Proofs.YtpdhffjdgnpikaaGreatDoor
