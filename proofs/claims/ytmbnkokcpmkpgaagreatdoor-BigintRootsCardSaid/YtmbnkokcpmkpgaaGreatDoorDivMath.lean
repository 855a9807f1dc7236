/- The arithmetic of a division of two words by one: half a quotient at a time. -/
import Derived.Test.YtmbnkokcpmkpgaaGreatDoorWords
namespace Go.Proofs.YtmbnkokcpmkpgaaGreatDoor

theorem prod_split (q y1 y0 r u D : Nat) (hD : D = y1 * 4294967296 + y0) (hq : q * y1 + r = u) : q * D + 4294967296 * r = u * 4294967296 + q * y0 := by
  subst hD; subst hq
  rw [Nat.mul_add, Nat.add_mul, ← Nat.mul_assoc]
  omega
/-- The estimate is not too small. -/
theorem half_ge (y1 y0 u d D : Nat) (hD : D = y1 * 4294967296 + y0) (h1 : 0 < y1) (hd : d < 4294967296) : (u * 4294967296 + d) / D ≤ u / y1 := by
  have hpos : 0 < D := by omega
  rw [Nat.le_div_iff_mul_le h1]
  have hQ := Nat.div_mul_le_self (u * 4294967296 + d) D
  generalize (u * 4294967296 + d) / D = Q at *
  rw [hD, Nat.mul_add, ← Nat.mul_assoc] at hQ
  omega
/-- .. and not much too great. -/
theorem half_le (y1 y0 u D : Nat) (hD : D = y1 * 4294967296 + y0) (h1 : 2147483648 ≤ y1) (h0 : y0 < 4294967296) (hu : u < D) : u / y1 ≤ 4294967297 := by
  have : u / y1 < 4294967298 := by
    rw [Nat.div_lt_iff_lt_mul (by omega)]
    omega
  omega
theorem half_lt_base (u d D : Nat) (hd : d < 4294967296) (hu : u < D) : (u * 4294967296 + d) / D < 4294967296 := by
  rw [Nat.div_lt_iff_lt_mul (by omega)]
  omega
/-- Where the loop goes on the estimate is too great. -/
theorem half_step (q r y1 y0 u d D : Nat) (hD : D = y1 * 4294967296 + y0) (hd : d < 4294967296) (hu : u < D) (hq : q * y1 + r = u) (hc : 4294967296 ≤ q ∨ 4294967296 * r + d < q * y0) : (u * 4294967296 + d) / D < q := by
  rcases hc with h | h
  · have := half_lt_base u d D hd hu; omega
  · rw [Nat.div_lt_iff_lt_mul (by omega)]
    have := prod_split q y1 y0 r u D hD hq
    omega
/-- Where it ends by its condition the estimate is right. -/
theorem half_done (q r y1 y0 u d D : Nat) (hD : D = y1 * 4294967296 + y0) (hu : u < D) (hq : q * y1 + r = u) (hc : q * y0 ≤ 4294967296 * r + d) (hge : (u * 4294967296 + d) / D ≤ q) : q = (u * 4294967296 + d) / D := by
  have hle : q ≤ (u * 4294967296 + d) / D := by
    rw [Nat.le_div_iff_mul_le (by omega)]
    have := prod_split q y1 y0 r u D hD hq
    omega
  omega
/-- .. and where it breaks off. -/
theorem half_break (q r y1 y0 u d D : Nat) (hD : D = y1 * 4294967296 + y0) (h0 : y0 < 4294967296) (hu : u < D) (hq : q * y1 + r = u) (hr : 4294967296 ≤ r) (hqB : q ≤ 4294967296) (hge : (u * 4294967296 + d) / D ≤ q) : q = (u * 4294967296 + d) / D := by
  apply half_done q r y1 y0 u d D hD hu hq _ hge
  have h1 : q * y0 ≤ 4294967296 * y0 := Nat.mul_le_mul_right _ hqB
  omega
/-- The remainder, reckoned in words. -/
theorem half_rest (u d D q : Nat) (hu : u < D) (hDW : D < 18446744073709551616) (hq : q = (u * 4294967296 + d) / D) :
    (((u * 4294967296 : Nat) : Int) % 18446744073709551616 + (d : Int) - ((q * D : Nat) : Int) % 18446744073709551616) % 18446744073709551616 = (((u * 4294967296 + d) % D : Nat) : Int) := by
  have h1 := Nat.div_add_mod (u * 4294967296 + d) D
  rw [← hq, Nat.mul_comm D] at h1
  have h2 := Nat.mod_lt (u * 4294967296 + d) (show D > 0 by omega)
  generalize (u * 4294967296 + d) % D = R at *
  generalize q * D = P at *
  omega
/-- Both halves together. -/
theorem halves (u d1 d0 D q1 r1 q0 r0 : Nat) (h1 : D * q1 + r1 = u * 4294967296 + d1) (h0 : D * q0 + r0 = r1 * 4294967296 + d0) (hr : r0 < D) :
    (u * 18446744073709551616 + (d1 * 4294967296 + d0)) / D = q1 * 4294967296 + q0 ∧ (u * 18446744073709551616 + (d1 * 4294967296 + d0)) % D = r0 := by
  have e : u * 18446744073709551616 + (d1 * 4294967296 + d0) = r0 + D * (q1 * 4294967296 + q0) := by
    rw [Nat.mul_add, ← Nat.mul_assoc]
    omega
  rw [e]
  constructor
  · rw [Nat.add_mul_div_left _ _ (by omega), Nat.div_eq_of_lt hr]; omega
  · rw [Nat.add_mul_mod_self_left, Nat.mod_eq_of_lt hr]
end Go.Proofs.YtmbnkokcpmkpgaaGreatDoor
