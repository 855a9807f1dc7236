/- The machine's operations on 64-bit words (math/bits), as the walks meet them, and the arithmetic of one word's step. -/
import Derived.Test.YtmbnkokcpmkpgaaGreatDoorLoad
import Derived.Shelf.Bits.Mul64
import Derived.Shelf.Spec.BitsCarry
namespace Go.Proofs.YtmbnkokcpmkpgaaGreatDoor
open Go.RowKit

/-- 2^64. -/
def WW : Nat := 18446744073709551616
theorem WW_eq : WW = 18446744073709551616 := rfl

set_option maxHeartbeats 1000000 in
theorem mul64_any (x y : Nat) (hx : x < 18446744073709551616) (hy : y < 18446744073709551616) (w : World) :
    Calls Tryz.prog 115 #[.int .u64 x, .int .u64 y] w fun e w' => e = .returned (.tuple #[.int .u64 ((x * y / 18446744073709551616 : Nat) : Int), .int .u64 ((x * y % 18446744073709551616 : Nat) : Int)]) ∧ w = w' := by
  obtain ⟨bd, bt, bw, hhi⟩ := Lib.mul64_hi x y hx hy
  have ba := Lib.half_mul_le (a := x / 4294967296) (b := y / 4294967296) (by omega) (by omega)
  have bb := Lib.half_mul_le (a := x / 4294967296) (b := y % 4294967296) (by omega) (by omega)
  have bc := Lib.half_mul_le (a := x % 4294967296) (b := y / 4294967296) (by omega) (by omega)
  have ba' : x / 4294967296 * (y / 4294967296) < 18446744073709551616 := by omega
  have bb' : x / 4294967296 * (y % 4294967296) < 18446744073709551616 := by omega
  have bc' : x % 4294967296 * (y / 4294967296) < 18446744073709551616 := by omega
  have bh1 : x / 4294967296 * (y / 4294967296) + (x / 4294967296 * (y % 4294967296) + x % 4294967296 * (y % 4294967296) / 4294967296) / 4294967296 < 18446744073709551616 := by omega
  have bh : x / 4294967296 * (y / 4294967296) + (x / 4294967296 * (y % 4294967296) + x % 4294967296 * (y % 4294967296) / 4294967296) / 4294967296 + ((x / 4294967296 * (y % 4294967296) + x % 4294967296 * (y % 4294967296) / 4294967296) % 4294967296 + x % 4294967296 * (y / 4294967296)) / 4294967296 < 18446744073709551616 := by omega
  go_enter Tryz.func115, Tryz.ntmps115
  go_wp2
  simp only [Mul64.maskN x hx, Mul64.maskN y hy, Mul64.divN, Mul64.mulN, Mul64.addN, Mul64.wrapN _ bd, Mul64.wrapN _ bb', Mul64.wrapN _ bt, Mul64.maskN _ bt, Mul64.wrapN _ bc', Mul64.wrapN _ bw, Mul64.wrapN _ ba', Mul64.wrapN _ bh1, Mul64.wrapN _ bh, Mul64.wrapM (x * y)]
  rw [hhi]
  go_ret2
  exact ⟨rfl, rfl⟩

/-- A product in two words. -/
theorem mul64_ex (x y : Nat) (hx : x < 18446744073709551616) (hy : y < 18446744073709551616) :
    ∃ hi lo : Nat, x * y = lo + 18446744073709551616 * hi ∧ lo < 18446744073709551616 ∧ ∀ w : World,
      Calls Tryz.prog 115 #[.int .u64 x, .int .u64 y] w fun e w' => e = .returned (.tuple #[.int .u64 hi, .int .u64 lo]) ∧ w = w' :=
  ⟨x * y / 18446744073709551616, x * y % 18446744073709551616, by omega, by omega, fun w => mul64_any x y hx hy w⟩

theorem add64_run (x y c : Nat) (hc : c ≤ 1) (w : World) :
    (callFunc 111 #[.int .u64 x, .int .u64 y, .int .u64 c]).run Tryz.prog w =
      .ok (.value (.tuple #[.int .u64 (((x + y + c) % 18446744073709551616 : Nat) : Int), .int .u64 (((x + y + c) / 18446744073709551616 : Nat) : Int)])) w := by
  rw [run_callFunc_extern Tryz.func111 (by kernel_rfl) (by kernel_rfl) (by kernel_rfl) (e := add64Entry) (by kernel_rfl), run_add64 x y c (by omega) (by omega) (by omega) (by omega)]
  simp only [Result.andThen]
  congr 5 <;> omega
theorem sub64_run (x y b : Nat) (hb : b ≤ 1) (w : World) :
    (callFunc 114 #[.int .u64 x, .int .u64 y, .int .u64 b]).run Tryz.prog w =
      .ok (.value (.tuple #[.int .u64 (((x + 18446744073709551616 - y - b) % 18446744073709551616 : Nat) : Int), .int .u64 ((if x < y + b then 1 else 0 : Nat) : Int)])) w := by
  rw [run_callFunc_extern Tryz.func114 (by kernel_rfl) (by kernel_rfl) (by kernel_rfl) (e := sub64Entry) (by kernel_rfl), run_sub64 x y b hb]
  rfl
/-- A sum in two words. -/
theorem add64_ex (x y c : Nat) (hx : x < 18446744073709551616) (hy : y < 18446744073709551616) (hc : c ≤ 1) :
    ∃ s k : Nat, x + y + c = s + 18446744073709551616 * k ∧ s < 18446744073709551616 ∧ k ≤ 1 ∧ ∀ w : World,
      (callFunc 111 #[.int .u64 x, .int .u64 y, .int .u64 c]).run Tryz.prog w = .ok (.value (.tuple #[.int .u64 s, .int .u64 k])) w :=
  ⟨(x + y + c) % 18446744073709551616, (x + y + c) / 18446744073709551616, by omega, by omega, by omega, fun w => add64_run x y c hc w⟩
theorem add64_ex0 (x y : Nat) (hx : x < 18446744073709551616) (hy : y < 18446744073709551616) :
    ∃ s k : Nat, x + y = s + 18446744073709551616 * k ∧ s < 18446744073709551616 ∧ k ≤ 1 ∧ ∀ w : World,
      (callFunc 111 #[.int .u64 x, .int .u64 y, .int .u64 0]).run Tryz.prog w = .ok (.value (.tuple #[.int .u64 s, .int .u64 k])) w := add64_ex x y 0 hx hy (by omega)
/-- A difference in two words. -/
theorem sub64_ex (x y c : Nat) (hx : x < 18446744073709551616) (hy : y < 18446744073709551616) (hc : c ≤ 1) :
    ∃ s k : Nat, x + 18446744073709551616 * k = s + y + c ∧ s < 18446744073709551616 ∧ k ≤ 1 ∧ ∀ w : World,
      (callFunc 114 #[.int .u64 x, .int .u64 y, .int .u64 c]).run Tryz.prog w = .ok (.value (.tuple #[.int .u64 s, .int .u64 k])) w := by
  refine ⟨(x + 18446744073709551616 - y - c) % 18446744073709551616, if x < y + c then 1 else 0, ?_, by omega, by split <;> omega, fun w => sub64_run x y c hc w⟩
  split <;> omega
theorem sub64_ex0 (x y : Nat) (hx : x < 18446744073709551616) (hy : y < 18446744073709551616) :
    ∃ s k : Nat, x + 18446744073709551616 * k = s + y ∧ s < 18446744073709551616 ∧ k ≤ 1 ∧ ∀ w : World,
      (callFunc 114 #[.int .u64 x, .int .u64 y, .int .u64 0]).run Tryz.prog w = .ok (.value (.tuple #[.int .u64 s, .int .u64 k])) w := sub64_ex x y 0 hx hy (by omega)
/-- A sum that fits. -/
theorem addW_ex (x y : Nat) (h : x + y < 18446744073709551616) : ∃ s : Nat, s = x + y ∧ IntKind.u64.wrap ((x : Int) + (y : Int)) = (s : Int) :=
  ⟨x + y, rfl, by rw [← Int.natCast_add]; exact wrapU _ h⟩

/-- One word's step of a multiplication that adds. -/
theorem hi_fits (d q hi lo c1 : Nat) (hd : d < 18446744073709551616) (hq : q < 18446744073709551616) (h : d * q = lo + 18446744073709551616 * hi) (hc : c1 ≤ 1) : hi + c1 < 18446744073709551616 := by
  have h1 : d * q ≤ 18446744073709551615 * 18446744073709551615 := Nat.mul_le_mul (by omega) (by omega)
  omega
theorem step_fits (d q hi lo cy s1 c1 t s2 c2 : Nat) (hd : d < 18446744073709551616) (hq : q < 18446744073709551616) (hcy : cy < 18446744073709551616) (ht : t < 18446744073709551616)
    (h : d * q = lo + 18446744073709551616 * hi) (h1 : lo + cy = s1 + 18446744073709551616 * c1) (h2 : s1 + t = s2 + 18446744073709551616 * c2) : hi + c1 + c2 < 18446744073709551616 := by
  have h3 : d * q ≤ 18446744073709551615 * 18446744073709551615 := Nat.mul_le_mul (by omega) (by omega)
  omega
theorem step_sum (P d q hi lo cy s1 c1 t s2 c2 a b e : Nat)
    (h : d * q = lo + 18446744073709551616 * hi) (h1 : lo + cy = s1 + 18446744073709551616 * c1) (h2 : s1 + t = s2 + 18446744073709551616 * c2) (he : a + P * cy = b + q * e) :
    (a + P * s2) + P * 18446744073709551616 * (hi + c1 + c2) = (b + P * t) + q * (e + P * d) := by
  have e1 : s2 + 18446744073709551616 * (hi + c1 + c2) = t + d * q + cy := by omega
  have e2 := congrArg (P * ·) e1
  simp only [Nat.mul_add, ← Nat.mul_assoc] at e2 ⊢
  have e3 : P * d * q = q * P * d := by rw [Nat.mul_comm (P * d) q, Nat.mul_assoc]
  omega
end Go.Proofs.YtmbnkokcpmkpgaaGreatDoor
