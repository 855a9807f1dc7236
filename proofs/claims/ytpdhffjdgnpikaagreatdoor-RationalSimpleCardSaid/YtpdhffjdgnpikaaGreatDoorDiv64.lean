/- The contract of bits.Div64. What the loop of bigint.divideWord keeps. The contract of bigint.divideWord. The contract of bigint.wordRoot. -/
import Derived.Test.YtpdhffjdgnpikaaGreatDoorNat
import Derived.Test.YtpdhffjdgnpikaaGreatDoorCmp
import Derived.Deep.CutRange
import Derived.Deep.CutBlock
import Derived.BigQuiet
import Derived.Deep.QuietTactic
import Derived.Deep.RegionHeld3
import Derived.OrdersIn
import Derived.RangeFuncCalls
import Derived.RangeFuncNested
import Derived.Test.YtpdhffjdgnpikaaGreatDoorMul
import Derived.Stop.RegionWithIn
import Derived.Outline
namespace Go.Proofs.YtpdhffjdgnpikaaGreatDoor
open Go.RowKit Go.Shelf

theorem bitLen_bound : ∀ f x : Nat, x < 2 ^ f → x ≠ 0 → 0 < Lib.bitLenAux f x ∧ 2 ^ (Lib.bitLenAux f x - 1) ≤ x ∧ x < 2 ^ Lib.bitLenAux f x
  | 0, x, h, h0 => by simp at h; omega
  | f + 1, x, h, h0 => by
    unfold Lib.bitLenAux
    rw [if_neg h0]
    by_cases h1 : x / 2 = 0
    · have hx : x = 1 := by omega
      subst hx
      have : Lib.bitLenAux f (1 / 2) = 0 := by cases f <;> simp [Lib.bitLenAux]
      rw [this]; simp
    · obtain ⟨a, b, c⟩ := bitLen_bound f (x / 2) (by rw [Nat.pow_succ] at h; omega) h1
      generalize Lib.bitLenAux f (x / 2) = k at *
      obtain ⟨j, rfl⟩ : ∃ j, k = j + 1 := ⟨k - 1, by omega⟩
      rw [show 1 + (j + 1) - 1 = j + 1 by omega, show 1 + (j + 1) = (j + 1) + 1 by omega]
      simp only [Nat.pow_succ, Nat.add_sub_cancel] at *
      omega


theorem lz_ex (y : Nat) (h0 : 0 < y) (hy : y < 18446744073709551616) : ∃ s : Nat, s ≤ 63 ∧ 9223372036854775808 ≤ y * 2 ^ s ∧ y * 2 ^ s < 18446744073709551616 ∧
    ∀ w : World, Calls Tryz.prog 181 #[.int .u64 y] w fun e w' => e = .returned (.int .i64 (s : Nat)) ∧ w = w' := by
  obtain ⟨a, b, c⟩ := bitLen_bound 64 y hy (by omega)
  have hc : ∀ w : World, Calls Tryz.prog 181 #[.int .u64 y] w fun e w' => e = .returned (.int .i64 (64 - (Lib.bitLen (y : Int).toNat : Int))) ∧ w' = w := fun w => Any.bits_LeadingZeros64 Tryz.lays134 y w (by omega) (by omega)
  have hl := Any.bitLen_le64 (y : Int) (by omega) (by omega)
  rw [Int.toNat_natCast] at hl
  have hbl : Lib.bitLen y = Lib.bitLenAux 64 y := rfl
  rw [hbl] at hl
  refine ⟨64 - Lib.bitLenAux 64 y, by omega, ?_, ?_, fun w => (hc w).mono ?_⟩
  · have := Nat.mul_le_mul_right (2 ^ (64 - Lib.bitLenAux 64 y)) b
    rw [← Nat.pow_add, show Lib.bitLenAux 64 y - 1 + (64 - Lib.bitLenAux 64 y) = 63 by omega] at this
    exact this
  · have := Nat.mul_lt_mul_of_pos_right c (Nat.two_pow_pos (64 - Lib.bitLenAux 64 y))
    rw [← Nat.pow_add, show Lib.bitLenAux 64 y + (64 - Lib.bitLenAux 64 y) = 64 by omega] at this
    exact this
  · rintro e w' ⟨rfl, rfl⟩
    refine ⟨?_, rfl⟩
    rw [Int.toNat_natCast, hbl, Int.natCast_sub hl]; rfl

theorem back_step (q r y1 : Nat) (h : 0 < q) : (q - 1) * y1 + (r + y1) = q * y1 + r := by
  obtain ⟨k, rfl⟩ : ∃ k, q = k + 1 := ⟨q - 1, by omega⟩
  rw [Nat.add_sub_cancel, Nat.add_mul]; omega

set_option maxHeartbeats 1000000 in
set_option maxRecDepth 100000 in
theorem div64_zero (lo y : Nat) (w : World) (hlo : lo < 18446744073709551616) (h0 : 0 < y) :
    Calls Tryz.prog 180 #[.int .u64 (0 : Nat), .int .u64 lo, .int .u64 y] w fun e w' => e = .returned (.tuple #[.int .u64 ((lo / y : Nat) : Int), .int .u64 ((lo % y : Nat) : Int)]) ∧ Below w.heap.size w w' := by
  have h1 : ¬ ((y : Int) = 0) := by omega
  have h2 : ¬ ((y : Int) ≤ 0) := by omega
  obtain ⟨qq, hqq⟩ : ∃ qq, lo / y = qq := ⟨_, rfl⟩
  obtain ⟨rr, hrr⟩ : ∃ rr, lo % y = rr := ⟨_, rfl⟩
  have hle : qq ≤ lo := by rw [← hqq]; exact Nat.div_le_self _ _
  have g1 : (lo : Int) / (y : Int) = (qq : Int) := by rw [← hqq]; rfl
  have g2 : IntKind.u64.wrap (qq : Int) = (qq : Int) := wrapU _ (by omega)
  have g3 : (lo : Int) % (y : Int) = (rr : Int) := by rw [← hrr]; rfl
  rw [hqq, hrr]
  clear hqq hrr hle
  go_enter Tryz.func180, Tryz.ntmps180
  go_wp2_with fail
  go_quiet (fail)
  go_wp2_with fail
  go_ret2
  refine ⟨?_, below_draws _ _ _⟩
  show Ending.returned (.tuple #[.int .u64 (qq : Int), .int .u64 ((lo : Int) % (y : Int))]) = _
  rw [g3]

set_option maxHeartbeats 4000000 in
set_option maxRecDepth 100000 in
theorem div64_more (hi lo y : Nat) (w : World) (hlo : lo < 18446744073709551616) (h0 : hi ≠ 0) (hy : hi < y) (hyw : y < 18446744073709551616) :
    Calls Tryz.prog 180 #[.int .u64 hi, .int .u64 lo, .int .u64 y] w fun e w' => e = .returned (.tuple #[.int .u64 (((hi * 18446744073709551616 + lo) / y : Nat) : Int), .int .u64 (((hi * 18446744073709551616 + lo) % y : Nat) : Int)]) ∧ Below w.heap.size w w' := by
  obtain ⟨quo, hquo⟩ : ∃ quo, (hi * 18446744073709551616 + lo) / y = quo := ⟨_, rfl⟩
  obtain ⟨rem, hrem⟩ : ∃ rem, (hi * 18446744073709551616 + lo) % y = rem := ⟨_, rfl⟩
  rw [hquo, hrem]
  have HQR := Lib.hid (And.intro hquo hrem)
  clear hquo hrem
  have h1 : ¬ ((y : Int) = 0) := by omega
  have h2 : ¬ ((y : Int) ≤ (hi : Int)) := by omega
  have h3 : ¬ ((hi : Int) = 0) := by omega
  obtain ⟨s, hs, hn1, hn2, hlz⟩ := lz_ex y (by omega) hyw
  have HLZ := Lib.hid hlz
  clear hlz
  obtain ⟨D, hD⟩ : ∃ D, D = y * 2 ^ s := ⟨_, rfl⟩
  rw [← hD] at hn1 hn2
  obtain ⟨y1, hy1⟩ : ∃ y1, y1 = D / 4294967296 := ⟨_, rfl⟩
  obtain ⟨y0, hy0⟩ : ∃ y0, y0 = D % 4294967296 := ⟨_, rfl⟩
  obtain ⟨U, hU⟩ : ∃ U, U = hi * 2 ^ s := ⟨_, rfl⟩
  obtain ⟨L, hL⟩ : ∃ L, L = lo / 2 ^ (64 - s) := ⟨_, rfl⟩
  obtain ⟨z, hz⟩ : ∃ z, z = lo * 2 ^ s % 18446744073709551616 := ⟨_, rfl⟩
  obtain ⟨d1, hd1⟩ : ∃ d1, d1 = z / 4294967296 := ⟨_, rfl⟩
  obtain ⟨d0, hd0⟩ : ∃ d0, d0 = z % 4294967296 := ⟨_, rfl⟩
  have hp : 0 < 2 ^ s := Nat.two_pow_pos s
  have hUD : U + 2 ^ s ≤ D := by
    rw [hU, hD]
    have := Nat.mul_le_mul_right (2 ^ s) (show hi + 1 ≤ y by omega)
    rw [Nat.add_mul] at this; omega
  have hLs : L < 2 ^ s := by
    rw [hL, Nat.div_lt_iff_lt_mul (Nat.two_pow_pos _), ← Nat.pow_add, show s + (64 - s) = 64 by omega]; exact hlo
  have e64 : (18446744073709551616 : Nat) = 2 ^ s * 2 ^ (64 - s) := by rw [← Nat.pow_add, show s + (64 - s) = 64 by omega]
  have hsplit : lo * 2 ^ s = L * 18446744073709551616 + z := by
    have h := Nat.div_add_mod (lo * 2 ^ s) 18446744073709551616
    have e : lo * 2 ^ s / 18446744073709551616 = L := by rw [hL, e64, Nat.mul_comm lo, Nat.mul_div_mul_left _ _ hp]
    rw [e, ← hz] at h
    omega
  have hpc : (2 : Int) ^ s = ((2 ^ s : Nat) : Int) := by rw [Int.natCast_pow]; rfl
  have hpc2 : (2 : Int) ^ (64 - s) = ((2 ^ (64 - s) : Nat) : Int) := by rw [Int.natCast_pow]; rfl
  have hz64 : z < 18446744073709551616 := by rw [hz]; exact Nat.mod_lt _ (by omega)
  obtain ⟨u, hu⟩ : ∃ u, u = U + L := ⟨_, rfl⟩
  have huD : u < D := by omega
  have hDs : D = y1 * 4294967296 + y0 ∧ 2147483648 ≤ y1 ∧ y1 < 4294967296 ∧ y0 < 4294967296 ∧ d1 < 4294967296 ∧ d0 < 4294967296 := by omega
  obtain ⟨Q, hQ⟩ : ∃ Q, Q = (u * 4294967296 + d1) / D := ⟨_, rfl⟩
  obtain ⟨qi, hqi⟩ : ∃ qi, qi = u / y1 := ⟨_, rfl⟩
  obtain ⟨ri, hri⟩ : ∃ ri, ri = u % y1 := ⟨_, rfl⟩
  have hqr : qi * y1 + ri = u := by rw [hqi, hri, Nat.mul_comm]; exact Nat.div_add_mod u y1
  have hri1 : ri < y1 := by rw [hri]; exact Nat.mod_lt _ (by omega)
  obtain ⟨p, hpq⟩ : ∃ p, p = qi * y1 := ⟨_, rfl⟩
  have F1 : IntKind.u64.wrap ((y : Int) * 2 ^ s) = (D : Int) := by rw [hpc, ← Int.natCast_mul, ← hD]; exact wrapU _ hn2
  have F2 : (D : Int) / 4294967296 = (y1 : Int) := by omega
  have F3 : bits .and .u64 (D : Int) 4294967295 = (y0 : Int) := by rw [Mul64.maskN D hn2, hy0]
  have F4 : IntKind.u64.wrap ((hi : Int) * 2 ^ s) = (U : Int) := by rw [hpc, ← Int.natCast_mul, ← hU]; exact wrapU _ (by omega)
  have F5 : (lo : Int) / 2 ^ (64 - s) = (L : Int) := by rw [hpc2, hL]; rfl
  have F6 : bits .or .u64 (U : Int) (L : Int) = (u : Int) := by rw [orU s U L (by rw [hU]; exact Nat.mul_mod_left _ _) hLs (by omega) (by omega), ← hu]
  have F7 : IntKind.u64.wrap ((lo : Int) * 2 ^ s) = (z : Int) := by rw [hpc, ← Int.natCast_mul, Mul64.wrapM, ← hz]
  have F8 : (z : Int) / 4294967296 = (d1 : Int) := by omega
  have F9 : bits .and .u64 (z : Int) 4294967295 = (d0 : Int) := by rw [Mul64.maskN z hz64, hd0]
  have F10 : (u : Int) / (y1 : Int) = (qi : Int) := by rw [hqi]; rfl
  have F11 : IntKind.u64.wrap ((qi : Int) * (y1 : Int)) = (p : Int) := by rw [← Int.natCast_mul, ← hpq]; exact wrapU _ (by omega)
  have F12 : IntKind.u64.wrap ((u : Int) - (p : Int)) = (ri : Int) := by rw [show (u : Int) - (p : Int) = ((ri : Nat) : Int) by omega]; exact wrapU _ (by omega)
  have h4 : ¬ ((y1 : Int) = 0) := by omega
  have hQge : Q ≤ qi := by rw [hQ, hqi]; exact half_ge y1 y0 u d1 D hDs.1 (by omega) hDs.2.2.2.2.1
  have hqle : qi ≤ 4294967297 := by rw [hqi]; exact half_le y1 y0 u D hDs.1 hDs.2.1 hDs.2.2.2.1 huD
  have F13 : IntKind.u64.wrap (qi : Int) = (qi : Int) := wrapU _ (by omega)
  have HD := Lib.hid hDs
  have HU := Lib.hid huD
  have HQ := Lib.hid hQ
  have HST := Lib.hid (And.intro hqr (And.intro (show ri < 4294967296 by omega) (And.intro hQge hqle)))
  have HW := Lib.hid (And.intro hsplit (And.intro hu (And.intro hU (And.intro hD (And.intro hd1 hd0)))))
  have hy1b : y1 < 4294967296 := hDs.2.2.1
  clear e64 hpc hpc2 hDs huD hQ hqr hri1 hQge hqle hsplit hu hU hD hd1 hd0 hy1 hy0 hL hz hqi hri hpq
  go_enter Tryz.func180, Tryz.ntmps180
  go_upto_block 0 with (go_at_call 181; refine (HLZ.out _).mono ?_; rintro e w' ⟨rfl, rfl⟩)
  go_cut [15, 16] from 67 to 85 (fun a _b wc => a = .int .u64 (Q : Nat) ∧ wc = w)
  case first =>
    go_wp2_with fail
    go_loopw [15, 16] (fun a b W => ∃ q r : Nat, a = .int .u64 q ∧ b = .int .u64 r ∧ q * y1 + r = u ∧ r < 4294967296 ∧ Q ≤ q ∧ q ≤ 4294967297 ∧ W = w) (fun a _ _ => (intOf a).toNat)
    case atStart => exact ⟨qi, ri, rfl, rfl, HST.out.1, HST.out.2.1, HST.out.2.2.1, HST.out.2.2.2, rfl⟩
    case round =>
      obtain ⟨q, r, rfl, rfl, he, hr, hge, hle, rfl⟩ := hrel
      have HE := Lib.hid he
      obtain ⟨q', hq'⟩ : ∃ q', q' = q - 1 := ⟨_, rfl⟩
      obtain ⟨r', hr'⟩ : ∃ r', r' = r + y1 := ⟨_, rfl⟩
      have g2 : IntKind.u64.wrap ((r : Int) + (y1 : Int)) = (r' : Int) := by rw [hr', ← Int.natCast_add]; exact wrapU _ (by omega)
      by_cases hA : 4294967296 ≤ q
      · have hAi : (4294967296 : Int) ≤ (q : Int) := by omega
        have g1 : IntKind.u64.wrap ((q : Int) - 1) = (q' : Int) := by rw [show (q : Int) - 1 = ((q' : Nat) : Int) by omega]; exact wrapU _ (by omega)
        have hst := half_step q r y1 y0 u d1 D HD.out.1 (by have := HD.out.2; omega) HU.out he (Or.inl hA)
        rw [← HQ.out] at hst
        have he' : q' * y1 + r' = u := by rw [hr', hq', ← he]; exact back_step q r y1 (by omega)
        have HE' := Lib.hid he'
        by_cases hC : 4294967296 ≤ r'
        · have hCi : (4294967296 : Int) ≤ (r' : Int) := by omega
          have hfin := half_break q' r' y1 y0 u d1 D HD.out.1 (by have := HD.out.2; omega) HU.out he' hC (by omega) (by rw [← HQ.out]; omega)
          rw [← HQ.out] at hfin
          have HF := Lib.hid hfin
          clear he he' hq' hr' hst hfin
          go_wp2_with fail
          go_meet
          exact ⟨by rw [HF.out], rfl⟩
        · have hCi : ¬ (4294967296 : Int) ≤ (r' : Int) := by omega
          have HQ' := Lib.hid hq'
          clear he he' hq' hr'
          go_wp2_with fail
          go_roundw
          case rel => exact ⟨q', r', rfl, rfl, HE'.out, by omega, by have := HQ'.out; omega, by have := HQ'.out; omega, by simp⟩
          case measure => (have := HQ'.out; simp [intOf]; omega)
      · have hAi : ¬ (4294967296 : Int) ≤ (q : Int) := by omega
        obtain ⟨m, hm⟩ : ∃ m, q * y0 = m := ⟨_, rfl⟩
        obtain ⟨k, hk⟩ : ∃ k, 4294967296 * r + d1 = k := ⟨_, rfl⟩
        obtain ⟨j, hj⟩ : ∃ j, 4294967296 * r = j := ⟨_, rfl⟩
        have hm2 : q * y0 ≤ 4294967295 * 4294967295 := Nat.mul_le_mul (by omega) (by have := HD.out.2; omega)
        have g3 : IntKind.u64.wrap ((q : Int) * (y0 : Int)) = (m : Int) := by rw [← Int.natCast_mul, hm]; exact wrapU _ (by omega)
        have g4 : IntKind.u64.wrap (4294967296 * (r : Int)) = (j : Int) := by rw [show (4294967296 : Int) * (r : Int) = ((j : Nat) : Int) by omega]; exact wrapU _ (by omega)
        have g5 : IntKind.u64.wrap ((j : Int) + (d1 : Int)) = (k : Int) := by rw [show (j : Int) + (d1 : Int) = ((k : Nat) : Int) by omega]; exact wrapU _ (by have := HD.out.2; omega)
        by_cases hB : k < m
        · have hBi : (k : Int) < (m : Int) := by omega
          have hq0 : 0 < q := by
            rcases Nat.eq_zero_or_pos q with h | h
            · rw [h, Nat.zero_mul] at hm; omega
            · exact h
          have g1 : IntKind.u64.wrap ((q : Int) - 1) = (q' : Int) := by rw [show (q : Int) - 1 = ((q' : Nat) : Int) by omega]; exact wrapU _ (by omega)
          have hst := half_step q r y1 y0 u d1 D HD.out.1 (by have := HD.out.2; omega) HU.out he (Or.inr (by omega))
          rw [← HQ.out] at hst
          have he' : q' * y1 + r' = u := by rw [hr', hq', ← he]; exact back_step q r y1 (by omega)
          have HE' := Lib.hid he'
          by_cases hC : 4294967296 ≤ r'
          · have hCi : (4294967296 : Int) ≤ (r' : Int) := by omega
            have hfin := half_break q' r' y1 y0 u d1 D HD.out.1 (by have := HD.out.2; omega) HU.out he' hC (by omega) (by rw [← HQ.out]; omega)
            rw [← HQ.out] at hfin
            have HF := Lib.hid hfin
            clear he he' hq' hr' hst hm hk hj hfin
            go_wp2_with fail
            go_meet
            exact ⟨by rw [HF.out], rfl⟩
          · have hCi : ¬ (4294967296 : Int) ≤ (r' : Int) := by omega
            have HQ' := Lib.hid hq'
            clear he he' hq' hr' hm hk hj
            go_wp2_with fail
            go_roundw
            case rel => exact ⟨q', r', rfl, rfl, HE'.out, by omega, by have := HQ'.out; omega, by have := HQ'.out; omega, by simp⟩
            case measure => (have := HQ'.out; simp [intOf]; omega)
        · have hBi : ¬ (k : Int) < (m : Int) := by omega
          have hfin := half_done q r y1 y0 u d1 D HD.out.1 HU.out he (by omega) (by rw [← HQ.out]; omega)
          rw [← HQ.out] at hfin
          have HF := Lib.hid hfin
          clear he hq' hr' hm hk hj hfin
          go_wp2_with fail
          go_meet
          exact ⟨by rw [HF.out], rfl⟩
  case rest =>
    obtain ⟨rfl, hwc⟩ := hcut
    have hwc := hwc.symm
    subst hwc
    obtain ⟨R, hR⟩ : ∃ R, R = (u * 4294967296 + d1) % D := ⟨_, rfl⟩
    have hRD : R < D := by rw [hR]; exact Nat.mod_lt _ (by omega)
    have hd1b := HD.out.2.2.2.2.1
    have hd0b := HD.out.2.2.2.2.2
    obtain ⟨m1, hm1⟩ : ∃ m1, m1 = u * 4294967296 % 18446744073709551616 := ⟨_, rfl⟩
    obtain ⟨m2, hm2⟩ : ∃ m2, m2 = (m1 + d1) % 18446744073709551616 := ⟨_, rfl⟩
    obtain ⟨m3, hm3⟩ : ∃ m3, m3 = Q * D % 18446744073709551616 := ⟨_, rfl⟩
    have hrest := half_rest u d1 D Q HU.out (by omega) HQ.out
    rw [← hR] at hrest
    have G1 : IntKind.u64.wrap ((u : Int) * 4294967296) = (m1 : Int) := by rw [IntKind.wrap_u64, hm1]; omega
    have G2 : IntKind.u64.wrap ((m1 : Int) + (d1 : Int)) = (m2 : Int) := by rw [IntKind.wrap_u64, hm2]; omega
    have G3 : IntKind.u64.wrap ((Q : Int) * (D : Int)) = (m3 : Int) := by rw [← Int.natCast_mul, Mul64.wrapM, ← hm3]
    have G4 : IntKind.u64.wrap ((m2 : Int) - (m3 : Int)) = (R : Int) := by
      rw [IntKind.wrap_u64]
      generalize Q * D = P at hm3 hrest
      omega
    obtain ⟨q0, hq0⟩ : ∃ q0, q0 = R / y1 := ⟨_, rfl⟩
    obtain ⟨r0, hr0⟩ : ∃ r0, r0 = R % y1 := ⟨_, rfl⟩
    have hy1p : 0 < y1 := by have := HD.out.2.1; omega
    have hqr0 : q0 * y1 + r0 = R := by rw [hq0, hr0, Nat.mul_comm]; exact Nat.div_add_mod R y1
    have hr01 : r0 < y1 := by rw [hr0]; exact Nat.mod_lt _ hy1p
    obtain ⟨p0, hp0⟩ : ∃ p0, p0 = q0 * y1 := ⟨_, rfl⟩
    obtain ⟨Q0, hQ0⟩ : ∃ Q0, Q0 = (R * 4294967296 + d0) / D := ⟨_, rfl⟩
    have hQ0ge : Q0 ≤ q0 := by rw [hQ0, hq0]; exact half_ge y1 y0 R d0 D HD.out.1 hy1p hd0b
    have hq0le : q0 ≤ 4294967297 := by rw [hq0]; exact half_le y1 y0 R D HD.out.1 HD.out.2.1 HD.out.2.2.2.1 hRD
    have G5 : (R : Int) / (y1 : Int) = (q0 : Int) := by rw [hq0]; rfl
    have G6 : IntKind.u64.wrap (q0 : Int) = (q0 : Int) := wrapU _ (by omega)
    have G7 : IntKind.u64.wrap ((q0 : Int) * (y1 : Int)) = (p0 : Int) := by rw [← Int.natCast_mul, ← hp0]; exact wrapU _ (by omega)
    have G8 : IntKind.u64.wrap ((R : Int) - (p0 : Int)) = (r0 : Int) := by rw [show (R : Int) - (p0 : Int) = ((r0 : Nat) : Int) by omega]; exact wrapU _ (by omega)
    obtain ⟨R0, hR0⟩ : ∃ R0, R0 = (R * 4294967296 + d0) % D := ⟨_, rfl⟩
    have hR0D : R0 < D := by rw [hR0]; exact Nat.mod_lt _ (by omega)
    have hrest0 := half_rest R d0 D Q0 hRD (by omega) hQ0
    rw [← hR0] at hrest0
    obtain ⟨k1, hk1⟩ : ∃ k1, k1 = R * 4294967296 % 18446744073709551616 := ⟨_, rfl⟩
    obtain ⟨k2, hk2⟩ : ∃ k2, k2 = (k1 + d0) % 18446744073709551616 := ⟨_, rfl⟩
    obtain ⟨k3, hk3⟩ : ∃ k3, k3 = Q0 * D % 18446744073709551616 := ⟨_, rfl⟩
    have K1 : IntKind.u64.wrap ((R : Int) * 4294967296) = (k1 : Int) := by rw [IntKind.wrap_u64, hk1]; omega
    have K2 : IntKind.u64.wrap ((k1 : Int) + (d0 : Int)) = (k2 : Int) := by rw [IntKind.wrap_u64, hk2]; omega
    have K3 : IntKind.u64.wrap ((Q0 : Int) * (D : Int)) = (k3 : Int) := by rw [← Int.natCast_mul, Mul64.wrapM, ← hk3]
    have K4 : IntKind.u64.wrap ((k2 : Int) - (k3 : Int)) = (R0 : Int) := by
      rw [IntKind.wrap_u64]
      generalize Q0 * D = P at hk3 hrest0
      omega
    obtain ⟨w1, w2, w3, w4, w5, w6⟩ := HW.out
    have hh := halves u d1 d0 D Q R Q0 R0 (by rw [HQ.out, hR]; exact Nat.div_add_mod _ _) (by rw [hQ0, hR0]; exact Nat.div_add_mod _ _) hR0D
    have hN : u * 18446744073709551616 + (d1 * 4294967296 + d0) = (hi * 18446744073709551616 + lo) * 2 ^ s := by
      rw [Nat.add_mul, w1, w2, w3, Nat.mul_right_comm hi]
      generalize hi * 2 ^ s = A
      omega
    rw [hN, w4, Nat.mul_div_mul_right _ _ (Nat.two_pow_pos s), Nat.mul_mod_mul_right] at hh
    rw [HQR.out.1, HQR.out.2] at hh
    have hQb := half_lt_base u d1 D hd1b HU.out
    rw [← HQ.out] at hQb
    have hQ0b := half_lt_base R d0 D hd0b hRD
    rw [← hQ0] at hQ0b
    obtain ⟨n1, hn1q⟩ : ∃ n1, n1 = Q * 4294967296 := ⟨_, rfl⟩
    have K5 : IntKind.u64.wrap ((Q : Int) * 4294967296) = (n1 : Int) := by rw [show (Q : Int) * 4294967296 = ((n1 : Nat) : Int) by omega]; exact wrapU _ (by omega)
    have K6 : IntKind.u64.wrap ((n1 : Int) + (Q0 : Int)) = (quo : Int) := by rw [show (n1 : Int) + (Q0 : Int) = ((quo : Nat) : Int) by omega]; exact wrapU _ (by omega)
    have K7 : (R0 : Int) / 2 ^ s = (rem : Int) := by
      rw [← hh.2, show (2 : Int) ^ s = ((2 ^ s : Nat) : Int) by rw [Int.natCast_pow]; rfl, ← Int.natCast_ediv, Nat.mul_div_cancel _ (Nat.two_pow_pos s)]
    have HU0 := HU
    have HQ00 := HQ
    clear HU HQ
    have HU := Lib.hid hRD
    have HQ := Lib.hid hQ0
    have HST0 := Lib.hid (And.intro hqr0 (And.intro (show r0 < 4294967296 by omega) (And.intro hQ0ge hq0le)))
    clear hR hm1 hm2 hm3 hrest hq0 hr0 hqr0 hr01 hp0 hQ0 hR0 hrest0 hk1 hk2 hk3 hh hN hn1q w1 w2 w3 w4 w5 w6 hQ0ge hq0le hRD hR0D hQb hQ0b
    go_upto_block 2 with fail
    go_cut [18, 16] from 102 to 120 (fun a _b wc => a = .int .u64 (Q0 : Nat) ∧ wc = w)
    case first =>
      go_wp2_with fail
      go_loopw [18, 16] (fun a b W => ∃ q r : Nat, a = .int .u64 q ∧ b = .int .u64 r ∧ q * y1 + r = R ∧ r < 4294967296 ∧ Q0 ≤ q ∧ q ≤ 4294967297 ∧ W = w) (fun a _ _ => (intOf a).toNat)
      case atStart => exact ⟨q0, r0, rfl, rfl, HST0.out.1, HST0.out.2.1, HST0.out.2.2.1, HST0.out.2.2.2, rfl⟩
      case round =>
        obtain ⟨q, r, rfl, rfl, he, hr, hge, hle, rfl⟩ := hrel
        have HE := Lib.hid he
        obtain ⟨q', hq'⟩ : ∃ q', q' = q - 1 := ⟨_, rfl⟩
        obtain ⟨r', hr'⟩ : ∃ r', r' = r + y1 := ⟨_, rfl⟩
        have g2 : IntKind.u64.wrap ((r : Int) + (y1 : Int)) = (r' : Int) := by rw [hr', ← Int.natCast_add]; exact wrapU _ (by omega)
        by_cases hA : 4294967296 ≤ q
        · have hAi : (4294967296 : Int) ≤ (q : Int) := by omega
          have g1 : IntKind.u64.wrap ((q : Int) - 1) = (q' : Int) := by rw [show (q : Int) - 1 = ((q' : Nat) : Int) by omega]; exact wrapU _ (by omega)
          have hst := half_step q r y1 y0 R d0 D HD.out.1 (by have := HD.out.2; omega) HU.out he (Or.inl hA)
          rw [← HQ.out] at hst
          have he' : q' * y1 + r' = R := by rw [hr', hq', ← he]; exact back_step q r y1 (by omega)
          have HE' := Lib.hid he'
          by_cases hC : 4294967296 ≤ r'
          · have hCi : (4294967296 : Int) ≤ (r' : Int) := by omega
            have hfin := half_break q' r' y1 y0 R d0 D HD.out.1 (by have := HD.out.2; omega) HU.out he' hC (by omega) (by rw [← HQ.out]; omega)
            rw [← HQ.out] at hfin
            have HF := Lib.hid hfin
            clear he he' hq' hr' hst hfin
            go_wp2_with fail
            go_meet
            exact ⟨by rw [HF.out], rfl⟩
          · have hCi : ¬ (4294967296 : Int) ≤ (r' : Int) := by omega
            have HQ' := Lib.hid hq'
            clear he he' hq' hr'
            go_wp2_with fail
            go_roundw
            case rel => exact ⟨q', r', rfl, rfl, HE'.out, by omega, by have := HQ'.out; omega, by have := HQ'.out; omega, by simp⟩
            case measure => (have := HQ'.out; simp [intOf]; omega)
        · have hAi : ¬ (4294967296 : Int) ≤ (q : Int) := by omega
          obtain ⟨m, hm⟩ : ∃ m, q * y0 = m := ⟨_, rfl⟩
          obtain ⟨k, hk⟩ : ∃ k, 4294967296 * r + d0 = k := ⟨_, rfl⟩
          obtain ⟨j, hj⟩ : ∃ j, 4294967296 * r = j := ⟨_, rfl⟩
          have hm2 : q * y0 ≤ 4294967295 * 4294967295 := Nat.mul_le_mul (by omega) (by have := HD.out.2; omega)
          have g3 : IntKind.u64.wrap ((q : Int) * (y0 : Int)) = (m : Int) := by rw [← Int.natCast_mul, hm]; exact wrapU _ (by omega)
          have g4 : IntKind.u64.wrap (4294967296 * (r : Int)) = (j : Int) := by rw [show (4294967296 : Int) * (r : Int) = ((j : Nat) : Int) by omega]; exact wrapU _ (by omega)
          have g5 : IntKind.u64.wrap ((j : Int) + (d0 : Int)) = (k : Int) := by rw [show (j : Int) + (d0 : Int) = ((k : Nat) : Int) by omega]; exact wrapU _ (by have := HD.out.2; omega)
          by_cases hB : k < m
          · have hBi : (k : Int) < (m : Int) := by omega
            have hq0 : 0 < q := by
              rcases Nat.eq_zero_or_pos q with h | h
              · rw [h, Nat.zero_mul] at hm; omega
              · exact h
            have g1 : IntKind.u64.wrap ((q : Int) - 1) = (q' : Int) := by rw [show (q : Int) - 1 = ((q' : Nat) : Int) by omega]; exact wrapU _ (by omega)
            have hst := half_step q r y1 y0 R d0 D HD.out.1 (by have := HD.out.2; omega) HU.out he (Or.inr (by omega))
            rw [← HQ.out] at hst
            have he' : q' * y1 + r' = R := by rw [hr', hq', ← he]; exact back_step q r y1 (by omega)
            have HE' := Lib.hid he'
            by_cases hC : 4294967296 ≤ r'
            · have hCi : (4294967296 : Int) ≤ (r' : Int) := by omega
              have hfin := half_break q' r' y1 y0 R d0 D HD.out.1 (by have := HD.out.2; omega) HU.out he' hC (by omega) (by rw [← HQ.out]; omega)
              rw [← HQ.out] at hfin
              have HF := Lib.hid hfin
              clear he he' hq' hr' hst hm hk hj hfin
              go_wp2_with fail
              go_meet
              exact ⟨by rw [HF.out], rfl⟩
            · have hCi : ¬ (4294967296 : Int) ≤ (r' : Int) := by omega
              have HQ' := Lib.hid hq'
              clear he he' hq' hr' hm hk hj
              go_wp2_with fail
              go_roundw
              case rel => exact ⟨q', r', rfl, rfl, HE'.out, by omega, by have := HQ'.out; omega, by have := HQ'.out; omega, by simp⟩
              case measure => (have := HQ'.out; simp [intOf]; omega)
          · have hBi : ¬ (k : Int) < (m : Int) := by omega
            have hfin := half_done q r y1 y0 R d0 D HD.out.1 HU.out he (by omega) (by rw [← HQ.out]; omega)
            rw [← HQ.out] at hfin
            have HF := Lib.hid hfin
            clear he hq' hr' hm hk hj hfin
            go_wp2_with fail
            go_meet
            exact ⟨by rw [HF.out], rfl⟩
    case rest =>
      obtain ⟨rfl, rfl⟩ := hcut
      go_wp2_with fail
      go_ret2
      exact ⟨rfl, Below.refl _ _⟩
end Go.Proofs.YtpdhffjdgnpikaaGreatDoor

namespace Go.Proofs.YtpdhffjdgnpikaaGreatDoor
open Go.RowKit

/-- Does the operation defer a call? -/
def defersOp (o : Oper) : Bool := match o.op with | .defer _ => true | _ => false

section
variable {P : Program} {ops : Array Oper} {Q : Exit → Act → World → Prop} {md : Region.Mode}

theorem sem_round {o : Oper} (h : defersOp o = false) (ro : Option Nat) (ρ : Operand → Value) : o.semAt ro ρ = execOp ρ o :=
  Oper.semAt_eq ro ρ o fun c hc => by simp [defersOp, hc] at h

theorem wpOp_round {i : Nat} {K : Act → World → Prop} {a : Act} {w : World} (l n : Nat) (hd : ops.all (fun o => !defersOp o) = true) (hQ : ¬ LetsOut Q)
    (h : wpOp P ops Q i K a w) : wpOpIn (Fence.wide.inRound l) n P ops Q i K a w := by
  unfold wpOp at h
  unfold wpOpIn
  cases ho : ops[i]? with
  | none => rw [ho] at h; exact h
  | some o =>
    rw [ho] at h
    dsimp only at h ⊢
    have hdo : defersOp o = false := by
      obtain ⟨hi, rfl⟩ := Array.getElem?_eq_some_iff.1 ho
      have := (Array.all_eq_true.1 hd) i hi
      simpa using this
    by_cases hw : Region.wanted o (yielded ops a.tmps) = true
    · rw [if_pos hw] at h ⊢
      rcases h with h | h
      · refine ⟨fun _ _ => trivial, ?_⟩
        rw [sem_round hdo]
        unfold Oper.wp at h
        generalize (execOp a.eval o).run P w = r at h ⊢
        cases r with
        | ok x w' =>
          cases x with
          | enter f args => exact ⟨fun h0 => by simp [Fence.wide] at h0, (CallsIn.inRound l (callsIn_wide.2 h)).mono (fun e w'' he => by cases e <;> exact he)⟩
          | row row args => exact ⟨fun h0 => by simp [Fence.wide] at h0, fun c cs _ => let ⟨v, w2, r, s⟩ := h c cs; ⟨v, w2, r, stepsIn_wide.2 s⟩⟩
          | value v => exact h
          | skip => exact h
          | defer d => exact h
          | _ => exact h.elim
        | halt x w' => cases x <;> exact h
      · exact absurd h.2 hQ
    · rw [if_neg hw] at h ⊢
      exact ⟨fun _ _ => trivial, h⟩

theorem wpAny_round (l n : Nat) (hd : ops.all (fun o => !defersOp o) = true) (hQ : ¬ LetsOut Q) : ∀ (fuel : Nat) (listed : Array Bool) (a : Act) (w : World),
    wpAny P md ops Q fuel listed a w → wpAnyIn (Fence.wide.inRound l) n P md ops Q fuel listed a w
  | 0, _, _, _, h => h
  | fuel + 1, _, _, _, h => ⟨h.1, fun i hi => wpOpIn_mono (fun a' w' h' => wpAny_round l n hd hQ fuel _ a' w' h') (wpOp_round l n hd hQ (h.2 i hi))⟩

/-- The beginning: S holds behind the draw, and behind every operation that is carried out. -/
theorem region_round {id : Nat} {a : Act} {w : World} (l n : Nat) (S : World → Prop) (hm : P.follows .mixedOrders = true) (hd : ops.all (fun o => !defersOp o) = true) (hQ : ¬ LetsOut Q) (hS : S w.drew)
    (h : S w.drew → wpAnyH P .any ops Q S ops.size (Array.replicate ops.size false) a w.drew) : (Code.region id ops true).wpIn (Fence.wide.inRound l) n P Q a w :=
  wpIn_region_any hm (wpAny_round l n hd hQ _ _ _ _ (wpAny_of_held _ _ _ _ (h hS)))
end
end Go.Proofs.YtpdhffjdgnpikaaGreatDoor

namespace Go.Proofs.YtpdhffjdgnpikaaGreatDoor
open Go.RowKit Go.Shelf
attribute [local go_sem] Oper.semAt_some

theorem div64_any (hi lo y : Nat) (w : World) (hlo : lo < 18446744073709551616) (hy : hi < y) (hyw : y < 18446744073709551616) :
    Calls Tryz.prog 180 #[.int .u64 hi, .int .u64 lo, .int .u64 y] w fun e w' => e = .returned (.tuple #[.int .u64 (((hi * 18446744073709551616 + lo) / y : Nat) : Int), .int .u64 (((hi * 18446744073709551616 + lo) % y : Nat) : Int)]) ∧ Below w.heap.size w w' := by
  by_cases h0 : hi = 0
  · subst h0
    have h := div64_zero lo y w hlo (by omega)
    rw [Nat.zero_mul, Nat.zero_add]
    exact h
  · exact div64_more hi lo y w hlo h0 hy hyw

theorem touch_kept {w W W' : World} {g n B : Nat} {row : Option Nat} (h : Touch w W g 0 n) (hgB : g < B) (hw : w.heap.size ≤ B) (hB : B ≤ W.heap.size) (hg : W.grownBy W' row) (hr : ∀ r, row = some r → B ≤ r) : Touch w W' g 0 n := by
  have hb := hg.block g (by omega) (fun e => by have := hr g e.symm; omega)
  refine ⟨⟨hg.os.trans h.grown.os, hg.tape.trans h.grown.tape, hg.output.trans h.grown.output, Nat.le_trans h.grown.size hg.size, fun k hk hk2 => (hg.block k (by omega) (fun e => by have := hr k e.symm; omega)).trans (h.grown.block k hk hk2)⟩, fun o ho => ?_, fun o => ?_⟩
  · exact (World.cell?_of_block (w := W) (a := ⟨g, o, none⟩) hb).trans (h.cell o ho)
  · exact (World.frozen?_of_block (w := W) (a := ⟨g, o, none⟩) hb).trans (h.frozen o)
theorem touch_set {w W : World} {g n b o : Nat} {v : Value} (h : Touch w W g 0 n) (hb : w.heap.size ≤ b) (hgb : g < w.heap.size) : Touch w (W.setCell ⟨b, o, none⟩ v) g 0 n := by
  have k : Below b W (W.setCell ⟨b, o, none⟩ v) := (Below.refl _ _).setCell (p := ⟨b, o, none⟩) (Nat.le_refl _) _
  refine ⟨⟨k.os.trans h.grown.os, k.tape.trans h.grown.tape, k.output.trans h.grown.output, Nat.le_trans h.grown.size k.size, fun j hj hj2 => (k.block j (by omega)).trans (h.grown.block j hj hj2)⟩, fun o' ho => ?_, fun o' => ?_⟩
  · exact (k.cell (p := ⟨g, o', none⟩) (show g < b by omega)).trans (h.cell o' ho)
  · exact (k.frozen (p := ⟨g, o', none⟩) (show g < b by omega)).trans (h.frozen o')

/-- One digit of a division by a word. -/
theorem word_step (d r c : Nat) (hr : r < d) (hc : c < 18446744073709551616) (V q : Nat) (hv : V = d * q + r) :
    c + 18446744073709551616 * V = d * ((r * 18446744073709551616 + c) / d + 18446744073709551616 * q) + (r * 18446744073709551616 + c) % d ∧ (r * 18446744073709551616 + c) / d < 18446744073709551616 := by
  have h := Nat.div_add_mod (r * 18446744073709551616 + c) d
  refine ⟨?_, ?_⟩
  · rw [hv, Nat.mul_add, Nat.mul_add, Nat.mul_left_comm d 18446744073709551616 q]
    omega
  · rw [Nat.div_lt_iff_lt_mul (by omega)]
    omega
theorem take_mid (xs qs : List Nat) (j v : Nat) (hj : j < xs.length) : (xs.take (j + 1) ++ qs).set j v = xs.take j ++ (v :: qs) := by
  have hl : (xs.take j).length = j := by rw [List.length_take]; omega
  rw [List.take_succ_eq_append_getElem hj, List.append_assoc, List.set_append_right _ _ (by omega), hl, Nat.sub_self]
  rfl
theorem mid_at (xs qs : List Nat) (j : Nat) (hj : j < xs.length) : (xs.take (j + 1) ++ qs).getD j 0 = wat xs j := by
  rw [List.getD_eq_getElem?_getD, List.getElem?_append_left (by rw [List.length_take]; omega), List.getElem?_take_of_lt (by omega), ← List.getD_eq_getElem?_getD]; rfl
theorem wv_drop (xs : List Nat) (j : Nat) (hj : j < xs.length) : wv (xs.drop j) = wat xs j + 18446744073709551616 * wv (xs.drop (j + 1)) := by
  rw [List.drop_eq_getElem_cons hj, wv]
  unfold wat
  rw [List.getD_eq_getElem?_getD, List.getElem?_eq_getElem hj]; rfl

/-- What the loop of divideWord keeps. -/
structure WordInv (w W0 W : World) (g d j : Nat) (xs qs : List Nat) (r : Nat) : Prop where
  row : Row W g 0 (xs.take j ++ qs)
  len : j + qs.length = xs.length
  ok : Ok qs
  lt : r < d
  val : wv (xs.drop j) = d * wv qs + r
  touch : Touch w W g 0 xs.length
  size : W0.heap.size ≤ W.heap.size

theorem word_round {w W0 W w2 : World} {g d j B2 : Nat} {xs qs : List Nat} {r q m : Nat} (h : WordInv w W0 W g d (j + 1) xs qs r) (hb : Below W.drew.heap.size W.drew w2) (hg : g < w.heap.size) (hB : w.heap.size ≤ B2) (hj : j < xs.length) (hm : m < d)
    (hst : wat xs j + 18446744073709551616 * wv (xs.drop (j + 1)) = d * (q + 18446744073709551616 * wv qs) + m ∧ q < 18446744073709551616) :
    WordInv w W0 ((w2.setCell ⟨g, j, none⟩ (.int .u64 (q : Nat))).setCell ⟨B2, 0, none⟩ (.int .u64 (m : Nat))) g d j xs (q :: qs) m := by
  have hb' : Below W.heap.size W w2 := ((Below.refl W.heap.size W).drew).trans hb
  have hgW : g < W.heap.size := by have := h.touch.grown.size; omega
  have hrow := (h.row.below hb' hgW).set j q (by have := h.len; rw [List.length_append, List.length_take]; omega)
  rw [take_mid xs qs j q hj, Nat.zero_add] at hrow
  refine ⟨hrow.other (by omega), by have := h.len; rw [List.length_cons]; omega, Ok.cons hst.2 h.ok, hm, ?_, touch_set ((h.touch.below hb' hg).set (Nat.zero_le _) (by omega) _) hB hg, ?_⟩
  · rw [wv_drop xs j hj, hst.1]; rfl
  · have h1 := h.size
    have h2 := hb'.size
    simp [World.setCell]; omega
theorem keepsFrom_below {B : Nat} {X Y : World} (h : Below X.heap.size X Y) : KeepsFrom B X Y := ⟨h.size, fun k _ _ hi _ => (h.block k (Array.getElem?_eq_some_iff.1 hi).1).trans hi⟩

end Go.Proofs.YtpdhffjdgnpikaaGreatDoor

namespace Go.Proofs.YtpdhffjdgnpikaaGreatDoor
open Go.RowKit Go.Shelf
attribute [local go_sem] Oper.semAt_some

set_option maxHeartbeats 4000000 in
set_option maxRecDepth 100000 in
theorem divWord_any (g cap d : Nat) (xs : List Nat) (w : World) (hx : Row w g 0 xs) (hg : g < w.heap.size) (hox : Ok xs) (hd : 0 < d) (hdw : d < 18446744073709551616) (hn : xs.length ≤ 1048576) :
    Calls Tryz.prog 155 #[.slice (some ⟨g, 0, none⟩) xs.length cap, .int .u64 d] w fun e w' =>
      ∃ (qs : List Nat) (r : Nat), e = .returned (.int .u64 r) ∧ wv xs = d * wv qs + r ∧ r < d ∧ qs.length = xs.length ∧ Ok qs ∧ Row w' g 0 qs ∧ Touch w w' g 0 xs.length := by
  have HX := Lib.hid hx
  clear hx
  refine (callsIn_wide (n := 4)).1 ?_
  refine callsIn_of_wp_marks Tryz.func155 rfl trivial ?_ rfl
  simp only [Tryz.ntmps155, List.size_toArray, List.length_cons, List.length_nil, Nat.reduceAdd, Nat.reduceSub, Array.replicate_succ, Array.replicate_zero, List.push_toArray, List.append_toArray, List.nil_append, List.cons_append]
  gi_wp2_with (refine ⟨trivial, ?_⟩; gi_at_call 170; refine (callsIn_wide.2 (backN_make _ _ _ _)).mono ?_; rintro e w' ⟨rfl, rfl⟩)
  obtain ⟨W0, hW0⟩ : ∃ W0, ((((w.alloc (Obj.cells #[Value.slice (some ⟨g, 0, none⟩) xs.length cap] 90)).alloc (Obj.cells #[Value.int .u64 (d : Nat)] 85)).alloc (Obj.cells #[Value.int .u64 0] 85)).alloc (Obj.cells #[Value.slice (some ⟨g, 0, none⟩) xs.length cap] 90)) = W0 := ⟨_, rfl⟩
  have hz0 : W0.heap.size = w.heap.size + 1 + 1 + 1 + 1 := by rw [← hW0]; simp
  have hw0 : Below w.heap.size w W0 := by rw [← hW0]; exact ((((Below.refl _ w).alloc (Nat.le_refl _) _).alloc (by simp) _).alloc (by simp; omega) _).alloc (by simp; omega) _
  have hbX : Box w.heap.size (.slice (some ⟨g, 0, none⟩) xs.length cap) W0 := by
    rw [← hW0]
    exact (box_new w _ _).below (B0 := w.heap.size + 1) ((((Below.refl _ _).alloc (by simp) _).alloc (by simp) _).alloc (by simp) _) (by omega)
  have hbD : Box (w.heap.size + 1) (.int .u64 (d : Nat)) W0 := by
    rw [← hW0]
    have h := box_new (w.alloc (Obj.cells #[Value.slice (some ⟨g, 0, none⟩) xs.length cap] 90)) (.int .u64 (d : Nat)) 85
    rw [World.size_alloc] at h
    exact h.below (B0 := w.heap.size + 1 + 1) (((Below.refl _ _).alloc (by simp) _).alloc (by simp) _) (by omega)
  have hbR : Box (w.heap.size + 1 + 1) (.int .u64 (0 : Nat)) W0 := by
    rw [← hW0]
    have h := box_new ((w.alloc (Obj.cells #[Value.slice (some ⟨g, 0, none⟩) xs.length cap] 90)).alloc (Obj.cells #[Value.int .u64 (d : Nat)] 85)) (.int .u64 0) 85
    rw [World.size_alloc, World.size_alloc] at h
    exact h.below (B0 := w.heap.size + 1 + 1 + 1) ((Below.refl _ _).alloc (by simp) _) (by omega)
  have hbI : Box (w.heap.size + 1 + 1 + 1) (.slice (some ⟨g, 0, none⟩) xs.length cap) W0 := by
    rw [← hW0]
    have h := box_new (((w.alloc (Obj.cells #[Value.slice (some ⟨g, 0, none⟩) xs.length cap] 90)).alloc (Obj.cells #[Value.int .u64 (d : Nat)] 85)).alloc (Obj.cells #[Value.int .u64 0] 85)) (.slice (some ⟨g, 0, none⟩) xs.length cap) 90
    rw [World.size_alloc, World.size_alloc, World.size_alloc] at h
    exact h
  have hinv : WordInv w W0 W0 g d xs.length xs [] 0 :=
    ⟨by rw [List.append_nil, List.take_of_length_le (Nat.le_refl _)]; exact HX.out.below hw0 hg, by simp, Ok.nil, hd, by rw [List.drop_length]; rfl, (Touch.refl w g 0 xs.length).below hw0 hg, Nat.le_refl _⟩
  rw [hW0]
  have HINV := Lib.hid hinv
  clear hW0 HX hinv
  refine wide_back (N := xs.length) (xv := wat xs) rfl (enters_of Tryz.func201 (by kernel_rfl) rfl) rfl
    (backN_seq _ (w.heap.size + 1 + 1 + 1) (some ⟨g, 0, none⟩) xs.length cap (wat xs) (by omega)) (fun o o' => ?st)
    (fun j W => Box w.heap.size (.slice (some ⟨g, 0, none⟩) xs.length cap) W ∧ Box (w.heap.size + 1) (.int .u64 (d : Nat)) W ∧ Box (w.heap.size + 1 + 1 + 1) (.slice (some ⟨g, 0, none⟩) xs.length cap) W ∧ ∃ (qs : List Nat) (r : Nat), Box (w.heap.size + 1 + 1) (.int .u64 (r : Nat)) W ∧ WordInv w W0 W g d j xs qs r)
    (fun _ => False) ?hI ?hIR ?h0 ?hRd ?a1 ?assign ?body ?done ?stop
  case st => exact ((hbI.below (B0 := W0.heap.size) (((Below.refl _ W0).alloc (Nat.le_refl _) _).alloc (by simp) _) (by omega))).1
  case hI =>
    intro s A B row hs hgr hr
    obtain ⟨h1, h2, h3, qs, r, h4, h5⟩ := hs
    have hr' : ∀ r, row = some r → ∃ o : Obj, A.heap[r]? = some o ∧ o.isCells = false := fun r e => (hr r e).2
    exact ⟨h1.kept hgr hr', h2.kept hgr hr', h3.kept hgr hr', qs, r, h4.kept hgr hr', h5.row.kept hgr hr', h5.len, h5.ok, h5.lt, h5.val, touch_kept h5.touch (B := W0.heap.size) (by omega) (by omega) h5.size hgr (fun r e => (hr r e).1), Nat.le_trans h5.size hgr.size⟩
  case hIR => intro s A B row hs hgr hr; exact hs
  case h0 => exact ⟨hbX, hbD, hbI, [], 0, hbR, HINV.out⟩
  case hRd =>
    intro j W hj hs
    obtain ⟨h1, h2, h3, qs, r, h4, h5⟩ := hs
    have hc := (h5.row j (by rw [List.length_append, List.length_take]; omega)).1
    rw [mid_at xs qs j hj] at hc
    exact ⟨h3.1, g, 0, rfl, hc⟩
  case assign =>
    intro l j W K hK
    gi_wp2
    exact hK
  case body =>
    intro l j W hj hs
    obtain ⟨h1, h2, h3, qs, r, h4, h5⟩ := hs
    obtain ⟨x, hx⟩ : ∃ x, wat xs j = x := ⟨_, rfl⟩
    have hxl : x < 18446744073709551616 := by rw [← hx]; exact hox.getD j
    have hst := word_step d r x h5.lt hxl (wv (xs.drop (j + 1))) (wv qs) h5.val
    have hdv := fun W' => div64_any r x d W' hxl h5.lt hdw
    obtain ⟨q, hq⟩ : ∃ q, (r * 18446744073709551616 + x) / d = q := ⟨_, rfl⟩
    obtain ⟨m, hm⟩ : ∃ m, (r * 18446744073709551616 + x) % d = m := ⟨_, rfl⟩
    have hmd : m < d := by rw [← hm]; exact Nat.mod_lt _ hd
    rw [hq, hm] at hst
    rw [hq, hm] at hdv
    have k1 := h1.1
    have k2 := h2.1
    have k4 := h4.1
    have hjl := h5.len
    have hcj := h5.row j (by rw [List.length_append, List.length_take]; omega)
    rw [Nat.zero_add] at hcj
    have HS := Lib.hid (And.intro h1 (And.intro h2 (And.intro h3 (And.intro h4 (And.intro h5 hcj)))))
    have HST := Lib.hid (And.intro hst hmd)
    have HXX := Lib.hid hx
    have HDV := Lib.hid hdv
    have hji : (j : Int) < (xs.length : Int) := by omega
    rw [hx]
    clear h1 h2 h3 h4 h5 hst hdv hx hq hm hcj hjl
    have hsz : w.heap.size + 1 + 1 + 1 + 1 ≤ W.heap.size := by have := HS.out.2.2.2.2.1.size; omega
    have facts : ∀ w2, Below W.drew.heap.size W.drew w2 → w2.cell? ⟨w.heap.size, 0, none⟩ = some (.slice (some ⟨g, 0, none⟩) xs.length cap) ∧ w2.cell? ⟨w.heap.size + 1 + 1, 0, none⟩ = some (.int .u64 (r : Nat)) ∧ w2.frozen? ⟨w.heap.size + 1 + 1, 0, none⟩ = false ∧ w2.cell? ⟨g, j, none⟩ = some (.int .u64 (((xs.take (j + 1) ++ qs).getD j 0 : Nat) : Int)) ∧ w2.frozen? ⟨g, j, none⟩ = false := by
      intro w2 hb
      have d1 : Box w.heap.size (.slice (some ⟨g, 0, none⟩) xs.length cap) W.drew := HS.out.1
      have d4 : Box (w.heap.size + 1 + 1) (.int .u64 (r : Nat)) W.drew := HS.out.2.2.2.1
      have e1 := d1.below hb (by show w.heap.size < W.heap.size; omega)
      have e4 := d4.below hb (by show w.heap.size + 1 + 1 < W.heap.size; omega)
      exact ⟨e1.1, e4.1, e4.2, (hb.cell (p := ⟨g, j, none⟩) (by show g < W.heap.size; omega)).trans HS.out.2.2.2.2.2.1, (hb.frozen (p := ⟨g, j, none⟩) (by show g < W.heap.size; omega)).trans HS.out.2.2.2.2.2.2⟩
    have FACTS := Lib.hid facts
    clear facts
    gi_wp2_with fail
    have ne1 : ¬ (g = w.heap.size + 1 + 1) := by omega
    have ne2 : ¬ (w.heap.size + 1 + 1 = g) := by omega
    have ne3 : ¬ (w.heap.size = g) := by omega
    have ne4 : ¬ (g = w.heap.size) := by omega
    have HJ := Lib.hid hj
    have HSZ := Lib.hid hsz
    clear hxl hmd hsz hj
    refine region_round l _ (fun w' => w'.cell? ⟨w.heap.size, 0, none⟩ = some (.slice (some ⟨g, 0, none⟩) xs.length cap) ∧ w'.cell? ⟨w.heap.size + 1, 0, none⟩ = some (.int .u64 (d : Nat))) (by kernel_rfl) (by kernel_rfl) (by rintro ⟨a, w, h⟩; exact h) ⟨k1, k2⟩ (fun hHeld => ?_)
    (refine wpAnyH_take (i := 1) (v := ?v1) rfl (by kernel_rfl) (by kernel_rfl) (by kernel_rfl) (fun _ _ _ h => h) (Or.inl ⟨by rfl, ?hy1⟩) (by assumption) ?_; case hy1 => (intro w2 hS2; (try dsimp only at hS2); go_simp; try with_reducible rfl); try simp only [Act.put, List.setIfInBounds_toArray, List.set_cons_zero, List.set_cons_succ])
    (refine wpAnyH_take (i := 3) (v := ?v3) rfl (by kernel_rfl) (by kernel_rfl) (by kernel_rfl) (fun _ _ _ h => h) (Or.inl ⟨by rfl, ?hy3⟩) (by assumption) ?_; case hy3 => (intro w2 hS2; (try dsimp only at hS2); go_simp; try with_reducible rfl); try simp only [Act.put, List.setIfInBounds_toArray, List.set_cons_zero, List.set_cons_succ])
    (refine wpAnyH_take (i := 0) (v := ?v0) rfl (by kernel_rfl) (by kernel_rfl) (by kernel_rfl) (fun _ _ _ h => h) (Or.inl ⟨by rfl, ?hy0⟩) (by assumption) ?_; case hy0 => (intro w2 hS2; (try dsimp only at hS2); go_simp; try with_reducible rfl); try simp only [Act.put, List.setIfInBounds_toArray, List.set_cons_zero, List.set_cons_succ])
    (refine wpAnyH_take (i := 4) (v := ?v4) rfl (by kernel_rfl) (by kernel_rfl) (by kernel_rfl) (fun _ _ _ h => h) (Or.inl ⟨by rfl, ?hy4⟩) (by assumption) ?_; case hy4 => (intro w2 hS2; (try dsimp only at hS2); go_simp; try with_reducible rfl); try simp only [Act.put, List.setIfInBounds_toArray, List.set_cons_zero, List.set_cons_succ])
    refine wpAnyH_ready (rs := [2]) (by kernel_rfl) (by simp) ?_
    refine AllReadyH.cons rfl (fun K hK => ?_) AllReadyH.nil
    go_simp
    refine hK.out _ _ hHeld (fun _ => ?_)
    clear hK K
    try simp only [Act.put, List.setIfInBounds_toArray, List.set_cons_zero, List.set_cons_succ]
    refine wpAnyH_ready (rs := [5]) (by kernel_rfl) (by simp) ?_
    refine AllReadyH.cons rfl (fun K hK => ?_) AllReadyH.nil
    go_simp
    go_at_call 180
    refine (HDV.out _).mono ?_
    rintro e w2 ⟨rfl, hb⟩
    obtain ⟨l1, l4, l5, l6, l7⟩ := FACTS.out _ hb
    have l2 : w2.cell? ⟨w.heap.size + 1, 0, none⟩ = some (.int .u64 (d : Nat)) := by
      have d2 : Box (w.heap.size + 1) (.int .u64 (d : Nat)) W.drew := HS.out.2.1
      exact (d2.below hb (by show w.heap.size + 1 < W.heap.size; have := HSZ.out; omega)).1
    have H2 := Lib.hid hb
    clear hb
    go_simp
    refine hK.out _ _ ⟨l1, l2⟩ (fun hHeld2 => ?_)
    clear hK K
    try simp only [Act.put, List.setIfInBounds_toArray, List.set_cons_zero, List.set_cons_succ]
    clear hHeld
    (refine wpAnyH_take (i := 6) (v := ?v6) rfl (by kernel_rfl) (by kernel_rfl) (by kernel_rfl) (fun _ _ _ h => h) (Or.inl ⟨by rfl, ?hy6⟩) (by assumption) ?_; case hy6 => (intro w2 hS2; (try dsimp only at hS2); go_simp; try with_reducible rfl); try simp only [Act.put, List.setIfInBounds_toArray, List.set_cons_zero, List.set_cons_succ])
    (refine wpAnyH_take (i := 7) (v := ?v7) rfl (by kernel_rfl) (by kernel_rfl) (by kernel_rfl) (fun _ _ _ h => h) (Or.inl ⟨by rfl, ?hy7⟩) (by assumption) ?_; case hy7 => (intro w2 hS2; (try dsimp only at hS2); go_simp; try with_reducible rfl); try simp only [Act.put, List.setIfInBounds_toArray, List.set_cons_zero, List.set_cons_succ])
    (refine wpAnyH_take (i := 8) (v := ?v8) rfl (by kernel_rfl) (by kernel_rfl) (by kernel_rfl) (fun _ _ _ h => h) (Or.inl ⟨by rfl, ?hy8⟩) (by assumption) ?_; case hy8 => (intro w2 hS2; (try dsimp only at hS2); go_simp; try with_reducible rfl); try simp only [Act.put, List.setIfInBounds_toArray, List.set_cons_zero, List.set_cons_succ])
    (refine wpAnyH_take (i := 9) (v := ?v9) rfl (by kernel_rfl) (by kernel_rfl) (by kernel_rfl) (fun _ _ _ h => h) (Or.inl ⟨by rfl, ?hy9⟩) (by assumption) ?_; case hy9 => (intro w2 hS2; (try dsimp only at hS2); go_simp; try with_reducible rfl); try simp only [Act.put, List.setIfInBounds_toArray, List.set_cons_zero, List.set_cons_succ])
    refine wpAnyH_ready (rs := [10]) (by kernel_rfl) (by simp) ?_
    refine AllReadyH.cons rfl (fun K hK => ?_) AllReadyH.nil
    go_simp
    have ne5 : ¬ (g = w.heap.size + 1) := by omega
    refine hK.out _ _ ⟨(World.cell?_setCell_other _ _ _ _ (by intro e; have := congrArg Addr.block e; simp at this; omega)).trans l1, (World.cell?_setCell_other _ _ _ _ (by intro e; have := congrArg Addr.block e; simp at this; omega)).trans l2⟩ (fun hHeld3 => ?_)
    clear hK K hHeld2
    refine wpAnyH_ready (rs := [11]) (by kernel_rfl) (by simp) ?_
    refine AllReadyH.cons rfl (fun K hK => ?_) AllReadyH.nil
    go_simp
    refine hK.out _ _ ⟨(World.cell?_setCell_other _ _ _ _ (fun e => by have : w.heap.size + 1 + 1 = w.heap.size := congrArg Addr.block e; omega)).trans hHeld3.1, (World.cell?_setCell_other _ _ _ _ (fun e => by have : w.heap.size + 1 + 1 = w.heap.size + 1 := congrArg Addr.block e; omega)).trans hHeld3.2⟩ (fun _ => ?_)
    clear hK K hHeld3
    refine wpAnyH_done (by kernel_rfl) ?_ _
    have hfin := word_round (B2 := w.heap.size + 1 + 1) HS.out.2.2.2.2.1 H2.out hg (by omega) HJ.out HST.out.2 (by rw [HXX.out]; exact HST.out.1)
    have hb' : Below W.heap.size W w2 := ((Below.refl W.heap.size W).drew).trans H2.out
    have hz := HSZ.out
    refine ⟨((keepsFrom_below hb').trans ((KeepsOthers.setCell _ _ _).from _)).trans ((KeepsOthers.setCell _ _ _).from _), ?_⟩
    exact ⟨((HS.out.1.below hb' (by omega)).other (by omega)).other (by omega), ((HS.out.2.1.below hb' (by omega)).other (by omega)).other (by omega), ((HS.out.2.2.1.below hb' (by omega)).other (by omega)).other (by omega), _, _, ((HS.out.2.2.2.1.below hb' (by omega)).other (by omega)).set _, hfin⟩
  case done =>
    intro D W hD hs hK
    obtain ⟨h1, h2, h3, qs, r, h4, h5⟩ := hs
    have k4 := h4.1
    have hr' : ∀ r, some D = some r → ∃ o : Obj, W.heap[r]? = some o ∧ o.isCells = false := fun r e => by cases e; exact ⟨_, hK, rfl⟩
    have hg2 := grownBy_putObj' W D (.deferred none)
    have hrow := h5.row.kept hg2 hr'
    have htch := touch_kept h5.touch (B := W0.heap.size) (by omega) (by omega) h5.size hg2 (fun r e => by cases e; exact hD)
    have hval := h5.val
    rw [List.take_zero, List.nil_append] at hrow
    rw [List.drop_zero] at hval
    have hlen := h5.len
    have HF := Lib.hid (And.intro hval (And.intro h5.lt (And.intro (show qs.length = xs.length by omega) (And.intro h5.ok (And.intro hrow htch)))))
    have HK := Lib.hid hK
    clear h1 h2 h3 h4 h5 hr' hg2 hrow htch hval hlen hK
    gi_wp2
    refine ⟨by simp, .inl ⟨_, _, rfl, run_takeDeferred HK.out, ?_⟩⟩
    exact ⟨.int .u64 (r : Nat), by simp [results, Tryz.results155, go_sem], qs, r, rfl, HF.out⟩
  case stop =>
    intro D W hD hs hK
    exact hs.elim
end Go.Proofs.YtpdhffjdgnpikaaGreatDoor

namespace Go.Proofs.YtpdhffjdgnpikaaGreatDoor

/-- r is the square root of n, rounded down. -/
def IsRoot (n r : Nat) : Prop := r * r ≤ n ∧ n < (r + 1) * (r + 1)

theorem isRoot_le {n r s : Nat} (h : r * r ≤ n) (h' : n < (s + 1) * (s + 1)) : r ≤ s := by
  rcases Nat.lt_or_ge s r with hlt | hge
  · have : (s + 1) * (s + 1) ≤ r * r := Nat.mul_le_mul hlt hlt
    omega
  · exact hge
theorem IsRoot.unique {n r s : Nat} (h : IsRoot n r) (h' : IsRoot n s) : r = s :=
  Nat.le_antisymm (isRoot_le h.1 h'.2) (isRoot_le h'.1 h.2)
theorem isRoot_ex (n : Nat) : ∃ r, IsRoot n r := by
  induction n with
  | zero => exact ⟨0, Nat.le_refl _, by omega⟩
  | succ n ih =>
    obtain ⟨r, h1, h2⟩ := ih
    by_cases h : n + 1 < (r + 1) * (r + 1)
    · exact ⟨r, by omega, h⟩
    · refine ⟨r + 1, by omega, ?_⟩
      have : (r + 1) * (r + 1) < (r + 1 + 1) * (r + 1 + 1) := Nat.mul_lt_mul_of_lt_of_lt (by omega) (by omega)
      omega
/-- One of Newton's steps does not fall below the root. -/
theorem newton_ge {n r g : Nat} (h : r * r ≤ n) (hg : 0 < g) : r ≤ (g + n / g) / 2 := by
  have key : 2 * r - g ≤ n / g := by
    rw [Nat.le_div_iff_mul_le hg]
    refine Nat.le_trans ?_ h
    rcases Nat.le_total g r with hgr | hgr
    · obtain ⟨t, rfl⟩ := Nat.exists_eq_add_of_le hgr
      have e : 2 * (g + t) - g = g + 2 * t := by omega
      rw [e, Nat.add_mul, Nat.mul_add, Nat.add_mul, Nat.add_mul, Nat.mul_assoc, Nat.mul_comm g t]
      omega
    · obtain ⟨t, rfl⟩ := Nat.exists_eq_add_of_le hgr
      rcases Nat.le_total r t with hrt | hrt
      · have e : 2 * r - (r + t) = 0 := by omega
        rw [e, Nat.zero_mul]; exact Nat.zero_le _
      · obtain ⟨s, rfl⟩ := Nat.exists_eq_add_of_le hrt
        have e : 2 * (t + s) - (t + s + t) = s := by omega
        rw [e, Nat.mul_add, Nat.mul_add, Nat.mul_add, Nat.add_mul, Nat.add_mul, Nat.mul_comm s t]
        omega
  omega
/-- A step that does not go down has found it. -/
theorem newton_stop {n r g : Nat} (h : IsRoot n r) (hg : 0 < g) (hr : r ≤ g) (hs : g ≤ (g + n / g) / 2) : g = r := by
  have h1 : g ≤ n / g := by omega
  rw [Nat.le_div_iff_mul_le hg] at h1
  have := isRoot_le h1 h.2
  omega
/-- The quotient is not much greater than the root. -/
theorem newton_small {n r g : Nat} (h : IsRoot n r) (hg : 0 < g) (hr : r ≤ g) : n / g ≤ r + 2 := by
  rcases Nat.eq_zero_or_pos r with h0 | h0
  · subst h0
    have h2 := h.2
    have : n = 0 := by omega
    subst this
    simp
  · have : n / g < r + 3 := by
      rw [Nat.div_lt_iff_lt_mul hg]
      refine Nat.lt_of_lt_of_le h.2 ?_
      have h3 : (r + 3) * r ≤ (r + 3) * g := Nat.mul_le_mul_left _ hr
      refine Nat.le_trans ?_ h3
      rw [Nat.add_mul, Nat.mul_add, Nat.add_mul]
      omega
    omega
end Go.Proofs.YtpdhffjdgnpikaaGreatDoor

namespace Go.Proofs.YtpdhffjdgnpikaaGreatDoor
open Go.RowKit Go.Shelf

theorem len64_ex (y : Nat) (hy : y < 18446744073709551616) : ∃ k : Nat, k ≤ 64 ∧ y < 2 ^ k ∧
    ∀ w : World, Calls Tryz.prog 116 #[.int .u64 y] w fun e w' => e = .returned (.int .i64 (k : Nat)) ∧ w = w' := by
  have hc : ∀ w : World, Calls Tryz.prog 116 #[.int .u64 y] w fun e w' => e = .returned (.int .i64 (Lib.bitLen (y : Int).toNat)) ∧ w' = w := fun w => Any.bits_Len64 Tryz.lays129 y w (by omega) (by omega)
  have hl := Any.bitLen_le64 (y : Int) (by omega) (by omega)
  rw [Int.toNat_natCast] at hl
  refine ⟨Lib.bitLen y, hl, ?_, fun w => (hc w).mono ?_⟩
  · by_cases h0 : y = 0
    · subst h0; exact Nat.two_pow_pos _
    · exact (bitLen_bound 64 y hy h0).2.2
  · rintro e w' ⟨rfl, rfl⟩
    exact ⟨by rw [Int.toNat_natCast], rfl⟩

end Go.Proofs.YtpdhffjdgnpikaaGreatDoor
