/- The contract of bits.Div64. -/
import Derived.Test.YtmbnkokcpmkpgaaGreatDoorDivMath
import Derived.Test.YtmbnkokcpmkpgaaGreatDoorWord
import Derived.Test.YtmbnkokcpmkpgaaGreatDoorBits
import Derived.Test.YtmbnkokcpmkpgaaGreatDoorArith
import Derived.Deep.CutRange
import Derived.Deep.CutBlock
import Derived.BigQuiet
import Derived.Deep.QuietTactic
import Derived.Deep.CutBlock
import Derived.BigQuiet
import Derived.Deep.QuietTactic
namespace Go.Proofs.YtmbnkokcpmkpgaaGreatDoor
open Go.RowKit Go.Shelf

theorem bitLen_bound : ∀ f x : Nat, x < 2 ^ f → x ≠ 0 → 0 < Lib.bitLenAux f x ∧ 2 ^ (Lib.bitLenAux f x - 1) ≤ x ∧ x < 2 ^ Lib.bitLenAux f x
  | 0, x, h, h0 => by simp at h; omega
  | f + 1, x, h, h0 => by
    unfold Lib.bitLenAux
    rw [if_neg h0]
    by_cases h1 : x / 2 = 0
    · have hx : x = 1 := by omega
      subst hx
      have : Lib.bitLenAux f (1 / 2) = 0 := by cases f <;> simp [Lib.bitLenAux]
      rw [this]; simp
    · obtain ⟨a, b, c⟩ := bitLen_bound f (x / 2) (by rw [Nat.pow_succ] at h; omega) h1
      generalize Lib.bitLenAux f (x / 2) = k at *
      obtain ⟨j, rfl⟩ : ∃ j, k = j + 1 := ⟨k - 1, by omega⟩
      rw [show 1 + (j + 1) - 1 = j + 1 by omega, show 1 + (j + 1) = (j + 1) + 1 by omega]
      simp only [Nat.pow_succ, Nat.add_sub_cancel] at *
      omega


theorem lz_ex (y : Nat) (h0 : 0 < y) (hy : y < 18446744073709551616) : ∃ s : Nat, s ≤ 63 ∧ 9223372036854775808 ≤ y * 2 ^ s ∧ y * 2 ^ s < 18446744073709551616 ∧
    ∀ w : World, Calls Tryz.prog 92 #[.int .u64 y] w fun e w' => e = .returned (.int .i64 (s : Nat)) ∧ w = w' := by
  obtain ⟨a, b, c⟩ := bitLen_bound 64 y hy (by omega)
  have hc : ∀ w : World, Calls Tryz.prog 92 #[.int .u64 y] w fun e w' => e = .returned (.int .i64 (64 - (Lib.bitLen (y : Int).toNat : Int))) ∧ w' = w := fun w => Any.bits_LeadingZeros64 Tryz.lays134 y w (by omega) (by omega)
  have hl := Any.bitLen_le64 (y : Int) (by omega) (by omega)
  rw [Int.toNat_natCast] at hl
  have hbl : Lib.bitLen y = Lib.bitLenAux 64 y := rfl
  rw [hbl] at hl
  refine ⟨64 - Lib.bitLenAux 64 y, by omega, ?_, ?_, fun w => (hc w).mono ?_⟩
  · have := Nat.mul_le_mul_right (2 ^ (64 - Lib.bitLenAux 64 y)) b
    rw [← Nat.pow_add, show Lib.bitLenAux 64 y - 1 + (64 - Lib.bitLenAux 64 y) = 63 by omega] at this
    exact this
  · have := Nat.mul_lt_mul_of_pos_right c (Nat.two_pow_pos (64 - Lib.bitLenAux 64 y))
    rw [← Nat.pow_add, show Lib.bitLenAux 64 y + (64 - Lib.bitLenAux 64 y) = 64 by omega] at this
    exact this
  · rintro e w' ⟨rfl, rfl⟩
    refine ⟨?_, rfl⟩
    rw [Int.toNat_natCast, hbl, Int.natCast_sub hl]; rfl

theorem back_step (q r y1 : Nat) (h : 0 < q) : (q - 1) * y1 + (r + y1) = q * y1 + r := by
  obtain ⟨k, rfl⟩ : ∃ k, q = k + 1 := ⟨q - 1, by omega⟩
  rw [Nat.add_sub_cancel, Nat.add_mul]; omega

set_option maxHeartbeats 1000000 in
set_option maxRecDepth 100000 in
theorem div64_zero (lo y : Nat) (w : World) (hlo : lo < 18446744073709551616) (h0 : 0 < y) :
    Calls Tryz.prog 116 #[.int .u64 (0 : Nat), .int .u64 lo, .int .u64 y] w fun e w' => e = .returned (.tuple #[.int .u64 ((lo / y : Nat) : Int), .int .u64 ((lo % y : Nat) : Int)]) ∧ Below w.heap.size w w' := by
  have h1 : ¬ ((y : Int) = 0) := by omega
  have h2 : ¬ ((y : Int) ≤ 0) := by omega
  obtain ⟨qq, hqq⟩ : ∃ qq, lo / y = qq := ⟨_, rfl⟩
  obtain ⟨rr, hrr⟩ : ∃ rr, lo % y = rr := ⟨_, rfl⟩
  have hle : qq ≤ lo := by rw [← hqq]; exact Nat.div_le_self _ _
  have g1 : (lo : Int) / (y : Int) = (qq : Int) := by rw [← hqq]; rfl
  have g2 : IntKind.u64.wrap (qq : Int) = (qq : Int) := wrapU _ (by omega)
  have g3 : (lo : Int) % (y : Int) = (rr : Int) := by rw [← hrr]; rfl
  rw [hqq, hrr]
  clear hqq hrr hle
  go_enter Tryz.func116, Tryz.ntmps116
  go_wp2_with fail
  go_quiet (fail)
  go_wp2_with fail
  go_ret2
  refine ⟨?_, below_draws _ _ _⟩
  show Ending.returned (.tuple #[.int .u64 (qq : Int), .int .u64 ((lo : Int) % (y : Int))]) = _
  rw [g3]

set_option maxHeartbeats 4000000 in
set_option maxRecDepth 100000 in
theorem div64_more (hi lo y : Nat) (w : World) (hlo : lo < 18446744073709551616) (h0 : hi ≠ 0) (hy : hi < y) (hyw : y < 18446744073709551616) :
    Calls Tryz.prog 116 #[.int .u64 hi, .int .u64 lo, .int .u64 y] w fun e w' => e = .returned (.tuple #[.int .u64 (((hi * 18446744073709551616 + lo) / y : Nat) : Int), .int .u64 (((hi * 18446744073709551616 + lo) % y : Nat) : Int)]) ∧ Below w.heap.size w w' := by
  obtain ⟨quo, hquo⟩ : ∃ quo, (hi * 18446744073709551616 + lo) / y = quo := ⟨_, rfl⟩
  obtain ⟨rem, hrem⟩ : ∃ rem, (hi * 18446744073709551616 + lo) % y = rem := ⟨_, rfl⟩
  rw [hquo, hrem]
  have HQR := Lib.hid (And.intro hquo hrem)
  clear hquo hrem
  have h1 : ¬ ((y : Int) = 0) := by omega
  have h2 : ¬ ((y : Int) ≤ (hi : Int)) := by omega
  have h3 : ¬ ((hi : Int) = 0) := by omega
  obtain ⟨s, hs, hn1, hn2, hlz⟩ := lz_ex y (by omega) hyw
  have HLZ := Lib.hid hlz
  clear hlz
  obtain ⟨D, hD⟩ : ∃ D, D = y * 2 ^ s := ⟨_, rfl⟩
  rw [← hD] at hn1 hn2
  obtain ⟨y1, hy1⟩ : ∃ y1, y1 = D / 4294967296 := ⟨_, rfl⟩
  obtain ⟨y0, hy0⟩ : ∃ y0, y0 = D % 4294967296 := ⟨_, rfl⟩
  obtain ⟨U, hU⟩ : ∃ U, U = hi * 2 ^ s := ⟨_, rfl⟩
  obtain ⟨L, hL⟩ : ∃ L, L = lo / 2 ^ (64 - s) := ⟨_, rfl⟩
  obtain ⟨z, hz⟩ : ∃ z, z = lo * 2 ^ s % 18446744073709551616 := ⟨_, rfl⟩
  obtain ⟨d1, hd1⟩ : ∃ d1, d1 = z / 4294967296 := ⟨_, rfl⟩
  obtain ⟨d0, hd0⟩ : ∃ d0, d0 = z % 4294967296 := ⟨_, rfl⟩
  have hp : 0 < 2 ^ s := Nat.two_pow_pos s
  have hUD : U + 2 ^ s ≤ D := by
    rw [hU, hD]
    have := Nat.mul_le_mul_right (2 ^ s) (show hi + 1 ≤ y by omega)
    rw [Nat.add_mul] at this; omega
  have hLs : L < 2 ^ s := by
    rw [hL, Nat.div_lt_iff_lt_mul (Nat.two_pow_pos _), ← Nat.pow_add, show s + (64 - s) = 64 by omega]; exact hlo
  have e64 : (18446744073709551616 : Nat) = 2 ^ s * 2 ^ (64 - s) := by rw [← Nat.pow_add, show s + (64 - s) = 64 by omega]
  have hsplit : lo * 2 ^ s = L * 18446744073709551616 + z := by
    have h := Nat.div_add_mod (lo * 2 ^ s) 18446744073709551616
    have e : lo * 2 ^ s / 18446744073709551616 = L := by rw [hL, e64, Nat.mul_comm lo, Nat.mul_div_mul_left _ _ hp]
    rw [e, ← hz] at h
    omega
  have hpc : (2 : Int) ^ s = ((2 ^ s : Nat) : Int) := by rw [Int.natCast_pow]; rfl
  have hpc2 : (2 : Int) ^ (64 - s) = ((2 ^ (64 - s) : Nat) : Int) := by rw [Int.natCast_pow]; rfl
  have hz64 : z < 18446744073709551616 := by rw [hz]; exact Nat.mod_lt _ (by omega)
  obtain ⟨u, hu⟩ : ∃ u, u = U + L := ⟨_, rfl⟩
  have huD : u < D := by omega
  have hDs : D = y1 * 4294967296 + y0 ∧ 2147483648 ≤ y1 ∧ y1 < 4294967296 ∧ y0 < 4294967296 ∧ d1 < 4294967296 ∧ d0 < 4294967296 := by omega
  obtain ⟨Q, hQ⟩ : ∃ Q, Q = (u * 4294967296 + d1) / D := ⟨_, rfl⟩
  obtain ⟨qi, hqi⟩ : ∃ qi, qi = u / y1 := ⟨_, rfl⟩
  obtain ⟨ri, hri⟩ : ∃ ri, ri = u % y1 := ⟨_, rfl⟩
  have hqr : qi * y1 + ri = u := by rw [hqi, hri, Nat.mul_comm]; exact Nat.div_add_mod u y1
  have hri1 : ri < y1 := by rw [hri]; exact Nat.mod_lt _ (by omega)
  obtain ⟨p, hpq⟩ : ∃ p, p = qi * y1 := ⟨_, rfl⟩
  have F1 : IntKind.u64.wrap ((y : Int) * 2 ^ s) = (D : Int) := by rw [hpc, ← Int.natCast_mul, ← hD]; exact wrapU _ hn2
  have F2 : (D : Int) / 4294967296 = (y1 : Int) := by omega
  have F3 : bits .and .u64 (D : Int) 4294967295 = (y0 : Int) := by rw [Mul64.maskN D hn2, hy0]
  have F4 : IntKind.u64.wrap ((hi : Int) * 2 ^ s) = (U : Int) := by rw [hpc, ← Int.natCast_mul, ← hU]; exact wrapU _ (by omega)
  have F5 : (lo : Int) / 2 ^ (64 - s) = (L : Int) := by rw [hpc2, hL]; rfl
  have F6 : bits .or .u64 (U : Int) (L : Int) = (u : Int) := by rw [orU s U L (by rw [hU]; exact Nat.mul_mod_left _ _) hLs (by omega) (by omega), ← hu]
  have F7 : IntKind.u64.wrap ((lo : Int) * 2 ^ s) = (z : Int) := by rw [hpc, ← Int.natCast_mul, Mul64.wrapM, ← hz]
  have F8 : (z : Int) / 4294967296 = (d1 : Int) := by omega
  have F9 : bits .and .u64 (z : Int) 4294967295 = (d0 : Int) := by rw [Mul64.maskN z hz64, hd0]
  have F10 : (u : Int) / (y1 : Int) = (qi : Int) := by rw [hqi]; rfl
  have F11 : IntKind.u64.wrap ((qi : Int) * (y1 : Int)) = (p : Int) := by rw [← Int.natCast_mul, ← hpq]; exact wrapU _ (by omega)
  have F12 : IntKind.u64.wrap ((u : Int) - (p : Int)) = (ri : Int) := by rw [show (u : Int) - (p : Int) = ((ri : Nat) : Int) by omega]; exact wrapU _ (by omega)
  have h4 : ¬ ((y1 : Int) = 0) := by omega
  have hQge : Q ≤ qi := by rw [hQ, hqi]; exact half_ge y1 y0 u d1 D hDs.1 (by omega) hDs.2.2.2.2.1
  have hqle : qi ≤ 4294967297 := by rw [hqi]; exact half_le y1 y0 u D hDs.1 hDs.2.1 hDs.2.2.2.1 huD
  have F13 : IntKind.u64.wrap (qi : Int) = (qi : Int) := wrapU _ (by omega)
  have HD := Lib.hid hDs
  have HU := Lib.hid huD
  have HQ := Lib.hid hQ
  have HST := Lib.hid (And.intro hqr (And.intro (show ri < 4294967296 by omega) (And.intro hQge hqle)))
  have HW := Lib.hid (And.intro hsplit (And.intro hu (And.intro hU (And.intro hD (And.intro hd1 hd0)))))
  have hy1b : y1 < 4294967296 := hDs.2.2.1
  clear e64 hpc hpc2 hDs huD hQ hqr hri1 hQge hqle hsplit hu hU hD hd1 hd0 hy1 hy0 hL hz hqi hri hpq
  go_enter Tryz.func116, Tryz.ntmps116
  go_upto_block 0 with (go_at_call 92; refine (HLZ.out _).mono ?_; rintro e w' ⟨rfl, rfl⟩)
  go_cut [15, 16] from 67 to 85 (fun a _b wc => a = .int .u64 (Q : Nat) ∧ wc = w)
  case first =>
    go_wp2_with fail
    go_loopw [15, 16] (fun a b W => ∃ q r : Nat, a = .int .u64 q ∧ b = .int .u64 r ∧ q * y1 + r = u ∧ r < 4294967296 ∧ Q ≤ q ∧ q ≤ 4294967297 ∧ W = w) (fun a _ _ => (intOf a).toNat)
    case atStart => exact ⟨qi, ri, rfl, rfl, HST.out.1, HST.out.2.1, HST.out.2.2.1, HST.out.2.2.2, rfl⟩
    case round =>
      obtain ⟨q, r, rfl, rfl, he, hr, hge, hle, rfl⟩ := hrel
      have HE := Lib.hid he
      obtain ⟨q', hq'⟩ : ∃ q', q' = q - 1 := ⟨_, rfl⟩
      obtain ⟨r', hr'⟩ : ∃ r', r' = r + y1 := ⟨_, rfl⟩
      have g2 : IntKind.u64.wrap ((r : Int) + (y1 : Int)) = (r' : Int) := by rw [hr', ← Int.natCast_add]; exact wrapU _ (by omega)
      by_cases hA : 4294967296 ≤ q
      · have hAi : (4294967296 : Int) ≤ (q : Int) := by omega
        have g1 : IntKind.u64.wrap ((q : Int) - 1) = (q' : Int) := by rw [show (q : Int) - 1 = ((q' : Nat) : Int) by omega]; exact wrapU _ (by omega)
        have hst := half_step q r y1 y0 u d1 D HD.out.1 (by have := HD.out.2; omega) HU.out he (Or.inl hA)
        rw [← HQ.out] at hst
        have he' : q' * y1 + r' = u := by rw [hr', hq', ← he]; exact back_step q r y1 (by omega)
        have HE' := Lib.hid he'
        by_cases hC : 4294967296 ≤ r'
        · have hCi : (4294967296 : Int) ≤ (r' : Int) := by omega
          have hfin := half_break q' r' y1 y0 u d1 D HD.out.1 (by have := HD.out.2; omega) HU.out he' hC (by omega) (by rw [← HQ.out]; omega)
          rw [← HQ.out] at hfin
          have HF := Lib.hid hfin
          clear he he' hq' hr' hst hfin
          go_wp2_with fail
          go_meet
          exact ⟨by rw [HF.out], rfl⟩
        · have hCi : ¬ (4294967296 : Int) ≤ (r' : Int) := by omega
          have HQ' := Lib.hid hq'
          clear he he' hq' hr'
          go_wp2_with fail
          go_roundw
          case rel => exact ⟨q', r', rfl, rfl, HE'.out, by omega, by have := HQ'.out; omega, by have := HQ'.out; omega, by simp⟩
          case measure => (have := HQ'.out; simp [intOf]; omega)
      · have hAi : ¬ (4294967296 : Int) ≤ (q : Int) := by omega
        obtain ⟨m, hm⟩ : ∃ m, q * y0 = m := ⟨_, rfl⟩
        obtain ⟨k, hk⟩ : ∃ k, 4294967296 * r + d1 = k := ⟨_, rfl⟩
        obtain ⟨j, hj⟩ : ∃ j, 4294967296 * r = j := ⟨_, rfl⟩
        have hm2 : q * y0 ≤ 4294967295 * 4294967295 := Nat.mul_le_mul (by omega) (by have := HD.out.2; omega)
        have g3 : IntKind.u64.wrap ((q : Int) * (y0 : Int)) = (m : Int) := by rw [← Int.natCast_mul, hm]; exact wrapU _ (by omega)
        have g4 : IntKind.u64.wrap (4294967296 * (r : Int)) = (j : Int) := by rw [show (4294967296 : Int) * (r : Int) = ((j : Nat) : Int) by omega]; exact wrapU _ (by omega)
        have g5 : IntKind.u64.wrap ((j : Int) + (d1 : Int)) = (k : Int) := by rw [show (j : Int) + (d1 : Int) = ((k : Nat) : Int) by omega]; exact wrapU _ (by have := HD.out.2; omega)
        by_cases hB : k < m
        · have hBi : (k : Int) < (m : Int) := by omega
          have hq0 : 0 < q := by
            rcases Nat.eq_zero_or_pos q with h | h
            · rw [h, Nat.zero_mul] at hm; omega
            · exact h
          have g1 : IntKind.u64.wrap ((q : Int) - 1) = (q' : Int) := by rw [show (q : Int) - 1 = ((q' : Nat) : Int) by omega]; exact wrapU _ (by omega)
          have hst := half_step q r y1 y0 u d1 D HD.out.1 (by have := HD.out.2; omega) HU.out he (Or.inr (by omega))
          rw [← HQ.out] at hst
          have he' : q' * y1 + r' = u := by rw [hr', hq', ← he]; exact back_step q r y1 (by omega)
          have HE' := Lib.hid he'
          by_cases hC : 4294967296 ≤ r'
          · have hCi : (4294967296 : Int) ≤ (r' : Int) := by omega
            have hfin := half_break q' r' y1 y0 u d1 D HD.out.1 (by have := HD.out.2; omega) HU.out he' hC (by omega) (by rw [← HQ.out]; omega)
            rw [← HQ.out] at hfin
            have HF := Lib.hid hfin
            clear he he' hq' hr' hst hm hk hj hfin
            go_wp2_with fail
            go_meet
            exact ⟨by rw [HF.out], rfl⟩
          · have hCi : ¬ (4294967296 : Int) ≤ (r' : Int) := by omega
            have HQ' := Lib.hid hq'
            clear he he' hq' hr' hm hk hj
            go_wp2_with fail
            go_roundw
            case rel => exact ⟨q', r', rfl, rfl, HE'.out, by omega, by have := HQ'.out; omega, by have := HQ'.out; omega, by simp⟩
            case measure => (have := HQ'.out; simp [intOf]; omega)
        · have hBi : ¬ (k : Int) < (m : Int) := by omega
          have hfin := half_done q r y1 y0 u d1 D HD.out.1 HU.out he (by omega) (by rw [← HQ.out]; omega)
          rw [← HQ.out] at hfin
          have HF := Lib.hid hfin
          clear he hq' hr' hm hk hj hfin
          go_wp2_with fail
          go_meet
          exact ⟨by rw [HF.out], rfl⟩
  case rest =>
    obtain ⟨rfl, hwc⟩ := hcut
    have hwc := hwc.symm
    subst hwc
    obtain ⟨R, hR⟩ : ∃ R, R = (u * 4294967296 + d1) % D := ⟨_, rfl⟩
    have hRD : R < D := by rw [hR]; exact Nat.mod_lt _ (by omega)
    have hd1b := HD.out.2.2.2.2.1
    have hd0b := HD.out.2.2.2.2.2
    obtain ⟨m1, hm1⟩ : ∃ m1, m1 = u * 4294967296 % 18446744073709551616 := ⟨_, rfl⟩
    obtain ⟨m2, hm2⟩ : ∃ m2, m2 = (m1 + d1) % 18446744073709551616 := ⟨_, rfl⟩
    obtain ⟨m3, hm3⟩ : ∃ m3, m3 = Q * D % 18446744073709551616 := ⟨_, rfl⟩
    have hrest := half_rest u d1 D Q HU.out (by omega) HQ.out
    rw [← hR] at hrest
    have G1 : IntKind.u64.wrap ((u : Int) * 4294967296) = (m1 : Int) := by rw [IntKind.wrap_u64, hm1]; omega
    have G2 : IntKind.u64.wrap ((m1 : Int) + (d1 : Int)) = (m2 : Int) := by rw [IntKind.wrap_u64, hm2]; omega
    have G3 : IntKind.u64.wrap ((Q : Int) * (D : Int)) = (m3 : Int) := by rw [← Int.natCast_mul, Mul64.wrapM, ← hm3]
    have G4 : IntKind.u64.wrap ((m2 : Int) - (m3 : Int)) = (R : Int) := by
      rw [IntKind.wrap_u64]
      generalize Q * D = P at hm3 hrest
      omega
    obtain ⟨q0, hq0⟩ : ∃ q0, q0 = R / y1 := ⟨_, rfl⟩
    obtain ⟨r0, hr0⟩ : ∃ r0, r0 = R % y1 := ⟨_, rfl⟩
    have hy1p : 0 < y1 := by have := HD.out.2.1; omega
    have hqr0 : q0 * y1 + r0 = R := by rw [hq0, hr0, Nat.mul_comm]; exact Nat.div_add_mod R y1
    have hr01 : r0 < y1 := by rw [hr0]; exact Nat.mod_lt _ hy1p
    obtain ⟨p0, hp0⟩ : ∃ p0, p0 = q0 * y1 := ⟨_, rfl⟩
    obtain ⟨Q0, hQ0⟩ : ∃ Q0, Q0 = (R * 4294967296 + d0) / D := ⟨_, rfl⟩
    have hQ0ge : Q0 ≤ q0 := by rw [hQ0, hq0]; exact half_ge y1 y0 R d0 D HD.out.1 hy1p hd0b
    have hq0le : q0 ≤ 4294967297 := by rw [hq0]; exact half_le y1 y0 R D HD.out.1 HD.out.2.1 HD.out.2.2.2.1 hRD
    have G5 : (R : Int) / (y1 : Int) = (q0 : Int) := by rw [hq0]; rfl
    have G6 : IntKind.u64.wrap (q0 : Int) = (q0 : Int) := wrapU _ (by omega)
    have G7 : IntKind.u64.wrap ((q0 : Int) * (y1 : Int)) = (p0 : Int) := by rw [← Int.natCast_mul, ← hp0]; exact wrapU _ (by omega)
    have G8 : IntKind.u64.wrap ((R : Int) - (p0 : Int)) = (r0 : Int) := by rw [show (R : Int) - (p0 : Int) = ((r0 : Nat) : Int) by omega]; exact wrapU _ (by omega)
    obtain ⟨R0, hR0⟩ : ∃ R0, R0 = (R * 4294967296 + d0) % D := ⟨_, rfl⟩
    have hR0D : R0 < D := by rw [hR0]; exact Nat.mod_lt _ (by omega)
    have hrest0 := half_rest R d0 D Q0 hRD (by omega) hQ0
    rw [← hR0] at hrest0
    obtain ⟨k1, hk1⟩ : ∃ k1, k1 = R * 4294967296 % 18446744073709551616 := ⟨_, rfl⟩
    obtain ⟨k2, hk2⟩ : ∃ k2, k2 = (k1 + d0) % 18446744073709551616 := ⟨_, rfl⟩
    obtain ⟨k3, hk3⟩ : ∃ k3, k3 = Q0 * D % 18446744073709551616 := ⟨_, rfl⟩
    have K1 : IntKind.u64.wrap ((R : Int) * 4294967296) = (k1 : Int) := by rw [IntKind.wrap_u64, hk1]; omega
    have K2 : IntKind.u64.wrap ((k1 : Int) + (d0 : Int)) = (k2 : Int) := by rw [IntKind.wrap_u64, hk2]; omega
    have K3 : IntKind.u64.wrap ((Q0 : Int) * (D : Int)) = (k3 : Int) := by rw [← Int.natCast_mul, Mul64.wrapM, ← hk3]
    have K4 : IntKind.u64.wrap ((k2 : Int) - (k3 : Int)) = (R0 : Int) := by
      rw [IntKind.wrap_u64]
      generalize Q0 * D = P at hk3 hrest0
      omega
    obtain ⟨w1, w2, w3, w4, w5, w6⟩ := HW.out
    have hh := halves u d1 d0 D Q R Q0 R0 (by rw [HQ.out, hR]; exact Nat.div_add_mod _ _) (by rw [hQ0, hR0]; exact Nat.div_add_mod _ _) hR0D
    have hN : u * 18446744073709551616 + (d1 * 4294967296 + d0) = (hi * 18446744073709551616 + lo) * 2 ^ s := by
      rw [Nat.add_mul, w1, w2, w3, Nat.mul_right_comm hi]
      generalize hi * 2 ^ s = A
      omega
    rw [hN, w4, Nat.mul_div_mul_right _ _ (Nat.two_pow_pos s), Nat.mul_mod_mul_right] at hh
    rw [HQR.out.1, HQR.out.2] at hh
    have hQb := half_lt_base u d1 D hd1b HU.out
    rw [← HQ.out] at hQb
    have hQ0b := half_lt_base R d0 D hd0b hRD
    rw [← hQ0] at hQ0b
    obtain ⟨n1, hn1q⟩ : ∃ n1, n1 = Q * 4294967296 := ⟨_, rfl⟩
    have K5 : IntKind.u64.wrap ((Q : Int) * 4294967296) = (n1 : Int) := by rw [show (Q : Int) * 4294967296 = ((n1 : Nat) : Int) by omega]; exact wrapU _ (by omega)
    have K6 : IntKind.u64.wrap ((n1 : Int) + (Q0 : Int)) = (quo : Int) := by rw [show (n1 : Int) + (Q0 : Int) = ((quo : Nat) : Int) by omega]; exact wrapU _ (by omega)
    have K7 : (R0 : Int) / 2 ^ s = (rem : Int) := by
      rw [← hh.2, show (2 : Int) ^ s = ((2 ^ s : Nat) : Int) by rw [Int.natCast_pow]; rfl, ← Int.natCast_ediv, Nat.mul_div_cancel _ (Nat.two_pow_pos s)]
    have HU0 := HU
    have HQ00 := HQ
    clear HU HQ
    have HU := Lib.hid hRD
    have HQ := Lib.hid hQ0
    have HST0 := Lib.hid (And.intro hqr0 (And.intro (show r0 < 4294967296 by omega) (And.intro hQ0ge hq0le)))
    clear hR hm1 hm2 hm3 hrest hq0 hr0 hqr0 hr01 hp0 hQ0 hR0 hrest0 hk1 hk2 hk3 hh hN hn1q w1 w2 w3 w4 w5 w6 hQ0ge hq0le hRD hR0D hQb hQ0b
    go_upto_block 2 with fail
    go_cut [18, 16] from 102 to 120 (fun a _b wc => a = .int .u64 (Q0 : Nat) ∧ wc = w)
    case first =>
      go_wp2_with fail
      go_loopw [18, 16] (fun a b W => ∃ q r : Nat, a = .int .u64 q ∧ b = .int .u64 r ∧ q * y1 + r = R ∧ r < 4294967296 ∧ Q0 ≤ q ∧ q ≤ 4294967297 ∧ W = w) (fun a _ _ => (intOf a).toNat)
      case atStart => exact ⟨q0, r0, rfl, rfl, HST0.out.1, HST0.out.2.1, HST0.out.2.2.1, HST0.out.2.2.2, rfl⟩
      case round =>
        obtain ⟨q, r, rfl, rfl, he, hr, hge, hle, rfl⟩ := hrel
        have HE := Lib.hid he
        obtain ⟨q', hq'⟩ : ∃ q', q' = q - 1 := ⟨_, rfl⟩
        obtain ⟨r', hr'⟩ : ∃ r', r' = r + y1 := ⟨_, rfl⟩
        have g2 : IntKind.u64.wrap ((r : Int) + (y1 : Int)) = (r' : Int) := by rw [hr', ← Int.natCast_add]; exact wrapU _ (by omega)
        by_cases hA : 4294967296 ≤ q
        · have hAi : (4294967296 : Int) ≤ (q : Int) := by omega
          have g1 : IntKind.u64.wrap ((q : Int) - 1) = (q' : Int) := by rw [show (q : Int) - 1 = ((q' : Nat) : Int) by omega]; exact wrapU _ (by omega)
          have hst := half_step q r y1 y0 R d0 D HD.out.1 (by have := HD.out.2; omega) HU.out he (Or.inl hA)
          rw [← HQ.out] at hst
          have he' : q' * y1 + r' = R := by rw [hr', hq', ← he]; exact back_step q r y1 (by omega)
          have HE' := Lib.hid he'
          by_cases hC : 4294967296 ≤ r'
          · have hCi : (4294967296 : Int) ≤ (r' : Int) := by omega
            have hfin := half_break q' r' y1 y0 R d0 D HD.out.1 (by have := HD.out.2; omega) HU.out he' hC (by omega) (by rw [← HQ.out]; omega)
            rw [← HQ.out] at hfin
            have HF := Lib.hid hfin
            clear he he' hq' hr' hst hfin
            go_wp2_with fail
            go_meet
            exact ⟨by rw [HF.out], rfl⟩
          · have hCi : ¬ (4294967296 : Int) ≤ (r' : Int) := by omega
            have HQ' := Lib.hid hq'
            clear he he' hq' hr'
            go_wp2_with fail
            go_roundw
            case rel => exact ⟨q', r', rfl, rfl, HE'.out, by omega, by have := HQ'.out; omega, by have := HQ'.out; omega, by simp⟩
            case measure => (have := HQ'.out; simp [intOf]; omega)
        · have hAi : ¬ (4294967296 : Int) ≤ (q : Int) := by omega
          obtain ⟨m, hm⟩ : ∃ m, q * y0 = m := ⟨_, rfl⟩
          obtain ⟨k, hk⟩ : ∃ k, 4294967296 * r + d0 = k := ⟨_, rfl⟩
          obtain ⟨j, hj⟩ : ∃ j, 4294967296 * r = j := ⟨_, rfl⟩
          have hm2 : q * y0 ≤ 4294967295 * 4294967295 := Nat.mul_le_mul (by omega) (by have := HD.out.2; omega)
          have g3 : IntKind.u64.wrap ((q : Int) * (y0 : Int)) = (m : Int) := by rw [← Int.natCast_mul, hm]; exact wrapU _ (by omega)
          have g4 : IntKind.u64.wrap (4294967296 * (r : Int)) = (j : Int) := by rw [show (4294967296 : Int) * (r : Int) = ((j : Nat) : Int) by omega]; exact wrapU _ (by omega)
          have g5 : IntKind.u64.wrap ((j : Int) + (d0 : Int)) = (k : Int) := by rw [show (j : Int) + (d0 : Int) = ((k : Nat) : Int) by omega]; exact wrapU _ (by have := HD.out.2; omega)
          by_cases hB : k < m
          · have hBi : (k : Int) < (m : Int) := by omega
            have hq0 : 0 < q := by
              rcases Nat.eq_zero_or_pos q with h | h
              · rw [h, Nat.zero_mul] at hm; omega
              · exact h
            have g1 : IntKind.u64.wrap ((q : Int) - 1) = (q' : Int) := by rw [show (q : Int) - 1 = ((q' : Nat) : Int) by omega]; exact wrapU _ (by omega)
            have hst := half_step q r y1 y0 R d0 D HD.out.1 (by have := HD.out.2; omega) HU.out he (Or.inr (by omega))
            rw [← HQ.out] at hst
            have he' : q' * y1 + r' = R := by rw [hr', hq', ← he]; exact back_step q r y1 (by omega)
            have HE' := Lib.hid he'
            by_cases hC : 4294967296 ≤ r'
            · have hCi : (4294967296 : Int) ≤ (r' : Int) := by omega
              have hfin := half_break q' r' y1 y0 R d0 D HD.out.1 (by have := HD.out.2; omega) HU.out he' hC (by omega) (by rw [← HQ.out]; omega)
              rw [← HQ.out] at hfin
              have HF := Lib.hid hfin
              clear he he' hq' hr' hst hm hk hj hfin
              go_wp2_with fail
              go_meet
              exact ⟨by rw [HF.out], rfl⟩
            · have hCi : ¬ (4294967296 : Int) ≤ (r' : Int) := by omega
              have HQ' := Lib.hid hq'
              clear he he' hq' hr' hm hk hj
              go_wp2_with fail
              go_roundw
              case rel => exact ⟨q', r', rfl, rfl, HE'.out, by omega, by have := HQ'.out; omega, by have := HQ'.out; omega, by simp⟩
              case measure => (have := HQ'.out; simp [intOf]; omega)
          · have hBi : ¬ (k : Int) < (m : Int) := by omega
            have hfin := half_done q r y1 y0 R d0 D HD.out.1 HU.out he (by omega) (by rw [← HQ.out]; omega)
            rw [← HQ.out] at hfin
            have HF := Lib.hid hfin
            clear he hq' hr' hm hk hj hfin
            go_wp2_with fail
            go_meet
            exact ⟨by rw [HF.out], rfl⟩
    case rest =>
      obtain ⟨rfl, rfl⟩ := hcut
      go_wp2_with fail
      go_ret2
      exact ⟨rfl, Below.refl _ _⟩
end Go.Proofs.YtmbnkokcpmkpgaaGreatDoor
