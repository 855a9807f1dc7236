/- The contract of bigint.wordRoot. -/
import Derived.Test.YtmbnkokcpmkpgaaGreatDoorWords
import Derived.Test.YtmbnkokcpmkpgaaGreatDoorDiv64
import Derived.Outline
namespace Go.Proofs.YtmbnkokcpmkpgaaGreatDoor

/-- r is the square root of n, rounded down. -/
def IsRoot (n r : Nat) : Prop := r * r ≤ n ∧ n < (r + 1) * (r + 1)

theorem isRoot_le {n r s : Nat} (h : r * r ≤ n) (h' : n < (s + 1) * (s + 1)) : r ≤ s := by
  rcases Nat.lt_or_ge s r with hlt | hge
  · have : (s + 1) * (s + 1) ≤ r * r := Nat.mul_le_mul hlt hlt
    omega
  · exact hge
theorem IsRoot.unique {n r s : Nat} (h : IsRoot n r) (h' : IsRoot n s) : r = s :=
  Nat.le_antisymm (isRoot_le h.1 h'.2) (isRoot_le h'.1 h.2)
theorem isRoot_ex (n : Nat) : ∃ r, IsRoot n r := by
  induction n with
  | zero => exact ⟨0, Nat.le_refl _, by omega⟩
  | succ n ih =>
    obtain ⟨r, h1, h2⟩ := ih
    by_cases h : n + 1 < (r + 1) * (r + 1)
    · exact ⟨r, by omega, h⟩
    · refine ⟨r + 1, by omega, ?_⟩
      have : (r + 1) * (r + 1) < (r + 1 + 1) * (r + 1 + 1) := Nat.mul_lt_mul_of_lt_of_lt (by omega) (by omega)
      omega
/-- One of Newton's steps does not fall below the root. -/
theorem newton_ge {n r g : Nat} (h : r * r ≤ n) (hg : 0 < g) : r ≤ (g + n / g) / 2 := by
  have key : 2 * r - g ≤ n / g := by
    rw [Nat.le_div_iff_mul_le hg]
    refine Nat.le_trans ?_ h
    rcases Nat.le_total g r with hgr | hgr
    · obtain ⟨t, rfl⟩ := Nat.exists_eq_add_of_le hgr
      have e : 2 * (g + t) - g = g + 2 * t := by omega
      rw [e, Nat.add_mul, Nat.mul_add, Nat.add_mul, Nat.add_mul, Nat.mul_assoc, Nat.mul_comm g t]
      omega
    · obtain ⟨t, rfl⟩ := Nat.exists_eq_add_of_le hgr
      rcases Nat.le_total r t with hrt | hrt
      · have e : 2 * r - (r + t) = 0 := by omega
        rw [e, Nat.zero_mul]; exact Nat.zero_le _
      · obtain ⟨s, rfl⟩ := Nat.exists_eq_add_of_le hrt
        have e : 2 * (t + s) - (t + s + t) = s := by omega
        rw [e, Nat.mul_add, Nat.mul_add, Nat.mul_add, Nat.add_mul, Nat.add_mul, Nat.mul_comm s t]
        omega
  omega
/-- A step that does not go down has found it. -/
theorem newton_stop {n r g : Nat} (h : IsRoot n r) (hg : 0 < g) (hr : r ≤ g) (hs : g ≤ (g + n / g) / 2) : g = r := by
  have h1 : g ≤ n / g := by omega
  rw [Nat.le_div_iff_mul_le hg] at h1
  have := isRoot_le h1 h.2
  omega
/-- The quotient is not much greater than the root. -/
theorem newton_small {n r g : Nat} (h : IsRoot n r) (hg : 0 < g) (hr : r ≤ g) : n / g ≤ r + 2 := by
  rcases Nat.eq_zero_or_pos r with h0 | h0
  · subst h0
    have h2 := h.2
    have : n = 0 := by omega
    subst this
    simp
  · have : n / g < r + 3 := by
      rw [Nat.div_lt_iff_lt_mul hg]
      refine Nat.lt_of_lt_of_le h.2 ?_
      have h3 : (r + 3) * r ≤ (r + 3) * g := Nat.mul_le_mul_left _ hr
      refine Nat.le_trans ?_ h3
      rw [Nat.add_mul, Nat.mul_add, Nat.add_mul]
      omega
    omega
end Go.Proofs.YtmbnkokcpmkpgaaGreatDoor

namespace Go.Proofs.YtmbnkokcpmkpgaaGreatDoor
open Go.RowKit Go.Shelf

theorem len64_ex (y : Nat) (hy : y < 18446744073709551616) : ∃ k : Nat, k ≤ 64 ∧ y < 2 ^ k ∧
    ∀ w : World, Calls Tryz.prog 118 #[.int .u64 y] w fun e w' => e = .returned (.int .i64 (k : Nat)) ∧ w = w' := by
  have hc : ∀ w : World, Calls Tryz.prog 118 #[.int .u64 y] w fun e w' => e = .returned (.int .i64 (Lib.bitLen (y : Int).toNat)) ∧ w' = w := fun w => Any.bits_Len64 Tryz.lays129 y w (by omega) (by omega)
  have hl := Any.bitLen_le64 (y : Int) (by omega) (by omega)
  rw [Int.toNat_natCast] at hl
  refine ⟨Lib.bitLen y, hl, ?_, fun w => (hc w).mono ?_⟩
  · by_cases h0 : y = 0
    · subst h0; exact Nat.two_pow_pos _
    · exact (bitLen_bound 64 y hy h0).2.2
  · rintro e w' ⟨rfl, rfl⟩
    exact ⟨by rw [Int.toNat_natCast], rfl⟩

set_option maxHeartbeats 1000000 in
set_option maxRecDepth 100000 in
theorem wordRoot_any (v r : Nat) (w : World) (h0 : 0 < v) (hv : v < 18446744073709551616) (hr : IsRoot v r) :
    Calls Tryz.prog 91 #[.int .u64 v] w fun e w' => e = .returned (.int .u64 (r : Nat)) ∧ w = w' := by
  obtain ⟨k, hk, hvk, hlen⟩ := len64_ex v hv
  have HL := Lib.hid hlen
  obtain ⟨j, hj⟩ : ∃ j, j = (k + 1) / 2 := ⟨_, rfl⟩
  obtain ⟨g0, hg0⟩ : ∃ g0, g0 = 2 ^ j := ⟨_, rfl⟩
  have hg64 : g0 ≤ 4294967296 := by
    have : 2 ^ j ≤ 2 ^ 32 := Nat.pow_le_pow_right (by omega) (by omega)
    rw [hg0]; exact this
  have hrg : r ≤ g0 := by
    refine isRoot_le hr.1 ?_
    have e1 : v < 2 ^ j * 2 ^ j := by
      rw [← Nat.pow_add]
      exact Nat.lt_of_lt_of_le hvk (Nat.pow_le_pow_right (by omega) (by omega))
    rw [← hg0] at e1
    exact Nat.lt_of_lt_of_le e1 (Nat.mul_le_mul (by omega) (by omega))
  have G1 : ((k : Int) + 1) / 2 = (j : Int) := by omega
  have G2 : IntKind.u64.wrap (2 ^ j) = (g0 : Int) := by
    rw [show (2 : Int) ^ j = ((2 ^ j : Nat) : Int) by rw [Int.natCast_pow]; rfl, ← hg0]
    exact wrapU _ (by omega)
  have hg1 : 0 < g0 := by rw [hg0]; exact Nat.two_pow_pos _
  have HV := Lib.hid (And.intro h0 (And.intro hv hr))
  have HRG := Lib.hid (And.intro hrg (And.intro hg64 hg1))
  have hj32 : j ≤ 32 := by omega
  clear hlen hvk hj hg0 hrg hr h0 hv hg64 hg1 hk
  go_enter Tryz.func91, Tryz.ntmps91
  go_wp2_with (go_at_call 118; refine (HL.out _).mono ?_; rintro e w' ⟨rfl, rfl⟩)
  go_loop [3] (fun g => ∃ n : Nat, g = .int .u64 (n : Nat) ∧ r ≤ n ∧ 0 < n ∧ n ≤ 4294967296) (fun g => (intOf g).toNat)
  case atStart => exact ⟨g0, rfl, HRG.out.1, HRG.out.2.2, HRG.out.2.1⟩
  case round =>
    obtain ⟨n, rfl, hrn, hn0, hn1⟩ := hrel
    obtain ⟨h0, hv, hr⟩ := HV.out
    have hq := newton_small hr hn0 hrn
    have hge := newton_ge hr.1 hn0
    have hst := newton_stop hr hn0 hrn
    obtain ⟨q, hqe⟩ : ∃ q, v / n = q := ⟨_, rfl⟩
    obtain ⟨b, hbe⟩ : ∃ b, (n + q) / 2 = b := ⟨_, rfl⟩
    rw [hqe] at hq hge hst
    rw [hbe] at hge hst
    have hr32 : r ≤ 4294967296 := by omega
    have N0 : ¬ ((n : Int) = 0) := by omega
    have A1 : (v : Int) / (n : Int) = (q : Int) := by rw [← hqe]; rfl
    have A2 : IntKind.u64.wrap (q : Int) = (q : Int) := wrapU _ (by omega)
    have hqb : q ≤ 4294967298 := by omega
    have hnb : n ≤ 4294967296 := hn1
    have A4 : ((n : Int) + (q : Int)).tdiv 2 = (b : Int) := by rw [Int.tdiv_eq_ediv_of_nonneg (by omega)]; omega
    have A5 : IntKind.u64.wrap (b : Int) = (b : Int) := wrapU _ (by omega)
    have HN := Lib.hid (And.intro hrn (And.intro hn0 (And.intro hn1 (And.intro hge hst))))
    clear h0 hv hr hq hge hst hqe hbe hrn hn0 hn1
    go_wp2_with fail
    · have hlt : n ≤ b := by assumption
      go_ret
      obtain ⟨hrn, hn0, hn1, hge, hst⟩ := HN.out
      rw [hst (by omega)]
      exact ⟨rfl, rfl⟩
    · have hlt : ¬ (n ≤ b) := by assumption
      obtain ⟨hrn, hn0, hn1, hge, hst⟩ := HN.out
      refine ⟨⟨b, rfl, hge, ?_, by omega⟩, by simp [intOf]; omega⟩
      have := HV.out.2.2.2
      rcases Nat.eq_zero_or_pos b with h | h
      · have h3 := HV.out.1
        have h4 : r = 0 := by omega
        rw [h4] at this
        omega
      · exact h
end Go.Proofs.YtmbnkokcpmkpgaaGreatDoor
