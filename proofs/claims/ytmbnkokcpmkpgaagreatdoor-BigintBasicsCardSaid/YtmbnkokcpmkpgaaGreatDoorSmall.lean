/- The contract of bigint.Small. -/
import Derived.Test.YtmbnkokcpmkpgaaGreatDoorCmpMag
import Derived.Test.YtmbnkokcpmkpgaaGreatDoorWord
import Derived.Deep.CutRange
namespace Go.Proofs.YtmbnkokcpmkpgaaGreatDoor
open Go.RowKit

/-- What Small gives: the number, if it is an int. -/
def SmallRes (w : World) (z : Int) (e : Ending) (w' : World) : Prop :=
  ((-9223372036854775808 ≤ z ∧ z ≤ 9223372036854775807 ∧ e = .returned (.tuple #[.int .i64 z, .bool true])) ∨
    ((z < -9223372036854775808 ∨ 9223372036854775807 < z) ∧ e = .returned (.tuple #[.int .i64 0, .bool false]))) ∧ Below w.heap.size w w'

theorem strip_len (s : ByteArray) : (⟨(strip s.data.toList).toArray⟩ : ByteArray).size = (strip s.data.toList).length := rfl

set_option maxHeartbeats 1000000 in
set_option maxRecDepth 100000 in
theorem small_any (n : Bool) (s : ByteArray) (w : World) :
    Calls Tryz.prog 16 #[.agg #[.bool n, .string s]] w (SmallRes w (ival n s)) := by
  obtain ⟨m, hm⟩ : ∃ m, beVal s.data.toList = m := ⟨_, rfl⟩
  obtain ⟨z, hz⟩ : ∃ z, ival n s = z := ⟨_, rfl⟩
  have hzm : z = if n = true then -(m : Int) else m := by rw [← hz, ← hm]; rfl
  obtain ⟨t, ht⟩ : ∃ t : ByteArray, t = ⟨(strip s.data.toList).toArray⟩ := ⟨_, rfl⟩
  have htv : beVal t.data.toList = m := by rw [ht, ← hm]; exact beVal_strip _
  have htl : t.size ≤ s.size := by rw [ht, strip_len, Lib.size_eq]; exact (List.dropWhile_sublist _).length_le
  have htb : t.data.toList = be m := by rw [ht, ← hm, ← strip_be]
  have hsz : t.size = (be m).length := by rw [Lib.size_eq, htb]
  have hsg := fun W => significant_any s W
  rw [← ht] at hsg
  have HSG := Lib.hid hsg
  rw [hz]
  clear hz hm ht hsg
  by_cases h8 : t.size ≤ 8
  · have hm64 : m < 18446744073709551616 := by
      have := beVal_lt t.data.toList
      rw [htv, ← Lib.size_eq] at this
      have h2 : 256 ^ t.size ≤ 256 ^ 8 := Nat.pow_le_pow_right (by omega) h8
      omega
    have hw := fun W => word_any t W h8
    rw [htv] at hw
    have HW := Lib.hid hw
    have h8i : ¬ (8 : Int) < (t.size : Int) := by omega
    clear h8 htl
    cases n
    · have hz2 : z = (m : Int) := by rw [hzm]; rfl
      subst hz2
      clear hzm htv htb hsz hw
      by_cases hc : m < 9223372036854775808
      · have HC := Lib.hid hc
        clear hc hm64
        go_enter Tryz.func16, Tryz.ntmps16
        go_upto_region 7 with (first | (go_at_call 46; refine (HSG.out _).mono ?_; rintro e w' ⟨rfl, rfl⟩) | (go_at_call 47; refine (HW.out _).mono ?_; rintro e w' ⟨rfl, nq, rfl⟩))
        have c1 : (m : Int) < 9223372036854775808 := by have := HC.out; omega
        go_wp2_with fail
        go_ret2
        exact ⟨Or.inl ⟨by omega, by omega, rfl⟩, ((Below.refl _ _).alloc (Nat.le_refl _) _).trans (below_draws _ _ _)⟩
      · have HC := Lib.hid hc
        clear hc hm64
        go_enter Tryz.func16, Tryz.ntmps16
        go_upto_region 7 with (first | (go_at_call 46; refine (HSG.out _).mono ?_; rintro e w' ⟨rfl, rfl⟩) | (go_at_call 47; refine (HW.out _).mono ?_; rintro e w' ⟨rfl, nq, rfl⟩))
        have c1 : ¬ (m : Int) < 9223372036854775808 := by have := HC.out; omega
        go_wp2_with fail
        go_ret2
        exact ⟨Or.inr ⟨Or.inr (by omega), rfl⟩, ((Below.refl _ _).alloc (Nat.le_refl _) _).trans (below_draws _ _ _)⟩
    · have hz2 : z = -(m : Int) := by rw [hzm]; rfl
      subst hz2
      clear hzm htv htb hsz hw
      obtain ⟨v, hv⟩ : ∃ v : Nat, IntKind.u64.wrap (-(m : Int)) = (v : Int) := ⟨(IntKind.u64.wrap (-(m : Int))).toNat, by rw [IntKind.wrap_u64]; omega⟩
      by_cases hc : m ≤ 9223372036854775808
      · have hv2 : IntKind.i64.wrap (v : Int) = -(m : Int) := by rw [← hv, IntKind.wrap_u64, IntKind.wrap_i64]; omega
        have HC := Lib.hid hc
        have HV := Lib.hid (And.intro hv hv2)
        clear hc hm64 hv hv2
        go_enter Tryz.func16, Tryz.ntmps16
        go_upto_region 5 with (first | (go_at_call 46; refine (HSG.out _).mono ?_; rintro e w' ⟨rfl, rfl⟩) | (go_at_call 47; refine (HW.out _).mono ?_; rintro e w' ⟨rfl, nq, rfl⟩))
        have c1 : (m : Int) ≤ 9223372036854775808 := by have := HC.out; omega
        obtain ⟨v1, v2⟩ := HV.out
        go_wp2_with fail
        go_ret2
        exact ⟨Or.inl ⟨by omega, by omega, rfl⟩, ((Below.refl _ _).alloc (Nat.le_refl _) _).trans (below_draws _ _ _)⟩
      · have HC := Lib.hid hc
        clear hc hm64 hv
        go_enter Tryz.func16, Tryz.ntmps16
        go_upto_region 5 with (first | (go_at_call 46; refine (HSG.out _).mono ?_; rintro e w' ⟨rfl, rfl⟩) | (go_at_call 47; refine (HW.out _).mono ?_; rintro e w' ⟨rfl, nq, rfl⟩))
        have c1 : ¬ (m : Int) ≤ 9223372036854775808 := by have := HC.out; omega
        go_wp2_with fail
        go_ret2
        exact ⟨Or.inr ⟨Or.inl (by omega), rfl⟩, ((Below.refl _ _).alloc (Nat.le_refl _) _).trans (below_draws _ _ _)⟩
  · have hm64 : 18446744073709551616 ≤ m := by
      by_cases hc : m < 18446744073709551616
      · have := be_length_le 8 m (by omega)
        omega
      · omega
    have hout : z < -9223372036854775808 ∨ 9223372036854775807 < z := by
      rw [hzm]
      cases n <;> simp <;> omega
    have HO := Lib.hid hout
    have h8i : (8 : Int) < (t.size : Int) := by omega
    clear hm64 hzm htv htb hsz h8 htl hout
    go_enter Tryz.func16, Tryz.ntmps16
    go_wp2_with (go_at_call 46; refine (HSG.out _).mono ?_; rintro e w' ⟨rfl, rfl⟩)
    go_ret2
    exact ⟨Or.inr ⟨HO.out, rfl⟩, (Below.refl _ _).alloc (Nat.le_refl _) _⟩
end Go.Proofs.YtmbnkokcpmkpgaaGreatDoor
