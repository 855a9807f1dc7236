/- The contracts of strings.TrimLeft at the cutset of the zero byte, and of bigint.significant: the bytes behind the leading zeros. -/
import Derived.Test.YtmbnkokcpmkpgaaGreatDoorRows
import Derived.Test.YtmbnkokcpmkpgaaGreatDoorMath
import Derived.WalkKit
import Derived.WalkSpells
import Derived.WalkLawsBesides
import Derived.Lib.Hide
import Derived.Lib.Strings
namespace Go.Proofs.YtmbnkokcpmkpgaaGreatDoor
open Go.RowKit

theorem ret_str {a b : ByteArray} (h : a = b) : Ending.returned (.string a) = .returned (.string b) := by rw [h]
def strLen : Value → Nat | .string t => t.size | _ => 0

theorem ba_ext {a b : ByteArray} (h : a.data.toList = b.data.toList) : a = b := by
  rw [← Lib.mk_data a, ← Lib.mk_data b, h]
theorem ba_cons (t : ByteArray) (h : 0 < t.size) : t.data.toList = t[0] :: (t.extract 1 t.size).data.toList := by
  have h2 : 0 < t.data.toList.length := by rw [← Lib.size_eq]; exact h
  rw [Lib.extract_data, List.take_of_length_le (by rw [List.length_drop, ← Lib.size_eq]; omega)]
  have e := List.drop_eq_getElem_cons (l := t.data.toList) (i := 0) h2
  rw [List.drop_zero] at e
  exact e
theorem u8_zero (c : UInt8) (h : ((c.toNat : Int) == 0) = true) : c = 0 := by
  have : c.toNat = 0 := by simpa using h
  exact UInt8.toNat_inj.1 (by simpa using this)
theorem u8_nonzero (c : UInt8) (h : ((c.toNat : Int) == 0) = false) : c ≠ 0 := by
  rintro rfl; simp at h
theorem strip_step (s t : ByteArray) (h : 0 < t.size) (h0 : ((t[0].toNat : Int) == 0) = true) (hst : strip t.data.toList = strip s.data.toList) : strip (t.extract 1 t.size).data.toList = strip s.data.toList := by
  rw [← hst, ba_cons t h, u8_zero _ h0, strip_zero]
theorem strip_stop (s t : ByteArray) (h : 0 < t.size) (h0 : ((t[0].toNat : Int) == 0) = false) (hst : strip t.data.toList = strip s.data.toList) : t = ⟨(strip s.data.toList).toArray⟩ := by
  apply ba_ext
  rw [← hst, ba_cons t h, strip_other _ _ (u8_nonzero _ h0)]
theorem strip_end (s t : ByteArray) (h : ¬ 0 < t.size) (hst : strip t.data.toList = strip s.data.toList) : t = ⟨(strip s.data.toList).toArray⟩ := by
  apply ba_ext
  have : t.data.toList = [] := by
    apply List.eq_nil_of_length_eq_zero
    simp only [Array.length_toList]
    have : t.data.size = t.size := rfl
    omega
  rw [← hst, this, strip_nil]

set_option maxHeartbeats 400000 in
theorem trimByte_any (s : ByteArray) (w : World) :
    Calls Tryz.prog 103 #[.string s, .int .u8 0] w fun e w' => e = .returned (.string ⟨(strip s.data.toList).toArray⟩) ∧ w = w' := by
  go_enter Tryz.func103, Tryz.ntmps103
  go_wp2
  go_loop [0] (fun v => ∃ t : ByteArray, t.size ≤ s.size ∧ v = .string t ∧ strip t.data.toList = strip s.data.toList) (fun v => strLen v)
  case atStart => exact ⟨s, Nat.le_refl _, rfl, rfl⟩
  case round =>
    obtain ⟨t, ht, rfl, hst⟩ := hrel
    have HST := Lib.hid hst
    clear hst
    go_wp2
    · have h1 : 0 < t.size := by assumption
      have h2 : ((t[0].toNat : Int) == 0) = true := by assumption
      go_round
      case rel => exact ⟨t.extract 1 t.size, by simp; omega, rfl, strip_step s t h1 h2 HST.out⟩
      case measure => simp [strLen]; omega
    · have h1 : 0 < t.size := by assumption
      have h2 : ((t[0].toNat : Int) == 0) = false := by assumption
      go_ret
      exact ⟨ret_str (strip_stop s t h1 h2 HST.out), rfl⟩
    · have h1 : ¬ 0 < t.size := by assumption
      go_ret
      exact ⟨ret_str (strip_end s t h1 HST.out), rfl⟩

theorem strip_ne (s : ByteArray) : (s.data.toList.isEmpty = true) → s = ⟨(strip s.data.toList).toArray⟩ := by
  intro h
  have : s.data.toList = [] := by simpa using h
  apply ba_ext; rw [this]; rfl

set_option maxHeartbeats 400000 in
set_option maxRecDepth 100000 in
theorem trimLeft_any (s : ByteArray) (w : World) :
    Calls Tryz.prog 75 #[.string s, .string ⟨#[0]⟩] w fun e w' => e = .returned (.string ⟨(strip s.data.toList).toArray⟩) ∧ w = w' := by
  by_cases he : s.data.toList.isEmpty = true
  · have HE := Lib.hid (strip_ne s he)
    have h1 : s.toList.isEmpty = true := by rw [Lib.toList_data]; exact he
    clear he
    go_enter Tryz.func75, Tryz.ntmps75
    go_wp2_with fail
    all_goals go_ret
    all_goals exact ⟨ret_str HE.out, rfl⟩
  · have h1 : s.toList.isEmpty = false := by rw [Lib.toList_data]; simpa using he
    clear he
    go_enter Tryz.func75, Tryz.ntmps75
    go_wp2_with fail
    refine ((trimByte_any s _).mono ?_)
    rintro e w' ⟨rfl, rfl⟩
    go_wp2_with fail
    go_ret
    exact ⟨rfl, rfl⟩

set_option maxHeartbeats 400000 in
theorem significant_any (s : ByteArray) (w : World) :
    Calls Tryz.prog 46 #[.string s] w fun e w' => e = .returned (.string ⟨(strip s.data.toList).toArray⟩) ∧ w = w' := by
  go_enter Tryz.func46, Tryz.ntmps46
  go_wp2_with (go_at_call 75; refine (trimLeft_any s _).mono ?_; rintro e w' ⟨rfl, rfl⟩)
  go_ret
  exact ⟨rfl, rfl⟩

end Go.Proofs.YtmbnkokcpmkpgaaGreatDoor
