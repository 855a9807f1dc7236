/- The contract of bigint.compareMagnitudes. -/
import Derived.Test.YtmbnkokcpmkpgaaGreatDoorCompare
import Derived.Test.YtmbnkokcpmkpgaaGreatDoorInts
import Derived.Lib.Bytealg
import Derived.Laws.Externs
namespace Go.Proofs.YtmbnkokcpmkpgaaGreatDoor
open Go.RowKit

theorem foldl_val (l : List UInt8) : ∀ n, l.foldl (fun n c => n * 256 + c.toNat) n = n * 256 ^ l.length + beVal l := by
  induction l with
  | nil => intro n; simp [beVal]
  | cons a l ih =>
    intro n
    rw [List.foldl_cons, ih, List.length_cons]
    have : beVal (a :: l) = a.toNat * 256 ^ l.length + beVal l := by
      show (a :: l).foldl _ 0 = _
      rw [List.foldl_cons, ih]; simp
    rw [this, Nat.pow_succ, Nat.add_mul, Nat.mul_assoc, Nat.mul_comm 256, Nat.add_assoc]
theorem beVal_head (a : UInt8) (l : List UInt8) : beVal (a :: l) = a.toNat * 256 ^ l.length + beVal l := by
  show (a :: l).foldl _ 0 = _
  rw [List.foldl_cons, foldl_val]; simp
theorem cmpZ_nat (a b : Nat) : cmpZ (a : Int) (b : Int) = if a < b then -1 else if b < a then 1 else 0 := by
  unfold cmpZ
  simp
theorem compareBytes_val : ∀ l m : List UInt8, l.length = m.length → Lib.compareBytes l m = cmpZ (beVal l) (beVal m)
  | [], [], _ => by simp [Lib.compareBytes, cmpZ, beVal]
  | [], _ :: _, h => by simp at h
  | _ :: _, [], h => by simp at h
  | a :: l, b :: m, h => by
    have hl : l.length = m.length := by simpa using h
    have h1 := beVal_lt l
    have h2 := beVal_lt m
    rw [hl] at h1
    rw [beVal_head, beVal_head, hl]
    unfold Lib.compareBytes
    by_cases hab : a < b
    · rw [if_pos hab]
      have hn : a.toNat + 1 ≤ b.toNat := UInt8.lt_iff_toNat_lt.1 hab
      have := Nat.mul_le_mul_right (256 ^ m.length) hn
      rw [Nat.add_mul] at this
      exact (cmpZ_lt (by omega)).symm
    · rw [if_neg hab]
      by_cases hba : b < a
      · rw [if_pos hba]
        have hn : b.toNat + 1 ≤ a.toNat := UInt8.lt_iff_toNat_lt.1 hba
        have := Nat.mul_le_mul_right (256 ^ m.length) hn
        rw [Nat.add_mul] at this
        exact (cmpZ_gt (by omega)).symm
      · rw [if_neg hba, compareBytes_val l m hl]
        have e : a = b := by
          apply UInt8.toNat_inj.1
          have h3 : ¬ a.toNat < b.toNat := fun h => hab (UInt8.lt_iff_toNat_lt.2 h)
          have h4 : ¬ b.toNat < a.toNat := fun h => hba (UInt8.lt_iff_toNat_lt.2 h)
          omega
        rw [e, cmpZ_nat, cmpZ_nat]
        simp
theorem be_length_lt {m n : Nat} (h : (be m).length < (be n).length) : m < n := by
  by_cases hc : m < n
  · exact hc
  · exfalso
    have h1 := beVal_lt (be m)
    rw [beVal_be] at h1
    have := be_length_le (be m).length n (by omega)
    omega

set_option maxHeartbeats 1000000 in
set_option maxRecDepth 100000 in
theorem cmpStr_any (a b : ByteArray) (w : World) :
    Calls Tryz.prog 79 #[.string a, .string b] w fun e w' => e = .returned (.int .i64 (Lib.compareBytes a.data.toList b.data.toList)) ∧ w = w' := by
  have e1 : ∀ w : World, (callFunc 136 #[.string a, .string b]).run Tryz.prog w = .ok (.value (.int .i64 (Lib.compareBytes a.data.toList b.data.toList))) w := fun w => by
    rw [run_callFunc_extern Tryz.func136 (by kernel_rfl) (by kernel_rfl) (by kernel_rfl) (e := Extern.BytealgCompare.compare) (by kernel_rfl), Lib.run_compareString]
    rfl
  have h : ∀ w : World, Calls Tryz.prog 110 #[.string a, .string b] w fun e w' => e = .returned (.int .i64 (Lib.compareBytes a.data.toList b.data.toList)) ∧ w = w' := fun w => by
    go_enter Tryz.func110, Tryz.ntmps110
    go_wp2_with fail
    go_ret
    exact ⟨rfl, rfl⟩
  have H := Lib.hid h
  clear h e1
  go_enter Tryz.func79, Tryz.ntmps79
  go_wp2_with (go_at_call 110; refine (H.out _).mono ?_; rintro e w' ⟨rfl, rfl⟩)
  go_ret
  exact ⟨rfl, rfl⟩

set_option maxHeartbeats 1000000 in
set_option maxRecDepth 100000 in
theorem cmpMag_any (m n : Nat) (w : World) :
    Calls Tryz.prog 54 #[.string ⟨(be m).toArray⟩, .string ⟨(be n).toArray⟩] w fun e w' => e = .returned (.int .i64 (cmpZ m n)) ∧ w = w' := by
  by_cases hl : (be m).length = (be n).length
  · have h1 := compareBytes_val (be m) (be n) hl
    rw [beVal_be, beVal_be] at h1
    have hc := cmpStr_any ⟨(be m).toArray⟩ ⟨(be n).toArray⟩ w
    rw [List.toList_toArray, List.toList_toArray, h1] at hc
    have HC := Lib.hid hc
    clear hc h1
    go_enter Tryz.func54, Tryz.ntmps54
    go_wp2_with (go_at_call 79; refine HC.out.mono ?_; rintro e w' ⟨rfl, rfl⟩)
    go_ret
    exact ⟨rfl, rfl⟩
  · have hc : cmpZ ((be m).length : Int) ((be n).length : Int) = cmpZ m n := by
      rcases Nat.lt_or_gt_of_ne hl with h | h
      · rw [cmpZ_lt (by omega), cmpZ_lt (by have := be_length_lt h; omega)]
      · rw [cmpZ_gt (by omega), cmpZ_gt (by have := be_length_lt h; omega)]
    have hh := cmpInt_any ((be m).length : Int) ((be n).length : Int) w
    rw [hc] at hh
    have HC := Lib.hid hh
    have hne : ¬ ((be m).length : Int) = ((be n).length : Int) := by omega
    have s1 : (⟨(be m).toArray⟩ : ByteArray).size = (be m).length := rfl
    have s2 : (⟨(be n).toArray⟩ : ByteArray).size = (be n).length := rfl
    clear hh hc
    go_enter Tryz.func54, Tryz.ntmps54
    go_wp2_with (go_at_call 78; refine HC.out.mono ?_; rintro e w' ⟨rfl, rfl⟩)
    go_ret
    exact ⟨rfl, rfl⟩
end Go.Proofs.YtmbnkokcpmkpgaaGreatDoor
