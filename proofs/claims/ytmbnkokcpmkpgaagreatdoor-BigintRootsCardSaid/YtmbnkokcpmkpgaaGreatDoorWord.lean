/- The contracts of bigint.word and bigint.wholeWord: up to eight bytes as a machine number. -/
import Derived.Test.YtmbnkokcpmkpgaaGreatDoorNat
import Derived.Laws.BitsAllLaws
namespace Go.Proofs.YtmbnkokcpmkpgaaGreatDoor
open Go.RowKit

theorem wrapU (n : Nat) (h : n < 18446744073709551616) : IntKind.u64.wrap (n : Int) = (n : Int) := by
  rw [IntKind.wrap_u64]; omega
theorem wrapU_mul (a b n : Nat) (e : a * b = n) (h : n < 18446744073709551616) : IntKind.u64.wrap ((a : Int) * (b : Int)) = (n : Int) := by
  rw [← Int.natCast_mul, e]; exact wrapU n h
theorem orU (i a b : Nat) (ha : a % 2 ^ i = 0) (hb : b < 2 ^ i) (ha' : a < 18446744073709551616) (hb' : b < 18446744073709551616) :
    bits .or .u64 (a : Int) (b : Int) = ((a + b : Nat) : Int) := by
  rw [u64_or_nat a b ha' hb', nat_join i a b ha hb]
theorem word8 (c0 c1 c2 c3 c4 c5 c6 c7 : Nat) (h0 : c0 < 256) (h1 : c1 < 256) (h2 : c2 < 256) (h3 : c3 < 256) (h4 : c4 < 256) (h5 : c5 < 256) (h6 : c6 < 256) (h7 : c7 < 256) :
    bits .or .u64 (bits .or .u64 (bits .or .u64 (bits .or .u64 (bits .or .u64 (bits .or .u64 (bits .or .u64 (IntKind.u64.wrap (IntKind.u64.wrap (c0 : Int) * 72057594037927936)) (IntKind.u64.wrap (IntKind.u64.wrap (c1 : Int) * 281474976710656)))
      (IntKind.u64.wrap (IntKind.u64.wrap (c2 : Int) * 1099511627776))) (IntKind.u64.wrap (IntKind.u64.wrap (c3 : Int) * 4294967296))) (IntKind.u64.wrap (IntKind.u64.wrap (c4 : Int) * 16777216)))
      (IntKind.u64.wrap (IntKind.u64.wrap (c5 : Int) * 65536))) (IntKind.u64.wrap (IntKind.u64.wrap (c6 : Int) * 256))) (IntKind.u64.wrap (c7 : Int)) =
    ((((((((c0 * 256 + c1) * 256 + c2) * 256 + c3) * 256 + c4) * 256 + c5) * 256 + c6) * 256 + c7 : Nat) : Int) := by
  have hw : ∀ c : Nat, c < 256 → IntKind.u64.wrap (c : Int) = (c : Int) := fun c hc => wrapU c (by omega)
  rw [hw c0 h0, hw c1 h1, hw c2 h2, hw c3 h3, hw c4 h4, hw c5 h5, hw c6 h6, hw c7 h7]
  have e0 : IntKind.u64.wrap ((c0 : Int) * 72057594037927936) = ((c0 * 72057594037927936 : Nat) : Int) := wrapU_mul c0 72057594037927936 _ rfl (by omega)
  have e1 : IntKind.u64.wrap ((c1 : Int) * 281474976710656) = ((c1 * 281474976710656 : Nat) : Int) := wrapU_mul c1 281474976710656 _ rfl (by omega)
  have e2 : IntKind.u64.wrap ((c2 : Int) * 1099511627776) = ((c2 * 1099511627776 : Nat) : Int) := wrapU_mul c2 1099511627776 _ rfl (by omega)
  have e3 : IntKind.u64.wrap ((c3 : Int) * 4294967296) = ((c3 * 4294967296 : Nat) : Int) := wrapU_mul c3 4294967296 _ rfl (by omega)
  have e4 : IntKind.u64.wrap ((c4 : Int) * 16777216) = ((c4 * 16777216 : Nat) : Int) := wrapU_mul c4 16777216 _ rfl (by omega)
  have e5 : IntKind.u64.wrap ((c5 : Int) * 65536) = ((c5 * 65536 : Nat) : Int) := wrapU_mul c5 65536 _ rfl (by omega)
  have e6 : IntKind.u64.wrap ((c6 : Int) * 256) = ((c6 * 256 : Nat) : Int) := wrapU_mul c6 256 _ rfl (by omega)
  rw [e0, e1, e2, e3, e4, e5, e6]
  rw [orU 56 _ _ (by omega) (by omega) (by omega) (by omega)]
  rw [orU 48 _ _ (by omega) (by omega) (by omega) (by omega)]
  rw [orU 40 _ _ (by omega) (by omega) (by omega) (by omega)]
  rw [orU 32 _ _ (by omega) (by omega) (by omega) (by omega)]
  rw [orU 24 _ _ (by omega) (by omega) (by omega) (by omega)]
  rw [orU 16 _ _ (by omega) (by omega) (by omega) (by omega)]
  rw [orU 8 _ _ (by omega) (by omega) (by omega) (by omega)]
  exact congrArg (fun n : Nat => (n : Int)) (by omega)
theorem list8 (l : List UInt8) (h : l.length = 8) : l = [l[0], l[1], l[2], l[3], l[4], l[5], l[6], l[7]] := by
  match l, h with
  | [_, _, _, _, _, _, _, _], _ => rfl
theorem beVal_cons (c : UInt8) (l : List UInt8) : beVal (c :: l) = c.toNat * 256 ^ l.length + beVal l := by
  refine snoc_ind (p := fun l => beVal (c :: l) = c.toNat * 256 ^ l.length + beVal l) (by simp [beVal]) ?_ l
  intro l d ih
  have ih' : beVal (c :: l) = c.toNat * 256 ^ l.length + beVal l := ih
  show beVal (c :: (l ++ [d])) = _
  rw [← List.cons_append, beVal_snoc, beVal_snoc, ih', List.length_append, List.length_singleton, Nat.pow_succ, Nat.add_mul, Nat.mul_assoc]; omega
theorem u64_eq {a b : Int} (h : a = b) : Ending.returned (.int .u64 a) = .returned (.int .u64 b) := by rw [h]

/-- Some draws, and nothing else. -/
def Drawn (w w' : World) : Prop := ∃ n, w' = w.drewN n

set_option maxHeartbeats 1000000 in
set_option maxRecDepth 100000 in
theorem wholeWord_any (s : ByteArray) (w : World) (hs : s.size = 8) :
    Calls Tryz.prog 76 #[.string s] w fun e w' => e = .returned (.int .u64 (beVal s.data.toList : Nat)) ∧ Drawn w w' := by
  have h0 : 0 < s.size := by omega
  have h1 : (1 : Int) < (s.size : Int) := by omega
  have h2 : (2 : Int) < (s.size : Int) := by omega
  have h3 : (3 : Int) < (s.size : Int) := by omega
  have h4 : (4 : Int) < (s.size : Int) := by omega
  have h5 : (5 : Int) < (s.size : Int) := by omega
  have h6 : (6 : Int) < (s.size : Int) := by omega
  have h7 : (7 : Int) < (s.size : Int) := by omega
  have H := Lib.hid hs
  clear hs
  go_enter Tryz.func76, Tryz.ntmps76
  go_wp2_with fail
  go_quiet (fail)
  go_wp2
  go_ret
  refine ⟨u64_eq ?_, ⟨_, rfl⟩⟩
  rw [word8 _ _ _ _ _ _ _ _ (UInt8.toNat_lt _) (UInt8.toNat_lt _) (UInt8.toNat_lt _) (UInt8.toNat_lt _) (UInt8.toNat_lt _) (UInt8.toNat_lt _) (UInt8.toNat_lt _) (UInt8.toNat_lt _)]
  have hl : s.data.toList = [s[0], s[1], s[2], s[3], s[4], s[5], s[6], s[7]] := by
    exact list8 _ (by rw [← Lib.size_eq]; exact H.out)
  rw [hl]
  simp [beVal]

theorem shl8 (m : Nat) (c : UInt8) (h : m < 72057594037927936) :
    bits .or .u64 (IntKind.u64.wrap ((m : Int) * 256)) (IntKind.u64.wrap (c.toNat : Int)) = ((m * 256 + c.toNat : Nat) : Int) := by
  have hc : c.toNat < 256 := c.toNat_lt
  rw [wrapU c.toNat (by omega)]
  have e : IntKind.u64.wrap ((m : Int) * 256) = ((m * 256 : Nat) : Int) := wrapU_mul m 256 _ rfl (by omega)
  rw [e, orU 8 _ _ (by omega) (by omega) (by omega) (by omega)]
theorem take_snocB (s : ByteArray) (k : Nat) (h : k < s.size) : s.data.toList.take (k + 1) = s.data.toList.take k ++ [s[k]] := by
  rw [List.take_succ_eq_append_getElem (by rw [← Lib.size_eq]; exact h)]; rfl
theorem beVal_take_lt (s : ByteArray) (k : Nat) (h : k ≤ 7) : beVal (s.data.toList.take k) < 72057594037927936 := by
  have h1 := beVal_lt (s.data.toList.take k)
  have h2 : (s.data.toList.take k).length ≤ 7 := by rw [List.length_take]; omega
  exact Nat.lt_of_lt_of_le h1 (Nat.le_trans (Nat.pow_le_pow_right (by omega) h2) (by decide))

set_option maxHeartbeats 400000 in
theorem word_any (s : ByteArray) (w : World) (hs : s.size ≤ 8) :
    Calls Tryz.prog 47 #[.string s] w fun e w' => e = .returned (.int .u64 (beVal s.data.toList : Nat)) ∧ Drawn w w' := by
  by_cases h8 : s.size = 8
  · have H := Lib.hid h8
    have t1 : ((s.size : Int) == 8) = true := by simp [h8]
    clear h8
    go_enter Tryz.func47, Tryz.ntmps47
    go_wp2_with (go_at_call 76; refine (wholeWord_any s _ H.out).mono ?_; rintro e w' ⟨rfl, nq, rfl⟩)
    go_ret
    exact ⟨rfl, ⟨nq, rfl⟩⟩
  · have t1 : ((s.size : Int) == 8) = false := by rw [beq_eq_false_iff_ne]; omega
    have h7 : s.size ≤ 7 := by omega
    clear h8
    go_enter Tryz.func47, Tryz.ntmps47
    go_wp2
    go_loop [3, 12] (fun v i => ∃ k : Nat, k ≤ s.size ∧ i = .int .i64 k ∧ v = .int .u64 (beVal (s.data.toList.take k) : Nat)) (fun _ i => s.size - (intOf i).toNat)
    case atStart => exact ⟨0, Nat.zero_le _, rfl, rfl⟩
    case round =>
      obtain ⟨k, hk, rfl, rfl⟩ := hrel
      by_cases hlt : k < s.size
      · have h1 := Lib.hid (shl8 (beVal (s.data.toList.take k)) s[k] (beVal_take_lt s k (by omega)))
        have h2 := Lib.hid (take_snocB s k hlt)
        go_wp2
        go_round
        case rel => exact ⟨k + 1, by omega, by go_num, by rw [h2.out, beVal_snoc, ← h1.out]⟩
        case measure => simp [intOf]; omega
      · go_wp2
        go_ret
        exact ⟨u64_eq (by rw [List.take_of_length_le (by rw [← Lib.size_eq]; omega)]), ⟨0, rfl⟩⟩
end Go.Proofs.YtmbnkokcpmkpgaaGreatDoor
