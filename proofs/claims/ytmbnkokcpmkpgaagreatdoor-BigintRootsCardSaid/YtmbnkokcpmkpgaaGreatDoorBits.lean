/- The contract of bigint.Bits. -/
import Derived.Test.YtmbnkokcpmkpgaaGreatDoorCmpMag
import Derived.Lib.BitFns
import Derived.Test.YtmbnkokcpmkpgaaGreatDoorShelf
import Derived.Shelf.Small.Bits
namespace Go.Proofs.YtmbnkokcpmkpgaaGreatDoor
open Go.RowKit Go.Shelf

/-- The length of a number in bits. -/
def bl (n : Nat) : Nat := if n = 0 then 0 else Nat.log2 n + 1

theorem bitLen_bounds : ∀ n : Fin 256, n.val ≠ 0 → 0 < Lib.bitLen n.val ∧ 2 ^ (Lib.bitLen n.val - 1) ≤ n.val ∧ n.val < 2 ^ Lib.bitLen n.val := by decide +kernel
theorem bl_of (c : UInt8) (r : List UInt8) (h : c ≠ 0) : bl (beVal (c :: r)) = 8 * r.length + Lib.bitLen c.toNat := by
  have hc : c.toNat ≠ 0 := fun e => h (UInt8.toNat_inj.1 e)
  obtain ⟨h0, h1, h2⟩ := bitLen_bounds ⟨c.toNat, c.toNat_lt⟩ hc
  simp only at h0 h1 h2
  have hr := beVal_lt r
  rw [show (256 : Nat) = 2 ^ 8 from rfl, ← Nat.pow_mul] at hr
  have hv := beVal_head c r
  rw [show (256 : Nat) = 2 ^ 8 from rfl, ← Nat.pow_mul] at hv
  generalize Lib.bitLen c.toNat = k at *
  generalize beVal (c :: r) = n at *
  generalize beVal r = x at *
  have hp : 0 < 2 ^ (8 * r.length) := Nat.two_pow_pos _
  have l1 : 2 ^ (8 * r.length + (k - 1)) ≤ n := by
    rw [Nat.pow_add, hv]
    have := Nat.mul_le_mul_left (2 ^ (8 * r.length)) h1
    rw [Nat.mul_comm c.toNat]
    omega
  have l2 : n < 2 ^ (8 * r.length + k) := by
    rw [Nat.pow_add, hv]
    have := Nat.mul_le_mul_left (2 ^ (8 * r.length)) (show c.toNat + 1 ≤ 2 ^ k by omega)
    rw [Nat.mul_add, Nat.mul_one, Nat.mul_comm _ c.toNat] at this
    omega
  have hn : n ≠ 0 := by have := Nat.two_pow_pos (8 * r.length + (k - 1)); omega
  unfold bl
  rw [if_neg hn]
  have e1 : 8 * r.length + (k - 1) ≤ Nat.log2 n := (Nat.le_log2 hn).2 l1
  have e2 : Nat.log2 n < 8 * r.length + k := (Nat.log2_lt hn).2 l2
  omega


theorem len8_any (x : Int) (w : World) (h0 : 0 ≤ x) (h1 : x ≤ 255) :
    Calls Tryz.prog 56 #[.int .u8 x] w fun e w' => e = .returned (.int .i64 (Lib.bitLen x.toNat)) ∧ w = w' := by
  refine (Any.bits_Len8 Tryz.lays126 x w h0 h1).mono ?_
  rintro e w' ⟨rfl, rfl⟩
  exact ⟨rfl, rfl⟩

theorem strip_head : ∀ {l r : List UInt8} {c : UInt8}, strip l = c :: r → c ≠ 0
  | [], _, _, h => by cases h
  | a :: l, r, c, h => by
    by_cases ha : a = 0
    · subst ha; rw [strip_zero] at h; exact strip_head h
    · rw [strip_other a l ha] at h; cases h; exact ha

set_option maxHeartbeats 1000000 in
set_option maxRecDepth 100000 in
theorem bits_any (n : Bool) (s : ByteArray) (w : World) (hs : s.size ≤ 1048576) :
    Calls Tryz.prog 26 #[.agg #[.bool n, .string s]] w fun e w' => e = .returned (.int .i64 (bl (beVal s.data.toList))) ∧ Below w.heap.size w w' := by
  have hl : (strip s.data.toList).length ≤ s.size := by
    rw [Lib.size_eq]; exact (List.dropWhile_sublist _).length_le
  have hb := beVal_strip s.data.toList
  cases hq : strip s.data.toList with
  | nil =>
    have h0 : beVal s.data.toList = 0 := by rw [← hb, hq]; rfl
    have hsg := fun W => significant_any s W
    rw [hq] at hsg
    have HS := Lib.hid hsg
    rw [h0]
    clear hb hq h0 hsg hl
    go_enter Tryz.func26, Tryz.ntmps26
    go_wp2_with (go_at_call 46; refine (HS.out _).mono ?_; rintro e w' ⟨rfl, rfl⟩)
    go_ret
    exact ⟨rfl, (Below.refl _ _).alloc (Nat.le_refl _) _⟩
  | cons c r =>
    have hc : c ≠ 0 := strip_head hq
    have h0 : bl (beVal s.data.toList) = 8 * r.length + Lib.bitLen c.toNat := by rw [← hb, hq]; exact bl_of c r hc
    have hsg := fun W => significant_any s W
    rw [hq] at hsg hl
    have HS := Lib.hid hsg
    have hlen : r.length + 1 ≤ 1048576 := by rw [List.length_cons] at hl; omega
    have H0 := Lib.hid h0
    have hk : Lib.bitLen c.toNat ≤ 8 := Lib.bitLen_le8 ⟨c.toNat, c.toNat_lt⟩
    have hl8 := fun W => len8_any (c.toNat : Int) W (by omega) (by have := c.toNat_lt; omega)
    rw [Int.toNat_natCast] at hl8
    have HL := Lib.hid hl8
    obtain ⟨k, hkk⟩ : ∃ k, Lib.bitLen c.toNat = k := ⟨_, rfl⟩
    clear hb hq h0 hsg hl hl8
    go_enter Tryz.func26, Tryz.ntmps26
    go_wp2_with (first | (go_at_call 46; refine (HS.out _).mono ?_; rintro e w' ⟨rfl, rfl⟩) | (go_at_call 56; refine (HL.out _).mono ?_; rintro e w' ⟨rfl, rfl⟩))
    go_ret
    rw [H0.out, hkk]
    exact ⟨rfl, (Below.refl _ _).alloc (Nat.le_refl _) _⟩
end Go.Proofs.YtmbnkokcpmkpgaaGreatDoor
