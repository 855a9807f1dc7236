/- The contract of bigint.compareMagnitudes. The contract of bigint.Compare. The contract of bigint.Bits. The contract of bigint.Small. -/
import Derived.Test.YtajollhpimfefaaGreatDoorMul
import Derived.Test.YtajollhpimfefaaGreatDoorNat
import Derived.Lib.Bytealg
import Derived.Laws.Externs
import Derived.Deep.RegionLaw
import Derived.Deep.CutRange
import Derived.Lib.BitFns
import Derived.Test.YtajollhpimfefaaGreatDoorShelf
import Derived.Shelf.Small.Bits
namespace Go.Proofs.YtajollhpimfefaaGreatDoor
open Go.RowKit

theorem foldl_val (l : List UInt8) : ∀ n, l.foldl (fun n c => n * 256 + c.toNat) n = n * 256 ^ l.length + beVal l := by
 induction l with
 | nil => intro n; simp [beVal]
 | cons a l ih =>
  intro n
  rw [List.foldl_cons, ih, List.length_cons]
  have : beVal (a :: l) = a.toNat * 256 ^ l.length + beVal l := by
   show (a :: l).foldl _ 0 = _
   rw [List.foldl_cons, ih]; simp
  rw [this, Nat.pow_succ, Nat.add_mul, Nat.mul_assoc, Nat.mul_comm 256, Nat.add_assoc]
theorem beVal_head (a : UInt8) (l : List UInt8) : beVal (a :: l) = a.toNat * 256 ^ l.length + beVal l := by
 show (a :: l).foldl _ 0 = _
 rw [List.foldl_cons, foldl_val]; simp
theorem cmpZ_nat (a b : Nat) : cmpZ (a : Int) (b : Int) = if a < b then -1 else if b < a then 1 else 0 := by
 unfold cmpZ
 simp
theorem be_length_lt {m n : Nat} (h : (be m).length < (be n).length) : m < n := by
 by_cases hc : m < n
 ·exact hc
 ·exfalso
  have h1 := beVal_lt (be m)
  rw [beVal_be] at h1
  have := be_length_le (be m).length n (by omega)
  omega

end Go.Proofs.YtajollhpimfefaaGreatDoor

namespace Go.Proofs.YtajollhpimfefaaGreatDoor
open Go.RowKit

theorem two_set {B : Nat} {x y : Value} {W : World} (h : Two B x y W) (u v : Value) : Two B u v ((W.setCell ⟨B, 0, none⟩ u).setCell ⟨B, 1, none⟩ v) := by
 refine ⟨⟨?_, ?_⟩, ⟨?_, ?_⟩⟩
 ·rw [World.cell?_setCell_other _ _ _ _ (by intro e; have := congrArg Addr.off e; simp at this), World.cell?_setCell_same' _ _ _ (by rw [h.1.1]; rfl)]
 ·rw [World.frozen?_setCell, World.frozen?_setCell]; exact h.1.2
 ·rw [World.cell?_setCell_same' _ _ _ (by rw [World.cell?_setCell_other _ _ _ _ (by intro e; have := congrArg Addr.off e; simp at this), h.2.1]; rfl)]
 ·rw [World.frozen?_setCell, World.frozen?_setCell]; exact h.2.2
theorem Two.other {B B' o : Nat} {x y u : Value} {W : World} (h : Two B x y W) (hne : B ≠ B') : Two B x y (W.setCell ⟨B', o, none⟩ u) := by
 refine ⟨⟨?_, ?_⟩, ⟨?_, ?_⟩⟩
 ·rw [World.cell?_setCell_other _ _ _ _ (by intro e; have := congrArg Addr.block e; simp at this; omega)]; exact h.1.1
 ·rw [World.frozen?_setCell]; exact h.1.2
 ·rw [World.cell?_setCell_other _ _ _ _ (by intro e; have := congrArg Addr.block e; simp at this; omega)]; exact h.2.1
 ·rw [World.frozen?_setCell]; exact h.2.2
theorem cmpZ_neg {x y : Int} (hx : x < 0) (hy : y < 0) : cmpZ (y.natAbs : Int) (x.natAbs : Int) = cmpZ x y := by
 rcases Int.lt_trichotomy x y with h | h | h
 ·rw [cmpZ_lt h, cmpZ_lt (by omega)]
 ·rw [cmpZ_eq h, cmpZ_eq (by omega)]
 ·rw [cmpZ_gt h, cmpZ_gt (by omega)]
theorem cmpZ_pos {x y : Int} (hx : ¬ x < 0) (hy : ¬ y < 0) : cmpZ (x.natAbs : Int) (y.natAbs : Int) = cmpZ x y := by
 rcases Int.lt_trichotomy x y with h | h | h
 ·rw [cmpZ_lt h, cmpZ_lt (by omega)]
 ·rw [cmpZ_eq h, cmpZ_eq (by omega)]
 ·rw [cmpZ_gt h, cmpZ_gt (by omega)]

end Go.Proofs.YtajollhpimfefaaGreatDoor

namespace Go.Proofs.YtajollhpimfefaaGreatDoor
open Go.RowKit Go.Shelf

/-- The length of a number in bits. -/
def bl (n : Nat) : Nat := if n = 0 then 0 else Nat.log2 n + 1

theorem bitLen_bounds : ∀ n : Fin 256, n.val ≠ 0 → 0 < Lib.bitLen n.val ∧ 2 ^ (Lib.bitLen n.val - 1) ≤ n.val ∧ n.val < 2 ^ Lib.bitLen n.val := by decide +kernel
theorem bl_of (c : UInt8) (r : List UInt8) (h : c ≠ 0) : bl (beVal (c :: r)) = 8 * r.length + Lib.bitLen c.toNat := by
 have hc : c.toNat ≠ 0 := fun e => h (UInt8.toNat_inj.1 e)
 obtain ⟨h0, h1, h2⟩ := bitLen_bounds ⟨c.toNat, c.toNat_lt⟩ hc
 simp only at h0 h1 h2
 have hr := beVal_lt r
 rw [show (256 : Nat) = 2 ^ 8 from rfl, ← Nat.pow_mul] at hr
 have hv := beVal_head c r
 rw [show (256 : Nat) = 2 ^ 8 from rfl, ← Nat.pow_mul] at hv
 generalize Lib.bitLen c.toNat = k at *
 generalize beVal (c :: r) = n at *
 generalize beVal r = x at *
 have hp : 0 < 2 ^ (8 * r.length) := Nat.two_pow_pos _
 have l1 : 2 ^ (8 * r.length + (k - 1)) ≤ n := by
  rw [Nat.pow_add, hv]
  have := Nat.mul_le_mul_left (2 ^ (8 * r.length)) h1
  rw [Nat.mul_comm c.toNat]
  omega
 have l2 : n < 2 ^ (8 * r.length + k) := by
  rw [Nat.pow_add, hv]
  have := Nat.mul_le_mul_left (2 ^ (8 * r.length)) (show c.toNat + 1 ≤ 2 ^ k by omega)
  rw [Nat.mul_add, Nat.mul_one, Nat.mul_comm _ c.toNat] at this
  omega
 have hn : n ≠ 0 := by have := Nat.two_pow_pos (8 * r.length + (k - 1)); omega
 unfold bl
 rw [if_neg hn]
 have e1 : 8 * r.length + (k - 1) ≤ Nat.log2 n := (Nat.le_log2 hn).2 l1
 have e2 : Nat.log2 n < 8 * r.length + k := (Nat.log2_lt hn).2 l2
 omega


theorem len8_any (x : Int) (w : World) (h0 : 0 ≤ x) (h1 : x ≤ 255) :
  Calls Tryz.prog 56 #[.int .u8 x] w fun e w' => e = .returned (.int .i64 (Lib.bitLen x.toNat)) ∧ w = w' := by
 refine (Any.bits_Len8 Tryz.lays126 x w h0 h1).mono ?_
 rintro e w' ⟨rfl, rfl⟩
 exact ⟨rfl, rfl⟩

theorem strip_head : ∀ {l r : List UInt8} {c : UInt8}, strip l = c :: r → c ≠ 0
 | [], _, _, h => by cases h
 | a :: l, r, c, h => by
  by_cases ha : a = 0
  ·subst ha; rw [strip_zero] at h; exact strip_head h
  ·rw [strip_other a l ha] at h; cases h; exact ha

set_option maxHeartbeats 1000000 in
set_option maxRecDepth 100000 in
theorem bits_any (n : Bool) (s : ByteArray) (w : World) (hs : s.size ≤ 1048576) :
  Calls Tryz.prog 26 #[.agg #[.bool n, .string s]] w fun e w' => e = .returned (.int .i64 (bl (beVal s.data.toList))) ∧ Below w.heap.size w w' := by
 have hl : (strip s.data.toList).length ≤ s.size := by
  rw [Lib.size_eq]; exact (List.dropWhile_sublist _).length_le
 have hb := beVal_strip s.data.toList
 cases hq : strip s.data.toList with
 | nil =>
  have h0 : beVal s.data.toList = 0 := by rw [← hb, hq]; rfl
  have hsg := fun W => significant_any s W
  rw [hq] at hsg
  have HS := Lib.hid hsg
  rw [h0]
  clear hb hq h0 hsg hl
  go_enter Tryz.func26, Tryz.ntmps26
  go_wp2_with (go_at_call 46; refine (HS.out _).mono ?_; rintro e w' ⟨rfl, rfl⟩)
  go_ret
  exact ⟨rfl, (Below.refl _ _).alloc (Nat.le_refl _) _⟩
 | cons c r =>
  have hc : c ≠ 0 := strip_head hq
  have h0 : bl (beVal s.data.toList) = 8 * r.length + Lib.bitLen c.toNat := by rw [← hb, hq]; exact bl_of c r hc
  have hsg := fun W => significant_any s W
  rw [hq] at hsg hl
  have HS := Lib.hid hsg
  have hlen : r.length + 1 ≤ 1048576 := by rw [List.length_cons] at hl; omega
  have H0 := Lib.hid h0
  have hk : Lib.bitLen c.toNat ≤ 8 := Lib.bitLen_le8 ⟨c.toNat, c.toNat_lt⟩
  have hl8 := fun W => len8_any (c.toNat : Int) W (by omega) (by have := c.toNat_lt; omega)
  rw [Int.toNat_natCast] at hl8
  have HL := Lib.hid hl8
  obtain ⟨k, hkk⟩ : ∃ k, Lib.bitLen c.toNat = k := ⟨_, rfl⟩
  clear hb hq h0 hsg hl hl8
  go_enter Tryz.func26, Tryz.ntmps26
  go_wp2_with (first | (go_at_call 46; refine (HS.out _).mono ?_; rintro e w' ⟨rfl, rfl⟩) | (go_at_call 56; refine (HL.out _).mono ?_; rintro e w' ⟨rfl, rfl⟩))
  go_ret
  rw [H0.out, hkk]
  exact ⟨rfl, (Below.refl _ _).alloc (Nat.le_refl _) _⟩
end Go.Proofs.YtajollhpimfefaaGreatDoor

namespace Go.Proofs.YtajollhpimfefaaGreatDoor
open Go.RowKit

end Go.Proofs.YtajollhpimfefaaGreatDoor
