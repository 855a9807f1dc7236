/- The contract of narrowslaw01.awake: the examples of the chapter. -/
import Derived.Test.YtpdhffjdgnpikaaGreatDoorDecimal
import Derived.Test.YtpdhffjdgnpikaaGreatDoorMul
import Derived.Test.YtpdhffjdgnpikaaGreatDoorCmp
import Derived.Outline
namespace Go.Proofs.YtpdhffjdgnpikaaGreatDoor
open Go.RowKit Go.Shelf

theorem mg_size (z : Int) (k : Nat) (h : z.natAbs < 256 ^ k) : (mg z).size ≤ k := by
  rw [Lib.size_eq, mg_list]; exact be_length_le k _ h
/-- Calls at integers whose parts bear names. -/
theorem of_lit (z : Int) (b : Bool) (s : ByteArray) (hb : ng z = b) (hs : mg z = s) (h1 : -9223372036854775808 ≤ z) (h2 : z ≤ 9223372036854775807) (W : World) :
    Calls Tryz.prog 53 #[.int .i64 z] W fun e w' => e = .returned (.agg #[.bool b, .string s]) ∧ Below W.heap.size W w' := by
  subst hb; subst hs
  exact of_any z W h1 h2
theorem mul_lit (x y : Int) (hx : x.natAbs < 256 ^ 9) (hy : y.natAbs < 256 ^ 9) (bx by' bz : Bool) (sx sy sz : ByteArray) (h1 : ng x = bx) (h2 : mg x = sx) (h3 : ng y = by') (h4 : mg y = sy) (h5 : ng (x * y) = bz) (h6 : mg (x * y) = sz) (W : World) :
    Calls Tryz.prog 118 #[.agg #[.bool bx, .string sx], .agg #[.bool by', .string sy]] W fun e w' => e = .returned (.agg #[.bool bz, .string sz]) ∧ Below W.heap.size W w' := by
  subst h1; subst h2; subst h3; subst h4; subst h5; subst h6
  have h := mul_any (ng x) (ng y) (mg x) (mg y) W (Nat.le_trans (mg_size x 9 hx) (by omega)) (Nat.le_trans (mg_size y 9 hy) (by omega))
  rw [ival_mg, ival_mg] at h
  exact h
theorem div_lit (x y q r : Int) (hx : x.natAbs < 256 ^ 9) (hy : y.natAbs < 18446744073709551616) (hy0 : y ≠ 0) (hd : IsDiv x y q r) (bx by' bq br : Bool) (sx sy sq sr : ByteArray)
    (h1 : ng x = bx) (h2 : mg x = sx) (h3 : ng y = by') (h4 : mg y = sy) (h5 : ng q = bq) (h6 : mg q = sq) (h7 : ng r = br) (h8 : mg r = sr) (W : World) :
    Calls Tryz.prog 88 #[.agg #[.bool bx, .string sx], .agg #[.bool by', .string sy]] W fun e w' => e = .returned (.tuple #[.agg #[.bool bq, .string sq], .agg #[.bool br, .string sr], .int .i64 0]) ∧ Below W.heap.size W w' := by
  subst h1; subst h2; subst h3; subst h4; subst h5; subst h6; subst h7; subst h8
  have e1 : beVal (mg x).data.toList = x.natAbs := by rw [mg_list, beVal_be]
  have e2 : beVal (mg y).data.toList = y.natAbs := by rw [mg_list, beVal_be]
  have hl : (nw x.natAbs).length ≤ 1048576 := Nat.le_trans (nw_length_le 9 x.natAbs (Nat.lt_of_lt_of_le hx (Nat.pow_le_pow_left (by omega) 9))) (by omega)
  have h := div_gen (ng x) (ng y) (mg x) (mg y) W (Nat.le_trans (mg_size x 9 hx) (by omega)) (Nat.le_trans (mg_size y 9 (Nat.lt_of_lt_of_le hy (by decide))) (by omega))
    (by rw [e1, e2]; exact divideOk_word _ _ (by omega) hl (.inr hy)) (by rw [e2]; omega)
  rw [ival_mg, ival_mg] at h
  refine h.mono ?_
  rintro e w' ⟨q', r', hd', rfl, hb⟩
  obtain ⟨rfl, rfl⟩ := hd.unique hd'
  exact ⟨rfl, hb⟩
theorem digits_two64 : Lib.decDigits 18446744073709551616 = [49, 56, 52, 52, 54, 55, 52, 52, 48, 55, 51, 55, 48, 57, 53, 53, 49, 54, 49, 54] := by
  simp [Lib.decDigits]
theorem bl_two64 : bl 18446744073709551616 = 65 := by decide
theorem big_mul : (4294967296 : Int) * 4294967296 = ((18446744073709551616 : Nat) : Int) := by decide

end Go.Proofs.YtpdhffjdgnpikaaGreatDoor
