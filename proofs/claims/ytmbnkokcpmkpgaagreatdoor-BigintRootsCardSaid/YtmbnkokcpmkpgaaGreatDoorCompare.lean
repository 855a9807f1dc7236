/- The contracts of cmp.Compare and bigint.compare. -/
import Derived.Test.YtmbnkokcpmkpgaaGreatDoorMul
namespace Go.Proofs.YtmbnkokcpmkpgaaGreatDoor
open Go.RowKit Go.Shelf

/-- The order of two integers: -1, 0, 1. -/
def cmpZ (a b : Int) : Int := if a < b then -1 else if b < a then 1 else 0
theorem cmpZ_lt {a b : Int} (h : a < b) : cmpZ a b = -1 := by unfold cmpZ; rw [if_pos h]
theorem cmpZ_gt {a b : Int} (h : b < a) : cmpZ a b = 1 := by unfold cmpZ; rw [if_neg (by omega), if_pos h]
theorem cmpZ_eq {a b : Int} (h : a = b) : cmpZ a b = 0 := by unfold cmpZ; rw [if_neg (by omega), if_neg (by omega)]
theorem i64_eq {a b : Int} (h : a = b) : Ending.returned (.int .i64 a) = .returned (.int .i64 b) := by rw [h]

set_option maxHeartbeats 400000 in
theorem cmpInt_any (a b : Int) (w : World) :
    Calls Tryz.prog 78 #[.int .i64 a, .int .i64 b] w fun e w' => e = .returned (.int .i64 (cmpZ a b)) ∧ w = w' := by
  by_cases h1 : a < b
  · go_enter Tryz.func78, Tryz.ntmps78
    go_wp2
    go_ret
    exact ⟨i64_eq (cmpZ_lt h1).symm, rfl⟩
  · by_cases h2 : b < a
    · go_enter Tryz.func78, Tryz.ntmps78
      go_wp2
      go_ret
      exact ⟨i64_eq (cmpZ_gt h2).symm, rfl⟩
    · go_enter Tryz.func78, Tryz.ntmps78
      go_wp2
      go_ret
      exact ⟨i64_eq (cmpZ_eq (by omega)).symm, rfl⟩
set_option maxHeartbeats 400000 in
theorem cmpWord_any (a b : Int) (w : World) :
    Calls Tryz.prog 85 #[.int .u64 a, .int .u64 b] w fun e w' => e = .returned (.int .i64 (cmpZ a b)) ∧ w = w' := by
  by_cases h1 : a < b
  · go_enter Tryz.func85, Tryz.ntmps85
    go_wp2
    go_ret
    exact ⟨i64_eq (cmpZ_lt h1).symm, rfl⟩
  · by_cases h2 : b < a
    · go_enter Tryz.func85, Tryz.ntmps85
      go_wp2
      go_ret
      exact ⟨i64_eq (cmpZ_gt h2).symm, rfl⟩
    · go_enter Tryz.func85, Tryz.ntmps85
      go_wp2
      go_ret
      exact ⟨i64_eq (cmpZ_eq (by omega)).symm, rfl⟩

theorem nw_length_lt {m n : Nat} (h : (nw m).length < (nw n).length) : m < n := by
  by_cases hc : m < n
  · exact hc
  · exfalso
    have h1 := wv_lt (nw m) (nw_ok m)
    rw [wv_nw] at h1
    have := nw_length_le (nw m).length n (by omega)
    omega
theorem wv_split (xs : List Nat) (j : Nat) (h : j < xs.length) : wv xs = wv (xs.take j) + 18446744073709551616 ^ j * (wat xs j + 18446744073709551616 * wv (xs.drop (j + 1))) := by
  have e := wv_append (xs.take j) (xs.drop j)
  rw [List.take_append_drop, List.length_take, Nat.min_eq_left (by omega), List.drop_eq_getElem_cons h, wv] at e
  rw [e]
  unfold wat
  rw [List.getD_eq_getElem?_getD, List.getElem?_eq_getElem h]; rfl
theorem word_decides {xs ys : List Nat} {j : Nat} (hx : Ok xs) (hj : j < xs.length) (hj' : j < ys.length) (hd : xs.drop (j + 1) = ys.drop (j + 1)) (hlt : wat xs j < wat ys j) : wv xs < wv ys := by
  rw [wv_split xs j hj, wv_split ys j hj', hd]
  have h1 := wv_lt (xs.take j) (hx.take j)
  rw [List.length_take, Nat.min_eq_left (by omega)] at h1
  have h2 : 18446744073709551616 ^ j * (wat xs j + 18446744073709551616 * wv (ys.drop (j + 1))) + 18446744073709551616 ^ j ≤ 18446744073709551616 ^ j * (wat ys j + 18446744073709551616 * wv (ys.drop (j + 1))) := by
    rw [← Nat.mul_succ]
    exact Nat.mul_le_mul_left _ (by omega)
  omega
theorem words_cmp {xs ys : List Nat} {j : Nat} (hx : Ok xs) (hy : Ok ys) (hj : j < xs.length) (hj' : j < ys.length) (hd : xs.drop (j + 1) = ys.drop (j + 1)) (hne : wat xs j ≠ wat ys j) : cmpZ (wat xs j) (wat ys j) = cmpZ (wv xs) (wv ys) := by
  rcases Nat.lt_or_gt_of_ne hne with h | h
  · rw [cmpZ_lt (by omega), cmpZ_lt (by have := word_decides hx hj hj' hd h; omega)]
  · rw [cmpZ_gt (by omega), cmpZ_gt (by have := word_decides hy hj' hj hd.symm h; omega)]
theorem drop_wat_eq {xs ys : List Nat} {j : Nat} (hj : j < xs.length) (hj' : j < ys.length) (hd : xs.drop (j + 1) = ys.drop (j + 1)) (he : wat xs j = wat ys j) : xs.drop j = ys.drop j := by
  rw [List.drop_eq_getElem_cons hj, List.drop_eq_getElem_cons hj', hd]
  congr 1
  unfold wat at he
  rw [List.getD_eq_getElem?_getD, List.getElem?_eq_getElem hj, List.getD_eq_getElem?_getD, List.getElem?_eq_getElem hj'] at he
  exact he
end Go.Proofs.YtmbnkokcpmkpgaaGreatDoor
