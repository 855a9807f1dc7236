/- The comparison of numbers of layer 2 as structs. -/
import Derived.Test.YtpdhffjdgnpikaaGreatDoorRatMath
namespace Go.Proofs.YtpdhffjdgnpikaaGreatDoor
open Go.RowKit

theorem factR1 : Tryz.prog.stoodInHeld 25 = false := by kernel_rfl
theorem factR2 : Tryz.prog.eqGuardType Tryz.prog.depth 25 = false := by kernel_rfl
theorem factR3 : Tryz.prog.underlying 25 = some (.struct (Tryz.prog.fieldsOf 25)) := by kernel_rfl
/-- Whether two numbers are equal structs. -/
def eqR (n : Bool) (s t : ByteArray) (n' : Bool) (s' t' : ByteArray) : Bool := n == n' && s.toList == s'.toList && t.toList == t'.toList
theorem eqIn_rat (n n' : Bool) (s s' t t' : ByteArray) (w : World) :
    (Op.equalIn 10000 25 (.agg #[.bool n, .string s, .string t]) (.agg #[.bool n', .string s', .string t'])).run Tryz.prog w = .ok (eqR n s t n' s' t') w := by
  unfold eqR
  rw [show (10000 : Nat) = 9999 + 1 from rfl, run_equalIn_agg w 9999 25 _ _ factR3 factR1]
  simp [Program.fieldsOf, Tryz.underlying25, Op.eqFields, go_sem, Tryz.underlying4, Tryz.underlying9]
  by_cases h1 : n = n' <;> by_cases h2 : s.toList = s'.toList <;> by_cases h3 : t.toList = t'.toList <;> simp [h1, h2, h3]
theorem eqR_iff (n n' : Bool) (s s' t t' : ByteArray) : eqR n s t n' s' t' = decide (n = n' ∧ s = s' ∧ t = t') := by
  unfold eqR
  rw [Lib.toList_data, Lib.toList_data, Lib.toList_data, Lib.toList_data]
  by_cases h : n = n' ∧ s = s' ∧ t = t'
  · obtain ⟨rfl, rfl, rfl⟩ := h; simp
  · rw [decide_eq_false h, Bool.eq_false_iff]
    intro h3
    rw [Bool.and_eq_true, Bool.and_eq_true, beq_iff_eq, beq_iff_eq, beq_iff_eq] at h3
    exact h ⟨h3.1.1, ba_ext h3.1.2, ba_ext h3.2⟩
theorem eql_rat (n n' : Bool) (s s' t t' : ByteArray) (w : World) :
    (binOp .eql 25 (.agg #[.bool n, .string s, .string t]) (.agg #[.bool n', .string s', .string t'])).run Tryz.prog w = .ok (.bool (eqR n s t n' s' t')) w := by
  rw [run_eql_struct, eqIn_rat]; rfl
theorem guard_rat (op : BinOp) (x y : Operand) (xs ys : Array Value) (w : World) :
    (eqGuard op 25 x y (.agg xs) (.agg ys)).run Tryz.prog w = .ok () w := run_eqGuard_agg w op _ x y xs ys factR2
end Go.Proofs.YtpdhffjdgnpikaaGreatDoor
