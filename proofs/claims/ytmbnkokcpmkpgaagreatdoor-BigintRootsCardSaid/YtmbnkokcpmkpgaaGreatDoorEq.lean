/- Equality of two api.Int values, as the walk meets it. -/
import Derived.Test.YtmbnkokcpmkpgaaGreatDoorStrip
import Derived.Laws.StructEq
namespace Go.Proofs.YtmbnkokcpmkpgaaGreatDoor
open Go.RowKit

theorem fact1 : Tryz.prog.stoodInHeld 23 = false := by kernel_rfl
theorem fact2 : Tryz.prog.eqGuardType Tryz.prog.depth 23 = false := by kernel_rfl
theorem fact3 : Tryz.prog.underlying 23 = some (.struct (Tryz.prog.fieldsOf 23)) := by kernel_rfl

theorem eqIn_int (n n' : Bool) (s s' : ByteArray) (w : World) :
    (Op.equalIn 10000 23 (.agg #[.bool n, .string s]) (.agg #[.bool n', .string s'])).run Tryz.prog w = .ok (n == n' && s.toList == s'.toList) w := by
  rw [show (10000 : Nat) = 9999 + 1 from rfl, run_equalIn_agg w 9999 23 _ _ fact3 fact1]
  simp [Program.fieldsOf, Tryz.underlying23, Op.eqFields, go_sem, Tryz.underlying4, Tryz.underlying9]
  by_cases h1 : n = n' <;> by_cases h2 : s.toList = s'.toList <;> simp [h1, h2]

/-- Whether two api.Int values are equal structs. -/
def eqI (n : Bool) (s : ByteArray) (n' : Bool) (s' : ByteArray) : Bool := n == n' && s.toList == s'.toList
theorem eqI_ints (y z : Int) : eqI (ng y) (mg y) (ng z) (mg z) = decide (y = z) := by
  unfold eqI
  rw [Lib.toList_data, Lib.toList_data]
  by_cases h : y = z
  · subst h; simp
  · have : ¬ (ng y = ng z ∧ (mg y).data.toList = (mg z).data.toList) := fun ⟨h1, h2⟩ => h (mg_inj h1 (ba_ext h2))
    rw [decide_eq_false h]
    rw [Bool.eq_false_iff]
    intro h3
    rw [Bool.and_eq_true, beq_iff_eq, beq_iff_eq] at h3
    exact this h3

theorem eql_int (n n' : Bool) (s s' : ByteArray) (w : World) :
    (binOp .eql 23 (.agg #[.bool n, .string s]) (.agg #[.bool n', .string s'])).run Tryz.prog w = .ok (.bool (eqI n s n' s')) w := by
  rw [run_eql_struct, eqIn_int]; rfl
theorem neq_int (n n' : Bool) (s s' : ByteArray) (w : World) :
    (binOp .neq 23 (.agg #[.bool n, .string s]) (.agg #[.bool n', .string s'])).run Tryz.prog w = .ok (.bool (!eqI n s n' s')) w := by
  rw [run_neq_struct, eqIn_int]; rfl
theorem guard_int (op : BinOp) (x y : Operand) (xs ys : Array Value) (w : World) :
    (eqGuard op 23 x y (.agg xs) (.agg ys)).run Tryz.prog w = .ok () w := run_eqGuard_agg w op _ x y xs ys fact2
end Go.Proofs.YtmbnkokcpmkpgaaGreatDoor
