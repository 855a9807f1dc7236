/- Arguments of type api.Rat opened and shut. -/
import Derived.Test.YtpdhffjdgnpikaaGreatDoorFrame
import Derived.Lib.SmallJoins
namespace Go.Proofs.YtpdhffjdgnpikaaGreatDoor
open Go.ChangeShapes Go.WideShapes Go.ChangeAt Go.RowKit Go.Shelf Go.Lib Go.Joins

theorem cellsR : Tryz.prog.cellsOf 25 = 3 := by kernel_rfl
/-- How an api.Rat reads. -/
def dR {H : Type} (n : Bool) (s t : ByteArray) : DataW H := .agg [.lit (.bool n), .lit (.string s.data.toList), .lit (.string t.data.toList)]
set_option maxRecDepth 100000 in
theorem open_rat {H : Type} {enc : TypeId × Value → H} {w : World} {b0 base : Nat} {spare : Nat → Bool} {held : Bool} {v : Value} {d : DataW H} {p : List MemPlace}
    (hv : Value.okWide Tryz.prog w .any b0 25 v) (h : DataW.Trod enc Tryz.prog w base spare held 25 v d p) :
    ∃ n s t, v = .agg #[.bool n, .string s, .string t] ∧ d = dR n s t ∧ p = [] ∧ s.size ≤ maxLen ∧ t.size ≤ maxLen := by
  obtain ⟨c0, c1, c2, y0, y1, y2, m, rfl, rfl, rfl, hy0, hy1, hy2⟩ := open_agg3 Tryz.underlying25 (by kernel_rfl) cellsR hv h
  obtain ⟨n, e0, rfl⟩ := DataW.trod_bool Tryz.underlying4 hy0
  obtain ⟨s, e1, rfl, hs⟩ := DataW.trod_string Tryz.underlying9 hy1
  obtain ⟨t, e2, rfl, ht⟩ := DataW.trod_string Tryz.underlying9 hy2
  simp at e0 e1 e2
  subst e0 e1 e2
  exact ⟨n, s, t, rfl, rfl, rfl, hs, ht⟩
set_option maxRecDepth 100000 in
theorem shut_rat {H : Type} {enc : TypeId × Value → H} {w : World} {base : Nat} {spare : Nat → Bool} {held : Bool} (n : Bool) (s t : ByteArray) (hs : s.size ≤ maxLen) (ht : t.size ≤ maxLen) :
    DataW.Trod enc Tryz.prog w base spare held 25 (.agg #[.bool n, .string s, .string t]) (dR n s t) [] :=
  shut_agg3 (y0 := (.lit (.bool n), [])) (y1 := (.lit (.string s.data.toList), [])) (y2 := (.lit (.string t.data.toList), [])) Tryz.underlying25 (by kernel_rfl) cellsR ⟨1, by simp [DataW.trod, Tryz.underlying4]⟩ ⟨1, by simp [DataW.trod, Tryz.underlying9, hs]⟩ ⟨1, by simp [DataW.trod, Tryz.underlying9, ht]⟩
end Go.Proofs.YtpdhffjdgnpikaaGreatDoor
