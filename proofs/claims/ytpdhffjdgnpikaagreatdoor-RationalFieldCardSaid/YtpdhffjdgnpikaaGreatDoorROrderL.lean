/- narrowslaw02.RationalOrder returns true. -/
import Derived.Test.YtpdhffjdgnpikaaGreatDoorRatSv
import Derived.Test.YtpdhffjdgnpikaaGreatDoorROrder
import Derived.Test.YtpdhffjdgnpikaaGreatDoorRatValB
namespace Go.Proofs.YtpdhffjdgnpikaaGreatDoor
open Go.RowKit Go.Shelf

/-- Three numbers of a size that the laws examine. -/
theorem three_small {na nb nc : Bool} {sa ta sb tb sc tc : ByteArray} (hg : ([(na, sa, ta), (nb, sb, tb), (nc, sc, tc)] : List (Bool × ByteArray × ByteArray)).any grt = false) :
  ∃ (k : Nat) (p q r : Rat), 1 ≤ k ∧ k ≤ 100 ∧ RVal na sa ta p ∧ RVal nb sb tb q ∧ RVal nc sc tc r ∧ RSz k p ∧ RSz k q ∧ RSz k r := by
 have ha : sa.size ≤ 60 ∧ ta.size ≤ 60 := grt_false hg (na, sa, ta) (by simp)
 have hb : sb.size ≤ 60 ∧ tb.size ≤ 60 := grt_false hg (nb, sb, tb) (by simp)
 have hc : sc.size ≤ 60 ∧ tc.size ≤ 60 := grt_false hg (nc, sc, tc) (by simp)
 exact ⟨60, _, _, _, by omega, by omega, ⟨rfl, by omega, by omega⟩, ⟨rfl, by omega, by omega⟩, ⟨rfl, by omega, by omega⟩, rsz_rval na sa ta 60 ha.1 ha.2 (by omega), rsz_rval nb sb tb 60 hb.1 hb.2 (by omega), rsz_rval nc sc tc 60 hc.1 hc.2 (by omega)⟩
end Go.Proofs.YtpdhffjdgnpikaaGreatDoor
