/- The walk of narrowslaw02.RationalCanonical. -/
import Derived.Test.YtpdhffjdgnpikaaGreatDoorRatLaw
import Derived.Test.YtpdhffjdgnpikaaGreatDoorRatEq
import Derived.Test.YtpdhffjdgnpikaaGreatDoorInv
namespace Go.Proofs.YtpdhffjdgnpikaaGreatDoor
open Go.RowKit Go.Shelf

theorem rowR_cells2 {B : Nat} {n1 n2 : Bool} {s1 t1 s2 t2 : ByteArray} {W : World} (h : Cells B [.bool n1, .string s1, .string t1, .bool n2, .string s2, .string t2] W) : RowR W B [(n1, s1, t1), (n2, s2, t2)] := by
 intro j hj
 have hj1 : j < 2 := hj
 rcases j with _ | _ | j
 ·exact ⟨(h 0 _ rfl).1, (h 1 _ rfl).1, (h 2 _ rfl).1⟩
 ·exact ⟨(h 3 _ rfl).1, (h 4 _ rfl).1, (h 5 _ rfl).1⟩
 ·omega
end Go.Proofs.YtpdhffjdgnpikaaGreatDoor
