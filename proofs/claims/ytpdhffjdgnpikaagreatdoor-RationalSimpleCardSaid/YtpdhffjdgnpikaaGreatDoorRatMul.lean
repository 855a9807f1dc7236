/- The contract of rational.Mul. -/
import Derived.Test.YtpdhffjdgnpikaaGreatDoorRatOps
import Derived.Test.YtpdhffjdgnpikaaGreatDoorRatOrd
import Derived.Test.YtpdhffjdgnpikaaGreatDoorInv
namespace Go.Proofs.YtpdhffjdgnpikaaGreatDoor
open Go.RowKit Go.Shelf

end Go.Proofs.YtpdhffjdgnpikaaGreatDoor
