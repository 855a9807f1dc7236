/- The contract of bigint.multiplyWord. -/
import Derived.Test.YtpdhffjdgnpikaaGreatDoorLawKit
namespace Go.Proofs.YtpdhffjdgnpikaaGreatDoor
open Go.RowKit Go.Shelf

end Go.Proofs.YtpdhffjdgnpikaaGreatDoor
