/- The contract of bigint.appendChunk. -/
import Derived.Test.YtpdhffjdgnpikaaGreatDoorMulWord
namespace Go.Proofs.YtpdhffjdgnpikaaGreatDoor
open Go.RowKit Go.Shelf

end Go.Proofs.YtpdhffjdgnpikaaGreatDoor
