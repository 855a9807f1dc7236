/- The contract of bigint.read. -/
import Derived.Test.YtpdhffjdgnpikaaGreatDoorChunk
namespace Go.Proofs.YtpdhffjdgnpikaaGreatDoor
open Go.RowKit Go.Shelf

end Go.Proofs.YtpdhffjdgnpikaaGreatDoor
