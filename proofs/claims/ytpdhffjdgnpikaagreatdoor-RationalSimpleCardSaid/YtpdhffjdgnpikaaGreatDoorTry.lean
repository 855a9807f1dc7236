/- The contracts of bigint.tryRead and bigint.Parse. -/
import Derived.Test.YtpdhffjdgnpikaaGreatDoorRead
import Derived.Defers
import Derived.Recover
namespace Go.Proofs.YtpdhffjdgnpikaaGreatDoor
open Go.RowKit Go.Shelf

end Go.Proofs.YtpdhffjdgnpikaaGreatDoor
