/- The contract of bigint.Parse: the texts that it takes are those that strconv.Itoa's rule writes. -/
import Derived.Test.YtpdhffjdgnpikaaGreatDoorTry
namespace Go.Proofs.YtpdhffjdgnpikaaGreatDoor
open Go.RowKit Go.Shelf

end Go.Proofs.YtpdhffjdgnpikaaGreatDoor
