/- The contracts of the library that this seat takes off the shelf. -/
import Derived.Test.YtpdhffjdgnpikaaGreatDoorShelf
