/- The contracts of the reference's small functions: trim, Canonical, small, value, compareMag, Check, Neg. The contracts of the reference's Neg, compareMag, Compare and Bits. The contracts of the reference's Compare and Bits. The contracts of the reference's mag, Of and Small. The contracts of the reference's Of and Small. -/
import Derived.Test.YtpdhffjdgnpikaaGreatDoorCmp
import Derived.Deep.RegionLaw
import Derived.Deep.CutRange
import Derived.Test.YtpdhffjdgnpikaaGreatDoorMul
namespace Go.Proofs.YtpdhffjdgnpikaaGreatDoor
open Go.RowKit Go.Shelf

end Go.Proofs.YtpdhffjdgnpikaaGreatDoor

namespace Go.Proofs.YtpdhffjdgnpikaaGreatDoor
open Go.RowKit Go.Shelf

end Go.Proofs.YtpdhffjdgnpikaaGreatDoor

namespace Go.Proofs.YtpdhffjdgnpikaaGreatDoor
open Go.RowKit Go.Shelf

end Go.Proofs.YtpdhffjdgnpikaaGreatDoor

namespace Go.Proofs.YtpdhffjdgnpikaaGreatDoor
open Go.RowKit Go.Shelf

theorem rowB_front {w : World} {b k n : Nat} {l : List UInt8} (h : RowB w b (k + 1) l) (hr : Room w b n) (hk : k < n) (c : UInt8) (v : Int) (hv : v = ((c.toNat : Nat) : Int)) : RowB (w.setCell ⟨b, k, none⟩ (.int .u8 v)) b k (c :: l) := by
  subst hv
  intro j hj
  rw [World.frozen?_setCell]
  rcases j with _ | j
  · rw [Nat.add_zero, World.cell?_setCell_same' _ _ _ (hr k hk).1]
    exact ⟨rfl, (hr k hk).2⟩
  · rw [World.cell?_setCell_other _ _ _ _ (by intro e; have := congrArg Addr.off e; simp at this)]
    have := h j (by simpa using hj)
    rw [show k + (j + 1) = k + 1 + j by omega]
    exact this
/-- Bytes in memory, as a string. -/
theorem conv_bytes {W : World} {b k cap : Nat} {l : List UInt8} (h : RowB W b k l) :
    (convert 110 9 (.slice (some ⟨b, k, none⟩) l.length cap)).run Tryz.prog W = .ok (.string ⟨l.toArray⟩) W :=
  run_convert_bytes_back (P := Tryz.prog) W 110 9 5 ⟨b, k, none⟩ cap l Tryz.underlying110 Tryz.underlying5 Tryz.underlying9
    (fun i hi => by
      rw [Addr.add_lit, (h i hi).1, List.getD_eq_getElem?_getD, List.getElem?_eq_getElem hi]; rfl)
theorem toNat_ofNat (m : Nat) : (UInt8.ofNat m).toNat = m % 256 := by simp

end Go.Proofs.YtpdhffjdgnpikaaGreatDoor

namespace Go.Proofs.YtpdhffjdgnpikaaGreatDoor
open Go.RowKit Go.Shelf

end Go.Proofs.YtpdhffjdgnpikaaGreatDoor
