/- What the laws on texts want of the texts of integers. -/
import Derived.Test.YtpdhffjdgnpikaaGreatDoorParse
namespace Go.Proofs.YtpdhffjdgnpikaaGreatDoor
open Go.RowKit Go.Shelf

theorem nDigits_upto : ∀ (k n : Nat), n < 10 ^ (k + 1) → Lib.nDigits n ≤ k + 1 := by
  intro k
  induction k with
  | zero => intro n h; rw [Lib.nDigits_small (by omega)]; exact Nat.le_refl _
  | succ k ih =>
    intro n h
    by_cases h10 : n < 10
    · rw [Lib.nDigits_small h10]; omega
    · rw [Lib.nDigits_big h10]
      have := ih (n / 10) (by rw [Nat.pow_succ] at h; omega)
      omega
theorem txt_size (z : Int) (k : Nat) (h : z.natAbs < 10 ^ (k + 1)) : (txt z).size ≤ k + 2 := by
  show (Lib.itoa z).length ≤ _
  by_cases hz : z < 0
  · obtain ⟨n, rfl⟩ : ∃ n : Nat, z = -(n : Int) := ⟨z.natAbs, by omega⟩
    rw [Lib.itoa_neg n (by omega), List.length_cons, Lib.decDigits_length]
    have := nDigits_upto k n (by omega)
    omega
  · obtain ⟨n, rfl⟩ : ∃ n : Nat, z = (n : Int) := ⟨z.toNat, by omega⟩
    rw [Lib.itoa_nonneg n, Lib.decDigits_length]
    have := nDigits_upto k n (by omega)
    omega
end Go.Proofs.YtpdhffjdgnpikaaGreatDoor
