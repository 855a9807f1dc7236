/- What the laws on texts want of the texts of integers. -/
import Derived.Test.YtajollhpimfefaaGreatDoorParse
namespace Go.Proofs.YtajollhpimfefaaGreatDoor
open Go.RowKit Go.Shelf

theorem decDigits_ten (n : Nat) (h : 1 ≤ n) : Lib.decDigits n ++ [48] = Lib.decDigits (10 * n) := by
  rw [decDigits_more (10 * n) (by omega), show 10 * n / 10 = n by omega, show 10 * n % 10 = 0 by omega]
  rfl
theorem txt_ten (z : Int) (h : z ≠ 0) : (txt z ++ ⟨#[48]⟩ : ByteArray) = txt (10 * z) := by
  apply ba_ext
  rw [ByteArray.data_append, Array.toList_append]
  show Lib.itoa z ++ [48] = Lib.itoa (10 * z)
  by_cases hz : z < 0
  · obtain ⟨n, rfl⟩ : ∃ n : Nat, z = -(n : Int) := ⟨z.natAbs, by omega⟩
    rw [Lib.itoa_neg n (by omega), show (10 : Int) * -(n : Int) = -((10 * n : Nat) : Int) by omega, Lib.itoa_neg _ (by omega), ← decDigits_ten n (by omega)]
    rfl
  · obtain ⟨n, rfl⟩ : ∃ n : Nat, z = (n : Int) := ⟨z.toNat, by omega⟩
    rw [Lib.itoa_nonneg n, show (10 : Int) * (n : Int) = ((10 * n : Nat) : Int) by omega, Lib.itoa_nonneg, ← decDigits_ten n (by omega)]
theorem itoa_head (z : Int) : z < 0 ∧ (Lib.itoa z).getD 0 0 = 45 ∨ 0 ≤ z ∧ 48 ≤ ((Lib.itoa z).getD 0 0).toNat := by
  by_cases hz : z < 0
  · obtain ⟨n, rfl⟩ : ∃ n : Nat, z = -(n : Int) := ⟨z.natAbs, by omega⟩
    rw [Lib.itoa_neg n (by omega)]
    exact .inl ⟨hz, rfl⟩
  · obtain ⟨n, rfl⟩ : ∃ n : Nat, z = (n : Int) := ⟨z.toNat, by omega⟩
    rw [Lib.itoa_nonneg n]
    have h1 := List.length_pos_iff.2 (decDigits_ne n)
    have h2 := digs_decDigits n _ (List.getElem_mem h1)
    rw [List.getD_eq_getElem?_getD, List.getElem?_eq_getElem h1, Option.getD_some]
    exact .inr ⟨by omega, h2.1⟩
theorem itoa_inj {x y : Int} (h : Lib.itoa x = Lib.itoa y) : x = y := by
  rcases itoa_head x with ⟨hx, ex⟩ | ⟨hx, ex⟩ <;> rcases itoa_head y with ⟨hy, ey⟩ | ⟨hy, ey⟩
  · obtain ⟨m, rfl⟩ : ∃ n : Nat, x = -(n : Int) := ⟨x.natAbs, by omega⟩
    obtain ⟨n, rfl⟩ : ∃ n : Nat, y = -(n : Int) := ⟨y.natAbs, by omega⟩
    rw [Lib.itoa_neg m (by omega), Lib.itoa_neg n (by omega)] at h
    injection h with _ h
    rw [← dv_decDigits m, ← dv_decDigits n, h]
  · rw [← h, ex] at ey; exact absurd ey (by decide)
  · rw [h, ey] at ex; exact absurd ex (by decide)
  · obtain ⟨m, rfl⟩ : ∃ n : Nat, x = (n : Int) := ⟨x.toNat, by omega⟩
    obtain ⟨n, rfl⟩ : ∃ n : Nat, y = (n : Int) := ⟨y.toNat, by omega⟩
    rw [Lib.itoa_nonneg m, Lib.itoa_nonneg n] at h
    rw [← dv_decDigits m, ← dv_decDigits n, h]
theorem txt_inj {x y : Int} (h : txt x = txt y) : x = y := itoa_inj (congrArg (fun b : ByteArray => b.data.toList) h)
theorem itoa_zero : Lib.itoa 0 = [48] := by
  rw [show Lib.itoa (0 : Int) = Lib.decDigits 0 from Lib.itoa_nonneg 0, Lib.decDigits_one (by omega)]
  rfl
theorem txt_zero (z : Int) : ((txt z).data.toList == [48]) = decide (z = 0) := by
  by_cases h : z = 0
  · subst h
    show (Lib.itoa 0 == [48]) = _
    rw [itoa_zero]
    rfl
  · rw [decide_eq_false h]
    exact beq_eq_false_iff_ne.2 (fun e => h (itoa_inj (e.trans itoa_zero.symm)))
theorem txt_noughts (z : Int) : (txt 0 ++ ⟨#[48]⟩ : ByteArray) ≠ txt z := by
  intro e
  have h := congrArg (fun b : ByteArray => b.data.toList) e
  simp only [ByteArray.data_append, Array.toList_append] at h
  have h2 : Lib.itoa 0 ++ [48] = Lib.itoa z := h
  rw [itoa_zero] at h2
  have hd : (Lib.itoa z).getD 0 0 = 48 := by rw [← h2]; rfl
  rcases itoa_head z with ⟨_, hx⟩ | ⟨hz, _⟩
  · rw [hd] at hx; exact absurd hx (by decide)
  · obtain ⟨m, rfl⟩ : ∃ n : Nat, z = (n : Int) := ⟨z.toNat, by omega⟩
    rw [Lib.itoa_nonneg m] at h2 hd
    by_cases hm : m = 0
    · rw [hm, Lib.decDigits_one (by omega)] at h2
      exact absurd (congrArg List.length h2) (by decide)
    · exact head_decDigits m (by omega) (by rw [hd]; rfl)
theorem txt_minus (z : Int) : Lib.hasPrefix (txt z).data.toList [45] = decide (z < 0) := by
  show [45].isPrefixOf (Lib.itoa z) = _
  rcases itoa_head z with ⟨hz, hx⟩ | ⟨hz, hx⟩
  · rw [decide_eq_true hz]
    cases hl : Lib.itoa z with
    | nil => rw [hl] at hx; exact absurd hx (by decide)
    | cons a l =>
      rw [hl] at hx
      have ha : a = 45 := hx
      subst ha
      show ((45 : UInt8) == 45 && [].isPrefixOf l) = true
      rfl
  · rw [decide_eq_false (by omega)]
    cases hl : Lib.itoa z with
    | nil => rfl
    | cons a l =>
      rw [hl] at hx
      have ha : 48 ≤ a.toNat := hx
      show ((45 : UInt8) == a && [].isPrefixOf l) = false
      rw [show ((45 : UInt8) == a) = false from beq_eq_false_iff_ne.2 (fun e => by rw [← e] at ha; exact absurd ha (by decide))]
      rfl
theorem nDigits_upto : ∀ (k n : Nat), n < 10 ^ (k + 1) → Lib.nDigits n ≤ k + 1 := by
  intro k
  induction k with
  | zero => intro n h; rw [Lib.nDigits_small (by omega)]; exact Nat.le_refl _
  | succ k ih =>
    intro n h
    by_cases h10 : n < 10
    · rw [Lib.nDigits_small h10]; omega
    · rw [Lib.nDigits_big h10]
      have := ih (n / 10) (by rw [Nat.pow_succ] at h; omega)
      omega
theorem txt_size (z : Int) (k : Nat) (h : z.natAbs < 10 ^ (k + 1)) : (txt z).size ≤ k + 2 := by
  show (Lib.itoa z).length ≤ _
  by_cases hz : z < 0
  · obtain ⟨n, rfl⟩ : ∃ n : Nat, z = -(n : Int) := ⟨z.natAbs, by omega⟩
    rw [Lib.itoa_neg n (by omega), List.length_cons, Lib.decDigits_length]
    have := nDigits_upto k n (by omega)
    omega
  · obtain ⟨n, rfl⟩ : ∃ n : Nat, z = (n : Int) := ⟨z.toNat, by omega⟩
    rw [Lib.itoa_nonneg n, Lib.decDigits_length]
    have := nDigits_upto k n (by omega)
    omega
end Go.Proofs.YtajollhpimfefaaGreatDoor
