/- Rows of 64-bit words in memory, and the contract of bigint.trim. -/
import Derived.Test.YtmbnkokcpmkpgaaGreatDoorInts
import Derived.Test.YtmbnkokcpmkpgaaGreatDoorWords
namespace Go.Proofs.YtmbnkokcpmkpgaaGreatDoor
open Go.RowKit

/-- The cells of a block from a place on hold these words, and are not frozen. -/
def Row (w : World) (b off : Nat) (xs : List Nat) : Prop :=
  ∀ j, j < xs.length → w.cell? ⟨b, off + j, none⟩ = some (.int .u64 (xs.getD j 0 : Nat)) ∧ w.frozen? ⟨b, off + j, none⟩ = false
/-- A slice's address leads to these words. -/
def Nt (w : World) (p : Option Addr) (xs : List Nat) : Prop := xs = [] ∨ ∃ b off, p = some ⟨b, off, none⟩ ∧ Row w b off xs

theorem Row.take {w : World} {b off : Nat} {xs : List Nat} (h : Row w b off xs) (k : Nat) : Row w b off (xs.take k) := by
  intro j hj
  rw [List.length_take] at hj
  have := h j (by omega)
  rw [List.getD_eq_getElem?_getD, List.getElem?_take_of_lt (by omega), ← List.getD_eq_getElem?_getD]
  exact this
theorem Nt.take {w : World} {p : Option Addr} {xs : List Nat} (h : Nt w p xs) (k : Nat) : Nt w p (xs.take k) := by
  rcases h with rfl | ⟨b, off, rfl, h⟩
  · exact .inl (by simp)
  · exact .inr ⟨b, off, rfl, h.take k⟩
theorem Row.lt {w : World} {b off : Nat} {xs : List Nat} (h : Row w b off xs) (h0 : 0 < xs.length) : b < w.heap.size :=
  World.block_lt_of_cell? w _ (h 0 h0).1
theorem Row.below {w w' : World} {b off B : Nat} {xs : List Nat} (h : Row w b off xs) (hb : Below B w w') (hB : b < B) : Row w' b off xs := fun j hj =>
  ⟨(hb.cell (p := ⟨b, off + j, none⟩) hB).trans (h j hj).1, (hb.frozen (p := ⟨b, off + j, none⟩) hB).trans (h j hj).2⟩
theorem Nt.below {w w' : World} {p : Option Addr} {xs : List Nat} (h : Nt w p xs) (hb : Below w.heap.size w w') : Nt w' p xs := by
  rcases h with rfl | ⟨b, off, rfl, h⟩
  · exact .inl rfl
  · by_cases h0 : 0 < xs.length
    · exact .inr ⟨b, off, rfl, h.below hb (h.lt h0)⟩
    · exact .inl (List.eq_nil_of_length_eq_zero (by omega))

theorem slice_eq {p : Option Addr} {c a b : Nat} (h : a = b) : Ending.returned (.slice p a c) = .returned (.slice p b c) := by rw [h]
def sliceLen : Value → Nat | .slice _ n _ => n | _ => 0

set_option maxHeartbeats 400000 in
theorem trim_any (p : Option Addr) (xs : List Nat) (cap : Nat) (w : World) (hx : Nt w p xs) (hn : xs.length ≤ 1048576) (hc : xs.length ≤ cap) (hc' : cap ≤ maxLen) :
    Calls Tryz.prog 81 #[.slice p xs.length cap] w fun e w' => e = .returned (.slice p (trimW xs) cap) ∧ w = w' := by
  unfold maxLen at hc'
  go_enter Tryz.func81, Tryz.ntmps81
  go_wp2
  go_loop [0] (fun v => ∃ k : Nat, k ≤ xs.length ∧ v = .slice p k cap ∧ trimW (xs.take k) = trimW xs) (fun v => sliceLen v)
  case atStart => exact ⟨xs.length, Nat.le_refl _, rfl, by simp⟩
  case round =>
    obtain ⟨k, hk, rfl, ht⟩ := hrel
    have HT := Lib.hid ht
    clear ht
    rcases hx with rfl | ⟨b, off, rfl, hrow⟩
    · simp at hk
      subst hk
      go_wp2
      go_ret
      exact ⟨slice_eq rfl, rfl⟩
    · cases k with
      | zero =>
        go_wp2
        go_ret
        exact ⟨slice_eq (by rw [← HT.out]; rfl), rfl⟩
      | succ k =>
        have hcell := (hrow k (by omega)).1
        have e1 : ((k + 1 : Nat) : Int) - 1 = (k : Int) := by omega
        go_wp2
        · have h0 : ((xs[k]?.getD 0 : Nat) : Int) == 0 := by assumption
          have h1 : xs.getD k 0 = 0 := by rw [List.getD_eq_getElem?_getD]; simpa using h0
          go_round
          case rel => exact ⟨k, by omega, rfl, trimW_go xs k hk h1 HT.out⟩
          case measure => simp [sliceLen]
        · have h0 : (((xs[k]?.getD 0 : Nat) : Int) == 0) = false := by assumption
          have h1 : xs.getD k 0 ≠ 0 := by rw [List.getD_eq_getElem?_getD]; intro h; rw [h] at h0; simp at h0
          go_ret
          exact ⟨slice_eq (trimW_stop xs k hk h1 HT.out), rfl⟩
end Go.Proofs.YtmbnkokcpmkpgaaGreatDoor
