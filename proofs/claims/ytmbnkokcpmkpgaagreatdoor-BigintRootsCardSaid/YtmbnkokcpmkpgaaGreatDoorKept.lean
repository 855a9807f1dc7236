/- Facts on cells outlive the turn of a block that holds no cells. -/
import Derived.Test.YtmbnkokcpmkpgaaGreatDoorTrimB
namespace Go.Proofs.YtmbnkokcpmkpgaaGreatDoor
open Go.RowKit Go.Shelf

/-- The word at a place. -/
def wat (xs : List Nat) (j : Nat) : Nat := xs.getD j 0

theorem Row.kept {W W' : World} {row : Option Nat} {b off : Nat} {xs : List Nat} (h : Row W b off xs) (hg : W.grownBy W' row) (hr : ∀ r, row = some r → ∃ o : Obj, W.heap[r]? = some o ∧ o.isCells = false) : Row W' b off xs := fun j hj =>
  ⟨cell_kept (h j hj).1 hg hr, (frozen_kept (h j hj).1 hg hr).trans (h j hj).2⟩
theorem RowB.kept {W W' : World} {row : Option Nat} {b off : Nat} {xs : List UInt8} (h : RowB W b off xs) (hg : W.grownBy W' row) (hr : ∀ r, row = some r → ∃ o : Obj, W.heap[r]? = some o ∧ o.isCells = false) : RowB W' b off xs := fun j hj =>
  ⟨cell_kept (h j hj).1 hg hr, (frozen_kept (h j hj).1 hg hr).trans (h j hj).2⟩
theorem Nt.kept {W W' : World} {row : Option Nat} {p : Option Addr} {xs : List Nat} (h : Nt W p xs) (hg : W.grownBy W' row) (hr : ∀ r, row = some r → ∃ o : Obj, W.heap[r]? = some o ∧ o.isCells = false) : Nt W' p xs := by
  rcases h with rfl | ⟨b, off, rfl, h⟩
  · exact .inl rfl
  · exact .inr ⟨b, off, rfl, h.kept hg hr⟩
theorem Room.kept {W W' : World} {row : Option Nat} {b n : Nat} (h : Room W b n) (hg : W.grownBy W' row) (hr : ∀ r, row = some r → ∃ o : Obj, W.heap[r]? = some o ∧ o.isCells = false) : Room W' b n := fun j hj => by
  obtain ⟨h1, h2⟩ := h j hj
  obtain ⟨v, hv⟩ := Option.isSome_iff_exists.1 h1
  exact ⟨by rw [cell_kept hv hg hr]; rfl, (frozen_kept hv hg hr).trans h2⟩
/-- A box: one cell, not frozen. -/
def Box (B : Nat) (v : Value) (W : World) : Prop := W.cell? ⟨B, 0, none⟩ = some v ∧ W.frozen? ⟨B, 0, none⟩ = false
theorem Box.kept {W W' : World} {row : Option Nat} {B : Nat} {v : Value} (h : Box B v W) (hg : W.grownBy W' row) (hr : ∀ r, row = some r → ∃ o : Obj, W.heap[r]? = some o ∧ o.isCells = false) : Box B v W' :=
  ⟨cell_kept h.1 hg hr, (frozen_kept h.1 hg hr).trans h.2⟩
theorem Box.below {W W' : World} {B0 B : Nat} {v : Value} (h : Box B v W) (hb : Below B0 W W') (hB : B < B0) : Box B v W' :=
  ⟨(hb.cell (p := ⟨B, 0, none⟩) hB).trans h.1, (hb.frozen (p := ⟨B, 0, none⟩) hB).trans h.2⟩
theorem box_new (w : World) (v : Value) (T : TypeId) : Box w.heap.size v (w.alloc (.cells #[v] T)) := by
  have hh := heap_alloc_new w (.cells #[v] T)
  constructor
  · simp only [World.cell?, hh]; simp
  · simp only [World.frozen?, hh]; simp
theorem Box.lt {W : World} {B : Nat} {v : Value} (h : Box B v W) : B < W.heap.size := World.block_lt_of_cell? W _ h.1
theorem Box.set {W : World} {B : Nat} {v : Value} (h : Box B v W) (u : Value) : Box B u (W.setCell ⟨B, 0, none⟩ u) :=
  ⟨World.cell?_setCell_same' _ _ _ (by rw [h.1]; rfl), by rw [World.frozen?_setCell]; exact h.2⟩
theorem Box.other {W : World} {B B' o : Nat} {v u : Value} (h : Box B v W) (hne : B ≠ B') : Box B v (W.setCell ⟨B', o, none⟩ u) :=
  ⟨(World.cell?_setCell_other _ _ _ _ (by intro e; have := congrArg Addr.block e; simp at this; omega)).trans h.1, by rw [World.frozen?_setCell]; exact h.2⟩
theorem Row.other {W : World} {b off B' o : Nat} {xs : List Nat} {u : Value} (h : Row W b off xs) (hne : b ≠ B') : Row (W.setCell ⟨B', o, none⟩ u) b off xs := fun j hj =>
  ⟨(World.cell?_setCell_other _ _ _ _ (by intro e; have := congrArg Addr.block e; simp at this; omega)).trans (h j hj).1, by rw [World.frozen?_setCell]; exact (h j hj).2⟩
theorem Nt.other {W : World} {p : Option Addr} {B' o : Nat} {xs : List Nat} {u : Value} (h : Nt W p xs) (hne : ∀ a, p = some a → xs ≠ [] → a.block ≠ B') : Nt (W.setCell ⟨B', o, none⟩ u) p xs := by
  by_cases h0 : xs = []
  · exact .inl h0
  · rcases h with h | ⟨b, off, rfl, h⟩
    · exact absurd h h0
    · exact .inr ⟨b, off, rfl, h.other (hne _ rfl h0)⟩
theorem RowB.other {W : World} {b off B' o : Nat} {xs : List UInt8} {u : Value} (h : RowB W b off xs) (hne : b ≠ B') : RowB (W.setCell ⟨B', o, none⟩ u) b off xs := fun j hj =>
  ⟨(World.cell?_setCell_other _ _ _ _ (by intro e; have := congrArg Addr.block e; simp at this; omega)).trans (h j hj).1, by rw [World.frozen?_setCell]; exact (h j hj).2⟩
theorem Room.other {W : World} {b n B' o : Nat} {u : Value} (h : Room W b n) (hne : b ≠ B') : Room (W.setCell ⟨B', o, none⟩ u) b n := fun j hj => by
  rw [World.frozen?_setCell, World.cell?_setCell_other _ _ _ _ (by intro e; have := congrArg Addr.block e; simp at this; omega)]
  exact h j hj
theorem ownFrom_belowW (w : World) (B n : Nat) (hB : n ≤ B) {β : Type} : OwnFrom B (fun (_ : β) W => Below n w W ∧ B ≤ W.heap.size) := fun _ W W' row hs hg hr =>
  ⟨hs.1.trans ⟨hg.os, hg.tape, hg.output, hg.size, fun k hk => hg.block k (by have := hs.2; omega) (fun e => by have := (hr k e.symm).1; omega)⟩, Nat.le_trans hs.2 hg.size⟩
end Go.Proofs.YtmbnkokcpmkpgaaGreatDoor
