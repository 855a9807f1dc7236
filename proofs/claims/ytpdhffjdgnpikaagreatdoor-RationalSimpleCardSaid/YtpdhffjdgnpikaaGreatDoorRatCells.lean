/- Blocks of some cells. -/
import Derived.Test.YtpdhffjdgnpikaaGreatDoorRatMath
namespace Go.Proofs.YtpdhffjdgnpikaaGreatDoor
open Go.RowKit Go.Shelf

/-- A block that holds these values, and is not frozen. -/
def Cells (B : Nat) (vs : List Value) (W : World) : Prop := ∀ j v, vs[j]? = some v → W.cell? ⟨B, j, none⟩ = some v ∧ W.frozen? ⟨B, j, none⟩ = false
theorem cells_new (W : World) (a : Array Value) (T : TypeId) : Cells W.heap.size a.toList (W.alloc (.cells a T)) := by
  intro j v h
  have hh := heap_alloc_new W (.cells a T)
  simp only [World.cell?, World.frozen?, hh]
  rw [Array.getElem?_toList] at h
  simp [h]
theorem Cells.lt {B : Nat} {v : Value} {vs : List Value} {W : World} (h : Cells B (v :: vs) W) : B < W.heap.size := World.block_lt_of_cell? W _ (h 0 v rfl).1
theorem Cells.below {B B0 : Nat} {vs : List Value} {w w' : World} (h : Cells B vs w) (hb : Below B0 w w') (hB : B < B0) : Cells B vs w' := fun j v hj =>
  ⟨(hb.cell (p := ⟨B, j, none⟩) hB).trans (h j v hj).1, (hb.frozen (p := ⟨B, j, none⟩) hB).trans (h j v hj).2⟩
theorem Cells.alloc {B : Nat} {vs : List Value} {W : World} (h : Cells B vs W) (hB : B < W.heap.size) (o : Obj) : Cells B vs (W.alloc o) :=
  h.below (B0 := W.heap.size) ((Below.refl _ _).alloc (Nat.le_refl _) o) hB
theorem Cells.other {B B' o : Nat} {vs : List Value} {u : Value} {W : World} (h : Cells B vs W) (hne : B ≠ B') : Cells B vs (W.setCell ⟨B', o, none⟩ u) := fun j v hj => by
  rw [World.frozen?_setCell, World.cell?_setCell_other _ _ _ _ (by intro e; have := congrArg Addr.block e; simp at this; omega)]
  exact h j v hj
theorem Cells.set {B k : Nat} {vs : List Value} {W : World} (h : Cells B vs W) (u x : Value) (hk : vs[k]? = some x) : Cells B (vs.set k u) (W.setCell ⟨B, k, none⟩ u) := fun j v hj => by
  rw [World.frozen?_setCell]
  by_cases e : k = j
  · subst e
    rw [List.getElem?_set_self (by have := List.getElem?_eq_some_iff.1 hk; exact this.1)] at hj
    rw [World.cell?_setCell_same' _ _ _ (by rw [(h k x hk).1]; rfl)]
    exact ⟨hj, (h k x hk).2⟩
  · rw [List.getElem?_set_ne e] at hj
    rw [World.cell?_setCell_other _ _ _ _ (by intro e'; have := congrArg Addr.off e'; simp at this; omega)]
    exact h j v hj
theorem keepN_set {V u : World} {R b k : Nat} {v : Value} (h : ∀ (a o : Nat), a < R → u.cell? ⟨a, o, none⟩ = V.cell? ⟨a, o, none⟩) (hs : R ≤ b) : ∀ (a o : Nat), a < R → (u.setCell ⟨b, k, none⟩ v).cell? ⟨a, o, none⟩ = V.cell? ⟨a, o, none⟩ := fun a o ha =>
  (World.cell?_setCell_other _ _ _ _ (fun e => by have : b = a := congrArg Addr.block e; omega)).trans (h a o ha)
theorem keepN_alloc {V u : World} {R : Nat} {X : Obj} (h : ∀ (a o : Nat), a < R → u.cell? ⟨a, o, none⟩ = V.cell? ⟨a, o, none⟩) (hs : R ≤ u.heap.size) : ∀ (a o : Nat), a < R → (u.alloc X).cell? ⟨a, o, none⟩ = V.cell? ⟨a, o, none⟩ := fun a o ha =>
  (World.cell?_alloc_lt _ _ _ (Nat.lt_of_lt_of_le ha hs)).trans (h a o ha)
theorem keepN_refl (V : World) (R : Nat) : ∀ (a o : Nat), a < R → V.cell? ⟨a, o, none⟩ = V.cell? ⟨a, o, none⟩ := fun _ _ _ => rfl
theorem keepN_drew {V u : World} {R : Nat} (h : ∀ (a o : Nat), a < R → u.cell? ⟨a, o, none⟩ = V.cell? ⟨a, o, none⟩) : ∀ (a o : Nat), a < R → u.drew.cell? ⟨a, o, none⟩ = V.cell? ⟨a, o, none⟩ := h
theorem below_sets {B b : Nat} {w w' : World} (h : Below B w w') (hb : B ≤ b) (k : Nat) (v : Value) : Below B w (w'.setCell ⟨b, k, none⟩ v) := h.setCell hb v
end Go.Proofs.YtpdhffjdgnpikaaGreatDoor
