/- The contracts of slices.Grow at the two element types of bigint: there is room, or a new row is made. -/
import Derived.Test.YtmbnkokcpmkpgaaGreatDoorWord
import Derived.Lib.Walk
import Derived.Lib.SliceRun
import Derived.Lib.AppendZerosOnto
namespace Go.Proofs.YtmbnkokcpmkpgaaGreatDoor
open Go.RowKit

/-- The cells of a block up to a capacity are there, and are not frozen. -/
def Room (w : World) (b cap : Nat) : Prop := ∀ j, j < cap → (w.cell? ⟨b, j, none⟩).isSome = true ∧ w.frozen? ⟨b, j, none⟩ = false

theorem infoU : (Tryz.prog.info? 51).map (fun i => (i.zero, i.size, i.bytes)) = some (some (.int .u64 0), 1, 8) := by kernel_rfl
theorem infoB : (Tryz.prog.info? 5).map (fun i => (i.zero, i.size, i.bytes)) = some (some (.int .u8 0), 1, 1) := by kernel_rfl


/-- A new row of at least k cells behind one draw. -/
def NewRow (w : World) (T : TypeId) (k : Nat) (e : Ending) (w' : World) : Prop :=
  ∃ (cap : Nat) (arr : Array Value), e = .returned (.slice (some ⟨w.heap.size, 0, none⟩) 0 cap) ∧ k ≤ cap ∧ cap ≤ maxLen ∧ arr.size = cap ∧ w' = w.drew.alloc (.cells arr T)

theorem cells_of (w : World) (b c : Nat) (h : ∀ j, j < c → (w.cell? ⟨b, j, none⟩).isSome = true) : ∃ cs : List Value, cs.length = c ∧ ∀ j v, cs[j]? = some v → w.cell? ⟨b, j, none⟩ = some v := by
  refine ⟨(List.range c).map fun j => (w.cell? ⟨b, j, none⟩).getD undef, by simp, fun j v hv => ?_⟩
  rw [List.getElem?_map] at hv
  by_cases hj : j < c
  · rw [List.getElem?_range hj] at hv
    have h1 := h j hj
    cases hw : w.cell? ⟨b, j, none⟩ with
    | none => rw [hw] at h1; cases h1
    | some x => rw [Option.map_some, hw] at hv; simpa using hv
  · rw [List.getElem?_eq_none (by simp; omega)] at hv; simp at hv

set_option maxHeartbeats 1000000 in
set_option maxRecDepth 100000 in
theorem growU_room (p : Option Addr) (c k : Nat) (w : World) (hc : c ≤ 1048576) (hk : k ≤ c) :
    Calls Tryz.prog 80 #[.slice p 0 c, .int .i64 k] w fun e w' => e = .returned (.slice p 0 c) ∧ w = w' := by
  have h1 : ¬ ((k : Int) < 0) := by omega
  have h3 : wrap64 ((k : Int) - (c : Int)) = (k : Int) - (c : Int) := by unfold wrap64; omega
  have h4 : ¬ ((k : Int) - (c : Int) > 0) := by omega
  go_enter Tryz.func80, Tryz.ntmps80
  go_wp2
  go_ret
  exact ⟨rfl, rfl⟩

set_option maxHeartbeats 1000000 in
set_option maxRecDepth 100000 in
theorem growU_grow (b c k : Nat) (w : World) (hc : c ≤ 1048576) (hk : c < k) (hk' : k ≤ 1048576) (hcs : ∀ j, j < c → (w.cell? ⟨b, j, none⟩).isSome = true) :
    Calls Tryz.prog 80 #[.slice (some ⟨b, 0, none⟩) 0 c, .int .i64 k] w (NewRow w 51 k) := by
  obtain ⟨i0, hi0, hz0, hz1, hz2⟩ := info_parts infoU
  have h1 : ¬ ((k : Int) < 0) := by omega
  have h3 : wrap64 ((k : Int) - (c : Int)) = (k : Int) - (c : Int) := by unfold wrap64; omega
  have h4 : (k : Int) - (c : Int) > 0 := by omega
  obtain ⟨cs, hcl, hcell⟩ := cells_of w b c hcs
  have hold : (Builtin.firstCells i0.size c (.slice (some ⟨b, 0, none⟩) c c)).run Tryz.prog w.drew = .ok cs.toArray w.drew :=
    run_firstCells_some w.drew i0.size c ⟨b, 0, none⟩ c c cs (by rw [hcl, hz1]; omega) (fun j v hj => by
      have := hcell j v hj
      rw [Addr.add_lit, Nat.zero_add]; exact this)
  have hrz : ∀ ty, (Builtin.append_ #[54, 3] ty #[.slice (some ⟨b, 0, none⟩) c c, .int .i64 ((k : Int) - (c : Int))]).run Tryz.prog w =
      .ok (.slice (some ⟨w.heap.size, 0, none⟩) k (grownCap w k c 51)) (w.drew.alloc (.cells (cs.toArray ++ Builtin.zeroCells (.int .u64 0 : Value).cells (k - c) ++ Builtin.zeroCells (.int .u64 0 : Value).cells (grownCap w k c 51 - k)) 51)) := fun ty => by
    have h := Lib.run_append_grow_zeros w 54 3 ty 51 i0 (.int .u64 0) .i64 .i64 Tryz.underlying54 Tryz.underlying3 hi0 hz0 (some ⟨b, 0, none⟩) c c cs hold (k - c) (by omega) (by omega) (by omega) (by omega)
      (by rw [hz2]; omega) (by rw [show c + (k - c) = k by omega, hz2]; exact growslice_fits hk (by omega))
    rw [show c + (k - c) = k by omega] at h
    rw [show (k : Int) - (c : Int) = ((k - c : Nat) : Int) by omega]
    exact h
  have hGn : k ≤ grownCap w k c 51 := grownCap_ge w _ _ _
  have hG63 := grownCap_le_maxLen w k c 51 (by unfold maxLen; omega)
  obtain ⟨G, hG⟩ : ∃ G, G = grownCap w k c 51 := ⟨_, rfl⟩
  rw [← hG] at hrz hGn hG63
  obtain ⟨arr, harr⟩ : ∃ arr, arr = (cs.toArray ++ Builtin.zeroCells (.int .u64 0 : Value).cells (k - c) ++ Builtin.zeroCells (.int .u64 0 : Value).cells (G - k)) := ⟨_, rfl⟩
  have hsz : arr.size = G := by
    rw [harr]
    simp only [Array.size_append, size_zeroCells, List.size_toArray, hcl, Value.cells]
    simp; omega
  rw [← harr] at hrz
  have HS := Lib.hid hsz
  have HM := Lib.hid hG63
  clear hold hG hcell hsz harr hG63 hcl hcs hi0 hz0 hz1 hz2
  go_enter Tryz.func80, Tryz.ntmps80
  go_wp2_with (at_builtin; refine Lib.wpList_append_run _ rfl _ _ _ _ rfl _ _ rfl rfl _ _ (hrz _) ?_)
  go_ret
  exact ⟨G, arr, rfl, hGn, HM.out, HS.out, rfl⟩

set_option maxHeartbeats 1000000 in
set_option maxRecDepth 100000 in
theorem growB_room (p : Option Addr) (c k : Nat) (w : World) (hc : c ≤ 1048576) (hk : k ≤ c) :
    Calls Tryz.prog 107 #[.slice p 0 c, .int .i64 k] w fun e w' => e = .returned (.slice p 0 c) ∧ w = w' := by
  have h1 : ¬ ((k : Int) < 0) := by omega
  have h3 : wrap64 ((k : Int) - (c : Int)) = (k : Int) - (c : Int) := by unfold wrap64; omega
  have h4 : ¬ ((k : Int) - (c : Int) > 0) := by omega
  go_enter Tryz.func107, Tryz.ntmps107
  go_wp2
  go_ret
  exact ⟨rfl, rfl⟩

set_option maxHeartbeats 1000000 in
set_option maxRecDepth 100000 in
theorem growB_grow (b c k : Nat) (w : World) (hc : c ≤ 1048576) (hk : c < k) (hk' : k ≤ 1048576) (hcs : ∀ j, j < c → (w.cell? ⟨b, j, none⟩).isSome = true) :
    Calls Tryz.prog 107 #[.slice (some ⟨b, 0, none⟩) 0 c, .int .i64 k] w (NewRow w 5 k) := by
  obtain ⟨i0, hi0, hz0, hz1, hz2⟩ := info_parts infoB
  have h1 : ¬ ((k : Int) < 0) := by omega
  have h3 : wrap64 ((k : Int) - (c : Int)) = (k : Int) - (c : Int) := by unfold wrap64; omega
  have h4 : (k : Int) - (c : Int) > 0 := by omega
  obtain ⟨cs, hcl, hcell⟩ := cells_of w b c hcs
  have hold : (Builtin.firstCells i0.size c (.slice (some ⟨b, 0, none⟩) c c)).run Tryz.prog w.drew = .ok cs.toArray w.drew :=
    run_firstCells_some w.drew i0.size c ⟨b, 0, none⟩ c c cs (by rw [hcl, hz1]; omega) (fun j v hj => by
      have := hcell j v hj
      rw [Addr.add_lit, Nat.zero_add]; exact this)
  have hrz : ∀ ty, (Builtin.append_ #[72, 3] ty #[.slice (some ⟨b, 0, none⟩) c c, .int .i64 ((k : Int) - (c : Int))]).run Tryz.prog w =
      .ok (.slice (some ⟨w.heap.size, 0, none⟩) k (grownCap w k c 5)) (w.drew.alloc (.cells (cs.toArray ++ Builtin.zeroCells (.int .u8 0 : Value).cells (k - c) ++ Builtin.zeroCells (.int .u8 0 : Value).cells (grownCap w k c 5 - k)) 5)) := fun ty => by
    have h := Lib.run_append_grow_zeros w 72 3 ty 5 i0 (.int .u8 0) .i64 .i64 Tryz.underlying72 Tryz.underlying3 hi0 hz0 (some ⟨b, 0, none⟩) c c cs hold (k - c) (by omega) (by omega) (by omega) (by omega)
      (by rw [hz2]; omega) (by rw [show c + (k - c) = k by omega, hz2]; exact growslice_fits hk (by omega))
    rw [show c + (k - c) = k by omega] at h
    rw [show (k : Int) - (c : Int) = ((k - c : Nat) : Int) by omega]
    exact h
  have hGn : k ≤ grownCap w k c 5 := grownCap_ge w _ _ _
  have hG63 := grownCap_le_maxLen w k c 5 (by unfold maxLen; omega)
  obtain ⟨G, hG⟩ : ∃ G, G = grownCap w k c 5 := ⟨_, rfl⟩
  rw [← hG] at hrz hGn hG63
  obtain ⟨arr, harr⟩ : ∃ arr, arr = (cs.toArray ++ Builtin.zeroCells (.int .u8 0 : Value).cells (k - c) ++ Builtin.zeroCells (.int .u8 0 : Value).cells (G - k)) := ⟨_, rfl⟩
  have hsz : arr.size = G := by
    rw [harr]
    simp only [Array.size_append, size_zeroCells, List.size_toArray, hcl, Value.cells]
    simp; omega
  rw [← harr] at hrz
  have HS := Lib.hid hsz
  have HM := Lib.hid hG63
  clear hold hG hcell hsz harr hG63 hcl hcs hi0 hz0 hz1 hz2
  go_enter Tryz.func107, Tryz.ntmps107
  go_wp2_with (at_builtin; refine Lib.wpList_append_run _ rfl _ _ _ _ rfl _ _ rfl rfl _ _ (hrz _) ?_)
  go_ret
  exact ⟨G, arr, rfl, hGn, HM.out, HS.out, rfl⟩

/-- Room for k cells, in block b or in a new one. -/
def Made (w : World) (b k : Nat) (e : Ending) (w' : World) : Prop :=
  ∃ g cap, e = .returned (.slice (some ⟨g, 0, none⟩) 0 cap) ∧ k ≤ cap ∧ cap ≤ maxLen ∧ Room w' g cap ∧ (g = b ∨ w.heap.size ≤ g) ∧ Below w.heap.size w w'

theorem made_of_new {w w' : World} {T : TypeId} {b k : Nat} {e : Ending} (h : NewRow w T k e w') : Made w b k e w' := by
  obtain ⟨cap, arr, rfl, h1, h2, h3, rfl⟩ := h
  refine ⟨w.heap.size, cap, rfl, h1, h2, fun j hj => ?_, .inr (Nat.le_refl _), (Below.refl _ _).drew.alloc (Nat.le_refl _) _⟩
  have hh := heap_alloc_new w.drew (.cells arr T)
  have hsz : w.drew.heap.size = w.heap.size := rfl
  rw [hsz] at hh
  constructor
  · simp only [World.cell?, hh]
    simp; omega
  · simp only [World.frozen?, hh]
    simp

theorem growU_mem (b c k : Nat) (w : World) (hc : c ≤ 1048576) (hk' : k ≤ 1048576) (hr : Room w b c) :
    Calls Tryz.prog 80 #[.slice (some ⟨b, 0, none⟩) 0 c, .int .i64 k] w (Made w b k) := by
  by_cases hk : k ≤ c
  · refine (growU_room (some ⟨b, 0, none⟩) c k w hc hk).mono ?_
    rintro e w' ⟨rfl, rfl⟩
    exact ⟨b, c, rfl, hk, by unfold maxLen; omega, hr, .inl rfl, Below.refl _ _⟩
  · refine (growU_grow b c k w hc (by omega) hk' (fun j hj => (hr j hj).1)).mono ?_
    intro e w' h
    exact made_of_new h
theorem growB_mem (b c k : Nat) (w : World) (hc : c ≤ 1048576) (hk' : k ≤ 1048576) (hr : Room w b c) :
    Calls Tryz.prog 107 #[.slice (some ⟨b, 0, none⟩) 0 c, .int .i64 k] w (Made w b k) := by
  by_cases hk : k ≤ c
  · refine (growB_room (some ⟨b, 0, none⟩) c k w hc hk).mono ?_
    rintro e w' ⟨rfl, rfl⟩
    exact ⟨b, c, rfl, hk, by unfold maxLen; omega, hr, .inl rfl, Below.refl _ _⟩
  · refine (growB_grow b c k w hc (by omega) hk' (fun j hj => (hr j hj).1)).mono ?_
    intro e w' h
    exact made_of_new h
end Go.Proofs.YtmbnkokcpmkpgaaGreatDoor
