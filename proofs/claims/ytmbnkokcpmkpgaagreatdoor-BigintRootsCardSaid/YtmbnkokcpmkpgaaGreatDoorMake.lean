/- Slices of words that are made: zeros. -/
import Derived.Test.YtmbnkokcpmkpgaaGreatDoorTouch
namespace Go.Proofs.YtmbnkokcpmkpgaaGreatDoor
open Go.RowKit

/-- n cells of zeros. -/
def zerosU (n : Nat) : Array Value := madeCells (Value.int .u64 0).cells n
theorem zerosU_size (n : Nat) : (zerosU n).size = n := size_madeCells _ _
theorem zerosU_get (n j : Nat) (h : j < n) : (zerosU n)[j]? = some (.int .u64 0) := by
  unfold zerosU madeCells
  rw [Array.getElem?_map, Array.getElem?_eq_getElem (by simpa using h)]
  simp [Value.cells, Nat.mod_one]

theorem row_zeros (w : World) (n : Nat) (T : TypeId) : Row (w.alloc (.cells (zerosU n) T)) w.heap.size 0 (List.replicate n 0) := by
  intro j hj
  rw [List.length_replicate] at hj
  have hh := heap_alloc_new w (.cells (zerosU n) T)
  constructor
  · simp only [World.cell?, hh]
    simp [zerosU_get n j hj, hj]
  · simp only [World.frozen?, hh]
    simp
theorem room_zeros (w : World) (n : Nat) (T : TypeId) : Room (w.alloc (.cells (zerosU n) T)) w.heap.size n := by
  intro j hj
  have hh := heap_alloc_new w (.cells (zerosU n) T)
  constructor
  · simp only [World.cell?, hh]
    simp [zerosU_get n j hj]
  · simp only [World.frozen?, hh]
    simp

/-- 'make(natural, n)', and 'make(natural, 0, n)'. -/
theorem make_full (n : Nat) (hn : n ≤ 4194304) (w : World) :
    (Instr.makeSlice 55 (.int .i64 n) (.int .i64 n)).run Tryz.prog w = .ok (.slice (some ⟨w.heap.size, 0, none⟩) n n) (w.alloc (.cells (zerosU n) 51)) := by
  obtain ⟨i0, hi0, hz0, hz1, hz2⟩ := info_parts infoU
  have h := run_make w 55 51 i0 (.int .u64 0) Tryz.underlying55 hi0 hz0 .i64 .i64 (n : Int) (n : Int) (by omega) (by omega) (by rw [hz2]; omega) (by omega)
  rw [hz1] at h
  simpa [zerosU] using h
theorem make_cap (n : Nat) (hn : n ≤ 4194304) (w : World) :
    (Instr.makeSlice 55 (.int .i64 0) (.int .i64 n)).run Tryz.prog w = .ok (.slice (some ⟨w.heap.size, 0, none⟩) 0 n) (w.alloc (.cells (zerosU n) 51)) := by
  obtain ⟨i0, hi0, hz0, hz1, hz2⟩ := info_parts infoU
  have h := run_make w 55 51 i0 (.int .u64 0) Tryz.underlying55 hi0 hz0 .i64 .i64 0 (n : Int) (by omega) (by omega) (by rw [hz2]; omega) (by omega)
  rw [hz1] at h
  simpa [zerosU] using h
end Go.Proofs.YtmbnkokcpmkpgaaGreatDoor
