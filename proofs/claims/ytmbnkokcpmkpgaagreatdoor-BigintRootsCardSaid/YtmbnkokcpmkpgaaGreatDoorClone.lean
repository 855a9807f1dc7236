/- The contract of slices.Clone at the words of a number. -/
import Derived.Test.YtmbnkokcpmkpgaaGreatDoorTail
import Derived.ArgAppend
import Derived.Lib.SliceRun
import Derived.WalkLawsBesides
import Derived.Deep.CutRange
namespace Go.Proofs.YtmbnkokcpmkpgaaGreatDoor
open Go.RowKit Go.Shelf

/-- What an append of words to a slice that holds none leaves. -/
theorem own_row {w w' : World} {v : Value} {n : Nat} {xs : List Nat} (h : w'.ownsRow w.heap.size 51 1 v n (u64s xs)) (hg : w.grownBy w' none) (hn : n = xs.length) (h0 : 0 < xs.length) :
    ∃ g cap, v = .slice (some ⟨g, 0, none⟩) xs.length cap ∧ xs.length ≤ cap ∧ cap ≤ maxLen ∧ Row w' g 0 xs ∧ w.heap.size ≤ g ∧ g < w'.heap.size ∧ Below w.heap.size w w' := by
  obtain ⟨_, h⟩ := h
  rcases h with ⟨_, h⟩ | ⟨g, cap, cur, hv, hb, hheap, h1, h2, h3, h4⟩
  · omega
  · subst hn
    refine ⟨g, cap, hv, h1, h2, fun j hj => ?_, hb, (Array.getElem?_eq_some_iff.1 hheap).1, ⟨hg.os, hg.tape, hg.output, hg.size, fun k hk => hg.block k hk (by simp)⟩⟩
    have hj2 : (u64s xs)[j]? = some (.int .u64 (xs.getD j 0 : Nat)) := by
      unfold u64s
      rw [List.getElem?_map, List.getElem?_eq_getElem hj, List.getD_eq_getElem?_getD, List.getElem?_eq_getElem hj]; rfl
    rw [← h4, List.getElem?_take_of_lt (by omega)] at hj2
    constructor
    · simp only [World.cell?, hheap]
      simpa using hj2
    · simp only [World.frozen?, hheap]
      simp

set_option maxHeartbeats 1000000 in
set_option maxRecDepth 100000 in
theorem clone_any (b off cap : Nat) (xs : List Nat) (w : World) (hx : Row w b off xs) (h0 : 0 < xs.length) (hn : xs.length ≤ 1048576) :
    Calls Tryz.prog 88 #[.slice (some ⟨b, off, none⟩) xs.length cap] w fun e w' =>
      ∃ g cap', e = .returned (.slice (some ⟨g, 0, none⟩) xs.length cap') ∧ xs.length ≤ cap' ∧ cap' ≤ maxLen ∧ Row w' g 0 xs ∧ w.heap.size ≤ g ∧ g < w'.heap.size ∧ Below w.heap.size w w' := by
  have HX := Lib.hid hx
  have hnn : ∀ W : World, (binOp .eql 55 (.slice (some ⟨b, off, none⟩) xs.length cap) (.slice none 0 0)).run Tryz.prog W = .ok (.bool false) W := fun W => Lib.run_eql_slice_nil W 55 51 _ _ _ _ _ Tryz.underlying55
  clear hx
  go_enter Tryz.func88, Tryz.ntmps88
  obtain ⟨i0, hi0, hz0, hz1, hz2⟩ := info_parts infoU
  have hlt := HX.out.lt h0
  have hx2 : Row (w.alloc (.cells #[] 51)) b off xs := HX.out.below (B := w.heap.size) ((Below.refl _ _).alloc (Nat.le_refl _) _) hlt
  have HX2 := Lib.hid hx2
  have HI := Lib.hid (And.intro hi0 (And.intro hz0 (And.intro hz1 hz2)))
  clear hx2 hi0 hz0 hz1 hz2 hlt
  go_upto_region 3 with fail
  go_wp2_with (at_builtin; refine wpList_append_grows _ rfl (.tmp 5) (.tmp 6) 55 rfl 51 i0 (.int .u64 0) 1 8 Tryz.underlying55 HI.out.1 HI.out.2.1 HI.out.2.2.1 HI.out.2.2.2 rfl (by omega) (some ⟨w.heap.size, 0, none⟩) 0 0 [] rfl (by intro h; cases h) rfl (by intro _ _ j u h; simp at h) ⟨b, off, none⟩ xs.length cap (u64s xs) rfl (by rw [u64s_length, Nat.mul_one]) ?cc (u64s_one xs) (by omega) (by unfold maxLen; omega) (by omega) ?_)
  case cc =>
    intro j v hv
    rw [Addr.add_lit]
    unfold u64s at hv
    rw [List.getElem?_map] at hv
    obtain ⟨x, hx, rfl⟩ := Option.map_eq_some_iff.1 hv
    obtain ⟨hj, rfl⟩ := List.getElem?_eq_some_iff.1 hx
    rw [(HX2.out j hj).1, List.getD_eq_getElem?_getD, hx]; rfl
  intro v' w' hown hgr
  have hown2 : w'.ownsRow (w.alloc (.cells #[] 51)).heap.size 51 1 v' xs.length (u64s xs) := by rw [World.size_alloc]; exact hown
  have hfin := own_row hown2 hgr rfl h0
  obtain ⟨g, cap', rfl, p1, p2, p3, p4, p5, p6⟩ := hfin
  have HF := Lib.hid (And.intro p1 (And.intro p2 (And.intro p3 (And.intro p4 (And.intro p5 p6)))))
  clear hown hown2 hgr p1 p2 p3 p4 p5 p6
  go_wp2_with fail
  go_ret
  obtain ⟨p1, p2, p3, p4, p5, p6⟩ := HF.out
  rw [World.size_alloc] at p4 p6
  exact ⟨g, cap', rfl, p1, p2, p3, by omega, p5, ((Below.refl w.heap.size w).alloc (Nat.le_refl _) _).trans (p6.mono (by omega))⟩
end Go.Proofs.YtmbnkokcpmkpgaaGreatDoor
