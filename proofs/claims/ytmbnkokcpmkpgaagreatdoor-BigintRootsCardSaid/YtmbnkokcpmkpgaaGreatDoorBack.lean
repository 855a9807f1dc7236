/- A range over slices.Backward of a row of words: the law for the caller, by the index (it goes down), and the iterator's contract. The round may write the place that it was handed, and all places above it. -/
import Derived.Test.YtmbnkokcpmkpgaaGreatDoorProduct
import Derived.RangeFuncNested
import Derived.RangeFuncBound
import Derived.RangeFuncCalls
import Derived.RangeFuncLeaves
import Derived.Shelf.RegionOpen
import Derived.OwnWalkIn
import Derived.TacticsInMore
import Derived.LoopNIn
import Derived.LoopIn
namespace Go.Proofs.YtmbnkokcpmkpgaaGreatDoor
open Go.RowKit Go.Shelf
attribute [local go_sem] Oper.semAt_some

/-- How a round may be left: it goes on to the next lower index, or the function returns. -/
def backPost (B : Nat) (I : Nat → World → Prop) (IR : World → Prop) (j : Nat) (W : World) : Exit → Act → World → Prop
  | .normal, _, W' => KeepsFrom B W W' ∧ I j W'
  | .ret, _, W' => KeepsFrom B W W' ∧ IR W'
  | _, _, _ => False

/-- What an iterator over N words, from the last one down, promises at whatever yield. -/
def BackSeq (P : Program) (m gf : Nat) (lb : Array Value) (N : Nat) (xv : Nat → Nat) (Rd : Nat → World → Prop) (St : World → Prop) : Prop :=
  ∀ (l : Nat) (J : Nat → World → Prop) (Jx : World → Prop) (W : World), St W → (∀ j W1, j < N → J (j + 1) W1 → Rd j W1) →
    (∀ j W1, j < N → J (j + 1) W1 → YieldAt Fence.wide m P l #[.int .i64 (j : Nat), .int .u64 (xv j : Nat)] W1 fun e W' =>
      (e = .returned (.bool true) ∧ J j W') ∨ (e = .returned (.bool false) ∧ Jx W')) →
    J N W → CallsIn Fence.wide (m + 1) P gf (#[.func (.yield l) #[] #[]] ++ lb) W fun e W' => (∃ v, e = .returned v) ∧ (J 0 W' ∨ Jx W')

theorem wide_back {P : Program} {m gf N : Nat} {lb : Array Value} {xv : Nat → Nat} {Rd : Nat → World → Prop} {St : World → Prop} {g : Operand} {ps : Array Tmp} {assign body : Code} {Q : Exit → Act → World → Prop} {a : Act} {w : World}
    (hg : a.eval g = .func (.func gf) #[] lb) (eg : ∀ args w, (callFunc gf args).run P w = .ok (.enter gf args) w) (hps : ps.size = 2)
    (hseq : BackSeq P m gf lb N xv Rd St) (hst : ∀ o o', St ((w.alloc o).alloc o'))
    (I : Nat → World → Prop) (IR : World → Prop) (hI : OwnFrom w.heap.size I) (hIR : OwnFrom w.heap.size (fun (_ : Unit) => IR)) (h0 : I N w) (hRd : ∀ j W, j < N → I (j + 1) W → Rd j W) (a₁ : Nat → Act)
    (hassign : ∀ (l j : Nat) (W : World) (K : Act → World → Prop), K (a₁ j) W →
      assign.wpIn (Fence.wide.inRound l) m P (Exit.then K (fun _ _ _ => False)) { tmps := (ps.zip #[.int .i64 (j : Nat), .int .u64 (xv j : Nat)]).foldl (fun t (p, v) => t.setIfInBounds p v) a.tmps, defers := [] } W)
    (hbody : ∀ (l j : Nat) (W : World), j < N → I (j + 1) W → body.wpIn (Fence.wide.inRound l) m P (backPost w.heap.size I IR j W) (a₁ j) W)
    (hdone : ∀ (D : Nat) (W : World), w.heap.size ≤ D → I 0 W → W.heap[D]? = some (.deferred (some [])) → Q .normal { a with defers := { target := .collected D, args := #[] } :: a.defers } W)
    (hstop : ∀ (D : Nat) (W : World), w.heap.size ≤ D → IR W → W.heap[D]? = some (.deferred (some [])) → Code.ret.wpIn Fence.wide (m + 2) P Q { a with defers := { target := .collected D, args := #[] } :: a.defers } W) :
    (Code.rangeFunc g ps assign body).wpIn Fence.wide (m + 2) P Q a w := by
  refine wpIn_rangeFunc fun fn _ => ?_
  obtain ⟨rec, hrec⟩ : ∃ rec : LoopState → Option Code → Loop, rec = fun st pe => { state := st, pending := pe, fn, tmps := a.tmps, params := ps, assign, body, defers := w.heap.size } := ⟨_, rfl⟩
  obtain ⟨L, hL⟩ : ∃ L, L = w.heap.size + 1 := ⟨_, rfl⟩
  obtain ⟨W1, hW1⟩ : ∃ W1, (w.alloc (.deferred (some []))).alloc (.loop (rec .ready none)) = W1 := ⟨_, rfl⟩
  have loopThere : W1.heap[L]? = some (.loop (rec .ready none)) := by
    rw [← hW1, hL]; have := World.alloc_heap_new (w.alloc (.deferred (some []))) (.loop (rec .ready none)); rwa [World.size_alloc] at this
  have blockThere : W1.heap[w.heap.size]? = some (.deferred (some [])) := by
    rw [← hW1]; exact (Below.heap_alloc _ _ _ (by simp)).trans (World.alloc_heap_new w _)
  have start : I N W1 := by rw [← hW1]; exact hI.alloc _ (hI.alloc _ h0)
  have started : St W1 := by rw [← hW1]; exact hst _ _
  have onceMore : ∀ (s : LoopState) (s' : LoopState) (c c' : Option Code) (W : World), W.heap[L]? = some (.loop (rec s c)) → W.heap[w.heap.size]? = some (.deferred (some [])) →
      (W.putObj L (.loop (rec s' c'))).heap[L]? = some (.loop (rec s' c')) ∧ (W.putObj L (.loop (rec s' c'))).heap[w.heap.size]? = some (.deferred (some [])) := fun s s' c c' W hl hk =>
    ⟨World.putObj_heap_same (Array.getElem?_eq_some_iff.1 hl).1, (World.putObj_heap_other (by omega)).trans hk⟩
  refine ⟨L, [{ target := .collected w.heap.size, args := #[] }], W1, { target := .fn (.func gf) lb, args := #[.func (.yield L) #[] #[]] }, W1, gf, #[.func (.yield L) #[] #[]] ++ lb, W1, ?_, ?_, fun _ _ => trivial, ?_, fun h => by simp [Fence.wide] at h, ?_⟩
  · rw [← hW1, hrec, hL]; exact run_enterLoop_outer _ _ _ _ _
  · simp only [resolve, hg]
    simp [go_sem]
  · simp [invoke, go_sem, eg]
  · refine (hseq L
      (fun j W => I j W ∧ W.heap[L]? = some (.loop (rec .ready none)) ∧ W.heap[w.heap.size]? = some (.deferred (some [])))
      (fun W => IR W ∧ W.heap[L]? = some (.loop (rec .done (some .ret))) ∧ W.heap[w.heap.size]? = some (.deferred (some [])))
      W1 started (fun j W hj h => hRd j W hj h.1) ?_ ⟨start, loopThere, blockThere⟩).mono ?_
    · rintro j W hj ⟨hi, hl, hk⟩
      have hy := run_yield (P := P) (args := #[.int .i64 (j : Nat), .int .u64 (xv j : Nat)]) hl (by rw [hrec]; exact hps.symm)
      rw [hrec] at hy
      refine ⟨fn, _, assign, body, hy, roundIn_of_wpIn trivial (hassign _ j W _ ⟨_, run_beginRound hl (by rw [hrec]), ?_⟩)⟩
      obtain ⟨hl2, hk2⟩ := onceMore _ .busy _ none W hl hk
      have hbusy : ({ rec .ready none with state := .busy } : Loop) = rec .busy none := by rw [hrec]
      rw [hbusy]
      refine wpIn_mono (hbody _ j _ hj (hI.putObj _ hi (by omega) hl rfl)) ?_
      have close : ∀ (jump : Option Code) (W3 : World), KeepsFrom w.heap.size (W.putObj L (.loop (rec .busy none))) W3 →
          (Instr.endRound L jump).run P W3 = .ok (.bool jump.isNone) (W3.putObj L (.loop (rec (if jump.isNone then .ready else .done) jump))) ∧ W3.heap[L]? = some (.loop (rec .busy none)) ∧ W3.heap[w.heap.size]? = some (.deferred (some [])) := fun jump W3 hk3 => by
        have hl3 := hk3.same _ _ (by omega) hl2 rfl
        have hk3' := hk3.same _ _ (Nat.le_refl _) hk2 rfl
        have := run_endRound (P := P) jump hl3
        rw [hrec] at this ⊢
        exact ⟨this, by rw [hrec] at hl3; exact hl3, hk3'⟩
      rintro e a3 W3 hp
      cases e with
      | normal =>
        obtain ⟨hk3, hi3⟩ := hp
        obtain ⟨hr, hl3, hd3⟩ := close none W3 hk3
        obtain ⟨hl4, hk4⟩ := onceMore _ .ready _ none W3 hl3 hd3
        exact ⟨_, _, hr, .inl ⟨rfl, hI.putObj _ hi3 (by omega) hl3 rfl, hl4, hk4⟩⟩
      | ret =>
        obtain ⟨hk3, hi3⟩ := hp
        obtain ⟨hr, hl3, hd3⟩ := close (some .ret) W3 hk3
        obtain ⟨hl4, hk4⟩ := onceMore _ .done _ (some .ret) W3 hl3 hd3
        exact ⟨_, _, hr, .inr ⟨rfl, hIR.putObj (s := ()) _ hi3 (by omega) hl3 rfl, hl4, hk4⟩⟩
      | exit id => exact hp.elim
      | goto t => exact hp.elim
      | panic ch => exact hp.elim
      | outgrown => exact hp.elim
    · rintro e W2 ⟨⟨v, rfl⟩, (⟨hi, hl, hk⟩ | ⟨hi, hl, hk⟩)⟩
      · refine ⟨none, _, by have := run_endLoop (P := P) hl (by rw [hrec]; simp); rw [hrec] at this; exact this, hdone _ _ (Nat.le_refl _) (hI.putObj _ hi (by omega) hl rfl) ((World.putObj_heap_other (by omega)).trans hk)⟩
      · refine ⟨some .ret, _, by have := run_endLoop (P := P) hl (by rw [hrec]; simp); rw [hrec] at this; exact this, hstop _ _ (Nat.le_refl _) (hIR.putObj (s := ()) _ hi (by omega) hl rfl) ((World.putObj_heap_other (by omega)).trans hk)⟩
end Go.Proofs.YtmbnkokcpmkpgaaGreatDoor
