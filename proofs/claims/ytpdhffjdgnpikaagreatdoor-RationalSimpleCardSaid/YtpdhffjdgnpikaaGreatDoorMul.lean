/- A range over slices.Backward of a row of words: the law for the caller, by the index (it goes down), and the iterator's contract. The round may write the place that it was handed, and all places above it. The contracts of slices.Backward at bigint's two slice types. Rows of bytes in memory, the bytes of words, and bytes.TrimLeft at the zero byte. The contract of bytes.TrimLeft at the zero byte, over a row of bytes. Facts on cells outlive the turn of a block that holds no cells. Some cells more, appended within the capacity: what holds behind it. The contract of bigint.store: the base-256 digits of words. The contracts of bigint.signed and bigint.Of. The contract of bigint.Mul. The contracts of cmp.Compare and bigint.compare. The contract of bigint.compare. -/
import Derived.Test.YtpdhffjdgnpikaaGreatDoorNat
import Derived.RangeFuncNested
import Derived.RangeFuncBound
import Derived.RangeFuncCalls
import Derived.RangeFuncLeaves
import Derived.Shelf.RegionOpen
import Derived.OwnWalkIn
import Derived.TacticsInMore
import Derived.LoopNIn
import Derived.LoopIn
import Derived.Lib.BufferRead
import Derived.Laws.IdiomStrings
namespace Go.Proofs.YtpdhffjdgnpikaaGreatDoor
open Go.RowKit Go.Shelf
attribute [local go_sem] Oper.semAt_some

/-- How a round may be left: it goes on to the next lower index, or the function returns. -/
def backPost (B : Nat) (I : Nat → World → Prop) (IR : World → Prop) (j : Nat) (W : World) : Exit → Act → World → Prop
  | .normal, _, W' => KeepsFrom B W W' ∧ I j W'
  | .ret, _, W' => KeepsFrom B W W' ∧ IR W'
  | _, _, _ => False

/-- What an iterator over N words, from the last one down, promises at whatever yield. -/
def BackSeq (P : Program) (m gf : Nat) (lb : Array Value) (N : Nat) (xv : Nat → Nat) (Rd : Nat → World → Prop) (St : World → Prop) : Prop :=
  ∀ (l : Nat) (J : Nat → World → Prop) (Jx : World → Prop) (W : World), St W → (∀ j W1, j < N → J (j + 1) W1 → Rd j W1) →
    (∀ j W1, j < N → J (j + 1) W1 → YieldAt Fence.wide m P l #[.int .i64 (j : Nat), .int .u64 (xv j : Nat)] W1 fun e W' =>
      (e = .returned (.bool true) ∧ J j W') ∨ (e = .returned (.bool false) ∧ Jx W')) →
    J N W → CallsIn Fence.wide (m + 1) P gf (#[.func (.yield l) #[] #[]] ++ lb) W fun e W' => (∃ v, e = .returned v) ∧ (J 0 W' ∨ Jx W')

theorem wide_back {P : Program} {m gf N : Nat} {lb : Array Value} {xv : Nat → Nat} {Rd : Nat → World → Prop} {St : World → Prop} {g : Operand} {ps : Array Tmp} {assign body : Code} {Q : Exit → Act → World → Prop} {a : Act} {w : World}
    (hg : a.eval g = .func (.func gf) #[] lb) (eg : ∀ args w, (callFunc gf args).run P w = .ok (.enter gf args) w) (hps : ps.size = 2)
    (hseq : BackSeq P m gf lb N xv Rd St) (hst : ∀ o o', St ((w.alloc o).alloc o'))
    (I : Nat → World → Prop) (IR : World → Prop) (hI : OwnFrom w.heap.size I) (hIR : OwnFrom w.heap.size (fun (_ : Unit) => IR)) (h0 : I N w) (hRd : ∀ j W, j < N → I (j + 1) W → Rd j W) (a₁ : Nat → Act)
    (hassign : ∀ (l j : Nat) (W : World) (K : Act → World → Prop), K (a₁ j) W →
      assign.wpIn (Fence.wide.inRound l) m P (Exit.then K (fun _ _ _ => False)) { tmps := (ps.zip #[.int .i64 (j : Nat), .int .u64 (xv j : Nat)]).foldl (fun t (p, v) => t.setIfInBounds p v) a.tmps, defers := [] } W)
    (hbody : ∀ (l j : Nat) (W : World), j < N → I (j + 1) W → body.wpIn (Fence.wide.inRound l) m P (backPost w.heap.size I IR j W) (a₁ j) W)
    (hdone : ∀ (D : Nat) (W : World), w.heap.size ≤ D → I 0 W → W.heap[D]? = some (.deferred (some [])) → Q .normal { a with defers := { target := .collected D, args := #[] } :: a.defers } W)
    (hstop : ∀ (D : Nat) (W : World), w.heap.size ≤ D → IR W → W.heap[D]? = some (.deferred (some [])) → Code.ret.wpIn Fence.wide (m + 2) P Q { a with defers := { target := .collected D, args := #[] } :: a.defers } W) :
    (Code.rangeFunc g ps assign body).wpIn Fence.wide (m + 2) P Q a w := by
  refine wpIn_rangeFunc fun fn _ => ?_
  obtain ⟨rec, hrec⟩ : ∃ rec : LoopState → Option Code → Loop, rec = fun st pe => { state := st, pending := pe, fn, tmps := a.tmps, params := ps, assign, body, defers := w.heap.size } := ⟨_, rfl⟩
  obtain ⟨L, hL⟩ : ∃ L, L = w.heap.size + 1 := ⟨_, rfl⟩
  obtain ⟨W1, hW1⟩ : ∃ W1, (w.alloc (.deferred (some []))).alloc (.loop (rec .ready none)) = W1 := ⟨_, rfl⟩
  have loopThere : W1.heap[L]? = some (.loop (rec .ready none)) := by
    rw [← hW1, hL]; have := World.alloc_heap_new (w.alloc (.deferred (some []))) (.loop (rec .ready none)); rwa [World.size_alloc] at this
  have blockThere : W1.heap[w.heap.size]? = some (.deferred (some [])) := by
    rw [← hW1]; exact (Below.heap_alloc _ _ _ (by simp)).trans (World.alloc_heap_new w _)
  have start : I N W1 := by rw [← hW1]; exact hI.alloc _ (hI.alloc _ h0)
  have started : St W1 := by rw [← hW1]; exact hst _ _
  have onceMore : ∀ (s : LoopState) (s' : LoopState) (c c' : Option Code) (W : World), W.heap[L]? = some (.loop (rec s c)) → W.heap[w.heap.size]? = some (.deferred (some [])) →
      (W.putObj L (.loop (rec s' c'))).heap[L]? = some (.loop (rec s' c')) ∧ (W.putObj L (.loop (rec s' c'))).heap[w.heap.size]? = some (.deferred (some [])) := fun s s' c c' W hl hk =>
    ⟨World.putObj_heap_same (Array.getElem?_eq_some_iff.1 hl).1, (World.putObj_heap_other (by omega)).trans hk⟩
  refine ⟨L, [{ target := .collected w.heap.size, args := #[] }], W1, { target := .fn (.func gf) lb, args := #[.func (.yield L) #[] #[]] }, W1, gf, #[.func (.yield L) #[] #[]] ++ lb, W1, ?_, ?_, fun _ _ => trivial, ?_, fun h => by simp [Fence.wide] at h, ?_⟩
  · rw [← hW1, hrec, hL]; exact run_enterLoop_outer _ _ _ _ _
  · simp only [resolve, hg]
    simp [go_sem]
  · simp [invoke, go_sem, eg]
  · refine (hseq L
      (fun j W => I j W ∧ W.heap[L]? = some (.loop (rec .ready none)) ∧ W.heap[w.heap.size]? = some (.deferred (some [])))
      (fun W => IR W ∧ W.heap[L]? = some (.loop (rec .done (some .ret))) ∧ W.heap[w.heap.size]? = some (.deferred (some [])))
      W1 started (fun j W hj h => hRd j W hj h.1) ?_ ⟨start, loopThere, blockThere⟩).mono ?_
    · rintro j W hj ⟨hi, hl, hk⟩
      have hy := run_yield (P := P) (args := #[.int .i64 (j : Nat), .int .u64 (xv j : Nat)]) hl (by rw [hrec]; exact hps.symm)
      rw [hrec] at hy
      refine ⟨fn, _, assign, body, hy, roundIn_of_wpIn trivial (hassign _ j W _ ⟨_, run_beginRound hl (by rw [hrec]), ?_⟩)⟩
      obtain ⟨hl2, hk2⟩ := onceMore _ .busy _ none W hl hk
      have hbusy : ({ rec .ready none with state := .busy } : Loop) = rec .busy none := by rw [hrec]
      rw [hbusy]
      refine wpIn_mono (hbody _ j _ hj (hI.putObj _ hi (by omega) hl rfl)) ?_
      have close : ∀ (jump : Option Code) (W3 : World), KeepsFrom w.heap.size (W.putObj L (.loop (rec .busy none))) W3 →
          (Instr.endRound L jump).run P W3 = .ok (.bool jump.isNone) (W3.putObj L (.loop (rec (if jump.isNone then .ready else .done) jump))) ∧ W3.heap[L]? = some (.loop (rec .busy none)) ∧ W3.heap[w.heap.size]? = some (.deferred (some [])) := fun jump W3 hk3 => by
        have hl3 := hk3.same _ _ (by omega) hl2 rfl
        have hk3' := hk3.same _ _ (Nat.le_refl _) hk2 rfl
        have := run_endRound (P := P) jump hl3
        rw [hrec] at this ⊢
        exact ⟨this, by rw [hrec] at hl3; exact hl3, hk3'⟩
      rintro e a3 W3 hp
      cases e with
      | normal =>
        obtain ⟨hk3, hi3⟩ := hp
        obtain ⟨hr, hl3, hd3⟩ := close none W3 hk3
        obtain ⟨hl4, hk4⟩ := onceMore _ .ready _ none W3 hl3 hd3
        exact ⟨_, _, hr, .inl ⟨rfl, hI.putObj _ hi3 (by omega) hl3 rfl, hl4, hk4⟩⟩
      | ret =>
        obtain ⟨hk3, hi3⟩ := hp
        obtain ⟨hr, hl3, hd3⟩ := close (some .ret) W3 hk3
        obtain ⟨hl4, hk4⟩ := onceMore _ .done _ (some .ret) W3 hl3 hd3
        exact ⟨_, _, hr, .inr ⟨rfl, hIR.putObj (s := ()) _ hi3 (by omega) hl3 rfl, hl4, hk4⟩⟩
      | exit id => exact hp.elim
      | goto t => exact hp.elim
      | panic ch => exact hp.elim
      | outgrown => exact hp.elim
    · rintro e W2 ⟨⟨v, rfl⟩, (⟨hi, hl, hk⟩ | ⟨hi, hl, hk⟩)⟩
      · refine ⟨none, _, by have := run_endLoop (P := P) hl (by rw [hrec]; simp); rw [hrec] at this; exact this, hdone _ _ (Nat.le_refl _) (hI.putObj _ hi (by omega) hl rfl) ((World.putObj_heap_other (by omega)).trans hk)⟩
      · refine ⟨some .ret, _, by have := run_endLoop (P := P) hl (by rw [hrec]; simp); rw [hrec] at this; exact this, hstop _ _ (Nat.le_refl _) (hIR.putObj (s := ()) _ hi (by omega) hl rfl) ((World.putObj_heap_other (by omega)).trans hk)⟩
end Go.Proofs.YtpdhffjdgnpikaaGreatDoor

namespace Go.Proofs.YtpdhffjdgnpikaaGreatDoor
open Go.RowKit Go.Shelf
attribute [local go_sem] Oper.semAt_some

/-- The iterator's captured slice, in its box. -/
def InBox (B : Nat) (p : Option Addr) (N cap : Nat) (W : World) : Prop := W.cell? ⟨B, 0, none⟩ = some (.slice p N cap)
/-- What the iterator reads at index j. -/
def ReadAt (B : Nat) (p : Option Addr) (N cap : Nat) (xv : Nat → Nat) (j : Nat) (W : World) : Prop :=
  W.cell? ⟨B, 0, none⟩ = some (.slice p N cap) ∧ ∃ b off, p = some ⟨b, off, none⟩ ∧ W.cell? ⟨b, off + j, none⟩ = some (.int .u64 (xv j : Nat))

set_option maxHeartbeats 1000000 in
set_option maxRecDepth 100000 in
theorem backN_seq (m B : Nat) (p : Option Addr) (N cap : Nat) (xv : Nat → Nat) (hN : N ≤ 4194304) :
    BackSeq Tryz.prog m 201 #[.pointer (some ⟨B, 0, none⟩)] N xv (ReadAt B p N cap xv) (InBox B p N cap) := by
  intro l J Jx W hst hRd hY h0
  refine callsIn_of_wp Tryz.func201 rfl trivial ?_ rfl
  simp only [Tryz.ntmps201, List.size_toArray, List.length_cons, List.length_nil, Nat.reduceAdd, Nat.reduceSub, Array.replicate_succ, Array.replicate_zero, List.push_toArray, List.append_toArray, List.nil_append, List.cons_append]
  have hbox : W.cell? ⟨B, 0, none⟩ = some (.slice p N cap) := hst
  gi_wp2
  gi_loopw [3] (fun i wr => ∃ j : Nat, j ≤ N ∧ i = .int .i64 ((j : Int) - 1) ∧ J j wr) (fun i _ => (intOf i + 1).toNat)
  case atStart => exact ⟨N, Nat.le_refl _, rfl, h0⟩
  case round =>
    obtain ⟨j, hj, rfl, hJ⟩ := hrel
    cases j with
    | zero =>
      have e1 : ((0 : Nat) : Int) - 1 = -1 := by omega
      gi_wp2
      go_end0
      exact ⟨⟨_, rfl⟩, .inl hJ⟩
    | succ j =>
      obtain ⟨hb2, b, off, rfl, hc⟩ := hRd j wr (by omega) hJ
      obtain ⟨fn, tmps, assign, body, hy, hR⟩ := hY j wr (by omega) hJ
      have e1 : ((j + 1 : Nat) : Int) - 1 = (j : Int) := by omega
      gi_wp2
      refine hR.mono ?_
      rintro e W3 (⟨rfl, hJ3⟩ | ⟨rfl, hx3⟩)
      · gi_wp2
        go_roundw
        case rel => exact ⟨j, by omega, rfl, hJ3⟩
        case measure => simp [intOf]
      · gi_wp2
        refine bodyPost_ret (results_none rfl _ _ _) rfl ?_
        exact ⟨⟨_, rfl⟩, .inr hx3⟩

set_option maxHeartbeats 1000000 in
set_option maxRecDepth 100000 in
theorem backU_seq (m B : Nat) (p : Option Addr) (N cap : Nat) (xv : Nat → Nat) (hN : N ≤ 4194304) :
    BackSeq Tryz.prog m 193 #[.pointer (some ⟨B, 0, none⟩)] N xv (ReadAt B p N cap xv) (InBox B p N cap) := by
  intro l J Jx W hst hRd hY h0
  refine callsIn_of_wp Tryz.func193 rfl trivial ?_ rfl
  simp only [Tryz.ntmps193, List.size_toArray, List.length_cons, List.length_nil, Nat.reduceAdd, Nat.reduceSub, Array.replicate_succ, Array.replicate_zero, List.push_toArray, List.append_toArray, List.nil_append, List.cons_append]
  have hbox : W.cell? ⟨B, 0, none⟩ = some (.slice p N cap) := hst
  gi_wp2
  gi_loopw [3] (fun i wr => ∃ j : Nat, j ≤ N ∧ i = .int .i64 ((j : Int) - 1) ∧ J j wr) (fun i _ => (intOf i + 1).toNat)
  case atStart => exact ⟨N, Nat.le_refl _, rfl, h0⟩
  case round =>
    obtain ⟨j, hj, rfl, hJ⟩ := hrel
    cases j with
    | zero =>
      have e1 : ((0 : Nat) : Int) - 1 = -1 := by omega
      gi_wp2
      go_end0
      exact ⟨⟨_, rfl⟩, .inl hJ⟩
    | succ j =>
      obtain ⟨hb2, b, off, rfl, hc⟩ := hRd j wr (by omega) hJ
      obtain ⟨fn, tmps, assign, body, hy, hR⟩ := hY j wr (by omega) hJ
      have e1 : ((j + 1 : Nat) : Int) - 1 = (j : Int) := by omega
      gi_wp2
      refine hR.mono ?_
      rintro e W3 (⟨rfl, hJ3⟩ | ⟨rfl, hx3⟩)
      · gi_wp2
        go_roundw
        case rel => exact ⟨j, by omega, rfl, hJ3⟩
        case measure => simp [intOf]
      · gi_wp2
        refine bodyPost_ret (results_none rfl _ _ _) rfl ?_
        exact ⟨⟨_, rfl⟩, .inr hx3⟩


/-- slices.Backward(s): the function that is ranged over. -/
theorem backN_make (p : Option Addr) (n c : Nat) (w : World) :
    Calls Tryz.prog 170 #[.slice p n c] w fun e w' => e = .returned (.func (.func 201) #[] #[.pointer (some ⟨w.heap.size, 0, none⟩)]) ∧ w.alloc (.cells #[.slice p n c] 90) = w' := by
  go_enter Tryz.func170, Tryz.ntmps170
  go_wp2
  go_ret
  exact ⟨rfl, rfl⟩
theorem backU_make (p : Option Addr) (n c : Nat) (w : World) :
    Calls Tryz.prog 163 #[.slice p n c] w fun e w' => e = .returned (.func (.func 193) #[] #[.pointer (some ⟨w.heap.size, 0, none⟩)]) ∧ w.alloc (.cells #[.slice p n c] 89) = w' := by
  go_enter Tryz.func163, Tryz.ntmps163
  go_wp2
  go_ret
  exact ⟨rfl, rfl⟩
end Go.Proofs.YtpdhffjdgnpikaaGreatDoor

namespace Go.Proofs.YtpdhffjdgnpikaaGreatDoor
open Go.RowKit

/-- The cells of a block from a place on hold these bytes, and are not frozen. -/
def RowB (w : World) (b off : Nat) (l : List UInt8) : Prop :=
  ∀ j, j < l.length → w.cell? ⟨b, off + j, none⟩ = some (.int .u8 ((l.getD j 0).toNat : Nat)) ∧ w.frozen? ⟨b, off + j, none⟩ = false
theorem room_alloc (w : World) (arr : Array Value) (T : TypeId) (n : Nat) (h : arr.size = n) : Room (w.alloc (.cells arr T)) w.heap.size n := fun j hj => by
  have hh := heap_alloc_new w (.cells arr T)
  constructor
  · simp only [World.cell?, hh]
    simp; omega
  · simp only [World.frozen?, hh]
    simp
theorem RowB.below {w w' : World} {b off B : Nat} {l : List UInt8} (h : RowB w b off l) (hb : Below B w w') (hB : b < B) : RowB w' b off l := fun j hj =>
  ⟨(hb.cell (p := ⟨b, off + j, none⟩) hB).trans (h j hj).1, (hb.frozen (p := ⟨b, off + j, none⟩) hB).trans (h j hj).2⟩
theorem RowB.left {w : World} {b off : Nat} {xs ys : List UInt8} (h : RowB w b off (xs ++ ys)) : RowB w b off xs := by
  intro j hj
  have := h j (by rw [List.length_append]; omega)
  rwa [List.getD_eq_getElem?_getD, List.getElem?_append_left hj, ← List.getD_eq_getElem?_getD] at this
theorem RowB.right {w : World} {b off : Nat} {xs ys : List UInt8} (h : RowB w b off (xs ++ ys)) : RowB w b (off + xs.length) ys := by
  intro j hj
  have := h (xs.length + j) (by rw [List.length_append]; omega)
  rwa [List.getD_eq_getElem?_getD, List.getElem?_append_right (by omega), Nat.add_sub_cancel_left, ← List.getD_eq_getElem?_getD, ← Nat.add_assoc] at this

/-- The eight bytes of a word, the most significant one first. -/
def bytes8 (v : Nat) : List UInt8 := [UInt8.ofNat (v / 72057594037927936), UInt8.ofNat (v / 281474976710656), UInt8.ofNat (v / 1099511627776), UInt8.ofNat (v / 4294967296), UInt8.ofNat (v / 16777216), UInt8.ofNat (v / 65536), UInt8.ofNat (v / 256), UInt8.ofNat v]
theorem bytes8_val (v : Nat) (h : v < 18446744073709551616) : beVal (bytes8 v) = v := by
  simp only [bytes8, beVal, List.foldl, UInt8.toNat_ofNat']
  omega
/-- The bytes of words, the last one first. -/
def bytesW (xs : List Nat) : List UInt8 := (xs.reverse.map bytes8).flatten
theorem bytesW_cons (x : Nat) (xs : List Nat) : bytesW (x :: xs) = bytesW xs ++ bytes8 x := by
  unfold bytesW; simp
theorem bytesW_length (xs : List Nat) : (bytesW xs).length = 8 * xs.length := by
  induction xs with
  | nil => rfl
  | cons x xs ih => rw [bytesW_cons, List.length_append, ih, List.length_cons]; simp [bytes8]; omega
theorem bytesW_val (xs : List Nat) (h : Ok xs) : beVal (bytesW xs) = wv xs := by
  induction xs with
  | nil => rfl
  | cons x xs ih =>
    rw [bytesW_cons, beVal_append, ih h.tail, bytes8_val x h.head, wv]
    have : (bytes8 x).length = 8 := rfl
    rw [this, show (256 : Nat) ^ 8 = 18446744073709551616 by decide]; omega

/-- 'append' of some cells within the capacity, inside a fence. -/
theorem wpListIn_room {F : Fence} {n : Nat} {P : Program} (w : World) {ops : Array Oper} {rest : List Oper} {o : Oper} {a : Act} {Q : Exit → Act → World → Prop}
    (hg : o.guard = none) (s x : Operand) (t tx : TypeId) (hop : o.op = Op.call { callee := Callee.builtin Builtin.append, args := #[s, x], argTypes := #[t, tx] })
    (e : TypeId) (z : Value) (bytes : Nat) (ht : P.underlying t = some (.slice e)) (hinfo : (P.info? e).map (fun i => (i.zero, i.size, i.bytes)) = some (some z, 1, bytes))
    (b off sLen sCap : Nat) (hs : a.eval s = .slice (some ⟨b, off, none⟩) sLen sCap) (xv : Value) (hx : a.eval x = xv) (m : Nat) (news : List Value) (hsrc : Src P 1 tx xv m news w)
    (hroom : sLen + m ≤ sCap) (hc : ∀ j, j < news.length → (w.cell? ⟨b, off + sLen + j, none⟩).isSome = true) (hf : ∀ j, j < news.length → w.frozen? ⟨b, off + sLen + j, none⟩ = false)
    (hK : wpListIn F n P ops Q rest (a.put o.dst (.slice (some ⟨b, off, none⟩) (sLen + m) sCap)) (w.setCells b (off + sLen) news)) :
    wpListIn F n P ops Q (o :: rest) a w := by
  obtain ⟨i, hi, hzz⟩ := Option.map_eq_some_iff.1 hinfo
  simp only [Prod.mk.injEq] at hzz
  obtain ⟨_, hs1, _⟩ := hzz
  refine wpListIn_plain hg fun K hK' => ?_
  have hrun := run_append_room_src (P := P) (w := w) t tx o.type e i ht hi b off sLen sCap xv m news (by rw [hs1]; exact hsrc) hroom (by rw [hs1, Nat.mul_one]; exact hc) (by rw [hs1, Nat.mul_one]; exact hf)
  rw [hs1, Nat.mul_one] at hrun
  unfold Oper.wpIn
  refine ⟨?_, ?_⟩
  · simp [Oper.about, hop, resolve, Target.leads, Sem.run_pure]
  · rw [Oper.semAt_plain F _ _ (by rw [hop]; intro c hc'; cases hc')]
    simp [execOp, hop, resolve, invoke, builtin, hs, hx, hrun, Result.andThen]
    exact hK' _ _ hK
end Go.Proofs.YtpdhffjdgnpikaaGreatDoor

namespace Go.Proofs.YtpdhffjdgnpikaaGreatDoor
open Go.RowKit

/-- What is left of a row of bytes without its leading zeros: nil, or the slice from the first other byte on. -/
def TrimRes (b off n cap : Nat) (l : List UInt8) (w : World) (e : Ending) (w' : World) : Prop :=
  w = w' ∧ ((strip l = [] ∧ e = .returned (.slice none 0 0)) ∨ ∃ k c, k < n ∧ l.drop k = strip l ∧ n - k ≤ c ∧ c ≤ cap ∧ e = .returned (.slice (some ⟨b, off + k, none⟩) (n - k) c))

theorem drop_zero_step (l : List UInt8) (k : Nat) (h : k < l.length) (h0 : ((l[k].toNat : Int) == 0) = true) (hs : strip (l.drop k) = strip l) : strip (l.drop (k + 1)) = strip l := by
  rw [← hs, List.drop_eq_getElem_cons h]
  have : l[k] = 0 := u8_zero _ h0
  rw [this, strip_zero]
theorem drop_other (l : List UInt8) (k : Nat) (h : k < l.length) (h0 : ((l[k].toNat : Int) == 0) = false) (hs : strip (l.drop k) = strip l) : l.drop k = strip l := by
  rw [← hs, List.drop_eq_getElem_cons h]
  rw [strip_other]
  exact u8_nonzero _ h0

set_option maxHeartbeats 1000000 in
set_option maxRecDepth 100000 in
theorem trimByteB_any (b off cap : Nat) (l : List UInt8) (w : World) (hr : RowB w b off l) (hc : l.length ≤ cap) (hcap : cap ≤ maxLen) :
    Calls Tryz.prog 202 #[.slice (some ⟨b, off, none⟩) l.length cap, .int .u8 0] w (TrimRes b off l.length cap l w) := by
  unfold maxLen at hcap
  have HRW := Lib.hid hr
  clear hr
  go_enter Tryz.func202, Tryz.ntmps202
  go_wp2
  go_loop [0] (fun v => ∃ (k c : Nat) (q : Option Addr), k ≤ l.length ∧ v = .slice q (l.length - k) c ∧ l.length - k ≤ c ∧ c ≤ cap ∧ (k < l.length → q = some ⟨b, off + k, none⟩) ∧ strip (l.drop k) = strip l) (fun v => sliceLen v)
  case atStart => exact ⟨0, cap, some ⟨b, off, none⟩, Nat.zero_le _, rfl, hc, Nat.le_refl _, fun _ => rfl, rfl⟩
  case round =>
    obtain ⟨k, c, q, hk, rfl, hcl, hcc, hq, hst⟩ := hrel
    have HS := Lib.hid hst
    clear hst
    by_cases hlt : k < l.length
    · obtain rfl := hq hlt
      have hcell := (HRW.out k hlt).1
      obtain ⟨m, hm⟩ : ∃ m, l.length - k = m + 1 := ⟨l.length - k - 1, by omega⟩
      have HM := Lib.hid hm
      have hm2 : k + m + 1 ≤ l.length := by omega
      have hm3 : m + 1 ≤ c := by omega
      rw [hm]
      clear hm hcl hq
      by_cases hc1 : c = 1
      · subst hc1
        go_wp2
        · have h0 : ((l[k].toNat : Int) == 0) = true := by assumption
          have hm := HM.out
          go_round
          case rel => exact ⟨k + 1, 0, some ⟨b, off + k, none⟩, by omega, by rw [show l.length - (k + 1) = 0 by omega], by omega, by omega, fun h => by omega, drop_zero_step l k hlt h0 HS.out⟩
          case measure => simp [sliceLen]
        · have h0 : ((l[k].toNat : Int) == 0) = false := by assumption
          have hm := HM.out
          go_ret
          exact ⟨rfl, .inr ⟨k, 1, hlt, drop_other l k hlt h0 HS.out, by omega, hcc, slice_eq hm.symm⟩⟩
      · have hc2 : 2 ≤ c := by omega
        go_wp2
        · have h0 : ((l[k].toNat : Int) == 0) = true := by assumption
          have hm := HM.out
          go_round
          case rel => exact ⟨k + 1, c - 1, some ⟨b, off + (k + 1), none⟩, by omega, by rw [show l.length - (k + 1) = m by omega]; rfl, by omega, by omega, fun _ => rfl, drop_zero_step l k hlt h0 HS.out⟩
          case measure => simp [sliceLen]
        · have h0 : ((l[k].toNat : Int) == 0) = false := by assumption
          have hm := HM.out
          go_ret
          exact ⟨rfl, .inr ⟨k, c, hlt, drop_other l k hlt h0 HS.out, by omega, hcc, slice_eq hm.symm⟩⟩
    · have e0 : l.length - k = 0 := by omega
      rw [e0]
      have hnil : strip l = [] := by rw [← HS.out, List.drop_eq_nil_of_le (by omega)]; rfl
      have HN := Lib.hid hnil
      clear hnil e0
      go_wp2
      go_ret
      exact ⟨rfl, .inl ⟨HN.out, rfl⟩⟩

set_option maxHeartbeats 1000000 in
set_option maxRecDepth 100000 in
theorem trimB_any (b off cap : Nat) (l : List UInt8) (w : World) (hr : RowB w b off l) (hc : l.length ≤ cap) (hcap : cap ≤ maxLen) :
    Calls Tryz.prog 171 #[.slice (some ⟨b, off, none⟩) l.length cap, .string ⟨#[0]⟩] w (TrimRes b off l.length cap l w) := by
  have hc1 := trimByteB_any b off cap l w hr hc hcap
  have HC := Lib.hid hc1
  clear hc1 hr
  by_cases h0 : l = []
  · subst h0
    go_enter Tryz.func171, Tryz.ntmps171
    go_wp2_with fail
    go_ret
    exact ⟨rfl, .inl ⟨rfl, rfl⟩⟩
  · have hpos : 0 < l.length := List.length_pos_iff.2 h0
    have t0 : ((l.length : Int) == 0) = false := by rw [beq_eq_false_iff_ne]; omega
    clear h0
    go_enter Tryz.func171, Tryz.ntmps171
    go_wp2_with fail
    refine HC.out.mono ?_
    rintro e w' ⟨rfl, (⟨hs, rfl⟩ | ⟨k, c, h1, h2, h3, h4, rfl⟩)⟩
    · have HH := Lib.hid hs
      clear hs
      go_wp2_with fail
      go_ret
      exact ⟨rfl, .inl ⟨HH.out, rfl⟩⟩
    · have HH := Lib.hid h2
      clear h2
      go_wp2_with fail
      go_ret
      exact ⟨rfl, .inr ⟨k, c, h1, HH.out, h3, h4, rfl⟩⟩
end Go.Proofs.YtpdhffjdgnpikaaGreatDoor

namespace Go.Proofs.YtpdhffjdgnpikaaGreatDoor
open Go.RowKit Go.Shelf

/-- The word at a place. -/
def wat (xs : List Nat) (j : Nat) : Nat := xs.getD j 0

theorem Row.kept {W W' : World} {row : Option Nat} {b off : Nat} {xs : List Nat} (h : Row W b off xs) (hg : W.grownBy W' row) (hr : ∀ r, row = some r → ∃ o : Obj, W.heap[r]? = some o ∧ o.isCells = false) : Row W' b off xs := fun j hj =>
  ⟨cell_kept (h j hj).1 hg hr, (frozen_kept (h j hj).1 hg hr).trans (h j hj).2⟩
theorem RowB.kept {W W' : World} {row : Option Nat} {b off : Nat} {xs : List UInt8} (h : RowB W b off xs) (hg : W.grownBy W' row) (hr : ∀ r, row = some r → ∃ o : Obj, W.heap[r]? = some o ∧ o.isCells = false) : RowB W' b off xs := fun j hj =>
  ⟨cell_kept (h j hj).1 hg hr, (frozen_kept (h j hj).1 hg hr).trans (h j hj).2⟩
theorem Nt.kept {W W' : World} {row : Option Nat} {p : Option Addr} {xs : List Nat} (h : Nt W p xs) (hg : W.grownBy W' row) (hr : ∀ r, row = some r → ∃ o : Obj, W.heap[r]? = some o ∧ o.isCells = false) : Nt W' p xs := by
  rcases h with rfl | ⟨b, off, rfl, h⟩
  · exact .inl rfl
  · exact .inr ⟨b, off, rfl, h.kept hg hr⟩
theorem Room.kept {W W' : World} {row : Option Nat} {b n : Nat} (h : Room W b n) (hg : W.grownBy W' row) (hr : ∀ r, row = some r → ∃ o : Obj, W.heap[r]? = some o ∧ o.isCells = false) : Room W' b n := fun j hj => by
  obtain ⟨h1, h2⟩ := h j hj
  obtain ⟨v, hv⟩ := Option.isSome_iff_exists.1 h1
  exact ⟨by rw [cell_kept hv hg hr]; rfl, (frozen_kept hv hg hr).trans h2⟩
/-- A box: one cell, not frozen. -/
def Box (B : Nat) (v : Value) (W : World) : Prop := W.cell? ⟨B, 0, none⟩ = some v ∧ W.frozen? ⟨B, 0, none⟩ = false
theorem Box.kept {W W' : World} {row : Option Nat} {B : Nat} {v : Value} (h : Box B v W) (hg : W.grownBy W' row) (hr : ∀ r, row = some r → ∃ o : Obj, W.heap[r]? = some o ∧ o.isCells = false) : Box B v W' :=
  ⟨cell_kept h.1 hg hr, (frozen_kept h.1 hg hr).trans h.2⟩
theorem Box.below {W W' : World} {B0 B : Nat} {v : Value} (h : Box B v W) (hb : Below B0 W W') (hB : B < B0) : Box B v W' :=
  ⟨(hb.cell (p := ⟨B, 0, none⟩) hB).trans h.1, (hb.frozen (p := ⟨B, 0, none⟩) hB).trans h.2⟩
theorem box_new (w : World) (v : Value) (T : TypeId) : Box w.heap.size v (w.alloc (.cells #[v] T)) := by
  have hh := heap_alloc_new w (.cells #[v] T)
  constructor
  · simp only [World.cell?, hh]; simp
  · simp only [World.frozen?, hh]; simp
theorem Box.lt {W : World} {B : Nat} {v : Value} (h : Box B v W) : B < W.heap.size := World.block_lt_of_cell? W _ h.1
theorem Box.set {W : World} {B : Nat} {v : Value} (h : Box B v W) (u : Value) : Box B u (W.setCell ⟨B, 0, none⟩ u) :=
  ⟨World.cell?_setCell_same' _ _ _ (by rw [h.1]; rfl), by rw [World.frozen?_setCell]; exact h.2⟩
theorem Box.other {W : World} {B B' o : Nat} {v u : Value} (h : Box B v W) (hne : B ≠ B') : Box B v (W.setCell ⟨B', o, none⟩ u) :=
  ⟨(World.cell?_setCell_other _ _ _ _ (by intro e; have := congrArg Addr.block e; simp at this; omega)).trans h.1, by rw [World.frozen?_setCell]; exact h.2⟩
theorem Row.other {W : World} {b off B' o : Nat} {xs : List Nat} {u : Value} (h : Row W b off xs) (hne : b ≠ B') : Row (W.setCell ⟨B', o, none⟩ u) b off xs := fun j hj =>
  ⟨(World.cell?_setCell_other _ _ _ _ (by intro e; have := congrArg Addr.block e; simp at this; omega)).trans (h j hj).1, by rw [World.frozen?_setCell]; exact (h j hj).2⟩
theorem Nt.other {W : World} {p : Option Addr} {B' o : Nat} {xs : List Nat} {u : Value} (h : Nt W p xs) (hne : ∀ a, p = some a → xs ≠ [] → a.block ≠ B') : Nt (W.setCell ⟨B', o, none⟩ u) p xs := by
  by_cases h0 : xs = []
  · exact .inl h0
  · rcases h with h | ⟨b, off, rfl, h⟩
    · exact absurd h h0
    · exact .inr ⟨b, off, rfl, h.other (hne _ rfl h0)⟩
theorem RowB.other {W : World} {b off B' o : Nat} {xs : List UInt8} {u : Value} (h : RowB W b off xs) (hne : b ≠ B') : RowB (W.setCell ⟨B', o, none⟩ u) b off xs := fun j hj =>
  ⟨(World.cell?_setCell_other _ _ _ _ (by intro e; have := congrArg Addr.block e; simp at this; omega)).trans (h j hj).1, by rw [World.frozen?_setCell]; exact (h j hj).2⟩
theorem Room.other {W : World} {b n B' o : Nat} {u : Value} (h : Room W b n) (hne : b ≠ B') : Room (W.setCell ⟨B', o, none⟩ u) b n := fun j hj => by
  rw [World.frozen?_setCell, World.cell?_setCell_other _ _ _ _ (by intro e; have := congrArg Addr.block e; simp at this; omega)]
  exact h j hj
theorem ownFrom_belowW (w : World) (B n : Nat) (hB : n ≤ B) {β : Type} : OwnFrom B (fun (_ : β) W => Below n w W ∧ B ≤ W.heap.size) := fun _ W W' row hs hg hr =>
  ⟨hs.1.trans ⟨hg.os, hg.tape, hg.output, hg.size, fun k hk => hg.block k (by have := hs.2; omega) (fun e => by have := (hr k e.symm).1; omega)⟩, Nat.le_trans hs.2 hg.size⟩
end Go.Proofs.YtpdhffjdgnpikaaGreatDoor

namespace Go.Proofs.YtpdhffjdgnpikaaGreatDoor
open Go.RowKit Go.Shelf

theorem block_new (w : World) (arr : Array Value) (T : TypeId) : ∀ j u, arr.toList[j]? = some u → (w.alloc (.cells arr T)).cell? ((⟨w.heap.size, 0, none⟩ : Addr).add j) = some u := by
  intro j u h
  have hh := heap_alloc_new w (.cells arr T)
  rw [Addr.add_lit]
  simp only [World.cell?, hh]
  simpa using h
theorem keeps_setCells (B b : Nat) : ∀ (vs : List Value) (o : Nat) (W : World), KeepsFrom B W (W.setCells b o vs)
  | [], _, W => (KeepsOthers.refl W).from B
  | v :: r, o, W => ((KeepsOthers.setCell W ⟨b, o, none⟩ v).from B).trans (keeps_setCells B b r (o + 1) _)
theorem touch_setCells (b : Nat) : ∀ (vs : List Value) (o : Nat) (W : World), Touch W (W.setCells b o vs) b o vs.length
  | [], o, W => Touch.refl W b o 0
  | v :: r, o, W => ((Touch.refl W b o (v :: r).length).set (Nat.le_refl _) (by simp) v).trans ((touch_setCells b r (o + 1) _).wider (by omega) (by simp; omega))
def u8s (l : List UInt8) : List Value := l.map fun c => .int .u8 (c.toNat : Nat)
theorem u8s_length (l : List UInt8) : (u8s l).length = l.length := by simp [u8s]
theorem rowB_setCells {W : World} {g cap : Nat} {l m : List UInt8} (h : RowB W g 0 l) (hr : Room W g cap) (hc : l.length + m.length ≤ cap) : RowB (W.setCells g l.length (u8s m)) g 0 (l ++ m) := by
  intro j hj
  rw [List.length_append] at hj
  rw [World.frozen?_setCells, Nat.zero_add]
  refine ⟨?_, (hr j (by omega)).2⟩
  by_cases hjl : j < l.length
  · rw [World.cell?_setCells_out _ _ _ _ _ (fun _ _ => .inl hjl), List.getD_eq_getElem?_getD, List.getElem?_append_left hjl, ← List.getD_eq_getElem?_getD]
    have := (h j hjl).1
    rwa [Nat.zero_add] at this
  · have := World.cell?_setCells_in g (u8s m) l.length W (fun i hi => (hr (l.length + i) (by rw [u8s_length] at hi; omega)).1) (j - l.length) (by rw [u8s_length]; omega)
    rw [show l.length + (j - l.length) = j by omega] at this
    rw [this, List.getD_eq_getElem?_getD, List.getElem?_append_right (by omega)]
    simp only [u8s, List.getElem_map]
    rw [List.getElem?_eq_getElem (by omega)]; rfl
theorem Room.touch {W W' : World} {g cap off n b : Nat} (h : Room W g cap) (ht : Touch W W' b off n) (hne : g ≠ b) : Room W' g cap := fun j hj => by
  have hlt := room_lt h (by omega)
  have hb := ht.grown.block g hlt (fun e => hne (Option.some.inj e))
  rw [World.cell?_of_block (w := W) (a := ⟨g, j, none⟩) hb, World.frozen?_of_block (w := W) (a := ⟨g, j, none⟩) hb]
  exact h j hj
theorem Room.setCells {g cap : Nat} : ∀ (vs : List Value) (o : Nat) (W : World), Room W g cap → o + vs.length ≤ cap → Room (W.setCells g o vs) g cap
  | [], _, _, h, _ => h
  | v :: r, o, W, h, hc => Room.setCells r (o + 1) _ (h.set (by simp at hc; omega)) (by simp at hc; omega)
theorem Box.touch {W W' : World} {B off n b : Nat} {v : Value} (h : Box B v W) (ht : Touch W W' b off n) (hne : B ≠ b) : Box B v W' := by
  have hb := ht.grown.block B h.lt (fun e => hne (Option.some.inj e))
  exact ⟨(World.cell?_of_block (w := W) (a := ⟨B, 0, none⟩) hb).trans h.1, (World.frozen?_of_block (w := W) (a := ⟨B, 0, none⟩) hb).trans h.2⟩

/-- 'append' within the capacity, inside a fence; the world behind it is a variable. -/
theorem wpListIn_roomW {F : Fence} {n : Nat} {P : Program} (w : World) {ops : Array Oper} {rest : List Oper} {o : Oper} {a : Act} {Q : Exit → Act → World → Prop}
    (hg : o.guard = none) (s x : Operand) (t tx : TypeId) (hop : o.op = Op.call { callee := Callee.builtin Builtin.append, args := #[s, x], argTypes := #[t, tx] })
    (e : TypeId) (z : Value) (bytes : Nat) (ht : P.underlying t = some (.slice e)) (hinfo : (P.info? e).map (fun i => (i.zero, i.size, i.bytes)) = some (some z, 1, bytes))
    (b sLen sCap : Nat) (hs : a.eval s = .slice (some ⟨b, 0, none⟩) sLen sCap) (xv : Value) (hx : a.eval x = xv) (m : Nat) (news : List Value) (hsrc : Src P 1 tx xv m news w)
    (hroom : sLen + m ≤ sCap) (hl : news.length ≤ m) (hr : Room w b sCap)
    (hK : ∀ W2, W2 = w.setCells b sLen news → wpListIn F n P ops Q rest (a.put o.dst (.slice (some ⟨b, 0, none⟩) (sLen + m) sCap)) W2) :
    wpListIn F n P ops Q (o :: rest) a w := by
  refine wpListIn_room w hg s x t tx hop e z bytes ht hinfo b 0 sLen sCap hs xv hx m news hsrc hroom (fun j hj => ?_) (fun j hj => ?_) ?_
  · rw [Nat.zero_add]; exact (hr (sLen + j) (by omega)).1
  · rw [Nat.zero_add]; exact (hr (sLen + j) (by omega)).2
  · exact hK _ (by rw [Nat.zero_add])
end Go.Proofs.YtpdhffjdgnpikaaGreatDoor

namespace Go.Proofs.YtpdhffjdgnpikaaGreatDoor
open Go.RowKit Go.Shelf
attribute [local go_sem] Oper.semAt_some

theorem u8s_bytes8 (v : Nat) : u8s (bytes8 v) = [.int .u8 ((v : Int) / 72057594037927936 % 256), .int .u8 ((v : Int) / 281474976710656 % 256), .int .u8 ((v : Int) / 1099511627776 % 256), .int .u8 ((v : Int) / 4294967296 % 256), .int .u8 ((v : Int) / 16777216 % 256), .int .u8 ((v : Int) / 65536 % 256), .int .u8 ((v : Int) / 256 % 256), .int .u8 ((v : Int) % 256)] := by
  simp [u8s, bytes8]
theorem src8 (W : World) (v : Nat) : ∀ (x0 x1 x2 x3 x4 x5 x6 x7 : Value), x0 = .int .u8 ((v : Int) / 72057594037927936 % 256) → x1 = .int .u8 ((v : Int) / 281474976710656 % 256) → x2 = .int .u8 ((v : Int) / 1099511627776 % 256) → x3 = .int .u8 ((v : Int) / 4294967296 % 256) → x4 = .int .u8 ((v : Int) / 16777216 % 256) → x5 = .int .u8 ((v : Int) / 65536 % 256) → x6 = .int .u8 ((v : Int) / 256 % 256) → x7 = .int .u8 ((v : Int) % 256) →
    Src Tryz.prog 1 110 (.slice (some ⟨W.heap.size, 0, none⟩) 8 8) 8 (u8s (bytes8 v)) (W.alloc (.cells #[x0, x1, x2, x3, x4, x5, x6, x7] 5)) := by
  rintro _ _ _ _ _ _ _ _ rfl rfl rfl rfl rfl rfl rfl rfl
  exact Src.ofSlice _ Tryz.underlying110 ⟨W.heap.size, 0, none⟩ 8 8 _ rfl (by rw [u8s_bytes8]; exact block_new _ _ _) (by rw [u8s_bytes8]; simp [Value.oneCell'])
theorem drop_wat (xs : List Nat) (j : Nat) (h : j < xs.length) : bytesW (xs.drop j) = bytesW (xs.drop (j + 1)) ++ bytes8 (wat xs j) := by
  rw [List.drop_eq_getElem_cons h, bytesW_cons]
  congr 2
  unfold wat
  rw [List.getD_eq_getElem?_getD, List.getElem?_eq_getElem h]; rfl

set_option maxHeartbeats 300000 in
set_option maxRecDepth 100000 in
theorem store_any (p : Option Addr) (xs : List Nat) (cap : Nat) (w : World) (hx : Nt w p xs) (hok : Ok xs) (hn : xs.length ≤ 131072) :
    Calls Tryz.prog 140 #[.slice p xs.length cap] w fun e w' => e = .returned (.string ⟨(be (wv xs)).toArray⟩) ∧ Below w.heap.size w w' := by
  have HX := Lib.hid hx
  clear hx
  refine (callsIn_wide (n := 4)).1 ?_
  refine callsIn_of_wp_marks Tryz.func140 rfl trivial ?_ rfl
  simp only [Tryz.ntmps140, List.size_toArray, List.length_cons, List.length_nil, Nat.reduceAdd, Nat.reduceSub, Array.replicate_succ, Array.replicate_zero, List.push_toArray, List.append_toArray, List.nil_append, List.cons_append]
  gi_wp2_with fail
  have hr0 : Room (w.alloc (.cells Tryz.zeroCells149 149)) w.heap.size 128 := room_alloc _ _ _ 128 (by kernel_rfl)
  refine ⟨trivial, ?_⟩
  rw [show (8 : Int) * (xs.length : Int) = ((8 * xs.length : Nat) : Int) by omega]
  refine (callsIn_wide.2 (growB_mem w.heap.size 128 (8 * xs.length) _ (by omega) (by omega) hr0)).mono ?_
  clear hr0
  rintro e w1 ⟨g, cap1, rfl, hcap1, hmax1, hroom1, hg1, hbel1⟩
  have HB1 := Lib.hid hbel1
  have HG1 := Lib.hid hg1
  have HR1 := Lib.hid hroom1
  have hsz1 : w.heap.size + 1 ≤ w1.heap.size := by have := hbel1.size; simp at this; omega
  clear hbel1 hg1 hroom1
  unfold maxLen at hmax1
  gi_wp2_with (refine ⟨trivial, ?_⟩; gi_at_call 170; refine (callsIn_wide.2 (backN_make _ _ _ _)).mono ?_; rintro e w' ⟨rfl, rfl⟩)
  obtain ⟨W0, hW0⟩ : ∃ W0, (w1.alloc (Obj.cells #[Value.slice (some ⟨g, 0, none⟩) 0 cap1] 110)).alloc (Obj.cells #[Value.slice p xs.length cap] 90) = W0 := ⟨_, rfl⟩
  have hz0 : W0.heap.size = w1.heap.size + 2 := by rw [← hW0]; simp
  have hb0 : Below w1.heap.size w1 W0 := by rw [← hW0]; exact ((Below.refl _ w1).alloc (Nat.le_refl _) _).alloc (by simp) _
  have hbD : Box w1.heap.size (.slice (some ⟨g, 0, none⟩) 0 cap1) W0 := by
    rw [← hW0]
    exact (box_new w1 _ _).below (B0 := w1.heap.size + 1) ((Below.refl _ _).alloc (by simp) _) (by omega)
  have hbB : Box (w1.heap.size + 1) (.slice p xs.length cap) W0 := by
    rw [← hW0]
    have := box_new (w1.alloc (Obj.cells #[Value.slice (some ⟨g, 0, none⟩) 0 cap1] 110)) (.slice p xs.length cap) 90
    simpa using this
  rw [hW0]
  refine wide_back (N := xs.length) (xv := wat xs) rfl (enters_of Tryz.func201 (by kernel_rfl) rfl) rfl
    (backN_seq _ (w1.heap.size + 1) p xs.length cap (wat xs) (by omega)) (fun o o' => ?st)
    (fun j W => Box w1.heap.size (.slice (some ⟨g, 0, none⟩) (bytesW (xs.drop j)).length cap1) W ∧ RowB W g 0 (bytesW (xs.drop j)) ∧ Room W g cap1 ∧ Box (w1.heap.size + 1) (.slice p xs.length cap) W ∧ Nt W p xs ∧ (Below w.heap.size w W ∧ W0.heap.size ≤ W.heap.size))
    (fun _ => False) ?hI (fun _ _ _ _ h _ _ => h) ?h0 ?hRd ?a1 ?assign ?body ?done ?stop
  case st => exact ((hbB.below (B0 := W0.heap.size) (((Below.refl _ W0).alloc (Nat.le_refl _) _).alloc (by simp) _) (by omega))).1
  case hI =>
    intro s A B row hs hg hr
    obtain ⟨h1, h2, h3, h4, h5, h6⟩ := hs
    have hr' : ∀ r, row = some r → ∃ o : Obj, A.heap[r]? = some o ∧ o.isCells = false := fun r e => (hr r e).2
    exact ⟨h1.kept hg hr', h2.kept hg hr', h3.kept hg hr', h4.kept hg hr', h5.kept hg hr', ownFrom_belowW w W0.heap.size w.heap.size (by omega) s A B row h6 hg hr⟩
  case h0 =>
    have e : bytesW (xs.drop xs.length) = [] := by rw [List.drop_length]; rfl
    rw [e]
    have hww : Below w.heap.size w W0 := (((Below.refl _ w).alloc (Nat.le_refl _) _).trans (HB1.out.mono (by simp))).trans (hb0.mono (by omega))
    refine ⟨hbD, fun j hj => by simp at hj, ?_, hbB, HX.out.below hww, hww, Nat.le_refl _⟩
    by_cases hc0 : 0 < cap1
    · exact HR1.out.below hb0 (room_lt HR1.out hc0)
    · intro j hj; omega
  case hRd =>
    intro j W hj hs
    obtain ⟨h1, h2, h3, h4, h5, h6⟩ := hs
    rcases h5 with h5 | ⟨b, off, rfl, h5⟩
    · exfalso; rw [h5] at hj; simp at hj
    · exact ⟨h4.1, b, off, rfl, (h5 j hj).1⟩
  case assign =>
    intro l j W K hK
    gi_wp2
    exact hK
  case body =>
    intro l j W hj hs
    obtain ⟨h1, h2, h3, h4, h5, h6⟩ := hs
    obtain ⟨v, hv⟩ : ∃ v, v = wat xs j := ⟨_, rfl⟩
    obtain ⟨L, hL⟩ : ∃ L, L = (bytesW (xs.drop (j + 1))).length := ⟨_, rfl⟩
    have hLn : L = 8 * (xs.length - (j + 1)) := by rw [hL, bytesW_length, List.length_drop]
    have hroom8 : L + 8 ≤ cap1 := by omega
    have hgl : g < w1.heap.size := room_lt HR1.out (by omega)
    have hgw : w.heap.size ≤ g := by
      rcases HG1.out with h | h
      · omega
      · rw [World.size_alloc] at h; omega
    have hc1 := h1.1
    have hf1 := h1.2
    rw [← hL] at hc1 h1
    have hxne : ∀ a, p = some a → xs ≠ [] → a.block ≠ g := fun a ha hne => by
      rcases HX.out with h | ⟨b, off, rfl, h⟩
      · exact absurd h hne
      · cases ha
        have := h.lt (List.length_pos_iff.2 hne)
        show b ≠ g
        omega
    -- what holds behind the append of the word's bytes
    have hpush : ∀ (O : Obj) (W2 : World), W2 = (W.alloc O).setCells g L (u8s (bytes8 v)) →
        (Box w1.heap.size (.slice (some ⟨g, 0, none⟩) L cap1) W2) ∧ RowB W2 g 0 (bytesW (xs.drop j)) ∧ Room W2 g cap1 ∧ Box (w1.heap.size + 1) (.slice p xs.length cap) W2 ∧ Nt W2 p xs ∧ (Below w.heap.size w W2 ∧ W0.heap.size ≤ W2.heap.size) ∧ KeepsFrom W0.heap.size W W2 := by
      rintro O W2 rfl
      have hb : Below W.heap.size W (W.alloc O) := (Below.refl _ W).alloc (Nat.le_refl _) _
      have ht := touch_setCells g (u8s (bytes8 v)) L (W.alloc O)
      have hgW : g < W.heap.size := by have := h6.2; omega
      have hDW : w1.heap.size + 1 < W.heap.size := by have := h6.2; omega
      refine ⟨(h1.below hb (by omega)).touch ht (by omega), ?_, Room.setCells _ _ _ (h3.below hb hgW) (by rw [u8s_length]; exact hroom8), (h4.below hb (by omega)).touch ht (by omega), ?_, ⟨?_, ?_⟩, ?_⟩
      · rw [drop_wat xs j hj, ← hv, hL]
        exact rowB_setCells (h2.below hb hgW) (h3.below hb hgW) (by rw [← hL]; exact hroom8)
      · by_cases hne : xs = []
        · exact .inl hne
        · exact (h5.below hb).touch ht (fun a ha => hxne a ha hne)
      · exact touch_below (h6.1.alloc (by have := h6.1.size; omega) O) ht (by have := h6.1.size; simp; omega) hgw
      · have := ht.grown.size; simp at this; have := h6.2; omega
      · exact ((KeepsOthers.alloc W O).from _).trans (keeps_setCells _ _ _ _ _)
    have hroomW : ∀ O : Obj, Room (W.alloc O) g cap1 := fun O => h3.below ((Below.refl W.heap.size W).alloc (Nat.le_refl _) O) (by have := h6.2; omega)
    have HP := Lib.hid hpush
    have HRW := Lib.hid hroomW
    have HLn := Lib.hid (And.intro hL (And.intro hLn (And.intro hgl hgw)))
    rw [← hv]
    clear hpush hroomW h1 h2 h3 h4 h5 h6 hv hL hLn hxne hgl hgw
    gi_wp2_with (gi_at_builtin; (refine wpListIn_roomW _ rfl (.tmp 16) (.tmp 40) 110 110 rfl 5 (.int .u8 0) 1 Tryz.underlying110 infoB g L cap1 rfl _ rfl 8 (u8s (bytes8 v)) (src8 _ v _ _ _ _ _ _ _ _ rfl rfl rfl rfl rfl rfl rfl rfl) hroom8 (by rw [u8s_length]; exact Nat.le_refl 8) (HRW.out _) ?_); intro W2 hW2; have HW2 := Lib.hid (HP.out _ _ hW2); clear hW2; have hc2 := HW2.out.1.1; have hf2 := HW2.out.1.2)
    obtain ⟨p1, p2, p3, p4, p5, p6, p7⟩ := HW2.out
    obtain ⟨e1, e2, e3, e4⟩ := HLn.out
    have e5 : (bytesW (xs.drop j)).length = L + 8 := by rw [bytesW_length, List.length_drop]; omega
    refine ⟨p7.trans ((KeepsOthers.setCell _ _ _).from _), ?_, p2.other (by omega), p3.other (by omega), p4.other (by omega), p5.other (fun a ha hne => ?_), p6.1.setCell (by show w.heap.size ≤ w1.heap.size; omega) _, by simp [World.setCell]; exact p6.2⟩
    · rw [e5]; exact p1.set _
    · rcases HX.out with h | ⟨b, off, rfl, h⟩
      · exact absurd h hne
      · cases ha
        have := h.lt (List.length_pos_iff.2 hne)
        show b ≠ w1.heap.size
        omega
  case done =>
    intro D W hD hs hK
    obtain ⟨h1, h2, h3, h4, h5, h6⟩ := hs
    rw [List.drop_zero] at h1 h2
    have hc1 := h1.1
    have htb := trimB_any g 0 cap1 (bytesW xs) W h2 (by rw [bytesW_length]; exact hcap1) (by unfold maxLen; exact hmax1)
    have hnil := Lib.run_convert_nil_bytes (P := Tryz.prog) W 110 9 5 0 Tryz.underlying110 Tryz.underlying5 Tryz.underlying9
    have hbe : strip (bytesW xs) = be (wv xs) := by rw [strip_be, bytesW_val xs hok]
    have hsome : ∀ k c : Nat, (bytesW xs).drop k = strip (bytesW xs) → k < (bytesW xs).length →
        (convert 110 9 (.slice (some ⟨g, k, none⟩) ((bytesW xs).length - k) c)).run Tryz.prog W = .ok (.string ⟨(be (wv xs)).toArray⟩) W := fun k c hk hlt => by
      have h := run_convert_bytes_back (P := Tryz.prog) W 110 9 5 ⟨g, k, none⟩ c ((bytesW xs).drop k) Tryz.underlying110 Tryz.underlying5 Tryz.underlying9
        (fun i hi => by
          rw [Addr.add_lit]
          rw [List.length_drop] at hi
          have := (h2 (k + i) (by omega)).1
          rw [Nat.zero_add] at this
          rw [this]
          congr 2
          rw [List.getElem_drop, List.getD_eq_getElem?_getD, List.getElem?_eq_getElem (by omega)]; rfl)
      rw [List.length_drop] at h
      rw [h, hk, hbe]
    have HT := Lib.hid htb
    have HS := Lib.hid h6
    have HK := Lib.hid hK
    have HBE := Lib.hid hbe
    have HSO := Lib.hid hsome
    have fin : ∀ s : ByteArray, s = ⟨(be (wv xs)).toArray⟩ → Ending.returned (.string s) = .returned (.string ⟨(be (wv xs)).toArray⟩) := fun s h => by rw [h]
    have FIN := Lib.hid fin
    have hend : ∀ D', Below w.heap.size w (W.putObj D (.deferred D')) := fun D' => h6.1.trans (belowK_b (w := W0) (by omega) W D _ _ hD hK rfl rfl)
    have HEND := Lib.hid hend
    clear h1 h2 h3 h4 h5 h6 hK htb hbe hsome fin hend
    gi_wp2_with (refine ⟨trivial, ?_⟩; gi_at_call 171; refine (callsIn_wide.2 HT.out).mono ?_; rintro e w' ⟨rfl, (⟨hs, rfl⟩ | ⟨k, c, q1, q2, q3, q4, rfl⟩)⟩)
    · have hs' := HBE.out
      rw [hs] at hs'
      have HS2 := Lib.hid hs'
      clear hs'
      refine ⟨by simp, .inl ⟨_, _, rfl, run_takeDeferred HK.out, ?_⟩⟩
      refine ⟨_, results_tmp rfl _ _ _, ?_, HEND.out _⟩
      show Ending.returned (.string ⟨#[]⟩) = _
      exact FIN.out _ (by rw [← HS2.out])
    · have hc2 := HSO.out k c q2 q1
      rw [hc2]
      clear hc2
      gi_wp2_with fail
      refine ⟨by simp, .inl ⟨_, _, rfl, run_takeDeferred HK.out, ?_⟩⟩
      exact ⟨_, results_tmp rfl _ _ _, rfl, HEND.out _⟩
  case stop =>
    intro D W hD hs hK
    exact hs.elim
end Go.Proofs.YtpdhffjdgnpikaaGreatDoor

namespace Go.Proofs.YtpdhffjdgnpikaaGreatDoor
open Go.RowKit

/-- A new block of two cells. -/
def Two (B : Nat) (x y : Value) (W : World) : Prop := (W.cell? ⟨B, 0, none⟩ = some x ∧ W.frozen? ⟨B, 0, none⟩ = false) ∧ (W.cell? ⟨B, 1, none⟩ = some y ∧ W.frozen? ⟨B, 1, none⟩ = false)
theorem two_new (w : World) (x y : Value) (T : TypeId) : Two w.heap.size x y (w.alloc (.cells #[x, y] T)) := by
  have hh := heap_alloc_new w (.cells #[x, y] T)
  refine ⟨⟨?_, ?_⟩, ⟨?_, ?_⟩⟩
  · simp only [World.cell?, hh]; simp
  · simp only [World.frozen?, hh]; simp
  · simp only [World.cell?, hh]; simp
  · simp only [World.frozen?, hh]; simp
theorem Two.below {W W' : World} {B0 B : Nat} {x y : Value} (h : Two B x y W) (hb : Below B0 W W') (hB : B < B0) : Two B x y W' :=
  ⟨⟨(hb.cell (p := ⟨B, 0, none⟩) hB).trans h.1.1, (hb.frozen (p := ⟨B, 0, none⟩) hB).trans h.1.2⟩, ⟨(hb.cell (p := ⟨B, 1, none⟩) hB).trans h.2.1, (hb.frozen (p := ⟨B, 1, none⟩) hB).trans h.2.2⟩⟩
theorem Two.lt {W : World} {B : Nat} {x y : Value} (h : Two B x y W) : B < W.heap.size := World.block_lt_of_cell? W _ h.1.1

/-- The canonical api.Int of an integer; nothing that was there has turned. -/
def IntRes (w : World) (z : Int) (e : Ending) (w' : World) : Prop := e = .returned (.agg #[.bool (ng z), .string (mg z)]) ∧ Below w.heap.size w w'

set_option maxHeartbeats 400000 in
theorem signed_gen (neg : Bool) (p : Option Addr) (xs : List Nat) (cap : Nat) (w : World) (hx : Nt w p xs) (hok : Ok xs) (hn : xs.length ≤ 131072) :
    Calls Tryz.prog 102 #[.bool neg, .slice p xs.length cap] w fun e w' => e = .returned (.agg #[.bool (neg && decide (0 < xs.length)), .string ⟨(be (wv xs)).toArray⟩]) ∧ Below w.heap.size w w' := by
  have hst := store_any p xs cap (w.alloc (.cells #[.bool false, .string ⟨#[]⟩] 23)) (hx.below ((Below.refl _ _).alloc (Nat.le_refl _) _)) hok hn
  have HS := Lib.hid hst
  clear hst hx
  obtain ⟨s, hs⟩ : ∃ s : ByteArray, s = ⟨(be (wv xs)).toArray⟩ := ⟨_, rfl⟩
  rw [← hs]
  have hS := HS.out
  rw [← hs] at hS
  have HS' := Lib.hid hS
  clear hS HS hs
  cases neg
  · go_enter Tryz.func102, Tryz.ntmps102
    go_wp2_with fail
    refine HS'.out.mono ?_
    rintro e w1 ⟨rfl, hb1⟩
    obtain ⟨hc1, hf1⟩ := bcell hb1
    go_wp2_with fail
    refine bodyPost_ret (v := .agg #[.bool false, .string s]) (by simp [results, Tryz.results102, go_sem, hc1]) rfl ⟨by simp, ?_⟩
    exact ((((Below.refl _ _).alloc (Nat.le_refl _) _).trans (hb1.mono (by simp))).setCell (by simp) _).setCell (by simp) _
  · obtain ⟨d, hd⟩ : ∃ d, d = decide (0 < xs.length) := ⟨_, rfl⟩
    have hd1 : decide (0 < xs.length) = d := hd.symm
    have hd2 : decide ((0 : Int) < (xs.length : Int)) = d := by rw [hd]; simp
    rw [← hd]
    clear hd
    go_enter Tryz.func102, Tryz.ntmps102
    go_wp2_with fail
    refine HS'.out.mono ?_
    rintro e w1 ⟨rfl, hb1⟩
    obtain ⟨hc1, hf1⟩ := bcell hb1
    go_wp2_with fail
    refine bodyPost_ret (v := .agg #[.bool d, .string s]) (by simp [results, Tryz.results102, go_sem, hc1]) rfl ⟨by simp, ?_⟩
    exact ((((Below.refl _ _).alloc (Nat.le_refl _) _).trans (hb1.mono (by simp))).setCell (by simp) _).setCell (by simp) _

theorem int_agg (neg : Bool) (n : Nat) : (.agg #[.bool (neg && decide (0 < (nw n).length)), .string ⟨(be (wv (nw n))).toArray⟩] : Value) = .agg #[.bool (ng (if neg then -(n : Int) else n)), .string (mg (if neg then -(n : Int) else n))] := by
  have h1 : (neg && decide (0 < (nw n).length)) = ng (if neg then -(n : Int) else n) := by
    unfold ng
    have h0 : (0 < (nw n).length) ↔ n ≠ 0 := by rw [List.length_pos_iff, ne_eq, nw_eq_nil]
    cases neg
    · simp
    · simp only [Bool.true_and, if_true]
      rw [decide_eq_decide, h0]; omega
  have h2 : (⟨(be (wv (nw n))).toArray⟩ : ByteArray) = mg (if neg then -(n : Int) else n) := by
    unfold mg
    rw [wv_nw]
    cases neg <;> simp
  rw [h1, h2]
theorem signed_nat (neg : Bool) (p : Option Addr) (n cap : Nat) (w : World) (hx : Nt w p (nw n)) (hn : (nw n).length ≤ 131072) :
    Calls Tryz.prog 102 #[.bool neg, .slice p (nw n).length cap] w (IntRes w (if neg then -(n : Int) else n)) := by
  refine (signed_gen neg p (nw n) cap w hx (nw_ok n) hn).mono ?_
  rintro e w' ⟨rfl, hb⟩
  exact ⟨by rw [int_agg], hb⟩
theorem signed_word (neg : Bool) (v : Nat) (hv : v < 18446744073709551616) (hz : neg = true → v ≠ 0) (w : World) (g : Nat) (hr : Row w g 0 [v]) :
    Calls Tryz.prog 102 #[.bool neg, .slice (some ⟨g, 0, none⟩) 1 1] w (IntRes w (if neg then -(v : Int) else v)) := by
  refine (signed_gen neg (some ⟨g, 0, none⟩) [v] 1 w (.inr ⟨g, 0, rfl, hr⟩) (Ok.nil.cons hv) (by simp)).mono ?_
  rintro e w' ⟨rfl, hb⟩
  refine ⟨?_, hb⟩
  have e1 : wv [v] = v := by simp [wv]
  rw [e1]
  cases neg
  · simp [ng, mg]
  · have := hz rfl
    have e2 : ng (-(v : Int)) = true := by simp [ng]; omega
    simp [e2, mg]
theorem row_one (w : World) (v : Nat) (T : TypeId) : Row (w.alloc (.cells #[.int .u64 (v : Nat)] T)) w.heap.size 0 [v] := fun j hj => by
  obtain rfl : j = 0 := by simpa using hj
  exact ⟨(box_new w _ _).1, (box_new w _ _).2⟩
theorem wrap_of_neg (n : Int) (h1 : n < 0) (h2 : -9223372036854775808 ≤ n) : IntKind.u64.wrap (-(IntKind.u64.wrap n)) = ((n.natAbs : Nat) : Int) := by
  rw [IntKind.wrap_u64, IntKind.wrap_u64]; omega
theorem wrap_of_pos (n : Int) (h1 : ¬ n < 0) (h2 : n ≤ 9223372036854775807) : IntKind.u64.wrap n = ((n.natAbs : Nat) : Int) := by
  rw [IntKind.wrap_u64]; omega

set_option maxHeartbeats 400000 in
theorem of_any (n : Int) (w : World) (h1 : -9223372036854775808 ≤ n) (h2 : n ≤ 9223372036854775807) :
    Calls Tryz.prog 53 #[.int .i64 n] w (IntRes w n) := by
  obtain ⟨v, hv⟩ : ∃ v, v = n.natAbs := ⟨_, rfl⟩
  by_cases hn : n < 0
  · have hw := wrap_of_neg n hn h1
    rw [← hv] at hw
    have HV := Lib.hid (And.intro hv (And.intro h1 h2))
    clear hv h1 h2
    go_enter Tryz.func53, Tryz.ntmps53
    go_wp2_with fail
    have hrow := row_one (w.alloc (Obj.cells #[Value.bool false, Value.string ⟨#[]⟩] 23)) v 85
    rw [World.size_alloc] at hrow
    refine (signed_word true v (by have := HV.out; omega) (fun _ => by have := HV.out; omega) _ _ hrow).mono ?_
    rintro e w1 ⟨he, hb1⟩
    rw [show (if true = true then -(v : Int) else (v : Int)) = n by have := HV.out; simp; omega] at he
    subst he
    obtain ⟨⟨k1, k2⟩, k3, k4⟩ := ((two_new w (.bool false) (.string ⟨#[]⟩) 23).below (B0 := w.heap.size + 1) ((Below.refl _ _).alloc (by simp) (Obj.cells #[Value.int IntKind.u64 (v : Nat)] 85)) (by omega)).below hb1 (by simp; omega)
    clear hrow
    go_wp2_with fail
    refine bodyPost_ret (v := .agg #[.bool (ng n), .string (mg n)]) (by simp [results, Tryz.results53, go_sem, k1, k3]) rfl ⟨rfl, ?_⟩
    exact (((((Below.refl _ _).alloc (Nat.le_refl _) _).alloc (by simp) _).trans (hb1.mono (by simp; omega))).setCell (by simp) _).setCell (by simp) _
  · have hw := wrap_of_pos n hn h2
    rw [← hv] at hw
    have HV := Lib.hid (And.intro hv (And.intro h1 h2))
    clear hv h1 h2
    go_enter Tryz.func53, Tryz.ntmps53
    go_wp2_with fail
    have hrow := row_one (w.alloc (Obj.cells #[Value.bool false, Value.string ⟨#[]⟩] 23)) v 85
    rw [World.size_alloc] at hrow
    refine (signed_word false v (by have := HV.out; omega) (fun h => by cases h) _ _ hrow).mono ?_
    rintro e w1 ⟨he, hb1⟩
    rw [show (if false = true then -(v : Int) else (v : Int)) = n by have := HV.out; simp; omega] at he
    subst he
    obtain ⟨⟨k1, k2⟩, k3, k4⟩ := ((two_new w (.bool false) (.string ⟨#[]⟩) 23).below (B0 := w.heap.size + 1) ((Below.refl _ _).alloc (by simp) (Obj.cells #[Value.int IntKind.u64 (v : Nat)] 85)) (by omega)).below hb1 (by simp; omega)
    clear hrow
    go_wp2_with fail
    refine bodyPost_ret (v := .agg #[.bool (ng n), .string (mg n)]) (by simp [results, Tryz.results53, go_sem, k1, k3]) rfl ⟨rfl, ?_⟩
    exact (((((Below.refl _ _).alloc (Nat.le_refl _) _).alloc (by simp) _).trans (hb1.mono (by simp; omega))).setCell (by simp) _).setCell (by simp) _
end Go.Proofs.YtpdhffjdgnpikaaGreatDoor

namespace Go.Proofs.YtpdhffjdgnpikaaGreatDoor
open Go.RowKit

theorem nw_be_length (l : List UInt8) : (nw (beVal l)).length ≤ (l.length + 7) / 8 := by
  obtain ⟨h1, h2, h3⟩ := wv_ld l
  rw [← h1, ← take_trimW _ h2, List.length_take, ← h3]; omega
theorem nw_mul_length (m n : Nat) : (nw (m * n)).length ≤ (nw m).length + (nw n).length := by
  apply nw_length_le
  have h1 := wv_lt (nw m) (nw_ok m)
  have h2 := wv_lt (nw n) (nw_ok n)
  rw [wv_nw] at h1 h2
  rw [Nat.pow_add]
  rcases Nat.eq_zero_or_pos n with h0 | h0
  · rw [h0, Nat.mul_zero]; exact Nat.mul_pos (Nat.pow_pos (by omega)) (Nat.pow_pos (by omega))
  · exact Nat.mul_lt_mul'' h1 h2
theorem mul_sign (na nb : Bool) (sa sb : ByteArray) : (if (na != nb) = true then -((beVal sa.data.toList * beVal sb.data.toList : Nat) : Int) else ((beVal sa.data.toList * beVal sb.data.toList : Nat) : Int)) = ival na sa * ival nb sb := by
  unfold ival
  cases na <;> cases nb <;> simp [Int.neg_mul, Int.mul_neg]

/-- What a call of load gives to whoever calls it: the words, in a block that is the memory passed or a new one. -/
theorem loaded_row {w w' : World} {b n : Nat} {e : Ending} (h : Loaded w b n e w') : ∃ g cap, e = .returned (.slice (some ⟨g, 0, none⟩) (nw n).length cap) ∧ Row w' g 0 (nw n) ∧ (g = b ∨ w.heap.size ≤ g) ∧ w.grownBy w' (some b) := by
  obtain ⟨g, cap, h1, _, _, h4, h5, h6⟩ := h
  exact ⟨g, cap, h1, h4, h5, h6⟩
theorem Row.grown {w w' : World} {b off r : Nat} {xs : List Nat} (h : Row w b off xs) (hg : w.grownBy w' (some r)) (hne : b ≠ r) : Row w' b off xs := fun j hj => by
  have hlt := h.lt (by omega)
  have hb := hg.block b hlt (fun e => hne (Option.some.inj e))
  rw [World.cell?_of_block (w := w) (a := ⟨b, off + j, none⟩) hb, World.frozen?_of_block (w := w) (a := ⟨b, off + j, none⟩) hb]
  exact h j hj
theorem Two.grown {W W' : World} {B r : Nat} {x y : Value} (h : Two B x y W) (hg : W.grownBy W' (some r)) (hne : B ≠ r) : Two B x y W' := by
  have hb := hg.block B h.lt (fun e => hne (Option.some.inj e))
  exact ⟨⟨(World.cell?_of_block (w := W) (a := ⟨B, 0, none⟩) hb).trans h.1.1, (World.frozen?_of_block (w := W) (a := ⟨B, 0, none⟩) hb).trans h.1.2⟩, ⟨(World.cell?_of_block (w := W) (a := ⟨B, 1, none⟩) hb).trans h.2.1, (World.frozen?_of_block (w := W) (a := ⟨B, 1, none⟩) hb).trans h.2.2⟩⟩
theorem Room.grown {W W' : World} {g cap r : Nat} (h : Room W g cap) (hg : W.grownBy W' (some r)) (hne : g ≠ r) : Room W' g cap := fun j hj => by
  have hlt := room_lt h (by omega)
  have hb := hg.block g hlt (fun e => hne (Option.some.inj e))
  rw [World.cell?_of_block (w := W) (a := ⟨g, j, none⟩) hb, World.frozen?_of_block (w := W) (a := ⟨g, j, none⟩) hb]
  exact h j hj

set_option maxHeartbeats 200000 in
set_option maxRecDepth 100000 in
theorem mul_any (na nb : Bool) (sa sb : ByteArray) (w : World) (ha : sa.size ≤ 262144) (hb : sb.size ≤ 262144) :
    Calls Tryz.prog 118 #[.agg #[.bool na, .string sa], .agg #[.bool nb, .string sb]] w (IntRes w (ival na sa * ival nb sb)) := by
  go_enter Tryz.func118, Tryz.ntmps118
  go_wp2_with fail
  -- the world in which the operands are loaded, by what holds of it
  obtain ⟨zs, hzs⟩ : ∃ zs : Array Value, #[Value.int .u64 0, .int .u64 0, .int .u64 0, .int .u64 0, .int .u64 0, .int .u64 0, .int .u64 0, .int .u64 0, .int .u64 0, .int .u64 0, .int .u64 0, .int .u64 0, .int .u64 0, .int .u64 0, .int .u64 0, .int .u64 0] = zs := ⟨_, rfl⟩
  have hz16 : zs.size = 16 := by rw [← hzs]; rfl
  rw [hzs]
  obtain ⟨W0, hW0⟩ : ∃ W0, ((((w.alloc (Obj.cells #[Value.bool na, Value.string sa] 23)).alloc (Obj.cells #[Value.bool nb, Value.string sb] 23)).alloc (Obj.cells #[Value.bool false, Value.string ⟨#[]⟩] 23)).alloc (Obj.cells zs 92)).alloc (Obj.cells zs 92) = W0 := ⟨_, rfl⟩
  have hs0 : W0.heap.size = w.heap.size + 1 + 1 + 1 + 1 + 1 := by rw [← hW0]; simp
  have tA : Two w.heap.size (.bool na) (.string sa) W0 := by
    rw [← hW0]
    exact (two_new w _ _ _).below (B0 := w.heap.size + 1) (((((Below.refl _ _).alloc (by simp) _).alloc (by simp) _).alloc (by simp) _).alloc (by simp) _) (by omega)
  have tB : Two (w.heap.size + 1) (.bool nb) (.string sb) W0 := by
    rw [← hW0]
    have h := two_new (w.alloc (Obj.cells #[Value.bool na, Value.string sa] 23)) (.bool nb) (.string sb) 23
    rw [World.size_alloc] at h
    exact h.below (B0 := w.heap.size + 1 + 1) ((((Below.refl _ _).alloc (by simp) _).alloc (by simp) _).alloc (by simp) _) (by omega)
  have tR : Two (w.heap.size + 1 + 1) (.bool false) (.string ⟨#[]⟩) W0 := by
    rw [← hW0]
    have h := two_new ((w.alloc (Obj.cells #[Value.bool na, Value.string sa] 23)).alloc (Obj.cells #[Value.bool nb, Value.string sb] 23)) (.bool false) (.string ⟨#[]⟩) 23
    rw [World.size_alloc, World.size_alloc] at h
    exact h.below (B0 := w.heap.size + 1 + 1 + 1) (((Below.refl _ _).alloc (by simp) _).alloc (by simp) _) (by omega)
  have rL : Room W0 (w.heap.size + 1 + 1 + 1) 16 := by
    rw [← hW0]
    have h := room_alloc (((w.alloc (Obj.cells #[Value.bool na, Value.string sa] 23)).alloc (Obj.cells #[Value.bool nb, Value.string sb] 23)).alloc (Obj.cells #[Value.bool false, Value.string ⟨#[]⟩] 23)) zs 92 16 hz16
    rw [World.size_alloc, World.size_alloc, World.size_alloc] at h
    exact h.below (B := w.heap.size + 1 + 1 + 1 + 1) ((Below.refl _ _).alloc (by simp) _) (by omega)
  have rR : Room W0 (w.heap.size + 1 + 1 + 1 + 1) 16 := by
    rw [← hW0]
    have h := room_alloc ((((w.alloc (Obj.cells #[Value.bool na, Value.string sa] 23)).alloc (Obj.cells #[Value.bool nb, Value.string sb] 23)).alloc (Obj.cells #[Value.bool false, Value.string ⟨#[]⟩] 23)).alloc (Obj.cells zs 92)) zs 92 16 hz16
    rw [World.size_alloc, World.size_alloc, World.size_alloc, World.size_alloc] at h
    exact h
  have b0 : Below w.heap.size w W0 := by
    rw [← hW0]
    exact (((((Below.refl _ _).alloc (Nat.le_refl _) _).alloc (by simp) _).alloc (by simp; omega) _).alloc (by simp; omega) _).alloc (by simp; omega) _
  rw [hW0]
  have kA := tA.2.1
  have kB := tB.2.1
  have hsd : W0.drew.heap.size = w.heap.size + 1 + 1 + 1 + 1 + 1 := hs0
  have tA' : Two w.heap.size (.bool na) (.string sa) W0.drew := tA
  have tB' : Two (w.heap.size + 1) (.bool nb) (.string sb) W0.drew := tB
  have tR' : Two (w.heap.size + 1 + 1) (.bool false) (.string ⟨#[]⟩) W0.drew := tR
  have rL' : Room W0.drew (w.heap.size + 1 + 1 + 1) 16 := rL
  have rR' : Room W0.drew (w.heap.size + 1 + 1 + 1 + 1) 16 := rR
  have H0 := Lib.hid (And.intro tA' (And.intro tB' (And.intro tR' (And.intro rL' (And.intro rR' (And.intro b0.drew hsd))))))
  clear tA tB tR rL rR tA' tB' tR' rL' rR' b0 hs0 hsd hW0 hzs hz16
  have tok1 : True := trivial
  go_region_held3 (fun w' => w'.cell? ⟨w.heap.size, 1, none⟩ = some (.string sa) ∧ w'.cell? ⟨w.heap.size + 1, 1, none⟩ = some (.string sb)) (go_keep)
    (first | (go_at_call 104; have _t := tok1; clear tok1; refine (load_any (w.heap.size + 1 + 1 + 1) sa _ (by omega) H0.out.2.2.2.1).mono ?_; intro e wL hL; obtain ⟨gL, capL, rfl, rowL, hgL, hgrL⟩ := loaded_row hL; have H1 := Lib.hid (And.intro rowL (And.intro hgL hgrL)); have kA1 := ((H0.out.1.grown hgrL (by omega)).2.1); have kB1 := ((H0.out.2.1.grown hgrL (by omega)).2.1); clear hL rowL hgL hgrL) | (go_at_call 104; refine (load_any (w.heap.size + 1 + 1 + 1 + 1) sb _ (by omega) (H0.out.2.2.2.2.1.grown H1.out.2.2 (by omega))).mono ?_; intro e wR hR; obtain ⟨gR, capR, rfl, rowR, hgR, hgrR⟩ := loaded_row hR; have H2 := Lib.hid (And.intro rowR (And.intro hgR hgrR)); have kA2 := (((H0.out.1.grown H1.out.2.2 (by omega)).grown hgrR (by omega)).2.1); have kB2 := (((H0.out.2.1.grown H1.out.2.2 (by omega)).grown hgrR (by omega)).2.1); clear hR rowR hgR hgrR))
  have h1 := H1.out
  have h2 := H2.out
  have h0 := H0.out
  obtain ⟨cA, cB, cR, _, _, cb, cs⟩ := h0
  have gLne : gL ≠ w.heap.size + 1 + 1 + 1 + 1 := by rcases h1.2.1 with h | h <;> omega
  have gLge : w.heap.size ≤ gL := by rcases h1.2.1 with h | h <;> omega
  have rowL2 := h1.1.grown h2.2.2 gLne
  have rowR2 := h2.1
  have cA2 := (cA.grown h1.2.2 (by omega)).grown h2.2.2 (by omega)
  have cB2 := (cB.grown h1.2.2 (by omega)).grown h2.2.2 (by omega)
  have cR2 := (cR.grown h1.2.2 (by omega)).grown h2.2.2 (by omega)
  have cb2 : Below w.heap.size w wR := (cb.grown h1.2.2 (by omega) (fun k e => by cases e; omega)).grown h2.2.2 (by have := h1.2.2.size; omega) (fun k e => by cases e; omega)
  have cz2 : w.heap.size + 1 + 1 + 1 + 1 + 1 ≤ wR.heap.size := by have := h1.2.2.size; have := h2.2.2.size; omega
  obtain ⟨sg, hsg⟩ : ∃ sg, (!(na == nb)) = sg := ⟨_, rfl⟩
  have kA := cA2.1.1
  have kB := cB2.1.1
  have hla := nw_be_length sa.data.toList
  have hlb := nw_be_length sb.data.toList
  rw [← Lib.size_eq] at hla hlb
  have hms := mul_sign na nb sa sb
  rw [show (na != nb) = sg from hsg] at hms
  obtain ⟨m, hm⟩ : ∃ m, m = beVal sa.data.toList := ⟨_, rfl⟩
  obtain ⟨n, hn⟩ : ∃ n, n = beVal sb.data.toList := ⟨_, rfl⟩
  rw [← hm] at hla hms rowL2
  rw [← hn] at hlb hms rowR2
  rw [← hm, ← hn]
  have rowL3 : Row wR.drew gL 0 (nw m) := rowL2
  have rowR3 : Row wR.drew gR 0 (nw n) := rowR2
  have hpr := product_any (some ⟨gL, 0, none⟩) (some ⟨gR, 0, none⟩) capL capR (nw m) (nw n) wR.drew (.inr ⟨_, _, rfl, rowL3⟩) (.inr ⟨_, _, rfl, rowR3⟩) (by omega) (by omega) (nw_ok _) (nw_ok _)
  rw [wv_nw, wv_nw] at hpr
  have HPR := Lib.hid hpr
  have hml := nw_mul_length m n
  have cA3 : Two w.heap.size (.bool na) (.string sa) wR.drew := cA2
  have cB3 : Two (w.heap.size + 1) (.bool nb) (.string sb) wR.drew := cB2
  have cR3 : Two (w.heap.size + 1 + 1) (.bool false) (.string ⟨#[]⟩) wR.drew := cR2
  have cz3 : w.heap.size + 1 + 1 + 1 + 1 + 1 ≤ wR.drew.heap.size := cz2
  have H3 := Lib.hid (And.intro cA3 (And.intro cB3 (And.intro cR3 (And.intro cb2.drew cz3))))
  have H4 := Lib.hid (And.intro hla (And.intro hlb hml))
  obtain ⟨z, hz⟩ : ∃ z, ival na sa * ival nb sb = z := ⟨_, rfl⟩
  rw [hz] at hms
  have HZ := Lib.hid hz
  have H5 := Lib.hid hms
  clear h1 h2 cA cB cR cb cs gLne gLge rowL2 rowR2 rowL3 rowR3 cA2 cB2 cR2 cb2 cz2 cA3 cB3 cR3 cz3 hla hlb hml hms hm hn hz hpr H0 H1 H2 kA1 kB1 kA2 kB2
  go_wp2_with fail
  have ne0 : ¬ (w.heap.size + 1 + 1 = w.heap.size) := by omega
  go_region_held3 (fun w' => w'.cell? ⟨w.heap.size, 0, none⟩ = some (.bool na) ∧ w'.cell? ⟨w.heap.size + 1, 0, none⟩ = some (.bool nb)) (go_keep)
    (first | (go_at_call 153; refine HPR.out.mono ?_; intro e wP hP; obtain ⟨gP, capP, rfl, _, _, rowP, gPge, bP⟩ := hP; have H6 := Lib.hid (And.intro rowP (And.intro gPge bP)); have kA3 := (H3.out.1.below bP (by have := H3.out.2.2.2.2; omega)).1.1; have kB3 := (H3.out.2.1.below bP (by have := H3.out.2.2.2.2; omega)).1.1; clear rowP gPge bP) | (go_at_call 102; have hsn := signed_nat sg (some ⟨gP, 0, none⟩) (m * n) capP wP (.inr ⟨_, _, rfl, H6.out.1⟩) (by have := H4.out; omega); rw [H5.out] at hsn; refine hsn.mono ?_; clear hsn; intro e wS hS; obtain ⟨he, bS⟩ := hS; subst he; have H7 := Lib.hid bS; have kA4 := ((H3.out.1.below H6.out.2.2 (by have := H3.out.2.2.2.2; omega)).below bS (by have := H3.out.2.2.2.2; have := H6.out.2.2.size; omega)).1.1; have kB4 := ((H3.out.2.1.below H6.out.2.2 (by have := H3.out.2.2.2.2; omega)).below bS (by have := H3.out.2.2.2.2; have := H6.out.2.2.size; omega)).1.1; have kR4 := ((H3.out.2.2.1.below H6.out.2.2 (by have := H3.out.2.2.2.2; omega)).below bS (by have := H3.out.2.2.2.2; have := H6.out.2.2.size; omega)); obtain ⟨⟨r1, r2⟩, r3, r4⟩ := kR4; clear bS))
  have hsz := H3.out.2.2.2.2
  have hbw := H3.out.2.2.2.1
  have hbP := H6.out.2.2
  have hbS := H7.out
  have hsP := hbP.size
  have hbel : Below w.heap.size w ((wS.setCell ⟨w.heap.size + 1 + 1, 0, none⟩ (.bool (ng z))).setCell ⟨w.heap.size + 1 + 1, 1, none⟩ (.string (mg z))) :=
    (((hbw.trans (hbP.mono (by omega))).trans (hbS.mono (by omega))).setCell (by show w.heap.size ≤ w.heap.size + 1 + 1; omega) _).setCell (by show w.heap.size ≤ w.heap.size + 1 + 1; omega) _
  have HBEL := Lib.hid hbel
  clear hsz hbw hbP hbS hsP hbel
  go_wp2_with fail
  refine bodyPost_ret (v := .agg #[.bool (ng z), .string (mg z)]) (by simp [results, Tryz.results118, go_sem, r1, r3]) rfl ?_
  rw [HZ.out]
  exact ⟨rfl, HBEL.out⟩
end Go.Proofs.YtpdhffjdgnpikaaGreatDoor

namespace Go.Proofs.YtpdhffjdgnpikaaGreatDoor
open Go.RowKit Go.Shelf

/-- The order of two integers: -1, 0, 1. -/
def cmpZ (a b : Int) : Int := if a < b then -1 else if b < a then 1 else 0
theorem cmpZ_lt {a b : Int} (h : a < b) : cmpZ a b = -1 := by unfold cmpZ; rw [if_pos h]
theorem cmpZ_gt {a b : Int} (h : b < a) : cmpZ a b = 1 := by unfold cmpZ; rw [if_neg (by omega), if_pos h]
theorem cmpZ_eq {a b : Int} (h : a = b) : cmpZ a b = 0 := by unfold cmpZ; rw [if_neg (by omega), if_neg (by omega)]
theorem i64_eq {a b : Int} (h : a = b) : Ending.returned (.int .i64 a) = .returned (.int .i64 b) := by rw [h]

set_option maxHeartbeats 400000 in
theorem cmpInt_any (a b : Int) (w : World) :
    Calls Tryz.prog 83 #[.int .i64 a, .int .i64 b] w fun e w' => e = .returned (.int .i64 (cmpZ a b)) ∧ w = w' := by
  by_cases h1 : a < b
  · go_enter Tryz.func83, Tryz.ntmps83
    go_wp2
    go_ret
    exact ⟨i64_eq (cmpZ_lt h1).symm, rfl⟩
  · by_cases h2 : b < a
    · go_enter Tryz.func83, Tryz.ntmps83
      go_wp2
      go_ret
      exact ⟨i64_eq (cmpZ_gt h2).symm, rfl⟩
    · go_enter Tryz.func83, Tryz.ntmps83
      go_wp2
      go_ret
      exact ⟨i64_eq (cmpZ_eq (by omega)).symm, rfl⟩
set_option maxHeartbeats 400000 in
theorem cmpWord_any (a b : Int) (w : World) :
    Calls Tryz.prog 178 #[.int .u64 a, .int .u64 b] w fun e w' => e = .returned (.int .i64 (cmpZ a b)) ∧ w = w' := by
  by_cases h1 : a < b
  · go_enter Tryz.func178, Tryz.ntmps178
    go_wp2
    go_ret
    exact ⟨i64_eq (cmpZ_lt h1).symm, rfl⟩
  · by_cases h2 : b < a
    · go_enter Tryz.func178, Tryz.ntmps178
      go_wp2
      go_ret
      exact ⟨i64_eq (cmpZ_gt h2).symm, rfl⟩
    · go_enter Tryz.func178, Tryz.ntmps178
      go_wp2
      go_ret
      exact ⟨i64_eq (cmpZ_eq (by omega)).symm, rfl⟩

theorem nw_length_lt {m n : Nat} (h : (nw m).length < (nw n).length) : m < n := by
  by_cases hc : m < n
  · exact hc
  · exfalso
    have h1 := wv_lt (nw m) (nw_ok m)
    rw [wv_nw] at h1
    have := nw_length_le (nw m).length n (by omega)
    omega
theorem wv_split (xs : List Nat) (j : Nat) (h : j < xs.length) : wv xs = wv (xs.take j) + 18446744073709551616 ^ j * (wat xs j + 18446744073709551616 * wv (xs.drop (j + 1))) := by
  have e := wv_append (xs.take j) (xs.drop j)
  rw [List.take_append_drop, List.length_take, Nat.min_eq_left (by omega), List.drop_eq_getElem_cons h, wv] at e
  rw [e]
  unfold wat
  rw [List.getD_eq_getElem?_getD, List.getElem?_eq_getElem h]; rfl
theorem word_decides {xs ys : List Nat} {j : Nat} (hx : Ok xs) (hj : j < xs.length) (hj' : j < ys.length) (hd : xs.drop (j + 1) = ys.drop (j + 1)) (hlt : wat xs j < wat ys j) : wv xs < wv ys := by
  rw [wv_split xs j hj, wv_split ys j hj', hd]
  have h1 := wv_lt (xs.take j) (hx.take j)
  rw [List.length_take, Nat.min_eq_left (by omega)] at h1
  have h2 : 18446744073709551616 ^ j * (wat xs j + 18446744073709551616 * wv (ys.drop (j + 1))) + 18446744073709551616 ^ j ≤ 18446744073709551616 ^ j * (wat ys j + 18446744073709551616 * wv (ys.drop (j + 1))) := by
    rw [← Nat.mul_succ]
    exact Nat.mul_le_mul_left _ (by omega)
  omega
theorem words_cmp {xs ys : List Nat} {j : Nat} (hx : Ok xs) (hy : Ok ys) (hj : j < xs.length) (hj' : j < ys.length) (hd : xs.drop (j + 1) = ys.drop (j + 1)) (hne : wat xs j ≠ wat ys j) : cmpZ (wat xs j) (wat ys j) = cmpZ (wv xs) (wv ys) := by
  rcases Nat.lt_or_gt_of_ne hne with h | h
  · rw [cmpZ_lt (by omega), cmpZ_lt (by have := word_decides hx hj hj' hd h; omega)]
  · rw [cmpZ_gt (by omega), cmpZ_gt (by have := word_decides hy hj' hj hd.symm h; omega)]
theorem drop_wat_eq {xs ys : List Nat} {j : Nat} (hj : j < xs.length) (hj' : j < ys.length) (hd : xs.drop (j + 1) = ys.drop (j + 1)) (he : wat xs j = wat ys j) : xs.drop j = ys.drop j := by
  rw [List.drop_eq_getElem_cons hj, List.drop_eq_getElem_cons hj', hd]
  congr 1
  unfold wat at he
  rw [List.getD_eq_getElem?_getD, List.getElem?_eq_getElem hj, List.getD_eq_getElem?_getD, List.getElem?_eq_getElem hj'] at he
  exact he
end Go.Proofs.YtpdhffjdgnpikaaGreatDoor

namespace Go.Proofs.YtpdhffjdgnpikaaGreatDoor
open Go.RowKit Go.Shelf
attribute [local go_sem] Oper.semAt_some

theorem res60 (tmps : Array Value) (W : World) (B : Nat) (z : Int) (h4 : tmps.getD 4 undef = .pointer (some ⟨B, 0, none⟩)) (hb : W.cell? ⟨B, 0, none⟩ = some (.int .i64 z)) : (results Tryz.f152 tmps).run Tryz.prog W = .ok (.int .i64 z) W := by
  have h4' : tmps[4]?.getD undef = .pointer (some ⟨B, 0, none⟩) := by rw [← h4]; simp
  simp [results, Tryz.results152, go_sem, h4', hb]

set_option maxHeartbeats 400000 in
set_option maxRecDepth 100000 in
theorem compare_len (p q : Option Addr) (m n cx cy : Nat) (w : World) (hl : (nw m).length ≠ (nw n).length) :
    Calls Tryz.prog 152 #[.slice p (nw m).length cx, .slice q (nw n).length cy] w fun e w' => e = .returned (.int .i64 (cmpZ m n)) ∧ Below w.heap.size w w' := by
  have hc : cmpZ ((nw m).length : Int) ((nw n).length : Int) = cmpZ m n := by
    rcases Nat.lt_or_gt_of_ne hl with h | h
    · rw [cmpZ_lt (by omega), cmpZ_lt (by have := nw_length_lt h; omega)]
    · rw [cmpZ_gt (by omega), cmpZ_gt (by have := nw_length_lt h; omega)]
  have HC := Lib.hid hc
  have t1 : (((nw m).length : Int) == ((nw n).length : Int)) = false := by rw [beq_eq_false_iff_ne]; omega
  have t2 : (((nw m).length : Int) != ((nw n).length : Int)) = true := by rw [bne_iff_ne]; omega
  clear hc
  go_enter Tryz.func152, Tryz.ntmps152
  go_wp2_with (go_at_call 83; refine (cmpInt_any _ _ _).mono ?_; rintro e w' ⟨rfl, rfl⟩)
  refine bodyPost_ret (v := .int .i64 (cmpZ ((nw m).length : Int) ((nw n).length : Int))) (by simp [results, Tryz.results152, go_sem]) rfl ⟨by rw [HC.out], ?_⟩
  exact ((Below.refl _ _).alloc (Nat.le_refl _) _).alloc (by simp) _

set_option maxHeartbeats 1000000 in
set_option maxRecDepth 100000 in
theorem compare_eq (p q : Option Addr) (m n cx cy : Nat) (w : World) (hx : Nt w p (nw m)) (hy : Nt w q (nw n)) (hl : (nw m).length = (nw n).length) (hn : (nw m).length ≤ 1048576) :
    Calls Tryz.prog 152 #[.slice p (nw m).length cx, .slice q (nw n).length cy] w fun e w' => e = .returned (.int .i64 (cmpZ m n)) ∧ Below w.heap.size w w' := by
  have HX := Lib.hid hx
  have HY := Lib.hid hy
  have HL := Lib.hid hl
  have t1 : (((nw m).length : Int) == ((nw n).length : Int)) = true := by rw [beq_iff_eq, hl]
  have t2 : (((nw m).length : Int) != ((nw n).length : Int)) = false := by rw [hl]; simp
  clear hx hy hl
  refine (callsIn_wide (n := 4)).1 ?_
  refine callsIn_of_wp_marks Tryz.func152 rfl trivial ?_ rfl
  simp only [Tryz.ntmps152, List.size_toArray, List.length_cons, List.length_nil, Nat.reduceAdd, Nat.reduceSub, Array.replicate_succ, Array.replicate_zero, List.push_toArray, List.append_toArray, List.nil_append, List.cons_append]
  gi_wp2_with (refine ⟨trivial, ?_⟩; gi_at_call 170; refine (callsIn_wide.2 (backN_make _ _ _ _)).mono ?_; rintro e w' ⟨rfl, rfl⟩)
  obtain ⟨xs, hxs⟩ : ∃ xs, xs = nw m := ⟨_, rfl⟩
  obtain ⟨ys, hys⟩ : ∃ ys, ys = nw n := ⟨_, rfl⟩
  obtain ⟨W0, hW0⟩ : ∃ W0, (((w.alloc (Obj.cells #[Value.slice q (nw n).length cy] 90)).alloc (Obj.cells #[Value.int IntKind.i64 0] 3)).alloc (Obj.cells #[Value.slice p (nw m).length cx] 90)) = W0 := ⟨_, rfl⟩
  have hz0 : W0.heap.size = w.heap.size + 1 + 1 + 1 := by rw [← hW0]; simp
  have hw0 : Below w.heap.size w W0 := by rw [← hW0]; exact (((Below.refl _ w).alloc (Nat.le_refl _) _).alloc (by simp) _).alloc (by simp; omega) _
  have hbY : Box w.heap.size (.slice q (nw n).length cy) W0 := by
    rw [← hW0]
    exact (box_new w _ _).below (B0 := w.heap.size + 1) (((Below.refl _ _).alloc (by simp) _).alloc (by simp) _) (by omega)
  have hbR : Box (w.heap.size + 1) (.int .i64 0) W0 := by
    rw [← hW0]
    have h := box_new (w.alloc (Obj.cells #[Value.slice q (nw n).length cy] 90)) (.int .i64 0) 3
    rw [World.size_alloc] at h
    exact h.below (B0 := w.heap.size + 1 + 1) ((Below.refl _ _).alloc (by simp) _) (by omega)
  have hbI : Box (w.heap.size + 1 + 1) (.slice p (nw m).length cx) W0 := by
    rw [← hW0]
    have h := box_new ((w.alloc (Obj.cells #[Value.slice q (nw n).length cy] 90)).alloc (Obj.cells #[Value.int IntKind.i64 0] 3)) (.slice p (nw m).length cx) 90
    rw [World.size_alloc, World.size_alloc] at h
    exact h
  have hx0 := HX.out.below hw0
  have hy0 := HY.out.below hw0
  have hl0 := HL.out
  have hmn : cmpZ m n = cmpZ (wv xs) (wv ys) := by rw [hxs, hys, wv_nw, wv_nw]
  have hox : Ok xs := by rw [hxs]; exact nw_ok m
  have hoy : Ok ys := by rw [hys]; exact nw_ok n
  have hends : xs = ys → cmpZ m n = 0 := fun h => cmpZ_eq (by rw [hxs, hys] at h; rw [nw_inj h])
  have HMN := Lib.hid (And.intro hmn hends)
  rw [hW0]
  rw [← hxs] at hbI hx0 hl0 hn
  rw [← hys] at hbY hy0 hl0
  have HL0 := Lib.hid hl0
  rw [← hxs, ← hys]
  clear hmn hends hW0 hl0 HX HY HL t1 t2 hxs hys
  refine wide_back (N := xs.length) (xv := wat xs) rfl (enters_of Tryz.func201 (by kernel_rfl) rfl) rfl
    (backN_seq _ (w.heap.size + 1 + 1) p xs.length cx (wat xs) (by omega)) (fun o o' => ?st)
    (fun j W => Box w.heap.size (.slice q ys.length cy) W ∧ Box (w.heap.size + 1) (.int .i64 0) W ∧ Box (w.heap.size + 1 + 1) (.slice p xs.length cx) W ∧ Nt W p xs ∧ Nt W q ys ∧ (Below w.heap.size w W ∧ W0.heap.size ≤ W.heap.size) ∧ xs.drop j = ys.drop j)
    (fun W => Box (w.heap.size + 1) (.int .i64 (cmpZ m n)) W ∧ (Below w.heap.size w W ∧ W0.heap.size ≤ W.heap.size)) ?hI ?hIR ?h0 ?hRd ?a1 ?assign ?body ?done ?stop
  case st => exact ((hbI.below (B0 := W0.heap.size) (((Below.refl _ W0).alloc (Nat.le_refl _) _).alloc (by simp) _) (by omega))).1
  case hI =>
    intro s A B row hs hg hr
    obtain ⟨h1, h2, h3, h4, h5, h6, h7⟩ := hs
    have hr' : ∀ r, row = some r → ∃ o : Obj, A.heap[r]? = some o ∧ o.isCells = false := fun r e => (hr r e).2
    exact ⟨h1.kept hg hr', h2.kept hg hr', h3.kept hg hr', h4.kept hg hr', h5.kept hg hr', ownFrom_belowW w W0.heap.size w.heap.size (by omega) s A B row h6 hg hr, h7⟩
  case hIR =>
    intro s A B row hs hg hr
    have hr' : ∀ r, row = some r → ∃ o : Obj, A.heap[r]? = some o ∧ o.isCells = false := fun r e => (hr r e).2
    exact ⟨hs.1.kept hg hr', ownFrom_belowW w W0.heap.size w.heap.size (by omega) s A B row hs.2 hg hr⟩
  case h0 => exact ⟨hbY, hbR, hbI, hx0, hy0, ⟨hw0, Nat.le_refl _⟩, by rw [List.drop_length, HL0.out, List.drop_length]⟩
  case hRd =>
    intro j W hj hs
    obtain ⟨h1, h2, h3, h4, h5, h6, h7⟩ := hs
    rcases h4 with h4 | ⟨b, off, rfl, h4⟩
    · exfalso; rw [h4] at hj; simp at hj
    · exact ⟨h3.1, b, off, rfl, (h4 j hj).1⟩
  case assign =>
    intro l j W K hK
    gi_wp2
    exact hK
  case body =>
    intro l j W hj hs
    obtain ⟨h1, h2, h3, h4, h5, h6, h7⟩ := hs
    have hj' : j < ys.length := by rw [← HL0.out]; exact hj
    rcases h5 with h5 | ⟨by', oy, rfl, h5⟩
    · exfalso; rw [h5] at hj'; simp at hj'
    · have hcy := (h5 j hj').1
      have k1 := h1.1
      have k2 := h2.1
      have k3 := h2.2
      obtain ⟨y, hy⟩ : ∃ y, wat ys j = y := ⟨_, rfl⟩
      obtain ⟨x, hx⟩ : ∃ x, wat xs j = x := ⟨_, rfl⟩
      have hcy2 : W.cell? ⟨by', oy + j, none⟩ = some (.int .u64 (y : Nat)) := by rw [← hy]; exact hcy
      by_cases hxy : x = y
      · have t1 : ((x : Int) == (y : Int)) = true := by rw [beq_iff_eq, hxy]
        have t2 : ((x : Int) != (y : Int)) = false := by rw [hxy]; simp
        have hd := drop_wat_eq hj hj' h7 (by rw [hx, hy, hxy])
        have HS := Lib.hid (And.intro h1 (And.intro h2 (And.intro h3 (And.intro h4 (And.intro (show Nt W (some ⟨by', oy, none⟩) ys from .inr ⟨_, _, rfl, h5⟩) (And.intro h6 hd))))))
        rw [hx]
        clear h1 h2 h3 h4 h5 h6 h7 hd hcy hx hy hxy
        gi_wp2
        exact ⟨(KeepsOthers.refl _).from _, HS.out⟩
      · have t1 : ((x : Int) == (y : Int)) = false := by rw [beq_eq_false_iff_ne]; omega
        have t2 : ((x : Int) != (y : Int)) = true := by rw [bne_iff_ne]; omega
        have hc := words_cmp hox hoy hj hj' h7 (by rw [hx, hy]; exact hxy)
        rw [hx, hy, ← HMN.out.1] at hc
        have HC := Lib.hid hc
        have HS := Lib.hid (And.intro h2 h6)
        rw [hx]
        clear h1 h2 h3 h4 h5 h6 h7 hcy hx hy hxy hc
        gi_wp2_with (refine ⟨trivial, ?_⟩; gi_at_call 178; refine (CallsIn.inRound l (callsIn_wide.2 (cmpWord_any _ _ _))).mono ?_; rintro e w' ⟨rfl, rfl⟩)
        refine ⟨(KeepsOthers.setCell _ _ _).from _, ?_, HS.out.2.1.setCell (by show w.heap.size ≤ w.heap.size + 1; omega) _, by have := HS.out.2.2; simp [World.setCell]; exact this⟩
        have hb := HS.out.1.set (.int .i64 (cmpZ (x : Int) (y : Int)))
        rw [HC.out] at hb ⊢
        exact hb
  case done =>
    intro D W hD hs hK
    obtain ⟨h1, h2, h3, h4, h5, h6, h7⟩ := hs
    have hz : cmpZ m n = 0 := HMN.out.2 (by rw [List.drop_zero, List.drop_zero] at h7; exact h7)
    have k2 := h2.1
    have k3 := h2.2
    have hb2 := h2.set (.int .i64 0)
    have hK2 := (((KeepsOthers.setCell W ⟨w.heap.size + 1, 0, none⟩ (.int .i64 0)).from 0).same D _ (Nat.zero_le _) hK rfl)
    have hb3 := hb2.kept (grownBy_putObj' (W.setCell ⟨w.heap.size + 1, 0, none⟩ (.int .i64 0)) D (.deferred none)) (fun r e => by cases e; exact ⟨_, hK2, rfl⟩)
    have hbel : Below w.heap.size w ((W.setCell ⟨w.heap.size + 1, 0, none⟩ (.int .i64 0)).putObj D (.deferred none)) :=
      (h6.1.setCell (by show w.heap.size ≤ w.heap.size + 1; omega) _).trans (belowK_b (w := W0) (by omega) _ D _ _ hD hK2 rfl rfl)
    have HF := Lib.hid (And.intro hz (And.intro hK2 (And.intro hb3 hbel)))
    clear h1 h2 h3 h4 h5 h6 h7 hz hb2 hK hK2 hb3 hbel
    gi_wp2
    refine ⟨by simp, .inl ⟨_, _, rfl, run_takeDeferred HF.out.2.1, ?_⟩⟩
    exact ⟨_, res60 _ _ _ _ rfl HF.out.2.2.1.1, i64_eq HF.out.1.symm, HF.out.2.2.2⟩
  case stop =>
    intro D W hD hs hK
    have hb3 := hs.1.kept (grownBy_putObj' W D (.deferred none)) (fun r e => by cases e; exact ⟨_, hK, rfl⟩)
    have hbel : Below w.heap.size w (W.putObj D (.deferred none)) := hs.2.1.trans (belowK_b (w := W0) (by omega) _ D _ _ hD hK rfl rfl)
    have HF := Lib.hid (And.intro hK (And.intro hb3 hbel))
    clear hs hK hb3 hbel
    gi_wp2
    refine ⟨by simp, .inl ⟨_, _, rfl, run_takeDeferred HF.out.1, ?_⟩⟩
    exact ⟨_, res60 _ _ _ _ rfl HF.out.2.1.1, rfl, HF.out.2.2⟩

/-- bigint.compare: the order of two numbers. -/
theorem compare_any (p q : Option Addr) (m n cx cy : Nat) (w : World) (hx : Nt w p (nw m)) (hy : Nt w q (nw n)) (hn : (nw m).length ≤ 1048576) :
    Calls Tryz.prog 152 #[.slice p (nw m).length cx, .slice q (nw n).length cy] w fun e w' => e = .returned (.int .i64 (cmpZ m n)) ∧ Below w.heap.size w w' := by
  by_cases hl : (nw m).length = (nw n).length
  · exact compare_eq p q m n cx cy w hx hy hl hn
  · exact compare_len p q m n cx cy w hl
end Go.Proofs.YtpdhffjdgnpikaaGreatDoor
