/- Rows of bytes in memory, the bytes of words, and bytes.TrimLeft at the zero byte. -/
import Derived.Test.YtmbnkokcpmkpgaaGreatDoorIter
namespace Go.Proofs.YtmbnkokcpmkpgaaGreatDoor
open Go.RowKit

/-- The cells of a block from a place on hold these bytes, and are not frozen. -/
def RowB (w : World) (b off : Nat) (l : List UInt8) : Prop :=
  ∀ j, j < l.length → w.cell? ⟨b, off + j, none⟩ = some (.int .u8 ((l.getD j 0).toNat : Nat)) ∧ w.frozen? ⟨b, off + j, none⟩ = false
theorem room_alloc (w : World) (arr : Array Value) (T : TypeId) (n : Nat) (h : arr.size = n) : Room (w.alloc (.cells arr T)) w.heap.size n := fun j hj => by
  have hh := heap_alloc_new w (.cells arr T)
  constructor
  · simp only [World.cell?, hh]
    simp; omega
  · simp only [World.frozen?, hh]
    simp
theorem RowB.below {w w' : World} {b off B : Nat} {l : List UInt8} (h : RowB w b off l) (hb : Below B w w') (hB : b < B) : RowB w' b off l := fun j hj =>
  ⟨(hb.cell (p := ⟨b, off + j, none⟩) hB).trans (h j hj).1, (hb.frozen (p := ⟨b, off + j, none⟩) hB).trans (h j hj).2⟩
theorem RowB.left {w : World} {b off : Nat} {xs ys : List UInt8} (h : RowB w b off (xs ++ ys)) : RowB w b off xs := by
  intro j hj
  have := h j (by rw [List.length_append]; omega)
  rwa [List.getD_eq_getElem?_getD, List.getElem?_append_left hj, ← List.getD_eq_getElem?_getD] at this
theorem RowB.right {w : World} {b off : Nat} {xs ys : List UInt8} (h : RowB w b off (xs ++ ys)) : RowB w b (off + xs.length) ys := by
  intro j hj
  have := h (xs.length + j) (by rw [List.length_append]; omega)
  rwa [List.getD_eq_getElem?_getD, List.getElem?_append_right (by omega), Nat.add_sub_cancel_left, ← List.getD_eq_getElem?_getD, ← Nat.add_assoc] at this

/-- The eight bytes of a word, the most significant one first. -/
def bytes8 (v : Nat) : List UInt8 := [UInt8.ofNat (v / 72057594037927936), UInt8.ofNat (v / 281474976710656), UInt8.ofNat (v / 1099511627776), UInt8.ofNat (v / 4294967296), UInt8.ofNat (v / 16777216), UInt8.ofNat (v / 65536), UInt8.ofNat (v / 256), UInt8.ofNat v]
theorem bytes8_val (v : Nat) (h : v < 18446744073709551616) : beVal (bytes8 v) = v := by
  simp only [bytes8, beVal, List.foldl, UInt8.toNat_ofNat']
  omega
/-- The bytes of words, the last one first. -/
def bytesW (xs : List Nat) : List UInt8 := (xs.reverse.map bytes8).flatten
theorem bytesW_cons (x : Nat) (xs : List Nat) : bytesW (x :: xs) = bytesW xs ++ bytes8 x := by
  unfold bytesW; simp
theorem bytesW_length (xs : List Nat) : (bytesW xs).length = 8 * xs.length := by
  induction xs with
  | nil => rfl
  | cons x xs ih => rw [bytesW_cons, List.length_append, ih, List.length_cons]; simp [bytes8]; omega
theorem bytesW_val (xs : List Nat) (h : Ok xs) : beVal (bytesW xs) = wv xs := by
  induction xs with
  | nil => rfl
  | cons x xs ih =>
    rw [bytesW_cons, beVal_append, ih h.tail, bytes8_val x h.head, wv]
    have : (bytes8 x).length = 8 := rfl
    rw [this, show (256 : Nat) ^ 8 = 18446744073709551616 by decide]; omega

/-- 'append' of some cells within the capacity, inside a fence. -/
theorem wpListIn_room {F : Fence} {n : Nat} {P : Program} (w : World) {ops : Array Oper} {rest : List Oper} {o : Oper} {a : Act} {Q : Exit → Act → World → Prop}
    (hg : o.guard = none) (s x : Operand) (t tx : TypeId) (hop : o.op = Op.call { callee := Callee.builtin Builtin.append, args := #[s, x], argTypes := #[t, tx] })
    (e : TypeId) (z : Value) (bytes : Nat) (ht : P.underlying t = some (.slice e)) (hinfo : (P.info? e).map (fun i => (i.zero, i.size, i.bytes)) = some (some z, 1, bytes))
    (b off sLen sCap : Nat) (hs : a.eval s = .slice (some ⟨b, off, none⟩) sLen sCap) (xv : Value) (hx : a.eval x = xv) (m : Nat) (news : List Value) (hsrc : Src P 1 tx xv m news w)
    (hroom : sLen + m ≤ sCap) (hc : ∀ j, j < news.length → (w.cell? ⟨b, off + sLen + j, none⟩).isSome = true) (hf : ∀ j, j < news.length → w.frozen? ⟨b, off + sLen + j, none⟩ = false)
    (hK : wpListIn F n P ops Q rest (a.put o.dst (.slice (some ⟨b, off, none⟩) (sLen + m) sCap)) (w.setCells b (off + sLen) news)) :
    wpListIn F n P ops Q (o :: rest) a w := by
  obtain ⟨i, hi, hzz⟩ := Option.map_eq_some_iff.1 hinfo
  simp only [Prod.mk.injEq] at hzz
  obtain ⟨_, hs1, _⟩ := hzz
  refine wpListIn_plain hg fun K hK' => ?_
  have hrun := run_append_room_src (P := P) (w := w) t tx o.type e i ht hi b off sLen sCap xv m news (by rw [hs1]; exact hsrc) hroom (by rw [hs1, Nat.mul_one]; exact hc) (by rw [hs1, Nat.mul_one]; exact hf)
  rw [hs1, Nat.mul_one] at hrun
  unfold Oper.wpIn
  refine ⟨?_, ?_⟩
  · simp [Oper.about, hop, resolve, Target.leads, Sem.run_pure]
  · rw [Oper.semAt_plain F _ _ (by rw [hop]; intro c hc'; cases hc')]
    simp [execOp, hop, resolve, invoke, builtin, hs, hx, hrun, Result.andThen]
    exact hK' _ _ hK
end Go.Proofs.YtmbnkokcpmkpgaaGreatDoor
