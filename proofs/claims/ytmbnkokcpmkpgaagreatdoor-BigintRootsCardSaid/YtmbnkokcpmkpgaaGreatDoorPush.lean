/- Some cells more, appended within the capacity: what holds behind it. -/
import Derived.Test.YtmbnkokcpmkpgaaGreatDoorKept
namespace Go.Proofs.YtmbnkokcpmkpgaaGreatDoor
open Go.RowKit Go.Shelf

theorem block_new (w : World) (arr : Array Value) (T : TypeId) : ∀ j u, arr.toList[j]? = some u → (w.alloc (.cells arr T)).cell? ((⟨w.heap.size, 0, none⟩ : Addr).add j) = some u := by
  intro j u h
  have hh := heap_alloc_new w (.cells arr T)
  rw [Addr.add_lit]
  simp only [World.cell?, hh]
  simpa using h
theorem keeps_setCells (B b : Nat) : ∀ (vs : List Value) (o : Nat) (W : World), KeepsFrom B W (W.setCells b o vs)
  | [], _, W => (KeepsOthers.refl W).from B
  | v :: r, o, W => ((KeepsOthers.setCell W ⟨b, o, none⟩ v).from B).trans (keeps_setCells B b r (o + 1) _)
theorem touch_setCells (b : Nat) : ∀ (vs : List Value) (o : Nat) (W : World), Touch W (W.setCells b o vs) b o vs.length
  | [], o, W => Touch.refl W b o 0
  | v :: r, o, W => ((Touch.refl W b o (v :: r).length).set (Nat.le_refl _) (by simp) v).trans ((touch_setCells b r (o + 1) _).wider (by omega) (by simp; omega))
def u8s (l : List UInt8) : List Value := l.map fun c => .int .u8 (c.toNat : Nat)
theorem u8s_length (l : List UInt8) : (u8s l).length = l.length := by simp [u8s]
theorem rowB_setCells {W : World} {g cap : Nat} {l m : List UInt8} (h : RowB W g 0 l) (hr : Room W g cap) (hc : l.length + m.length ≤ cap) : RowB (W.setCells g l.length (u8s m)) g 0 (l ++ m) := by
  intro j hj
  rw [List.length_append] at hj
  rw [World.frozen?_setCells, Nat.zero_add]
  refine ⟨?_, (hr j (by omega)).2⟩
  by_cases hjl : j < l.length
  · rw [World.cell?_setCells_out _ _ _ _ _ (fun _ _ => .inl hjl), List.getD_eq_getElem?_getD, List.getElem?_append_left hjl, ← List.getD_eq_getElem?_getD]
    have := (h j hjl).1
    rwa [Nat.zero_add] at this
  · have := World.cell?_setCells_in g (u8s m) l.length W (fun i hi => (hr (l.length + i) (by rw [u8s_length] at hi; omega)).1) (j - l.length) (by rw [u8s_length]; omega)
    rw [show l.length + (j - l.length) = j by omega] at this
    rw [this, List.getD_eq_getElem?_getD, List.getElem?_append_right (by omega)]
    simp only [u8s, List.getElem_map]
    rw [List.getElem?_eq_getElem (by omega)]; rfl
theorem Room.touch {W W' : World} {g cap off n b : Nat} (h : Room W g cap) (ht : Touch W W' b off n) (hne : g ≠ b) : Room W' g cap := fun j hj => by
  have hlt := room_lt h (by omega)
  have hb := ht.grown.block g hlt (fun e => hne (Option.some.inj e))
  rw [World.cell?_of_block (w := W) (a := ⟨g, j, none⟩) hb, World.frozen?_of_block (w := W) (a := ⟨g, j, none⟩) hb]
  exact h j hj
theorem Room.setCells {g cap : Nat} : ∀ (vs : List Value) (o : Nat) (W : World), Room W g cap → o + vs.length ≤ cap → Room (W.setCells g o vs) g cap
  | [], _, _, h, _ => h
  | v :: r, o, W, h, hc => Room.setCells r (o + 1) _ (h.set (by simp at hc; omega)) (by simp at hc; omega)
theorem Box.touch {W W' : World} {B off n b : Nat} {v : Value} (h : Box B v W) (ht : Touch W W' b off n) (hne : B ≠ b) : Box B v W' := by
  have hb := ht.grown.block B h.lt (fun e => hne (Option.some.inj e))
  exact ⟨(World.cell?_of_block (w := W) (a := ⟨B, 0, none⟩) hb).trans h.1, (World.frozen?_of_block (w := W) (a := ⟨B, 0, none⟩) hb).trans h.2⟩

/-- 'append' within the capacity, inside a fence; the world behind it is a variable. -/
theorem wpListIn_roomW {F : Fence} {n : Nat} {P : Program} (w : World) {ops : Array Oper} {rest : List Oper} {o : Oper} {a : Act} {Q : Exit → Act → World → Prop}
    (hg : o.guard = none) (s x : Operand) (t tx : TypeId) (hop : o.op = Op.call { callee := Callee.builtin Builtin.append, args := #[s, x], argTypes := #[t, tx] })
    (e : TypeId) (z : Value) (bytes : Nat) (ht : P.underlying t = some (.slice e)) (hinfo : (P.info? e).map (fun i => (i.zero, i.size, i.bytes)) = some (some z, 1, bytes))
    (b sLen sCap : Nat) (hs : a.eval s = .slice (some ⟨b, 0, none⟩) sLen sCap) (xv : Value) (hx : a.eval x = xv) (m : Nat) (news : List Value) (hsrc : Src P 1 tx xv m news w)
    (hroom : sLen + m ≤ sCap) (hl : news.length ≤ m) (hr : Room w b sCap)
    (hK : ∀ W2, W2 = w.setCells b sLen news → wpListIn F n P ops Q rest (a.put o.dst (.slice (some ⟨b, 0, none⟩) (sLen + m) sCap)) W2) :
    wpListIn F n P ops Q (o :: rest) a w := by
  refine wpListIn_room w hg s x t tx hop e z bytes ht hinfo b 0 sLen sCap hs xv hx m news hsrc hroom (fun j hj => ?_) (fun j hj => ?_) ?_
  · rw [Nat.zero_add]; exact (hr (sLen + j) (by omega)).1
  · rw [Nat.zero_add]; exact (hr (sLen + j) (by omega)).2
  · exact hK _ (by rw [Nat.zero_add])
end Go.Proofs.YtmbnkokcpmkpgaaGreatDoor
