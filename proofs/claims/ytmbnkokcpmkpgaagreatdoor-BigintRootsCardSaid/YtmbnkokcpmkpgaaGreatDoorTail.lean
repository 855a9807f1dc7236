/- Cutting a slice of words, copying up to four words into an array, and what these leave. -/
import Derived.Test.YtmbnkokcpmkpgaaGreatDoorBlock
import Derived.Laws.IdiomCopy
import Derived.Laws.CopyRow
import Derived.Shelf.Spec.SlicesInsert
namespace Go.Proofs.YtmbnkokcpmkpgaaGreatDoor
open Go.RowKit Go.Shelf

/-- Where x[k:] begins. -/
def dropP (p : Option Addr) (cap k : Nat) : Option Addr := if cap = k then p else p.map (·.add k)
theorem size_u64 (w : World) : (Go.sizeOf 51).run Tryz.prog w = .ok 1 w := by
  obtain ⟨i0, hi0, hz0, hz1, hz2⟩ := info_parts infoU
  simp [Go.sizeOf, typeInfo, hi0, hz1]
theorem tail_run (p : Option Addr) (n cap k : Nat) (hk : k ≤ n) (W : World) :
    (Instr.slice 55 (.slice p n cap) (some (.int .i64 (k : Int))) none none).run Tryz.prog W = .ok (.slice (dropP p cap k) (n - k) (cap - k)) W := by
  have ht : Tryz.prog.underlying 55 = some (.slice 51) := Tryz.underlying55
  have ht' : Tryz.prog.underlying 55 = some (.slice (Tryz.prog.elem 55)) := by simp [Program.elem, ht]
  have he : Tryz.prog.elem 55 = 51 := by simp [Program.elem, ht]
  rw [run_slice_l W 55 _ _ _ ht' .i64 _ (by omega) (by omega), he, size_u64]
  simp [Result.andThen, sliced, dropP]
theorem Nt.tail {w : World} {p : Option Addr} {xs : List Nat} {cap k : Nat} (h : Nt w p xs) (hc : xs.length ≤ cap) (hk : k ≤ xs.length) : Nt w (dropP p cap k) (xs.drop k) := by
  by_cases hkk : k = xs.length
  · exact .inl (List.drop_eq_nil_of_le (by omega))
  · rcases h with h | ⟨b, off, rfl, h⟩
    · rw [h] at hk hkk; simp at hk hkk; omega
    · refine .inr ⟨b, off + k, ?_, h.drop k hk⟩
      unfold dropP
      rw [if_neg (by omega), Option.map_some, Addr.add_lit]

def u64s (l : List Nat) : List Value := l.map fun c => .int .u64 (c : Nat)
theorem u64s_length (l : List Nat) : (u64s l).length = l.length := by simp [u64s]
theorem u64s_one (l : List Nat) : ∀ v ∈ u64s l, v.oneCell' = true := by
  intro v hv
  obtain ⟨c, _, rfl⟩ := List.mem_map.1 hv
  rfl
theorem row_setCells {W : World} {g off : Nat} {ts us : List Nat} (h : Row W g off ts) (hl : us.length ≤ ts.length) : Row (W.setCells g off (u64s us)) g off (us ++ ts.drop us.length) := by
  intro j hj
  rw [List.length_append, List.length_drop] at hj
  rw [World.frozen?_setCells]
  refine ⟨?_, (h j (by omega)).2⟩
  by_cases hjl : j < us.length
  · have := World.cell?_setCells_in g (u64s us) off W (fun i hi => by rw [(h i (by rw [u64s_length] at hi; omega)).1]; rfl) j (by rw [u64s_length]; omega)
    rw [this, List.getD_eq_getElem?_getD, List.getElem?_append_left hjl]
    simp only [u64s, List.getElem_map]
    rw [List.getElem?_eq_getElem hjl]; rfl
  · rw [World.cell?_setCells_out _ _ _ _ _ (fun _ _ => .inr (by rw [u64s_length]; show off + us.length ≤ off + j; omega))]
    rw [(h j (by omega)).1, List.getD_eq_getElem?_getD, List.getD_eq_getElem?_getD, List.getElem?_append_right (by omega), List.getElem?_drop]
    rw [show us.length + (j - us.length) = j by omega]
theorem row_push {W : World} {g cap : Nat} {rs us : List Nat} (h : Row W g 0 rs) (hr : Room W g cap) (hc : rs.length + us.length ≤ cap) : Row (W.setCells g rs.length (u64s us)) g 0 (rs ++ us) := by
  intro j hj
  rw [List.length_append] at hj
  rw [World.frozen?_setCells, Nat.zero_add]
  refine ⟨?_, (hr j (by omega)).2⟩
  by_cases hjl : j < rs.length
  · rw [World.cell?_setCells_out _ _ _ _ _ (fun _ _ => .inl hjl), List.getD_eq_getElem?_getD, List.getElem?_append_left hjl, ← List.getD_eq_getElem?_getD]
    have := (h j hjl).1
    rwa [Nat.zero_add] at this
  · have := World.cell?_setCells_in g (u64s us) rs.length W (fun i hi => (hr (rs.length + i) (by rw [u64s_length] at hi; omega)).1) (j - rs.length) (by rw [u64s_length]; omega)
    rw [show rs.length + (j - rs.length) = j by omega] at this
    rw [this, List.getD_eq_getElem?_getD, List.getElem?_append_right (by omega)]
    simp only [u64s, List.getElem_map]
    rw [List.getElem?_eq_getElem (by omega)]; rfl

theorem copy_run (w : World) (ty : TypeId) (g : Nat) (p : Option Addr) (cap : Nat) (xs : List Nat) (hx : Nt w p xs) (hr : Room w g 4) :
    (Builtin.copy_ #[54, 55] ty #[.slice (some ⟨g, 0, none⟩) 4 4, .slice p xs.length cap]).run Tryz.prog w = .ok (goInt (Nat.min xs.length 4)) (w.setCells g 0 (u64s (xs.take 4))) := by
  have hu : Tryz.prog.underlying 54 = some (.slice 51) := Tryz.underlying54
  have hs : (Tryz.prog.info? 51).map (·.size) = some 1 := by kernel_rfl
  rcases hx with rfl | ⟨b, off, rfl, hx⟩
  · exact run_copy_none w _ _ _ _ _ _ _ _ _ _ hu hs rfl
  · have hl : (u64s (xs.take 4)).length = Nat.min xs.length 4 := by rw [u64s_length, List.length_take, Nat.min_comm]
    have := run_copy_cells (P := Tryz.prog) w 54 55 ty 51 g 0 4 4 ⟨b, off, none⟩ xs.length cap (u64s (xs.take 4)) hu hs hl
      (fun j v hv => by
        rw [Addr.add_lit]
        unfold u64s at hv
        rw [List.getElem?_map, List.getElem?_take] at hv
        split at hv
        · obtain ⟨c, hc, rfl⟩ := Option.map_eq_some_iff.1 hv
          obtain ⟨hj, rfl⟩ := List.getElem?_eq_some_iff.1 hc
          rw [(hx j hj).1, List.getD_eq_getElem?_getD, hc]; rfl
        · cases hv)
      (fun j hj => by rw [Nat.zero_add]; exact (hr j (by exact Nat.lt_of_lt_of_le (show j < Nat.min xs.length 4 by rw [← hl]; exact hj) (Nat.min_le_right _ _))).1)
      (fun j hj => by rw [Nat.zero_add]; exact (hr j (by exact Nat.lt_of_lt_of_le (show j < Nat.min xs.length 4 by rw [← hl]; exact hj) (Nat.min_le_right _ _))).2) (u64s_one _)
    rw [hl] at this
    exact this

/-- The copy as a step of a region that draws its order; the world behind it is a variable. -/
theorem copy_step {ops : Array Oper} {o : Oper} {a : Act} {w : World} {K : Act → World → Prop} {Q : Exit → Act → World → Prop} {E : Prop}
    (hg : o.guard = none) (d x : Operand) (hop : o.op = Op.call { callee := Callee.builtin Builtin.copy, args := #[d, x], argTypes := #[54, 55] })
    (g : Nat) (p : Option Addr) (cap : Nat) (xs : List Nat) (kx : Nat) (hk : kx = Nat.min xs.length 4) (hd : a.eval d = .slice (some ⟨g, 0, none⟩) 4 4) (hx : a.eval x = .slice p xs.length cap) (hn : Nt w p xs) (hr : Room w g 4)
    (hK : ∀ w2, Hid (w2 = w.setCells g 0 (u64s (xs.take 4))) → K (a.put o.dst (.int .i64 (kx : Nat))) w2) :
    if Region.wanted o (yielded ops a.tmps) = true then Oper.wp Tryz.prog o a w K Q else E := by
  refine step_copy_runI hg d x _ _ hop _ _ hd hx (copy_run w _ g p cap xs hn hr) ?_
  rw [← hk]
  exact hK _ rfl

/-- The first four words, with zeros for those that are not there. -/
abbrev four (xs : List Nat) : List Nat := [wat xs 0, wat xs 1, wat xs 2, wat xs 3]
theorem four_eq : ∀ xs : List Nat, xs.take 4 ++ (List.replicate 4 0).drop (xs.take 4).length = four xs
  | [] => rfl
  | [_] => rfl
  | [_, _] => rfl
  | [_, _, _] => rfl
  | _ :: _ :: _ :: _ :: _ => rfl
theorem wv_four : ∀ xs : List Nat, wv xs = vblk (wat xs 0) (wat xs 1) (wat xs 2) (wat xs 3) + two256 * wv (xs.drop 4)
  | [] => rfl
  | [a] => by simp [wv, vblk, wat, two256]
  | [a, b] => by simp [wv, vblk, wat, two256]
  | [a, b, c] => by simp [wv, vblk, wat, two256]
  | a :: b :: c :: d :: r => by simp [wv, vblk, wat, two256]; omega
theorem wat_lt {xs : List Nat} (h : Ok xs) (j : Nat) : wat xs j < 18446744073709551616 := h.getD j
theorem Nt.touch' {w w' : World} {b off n : Nat} {p : Option Addr} {xs : List Nat} (h : Nt w p xs) (ht : Touch w w' b off n) (hne : xs ≠ [] → ∀ a, p = some a → a.block ≠ b) : Nt w' p xs := by
  by_cases h0 : xs = []
  · exact .inl h0
  · exact h.touch ht (hne h0)
/-- Two new arrays of four zeros, behind one draw. -/
def arrs (wr : World) : World := ((wr.alloc (.cells #[.int .u64 0, .int .u64 0, .int .u64 0, .int .u64 0] 82)).alloc (.cells #[.int .u64 0, .int .u64 0, .int .u64 0, .int .u64 0] 82)).drew
theorem zeros4 : (#[.int .u64 0, .int .u64 0, .int .u64 0, .int .u64 0] : Array Value) = zerosU 4 := by kernel_rfl
theorem arrs_below (wr : World) : Below wr.heap.size wr (arrs wr) := (((Below.refl _ _).alloc (Nat.le_refl _) _).alloc (by simp) _).drew
theorem arrs_size (wr : World) : (arrs wr).heap.size = wr.heap.size + 2 := by simp [arrs]
theorem arrs_row1 (wr : World) : Row (arrs wr) wr.heap.size 0 (List.replicate 4 0) := by
  have h := row_zeros wr 4 82
  rw [← zeros4] at h
  exact h.below (B := wr.heap.size + 1) (((Below.refl _ _).alloc (by simp) _).drew) (by omega)
theorem arrs_row2 (wr : World) : Row (arrs wr) (wr.heap.size + 1) 0 (List.replicate 4 0) := by
  have h := row_zeros (wr.alloc (.cells #[.int .u64 0, .int .u64 0, .int .u64 0, .int .u64 0] 82)) 4 82
  rw [← zeros4] at h
  have e : (wr.alloc (.cells #[.int .u64 0, .int .u64 0, .int .u64 0, .int .u64 0] 82)).heap.size = wr.heap.size + 1 := by simp
  rw [e] at h
  exact h.below (B := wr.heap.size + 2) ((Below.refl _ _).drew) (by omega)
theorem Row.room {W : World} {g n : Nat} {xs : List Nat} (h : Row W g 0 xs) (hn : xs.length = n) : Room W g n := fun j hj => by
  have := h j (by omega)
  rw [Nat.zero_add] at this
  exact ⟨by rw [this.1]; rfl, this.2⟩
theorem nt_setCells {W : World} {g o : Nat} {p : Option Addr} {xs : List Nat} {vs : List Value} {w : World} (h : Nt w p xs) (hb : Below w.heap.size w W) (hg : w.heap.size ≤ g) : Nt (W.setCells g o vs) p xs :=
  (h.below hb).touch' (touch_setCells g vs o W) (fun hne a ha => by
    rcases h with h0 | ⟨b, off, rfl, hr⟩
    · exact absurd h0 hne
    · cases ha
      have := hr.lt (List.length_pos_iff.2 hne)
      show b ≠ g
      omega)

/-- What stands behind both copies. -/
theorem copied {w wr w2 w3 : World} {p q : Option Addr} {xs ys : List Nat} (_hx : Nt w p xs) (_hy : Nt w q ys) (_hb : Below w.heap.size w wr)
    (h2 : w2 = (arrs wr).setCells wr.heap.size 0 (u64s (xs.take 4))) (h3 : w3 = w2.setCells (wr.heap.size + 1) 0 (u64s (ys.take 4))) :
    Row w3 wr.heap.size 0 (four xs) ∧ Row w3 (wr.heap.size + 1) 0 (four ys) ∧ Below wr.heap.size wr w3 ∧ wr.heap.size + 2 ≤ w3.heap.size := by
  have r1 : Row w2 wr.heap.size 0 (four xs) := by
    rw [h2, ← four_eq]; exact row_setCells (arrs_row1 wr) (by simp; omega)
  have t2 : Touch (arrs wr) w2 wr.heap.size 0 (u64s (xs.take 4)).length := by rw [h2]; exact touch_setCells _ _ _ _
  have r2 : Row w2 (wr.heap.size + 1) 0 (List.replicate 4 0) := (arrs_row2 wr).touch t2 (by omega)
  have t3 : Touch w2 w3 (wr.heap.size + 1) 0 (u64s (ys.take 4)).length := by rw [h3]; exact touch_setCells _ _ _ _
  have sz := arrs_size wr
  have s2 := t2.grown.size
  have s3 := t3.grown.size
  refine ⟨r1.touch t3 (by omega), ?_, ?_, by omega⟩
  · rw [h3, ← four_eq]; exact row_setCells r2 (by simp; omega)
  · exact touch_below (touch_below (arrs_below wr) t2 (by omega) (Nat.le_refl _)) t3 (by omega) (by omega)
end Go.Proofs.YtmbnkokcpmkpgaaGreatDoor
