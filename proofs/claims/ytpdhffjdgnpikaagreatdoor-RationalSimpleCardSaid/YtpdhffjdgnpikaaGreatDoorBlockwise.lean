/- The contracts of block.plus and block.minus. Cutting a slice of words, copying up to four words into an array, and what these leave. The contract of slices.Clone at the words of a number. The contract of bigint.blockwise, for block.plus. -/
import Derived.Test.YtpdhffjdgnpikaaGreatDoorMul
import Derived.Laws.IdiomCopy
import Derived.Laws.CopyRow
import Derived.Shelf.Spec.SlicesInsert
import Derived.ArgAppend
import Derived.Lib.SliceRun
import Derived.WalkLawsBesides
import Derived.Deep.CutRange
import Derived.Deep.CutBlock
import Derived.Deep.RegionLaw
import Derived.Shelf.RegionOpen
namespace Go.Proofs.YtpdhffjdgnpikaaGreatDoor
open Go.RowKit

/-- Four words as a value. -/
abbrev blk (a b c d : Nat) : Value := .agg #[.int .u64 (a : Nat), .int .u64 (b : Nat), .int .u64 (c : Nat), .int .u64 (d : Nat)]

/-- The value of four words. -/
def vblk (a b c d : Nat) : Nat := a + 18446744073709551616 * (b + 18446744073709551616 * (c + 18446744073709551616 * d))

/-- 2^256. -/
def two256 : Nat := 115792089237316195423570985008687907853269984665640564039457584007913129639936

theorem idx (y0 y1 y2 y3 : Value) (w : World) :
    (Instr.index 133 (.agg #[y0, y1, y2, y3]) (.int .i64 0)).run Tryz.prog w = .ok y0 w ∧ (Instr.index 133 (.agg #[y0, y1, y2, y3]) (.int .i64 1)).run Tryz.prog w = .ok y1 w ∧
    (Instr.index 133 (.agg #[y0, y1, y2, y3]) (.int .i64 2)).run Tryz.prog w = .ok y2 w ∧ (Instr.index 133 (.agg #[y0, y1, y2, y3]) (.int .i64 3)).run Tryz.prog w = .ok y3 w :=
  ⟨by kernel_rfl, by kernel_rfl, by kernel_rfl, by kernel_rfl⟩

set_option maxHeartbeats 1000000 in
set_option maxRecDepth 100000 in
theorem plus_any (x0 x1 x2 x3 y0 y1 y2 y3 c : Nat) (w : World) (hx0 : x0 < 18446744073709551616) (hx1 : x1 < 18446744073709551616) (hx2 : x2 < 18446744073709551616) (hx3 : x3 < 18446744073709551616)
    (hy0 : y0 < 18446744073709551616) (hy1 : y1 < 18446744073709551616) (hy2 : y2 < 18446744073709551616) (hy3 : y3 < 18446744073709551616) (hc : c ≤ 1) :
    Calls Tryz.prog 158 #[blk x0 x1 x2 x3, blk y0 y1 y2 y3, .int .u64 c] w fun e w' => ∃ s0 s1 s2 s3 d : Nat, e = .returned (.tuple #[blk s0 s1 s2 s3, .int .u64 d]) ∧
      s0 < 18446744073709551616 ∧ s1 < 18446744073709551616 ∧ s2 < 18446744073709551616 ∧ s3 < 18446744073709551616 ∧ d ≤ 1 ∧
      vblk s0 s1 s2 s3 + two256 * d = vblk x0 x1 x2 x3 + vblk y0 y1 y2 y3 + c ∧ Below w.heap.size w w' := by
  obtain ⟨s0, c0, e0, l0, k0, r0⟩ := add64_ex x0 y0 c hx0 hy0 hc
  obtain ⟨s1, c1, e1, l1, k1, r1⟩ := add64_ex x1 y1 c0 hx1 hy1 k0
  obtain ⟨s2, c2, e2, l2, k2, r2⟩ := add64_ex x2 y2 c1 hx2 hy2 k1
  obtain ⟨s3, c3, e3, l3, k3, r3⟩ := add64_ex x3 y3 c2 hx3 hy3 k2
  have HE : s0 < 18446744073709551616 ∧ s1 < 18446744073709551616 ∧ s2 < 18446744073709551616 ∧ s3 < 18446744073709551616 ∧ c3 ≤ 1 ∧
      vblk s0 s1 s2 s3 + two256 * c3 = vblk x0 x1 x2 x3 + vblk y0 y1 y2 y3 + c := by
    refine ⟨l0, l1, l2, l3, k3, ?_⟩
    unfold vblk two256
    omega
  have HH := Lib.hid HE
  have i0 := fun w => (idx (.int .u64 (y0 : Nat)) (.int .u64 (y1 : Nat)) (.int .u64 (y2 : Nat)) (.int .u64 (y3 : Nat)) w).1
  have i1 := fun w => (idx (.int .u64 (y0 : Nat)) (.int .u64 (y1 : Nat)) (.int .u64 (y2 : Nat)) (.int .u64 (y3 : Nat)) w).2.1
  have i2 := fun w => (idx (.int .u64 (y0 : Nat)) (.int .u64 (y1 : Nat)) (.int .u64 (y2 : Nat)) (.int .u64 (y3 : Nat)) w).2.2.1
  have i3 := fun w => (idx (.int .u64 (y0 : Nat)) (.int .u64 (y1 : Nat)) (.int .u64 (y2 : Nat)) (.int .u64 (y3 : Nat)) w).2.2.2
  clear HE e0 e1 e2 e3 l0 l1 l2 l3 k0 k1 k2 k3 hx0 hx1 hx2 hx3 hy0 hy1 hy2 hy3 hc
  go_enter Tryz.func158, Tryz.ntmps158
  go_wp2_with fail
  refine wp_loop_rounds 5 ?_
  rw [rounds_succ]
  go_wp2_with fail
  rw [rounds_succ]
  go_wp2_with fail
  rw [rounds_succ]
  go_wp2_with fail
  rw [rounds_succ]
  go_wp2_with fail
  rw [rounds_succ]
  go_wp2_with fail
  refine bodyPost_ret (v := .tuple #[blk s0 s1 s2 s3, .int .u64 c3]) (by simp [results, Tryz.results158, go_sem]) rfl ⟨s0, s1, s2, s3, c3, rfl, HH.out.1, HH.out.2.1, HH.out.2.2.1, HH.out.2.2.2.1, HH.out.2.2.2.2.1, HH.out.2.2.2.2.2, ?_⟩
  exact ((((Below.refl _ _).alloc (Nat.le_refl _) _).alloc (by simp) _).alloc (by simp; omega) _).alloc (by simp; omega) _

set_option maxHeartbeats 1000000 in
set_option maxRecDepth 100000 in
theorem minus_any (x0 x1 x2 x3 y0 y1 y2 y3 c : Nat) (w : World) (hx0 : x0 < 18446744073709551616) (hx1 : x1 < 18446744073709551616) (hx2 : x2 < 18446744073709551616) (hx3 : x3 < 18446744073709551616)
    (hy0 : y0 < 18446744073709551616) (hy1 : y1 < 18446744073709551616) (hy2 : y2 < 18446744073709551616) (hy3 : y3 < 18446744073709551616) (hc : c ≤ 1) :
    Calls Tryz.prog 159 #[blk x0 x1 x2 x3, blk y0 y1 y2 y3, .int .u64 c] w fun e w' => ∃ s0 s1 s2 s3 d : Nat, e = .returned (.tuple #[blk s0 s1 s2 s3, .int .u64 d]) ∧
      s0 < 18446744073709551616 ∧ s1 < 18446744073709551616 ∧ s2 < 18446744073709551616 ∧ s3 < 18446744073709551616 ∧ d ≤ 1 ∧
      vblk x0 x1 x2 x3 + two256 * d = vblk s0 s1 s2 s3 + vblk y0 y1 y2 y3 + c ∧ Below w.heap.size w w' := by
  obtain ⟨s0, c0, e0, l0, k0, r0⟩ := sub64_ex x0 y0 c hx0 hy0 hc
  obtain ⟨s1, c1, e1, l1, k1, r1⟩ := sub64_ex x1 y1 c0 hx1 hy1 k0
  obtain ⟨s2, c2, e2, l2, k2, r2⟩ := sub64_ex x2 y2 c1 hx2 hy2 k1
  obtain ⟨s3, c3, e3, l3, k3, r3⟩ := sub64_ex x3 y3 c2 hx3 hy3 k2
  have HE : s0 < 18446744073709551616 ∧ s1 < 18446744073709551616 ∧ s2 < 18446744073709551616 ∧ s3 < 18446744073709551616 ∧ c3 ≤ 1 ∧
      vblk x0 x1 x2 x3 + two256 * c3 = vblk s0 s1 s2 s3 + vblk y0 y1 y2 y3 + c := by
    refine ⟨l0, l1, l2, l3, k3, ?_⟩
    unfold vblk two256
    omega
  have HH := Lib.hid HE
  have i0 := fun w => (idx (.int .u64 (y0 : Nat)) (.int .u64 (y1 : Nat)) (.int .u64 (y2 : Nat)) (.int .u64 (y3 : Nat)) w).1
  have i1 := fun w => (idx (.int .u64 (y0 : Nat)) (.int .u64 (y1 : Nat)) (.int .u64 (y2 : Nat)) (.int .u64 (y3 : Nat)) w).2.1
  have i2 := fun w => (idx (.int .u64 (y0 : Nat)) (.int .u64 (y1 : Nat)) (.int .u64 (y2 : Nat)) (.int .u64 (y3 : Nat)) w).2.2.1
  have i3 := fun w => (idx (.int .u64 (y0 : Nat)) (.int .u64 (y1 : Nat)) (.int .u64 (y2 : Nat)) (.int .u64 (y3 : Nat)) w).2.2.2
  clear HE e0 e1 e2 e3 l0 l1 l2 l3 k0 k1 k2 k3 hx0 hx1 hx2 hx3 hy0 hy1 hy2 hy3 hc
  go_enter Tryz.func159, Tryz.ntmps159
  go_wp2_with fail
  refine wp_loop_rounds 5 ?_
  rw [rounds_succ]
  go_wp2_with fail
  rw [rounds_succ]
  go_wp2_with fail
  rw [rounds_succ]
  go_wp2_with fail
  rw [rounds_succ]
  go_wp2_with fail
  rw [rounds_succ]
  go_wp2_with fail
  refine bodyPost_ret (v := .tuple #[blk s0 s1 s2 s3, .int .u64 c3]) (by simp [results, Tryz.results159, go_sem]) rfl ⟨s0, s1, s2, s3, c3, rfl, HH.out.1, HH.out.2.1, HH.out.2.2.1, HH.out.2.2.2.1, HH.out.2.2.2.2.1, HH.out.2.2.2.2.2, ?_⟩
  exact ((((Below.refl _ _).alloc (Nat.le_refl _) _).alloc (by simp) _).alloc (by simp; omega) _).alloc (by simp; omega) _
end Go.Proofs.YtpdhffjdgnpikaaGreatDoor

namespace Go.Proofs.YtpdhffjdgnpikaaGreatDoor
open Go.RowKit Go.Shelf

/-- Where x[k:] begins. -/
def dropP (p : Option Addr) (cap k : Nat) : Option Addr := if cap = k then p else p.map (·.add k)
theorem size_u64 (w : World) : (Go.sizeOf 85).run Tryz.prog w = .ok 1 w := by
  obtain ⟨i0, hi0, hz0, hz1, hz2⟩ := info_parts infoU
  simp [Go.sizeOf, typeInfo, hi0, hz1]
theorem tail_run (p : Option Addr) (n cap k : Nat) (hk : k ≤ n) (W : World) :
    (Instr.slice 90 (.slice p n cap) (some (.int .i64 (k : Int))) none none).run Tryz.prog W = .ok (.slice (dropP p cap k) (n - k) (cap - k)) W := by
  have ht : Tryz.prog.underlying 90 = some (.slice 85) := Tryz.underlying90
  have ht' : Tryz.prog.underlying 90 = some (.slice (Tryz.prog.elem 90)) := by simp [Program.elem, ht]
  have he : Tryz.prog.elem 90 = 85 := by simp [Program.elem, ht]
  rw [run_slice_l W 90 _ _ _ ht' .i64 _ (by omega) (by omega), he, size_u64]
  simp [Result.andThen, sliced, dropP]
theorem Nt.tail {w : World} {p : Option Addr} {xs : List Nat} {cap k : Nat} (h : Nt w p xs) (hc : xs.length ≤ cap) (hk : k ≤ xs.length) : Nt w (dropP p cap k) (xs.drop k) := by
  by_cases hkk : k = xs.length
  · exact .inl (List.drop_eq_nil_of_le (by omega))
  · rcases h with h | ⟨b, off, rfl, h⟩
    · rw [h] at hk hkk; simp at hk hkk; omega
    · refine .inr ⟨b, off + k, ?_, h.drop k hk⟩
      unfold dropP
      rw [if_neg (by omega), Option.map_some, Addr.add_lit]

def u64s (l : List Nat) : List Value := l.map fun c => .int .u64 (c : Nat)
theorem u64s_length (l : List Nat) : (u64s l).length = l.length := by simp [u64s]
theorem u64s_one (l : List Nat) : ∀ v ∈ u64s l, v.oneCell' = true := by
  intro v hv
  obtain ⟨c, _, rfl⟩ := List.mem_map.1 hv
  rfl
theorem row_setCells {W : World} {g off : Nat} {ts us : List Nat} (h : Row W g off ts) (hl : us.length ≤ ts.length) : Row (W.setCells g off (u64s us)) g off (us ++ ts.drop us.length) := by
  intro j hj
  rw [List.length_append, List.length_drop] at hj
  rw [World.frozen?_setCells]
  refine ⟨?_, (h j (by omega)).2⟩
  by_cases hjl : j < us.length
  · have := World.cell?_setCells_in g (u64s us) off W (fun i hi => by rw [(h i (by rw [u64s_length] at hi; omega)).1]; rfl) j (by rw [u64s_length]; omega)
    rw [this, List.getD_eq_getElem?_getD, List.getElem?_append_left hjl]
    simp only [u64s, List.getElem_map]
    rw [List.getElem?_eq_getElem hjl]; rfl
  · rw [World.cell?_setCells_out _ _ _ _ _ (fun _ _ => .inr (by rw [u64s_length]; show off + us.length ≤ off + j; omega))]
    rw [(h j (by omega)).1, List.getD_eq_getElem?_getD, List.getD_eq_getElem?_getD, List.getElem?_append_right (by omega), List.getElem?_drop]
    rw [show us.length + (j - us.length) = j by omega]
theorem row_push {W : World} {g cap : Nat} {rs us : List Nat} (h : Row W g 0 rs) (hr : Room W g cap) (hc : rs.length + us.length ≤ cap) : Row (W.setCells g rs.length (u64s us)) g 0 (rs ++ us) := by
  intro j hj
  rw [List.length_append] at hj
  rw [World.frozen?_setCells, Nat.zero_add]
  refine ⟨?_, (hr j (by omega)).2⟩
  by_cases hjl : j < rs.length
  · rw [World.cell?_setCells_out _ _ _ _ _ (fun _ _ => .inl hjl), List.getD_eq_getElem?_getD, List.getElem?_append_left hjl, ← List.getD_eq_getElem?_getD]
    have := (h j hjl).1
    rwa [Nat.zero_add] at this
  · have := World.cell?_setCells_in g (u64s us) rs.length W (fun i hi => (hr (rs.length + i) (by rw [u64s_length] at hi; omega)).1) (j - rs.length) (by rw [u64s_length]; omega)
    rw [show rs.length + (j - rs.length) = j by omega] at this
    rw [this, List.getD_eq_getElem?_getD, List.getElem?_append_right (by omega)]
    simp only [u64s, List.getElem_map]
    rw [List.getElem?_eq_getElem (by omega)]; rfl

theorem copy_run (w : World) (ty : TypeId) (g : Nat) (p : Option Addr) (cap : Nat) (xs : List Nat) (hx : Nt w p xs) (hr : Room w g 4) :
    (Builtin.copy_ #[89, 90] ty #[.slice (some ⟨g, 0, none⟩) 4 4, .slice p xs.length cap]).run Tryz.prog w = .ok (goInt (Nat.min xs.length 4)) (w.setCells g 0 (u64s (xs.take 4))) := by
  have hu : Tryz.prog.underlying 89 = some (.slice 85) := Tryz.underlying89
  have hs : (Tryz.prog.info? 85).map (·.size) = some 1 := by kernel_rfl
  rcases hx with rfl | ⟨b, off, rfl, hx⟩
  · exact run_copy_none w _ _ _ _ _ _ _ _ _ _ hu hs rfl
  · have hl : (u64s (xs.take 4)).length = Nat.min xs.length 4 := by rw [u64s_length, List.length_take, Nat.min_comm]
    have := run_copy_cells (P := Tryz.prog) w 89 90 ty 85 g 0 4 4 ⟨b, off, none⟩ xs.length cap (u64s (xs.take 4)) hu hs hl
      (fun j v hv => by
        rw [Addr.add_lit]
        unfold u64s at hv
        rw [List.getElem?_map, List.getElem?_take] at hv
        split at hv
        · obtain ⟨c, hc, rfl⟩ := Option.map_eq_some_iff.1 hv
          obtain ⟨hj, rfl⟩ := List.getElem?_eq_some_iff.1 hc
          rw [(hx j hj).1, List.getD_eq_getElem?_getD, hc]; rfl
        · cases hv)
      (fun j hj => by rw [Nat.zero_add]; exact (hr j (by exact Nat.lt_of_lt_of_le (show j < Nat.min xs.length 4 by rw [← hl]; exact hj) (Nat.min_le_right _ _))).1)
      (fun j hj => by rw [Nat.zero_add]; exact (hr j (by exact Nat.lt_of_lt_of_le (show j < Nat.min xs.length 4 by rw [← hl]; exact hj) (Nat.min_le_right _ _))).2) (u64s_one _)
    rw [hl] at this
    exact this

/-- The copy as a step of a region that draws its order; the world behind it is a variable. -/
theorem copy_step {ops : Array Oper} {o : Oper} {a : Act} {w : World} {K : Act → World → Prop} {Q : Exit → Act → World → Prop} {E : Prop}
    (hg : o.guard = none) (d x : Operand) (hop : o.op = Op.call { callee := Callee.builtin Builtin.copy, args := #[d, x], argTypes := #[89, 90] })
    (g : Nat) (p : Option Addr) (cap : Nat) (xs : List Nat) (kx : Nat) (hk : kx = Nat.min xs.length 4) (hd : a.eval d = .slice (some ⟨g, 0, none⟩) 4 4) (hx : a.eval x = .slice p xs.length cap) (hn : Nt w p xs) (hr : Room w g 4)
    (hK : ∀ w2, Hid (w2 = w.setCells g 0 (u64s (xs.take 4))) → K (a.put o.dst (.int .i64 (kx : Nat))) w2) :
    if Region.wanted o (yielded ops a.tmps) = true then Oper.wp Tryz.prog o a w K Q else E := by
  refine step_copy_runI hg d x _ _ hop _ _ hd hx (copy_run w _ g p cap xs hn hr) ?_
  rw [← hk]
  exact hK _ rfl

/-- The first four words, with zeros for those that are not there. -/
abbrev four (xs : List Nat) : List Nat := [wat xs 0, wat xs 1, wat xs 2, wat xs 3]
theorem four_eq : ∀ xs : List Nat, xs.take 4 ++ (List.replicate 4 0).drop (xs.take 4).length = four xs
  | [] => rfl
  | [_] => rfl
  | [_, _] => rfl
  | [_, _, _] => rfl
  | _ :: _ :: _ :: _ :: _ => rfl
theorem wv_four : ∀ xs : List Nat, wv xs = vblk (wat xs 0) (wat xs 1) (wat xs 2) (wat xs 3) + two256 * wv (xs.drop 4)
  | [] => rfl
  | [a] => by simp [wv, vblk, wat, two256]
  | [a, b] => by simp [wv, vblk, wat, two256]
  | [a, b, c] => by simp [wv, vblk, wat, two256]
  | a :: b :: c :: d :: r => by simp [wv, vblk, wat, two256]; omega
theorem wat_lt {xs : List Nat} (h : Ok xs) (j : Nat) : wat xs j < 18446744073709551616 := h.getD j
theorem Nt.touch' {w w' : World} {b off n : Nat} {p : Option Addr} {xs : List Nat} (h : Nt w p xs) (ht : Touch w w' b off n) (hne : xs ≠ [] → ∀ a, p = some a → a.block ≠ b) : Nt w' p xs := by
  by_cases h0 : xs = []
  · exact .inl h0
  · exact h.touch ht (hne h0)
/-- Two new arrays of four zeros, behind one draw. -/
def arrs (wr : World) : World := ((wr.alloc (.cells #[.int .u64 0, .int .u64 0, .int .u64 0, .int .u64 0] 133)).alloc (.cells #[.int .u64 0, .int .u64 0, .int .u64 0, .int .u64 0] 133)).drew
theorem zeros4 : (#[.int .u64 0, .int .u64 0, .int .u64 0, .int .u64 0] : Array Value) = zerosU 4 := by kernel_rfl
theorem arrs_below (wr : World) : Below wr.heap.size wr (arrs wr) := (((Below.refl _ _).alloc (Nat.le_refl _) _).alloc (by simp) _).drew
theorem arrs_size (wr : World) : (arrs wr).heap.size = wr.heap.size + 2 := by simp [arrs]
theorem arrs_row1 (wr : World) : Row (arrs wr) wr.heap.size 0 (List.replicate 4 0) := by
  have h := row_zeros wr 4 133
  rw [← zeros4] at h
  exact h.below (B := wr.heap.size + 1) (((Below.refl _ _).alloc (by simp) _).drew) (by omega)
theorem arrs_row2 (wr : World) : Row (arrs wr) (wr.heap.size + 1) 0 (List.replicate 4 0) := by
  have h := row_zeros (wr.alloc (.cells #[.int .u64 0, .int .u64 0, .int .u64 0, .int .u64 0] 133)) 4 133
  rw [← zeros4] at h
  have e : (wr.alloc (.cells #[.int .u64 0, .int .u64 0, .int .u64 0, .int .u64 0] 133)).heap.size = wr.heap.size + 1 := by simp
  rw [e] at h
  exact h.below (B := wr.heap.size + 2) ((Below.refl _ _).drew) (by omega)
theorem Row.room {W : World} {g n : Nat} {xs : List Nat} (h : Row W g 0 xs) (hn : xs.length = n) : Room W g n := fun j hj => by
  have := h j (by omega)
  rw [Nat.zero_add] at this
  exact ⟨by rw [this.1]; rfl, this.2⟩
theorem nt_setCells {W : World} {g o : Nat} {p : Option Addr} {xs : List Nat} {vs : List Value} {w : World} (h : Nt w p xs) (hb : Below w.heap.size w W) (hg : w.heap.size ≤ g) : Nt (W.setCells g o vs) p xs :=
  (h.below hb).touch' (touch_setCells g vs o W) (fun hne a ha => by
    rcases h with h0 | ⟨b, off, rfl, hr⟩
    · exact absurd h0 hne
    · cases ha
      have := hr.lt (List.length_pos_iff.2 hne)
      show b ≠ g
      omega)

/-- What stands behind both copies. -/
theorem copied {w wr w2 w3 : World} {p q : Option Addr} {xs ys : List Nat} (_hx : Nt w p xs) (_hy : Nt w q ys) (_hb : Below w.heap.size w wr)
    (h2 : w2 = (arrs wr).setCells wr.heap.size 0 (u64s (xs.take 4))) (h3 : w3 = w2.setCells (wr.heap.size + 1) 0 (u64s (ys.take 4))) :
    Row w3 wr.heap.size 0 (four xs) ∧ Row w3 (wr.heap.size + 1) 0 (four ys) ∧ Below wr.heap.size wr w3 ∧ wr.heap.size + 2 ≤ w3.heap.size := by
  have r1 : Row w2 wr.heap.size 0 (four xs) := by
    rw [h2, ← four_eq]; exact row_setCells (arrs_row1 wr) (by simp; omega)
  have t2 : Touch (arrs wr) w2 wr.heap.size 0 (u64s (xs.take 4)).length := by rw [h2]; exact touch_setCells _ _ _ _
  have r2 : Row w2 (wr.heap.size + 1) 0 (List.replicate 4 0) := (arrs_row2 wr).touch t2 (by omega)
  have t3 : Touch w2 w3 (wr.heap.size + 1) 0 (u64s (ys.take 4)).length := by rw [h3]; exact touch_setCells _ _ _ _
  have sz := arrs_size wr
  have s2 := t2.grown.size
  have s3 := t3.grown.size
  refine ⟨r1.touch t3 (by omega), ?_, ?_, by omega⟩
  · rw [h3, ← four_eq]; exact row_setCells r2 (by simp; omega)
  · exact touch_below (touch_below (arrs_below wr) t2 (by omega) (Nat.le_refl _)) t3 (by omega) (by omega)
end Go.Proofs.YtpdhffjdgnpikaaGreatDoor

namespace Go.Proofs.YtpdhffjdgnpikaaGreatDoor
open Go.RowKit Go.Shelf

/-- What an append of words to a slice that holds none leaves. -/
theorem own_row {w w' : World} {v : Value} {n : Nat} {xs : List Nat} (h : w'.ownsRow w.heap.size 85 1 v n (u64s xs)) (hg : w.grownBy w' none) (hn : n = xs.length) (h0 : 0 < xs.length) :
    ∃ g cap, v = .slice (some ⟨g, 0, none⟩) xs.length cap ∧ xs.length ≤ cap ∧ cap ≤ maxLen ∧ Row w' g 0 xs ∧ w.heap.size ≤ g ∧ g < w'.heap.size ∧ Below w.heap.size w w' := by
  obtain ⟨_, h⟩ := h
  rcases h with ⟨_, h⟩ | ⟨g, cap, cur, hv, hb, hheap, h1, h2, h3, h4⟩
  · omega
  · subst hn
    refine ⟨g, cap, hv, h1, h2, fun j hj => ?_, hb, (Array.getElem?_eq_some_iff.1 hheap).1, ⟨hg.os, hg.tape, hg.output, hg.size, fun k hk => hg.block k hk (by simp)⟩⟩
    have hj2 : (u64s xs)[j]? = some (.int .u64 (xs.getD j 0 : Nat)) := by
      unfold u64s
      rw [List.getElem?_map, List.getElem?_eq_getElem hj, List.getD_eq_getElem?_getD, List.getElem?_eq_getElem hj]; rfl
    rw [← h4, List.getElem?_take_of_lt (by omega)] at hj2
    constructor
    · simp only [World.cell?, hheap]
      simpa using hj2
    · simp only [World.frozen?, hheap]
      simp

set_option maxHeartbeats 1000000 in
set_option maxRecDepth 100000 in
theorem clone_any (b off cap : Nat) (xs : List Nat) (w : World) (hx : Row w b off xs) (h0 : 0 < xs.length) (hn : xs.length ≤ 1048576) :
    Calls Tryz.prog 154 #[.slice (some ⟨b, off, none⟩) xs.length cap] w fun e w' =>
      ∃ g cap', e = .returned (.slice (some ⟨g, 0, none⟩) xs.length cap') ∧ xs.length ≤ cap' ∧ cap' ≤ maxLen ∧ Row w' g 0 xs ∧ w.heap.size ≤ g ∧ g < w'.heap.size ∧ Below w.heap.size w w' := by
  have HX := Lib.hid hx
  have hnn : ∀ W : World, (binOp .eql 90 (.slice (some ⟨b, off, none⟩) xs.length cap) (.slice none 0 0)).run Tryz.prog W = .ok (.bool false) W := fun W => Lib.run_eql_slice_nil W 90 85 _ _ _ _ _ Tryz.underlying90
  clear hx
  go_enter Tryz.func154, Tryz.ntmps154
  obtain ⟨i0, hi0, hz0, hz1, hz2⟩ := info_parts infoU
  have hlt := HX.out.lt h0
  have hx2 : Row (w.alloc (.cells #[] 85)) b off xs := HX.out.below (B := w.heap.size) ((Below.refl _ _).alloc (Nat.le_refl _) _) hlt
  have HX2 := Lib.hid hx2
  have HI := Lib.hid (And.intro hi0 (And.intro hz0 (And.intro hz1 hz2)))
  clear hx2 hi0 hz0 hz1 hz2 hlt
  go_upto_region 3 with fail
  go_wp2_with (at_builtin; refine wpList_append_grows _ rfl (.tmp 5) (.tmp 6) 90 rfl 85 i0 (.int .u64 0) 1 8 Tryz.underlying90 HI.out.1 HI.out.2.1 HI.out.2.2.1 HI.out.2.2.2 rfl (by omega) (some ⟨w.heap.size, 0, none⟩) 0 0 [] rfl (by intro h; cases h) rfl (by intro _ _ j u h; simp at h) ⟨b, off, none⟩ xs.length cap (u64s xs) rfl (by rw [u64s_length, Nat.mul_one]) ?cc (u64s_one xs) (by omega) (by unfold maxLen; omega) (by omega) ?_)
  case cc =>
    intro j v hv
    rw [Addr.add_lit]
    unfold u64s at hv
    rw [List.getElem?_map] at hv
    obtain ⟨x, hx, rfl⟩ := Option.map_eq_some_iff.1 hv
    obtain ⟨hj, rfl⟩ := List.getElem?_eq_some_iff.1 hx
    rw [(HX2.out j hj).1, List.getD_eq_getElem?_getD, hx]; rfl
  intro v' w' hown hgr
  have hown2 : w'.ownsRow (w.alloc (.cells #[] 85)).heap.size 85 1 v' xs.length (u64s xs) := by rw [World.size_alloc]; exact hown
  have hfin := own_row hown2 hgr rfl h0
  obtain ⟨g, cap', rfl, p1, p2, p3, p4, p5, p6⟩ := hfin
  have HF := Lib.hid (And.intro p1 (And.intro p2 (And.intro p3 (And.intro p4 (And.intro p5 p6)))))
  clear hown hown2 hgr p1 p2 p3 p4 p5 p6
  go_wp2_with fail
  go_ret
  obtain ⟨p1, p2, p3, p4, p5, p6⟩ := HF.out
  rw [World.size_alloc] at p4 p6
  exact ⟨g, cap', rfl, p1, p2, p3, by omega, p5, ((Below.refl w.heap.size w).alloc (Nat.le_refl _) _).trans (p6.mono (by omega))⟩
end Go.Proofs.YtpdhffjdgnpikaaGreatDoor

namespace Go.Proofs.YtpdhffjdgnpikaaGreatDoor
open Go.RowKit Go.Shelf

/-- What the loop of blockwise keeps. -/
structure Rounds (w wr : World) (g cap : Nat) (sg V : Int) (p q : Option Addr) (cx cy : Nat) (xs ys rs : List Nat) (c : Nat) : Prop where
  nx : Nt w p xs
  ny : Nt w q ys
  ox : Ok xs
  oy : Ok ys
  or : Ok rs
  lx : xs.length ≤ cx
  ly : ys.length ≤ cy
  le : ys.length ≤ xs.length
  carry : c ≤ 1
  below : Below w.heap.size w wr
  size : w.heap.size < wr.heap.size
  row : Row wr g 0 rs
  room : Room wr g cap
  l1 : rs.length + xs.length + 1 ≤ cap
  l2 : 0 < xs.length → rs.length + xs.length + 4 ≤ cap
  val : (wv rs : Int) + (18446744073709551616 : Int) ^ rs.length * ((wv xs : Int) + sg * (wv ys : Int) + sg * (c : Int)) = V

theorem drop_min (xs : List Nat) : xs.drop (Nat.min xs.length 4) = xs.drop 4 := by
  have e : Nat.min xs.length 4 = min xs.length 4 := rfl
  by_cases h : 4 ≤ xs.length
  · rw [e, Nat.min_eq_right h]
  · rw [e, Nat.min_eq_left (by omega), List.drop_eq_nil_of_le (Nat.le_refl _), List.drop_eq_nil_of_le (by omega)]
theorem four_pow : (18446744073709551616 : Int) ^ 4 = (two256 : Int) := by decide

theorem Rounds.step {w wr w5 : World} {g cap : Nat} {sg V : Int} {p q : Option Addr} {cx cy : Nat} {xs ys rs : List Nat} {c kx ky s0 s1 s2 s3 d : Nat}
    (h : Rounds w wr g cap sg V p q cx cy xs ys rs c) (hlt : 0 < xs.length) (hg : g = w.heap.size) (hkx : kx = Nat.min xs.length 4) (hky : ky = Nat.min ys.length 4) (h5 : Below wr.heap.size wr w5)
    (hs : s0 < 18446744073709551616 ∧ s1 < 18446744073709551616 ∧ s2 < 18446744073709551616 ∧ s3 < 18446744073709551616 ∧ d ≤ 1)
    (hsg : (sg = 1 ∧ vblk s0 s1 s2 s3 + two256 * d = vblk (wat xs 0) (wat xs 1) (wat xs 2) (wat xs 3) + vblk (wat ys 0) (wat ys 1) (wat ys 2) (wat ys 3) + c) ∨
      (sg = -1 ∧ vblk (wat xs 0) (wat xs 1) (wat xs 2) (wat xs 3) + two256 * d = vblk s0 s1 s2 s3 + vblk (wat ys 0) (wat ys 1) (wat ys 2) (wat ys 3) + c)) :
    Rounds w (w5.setCells g rs.length (u64s [s0, s1, s2, s3])) g cap sg V (dropP p cx kx) (dropP q cy ky) (cx - kx) (cy - ky) (xs.drop 4) (ys.drop 4) (rs ++ [s0, s1, s2, s3]) d := by
  have hk1 : kx ≤ xs.length := by rw [hkx]; exact Nat.min_le_left _ _
  have hk2 : ky ≤ ys.length := by rw [hky]; exact Nat.min_le_left _ _
  have hm1 : Nat.min xs.length 4 = min xs.length 4 := rfl
  have hm2 : Nat.min ys.length 4 = min ys.length 4 := rfl
  have hlx := h.lx
  have hly := h.ly
  have hle := h.le
  have l1 := h.l1
  have l2 := h.l2 hlt
  have hsz := h.size
  have h5s := h5.size
  subst hg
  refine ⟨?_, ?_, h.ox.drop 4, h.oy.drop 4, h.or.append (Ok.cons hs.1 (Ok.cons hs.2.1 (Ok.cons hs.2.2.1 (Ok.cons hs.2.2.2.1 Ok.nil)))), ?_, ?_, ?_, hs.2.2.2.2, ?_, ?_, ?_, ?_, ?_, ?_, ?_⟩
  · have := h.nx.tail h.lx hk1
    rw [hkx, drop_min] at this
    rw [hkx]; exact this
  · have := h.ny.tail h.ly hk2
    rw [hky, drop_min] at this
    rw [hky]; exact this
  · rw [List.length_drop]; omega
  · rw [List.length_drop]; omega
  · rw [List.length_drop, List.length_drop]; omega
  · exact touch_below (h.below.trans (h5.mono (by omega))) (touch_setCells _ _ _ _) (by omega) (Nat.le_refl _)
  · have := (touch_setCells w.heap.size (u64s [s0, s1, s2, s3]) rs.length w5).grown.size
    omega
  · exact row_push (h.row.below h5 hsz) (h.room.below h5 hsz) (by simp; omega)
  · exact (h.room.below h5 hsz).setCells _ _ _ (by simp [u64s]; omega)
  · simp only [List.length_append, List.length_drop, List.length_cons, List.length_nil]; omega
  · simp only [List.length_append, List.length_drop, List.length_cons, List.length_nil]; omega
  · have e1 := wv_four xs
    have e2 := wv_four ys
    have e3 : wv [s0, s1, s2, s3] = vblk s0 s1 s2 s3 := by simp [wv, vblk]
    rw [wv_append, e3, List.length_append, show [s0, s1, s2, s3].length = 4 from rfl, Int.pow_add, four_pow, ← h.val, e1, e2]
    have key : (vblk s0 s1 s2 s3 : Int) + (two256 : Int) * ((wv (xs.drop 4) : Int) + sg * (wv (ys.drop 4) : Int) + sg * (d : Int)) =
        (((vblk (wat xs 0) (wat xs 1) (wat xs 2) (wat xs 3) + two256 * wv (xs.drop 4) : Nat) : Int) + sg * ((vblk (wat ys 0) (wat ys 1) (wat ys 2) (wat ys 3) + two256 * wv (ys.drop 4) : Nat) : Int) + sg * (c : Int)) := by
      rcases hsg with ⟨rfl, he⟩ | ⟨rfl, he⟩
      · unfold two256 at he ⊢; omega
      · unfold two256 at he ⊢; omega
    have e4 : ((wv rs + 18446744073709551616 ^ rs.length * vblk s0 s1 s2 s3 : Nat) : Int) = (wv rs : Int) + (18446744073709551616 : Int) ^ rs.length * (vblk s0 s1 s2 s3 : Int) := by
      rw [Int.natCast_add, Int.natCast_mul, Int.natCast_pow]; rfl
    rw [e4, ← key]
    generalize (wv (xs.drop 4) : Int) + sg * (wv (ys.drop 4) : Int) + sg * (d : Int) = T
    generalize (18446744073709551616 : Int) ^ rs.length = P
    rw [Int.mul_add, Int.mul_assoc, Int.add_assoc]

theorem Rounds.final {w wr : World} {g cap : Nat} {sg V : Int} {p q : Option Addr} {cx cy : Nat} {xs ys rs : List Nat} {c v : Nat} (h : Rounds w wr g cap sg V p q cx cy xs ys rs c) (h0 : xs.length = 0) (hV : V = (v : Nat)) (hsg : sg = 1 ∨ sg = -1) : wv (rs ++ [c]) = v := by
  have hy := h.le
  have hx : xs = [] := List.eq_nil_of_length_eq_zero h0
  have hy : ys = [] := List.eq_nil_of_length_eq_zero (by omega)
  have hval := h.val
  have hlt := wv_lt rs h.or
  have hc := h.carry
  rw [hx, hy, hV] at hval
  have hz : wv ([] : List Nat) = 0 := rfl
  rw [hz] at hval
  rw [wv_snoc]
  have hp : ((18446744073709551616 ^ rs.length : Nat) : Int) = (18446744073709551616 : Int) ^ rs.length := by rw [Int.natCast_pow]; rfl
  rw [← hp] at hval
  have : c = 0 ∨ c = 1 := by omega
  rcases this with rfl | rfl <;> rcases hsg with rfl | rfl <;> simp at hval ⊢ <;> omega

set_option maxHeartbeats 2000000 in
set_option maxRecDepth 100000 in
theorem blockwise_plus (p q : Option Addr) (cx cy : Nat) (xs ys : List Nat) (w : World) (hx : Nt w p xs) (hy : Nt w q ys) (hcx : xs.length ≤ cx) (hcy : ys.length ≤ cy) (hle : ys.length ≤ xs.length) (hn : xs.length ≤ 524288) (hox : Ok xs) (hoy : Ok ys) (V : Nat) (hV : (wv xs : Int) + 1 * (wv ys : Int) = (V : Int)) :
    Calls Tryz.prog 157 #[.slice p xs.length cx, .slice q ys.length cy, .func (.func 158) #[] #[]] w (NatRes w V) := by
  have hmk := make_cap (xs.length + 4) (by omega)
  rw [show ((xs.length + 4 : Nat) : Int) = (xs.length : Int) + 4 from rfl] at hmk
  have h0 : Rounds w (w.alloc (.cells (zerosU (xs.length + 4)) 85)) w.heap.size (xs.length + 4) 1 (V : Int) p q cx cy xs ys [] 0 :=
    ⟨hx, hy, hox, hoy, Ok.nil, hcx, hcy, hle, by omega, (Below.refl _ _).alloc (Nat.le_refl _) _, by simp, fun j hj => by simp at hj, room_zeros _ _ _, by simp, by simp, by simp [wv]; omega⟩
  have H0 := Lib.hid h0
  clear h0 hx hy hcx hcy hle hox hoy hV
  go_enter Tryz.func157, Tryz.ntmps157
  go_wp2_with fail
  go_loopw [0, 1, 7, 8] (fun a0 a1 a7 a8 wr => ∃ (p q : Option Addr) (cx cy : Nat) (xs' ys' rs : List Nat) (c : Nat), a0 = .slice p xs'.length cx ∧ a1 = .slice q ys'.length cy ∧ a7 = .slice (some ⟨w.heap.size, 0, none⟩) rs.length (xs.length + 4) ∧ a8 = .int .u64 c ∧ Rounds w wr w.heap.size (xs.length + 4) 1 (V : Int) p q cx cy xs' ys' rs c) (fun a0 _ _ _ _ => sliceLen a0)
  case atStart => exact ⟨p, q, cx, cy, xs, ys, [], 0, rfl, rfl, rfl, rfl, H0.out⟩
  case round =>
    obtain ⟨p, q, cx, cy, xs', ys', rs, c, rfl, rfl, rfl, rfl, hR⟩ := hrel
    have HR := Lib.hid hR
    have hc := hR.carry
    clear hR
    by_cases hlt : 0 < xs'.length
    · go_upto_region 5 with fail
      obtain ⟨kx, hkx⟩ : ∃ kx, kx = Nat.min xs'.length 4 := ⟨_, rfl⟩
      obtain ⟨ky, hky⟩ : ∃ ky, ky = Nat.min ys'.length 4 := ⟨_, rfl⟩
      have hkx1 : kx ≤ xs'.length := by rw [hkx]; exact Nat.min_le_left _ _
      have hky1 : ky ≤ ys'.length := by rw [hky]; exact Nat.min_le_left _ _
      have e1 : xs'.length - kx = xs'.length - 4 := by rw [hkx]; have : Nat.min xs'.length 4 = min xs'.length 4 := rfl; omega
      have e2 : ys'.length - ky = ys'.length - 4 := by rw [hky]; have : Nat.min ys'.length 4 = min ys'.length 4 := rfl; omega
      have tl1 := tail_run p xs'.length cx kx hkx1
      have tl2 := tail_run q ys'.length cy ky hky1
      rw [e1] at tl1
      rw [e2] at tl2
      have a1 : Nt (arrs wr) p xs' := HR.out.nx.below (HR.out.below.trans ((arrs_below wr).mono (by have := HR.out.size; omega)))
      have a2 : Room (arrs wr) wr.heap.size 4 := (arrs_row1 wr).room rfl
      have a3 : ∀ W2, Hid (W2 = (arrs wr).setCells wr.heap.size 0 (u64s (xs'.take 4))) → Nt W2 q ys' ∧ Room W2 (wr.heap.size + 1) 4 := fun W2 h => by
        have h2 := h.out
        subst h2
        exact ⟨nt_setCells HR.out.ny (HR.out.below.trans ((arrs_below wr).mono (by have := HR.out.size; omega))) (by have := HR.out.size; omega), ((arrs_row2 wr).touch (touch_setCells _ _ _ _) (by omega)).room rfl⟩
      have A1 := Lib.hid a1
      have A2 := Lib.hid a2
      have A3 := Lib.hid a3
      have HK1 := Lib.hid hkx
      have HK2 := Lib.hid hky
      clear hkx hky hkx1 hky1 e1 e2 a1 a2 a3
      go_cut [0, 1] from 18 to 27 (fun a0 a1 wc => a0 = .slice (dropP p cx kx) (xs'.length - 4) (cx - kx) ∧ a1 = .slice (dropP q cy ky) (ys'.length - 4) (cy - ky) ∧ Row wc wr.heap.size 0 (four xs') ∧ Row wc (wr.heap.size + 1) 0 (four ys') ∧ Below wr.heap.size wr wc ∧ wr.heap.size + 2 ≤ wc.heap.size)
      case first =>
        go_region_law (first
          | (refine copy_step rfl (.tmp 19) (.tmp 20) rfl wr.heap.size p cx xs' kx HK1.out rfl rfl A1.out A2.out ?_; intro w2 hw2)
          | (refine copy_step rfl (.tmp 24) (.tmp 25) rfl (wr.heap.size + 1) q cy ys' ky HK2.out rfl rfl (A3.out _ hw2).1 (A3.out _ hw2).2 ?_; intro w3 hw3))
        all_goals (go_wp2_with fail; go_meet)
        all_goals exact ⟨rfl, rfl, copied HR.out.nx HR.out.ny HR.out.below hw2.out hw3.out⟩
      case rest =>
        obtain ⟨rfl, rfl, hra, hrb, hbc, hsz⟩ := hcut
        have c0 : wc.cell? ⟨wr.heap.size, 0, none⟩ = some (.int .u64 (wat xs' 0 : Nat)) := (hra 0 (by simp)).1
        have c1 : wc.cell? ⟨wr.heap.size, 1, none⟩ = some (.int .u64 (wat xs' 1 : Nat)) := (hra 1 (by simp)).1
        have c2 : wc.cell? ⟨wr.heap.size, 2, none⟩ = some (.int .u64 (wat xs' 2 : Nat)) := (hra 2 (by simp)).1
        have c3 : wc.cell? ⟨wr.heap.size, 3, none⟩ = some (.int .u64 (wat xs' 3 : Nat)) := (hra 3 (by simp)).1
        have d0 : wc.cell? ⟨wr.heap.size + 1, 0, none⟩ = some (.int .u64 (wat ys' 0 : Nat)) := (hrb 0 (by simp)).1
        have d1 : wc.cell? ⟨wr.heap.size + 1, 1, none⟩ = some (.int .u64 (wat ys' 1 : Nat)) := (hrb 1 (by simp)).1
        have d2 : wc.cell? ⟨wr.heap.size + 1, 2, none⟩ = some (.int .u64 (wat ys' 2 : Nat)) := (hrb 2 (by simp)).1
        have d3 : wc.cell? ⟨wr.heap.size + 1, 3, none⟩ = some (.int .u64 (wat ys' 3 : Nat)) := (hrb 3 (by simp)).1
        have hp := plus_any (wat xs' 0) (wat xs' 1) (wat xs' 2) (wat xs' 3) (wat ys' 0) (wat ys' 1) (wat ys' 2) (wat ys' 3) c wc (wat_lt HR.out.ox _) (wat_lt HR.out.ox _) (wat_lt HR.out.ox _) (wat_lt HR.out.ox _) (wat_lt HR.out.oy _) (wat_lt HR.out.oy _) (wat_lt HR.out.oy _) (wat_lt HR.out.oy _) HR.out.carry
        have HP := Lib.hid hp
        have HA := Lib.hid hra
        have HC := Lib.hid (And.intro hbc hsz)
        clear hp hra hrb hbc hsz
        go_wp2_with fail
        refine HP.out.mono ?_
        rintro e w4 ⟨s0, s1, s2, s3, d, rfl, hs0, hs1, hs2, hs3, hd, heq, hb4⟩
        have HE := Lib.hid heq
        have HB4 := Lib.hid hb4
        have hr4 : Row w4 wr.heap.size 0 (four xs') := HA.out.below hb4 (by have := HC.out.2; omega)
        have k0 : w4.cell? ⟨wr.heap.size, 0, none⟩ = some (.int .u64 (wat xs' 0 : Nat)) := (hr4 0 (by simp)).1
        have k1 : w4.cell? ⟨wr.heap.size, 1, none⟩ = some (.int .u64 (wat xs' 1 : Nat)) := (hr4 1 (by simp)).1
        have k2 : w4.cell? ⟨wr.heap.size, 2, none⟩ = some (.int .u64 (wat xs' 2 : Nat)) := (hr4 2 (by simp)).1
        have k3 : w4.cell? ⟨wr.heap.size, 3, none⟩ = some (.int .u64 (wat xs' 3 : Nat)) := (hr4 3 (by simp)).1
        have f0 : w4.frozen? ⟨wr.heap.size, 0, none⟩ = false := (hr4 0 (by simp)).2
        have f1 : w4.frozen? ⟨wr.heap.size, 1, none⟩ = false := (hr4 1 (by simp)).2
        have f2 : w4.frozen? ⟨wr.heap.size, 2, none⟩ = false := (hr4 2 (by simp)).2
        have f3 : w4.frozen? ⟨wr.heap.size, 3, none⟩ = false := (hr4 3 (by simp)).2
        have HR4 := Lib.hid hr4
        clear hr4 heq hb4 c0 c1 c2 c3 d0 d1 d2 d3
        go_upto_region 7 with fail
        show Code.wp _ _ _ _ (w4.setCells wr.heap.size 0 (u64s [s0, s1, s2, s3]))
        generalize hw5 : w4.setCells wr.heap.size 0 (u64s [s0, s1, s2, s3]) = w5
        have rr : Row w5 wr.heap.size 0 [s0, s1, s2, s3] := by rw [← hw5]; exact row_setCells HR4.out (by simp)
        have b5 : Below wr.heap.size wr w5 := by
          have t5 : Touch w4 w5 wr.heap.size 0 (u64s [s0, s1, s2, s3]).length := by rw [← hw5]; exact touch_setCells _ _ _ _
          have h1 := HC.out.1
          have h2 := HB4.out
          exact touch_below (h1.trans (h2.mono (by have := HC.out.2; omega))) t5 (by have := h2.size; have := HC.out.2; omega) (Nat.le_refl _)
        have rg : Row w5 w.heap.size 0 rs := HR.out.row.below b5 HR.out.size
        have rm : Room w5 w.heap.size (xs.length + 4) := HR.out.room.below b5 HR.out.size
        have HS := Lib.hid (And.intro hs0 (And.intro hs1 (And.intro hs2 (And.intro hs3 hd))))
        have H5 := Lib.hid b5
        have HRR := Lib.hid rr
        have HRG := Lib.hid rg
        have HRM := Lib.hid rm
        have hroom : rs.length + 4 ≤ xs.length + 4 := by have := HR.out.l2 hlt; omega
        have HRO := Lib.hid hroom
        clear hw5 rr b5 rg rm k0 k1 k2 k3 f0 f1 f2 f3 hs0 hs1 hs2 hs3 hd hroom
        go_wp2_with (at_builtin; refine wpList_append_room1 _ rfl (.tmp 36) (.tmp 37) 90 89 rfl 85 _ 8 Tryz.underlying90 infoU w.heap.size 0 rs.length (xs.length + 4) rfl _ rfl 4 (u64s [s0, s1, s2, s3]) ?src ?room ?cc ?ff ?_)
        case src => exact Src.ofSlice _ Tryz.underlying89 ⟨wr.heap.size, 0, none⟩ 4 4 _ rfl (fun j v hv => by
          rw [Addr.add_lit]
          unfold u64s at hv
          rw [List.getElem?_map] at hv
          obtain ⟨x, hx, rfl⟩ := Option.map_eq_some_iff.1 hv
          obtain ⟨hj, rfl⟩ := List.getElem?_eq_some_iff.1 hx
          rw [(HRR.out j hj).1, List.getD_eq_getElem?_getD, hx]; rfl) (u64s_one _)
        case room => exact HRO.out
        case cc => intro j hj; rw [Nat.zero_add]; exact (HRM.out (rs.length + j) (by have := HRO.out; have : j < 4 := hj; omega)).1
        case ff => intro j hj; rw [Nat.zero_add]; exact (HRM.out (rs.length + j) (by have := HRO.out; have : j < 4 := hj; omega)).2
        have hst := HR.out.step hlt rfl HK1.out HK2.out H5.out HS.out (Or.inl ⟨rfl, HE.out⟩)
        refine ⟨⟨dropP p cx kx, dropP q cy ky, cx - kx, cy - ky, xs'.drop 4, ys'.drop 4, rs ++ [s0, s1, s2, s3], d, by rw [List.length_drop], by rw [List.length_drop], by rw [List.length_append]; rfl, rfl, hst⟩, ?_⟩
        simp only [sliceLen]
        omega
    · have hfin := HR.out.final (v := V) (by omega) rfl (Or.inl rfl)
      have hl1 := HR.out.l1
      have ho : Ok (rs ++ [c]) := HR.out.or.append (Ok.nil.cons (by omega))
      have HL := Lib.hid (And.intro hl1 (And.intro ho hfin))
      have hb9 : Below w.heap.size w (wr.alloc (.cells #[.int .u64 (c : Nat)] 85)) := HR.out.below.alloc (by have := HR.out.size; omega) _
      have rg : Row (wr.alloc (.cells #[.int .u64 (c : Nat)] 85)) w.heap.size 0 rs := HR.out.row.below (B := wr.heap.size) ((Below.refl _ _).alloc (Nat.le_refl _) _) HR.out.size
      have rm : Room (wr.alloc (.cells #[.int .u64 (c : Nat)] 85)) w.heap.size (xs.length + 4) := HR.out.room.below (B := wr.heap.size) ((Below.refl _ _).alloc (Nat.le_refl _) _) HR.out.size
      have HB9 := Lib.hid hb9
      have HRG := Lib.hid rg
      have HRM := Lib.hid rm
      have hrl : rs.length ≤ 524300 := by omega
      clear hl1 ho hfin hb9 rg rm hc
      go_wp2_with (at_builtin; refine wpList_append_room1 _ rfl (.tmp 39) (.tmp 41) 90 90 rfl 85 _ 8 Tryz.underlying90 infoU w.heap.size 0 rs.length (xs.length + 4) rfl _ rfl 1 (u64s [c]) ?src ?room ?cc ?ff ?_)
      case src => exact Src.ofSlice _ Tryz.underlying90 ⟨wr.heap.size, 0, none⟩ 1 1 _ rfl (cell_one_new _ _ _) (u64s_one _)
      case room => have := HL.out.1; omega
      case cc => intro j hj; rw [Nat.zero_add]; exact (HRM.out (rs.length + j) (by have := HL.out.1; have : j < 1 := hj; omega)).1
      case ff => intro j hj; rw [Nat.zero_add]; exact (HRM.out (rs.length + j) (by have := HL.out.1; have : j < 1 := hj; omega)).2
      have hr9 : Row ((wr.alloc (.cells #[.int .u64 (c : Nat)] 85)).setCells w.heap.size rs.length (u64s [c])) w.heap.size 0 (rs ++ [c]) := row_push HRG.out HRM.out (by have := HL.out.1; simp; omega)
      have hb10 : Below w.heap.size w ((wr.alloc (.cells #[.int .u64 (c : Nat)] 85)).setCells w.heap.size rs.length (u64s [c])) := touch_below HB9.out (touch_setCells _ _ _ _) (by have := HR.out.size; simp; omega) (Nat.le_refl _)
      have htr := trim_any (some ⟨w.heap.size, 0, none⟩) (rs ++ [c]) (xs.length + 4) _ (.inr ⟨_, _, rfl, hr9⟩) (by simp; omega) (by have := HL.out.1; simp; omega) (by unfold maxLen; omega)
      have hfin := natRes_trim (cap := xs.length + 4) HL.out.2.1 hr9 (by have := HL.out.1; simp; omega) (by unfold maxLen; omega) (Nat.le_refl _) hb10
      rw [HL.out.2.2] at hfin
      rw [List.length_append, List.length_singleton] at htr
      have HF := Lib.hid hfin
      have HTR := Lib.hid htr
      clear hr9 hb10 htr hfin
      refine HTR.out.mono ?_
      rintro e w2 ⟨rfl, rfl⟩
      go_wp2_with fail
      go_ret
      exact HF.out
end Go.Proofs.YtpdhffjdgnpikaaGreatDoor
