/- The contract of bigint.decimal. The contract of bigint.Print. -/
import Derived.Test.YtpdhffjdgnpikaaGreatDoorFrame
import Derived.Test.YtpdhffjdgnpikaaGreatDoorMul
import Derived.Lib.OthersKept
import Derived.Test.YtpdhffjdgnpikaaGreatDoorDiv64
import Derived.Test.YtpdhffjdgnpikaaGreatDoorBlockwise
import Derived.Deep.LoopGhost
import Derived.Outline
import Derived.Test.YtpdhffjdgnpikaaGreatDoorDiv
namespace Go.Proofs.YtpdhffjdgnpikaaGreatDoor
open Go.RowKit Go.Shelf

/-- A strings.Builder at block b that holds these bytes; its memory lies in blocks from B on. -/
def IsB (B b : Nat) (l : List UInt8) (w : World) : Prop := Lib.IsBuilderF 138 5 B b (Lib.byteCells l) w
theorem IsB.new (w : World) : IsB w.heap.size w.heap.size [] (w.alloc (.cells #[.pointer none, .slice none 0 0] 138)) := Lib.IsBuilderF.of (Lib.fresh_isBuilder _ _ w)
theorem isBAt_kept {T e : TypeId} {B b : Nat} {p : Value} {bs : List Value} {w w' : World} {row : Option Nat} (h : Lib.BuilderAtF T e B b p bs w) (hg : w.grownBy w' row) (hr : ∀ r, row = some r → ∃ o : Obj, w.heap[r]? = some o ∧ o.isCells = false) : Lib.BuilderAtF T e B b p bs w' := by
  have hlt := h.lt
  obtain ⟨hB, v, hb, hown, hne⟩ := h
  refine ⟨hB, v, ?_, hown.kept hg ?_, hne⟩
  · rw [hg.block b hlt (fun e' => by obtain ⟨o, ho, hc⟩ := hr b e'.symm; rw [hb] at ho; cases ho; simp [Obj.isCells] at hc)]
    exact hb
  · rcases hown.2 with ⟨rfl, _⟩ | ⟨g, cap, cur, fz, rfl, _, hgg, _⟩
    · exact .inl rfl
    · refine .inr fun e' => ?_
      obtain ⟨o, ho, hc⟩ := hr g e'.symm
      rw [hgg] at ho; cases ho; simp [Obj.isCells] at hc
theorem IsB.kept {B b : Nat} {l : List UInt8} {w w' : World} {row : Option Nat} (h : IsB B b l w) (hg : w.grownBy w' row) (hr : ∀ r, row = some r → ∃ o : Obj, w.heap[r]? = some o ∧ o.isCells = false) : IsB B b l w' :=
  h.elim (fun x => .inl (isBAt_kept x hg hr)) (fun x => .inr (isBAt_kept x hg hr))
theorem IsB.below {B b : Nat} {l : List UInt8} {w w' : World} (h : IsB B b l w) (hb : Below w.heap.size w w') : IsB B b l w' :=
  h.kept (row := none) ⟨hb.os, hb.tape, hb.output, hb.size, fun k hk _ => hb.block k hk⟩ (fun r e => by cases e)
theorem IsB.lt {B b : Nat} {l : List UInt8} {w : World} (h : IsB B b l w) : b < w.heap.size := h.elim (fun x => x.lt) (fun x => x.lt)

theorem writeString_any (B b : Nat) (l : List UInt8) (s : ByteArray) (w : World) (h : IsB B b l w) (hlen : l.length + s.size ≤ 140737488355328) (hBw : B ≤ w.heap.size) :
    Calls Tryz.prog 165 #[.pointer (some ⟨b, 0, none⟩), .string s] w fun e w' => e = .returned (.tuple #[.int .i64 s.size, .nilIface]) ∧ IsB B b (l ++ s.data.toList) w' ∧ Below B w w' ∧ Lib.OthersKept 5 (some b) w w' := by
  refine (Any.Builder_WriteString_k { Tryz.lays105 with } { Tryz.Builder_Extra_105 with } B b (Lib.byteCells l) s w h (by rw [Lib.byteCells_length]; exact hlen) hBw).mono ?_
  rintro e w' ⟨rfl, h1, h2, h3⟩
  refine ⟨rfl, ?_, h2, h3⟩
  unfold IsB
  rw [Lib.byteCells_append, ← Lib.strCells_eq]
  exact .inr h1
theorem others_keeps {e : TypeId} {b : Nat} {w w' : World} (h : Lib.OthersKept e (some b) w w') (hs : w.heap.size ≤ w'.heap.size) (hb : ∃ o : Obj, w.heap[b]? = some o ∧ o.isCells = true) (B : Nat) : KeepsFrom B w w' :=
  ⟨hs, fun k o _ hk ho => h k o hk (fun e' => by cases e'; obtain ⟨o', h1, h2⟩ := hb; rw [hk] at h1; cases h1; rw [ho] at h2; cases h2) (fun c fz e' => by subst e'; simp [Obj.isCells] at ho)⟩
theorem IsB.cells {B b : Nat} {l : List UInt8} {w : World} (h : IsB B b l w) : ∃ o : Obj, w.heap[b]? = some o ∧ o.isCells = true := by
  rcases h with h | h
  · obtain ⟨_, v, hb, _⟩ := h; exact ⟨_, hb, rfl⟩
  · obtain ⟨_, v, hb, _⟩ := h; exact ⟨_, hb, rfl⟩
theorem repeat48 : ∀ c : Nat, Lib.repeatL [48] c = List.replicate c 48
  | 0 => rfl
  | c + 1 => by rw [Lib.repeatL, repeat48 c, List.replicate_succ]; rfl
theorem repeat_zeros (c : Nat) (hc : c ≤ 1000) (w : World) :
    Calls Tryz.prog 166 #[.string ⟨#[48]⟩, .int .i64 c] w fun e w' => e = .returned (.string ⟨(List.replicate c 48).toArray⟩) ∧ Below w.heap.size w w' := by
  refine (Tryz.strings_Repeat ⟨#[48]⟩ c w (by omega) (by show 1 * c ≤ _; omega)).mono ?_
  rintro e w' ⟨rfl, hb⟩
  refine ⟨?_, hb⟩
  rw [show Lib.repeatL (⟨#[48]⟩ : ByteArray).data.toList c = List.replicate c 48 from repeat48 c]
end Go.Proofs.YtpdhffjdgnpikaaGreatDoor

namespace Go.Proofs.YtpdhffjdgnpikaaGreatDoor
open Go.RowKit Go.Shelf
attribute [local go_sem] Oper.semAt_some

theorem grown_more {w a b : World} {row row' : Option Nat} (h : w.grownBy a row) (k : a.grownBy b row') (hr : ∀ r, row' = some r → row = some r ∨ w.heap.size ≤ r) : w.grownBy b row :=
  ⟨k.os.trans h.os, k.tape.trans h.tape, k.output.trans h.output, Nat.le_trans h.size k.size, fun i hi hne =>
    (k.block i (Nat.lt_of_lt_of_le hi h.size) (fun e => by rcases hr i e.symm with h1 | h1; exact hne h1.symm; omega)).trans (h.block i hi hne)⟩
theorem tab_lt {w : World} (h : Tab w) : 5 < w.heap.size := by
  unfold Tab Lib.TabIs World.var? at h
  rw [show Tryz.prog.globalNamed "internal/strconv.uint64pow10" = some 5 by kernel_rfl] at h
  rcases Nat.lt_or_ge 5 w.heap.size with h' | h'
  · exact h'
  · simp only [Option.bind_some] at h
    rw [Array.getElem?_eq_none h'] at h; simp at h
theorem tab_kept {w w' : World} {row : Option Nat} (h : Tab w) (hg : w.grownBy w' row) (hr : row ≠ some 5) : Tab w' := by
  have hlt := tab_lt h
  unfold Tab Lib.TabIs World.var? at *
  rw [show Tryz.prog.globalNamed "internal/strconv.uint64pow10" = some 5 by kernel_rfl] at *
  simp only [Option.bind_some] at *
  rw [hg.block _ hlt (fun e => hr e.symm)]
  exact h
theorem tab_below {w w' : World} (h : Tab w) (hb : Below w.heap.size w w') : Tab w' :=
  tab_kept (row := none) h ⟨hb.os, hb.tape, hb.output, hb.size, fun k hk _ => hb.block k hk⟩ (by simp)
theorem chunk_step (n q r : Nat) (h : n = 10000000000000000000 * q + r) (hr : r < 10000000000000000000) : q = n / 10000000000000000000 ∧ r = n % 10000000000000000000 := by omega
theorem chunks_few {cs : List Nat} {n N : Nat} (h : cs ++ ch n = ch N) (hl : (nw N).length ≤ 131072) : cs.length ≤ 262144 := by
  have h1 := congrArg List.length h
  rw [List.length_append] at h1
  have h2 := wv_lt (nw N) (nw_ok N)
  rw [wv_nw] at h2
  have h3 := ch_words (nw N).length N h2
  omega
theorem grown_undrew {w w' : World} {row : Option Nat} (h : w.drew.grownBy w' row) : w.grownBy w' row := ⟨h.os, h.tape, h.output, h.size, h.block⟩
theorem Box.grownO {W W' : World} {B : Nat} {v : Value} {row : Option Nat} (h : Box B v W) (hg : W.grownBy W' row) (hne : ∀ r, row = some r → r ≠ B) : Box B v W' := by
  have hb := hg.block B h.lt (fun e => hne B e.symm rfl)
  exact ⟨(World.cell?_of_block (w := W) (a := ⟨B, 0, none⟩) hb).trans h.1, (World.frozen?_of_block (w := W) (a := ⟨B, 0, none⟩) hb).trans h.2⟩
theorem Row.grownO {W W' : World} {b off : Nat} {xs : List Nat} {row : Option Nat} (h : Row W b off xs) (hb : b < W.heap.size) (hg : W.grownBy W' row) (hne : ∀ r, row = some r → r ≠ b) : Row W' b off xs := fun j hj => by
  have hb := hg.block b hb (fun e => hne b e.symm rfl)
  rw [World.cell?_of_block (w := W) (a := ⟨b, off + j, none⟩) hb, World.frozen?_of_block (w := W) (a := ⟨b, off + j, none⟩) hb]
  exact h j hj
theorem one_cells (w2 : World) (r : Nat) (T : TypeId) : ∀ (j : Nat) (u : Value), [Value.int .u64 (r : Nat)][j]? = some u → (w2.alloc (Obj.cells #[Value.int .u64 (r : Nat)] T)).cell? ((⟨w2.heap.size, 0, none⟩ : Addr).add j) = some u := fun j u hu => by
  cases j with
  | zero => simp at hu; subst hu; exact (box_new w2 (.int .u64 (r : Nat)) T).1
  | succ j => simp at hu
theorem own_shape {w : World} {B : Nat} {T : TypeId} {v : Value} {n : Nat} {xs : List Value} (h : w.ownsRow B T 1 v n xs) (hn : 0 < n) : ∃ g c, v = .slice (some ⟨g, 0, none⟩) n c := by
  rcases h.2 with ⟨_, h0⟩ | ⟨g, cap, cur, hv, _⟩
  · omega
  · exact ⟨g, cap, hv⟩
theorem nw_quot_length (n : Nat) : (nw (n / 10000000000000000000)).length ≤ (nw n).length := by
  apply nw_length_le
  have h1 := wv_lt (nw n) (nw_ok n)
  rw [wv_nw] at h1
  exact Nat.lt_of_le_of_lt (Nat.div_le_self _ _) h1
theorem u64s_snoc (cs : List Nat) (r : Nat) : u64s cs ++ [Value.int .u64 (r : Nat)] = u64s (cs ++ [r]) := by unfold u64s; simp

set_option maxHeartbeats 4000000 in
set_option maxRecDepth 100000 in
theorem decimal_any (g cap N : Nat) (w : World) (hx : Row w g 0 (nw N)) (hg : g < w.heap.size) (hcap : (nw N).length ≤ cap) (hcm : cap ≤ maxLen) (hN : N ≠ 0) (hl : (nw N).length ≤ 131072) (htab : Tab w) (htg : g ≠ 5) :
    Calls Tryz.prog 136 #[.slice (some ⟨g, 0, none⟩) (nw N).length cap] w fun e w' => e = .returned (.string ⟨(Lib.decDigits N).toArray⟩) ∧ w.grownBy w' (some g) := by
  have HX := Lib.hid (And.intro hx (And.intro hcap (And.intro hcm (And.intro hN (And.intro hl htab)))))
  clear hx hcap hcm hN hl htab
  refine (callsIn_wide (n := 4)).1 ?_
  refine callsIn_of_wp_marks Tryz.func136 rfl trivial ?_ rfl
  simp only [Tryz.ntmps136, List.size_toArray, List.length_cons, List.length_nil, Nat.reduceAdd, Nat.reduceSub, Array.replicate_succ, Array.replicate_zero, List.push_toArray, List.append_toArray, List.nil_append, List.cons_append]
  gi_wp2_with fail
  refine wpIn_wide.2 ?_
  go_loopg [0] N (fun k x wr => ∃ (n c : Nat) (cs : List Nat) (v : Value), n ≤ k ∧ x = .slice (some ⟨g, 0, none⟩) (nw n).length c ∧ (nw n).length ≤ c ∧ c ≤ maxLen ∧ (nw n).length ≤ 131072 ∧ Row wr g 0 (nw n) ∧ cs ++ ch n = ch N ∧ (∀ y ∈ cs, y < 10000000000000000000) ∧ Box w.heap.size v wr ∧ wr.ownsRow (w.heap.size + 1) 85 1 v cs.length (u64s cs) ∧ w.grownBy wr (some g))
  case atStart =>
    obtain ⟨hx, hcap, hcm, hN, hl, htab⟩ := HX.out
    exact ⟨N, cap, [], .slice none 0 0, Nat.le_refl _, rfl, hcap, hcm, hl, hx.below ((Below.refl _ _).alloc (Nat.le_refl _) _) hg, rfl, (fun y hy => by cases hy), box_new _ _ _, ⟨rfl, .inl ⟨rfl, rfl⟩⟩, World.grownBy_alloc _ _ _⟩
  case round =>
    obtain ⟨n, c, cs, v, hnk, rfl, hnc, hcm, hnl, hrow, hcs, hlt, hbox, hown, hgr⟩ := hrel
    by_cases hn0 : n = 0
    · subst hn0
      have hcs' : cs = ch N := by rw [← hcs, ch_zero, List.append_nil]
      have hne := ch_ne N HX.out.2.2.2.1
      rw [← hcs'] at hne
      have hlen := List.length_pos_iff.2 hne
      obtain ⟨g', c', rfl⟩ := own_shape hown hlen
      have hfew := chunks_few hcs HX.out.2.2.2.2.1
      have H1 := Lib.hid (And.intro hcs' (And.intro hlt (And.intro hbox (And.intro hown (And.intro hgr hfew)))))
      have kC := ((hbox.below (B0 := wr.heap.size) ((Below.refl _ wr).alloc (Nat.le_refl _) (Obj.cells #[Value.pointer none, Value.slice none 0 0] 138)) hbox.lt)).1
      rw [show (nw 0).length = 0 from rfl]
      clear hnc hcm hnl hrow hcs hlt hbox hown hgr hcs' hne hlen hfew hnk
      go_wp2_with fail
      gi_wp2_with (refine ⟨trivial, ?_⟩; gi_at_call 163; refine (callsIn_wide.2 (backU_make _ _ _ _)).mono ?_; rintro e w' ⟨rfl, rfl⟩)
      obtain ⟨W0, hW0⟩ : ∃ W0, ((wr.alloc (Obj.cells #[Value.pointer none, Value.slice none 0 0] 138)).alloc (Obj.cells #[Value.slice (some ⟨g', 0, none⟩) cs.length c'] 89)) = W0 := ⟨_, rfl⟩
      have z0 : W0.heap.size = wr.heap.size + 1 + 1 := by rw [← hW0]; simp
      have hit0 : W0.heap[wr.heap.size + 1]? = some (.cells #[Value.slice (some ⟨g', 0, none⟩) cs.length c'] 89 (0, 0)) := by
        rw [← hW0]
        have h := heap_alloc_new (wr.alloc (Obj.cells #[Value.pointer none, Value.slice none 0 0] 138)) (Obj.cells #[Value.slice (some ⟨g', 0, none⟩) cs.length c'] 89)
        rwa [World.size_alloc] at h
      have hb0 : IsB wr.heap.size wr.heap.size [] W0 := by rw [← hW0]; exact (IsB.new wr).below ((Below.refl _ _).alloc (Nat.le_refl _) _)
      have hbw0 : Below wr.heap.size wr W0 := by rw [← hW0]; exact ((Below.refl _ _).alloc (Nat.le_refl _) _).alloc (by simp) _
      have h1 := H1.out
      have hgl := (h1.2.2.2.1.lt g' rfl).2
      have hch : ∀ W : World, Below wr.heap.size wr W → ∀ k, k < cs.length → W.cell? ⟨g', k, none⟩ = some (.int .u64 (wat cs k : Nat)) := fun W hb k hk => by
        refine (hb.cell (p := ⟨g', k, none⟩) hgl).trans ?_
        have h := (World.ownsRowF_of h1.2.2.2.1).cells (g := g') rfl k (.int .u64 (wat cs k : Nat)) (by unfold u64s; rw [List.getElem?_map, List.getElem?_eq_getElem hk]; unfold wat; rw [List.getD_eq_getElem?_getD, List.getElem?_eq_getElem hk]; rfl)
        rw [Lib.add_plain, Nat.zero_add] at h
        exact h
      have htb : Tab wr := tab_kept HX.out.2.2.2.2.2 h1.2.2.2.2.1 (fun e => htg (Option.some.inj e))
      have hws : w.heap.size < wr.heap.size := h1.2.2.1.lt
      have HZ := Lib.hid (And.intro z0 (And.intro hit0 (And.intro hb0 (And.intro hbw0 (And.intro hch htb)))))
      rw [hW0]
      clear hW0 z0 hit0 hb0 hbw0 hch htb h1 hgl kC
      refine wide_back (N := cs.length) (xv := wat cs) rfl (enters_of Tryz.func193 (by kernel_rfl) rfl) rfl
        (backU_seq _ (wr.heap.size + 1) (some ⟨g', 0, none⟩) cs.length c' (wat cs) (by have := H1.out.2.2.2.2.2; omega)) (fun o o' => ?st)
        (fun j W => ((Below wr.heap.size wr W ∧ W0.heap.size ≤ W.heap.size) ∧ W.heap[wr.heap.size + 1]? = some (.cells #[Value.slice (some ⟨g', 0, none⟩) cs.length c'] 89 (0, 0))) ∧ IsB wr.heap.size wr.heap.size (ctext (cs.drop j)) W)
        (fun _ => False) ?hI ?hIR ?h0 ?hRd ?a1 ?assign ?body ?done ?stop
      case st =>
        show ((W0.alloc o).alloc o').cell? ⟨wr.heap.size + 1, 0, none⟩ = some _
        have hlt : wr.heap.size + 1 < W0.heap.size := by have := HZ.out.1; omega
        rw [World.cell?_alloc_lt _ _ _ (by simp; omega), World.cell?_alloc_lt _ _ _ hlt]
        simp only [World.cell?, HZ.out.2.1]; simp
      case hI =>
        intro s A B row hs hgr hr
        obtain ⟨⟨hs1, hs2⟩, hs3⟩ := hs
        have hr' : ∀ r, row = some r → ∃ o : Obj, A.heap[r]? = some o ∧ o.isCells = false := fun r e => (hr r e).2
        refine ⟨⟨ownFrom_belowW (β := Unit) wr W0.heap.size wr.heap.size (by have := HZ.out.1; omega) () A B row hs1 hgr hr, ?_⟩, hs3.kept hgr hr'⟩
        rw [hgr.block _ (Array.getElem?_eq_some_iff.1 hs2).1 (fun e => by obtain ⟨o, ho, hc⟩ := hr' _ e.symm; rw [hs2] at ho; cases ho; simp [Obj.isCells] at hc)]
        exact hs2
      case hIR => intro s A B row hs hgr hr; exact hs
      case h0 => exact ⟨⟨⟨HZ.out.2.2.2.1, Nat.le_refl _⟩, HZ.out.2.1⟩, by rw [List.drop_length]; exact HZ.out.2.2.1⟩
      case hRd =>
        intro j W hj hs
        refine ⟨by simp only [World.cell?, hs.1.2]; simp, g', 0, rfl, ?_⟩
        rw [Nat.zero_add]
        exact HZ.out.2.2.2.2.1 W hs.1.1.1 j hj
      case assign =>
        intro l j W K hK
        gi_wp2
        exact hK
      case body =>
        intro l j W hj hs
        obtain ⟨⟨⟨hb1, hsz⟩, hit⟩, hisb⟩ := hs
        obtain ⟨x, hx⟩ : ∃ x, wat cs j = x := ⟨_, rfl⟩
        have hdr : cs.drop j = x :: cs.drop (j + 1) := by rw [List.drop_eq_getElem_cons hj, ← hx]; unfold wat; rw [List.getD_eq_getElem?_getD, List.getElem?_eq_getElem hj]; rfl
        have hxl : x < 10000000000000000000 := H1.out.2.1 x (List.mem_of_mem_drop (by rw [hdr]; exact List.mem_cons_self))
        have htW : Tab W := tab_below HZ.out.2.2.2.2.2 hb1
        obtain ⟨D, hD⟩ : ∃ D : ByteArray, D = ⟨(Lib.decDigits x).toArray⟩ := ⟨_, rfl⟩
        have hfu := fmtU_any x (by omega) W htW
        rw [← hD] at hfu
        have hDl : D.data.toList = Lib.decDigits x := by rw [hD]
        have hDs : D.size = Lib.nDigits x := by rw [Lib.size_eq, hDl, Lib.decDigits_length]
        have hD1 : D.size ≤ 19 := by rw [hDs]; exact nDigits_le 18 x (by omega)
        have kC : W.cell? ⟨w.heap.size, 0, none⟩ = some (.slice (some ⟨g', 0, none⟩) cs.length c') := (hb1.cell (p := ⟨w.heap.size, 0, none⟩) hws).trans H1.out.2.2.1.1
        have hlb := ctext_length (cs.drop (j + 1)) (fun y hy => H1.out.2.1 y (List.mem_of_mem_drop hy))
        have hlb2 : (ctext (cs.drop (j + 1))).length ≤ 19 * 262144 := by
          have := H1.out.2.2.2.2.2
          have h2 : (cs.drop (j + 1)).length ≤ cs.length := by rw [List.length_drop]; omega
          omega
        have HFU := Lib.hid hfu
        have HS := Lib.hid (And.intro hb1 (And.intro hsz (And.intro hit (And.intro hisb (And.intro hdr (And.intro hDl (And.intro hDs (And.intro hlb2 hxl))))))))
        rw [hx]
        clear hb1 hsz hit hisb hx hdr htW hD hfu hDl hDs hlb hlb2 hxl
        gi_wp2_with fail
        refine ⟨trivial, ?_⟩
        refine (CallsIn.inRound l (callsIn_wide.2 HFU.out)).mono ?_
        rintro e w2 ⟨rfl, hb2⟩
        have hfew := H1.out.2.2.2.2.2
        have hjn : j < cs.length := hj
        have hb2' : Below wr.heap.size wr w2 := HS.out.1.trans (hb2.mono HS.out.1.size)
        have kC2 : w2.cell? ⟨w.heap.size, 0, none⟩ = some (.slice (some ⟨g', 0, none⟩) cs.length c') := (hb2.cell (p := ⟨w.heap.size, 0, none⟩) (by show w.heap.size < W.heap.size; have := HS.out.1.size; omega)).trans kC
        have hit2 : w2.heap[wr.heap.size + 1]? = some (.cells #[Value.slice (some ⟨g', 0, none⟩) cs.length c'] 89 (0, 0)) := (hb2.block _ (Array.getElem?_eq_some_iff.1 HS.out.2.2.1).1).trans HS.out.2.2.1
        have his2 := HS.out.2.2.2.1.below hb2
        have H2 := Lib.hid (And.intro hb2 (And.intro hb2' (And.intro hit2 his2)))
        clear hb2 hb2' hit2 his2 kC
        by_cases hlast : j + 1 < cs.length
        · have hli : (j : Int) < (cs.length : Int) - 1 := by omega
          gi_wp2_with fail
          refine ⟨trivial, ?_⟩
          have hrz := repeat_zeros (19 - D.size) (by omega) w2
          obtain ⟨Z, hZ⟩ : ∃ Z : ByteArray, Z = ⟨(List.replicate (19 - D.size) 48).toArray⟩ := ⟨_, rfl⟩
          rw [show ((19 - D.size : Nat) : Int) = 19 - (D.size : Int) by omega, ← hZ] at hrz
          have hZl : Z.data.toList = List.replicate (19 - D.size) 48 := by rw [hZ]
          have hZs : Z.size = 19 - D.size := by rw [Lib.size_eq, hZl, List.length_replicate]
          refine (CallsIn.inRound l (callsIn_wide.2 hrz)).mono ?_
          clear hrz hZ
          rintro e w3 ⟨rfl, hb3⟩
          have hb3' : Below wr.heap.size wr w3 := H2.out.2.1.trans (hb3.mono H2.out.2.1.size)
          have his3 := H2.out.2.2.2.below hb3
          have hit3 := (hb3.block _ (Array.getElem?_eq_some_iff.1 H2.out.2.2.1).1).trans H2.out.2.2.1
          have H3 := Lib.hid (And.intro hb3 (And.intro hb3' (And.intro hit3 (And.intro his3 (And.intro hZl hZs)))))
          clear hb3 hb3' his3 hit3 hZl hZs
          gi_wp2_with fail
          refine ⟨trivial, ?_⟩
          have hlen1 : (ctext (cs.drop (j + 1))).length + Z.size ≤ 140737488355328 := by
            have h1 := HS.out.2.2.2.2.2.2.2.1
            have h2 := H3.out.2.2.2.2.2
            omega
          have hw1 := writeString_any wr.heap.size wr.heap.size (ctext (cs.drop (j + 1))) Z w3 H3.out.2.2.2.1 hlen1 H3.out.2.1.size
          refine (CallsIn.inRound l (callsIn_wide.2 hw1)).mono ?_
          clear hw1 hlen1
          rintro e w4 ⟨rfl, his4, hb4, ho4⟩
          have hk4 := others_keeps ho4 (hb4.size) H3.out.2.2.2.1.cells W0.heap.size
          have hb4' : Below wr.heap.size wr w4 := H3.out.2.1.trans hb4
          have hit4 := ho4 _ _ H3.out.2.2.1 (by simp) (by simp)
          have H4 := Lib.hid (And.intro hb4' (And.intro hit4 (And.intro his4 (And.intro hk4 hb4.size))))
          clear his4 hb4 ho4 hk4 hb4' hit4
          gi_wp2_with fail
          refine ⟨trivial, ?_⟩
          have hlen2 : (ctext (cs.drop (j + 1)) ++ Z.data.toList).length + D.size ≤ 140737488355328 := by
            have h1 := HS.out.2.2.2.2.2.2.2.1
            have h2 := H3.out.2.2.2.2.2
            have h3 := H3.out.2.2.2.2.1
            rw [List.length_append, h3, List.length_replicate]
            omega
          have hw2 := writeString_any wr.heap.size wr.heap.size (ctext (cs.drop (j + 1)) ++ Z.data.toList) D w4 H4.out.2.2.1 hlen2 H4.out.1.size
          refine (CallsIn.inRound l (callsIn_wide.2 hw2)).mono ?_
          clear hw2 hlen2
          rintro e w5 ⟨rfl, his5, hb5, ho5⟩
          have hk5 := others_keeps ho5 (hb5.size) H4.out.2.2.1.cells W0.heap.size
          have hb5' : Below wr.heap.size wr w5 := H4.out.1.trans hb5
          have hit5 := ho5 _ _ H4.out.2.1 (by simp) (by simp)
          have hne : cs.drop (j + 1) ≠ [] := by
            intro h
            have := congrArg List.length h
            rw [List.length_drop] at this
            simp at this
            omega
          have htx : ctext (cs.drop j) = ctext (cs.drop (j + 1)) ++ Z.data.toList ++ D.data.toList := by
            rw [HS.out.2.2.2.2.1, ctext_more _ _ hne, padF_eq 18 x (by have := HS.out.2.2.2.2.2.2.2.2; omega), List.append_assoc, H3.out.2.2.2.2.1, HS.out.2.2.2.2.2.1, HS.out.2.2.2.2.2.2.1]
          have H5 := Lib.hid (And.intro hb5' (And.intro hit5 (And.intro his5 (And.intro hk5 (And.intro hb5.size htx)))))
          clear his5 hb5 ho5 hk5 hb5' hit5 hne htx
          gi_wp2_with fail
          have q2 := H2.out
          have q3 := H3.out
          have q4 := H4.out
          have q5 := H5.out
          refine ⟨(((keepsFrom_below q2.1).trans (keepsFrom_below q3.1)).trans q4.2.2.2.1).trans q5.2.2.2.1, ⟨⟨q5.1, ?_⟩, q5.2.1⟩, by rw [q5.2.2.2.2.2]; exact q5.2.2.1⟩
          have s0 := HS.out.2.1
          have s1 := q2.1.size
          have s2 := q3.1.size
          have s3 := q4.2.2.2.2
          have s4 := q5.2.2.2.2.1
          omega
        · have hli : ¬ ((j : Int) < (cs.length : Int) - 1) := by omega
          gi_wp2_with fail
          refine ⟨trivial, ?_⟩
          have hnil : cs.drop (j + 1) = [] := List.drop_eq_nil_of_le (by omega)
          have hlen1 : (ctext (cs.drop (j + 1))).length + D.size ≤ 140737488355328 := by
            have h1 := HS.out.2.2.2.2.2.2.2.1
            omega
          have hw1 := writeString_any wr.heap.size wr.heap.size (ctext (cs.drop (j + 1))) D w2 H2.out.2.2.2 hlen1 H2.out.2.1.size
          refine (CallsIn.inRound l (callsIn_wide.2 hw1)).mono ?_
          clear hw1 hlen1
          rintro e w5 ⟨rfl, his5, hb5, ho5⟩
          have hk5 := others_keeps ho5 (hb5.size) H2.out.2.2.2.cells W0.heap.size
          have hb5' : Below wr.heap.size wr w5 := H2.out.2.1.trans hb5
          have hit5 := ho5 _ _ H2.out.2.2.1 (by simp) (by simp)
          have htx : ctext (cs.drop j) = ctext (cs.drop (j + 1)) ++ D.data.toList := by
            rw [HS.out.2.2.2.2.1, hnil, ctext_one, HS.out.2.2.2.2.2.1]; rfl
          have H5 := Lib.hid (And.intro hb5' (And.intro hit5 (And.intro his5 (And.intro hk5 (And.intro hb5.size htx)))))
          clear his5 hb5 ho5 hk5 hb5' hit5 hnil htx
          gi_wp2_with fail
          have q2 := H2.out
          have q5 := H5.out
          refine ⟨(keepsFrom_below q2.1).trans q5.2.2.2.1, ⟨⟨q5.1, ?_⟩, q5.2.1⟩, by rw [q5.2.2.2.2.2]; exact q5.2.2.1⟩
          have s0 := HS.out.2.1
          have s1 := q2.1.size
          have s4 := q5.2.2.2.2.1
          omega
      case done =>
        intro D W hD hs hK
        obtain ⟨⟨⟨hb1, hsz⟩, hit⟩, hisb⟩ := hs
        rw [List.drop_zero, H1.out.1, ctext_ch N HX.out.2.2.2.1] at hisb
        have hg5 := grownBy_putObj' W D (.deferred none)
        have hst := Tryz.Builder_String_any_k wr.heap.size wr.heap.size (Lib.decDigits N) W hisb hb1.size
        have HK := Lib.hid (And.intro hK (And.intro hb1 hst))
        clear hK hb1 hst hisb hit hsz
        gi_wp2_with fail
        refine ⟨trivial, ?_⟩
        refine (callsIn_wide.2 HK.out.2.2).mono ?_
        rintro e w6 ⟨rfl, _, hb6, ho6⟩
        have hzz := HZ.out.1
        have hK6 := ho6 D _ HK.out.1 (fun e => by have : D = wr.heap.size := Option.some.inj e; omega) (by simp)
        have hbz := HK.out.2.1.trans hb6
        have hgz := grown_more (grown_more H1.out.2.2.2.2.1 (⟨hbz.os, hbz.tape, hbz.output, hbz.size, fun k hk _ => hbz.block k hk⟩ : wr.grownBy w6 none) (fun k hk => by cases hk)) (grownBy_putObj' w6 D (.deferred none)) (fun k hk => .inr (by cases hk; omega))
        have HF := Lib.hid (And.intro hK6 hgz)
        clear hK6 hbz hgz hb6 ho6 hg5
        gi_wp2_with fail
        refine ⟨by simp, .inl ⟨_, _, rfl, run_takeDeferred HF.out.1, ?_⟩⟩
        exact ⟨.string ⟨(Lib.decDigits N).toArray⟩, by simp [results, Tryz.results136, go_sem], rfl, HF.out.2⟩
      case stop =>
        intro D W hD hs hK
        exact hs.elim
    · have hpos : 0 < (nw n).length := by rw [List.length_pos_iff]; exact fun h => hn0 ((nw_eq_nil n).1 h)
      have hpi : (0 : Int) < ((nw n).length : Int) := by omega
      have hrow2 : Row wr.drew g 0 (nw n) := hrow
      have hgs := hgr.size
      have hdw := divWord_any g c 10000000000000000000 (nw n) wr.drew hrow2 (by show g < wr.heap.size; omega) (nw_ok n) (by omega) (by omega) (by omega)
      have hdw2 := divWord_any g c 10000000000000000000 (nw n) wr.drew hrow2 (by show g < wr.heap.size; omega) (nw_ok n) (by omega) (by omega) (by omega)
      have HDW := Lib.hid hdw
      have kC := hbox.1
      have HR := Lib.hid (And.intro hnk (And.intro hnc (And.intro hcm (And.intro hnl (And.intro hcs (And.intro hlt (And.intro hbox (And.intro hown (And.intro hgr hn0)))))))))
      clear hrow hrow2 hdw hdw2 hnk hnc hcm hnl hcs hlt hbox hown hgr hn0
      go_wp2_with fail
      refine wp_region_noPanic ?_
      refine wp_region_any (by kernel_rfl) ?_
      change wpAny _ _ _ _ _ _ _ wr.drew
      refine wpAny_take (i := 1) (v := ?v1) rfl (by kernel_rfl) (by kernel_rfl) (by kernel_rfl) (fun _ _ _ h => h) (Or.inl ⟨by rfl, ?hy1⟩) ?_
      case hy1 => (intro w2; go_simp; try with_reducible rfl)
      try simp only [Act.put, List.setIfInBounds_toArray]
      refine wpAny_ready (rs := [0, 2]) (by kernel_rfl) (by simp) ?_
      refine AllReady.cons rfl (fun K hK => ?_) (AllReady.cons rfl (fun K hK => ?_) AllReady.nil)
      go_simp
      refine hK _ _ ?_
      clear hK K
      try simp only [Act.put, List.setIfInBounds_toArray, List.set_cons_zero, List.set_cons_succ]
      refine wpAny_ready (rs := [2]) (by kernel_rfl) (by simp) ?_
      refine AllReady.cons rfl (fun K hK => ?_) AllReady.nil
      go_simp
      refine HDW.out.mono ?_
      rintro e w2 ⟨qs, r, rfl, hv, hr, hlen, hok, rowq, htq⟩
      have kC2 : w2.cell? ⟨w.heap.size, 0, none⟩ = some v := (World.cell?_of_block (w := wr.drew) (a := ⟨w.heap.size, 0, none⟩) (htq.grown.block _ (by show w.heap.size < wr.heap.size; exact HR.out.2.2.2.2.2.2.1.lt) (fun e => by have : w.heap.size = g := Option.some.inj e; omega))).trans HR.out.2.2.2.2.2.2.1.1
      have HQ := Lib.hid (And.intro hv (And.intro hr (And.intro hlen (And.intro hok (And.intro rowq htq)))))
      clear hv hr hlen hok rowq htq HDW
      go_simp
      refine hK _ _ ?_
      clear hK K
      try simp only [Act.put, List.setIfInBounds_toArray, List.set_cons_zero, List.set_cons_succ]
      refine wpAny_ready (rs := [3]) (by kernel_rfl) (by simp) ?_
      refine AllReady.cons rfl (fun K hK => ?_) AllReady.nil
      go_simp
      refine hK _ _ ?_
      clear hK K
      try simp only [Act.put, List.setIfInBounds_toArray, List.set_cons_zero, List.set_cons_succ]
      rotate_left
      go_simp
      refine HDW.out.mono ?_
      rintro e w2 ⟨qs, r, rfl, hv, hr, hlen, hok, rowq, htq⟩
      have kC2 : w2.cell? ⟨w.heap.size, 0, none⟩ = some v := (World.cell?_of_block (w := wr.drew) (a := ⟨w.heap.size, 0, none⟩) (htq.grown.block _ (by show w.heap.size < wr.heap.size; exact HR.out.2.2.2.2.2.2.1.lt) (fun e => by have : w.heap.size = g := Option.some.inj e; omega))).trans HR.out.2.2.2.2.2.2.1.1
      have HQ := Lib.hid (And.intro hv (And.intro hr (And.intro hlen (And.intro hok (And.intro rowq htq)))))
      clear hv hr hlen hok rowq htq HDW
      go_simp
      refine hK _ _ ?_
      clear hK K
      try simp only [Act.put, List.setIfInBounds_toArray, List.set_cons_zero, List.set_cons_succ]
      refine wpAny_ready (rs := [0, 3]) (by kernel_rfl) (by simp) ?_
      refine AllReady.cons rfl (fun K hK => ?_) (AllReady.cons rfl (fun K hK => ?_) AllReady.nil)
      go_simp
      refine hK _ _ ?_
      clear hK K
      try simp only [Act.put, List.setIfInBounds_toArray, List.set_cons_zero, List.set_cons_succ]
      refine wpAny_ready (rs := [3]) (by kernel_rfl) (by simp) ?_
      refine AllReady.cons rfl (fun K hK => ?_) AllReady.nil
      go_simp
      refine hK _ _ ?_
      clear hK K
      try simp only [Act.put, List.setIfInBounds_toArray, List.set_cons_zero, List.set_cons_succ]
      rotate_left
      go_simp
      refine hK _ _ ?_
      clear hK K
      try simp only [Act.put, List.setIfInBounds_toArray, List.set_cons_zero, List.set_cons_succ]
      have kC3 : (w2.alloc (Obj.cells #[Value.int .u64 (r : Nat)] 85)).cell? ⟨w.heap.size, 0, none⟩ = some v := (World.cell?_alloc_lt _ _ _ (World.block_lt_of_cell? w2 _ kC2)).trans kC2
      refine wpAny_ready (rs := [0]) (by kernel_rfl) (by simp) ?_
      refine AllReady.cons rfl (fun K hK => ?_) AllReady.nil
      go_simp
      refine hK _ _ ?_
      clear hK K
      try simp only [Act.put, List.setIfInBounds_toArray, List.set_cons_zero, List.set_cons_succ]
      all_goals have hR := HR.out
      all_goals have hQ := HQ.out
      all_goals have hcl := chunks_few hR.2.2.2.2.1 HX.out.2.2.2.2.1
      all_goals have hg2 := grown_undrew hQ.2.2.2.2.2.grown
      all_goals have hown2 := (hR.2.2.2.2.2.2.2.1.kept hg2 (.inr (fun e => by have := (hR.2.2.2.2.2.2.2.1.lt g e).1; omega))).alloc (Obj.cells #[Value.int .u64 (r : Nat)] 85)
      all_goals obtain ⟨i0, hi0, hz0, hz1, hz2⟩ := info_parts infoU
      all_goals have hw2 : w.heap.size < w2.heap.size := Nat.lt_of_lt_of_le hR.2.2.2.2.2.2.1.lt hQ.2.2.2.2.2.grown.size
      all_goals refine wpAny_ready (rs := [4]) (by kernel_rfl) (by simp) ?_
      all_goals refine AllReady.cons rfl (fun K hK => ?_) AllReady.nil
      all_goals rw [if_pos (by rfl)]
      all_goals refine wp_append_own _ (.tmp 11) (.tmp 14) 89 rfl (w.heap.size + 1) 85 i0 (.int .u64 0) 1 8 Tryz.underlying89 hi0 hz0 hz1 hz2 rfl (by omega) v cs.length (u64s cs) rfl hown2 ⟨w2.heap.size, 0, none⟩ 1 1 [.int .u64 (r : Nat)] rfl rfl (one_cells w2 r 85) (fun u hu => by simp at hu; subst hu; rfl) (by unfold maxLen; omega) (by omega) (by simp; omega) ?_
      all_goals intro v' w3 hown3 hgr3 _
      all_goals have hb3 := (((hR.2.2.2.2.2.2.1.grownO hg2 (fun r e => by cases e; omega)).below (B0 := w2.heap.size) ((Below.refl _ _).alloc (Nat.le_refl _) (Obj.cells #[Value.int .u64 (r : Nat)] 85)) hw2)).grownO hgr3 (fun k hk => by have := (hown2.lt k hk).1; omega)
      all_goals obtain ⟨g', c', rfl⟩ := own_shape hown3 (by omega)
      all_goals have kC5 := hb3.1
      all_goals have kF5 := hb3.2
      all_goals have hrow3 := (((hQ.2.2.2.2.1.below (B := w2.heap.size) ((Below.refl _ _).alloc (Nat.le_refl _) (Obj.cells #[Value.int .u64 (r : Nat)] 85)) (by omega)).grownO (by simp; omega) hgr3 (fun k hk => by have := (hown2.lt k hk).1; omega)))
      all_goals have hgr4 := grown_more (grown_more (grown_more hR.2.2.2.2.2.2.2.2.1 hg2 (fun k hk => .inl hk)) (World.grownBy_alloc w2 (Obj.cells #[Value.int .u64 (r : Nat)] 85) none) (fun k hk => by cases hk)) hgr3 (fun k hk => .inr (by have := (hown2.lt k hk).1; omega))
      all_goals have hst := chunk_step n (wv qs) r (by rw [← hQ.1, wv_nw]) hQ.2.1
      all_goals have H3 := Lib.hid (And.intro hb3 (And.intro hown3 (And.intro hrow3 (And.intro hgr4 (And.intro hst hcl)))))
      all_goals clear hR hQ hcl hown2 hi0 hz0 hz1 hz2 hg2 hown3 hgr3 hb3 hrow3 hgr4 hst kC2
      all_goals refine hK _ _ ?_
      all_goals clear hK K
      all_goals try simp only [Act.put, List.setIfInBounds_toArray]
      all_goals refine wpAny_ready (rs := [5]) (by kernel_rfl) (by simp) ?_
      all_goals refine AllReady.cons rfl (fun K hK => ?_) AllReady.nil
      all_goals go_simp
      all_goals refine hK _ _ ?_
      all_goals clear hK K
      all_goals try simp only [Act.put, List.setIfInBounds_toArray, List.set_cons_zero, List.set_cons_succ]
      all_goals refine wpAny_done (by kernel_rfl) ?_ _
      all_goals refine NoPanic.normal ?_
      all_goals go_wp2_with fail
      all_goals have hrow5 := H3.out.2.2.1.other (B' := w.heap.size) (o := 0) (u := .slice (some ⟨g', 0, none⟩) (cs.length + 1) c') (by omega)
      all_goals have htr := trim_any (some ⟨g, 0, none⟩) qs c (w3.setCell ⟨w.heap.size, 0, none⟩ (.slice (some ⟨g', 0, none⟩) (cs.length + 1) c')) (.inr ⟨g, 0, rfl, hrow5⟩) (by have := HQ.out.2.2.1; have := HR.out.2.2.2.1; omega) (by have := HQ.out.2.2.1; have := HR.out.2.1; omega) HR.out.2.2.1
      all_goals rw [HQ.out.2.2.1, trimW_length qs HQ.out.2.2.2.1, H3.out.2.2.2.2.1.1] at htr
      all_goals have HTR := Lib.hid htr
      all_goals have H5 := Lib.hid hrow5
      all_goals clear htr hrow5
      all_goals refine HTR.out.mono ?_
      all_goals rintro e w6 ⟨rfl, rfl⟩
      all_goals go_wp2_with fail
      all_goals go_roundg (n / 10000000000000000000)
      all_goals have hS := H3.out
      all_goals have hR := HR.out
      all_goals have hQ := HQ.out
      all_goals first
        | (have h1 := hR.1; have h2 := hR.2.2.2.2.2.2.2.2.2; omega)
        | exact ⟨n / 10000000000000000000, c, cs ++ [r], .slice (some ⟨g', 0, none⟩) (cs.length + 1) c', Nat.le_refl _, rfl, Nat.le_trans (nw_quot_length n) hR.2.1, hR.2.2.1, Nat.le_trans (nw_quot_length n) hR.2.2.2.1,
            by rw [← hS.2.2.2.2.1.1, ← take_trimW qs hQ.2.2.2.1]; exact H5.out.take _,
            by rw [List.append_assoc, List.singleton_append, hS.2.2.2.2.1.2, ← ch_pos n hR.2.2.2.2.2.2.2.2.2]; exact hR.2.2.2.2.1,
            (fun y hy => by rcases List.mem_append.1 hy with h | h; exact hR.2.2.2.2.2.1 y h; rw [List.mem_singleton.1 h]; exact hQ.2.1),
            hS.1.set _,
            by rw [← u64s_snoc, List.length_append]; exact hS.2.1.kept (grown_set _ _ _ _) (.inr (fun e => by have := (hS.2.1.lt _ e).1; omega)),
            grown_more hS.2.2.2.1 (grown_set _ _ _ _) (fun k hk => .inr (by cases hk; exact Nat.le_refl _))⟩
end Go.Proofs.YtpdhffjdgnpikaaGreatDoor

namespace Go.Proofs.YtpdhffjdgnpikaaGreatDoor
open Go.RowKit Go.Shelf

/-- The text of an integer. -/
def txt (z : Int) : ByteArray := ⟨(Lib.itoa z).toArray⟩
theorem itoa_sgn (b : Bool) (n : Nat) (h : n ≠ 0) : Lib.itoa (sgn b n) = if b then 45 :: Lib.decDigits n else Lib.decDigits n := by
  cases b
  · exact Lib.itoa_nonneg n
  · exact Lib.itoa_neg n (by omega)
theorem itoa_nought (b : Bool) : Lib.itoa (sgn b 0) = [48] := by
  have e : Lib.itoa ((0 : Nat) : Int) = [48] := by rw [Lib.itoa_nonneg, Lib.decDigits_one (by omega)]; rfl
  cases b
  · exact e
  · exact e
theorem dec_few (m : Nat) (h0 : m ≠ 0) (h : (nw m).length ≤ 131072) : (Lib.decDigits m).length ≤ 5000000 := by
  have h2 := wv_lt (nw m) (nw_ok m)
  rw [wv_nw] at h2
  have h3 := ch_words (nw m).length m h2
  have h4 := ctext_length (ch m) (ch_lt m)
  rw [ctext_ch m h0] at h4
  omega

set_option maxHeartbeats 1000000 in
set_option maxRecDepth 100000 in
theorem print_any (na : Bool) (sa : ByteArray) (w : World) (ha : sa.size ≤ 262144) (htab : Tab w) :
    Calls Tryz.prog 95 #[.agg #[.bool na, .string sa]] w fun e w' => e = .returned (.string (txt (ival na sa))) ∧ Below w.heap.size w w' := by
  have HTB := Lib.hid htab
  clear htab
  go_enter Tryz.func95, Tryz.ntmps95
  go_wp2_with fail
  obtain ⟨zs, hzs⟩ : ∃ zs : Array Value, #[Value.int .u64 0, .int .u64 0, .int .u64 0, .int .u64 0, .int .u64 0, .int .u64 0, .int .u64 0, .int .u64 0, .int .u64 0, .int .u64 0, .int .u64 0, .int .u64 0, .int .u64 0, .int .u64 0, .int .u64 0, .int .u64 0] = zs := ⟨_, rfl⟩
  have hz16 : zs.size = 16 := by rw [← hzs]; rfl
  rw [hzs]
  obtain ⟨W0, hW0⟩ : ∃ W0, (w.alloc (Obj.cells #[Value.bool na, Value.string sa] 23)).alloc (Obj.cells zs 92) = W0 := ⟨_, rfl⟩
  have hs0 : W0.heap.size = w.heap.size + 1 + 1 := by rw [← hW0]; simp
  have tA : Two w.heap.size (.bool na) (.string sa) W0 := by
    rw [← hW0]
    exact (two_new w _ _ _).below (B0 := w.heap.size + 1) ((Below.refl _ _).alloc (by simp) _) (by omega)
  have rL : Room W0 (w.heap.size + 1) 16 := by
    rw [← hW0]
    have h := room_alloc (w.alloc (Obj.cells #[Value.bool na, Value.string sa] 23)) zs 92 16 hz16
    simp only [World.size_alloc] at h
    exact h
  have b0 : Below w.heap.size w W0 := by
    rw [← hW0]
    exact ((Below.refl _ _).alloc (Nat.le_refl _) _).alloc (by simp) _
  rw [hW0]
  have kA := tA.2.1
  have H0 := Lib.hid (And.intro tA (And.intro rL (And.intro b0 hs0)))
  clear tA rL b0 hs0 hW0 hzs hz16
  go_wp2_with fail
  refine (load_any (w.heap.size + 1) sa _ (by omega) H0.out.2.1).mono ?_
  intro e wL hL
  obtain ⟨gL, capL, rfl, capLge, capLm, rowL, hgL, hgrL⟩ := hL
  have cA := H0.out.1.grown hgrL (by omega)
  have cb : Below w.heap.size w wL := H0.out.2.2.1.grown hgrL (by have := H0.out.2.2.2; omega) (fun k e => by cases e; omega)
  have cz : w.heap.size + 1 + 1 ≤ wL.heap.size := by have := H0.out.2.2.2; have := hgrL.size; omega
  have gLge : w.heap.size ≤ gL := by have := H0.out.2.2.2; rcases hgL with h | h <;> omega
  have hla := nw_be_length sa.data.toList
  rw [← Lib.size_eq] at hla
  obtain ⟨m, hm⟩ : ∃ m, m = beVal sa.data.toList := ⟨_, rfl⟩
  have HM := Lib.hid hm
  rw [← hm] at hla rowL capLge
  rw [← hm]
  have kA := cA.1.1
  clear hgL hgrL H0 hm
  by_cases hm0 : m = 0
  · have HM0 := Lib.hid hm0
    have hlen : (nw m).length = 0 := by rw [hm0]; rfl
    rw [hlen]
    have HB := Lib.hid cb
    clear hm0 hlen capLge capLm rowL cA cb cz gLge hla
    go_wp2_with fail
    go_ret
    refine ⟨?_, HB.out⟩
    unfold txt
    rw [ival_sgn, ← HM.out, HM0.out, itoa_nought]
    rfl
  · have hpos : 0 < (nw m).length := by rw [List.length_pos_iff]; exact fun h => hm0 ((nw_eq_nil m).1 h)
    have hpi : ¬ (((nw m).length : Int) = 0) := by omega
    have htw : Tab wL := tab_kept (row := none) HTB.out ⟨cb.os, cb.tape, cb.output, cb.size, fun k hk _ => cb.block k hk⟩ (by simp)
    have htl := tab_lt HTB.out
    have hgl : gL < wL.heap.size := rowL.lt hpos
    have hdc := decimal_any gL capL m wL rowL hgl capLge capLm hm0 (by omega) htw (by omega)
    obtain ⟨D, hD⟩ : ∃ D : ByteArray, D = ⟨(Lib.decDigits m).toArray⟩ := ⟨_, rfl⟩
    rw [← hD] at hdc
    have hits := itoa_sgn na m hm0
    have hDs : D.size ≤ 5000000 := by
      rw [Lib.size_eq, hD]
      exact dec_few m hm0 (by omega)
    have HDC := Lib.hid hdc
    have HB := Lib.hid (And.intro cb (And.intro gLge (And.intro hits hD)))
    clear hdc hD hits htw htl hgl cb gLge rowL capLge capLm cA cz hla hm0
    cases na
    all_goals go_wp2_with fail
    all_goals refine HDC.out.mono ?_
    all_goals rintro e w2 ⟨rfl, hg2⟩
    all_goals have hbel : Below w.heap.size w w2 := HB.out.1.grown hg2 (HB.out.1.size) (fun k e => by cases e; exact HB.out.2.1)
    all_goals have HBEL := Lib.hid hbel
    all_goals clear hg2 hbel
    all_goals go_wp2_with fail
    all_goals go_ret
    all_goals refine ⟨?_, HBEL.out⟩
    all_goals unfold txt
    all_goals rw [ival_sgn, ← HM.out, HB.out.2.2.1]
    · rw [HB.out.2.2.2]; rfl
    · have e : (⟨#[45]⟩ : ByteArray) ++ D = ⟨(45 :: Lib.decDigits m).toArray⟩ := by
        rw [HB.out.2.2.2]
        apply ByteArray.ext
        rw [ByteArray.data_append]
        simp
      rw [if_pos trivial, ← e]
      rfl
end Go.Proofs.YtpdhffjdgnpikaaGreatDoor
