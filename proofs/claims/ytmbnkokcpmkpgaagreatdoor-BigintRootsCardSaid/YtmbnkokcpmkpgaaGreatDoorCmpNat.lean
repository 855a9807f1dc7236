/- The contract of bigint.compare. -/
import Derived.Test.YtmbnkokcpmkpgaaGreatDoorCompare
namespace Go.Proofs.YtmbnkokcpmkpgaaGreatDoor
open Go.RowKit Go.Shelf
attribute [local go_sem] Oper.semAt_some

theorem res60 (tmps : Array Value) (W : World) (B : Nat) (z : Int) (h4 : tmps.getD 4 undef = .pointer (some ⟨B, 0, none⟩)) (hb : W.cell? ⟨B, 0, none⟩ = some (.int .i64 z)) : (results Tryz.f60 tmps).run Tryz.prog W = .ok (.int .i64 z) W := by
  have h4' : tmps[4]?.getD undef = .pointer (some ⟨B, 0, none⟩) := by rw [← h4]; simp
  simp [results, Tryz.results60, go_sem, h4', hb]

set_option maxHeartbeats 400000 in
set_option maxRecDepth 100000 in
theorem compare_len (p q : Option Addr) (m n cx cy : Nat) (w : World) (hl : (nw m).length ≠ (nw n).length) :
    Calls Tryz.prog 60 #[.slice p (nw m).length cx, .slice q (nw n).length cy] w fun e w' => e = .returned (.int .i64 (cmpZ m n)) ∧ Below w.heap.size w w' := by
  have hc : cmpZ ((nw m).length : Int) ((nw n).length : Int) = cmpZ m n := by
    rcases Nat.lt_or_gt_of_ne hl with h | h
    · rw [cmpZ_lt (by omega), cmpZ_lt (by have := nw_length_lt h; omega)]
    · rw [cmpZ_gt (by omega), cmpZ_gt (by have := nw_length_lt h; omega)]
  have HC := Lib.hid hc
  have t1 : (((nw m).length : Int) == ((nw n).length : Int)) = false := by rw [beq_eq_false_iff_ne]; omega
  have t2 : (((nw m).length : Int) != ((nw n).length : Int)) = true := by rw [bne_iff_ne]; omega
  clear hc
  go_enter Tryz.func60, Tryz.ntmps60
  go_wp2_with (go_at_call 78; refine (cmpInt_any _ _ _).mono ?_; rintro e w' ⟨rfl, rfl⟩)
  refine bodyPost_ret (v := .int .i64 (cmpZ ((nw m).length : Int) ((nw n).length : Int))) (by simp [results, Tryz.results60, go_sem]) rfl ⟨by rw [HC.out], ?_⟩
  exact ((Below.refl _ _).alloc (Nat.le_refl _) _).alloc (by simp) _

set_option maxHeartbeats 1000000 in
set_option maxRecDepth 100000 in
theorem compare_eq (p q : Option Addr) (m n cx cy : Nat) (w : World) (hx : Nt w p (nw m)) (hy : Nt w q (nw n)) (hl : (nw m).length = (nw n).length) (hn : (nw m).length ≤ 1048576) :
    Calls Tryz.prog 60 #[.slice p (nw m).length cx, .slice q (nw n).length cy] w fun e w' => e = .returned (.int .i64 (cmpZ m n)) ∧ Below w.heap.size w w' := by
  have HX := Lib.hid hx
  have HY := Lib.hid hy
  have HL := Lib.hid hl
  have t1 : (((nw m).length : Int) == ((nw n).length : Int)) = true := by rw [beq_iff_eq, hl]
  have t2 : (((nw m).length : Int) != ((nw n).length : Int)) = false := by rw [hl]; simp
  clear hx hy hl
  refine (callsIn_wide (n := 4)).1 ?_
  refine callsIn_of_wp_marks Tryz.func60 rfl trivial ?_ rfl
  simp only [Tryz.ntmps60, List.size_toArray, List.length_cons, List.length_nil, Nat.reduceAdd, Nat.reduceSub, Array.replicate_succ, Array.replicate_zero, List.push_toArray, List.append_toArray, List.nil_append, List.cons_append]
  gi_wp2_with (refine ⟨trivial, ?_⟩; gi_at_call 84; refine (callsIn_wide.2 (backN_make _ _ _ _)).mono ?_; rintro e w' ⟨rfl, rfl⟩)
  obtain ⟨xs, hxs⟩ : ∃ xs, xs = nw m := ⟨_, rfl⟩
  obtain ⟨ys, hys⟩ : ∃ ys, ys = nw n := ⟨_, rfl⟩
  obtain ⟨W0, hW0⟩ : ∃ W0, (((w.alloc (Obj.cells #[Value.slice q (nw n).length cy] 55)).alloc (Obj.cells #[Value.int IntKind.i64 0] 3)).alloc (Obj.cells #[Value.slice p (nw m).length cx] 55)) = W0 := ⟨_, rfl⟩
  have hz0 : W0.heap.size = w.heap.size + 1 + 1 + 1 := by rw [← hW0]; simp
  have hw0 : Below w.heap.size w W0 := by rw [← hW0]; exact (((Below.refl _ w).alloc (Nat.le_refl _) _).alloc (by simp) _).alloc (by simp; omega) _
  have hbY : Box w.heap.size (.slice q (nw n).length cy) W0 := by
    rw [← hW0]
    exact (box_new w _ _).below (B0 := w.heap.size + 1) (((Below.refl _ _).alloc (by simp) _).alloc (by simp) _) (by omega)
  have hbR : Box (w.heap.size + 1) (.int .i64 0) W0 := by
    rw [← hW0]
    have h := box_new (w.alloc (Obj.cells #[Value.slice q (nw n).length cy] 55)) (.int .i64 0) 3
    rw [World.size_alloc] at h
    exact h.below (B0 := w.heap.size + 1 + 1) ((Below.refl _ _).alloc (by simp) _) (by omega)
  have hbI : Box (w.heap.size + 1 + 1) (.slice p (nw m).length cx) W0 := by
    rw [← hW0]
    have h := box_new ((w.alloc (Obj.cells #[Value.slice q (nw n).length cy] 55)).alloc (Obj.cells #[Value.int IntKind.i64 0] 3)) (.slice p (nw m).length cx) 55
    rw [World.size_alloc, World.size_alloc] at h
    exact h
  have hx0 := HX.out.below hw0
  have hy0 := HY.out.below hw0
  have hl0 := HL.out
  have hmn : cmpZ m n = cmpZ (wv xs) (wv ys) := by rw [hxs, hys, wv_nw, wv_nw]
  have hox : Ok xs := by rw [hxs]; exact nw_ok m
  have hoy : Ok ys := by rw [hys]; exact nw_ok n
  have hends : xs = ys → cmpZ m n = 0 := fun h => cmpZ_eq (by rw [hxs, hys] at h; rw [nw_inj h])
  have HMN := Lib.hid (And.intro hmn hends)
  rw [hW0]
  rw [← hxs] at hbI hx0 hl0 hn
  rw [← hys] at hbY hy0 hl0
  have HL0 := Lib.hid hl0
  rw [← hxs, ← hys]
  clear hmn hends hW0 hl0 HX HY HL t1 t2 hxs hys
  refine wide_back (N := xs.length) (xv := wat xs) rfl (enters_of Tryz.func112 (by kernel_rfl) rfl) rfl
    (backN_seq _ (w.heap.size + 1 + 1) p xs.length cx (wat xs) (by omega)) (fun o o' => ?st)
    (fun j W => Box w.heap.size (.slice q ys.length cy) W ∧ Box (w.heap.size + 1) (.int .i64 0) W ∧ Box (w.heap.size + 1 + 1) (.slice p xs.length cx) W ∧ Nt W p xs ∧ Nt W q ys ∧ (Below w.heap.size w W ∧ W0.heap.size ≤ W.heap.size) ∧ xs.drop j = ys.drop j)
    (fun W => Box (w.heap.size + 1) (.int .i64 (cmpZ m n)) W ∧ (Below w.heap.size w W ∧ W0.heap.size ≤ W.heap.size)) ?hI ?hIR ?h0 ?hRd ?a1 ?assign ?body ?done ?stop
  case st => exact ((hbI.below (B0 := W0.heap.size) (((Below.refl _ W0).alloc (Nat.le_refl _) _).alloc (by simp) _) (by omega))).1
  case hI =>
    intro s A B row hs hg hr
    obtain ⟨h1, h2, h3, h4, h5, h6, h7⟩ := hs
    have hr' : ∀ r, row = some r → ∃ o : Obj, A.heap[r]? = some o ∧ o.isCells = false := fun r e => (hr r e).2
    exact ⟨h1.kept hg hr', h2.kept hg hr', h3.kept hg hr', h4.kept hg hr', h5.kept hg hr', ownFrom_belowW w W0.heap.size w.heap.size (by omega) s A B row h6 hg hr, h7⟩
  case hIR =>
    intro s A B row hs hg hr
    have hr' : ∀ r, row = some r → ∃ o : Obj, A.heap[r]? = some o ∧ o.isCells = false := fun r e => (hr r e).2
    exact ⟨hs.1.kept hg hr', ownFrom_belowW w W0.heap.size w.heap.size (by omega) s A B row hs.2 hg hr⟩
  case h0 => exact ⟨hbY, hbR, hbI, hx0, hy0, ⟨hw0, Nat.le_refl _⟩, by rw [List.drop_length, HL0.out, List.drop_length]⟩
  case hRd =>
    intro j W hj hs
    obtain ⟨h1, h2, h3, h4, h5, h6, h7⟩ := hs
    rcases h4 with h4 | ⟨b, off, rfl, h4⟩
    · exfalso; rw [h4] at hj; simp at hj
    · exact ⟨h3.1, b, off, rfl, (h4 j hj).1⟩
  case assign =>
    intro l j W K hK
    gi_wp2
    exact hK
  case body =>
    intro l j W hj hs
    obtain ⟨h1, h2, h3, h4, h5, h6, h7⟩ := hs
    have hj' : j < ys.length := by rw [← HL0.out]; exact hj
    rcases h5 with h5 | ⟨by', oy, rfl, h5⟩
    · exfalso; rw [h5] at hj'; simp at hj'
    · have hcy := (h5 j hj').1
      have k1 := h1.1
      have k2 := h2.1
      have k3 := h2.2
      obtain ⟨y, hy⟩ : ∃ y, wat ys j = y := ⟨_, rfl⟩
      obtain ⟨x, hx⟩ : ∃ x, wat xs j = x := ⟨_, rfl⟩
      have hcy2 : W.cell? ⟨by', oy + j, none⟩ = some (.int .u64 (y : Nat)) := by rw [← hy]; exact hcy
      by_cases hxy : x = y
      · have t1 : ((x : Int) == (y : Int)) = true := by rw [beq_iff_eq, hxy]
        have t2 : ((x : Int) != (y : Int)) = false := by rw [hxy]; simp
        have hd := drop_wat_eq hj hj' h7 (by rw [hx, hy, hxy])
        have HS := Lib.hid (And.intro h1 (And.intro h2 (And.intro h3 (And.intro h4 (And.intro (show Nt W (some ⟨by', oy, none⟩) ys from .inr ⟨_, _, rfl, h5⟩) (And.intro h6 hd))))))
        rw [hx]
        clear h1 h2 h3 h4 h5 h6 h7 hd hcy hx hy hxy
        gi_wp2
        exact ⟨(KeepsOthers.refl _).from _, HS.out⟩
      · have t1 : ((x : Int) == (y : Int)) = false := by rw [beq_eq_false_iff_ne]; omega
        have t2 : ((x : Int) != (y : Int)) = true := by rw [bne_iff_ne]; omega
        have hc := words_cmp hox hoy hj hj' h7 (by rw [hx, hy]; exact hxy)
        rw [hx, hy, ← HMN.out.1] at hc
        have HC := Lib.hid hc
        have HS := Lib.hid (And.intro h2 h6)
        rw [hx]
        clear h1 h2 h3 h4 h5 h6 h7 hcy hx hy hxy hc
        gi_wp2_with (refine ⟨trivial, ?_⟩; gi_at_call 85; refine (CallsIn.inRound l (callsIn_wide.2 (cmpWord_any _ _ _))).mono ?_; rintro e w' ⟨rfl, rfl⟩)
        refine ⟨(KeepsOthers.setCell _ _ _).from _, ?_, HS.out.2.1.setCell (by show w.heap.size ≤ w.heap.size + 1; omega) _, by have := HS.out.2.2; simp [World.setCell]; exact this⟩
        have hb := HS.out.1.set (.int .i64 (cmpZ (x : Int) (y : Int)))
        rw [HC.out] at hb ⊢
        exact hb
  case done =>
    intro D W hD hs hK
    obtain ⟨h1, h2, h3, h4, h5, h6, h7⟩ := hs
    have hz : cmpZ m n = 0 := HMN.out.2 (by rw [List.drop_zero, List.drop_zero] at h7; exact h7)
    have k2 := h2.1
    have k3 := h2.2
    have hb2 := h2.set (.int .i64 0)
    have hK2 := (((KeepsOthers.setCell W ⟨w.heap.size + 1, 0, none⟩ (.int .i64 0)).from 0).same D _ (Nat.zero_le _) hK rfl)
    have hb3 := hb2.kept (grownBy_putObj' (W.setCell ⟨w.heap.size + 1, 0, none⟩ (.int .i64 0)) D (.deferred none)) (fun r e => by cases e; exact ⟨_, hK2, rfl⟩)
    have hbel : Below w.heap.size w ((W.setCell ⟨w.heap.size + 1, 0, none⟩ (.int .i64 0)).putObj D (.deferred none)) :=
      (h6.1.setCell (by show w.heap.size ≤ w.heap.size + 1; omega) _).trans (belowK_b (w := W0) (by omega) _ D _ _ hD hK2 rfl rfl)
    have HF := Lib.hid (And.intro hz (And.intro hK2 (And.intro hb3 hbel)))
    clear h1 h2 h3 h4 h5 h6 h7 hz hb2 hK hK2 hb3 hbel
    gi_wp2
    refine ⟨by simp, .inl ⟨_, _, rfl, run_takeDeferred HF.out.2.1, ?_⟩⟩
    exact ⟨_, res60 _ _ _ _ rfl HF.out.2.2.1.1, i64_eq HF.out.1.symm, HF.out.2.2.2⟩
  case stop =>
    intro D W hD hs hK
    have hb3 := hs.1.kept (grownBy_putObj' W D (.deferred none)) (fun r e => by cases e; exact ⟨_, hK, rfl⟩)
    have hbel : Below w.heap.size w (W.putObj D (.deferred none)) := hs.2.1.trans (belowK_b (w := W0) (by omega) _ D _ _ hD hK rfl rfl)
    have HF := Lib.hid (And.intro hK (And.intro hb3 hbel))
    clear hs hK hb3 hbel
    gi_wp2
    refine ⟨by simp, .inl ⟨_, _, rfl, run_takeDeferred HF.out.1, ?_⟩⟩
    exact ⟨_, res60 _ _ _ _ rfl HF.out.2.1.1, rfl, HF.out.2.2⟩

/-- bigint.compare: the order of two numbers. -/
theorem compare_any (p q : Option Addr) (m n cx cy : Nat) (w : World) (hx : Nt w p (nw m)) (hy : Nt w q (nw n)) (hn : (nw m).length ≤ 1048576) :
    Calls Tryz.prog 60 #[.slice p (nw m).length cx, .slice q (nw n).length cy] w fun e w' => e = .returned (.int .i64 (cmpZ m n)) ∧ Below w.heap.size w w' := by
  by_cases hl : (nw m).length = (nw n).length
  · exact compare_eq p q m n cx cy w hx hy hl hn
  · exact compare_len p q m n cx cy w hl
end Go.Proofs.YtmbnkokcpmkpgaaGreatDoor
