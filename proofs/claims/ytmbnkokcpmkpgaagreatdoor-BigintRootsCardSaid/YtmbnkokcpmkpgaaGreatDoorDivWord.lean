/- The contract of bigint.divideWord. -/
import Derived.Test.YtmbnkokcpmkpgaaGreatDoorDivWordA
import Derived.Outline
namespace Go.Proofs.YtmbnkokcpmkpgaaGreatDoor
open Go.RowKit Go.Shelf
attribute [local go_sem] Oper.semAt_some

set_option maxHeartbeats 4000000 in
set_option maxRecDepth 100000 in
theorem divWord_any (g cap d : Nat) (xs : List Nat) (w : World) (hx : Row w g 0 xs) (hg : g < w.heap.size) (hox : Ok xs) (hd : 0 < d) (hdw : d < 18446744073709551616) (hn : xs.length ≤ 1048576) :
    Calls Tryz.prog 89 #[.slice (some ⟨g, 0, none⟩) xs.length cap, .int .u64 d] w fun e w' =>
      ∃ (qs : List Nat) (r : Nat), e = .returned (.int .u64 r) ∧ wv xs = d * wv qs + r ∧ r < d ∧ qs.length = xs.length ∧ Ok qs ∧ Row w' g 0 qs ∧ Touch w w' g 0 xs.length := by
  have HX := Lib.hid hx
  clear hx
  refine (callsIn_wide (n := 4)).1 ?_
  refine callsIn_of_wp_marks Tryz.func89 rfl trivial ?_ rfl
  simp only [Tryz.ntmps89, List.size_toArray, List.length_cons, List.length_nil, Nat.reduceAdd, Nat.reduceSub, Array.replicate_succ, Array.replicate_zero, List.push_toArray, List.append_toArray, List.nil_append, List.cons_append]
  gi_wp2_with (refine ⟨trivial, ?_⟩; gi_at_call 84; refine (callsIn_wide.2 (backN_make _ _ _ _)).mono ?_; rintro e w' ⟨rfl, rfl⟩)
  obtain ⟨W0, hW0⟩ : ∃ W0, ((((w.alloc (Obj.cells #[Value.slice (some ⟨g, 0, none⟩) xs.length cap] 55)).alloc (Obj.cells #[Value.int .u64 (d : Nat)] 51)).alloc (Obj.cells #[Value.int .u64 0] 51)).alloc (Obj.cells #[Value.slice (some ⟨g, 0, none⟩) xs.length cap] 55)) = W0 := ⟨_, rfl⟩
  have hz0 : W0.heap.size = w.heap.size + 1 + 1 + 1 + 1 := by rw [← hW0]; simp
  have hw0 : Below w.heap.size w W0 := by rw [← hW0]; exact ((((Below.refl _ w).alloc (Nat.le_refl _) _).alloc (by simp) _).alloc (by simp; omega) _).alloc (by simp; omega) _
  have hbX : Box w.heap.size (.slice (some ⟨g, 0, none⟩) xs.length cap) W0 := by
    rw [← hW0]
    exact (box_new w _ _).below (B0 := w.heap.size + 1) ((((Below.refl _ _).alloc (by simp) _).alloc (by simp) _).alloc (by simp) _) (by omega)
  have hbD : Box (w.heap.size + 1) (.int .u64 (d : Nat)) W0 := by
    rw [← hW0]
    have h := box_new (w.alloc (Obj.cells #[Value.slice (some ⟨g, 0, none⟩) xs.length cap] 55)) (.int .u64 (d : Nat)) 51
    rw [World.size_alloc] at h
    exact h.below (B0 := w.heap.size + 1 + 1) (((Below.refl _ _).alloc (by simp) _).alloc (by simp) _) (by omega)
  have hbR : Box (w.heap.size + 1 + 1) (.int .u64 (0 : Nat)) W0 := by
    rw [← hW0]
    have h := box_new ((w.alloc (Obj.cells #[Value.slice (some ⟨g, 0, none⟩) xs.length cap] 55)).alloc (Obj.cells #[Value.int .u64 (d : Nat)] 51)) (.int .u64 0) 51
    rw [World.size_alloc, World.size_alloc] at h
    exact h.below (B0 := w.heap.size + 1 + 1 + 1) ((Below.refl _ _).alloc (by simp) _) (by omega)
  have hbI : Box (w.heap.size + 1 + 1 + 1) (.slice (some ⟨g, 0, none⟩) xs.length cap) W0 := by
    rw [← hW0]
    have h := box_new (((w.alloc (Obj.cells #[Value.slice (some ⟨g, 0, none⟩) xs.length cap] 55)).alloc (Obj.cells #[Value.int .u64 (d : Nat)] 51)).alloc (Obj.cells #[Value.int .u64 0] 51)) (.slice (some ⟨g, 0, none⟩) xs.length cap) 55
    rw [World.size_alloc, World.size_alloc, World.size_alloc] at h
    exact h
  have hinv : WordInv w W0 W0 g d xs.length xs [] 0 :=
    ⟨by rw [List.append_nil, List.take_of_length_le (Nat.le_refl _)]; exact HX.out.below hw0 hg, by simp, Ok.nil, hd, by rw [List.drop_length]; rfl, (Touch.refl w g 0 xs.length).below hw0 hg, Nat.le_refl _⟩
  rw [hW0]
  have HINV := Lib.hid hinv
  clear hW0 HX hinv
  refine wide_back (N := xs.length) (xv := wat xs) rfl (enters_of Tryz.func112 (by kernel_rfl) rfl) rfl
    (backN_seq _ (w.heap.size + 1 + 1 + 1) (some ⟨g, 0, none⟩) xs.length cap (wat xs) (by omega)) (fun o o' => ?st)
    (fun j W => Box w.heap.size (.slice (some ⟨g, 0, none⟩) xs.length cap) W ∧ Box (w.heap.size + 1) (.int .u64 (d : Nat)) W ∧ Box (w.heap.size + 1 + 1 + 1) (.slice (some ⟨g, 0, none⟩) xs.length cap) W ∧ ∃ (qs : List Nat) (r : Nat), Box (w.heap.size + 1 + 1) (.int .u64 (r : Nat)) W ∧ WordInv w W0 W g d j xs qs r)
    (fun _ => False) ?hI ?hIR ?h0 ?hRd ?a1 ?assign ?body ?done ?stop
  case st => exact ((hbI.below (B0 := W0.heap.size) (((Below.refl _ W0).alloc (Nat.le_refl _) _).alloc (by simp) _) (by omega))).1
  case hI =>
    intro s A B row hs hgr hr
    obtain ⟨h1, h2, h3, qs, r, h4, h5⟩ := hs
    have hr' : ∀ r, row = some r → ∃ o : Obj, A.heap[r]? = some o ∧ o.isCells = false := fun r e => (hr r e).2
    exact ⟨h1.kept hgr hr', h2.kept hgr hr', h3.kept hgr hr', qs, r, h4.kept hgr hr', h5.row.kept hgr hr', h5.len, h5.ok, h5.lt, h5.val, touch_kept h5.touch (B := W0.heap.size) (by omega) (by omega) h5.size hgr (fun r e => (hr r e).1), Nat.le_trans h5.size hgr.size⟩
  case hIR => intro s A B row hs hgr hr; exact hs
  case h0 => exact ⟨hbX, hbD, hbI, [], 0, hbR, HINV.out⟩
  case hRd =>
    intro j W hj hs
    obtain ⟨h1, h2, h3, qs, r, h4, h5⟩ := hs
    have hc := (h5.row j (by rw [List.length_append, List.length_take]; omega)).1
    rw [mid_at xs qs j hj] at hc
    exact ⟨h3.1, g, 0, rfl, hc⟩
  case assign =>
    intro l j W K hK
    gi_wp2
    exact hK
  case body =>
    intro l j W hj hs
    obtain ⟨h1, h2, h3, qs, r, h4, h5⟩ := hs
    obtain ⟨x, hx⟩ : ∃ x, wat xs j = x := ⟨_, rfl⟩
    have hxl : x < 18446744073709551616 := by rw [← hx]; exact hox.getD j
    have hst := word_step d r x h5.lt hxl (wv (xs.drop (j + 1))) (wv qs) h5.val
    have hdv := fun W' => div64_any r x d W' hxl h5.lt hdw
    obtain ⟨q, hq⟩ : ∃ q, (r * 18446744073709551616 + x) / d = q := ⟨_, rfl⟩
    obtain ⟨m, hm⟩ : ∃ m, (r * 18446744073709551616 + x) % d = m := ⟨_, rfl⟩
    have hmd : m < d := by rw [← hm]; exact Nat.mod_lt _ hd
    rw [hq, hm] at hst
    rw [hq, hm] at hdv
    have k1 := h1.1
    have k2 := h2.1
    have k4 := h4.1
    have hjl := h5.len
    have hcj := h5.row j (by rw [List.length_append, List.length_take]; omega)
    rw [Nat.zero_add] at hcj
    have HS := Lib.hid (And.intro h1 (And.intro h2 (And.intro h3 (And.intro h4 (And.intro h5 hcj)))))
    have HST := Lib.hid (And.intro hst hmd)
    have HXX := Lib.hid hx
    have HDV := Lib.hid hdv
    have hji : (j : Int) < (xs.length : Int) := by omega
    rw [hx]
    clear h1 h2 h3 h4 h5 hst hdv hx hq hm hcj hjl
    have hsz : w.heap.size + 1 + 1 + 1 + 1 ≤ W.heap.size := by have := HS.out.2.2.2.2.1.size; omega
    have facts : ∀ w2, Below W.drew.heap.size W.drew w2 → w2.cell? ⟨w.heap.size, 0, none⟩ = some (.slice (some ⟨g, 0, none⟩) xs.length cap) ∧ w2.cell? ⟨w.heap.size + 1 + 1, 0, none⟩ = some (.int .u64 (r : Nat)) ∧ w2.frozen? ⟨w.heap.size + 1 + 1, 0, none⟩ = false ∧ w2.cell? ⟨g, j, none⟩ = some (.int .u64 (((xs.take (j + 1) ++ qs).getD j 0 : Nat) : Int)) ∧ w2.frozen? ⟨g, j, none⟩ = false := by
      intro w2 hb
      have d1 : Box w.heap.size (.slice (some ⟨g, 0, none⟩) xs.length cap) W.drew := HS.out.1
      have d4 : Box (w.heap.size + 1 + 1) (.int .u64 (r : Nat)) W.drew := HS.out.2.2.2.1
      have e1 := d1.below hb (by show w.heap.size < W.heap.size; omega)
      have e4 := d4.below hb (by show w.heap.size + 1 + 1 < W.heap.size; omega)
      exact ⟨e1.1, e4.1, e4.2, (hb.cell (p := ⟨g, j, none⟩) (by show g < W.heap.size; omega)).trans HS.out.2.2.2.2.2.1, (hb.frozen (p := ⟨g, j, none⟩) (by show g < W.heap.size; omega)).trans HS.out.2.2.2.2.2.2⟩
    have FACTS := Lib.hid facts
    clear facts
    gi_wp2_with fail
    have ne1 : ¬ (g = w.heap.size + 1 + 1) := by omega
    have ne2 : ¬ (w.heap.size + 1 + 1 = g) := by omega
    have ne3 : ¬ (w.heap.size = g) := by omega
    have ne4 : ¬ (g = w.heap.size) := by omega
    have HJ := Lib.hid hj
    have HSZ := Lib.hid hsz
    clear hxl hmd hsz hj
    refine region_round l _ (fun w' => w'.cell? ⟨w.heap.size, 0, none⟩ = some (.slice (some ⟨g, 0, none⟩) xs.length cap) ∧ w'.cell? ⟨w.heap.size + 1, 0, none⟩ = some (.int .u64 (d : Nat))) (by kernel_rfl) (by kernel_rfl) (by rintro ⟨a, w, h⟩; exact h) ⟨k1, k2⟩ (fun hHeld => ?_)
    (refine wpAnyH_take (i := 1) (v := ?v1) rfl (by kernel_rfl) (by kernel_rfl) (by kernel_rfl) (fun _ _ _ h => h) (Or.inl ⟨by rfl, ?hy1⟩) (by assumption) ?_; case hy1 => (intro w2 hS2; (try dsimp only at hS2); go_simp; try with_reducible rfl); try simp only [Act.put, List.setIfInBounds_toArray, List.set_cons_zero, List.set_cons_succ])
    (refine wpAnyH_take (i := 3) (v := ?v3) rfl (by kernel_rfl) (by kernel_rfl) (by kernel_rfl) (fun _ _ _ h => h) (Or.inl ⟨by rfl, ?hy3⟩) (by assumption) ?_; case hy3 => (intro w2 hS2; (try dsimp only at hS2); go_simp; try with_reducible rfl); try simp only [Act.put, List.setIfInBounds_toArray, List.set_cons_zero, List.set_cons_succ])
    (refine wpAnyH_take (i := 0) (v := ?v0) rfl (by kernel_rfl) (by kernel_rfl) (by kernel_rfl) (fun _ _ _ h => h) (Or.inl ⟨by rfl, ?hy0⟩) (by assumption) ?_; case hy0 => (intro w2 hS2; (try dsimp only at hS2); go_simp; try with_reducible rfl); try simp only [Act.put, List.setIfInBounds_toArray, List.set_cons_zero, List.set_cons_succ])
    (refine wpAnyH_take (i := 4) (v := ?v4) rfl (by kernel_rfl) (by kernel_rfl) (by kernel_rfl) (fun _ _ _ h => h) (Or.inl ⟨by rfl, ?hy4⟩) (by assumption) ?_; case hy4 => (intro w2 hS2; (try dsimp only at hS2); go_simp; try with_reducible rfl); try simp only [Act.put, List.setIfInBounds_toArray, List.set_cons_zero, List.set_cons_succ])
    refine wpAnyH_ready (rs := [2]) (by kernel_rfl) (by simp) ?_
    refine AllReadyH.cons rfl (fun K hK => ?_) AllReadyH.nil
    go_simp
    refine hK.out _ _ hHeld (fun _ => ?_)
    clear hK K
    try simp only [Act.put, List.setIfInBounds_toArray, List.set_cons_zero, List.set_cons_succ]
    refine wpAnyH_ready (rs := [5]) (by kernel_rfl) (by simp) ?_
    refine AllReadyH.cons rfl (fun K hK => ?_) AllReadyH.nil
    go_simp
    go_at_call 116
    refine (HDV.out _).mono ?_
    rintro e w2 ⟨rfl, hb⟩
    obtain ⟨l1, l4, l5, l6, l7⟩ := FACTS.out _ hb
    have l2 : w2.cell? ⟨w.heap.size + 1, 0, none⟩ = some (.int .u64 (d : Nat)) := by
      have d2 : Box (w.heap.size + 1) (.int .u64 (d : Nat)) W.drew := HS.out.2.1
      exact (d2.below hb (by show w.heap.size + 1 < W.heap.size; have := HSZ.out; omega)).1
    have H2 := Lib.hid hb
    clear hb
    go_simp
    refine hK.out _ _ ⟨l1, l2⟩ (fun hHeld2 => ?_)
    clear hK K
    try simp only [Act.put, List.setIfInBounds_toArray, List.set_cons_zero, List.set_cons_succ]
    clear hHeld
    (refine wpAnyH_take (i := 6) (v := ?v6) rfl (by kernel_rfl) (by kernel_rfl) (by kernel_rfl) (fun _ _ _ h => h) (Or.inl ⟨by rfl, ?hy6⟩) (by assumption) ?_; case hy6 => (intro w2 hS2; (try dsimp only at hS2); go_simp; try with_reducible rfl); try simp only [Act.put, List.setIfInBounds_toArray, List.set_cons_zero, List.set_cons_succ])
    (refine wpAnyH_take (i := 7) (v := ?v7) rfl (by kernel_rfl) (by kernel_rfl) (by kernel_rfl) (fun _ _ _ h => h) (Or.inl ⟨by rfl, ?hy7⟩) (by assumption) ?_; case hy7 => (intro w2 hS2; (try dsimp only at hS2); go_simp; try with_reducible rfl); try simp only [Act.put, List.setIfInBounds_toArray, List.set_cons_zero, List.set_cons_succ])
    (refine wpAnyH_take (i := 8) (v := ?v8) rfl (by kernel_rfl) (by kernel_rfl) (by kernel_rfl) (fun _ _ _ h => h) (Or.inl ⟨by rfl, ?hy8⟩) (by assumption) ?_; case hy8 => (intro w2 hS2; (try dsimp only at hS2); go_simp; try with_reducible rfl); try simp only [Act.put, List.setIfInBounds_toArray, List.set_cons_zero, List.set_cons_succ])
    (refine wpAnyH_take (i := 9) (v := ?v9) rfl (by kernel_rfl) (by kernel_rfl) (by kernel_rfl) (fun _ _ _ h => h) (Or.inl ⟨by rfl, ?hy9⟩) (by assumption) ?_; case hy9 => (intro w2 hS2; (try dsimp only at hS2); go_simp; try with_reducible rfl); try simp only [Act.put, List.setIfInBounds_toArray, List.set_cons_zero, List.set_cons_succ])
    refine wpAnyH_ready (rs := [10]) (by kernel_rfl) (by simp) ?_
    refine AllReadyH.cons rfl (fun K hK => ?_) AllReadyH.nil
    go_simp
    have ne5 : ¬ (g = w.heap.size + 1) := by omega
    refine hK.out _ _ ⟨(World.cell?_setCell_other _ _ _ _ (by intro e; have := congrArg Addr.block e; simp at this; omega)).trans l1, (World.cell?_setCell_other _ _ _ _ (by intro e; have := congrArg Addr.block e; simp at this; omega)).trans l2⟩ (fun hHeld3 => ?_)
    clear hK K hHeld2
    refine wpAnyH_ready (rs := [11]) (by kernel_rfl) (by simp) ?_
    refine AllReadyH.cons rfl (fun K hK => ?_) AllReadyH.nil
    go_simp
    refine hK.out _ _ ⟨(World.cell?_setCell_other _ _ _ _ (fun e => by have : w.heap.size + 1 + 1 = w.heap.size := congrArg Addr.block e; omega)).trans hHeld3.1, (World.cell?_setCell_other _ _ _ _ (fun e => by have : w.heap.size + 1 + 1 = w.heap.size + 1 := congrArg Addr.block e; omega)).trans hHeld3.2⟩ (fun _ => ?_)
    clear hK K hHeld3
    refine wpAnyH_done (by kernel_rfl) ?_ _
    have hfin := word_round (B2 := w.heap.size + 1 + 1) HS.out.2.2.2.2.1 H2.out hg (by omega) HJ.out HST.out.2 (by rw [HXX.out]; exact HST.out.1)
    have hb' : Below W.heap.size W w2 := ((Below.refl W.heap.size W).drew).trans H2.out
    have hz := HSZ.out
    refine ⟨((keepsFrom_below hb').trans ((KeepsOthers.setCell _ _ _).from _)).trans ((KeepsOthers.setCell _ _ _).from _), ?_⟩
    exact ⟨((HS.out.1.below hb' (by omega)).other (by omega)).other (by omega), ((HS.out.2.1.below hb' (by omega)).other (by omega)).other (by omega), ((HS.out.2.2.1.below hb' (by omega)).other (by omega)).other (by omega), _, _, ((HS.out.2.2.2.1.below hb' (by omega)).other (by omega)).set _, hfin⟩
  case done =>
    intro D W hD hs hK
    obtain ⟨h1, h2, h3, qs, r, h4, h5⟩ := hs
    have k4 := h4.1
    have hr' : ∀ r, some D = some r → ∃ o : Obj, W.heap[r]? = some o ∧ o.isCells = false := fun r e => by cases e; exact ⟨_, hK, rfl⟩
    have hg2 := grownBy_putObj' W D (.deferred none)
    have hrow := h5.row.kept hg2 hr'
    have htch := touch_kept h5.touch (B := W0.heap.size) (by omega) (by omega) h5.size hg2 (fun r e => by cases e; exact hD)
    have hval := h5.val
    rw [List.take_zero, List.nil_append] at hrow
    rw [List.drop_zero] at hval
    have hlen := h5.len
    have HF := Lib.hid (And.intro hval (And.intro h5.lt (And.intro (show qs.length = xs.length by omega) (And.intro h5.ok (And.intro hrow htch)))))
    have HK := Lib.hid hK
    clear h1 h2 h3 h4 h5 hr' hg2 hrow htch hval hlen hK
    gi_wp2
    refine ⟨by simp, .inl ⟨_, _, rfl, run_takeDeferred HK.out, ?_⟩⟩
    exact ⟨.int .u64 (r : Nat), by simp [results, Tryz.results89, go_sem], qs, r, rfl, HF.out⟩
  case stop =>
    intro D W hD hs hK
    exact hs.elim
end Go.Proofs.YtmbnkokcpmkpgaaGreatDoor
