/- law02's whole. -/
import Derived.Test.YtpdhffjdgnpikaaGreatDoorRatLaw
namespace Go.Proofs.YtpdhffjdgnpikaaGreatDoor
open Go.RowKit Go.Shelf

set_option maxHeartbeats 16000000 in
set_option maxRecDepth 100000 in
theorem whole_walk (b : Bool) (s : ByteArray) (b' : Bool) (s' t' : ByteArray)
    (c1 : ∀ W : World, Calls Tryz.prog 53 #[.int .i64 1] W fun e w' => e = .returned (.agg #[.bool false, .string ⟨#[1]⟩]) ∧ Below W.heap.size W w')
    (c2 : ∀ W : World, Calls Tryz.prog 17 #[.agg #[.bool b, .string s], .agg #[.bool false, .string ⟨#[1]⟩]] W fun e w' => e = .returned (.tuple #[.agg #[.bool b', .string s', .string t'], .int .i64 0]) ∧ Below W.heap.size W w') (w : World) :
    Calls Tryz.prog 49 #[.agg #[.bool b, .string s]] w fun e w' => e = .returned (.agg #[.bool b', .string s', .string t']) ∧ Below w.heap.size w w' := by
  have R1 := Lib.hid c1
  have R2 := Lib.hid c2
  clear c1 c2
  go_enter Tryz.func49, Tryz.ntmps49
  go_wp2_with fail
  obtain ⟨W0, hW0⟩ : ∃ V, ((w.alloc (Obj.cells #[Value.bool b, Value.string s] 23)).alloc (Obj.cells #[Value.bool false, Value.string ⟨#[]⟩, Value.string ⟨#[]⟩] 25)) = V := ⟨_, rfl⟩
  have sW0 : W0.heap.size = w.heap.size + 1 + 1 := by rw [← hW0]; simp
  have k0 : Cells (w.heap.size) [.bool b, .string s] W0 := by
    rw [← hW0]
    have h := cells_new w #[.bool b, .string s] 23
    exact (h.alloc (by simp; try omega) _)
  have k1 : Cells (w.heap.size + 1) [.bool false, .string ⟨#[]⟩, .string ⟨#[]⟩] W0 := by
    rw [← hW0]
    have h := cells_new (w.alloc (Obj.cells #[Value.bool b, Value.string s] 23)) #[.bool false, .string ⟨#[]⟩, .string ⟨#[]⟩] 25
    simp only [World.size_alloc] at h
    exact h
  have bW0 : Below w.heap.size w W0 := by
    rw [← hW0]
    exact (((Below.refl _ _).alloc (Nat.le_refl _) _).alloc (by simp; try omega) _)
  rw [hW0]
  clear hW0
  have HS0 := Lib.hid (And.intro bW0 (And.intro k0 k1))
  clear bW0 k0 k1
  refine wp_region_invA (fun a listed a' w' => ∃ t6 t7 t8 t5 t9 t10 t3 t4 : Value, a' = puts a [(6, t6), (7, t7), (8, t8), (5, t5), (9, t9), (10, t10), (3, t3), (4, t4)] ∧ Below (W0.heap.size) W0 w' ∧ (listed.getD 0 false = true → t6 = .agg #[.bool b, .string s]) ∧ (listed.getD 1 false = true → t7 = .agg #[.bool false, .string ⟨#[1]⟩]) ∧ (listed.getD 2 false = true → t8 = .tuple #[.agg #[.bool b', .string s', .string t'], .int .i64 0]) ∧ (listed.getD 3 false = true → t5 = .tuple #[.agg #[.bool b', .string s', .string t'], .int .i64 0]) ∧ (listed.getD 4 false = true → t9 = .agg #[.bool b', .string s', .string t']) ∧ (listed.getD 5 false = true → t10 = .int .i64 0) ∧ (listed.getD 6 false = true → ∃ (B : Nat) (x0 x1 x2 : Value), t3 = .pointer (some ⟨B, 0, none⟩) ∧ W0.heap.size ≤ B ∧ Cells B [x0, x1, x2] w' ∧ (listed.getD 7 false = true → x0 = .bool b' ∧ x1 = .string s' ∧ x2 = .string t')) ∧ (listed.getD 8 false = true → t4 = .int .i64 0) ∧ (listed.getD 7 false = true → listed.getD 6 false = true)) (by kernel_rfl) (by kernel_rfl) ?_ ?_ ?_
  · exact ⟨undef, undef, undef, undef, undef, undef, undef, undef, (by kernel_rfl), (Below.refl _ _).drew, (fun h => getD_rep h), (fun h => getD_rep h), (fun h => getD_rep h), (fun h => getD_rep h), (fun h => getD_rep h), (fun h => getD_rep h), (fun h => getD_rep h), (fun h => getD_rep h), (fun h => getD_rep h)⟩
  · show InvSteps _ _ _ _ _ [0, 1, 2, 3, 4, 5, 6, 7, 8]
    refine InvSteps.cons rfl (fun listed a w' K' hlt hun hdep hI hK => ?_) ?_
    · obtain ⟨t6, t7, t8, t5, t9, t10, t3, t4, ha, hb, h0, h1, h2, h3, h4, h5, h6, h8, s7_6⟩ := hI
      clear hdep
      have kc := (HS0.out.2.1).below hb (by have := (HS0.out.2.1).lt; omega)
      have kl := kc.lt
      have k0 := (kc 0 _ rfl).1
      have k1 := (kc 1 _ rfl).1
      clear kc
      rw [ha]
      clear ha a
      simp only [puts_cons, puts_nil, Act.put, List.setIfInBounds_toArray, List.set_cons_zero, List.set_cons_succ]
      go_simp
      exact hK.out _ _ ⟨(.agg #[.bool b, .string s]), t7, t8, t5, t9, t10, t3, t4, (by kernel_rfl), hb, fun _ => rfl, fun h => h1 (getD_ne h (by decide : 0 ≠ 1)), fun h => h2 (getD_ne h (by decide : 0 ≠ 2)), fun h => h3 (getD_ne h (by decide : 0 ≠ 3)), fun h => h4 (getD_ne h (by decide : 0 ≠ 4)), fun h => h5 (getD_ne h (by decide : 0 ≠ 5)), fun h => by obtain ⟨B, x0, x1, x2, e, hB, kc, hf⟩ := h6 (getD_ne h (by decide : 0 ≠ 6)); exact ⟨B, x0, x1, x2, e, hB, kc, fun h => hf (getD_ne h (by decide : 0 ≠ 7))⟩, fun h => h8 (getD_ne h (by decide : 0 ≠ 8)), fun h => getD_set_true (s7_6 (getD_ne h (by decide : 0 ≠ 7)))⟩
    refine InvSteps.cons rfl (fun listed a w' K' hlt hun hdep hI hK => ?_) ?_
    · obtain ⟨t6, t7, t8, t5, t9, t10, t3, t4, ha, hb, h0, h1, h2, h3, h4, h5, h6, h8, s7_6⟩ := hI
      clear hdep
      rw [ha]
      clear ha a
      simp only [puts_cons, puts_nil, Act.put, List.setIfInBounds_toArray, List.set_cons_zero, List.set_cons_succ]
      go_simp
      refine (R1.out _).mono ?_
      rintro e u ⟨rfl, c⟩
      go_simp
      exact hK.out _ _ ⟨t6, (.agg #[.bool false, .string ⟨#[1]⟩]), t8, t5, t9, t10, t3, t4, (by kernel_rfl), hb.trans (c.mono hb.size), fun h => h0 (getD_ne h (by decide : 1 ≠ 0)), fun _ => rfl, fun h => h2 (getD_ne h (by decide : 1 ≠ 2)), fun h => h3 (getD_ne h (by decide : 1 ≠ 3)), fun h => h4 (getD_ne h (by decide : 1 ≠ 4)), fun h => h5 (getD_ne h (by decide : 1 ≠ 5)), fun h => by obtain ⟨B, x0, x1, x2, e, hB, kc, hf⟩ := h6 (getD_ne h (by decide : 1 ≠ 6)); exact ⟨B, x0, x1, x2, e, hB, kc.below c kc.lt, fun h => hf (getD_ne h (by decide : 1 ≠ 7))⟩, fun h => h8 (getD_ne h (by decide : 1 ≠ 8)), fun h => getD_set_true (s7_6 (getD_ne h (by decide : 1 ≠ 7)))⟩
    refine InvSteps.cons rfl (fun listed a w' K' hlt hun hdep hI hK => ?_) ?_
    · obtain ⟨t6, t7, t8, t5, t9, t10, t3, t4, ha, hb, h0, h1, h2, h3, h4, h5, h6, h8, s7_6⟩ := hI
      have H0 := hdep ⟨0, Ground.data⟩ (by simp) rfl
      have H1 := hdep ⟨1, Ground.data⟩ (by simp) rfl
      clear hdep
      have g0 := h0 H0
      subst g0
      have g1 := h1 H1
      subst g1
      rw [ha]
      clear ha a
      simp only [puts_cons, puts_nil, Act.put, List.setIfInBounds_toArray, List.set_cons_zero, List.set_cons_succ]
      go_simp
      refine (R2.out _).mono ?_
      rintro e u ⟨rfl, c⟩
      go_simp
      exact hK.out _ _ ⟨(.agg #[.bool b, .string s]), (.agg #[.bool false, .string ⟨#[1]⟩]), (.tuple #[.agg #[.bool b', .string s', .string t'], .int .i64 0]), t5, t9, t10, t3, t4, (by kernel_rfl), hb.trans (c.mono hb.size), fun _ => rfl, fun _ => rfl, fun _ => rfl, fun h => h3 (getD_ne h (by decide : 2 ≠ 3)), fun h => h4 (getD_ne h (by decide : 2 ≠ 4)), fun h => h5 (getD_ne h (by decide : 2 ≠ 5)), fun h => by obtain ⟨B, x0, x1, x2, e, hB, kc, hf⟩ := h6 (getD_ne h (by decide : 2 ≠ 6)); exact ⟨B, x0, x1, x2, e, hB, kc.below c kc.lt, fun h => hf (getD_ne h (by decide : 2 ≠ 7))⟩, fun h => h8 (getD_ne h (by decide : 2 ≠ 8)), fun h => getD_set_true (s7_6 (getD_ne h (by decide : 2 ≠ 7)))⟩
    refine InvSteps.cons rfl (fun listed a w' K' hlt hun hdep hI hK => ?_) ?_
    · obtain ⟨t6, t7, t8, t5, t9, t10, t3, t4, ha, hb, h0, h1, h2, h3, h4, h5, h6, h8, s7_6⟩ := hI
      have H2 := hdep ⟨2, Ground.data⟩ (by simp) rfl
      clear hdep
      have g2 := h2 H2
      subst g2
      rw [ha]
      clear ha a
      simp only [puts_cons, puts_nil, Act.put, List.setIfInBounds_toArray, List.set_cons_zero, List.set_cons_succ]
      go_simp
      exact hK.out _ _ ⟨t6, t7, (.tuple #[.agg #[.bool b', .string s', .string t'], .int .i64 0]), (.tuple #[.agg #[.bool b', .string s', .string t'], .int .i64 0]), t9, t10, t3, t4, (by kernel_rfl), hb, fun h => h0 (getD_ne h (by decide : 3 ≠ 0)), fun h => h1 (getD_ne h (by decide : 3 ≠ 1)), fun _ => rfl, fun _ => rfl, fun h => h4 (getD_ne h (by decide : 3 ≠ 4)), fun h => h5 (getD_ne h (by decide : 3 ≠ 5)), fun h => by obtain ⟨B, x0, x1, x2, e, hB, kc, hf⟩ := h6 (getD_ne h (by decide : 3 ≠ 6)); exact ⟨B, x0, x1, x2, e, hB, kc, fun h => hf (getD_ne h (by decide : 3 ≠ 7))⟩, fun h => h8 (getD_ne h (by decide : 3 ≠ 8)), fun h => getD_set_true (s7_6 (getD_ne h (by decide : 3 ≠ 7)))⟩
    refine InvSteps.cons rfl (fun listed a w' K' hlt hun hdep hI hK => ?_) ?_
    · obtain ⟨t6, t7, t8, t5, t9, t10, t3, t4, ha, hb, h0, h1, h2, h3, h4, h5, h6, h8, s7_6⟩ := hI
      have H3 := hdep ⟨3, Ground.data⟩ (by simp) rfl
      clear hdep
      have g3 := h3 H3
      subst g3
      rw [ha]
      clear ha a
      simp only [puts_cons, puts_nil, Act.put, List.setIfInBounds_toArray, List.set_cons_zero, List.set_cons_succ]
      go_simp
      exact hK.out _ _ ⟨t6, t7, t8, (.tuple #[.agg #[.bool b', .string s', .string t'], .int .i64 0]), (.agg #[.bool b', .string s', .string t']), t10, t3, t4, (by kernel_rfl), hb, fun h => h0 (getD_ne h (by decide : 4 ≠ 0)), fun h => h1 (getD_ne h (by decide : 4 ≠ 1)), fun h => h2 (getD_ne h (by decide : 4 ≠ 2)), fun _ => rfl, fun _ => rfl, fun h => h5 (getD_ne h (by decide : 4 ≠ 5)), fun h => by obtain ⟨B, x0, x1, x2, e, hB, kc, hf⟩ := h6 (getD_ne h (by decide : 4 ≠ 6)); exact ⟨B, x0, x1, x2, e, hB, kc, fun h => hf (getD_ne h (by decide : 4 ≠ 7))⟩, fun h => h8 (getD_ne h (by decide : 4 ≠ 8)), fun h => getD_set_true (s7_6 (getD_ne h (by decide : 4 ≠ 7)))⟩
    refine InvSteps.cons rfl (fun listed a w' K' hlt hun hdep hI hK => ?_) ?_
    · obtain ⟨t6, t7, t8, t5, t9, t10, t3, t4, ha, hb, h0, h1, h2, h3, h4, h5, h6, h8, s7_6⟩ := hI
      have H3 := hdep ⟨3, Ground.data⟩ (by simp) rfl
      clear hdep
      have g3 := h3 H3
      subst g3
      rw [ha]
      clear ha a
      simp only [puts_cons, puts_nil, Act.put, List.setIfInBounds_toArray, List.set_cons_zero, List.set_cons_succ]
      go_simp
      exact hK.out _ _ ⟨t6, t7, t8, (.tuple #[.agg #[.bool b', .string s', .string t'], .int .i64 0]), t9, (.int .i64 0), t3, t4, (by kernel_rfl), hb, fun h => h0 (getD_ne h (by decide : 5 ≠ 0)), fun h => h1 (getD_ne h (by decide : 5 ≠ 1)), fun h => h2 (getD_ne h (by decide : 5 ≠ 2)), fun _ => rfl, fun h => h4 (getD_ne h (by decide : 5 ≠ 4)), fun _ => rfl, fun h => by obtain ⟨B, x0, x1, x2, e, hB, kc, hf⟩ := h6 (getD_ne h (by decide : 5 ≠ 6)); exact ⟨B, x0, x1, x2, e, hB, kc, fun h => hf (getD_ne h (by decide : 5 ≠ 7))⟩, fun h => h8 (getD_ne h (by decide : 5 ≠ 8)), fun h => getD_set_true (s7_6 (getD_ne h (by decide : 5 ≠ 7)))⟩
    refine InvSteps.cons rfl (fun listed a w' K' hlt hun hdep hI hK => ?_) ?_
    · obtain ⟨t6, t7, t8, t5, t9, t10, t3, t4, ha, hb, h0, h1, h2, h3, h4, h5, h6, h8, s7_6⟩ := hI
      clear hdep
      rw [ha]
      clear ha a
      simp only [puts_cons, puts_nil, Act.put, List.setIfInBounds_toArray, List.set_cons_zero, List.set_cons_succ]
      go_simp
      exact hK.out _ _ ⟨t6, t7, t8, t5, t9, t10, (.pointer (some ⟨w'.heap.size, 0, none⟩)), t4, (by kernel_rfl), hb.alloc hb.size _, fun h => h0 (getD_ne h (by decide : 6 ≠ 0)), fun h => h1 (getD_ne h (by decide : 6 ≠ 1)), fun h => h2 (getD_ne h (by decide : 6 ≠ 2)), fun h => h3 (getD_ne h (by decide : 6 ≠ 3)), fun h => h4 (getD_ne h (by decide : 6 ≠ 4)), fun h => h5 (getD_ne h (by decide : 6 ≠ 5)), fun _ => ⟨_, _, _, _, rfl, hb.size, cells_new w' #[Value.bool false, Value.string ⟨#[]⟩, Value.string ⟨#[]⟩] 25, fun h => by have h' := s7_6 (getD_ne h (by decide : 6 ≠ 7)); rw [hun] at h'; cases h'⟩, fun h => h8 (getD_ne h (by decide : 6 ≠ 8)), fun _ => getD_self hlt⟩
    refine InvSteps.cons rfl (fun listed a w' K' hlt hun hdep hI hK => ?_) ?_
    · obtain ⟨t6, t7, t8, t5, t9, t10, t3, t4, ha, hb, h0, h1, h2, h3, h4, h5, h6, h8, s7_6⟩ := hI
      have H6 := hdep ⟨6, Ground.data⟩ (by simp) rfl
      have H4 := hdep ⟨4, Ground.data⟩ (by simp) rfl
      have H2 := hdep ⟨2, Ground.chain⟩ (by simp) rfl
      have H0 := hdep ⟨0, Ground.phase⟩ (by simp) rfl
      have H1 := hdep ⟨1, Ground.phase⟩ (by simp) rfl
      have H3 := hdep ⟨3, Ground.phase⟩ (by simp) rfl
      clear hdep
      have g4 := h4 H4
      subst g4
      have g2 := h2 H2
      subst g2
      have g0 := h0 H0
      subst g0
      have g1 := h1 H1
      subst g1
      have g3 := h3 H3
      subst g3
      obtain ⟨B, x0, x1, x2, rfl, hB, kc, _⟩ := h6 H6
      have kl := kc.lt
      have k0 := (kc 0 _ rfl).1
      have z0 := (kc 0 _ rfl).2
      have k1 := (kc 1 _ rfl).1
      have z1 := (kc 1 _ rfl).2
      have k2 := (kc 2 _ rfl).1
      have z2 := (kc 2 _ rfl).2
      rw [ha]
      clear ha a
      simp only [puts_cons, puts_nil, Act.put, List.setIfInBounds_toArray, List.set_cons_zero, List.set_cons_succ]
      go_simp
      have yc0 : Cells (B) [.bool b', x1, x2] _ := (kc).set (k := 0) (Value.bool b') _ rfl
      have yc1 : Cells (B) [.bool b', .string s', x2] _ := (yc0).set (k := 1) (Value.string s') _ rfl
      have yc2 : Cells (B) [.bool b', .string s', .string t'] _ := (yc1).set (k := 2) (Value.string t') _ rfl
      exact hK.out _ _ ⟨(.agg #[.bool b, .string s]), (.agg #[.bool false, .string ⟨#[1]⟩]), (.tuple #[.agg #[.bool b', .string s', .string t'], .int .i64 0]), (.tuple #[.agg #[.bool b', .string s', .string t'], .int .i64 0]), (.agg #[.bool b', .string s', .string t']), t10, (.pointer (some ⟨B, 0, none⟩)), t4, (by kernel_rfl), (below_sets (below_sets (below_sets hb hB 0 (Value.bool b')) hB 1 (Value.string s')) hB 2 (Value.string t')), fun _ => rfl, fun _ => rfl, fun _ => rfl, fun _ => rfl, fun _ => rfl, fun h => h5 (getD_ne h (by decide : 7 ≠ 5)), fun _ => ⟨B, _, _, _, rfl, hB, yc2, fun _ => ⟨rfl, rfl, rfl⟩⟩, fun h => h8 (getD_ne h (by decide : 7 ≠ 8)), fun _ => getD_set_true H6⟩
    refine InvSteps.cons rfl (fun listed a w' K' hlt hun hdep hI hK => ?_) ?_
    · obtain ⟨t6, t7, t8, t5, t9, t10, t3, t4, ha, hb, h0, h1, h2, h3, h4, h5, h6, h8, s7_6⟩ := hI
      have H5 := hdep ⟨5, Ground.data⟩ (by simp) rfl
      have H7 := hdep ⟨7, Ground.chain⟩ (by simp) rfl
      have H0 := hdep ⟨0, Ground.phase⟩ (by simp) rfl
      have H1 := hdep ⟨1, Ground.phase⟩ (by simp) rfl
      have H2 := hdep ⟨2, Ground.phase⟩ (by simp) rfl
      have H3 := hdep ⟨3, Ground.phase⟩ (by simp) rfl
      have H4 := hdep ⟨4, Ground.phase⟩ (by simp) rfl
      have H6 := hdep ⟨6, Ground.phase⟩ (by simp) rfl
      clear hdep
      have g5 := h5 H5
      subst g5
      have g0 := h0 H0
      subst g0
      have g1 := h1 H1
      subst g1
      have g2 := h2 H2
      subst g2
      have g3 := h3 H3
      subst g3
      have g4 := h4 H4
      subst g4
      rw [ha]
      clear ha a
      simp only [puts_cons, puts_nil, Act.put, List.setIfInBounds_toArray, List.set_cons_zero, List.set_cons_succ]
      go_simp
      exact hK.out _ _ ⟨(.agg #[.bool b, .string s]), (.agg #[.bool false, .string ⟨#[1]⟩]), (.tuple #[.agg #[.bool b', .string s', .string t'], .int .i64 0]), (.tuple #[.agg #[.bool b', .string s', .string t'], .int .i64 0]), (.agg #[.bool b', .string s', .string t']), (.int .i64 0), t3, (.int .i64 0), (by kernel_rfl), hb, fun _ => rfl, fun _ => rfl, fun _ => rfl, fun _ => rfl, fun _ => rfl, fun _ => rfl, fun h => by obtain ⟨B, x0, x1, x2, e, hB, kc, hf⟩ := h6 (getD_ne h (by decide : 8 ≠ 6)); exact ⟨B, x0, x1, x2, e, hB, kc, fun h => hf (getD_ne h (by decide : 8 ≠ 7))⟩, fun _ => rfl, fun h => getD_set_true (s7_6 (getD_ne h (by decide : 8 ≠ 7)))⟩
    exact InvSteps.nil
  · intro listed a w1 hl hI
    obtain ⟨t6, t7, t8, t5, t9, t10, t3, t4, ha, hb, h0, h1, h2, h3, h4, h5, h6, h8, s7_6⟩ := hI
    have H0 := hl 0 (by show 0 < 9; omega)
    have H1 := hl 1 (by show 1 < 9; omega)
    have H2 := hl 2 (by show 2 < 9; omega)
    have H3 := hl 3 (by show 3 < 9; omega)
    have H4 := hl 4 (by show 4 < 9; omega)
    have H5 := hl 5 (by show 5 < 9; omega)
    have H6 := hl 6 (by show 6 < 9; omega)
    have H7 := hl 7 (by show 7 < 9; omega)
    have H8 := hl 8 (by show 8 < 9; omega)
    have g0 := h0 H0
    subst g0
    have g1 := h1 H1
    subst g1
    have g2 := h2 H2
    subst g2
    have g3 := h3 H3
    subst g3
    have g4 := h4 H4
    subst g4
    have g5 := h5 H5
    subst g5
    obtain ⟨B6, y6_0, y6_1, y6_2, rfl, r6, c6, f6⟩ := h6 H6
    obtain ⟨rfl, rfl, rfl⟩ := f6 H7
    have g8 := h8 H8
    subst g8
    clear H0 H1 H2 H3 H4 H5 H6 H7 H8 hl h0 h1 h2 h3 h4 h5 h6 h8 s7_6 f6 listed
    rw [ha]
    clear ha a
    simp only [puts_cons, puts_nil, Act.put, List.setIfInBounds_toArray, List.set_cons_zero, List.set_cons_succ]
    rw [sW0] at r6
    have f := HS0.out.1.trans (hb.mono HS0.out.1.size)
    have t0 := (HS0.out.2.1).below hb (HS0.out.2.1).lt
    have t1 := (HS0.out.2.2).below hb (HS0.out.2.2).lt
    have HS1 := Lib.hid (And.intro f (And.intro t0 (And.intro t1 c6)))
    clear f hb t0 t1 c6
    have l0 := (HS1.out.2.1).lt
    have l1 := (HS1.out.2.2.1).lt
    have m10 := (HS1.out.2.2.1 0 _ rfl).1
    have z10 := (HS1.out.2.2.1 0 _ rfl).2
    have m11 := (HS1.out.2.2.1 1 _ rfl).1
    have z11 := (HS1.out.2.2.1 1 _ rfl).2
    have m12 := (HS1.out.2.2.1 2 _ rfl).1
    have z12 := (HS1.out.2.2.1 2 _ rfl).2
    have l2 := (HS1.out.2.2.2).lt
    have m20 := (HS1.out.2.2.2 0 _ rfl).1
    have m21 := (HS1.out.2.2.2 1 _ rfl).1
    have m22 := (HS1.out.2.2.2 2 _ rfl).1
    go_wp2_with fail
    clear l0 l1 m10 z10 m11 z11 m12 z12 l2 m20 m21 m22
    obtain ⟨w2, hw2⟩ : ∃ V, (((w1.setCell ⟨w.heap.size + 1, 0, none⟩ (Value.bool b')).setCell ⟨w.heap.size + 1, 1, none⟩ (Value.string s')).setCell ⟨w.heap.size + 1, 2, none⟩ (Value.string t')) = V := ⟨_, rfl⟩
    have f : Below w.heap.size w w2 := by rw [← hw2]; exact (below_sets (below_sets (below_sets HS1.out.1 (by first | assumption | exact Nat.le_refl _ | omega) 0 (Value.bool b')) (by first | assumption | exact Nat.le_refl _ | omega) 1 (Value.string s')) (by first | assumption | exact Nat.le_refl _ | omega) 2 (Value.string t'))
    have t0 : Cells (w.heap.size) [.bool b, .string s] w2 := by rw [← hw2]; exact ((((((HS1.out.2.1).other (by omega))).other (by omega))).other (by omega))
    have t1 : Cells (w.heap.size + 1) [.bool b', .string s', .string t'] w2 := by rw [← hw2]; exact ((((((HS1.out.2.2.1).set (k := 0) (Value.bool b') _ rfl)).set (k := 1) (Value.string s') _ rfl)).set (k := 2) (Value.string t') _ rfl)
    have t2 : Cells (B6) [.bool b', .string s', .string t'] w2 := by rw [← hw2]; exact ((((((HS1.out.2.2.2).other (by omega))).other (by omega))).other (by omega))
    have HS2 := Lib.hid (And.intro f (And.intro t0 (And.intro t1 t2)))
    rw [hw2]
    clear hw2 f t0 t1 t2
    have y0 := (HS2.out.2.2.1 0 _ rfl).1
    have y1 := (HS2.out.2.2.1 1 _ rfl).1
    have y2 := (HS2.out.2.2.1 2 _ rfl).1
    refine bodyPost_ret (v := .agg #[.bool b', .string s', .string t']) (by simp [results, Tryz.results49, go_sem, y0, y1, y2]) rfl ⟨rfl, HS2.out.1⟩

theorem whole_q {b b' : Bool} {s s' t' : ByteArray} {n : Int} (hn : Val b s n) (m : RNam b' s' t' (n : Rat)) (w : World) :
    Calls Tryz.prog 49 #[.agg #[.bool b, .string s]] w fun e w' => e = .returned (.agg #[.bool b', .string s', .string t']) ∧ Below w.heap.size w w' :=
  whole_walk b s b' s' t' (fun W => of_lit 1 false ⟨#[1]⟩ rfl rfl (by omega) (by omega) W) (fun W => new_q (n := n) (d := 1) hn ⟨rfl, by show 1 ≤ 262144; omega⟩ (by omega) (by rw [show ((1 : Int) : Rat) = 1 from rfl]; grind) m W) w
end Go.Proofs.YtpdhffjdgnpikaaGreatDoor
