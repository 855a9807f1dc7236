/- The contract of the fractions' method number. -/
import Derived.Test.YtpdhffjdgnpikaaGreatDoorRatFit
import Derived.Test.YtpdhffjdgnpikaaGreatDoorInv
namespace Go.Proofs.YtpdhffjdgnpikaaGreatDoor
open Go.RowKit Go.Shelf

set_option maxHeartbeats 8000000 in
set_option maxRecDepth 100000 in
theorem fnumber_any (n : Int) (D : Nat) (h1 : -9223372036854775808 ≤ n) (h2 : n ≤ 9223372036854775807) (h4 : 0 < D) (h5 : D ≤ 9223372036854775807) {b' : Bool} {s' t' : ByteArray} (m : RNam b' s' t' (mkRat n D)) (w : World) :
    Calls Tryz.prog 64 #[.agg #[.int .i64 n, .int .i64 (D : Int)]] w fun e w' => e = .returned (.agg #[.bool b', .string s', .string t']) ∧ Below w.heap.size w w' := by
  obtain ⟨k, p, g, hg, hg0, hp0, hdk, hdp, e1, e2, e3⟩ := num_parts n D h4
  obtain ⟨N, hN⟩ : ∃ N, n.natAbs = N := ⟨_, rfl⟩
  have S1 := fun W => fsize_any n W h1 h2
  have S2 := fun W => fsize_any (D : Int) W (by omega) (by omega)
  rw [hN] at S1 hg
  rw [Int.natAbs_natCast] at S2
  have S3 := fun W => fgcd_any N D W (by omega) (by omega)
  rw [hg] at S3
  have hb : b' = decide (n < 0) := by
    rw [← m.sign]
    unfold ng
    rw [decide_eq_decide]
    exact (mk_parts n D h4).2.2
  obtain ⟨K, hK⟩ : ∃ K, k.natAbs = K := ⟨_, rfl⟩
  have hNg : N / g = K := by
    have h := hdk.1
    rw [← hN, ← hK, h, show (g : Int) * k + 0 = (g : Int) * k by omega, Int.natAbs_mul, Int.natAbs_natCast, Nat.mul_div_cancel_left _ hg0]
  have hDg : D / g = p ∧ D = g * p := by
    have h := hdp.1
    have h2 : D = g * p := by
      have h3 : (D : Int) = ((g * p : Nat) : Int) := by rw [Int.natCast_mul]; omega
      exact Int.ofNat_inj.1 h3
    exact ⟨by rw [h2, Nat.mul_div_cancel_left _ hg0], h2⟩
  have hs : s' = ⟨(be K).toArray⟩ := by rw [← m.num, e2, ← hK]; rfl
  have ht : t' = if p = 1 then ⟨#[]⟩ else ⟨(be p).toArray⟩ := by
    rw [← m.den]
    unfold rdn
    rw [e3]
  have hKb : K < 18446744073709551616 := by have := Nat.div_le_self N g; omega
  have hpb : p < 18446744073709551616 := by have := Nat.div_le_self D g; omega
  have R4 := Lib.hid (fun W => fdigits_any K W hKb)
  have R5 := Lib.hid (fun W => fdigits_any p W hpb)
  have HDG := Lib.hid hDg
  have q1 : ((N : Int)).tdiv (g : Int) = (K : Int) := by rw [Int.tdiv_eq_ediv_of_nonneg (by omega), ← hNg, Int.natCast_ediv]
  have q2 : ((D : Int)).tdiv (g : Int) = (p : Int) := by rw [Int.tdiv_eq_ediv_of_nonneg (by omega), ← hDg.1, Int.natCast_ediv]
  have q3 : (N : Int) / (g : Int) = (K : Int) := by rw [← hNg, Int.natCast_ediv]
  have q4 : (D : Int) / (g : Int) = (p : Int) := by rw [← hDg.1, Int.natCast_ediv]
  have q5 : IntKind.u64.wrap (K : Int) = (K : Int) := wrapU _ hKb
  have q6 : IntKind.u64.wrap (p : Int) = (p : Int) := wrapU _ hpb
  have q7 : ¬ (g : Int) = 0 := by omega
  obtain ⟨sk, hsk⟩ : ∃ x : ByteArray, (⟨(be K).toArray⟩ : ByteArray) = x := ⟨_, rfl⟩
  obtain ⟨sp, hsp⟩ : ∃ x : ByteArray, (⟨(be p).toArray⟩ : ByteArray) = x := ⟨_, rfl⟩
  rw [hsk] at R4 hs
  rw [hsp] at R5 ht
  subst hb
  subst hs
  subst ht
  clear hDg hsk hsp hNg hK hN hdk hdp e1 e2 e3 m hg hKb hpb
  have R1 := Lib.hid (fun W => (S1 W).mono (fun e w' h => (⟨h.1, h.2 ▸ Below.refl _ _⟩ : e = _ ∧ Below W.heap.size W w')))
  have R2 := Lib.hid (fun W => (S2 W).mono (fun e w' h => (⟨h.1, h.2 ▸ Below.refl _ _⟩ : e = _ ∧ Below W.heap.size W w')))
  have R3 := Lib.hid S3
  clear S1 S2 S3
  go_enter Tryz.func64, Tryz.ntmps64
  go_wp2_with fail
  obtain ⟨W0, hW0⟩ : ∃ V, ((w.alloc (Obj.cells #[Value.int .i64 n, Value.int .i64 (D : Int)] 63)).alloc (Obj.cells #[Value.bool false, Value.string ⟨#[]⟩, Value.string ⟨#[]⟩] 25)) = V := ⟨_, rfl⟩
  have sW0 : W0.heap.size = w.heap.size + 1 + 1 := by rw [← hW0]; simp
  have k0 : Cells (w.heap.size) [.int .i64 n, .int .i64 (D : Int)] W0 := by
    rw [← hW0]
    have h := cells_new w #[.int .i64 n, .int .i64 (D : Int)] 63
    exact (h.alloc (by simp; try omega) _)
  have k1 : Cells (w.heap.size + 1) [.bool false, .string ⟨#[]⟩, .string ⟨#[]⟩] W0 := by
    rw [← hW0]
    have h := cells_new (w.alloc (Obj.cells #[Value.int .i64 n, Value.int .i64 (D : Int)] 63)) #[.bool false, .string ⟨#[]⟩, .string ⟨#[]⟩] 25
    simp only [World.size_alloc] at h
    exact h
  have bW0 : Below w.heap.size w W0 := by
    rw [← hW0]
    exact (((Below.refl _ _).alloc (Nat.le_refl _) _).alloc (by simp; try omega) _)
  rw [hW0]
  clear hW0
  have l0 := k0.lt
  have m00 := (k0 0 _ rfl).1
  have m01 := (k0 1 _ rfl).1
  have l1 := k1.lt
  have HS0 := Lib.hid (And.intro bW0 (And.intro k0 k1))
  clear bW0 k0 k1
  have tok1 : True := trivial
  have tok2 : True := trivial
  have hRb : w.heap.size + 1 ≤ W0.heap.size := by omega
  go_region_held3 (fun w' => ∀ (a o : Nat), a < w.heap.size + 1 → w'.cell? ⟨a, o, none⟩ = W0.cell? ⟨a, o, none⟩) (first | with_reducible assumption | (intro _ _ _; rfl) | (repeat' (first | with_reducible assumption | with_reducible exact keepN_refl _ _ | with_reducible (refine keepN_drew ?_) | with_reducible (refine keepN_set ?_ ?_) | with_reducible (refine keepN_alloc ?_ ?_) | exact Nat.le_refl _ | omega | (intro _ _ _; rfl))))
    (first | (go_at_call 112; have _t := tok1; clear tok1; refine (R1.out _).mono ?_; rintro e u1 ⟨rfl, d1⟩; have E1 := Lib.hid (d1); have kS1 : ∀ (a o : Nat), a < w.heap.size + 1 → u1.cell? ⟨a, o, none⟩ = W0.cell? ⟨a, o, none⟩ := fun a o h => E1.out.cell (p := ⟨a, o, none⟩) (Nat.lt_of_lt_of_le h hRb); have hz1 : W0.heap.size ≤ u1.heap.size := E1.out.size; clear d1) | (go_at_call 112; have _t := tok2; clear tok2; refine (R2.out _).mono ?_; rintro e u2 ⟨rfl, d2⟩; have E2 := Lib.hid (E1.out.trans (d2.mono E1.out.size)); have kS2 : ∀ (a o : Nat), a < w.heap.size + 1 → u2.cell? ⟨a, o, none⟩ = W0.cell? ⟨a, o, none⟩ := fun a o h => E2.out.cell (p := ⟨a, o, none⟩) (Nat.lt_of_lt_of_le h hRb); have hz2 : W0.heap.size ≤ u2.heap.size := E2.out.size; clear d2))
  clear l0 l1 m00 m01
  have f := HS0.out.1.trans ((((Below.refl W0.heap.size W0).drew).trans E2.out).mono HS0.out.1.size)
  have t0 : Cells (w.heap.size) [.int .i64 n, .int .i64 (D : Int)] u2 := (show Cells _ _ W0.drew from HS0.out.2.1).below E2.out (HS0.out.2.1).lt
  have t1 : Cells (w.heap.size + 1) [.bool false, .string ⟨#[]⟩, .string ⟨#[]⟩] u2 := (show Cells _ _ W0.drew from HS0.out.2.2).below E2.out (HS0.out.2.2).lt
  have HS1 := Lib.hid (And.intro f (And.intro t0 t1))
  clear f t0 t1 E1 kS1 hz1 E2 kS2 hz2 hRb
  go_wp2_with fail
  refine (R3.out _).mono ?_
  rintro e w3 ⟨rfl, c⟩
  have f := HS1.out.1.trans (c.mono HS1.out.1.size)
  have t0 := (HS1.out.2.1).below c (HS1.out.2.1).lt
  have t1 := (HS1.out.2.2).below c (HS1.out.2.2).lt
  have HS2 := Lib.hid (And.intro f (And.intro t0 t1))
  clear c f t0 t1
  have l0 := (HS2.out.2.1).lt
  have m00 := (HS2.out.2.1 0 _ rfl).1
  have m01 := (HS2.out.2.1 1 _ rfl).1
  have l1 := (HS2.out.2.2).lt
  go_wp2_with fail
  clear l0 l1 m00 m01
  refine wp_region_invA (fun a listed a' w' => ∃ t16 t17 t18 t19 t20 t21 t22 t23 t6 : Value, a' = puts a [(16, t16), (17, t17), (18, t18), (19, t19), (20, t20), (21, t21), (22, t22), (23, t23), (6, t6)] ∧ Below (w3.heap.size) w3 w' ∧ (listed.getD 0 false = true → t16 = .pointer (some ⟨w.heap.size, 0, none⟩)) ∧ (listed.getD 1 false = true → t17 = .int .i64 n) ∧ (listed.getD 2 false = true → t18 = .bool (decide (n < 0))) ∧ (listed.getD 3 false = true → t19 = .int .u64 (N : Int)) ∧ (listed.getD 4 false = true → t20 = .int .u64 (g : Int)) ∧ (listed.getD 5 false = true → t21 = .int .u64 (K : Int)) ∧ (listed.getD 6 false = true → t22 = .string s') ∧ (listed.getD 7 false = true → t23 = .agg #[.bool (decide (n < 0)), .string s', .string ⟨#[]⟩]) ∧ (listed.getD 8 false = true → ∃ (B : Nat) (x0 x1 x2 : Value), t6 = .pointer (some ⟨B, 0, none⟩) ∧ w3.heap.size ≤ B ∧ Cells B [x0, x1, x2] w' ∧ (listed.getD 9 false = true → x0 = .bool (decide (n < 0)) ∧ x1 = .string s' ∧ x2 = .string ⟨#[]⟩)) ∧ (listed.getD 9 false = true → listed.getD 8 false = true)) (by kernel_rfl) (by kernel_rfl) ?_ ?_ ?_
  · exact ⟨undef, undef, undef, undef, undef, undef, undef, undef, undef, (by kernel_rfl), (Below.refl _ _).drew, (fun h => getD_rep h), (fun h => getD_rep h), (fun h => getD_rep h), (fun h => getD_rep h), (fun h => getD_rep h), (fun h => getD_rep h), (fun h => getD_rep h), (fun h => getD_rep h), (fun h => getD_rep h), (fun h => getD_rep h)⟩
  · show InvSteps _ _ _ _ _ [0, 1, 2, 3, 4, 5, 6, 7, 8, 9]
    refine InvSteps.cons rfl (fun listed a w' K' hlt hun hdep hI hK => ?_) ?_
    · obtain ⟨t16, t17, t18, t19, t20, t21, t22, t23, t6, ha, hb, h0, h1, h2, h3, h4, h5, h6, h7, h8, s9_8⟩ := hI
      clear hdep
      rw [ha]
      clear ha a
      simp only [puts_cons, puts_nil, Act.put, List.setIfInBounds_toArray, List.set_cons_zero, List.set_cons_succ]
      go_simp
      exact hK.out _ _ ⟨(.pointer (some ⟨w.heap.size, 0, none⟩)), t17, t18, t19, t20, t21, t22, t23, t6, (by kernel_rfl), hb, fun _ => rfl, fun h => h1 (getD_ne h (by decide : 0 ≠ 1)), fun h => h2 (getD_ne h (by decide : 0 ≠ 2)), fun h => h3 (getD_ne h (by decide : 0 ≠ 3)), fun h => h4 (getD_ne h (by decide : 0 ≠ 4)), fun h => h5 (getD_ne h (by decide : 0 ≠ 5)), fun h => h6 (getD_ne h (by decide : 0 ≠ 6)), fun h => h7 (getD_ne h (by decide : 0 ≠ 7)), fun h => by obtain ⟨B, x0, x1, x2, e, hB, kc, hf⟩ := h8 (getD_ne h (by decide : 0 ≠ 8)); exact ⟨B, x0, x1, x2, e, hB, kc, fun h => hf (getD_ne h (by decide : 0 ≠ 9))⟩, fun h => getD_set_true (s9_8 (getD_ne h (by decide : 0 ≠ 9)))⟩
    refine InvSteps.cons rfl (fun listed a w' K' hlt hun hdep hI hK => ?_) ?_
    · obtain ⟨t16, t17, t18, t19, t20, t21, t22, t23, t6, ha, hb, h0, h1, h2, h3, h4, h5, h6, h7, h8, s9_8⟩ := hI
      have H0 := hdep ⟨0, Ground.data⟩ (by simp) rfl
      clear hdep
      have g0 := h0 H0
      subst g0
      have kc := (HS2.out.2.1).below hb (by have := (HS2.out.2.1).lt; omega)
      have kl := kc.lt
      have k0 := (kc 0 _ rfl).1
      have k1 := (kc 1 _ rfl).1
      clear kc
      rw [ha]
      clear ha a
      simp only [puts_cons, puts_nil, Act.put, List.setIfInBounds_toArray, List.set_cons_zero, List.set_cons_succ]
      go_simp
      exact hK.out _ _ ⟨(.pointer (some ⟨w.heap.size, 0, none⟩)), (.int .i64 n), t18, t19, t20, t21, t22, t23, t6, (by kernel_rfl), hb, fun _ => rfl, fun _ => rfl, fun h => h2 (getD_ne h (by decide : 1 ≠ 2)), fun h => h3 (getD_ne h (by decide : 1 ≠ 3)), fun h => h4 (getD_ne h (by decide : 1 ≠ 4)), fun h => h5 (getD_ne h (by decide : 1 ≠ 5)), fun h => h6 (getD_ne h (by decide : 1 ≠ 6)), fun h => h7 (getD_ne h (by decide : 1 ≠ 7)), fun h => by obtain ⟨B, x0, x1, x2, e, hB, kc, hf⟩ := h8 (getD_ne h (by decide : 1 ≠ 8)); exact ⟨B, x0, x1, x2, e, hB, kc, fun h => hf (getD_ne h (by decide : 1 ≠ 9))⟩, fun h => getD_set_true (s9_8 (getD_ne h (by decide : 1 ≠ 9)))⟩
    refine InvSteps.cons rfl (fun listed a w' K' hlt hun hdep hI hK => ?_) ?_
    · obtain ⟨t16, t17, t18, t19, t20, t21, t22, t23, t6, ha, hb, h0, h1, h2, h3, h4, h5, h6, h7, h8, s9_8⟩ := hI
      have H1 := hdep ⟨1, Ground.data⟩ (by simp) rfl
      clear hdep
      have g1 := h1 H1
      subst g1
      rw [ha]
      clear ha a
      simp only [puts_cons, puts_nil, Act.put, List.setIfInBounds_toArray, List.set_cons_zero, List.set_cons_succ]
      go_simp
      exact hK.out _ _ ⟨t16, (.int .i64 n), (.bool (decide (n < 0))), t19, t20, t21, t22, t23, t6, (by kernel_rfl), hb, fun h => h0 (getD_ne h (by decide : 2 ≠ 0)), fun _ => rfl, fun _ => rfl, fun h => h3 (getD_ne h (by decide : 2 ≠ 3)), fun h => h4 (getD_ne h (by decide : 2 ≠ 4)), fun h => h5 (getD_ne h (by decide : 2 ≠ 5)), fun h => h6 (getD_ne h (by decide : 2 ≠ 6)), fun h => h7 (getD_ne h (by decide : 2 ≠ 7)), fun h => by obtain ⟨B, x0, x1, x2, e, hB, kc, hf⟩ := h8 (getD_ne h (by decide : 2 ≠ 8)); exact ⟨B, x0, x1, x2, e, hB, kc, fun h => hf (getD_ne h (by decide : 2 ≠ 9))⟩, fun h => getD_set_true (s9_8 (getD_ne h (by decide : 2 ≠ 9)))⟩
    refine InvSteps.cons rfl (fun listed a w' K' hlt hun hdep hI hK => ?_) ?_
    · obtain ⟨t16, t17, t18, t19, t20, t21, t22, t23, t6, ha, hb, h0, h1, h2, h3, h4, h5, h6, h7, h8, s9_8⟩ := hI
      clear hdep
      rw [ha]
      clear ha a
      simp only [puts_cons, puts_nil, Act.put, List.setIfInBounds_toArray, List.set_cons_zero, List.set_cons_succ]
      go_simp
      exact hK.out _ _ ⟨t16, t17, t18, (.int .u64 (N : Int)), t20, t21, t22, t23, t6, (by kernel_rfl), hb, fun h => h0 (getD_ne h (by decide : 3 ≠ 0)), fun h => h1 (getD_ne h (by decide : 3 ≠ 1)), fun h => h2 (getD_ne h (by decide : 3 ≠ 2)), fun _ => rfl, fun h => h4 (getD_ne h (by decide : 3 ≠ 4)), fun h => h5 (getD_ne h (by decide : 3 ≠ 5)), fun h => h6 (getD_ne h (by decide : 3 ≠ 6)), fun h => h7 (getD_ne h (by decide : 3 ≠ 7)), fun h => by obtain ⟨B, x0, x1, x2, e, hB, kc, hf⟩ := h8 (getD_ne h (by decide : 3 ≠ 8)); exact ⟨B, x0, x1, x2, e, hB, kc, fun h => hf (getD_ne h (by decide : 3 ≠ 9))⟩, fun h => getD_set_true (s9_8 (getD_ne h (by decide : 3 ≠ 9)))⟩
    refine InvSteps.cons rfl (fun listed a w' K' hlt hun hdep hI hK => ?_) ?_
    · obtain ⟨t16, t17, t18, t19, t20, t21, t22, t23, t6, ha, hb, h0, h1, h2, h3, h4, h5, h6, h7, h8, s9_8⟩ := hI
      clear hdep
      rw [ha]
      clear ha a
      simp only [puts_cons, puts_nil, Act.put, List.setIfInBounds_toArray, List.set_cons_zero, List.set_cons_succ]
      go_simp
      exact hK.out _ _ ⟨t16, t17, t18, t19, (.int .u64 (g : Int)), t21, t22, t23, t6, (by kernel_rfl), hb, fun h => h0 (getD_ne h (by decide : 4 ≠ 0)), fun h => h1 (getD_ne h (by decide : 4 ≠ 1)), fun h => h2 (getD_ne h (by decide : 4 ≠ 2)), fun h => h3 (getD_ne h (by decide : 4 ≠ 3)), fun _ => rfl, fun h => h5 (getD_ne h (by decide : 4 ≠ 5)), fun h => h6 (getD_ne h (by decide : 4 ≠ 6)), fun h => h7 (getD_ne h (by decide : 4 ≠ 7)), fun h => by obtain ⟨B, x0, x1, x2, e, hB, kc, hf⟩ := h8 (getD_ne h (by decide : 4 ≠ 8)); exact ⟨B, x0, x1, x2, e, hB, kc, fun h => hf (getD_ne h (by decide : 4 ≠ 9))⟩, fun h => getD_set_true (s9_8 (getD_ne h (by decide : 4 ≠ 9)))⟩
    refine InvSteps.cons rfl (fun listed a w' K' hlt hun hdep hI hK => ?_) ?_
    · obtain ⟨t16, t17, t18, t19, t20, t21, t22, t23, t6, ha, hb, h0, h1, h2, h3, h4, h5, h6, h7, h8, s9_8⟩ := hI
      have H3 := hdep ⟨3, Ground.data⟩ (by simp) rfl
      have H4 := hdep ⟨4, Ground.data⟩ (by simp) rfl
      clear hdep
      have g3 := h3 H3
      subst g3
      have g4 := h4 H4
      subst g4
      rw [ha]
      clear ha a
      simp only [puts_cons, puts_nil, Act.put, List.setIfInBounds_toArray, List.set_cons_zero, List.set_cons_succ]
      go_simp
      go_wp2_with fail
      exact hK.out _ _ ⟨t16, t17, t18, (.int .u64 (N : Int)), (.int .u64 (g : Int)), (.int .u64 (K : Int)), t22, t23, t6, (by kernel_rfl), hb, fun h => h0 (getD_ne h (by decide : 5 ≠ 0)), fun h => h1 (getD_ne h (by decide : 5 ≠ 1)), fun h => h2 (getD_ne h (by decide : 5 ≠ 2)), fun _ => rfl, fun _ => rfl, fun _ => rfl, fun h => h6 (getD_ne h (by decide : 5 ≠ 6)), fun h => h7 (getD_ne h (by decide : 5 ≠ 7)), fun h => by obtain ⟨B, x0, x1, x2, e, hB, kc, hf⟩ := h8 (getD_ne h (by decide : 5 ≠ 8)); exact ⟨B, x0, x1, x2, e, hB, kc, fun h => hf (getD_ne h (by decide : 5 ≠ 9))⟩, fun h => getD_set_true (s9_8 (getD_ne h (by decide : 5 ≠ 9)))⟩
    refine InvSteps.cons rfl (fun listed a w' K' hlt hun hdep hI hK => ?_) ?_
    · obtain ⟨t16, t17, t18, t19, t20, t21, t22, t23, t6, ha, hb, h0, h1, h2, h3, h4, h5, h6, h7, h8, s9_8⟩ := hI
      have H5 := hdep ⟨5, Ground.data⟩ (by simp) rfl
      clear hdep
      have g5 := h5 H5
      subst g5
      rw [ha]
      clear ha a
      simp only [puts_cons, puts_nil, Act.put, List.setIfInBounds_toArray, List.set_cons_zero, List.set_cons_succ]
      go_simp
      refine (R4.out _).mono ?_
      rintro e u ⟨rfl, c⟩
      go_simp
      exact hK.out _ _ ⟨t16, t17, t18, t19, t20, (.int .u64 (K : Int)), (.string s'), t23, t6, (by kernel_rfl), hb.trans (c.mono hb.size), fun h => h0 (getD_ne h (by decide : 6 ≠ 0)), fun h => h1 (getD_ne h (by decide : 6 ≠ 1)), fun h => h2 (getD_ne h (by decide : 6 ≠ 2)), fun h => h3 (getD_ne h (by decide : 6 ≠ 3)), fun h => h4 (getD_ne h (by decide : 6 ≠ 4)), fun _ => rfl, fun _ => rfl, fun h => h7 (getD_ne h (by decide : 6 ≠ 7)), fun h => by obtain ⟨B, x0, x1, x2, e, hB, kc, hf⟩ := h8 (getD_ne h (by decide : 6 ≠ 8)); exact ⟨B, x0, x1, x2, e, hB, kc.below c kc.lt, fun h => hf (getD_ne h (by decide : 6 ≠ 9))⟩, fun h => getD_set_true (s9_8 (getD_ne h (by decide : 6 ≠ 9)))⟩
    refine InvSteps.cons rfl (fun listed a w' K' hlt hun hdep hI hK => ?_) ?_
    · obtain ⟨t16, t17, t18, t19, t20, t21, t22, t23, t6, ha, hb, h0, h1, h2, h3, h4, h5, h6, h7, h8, s9_8⟩ := hI
      have H2 := hdep ⟨2, Ground.data⟩ (by simp) rfl
      have H6 := hdep ⟨6, Ground.data⟩ (by simp) rfl
      clear hdep
      have g2 := h2 H2
      subst g2
      have g6 := h6 H6
      subst g6
      rw [ha]
      clear ha a
      simp only [puts_cons, puts_nil, Act.put, List.setIfInBounds_toArray, List.set_cons_zero, List.set_cons_succ]
      go_simp
      exact hK.out _ _ ⟨t16, t17, (.bool (decide (n < 0))), t19, t20, t21, (.string s'), (.agg #[.bool (decide (n < 0)), .string s', .string ⟨#[]⟩]), t6, (by kernel_rfl), hb, fun h => h0 (getD_ne h (by decide : 7 ≠ 0)), fun h => h1 (getD_ne h (by decide : 7 ≠ 1)), fun _ => rfl, fun h => h3 (getD_ne h (by decide : 7 ≠ 3)), fun h => h4 (getD_ne h (by decide : 7 ≠ 4)), fun h => h5 (getD_ne h (by decide : 7 ≠ 5)), fun _ => rfl, fun _ => rfl, fun h => by obtain ⟨B, x0, x1, x2, e, hB, kc, hf⟩ := h8 (getD_ne h (by decide : 7 ≠ 8)); exact ⟨B, x0, x1, x2, e, hB, kc, fun h => hf (getD_ne h (by decide : 7 ≠ 9))⟩, fun h => getD_set_true (s9_8 (getD_ne h (by decide : 7 ≠ 9)))⟩
    refine InvSteps.cons rfl (fun listed a w' K' hlt hun hdep hI hK => ?_) ?_
    · obtain ⟨t16, t17, t18, t19, t20, t21, t22, t23, t6, ha, hb, h0, h1, h2, h3, h4, h5, h6, h7, h8, s9_8⟩ := hI
      clear hdep
      rw [ha]
      clear ha a
      simp only [puts_cons, puts_nil, Act.put, List.setIfInBounds_toArray, List.set_cons_zero, List.set_cons_succ]
      go_simp
      exact hK.out _ _ ⟨t16, t17, t18, t19, t20, t21, t22, t23, (.pointer (some ⟨w'.heap.size, 0, none⟩)), (by kernel_rfl), hb.alloc hb.size _, fun h => h0 (getD_ne h (by decide : 8 ≠ 0)), fun h => h1 (getD_ne h (by decide : 8 ≠ 1)), fun h => h2 (getD_ne h (by decide : 8 ≠ 2)), fun h => h3 (getD_ne h (by decide : 8 ≠ 3)), fun h => h4 (getD_ne h (by decide : 8 ≠ 4)), fun h => h5 (getD_ne h (by decide : 8 ≠ 5)), fun h => h6 (getD_ne h (by decide : 8 ≠ 6)), fun h => h7 (getD_ne h (by decide : 8 ≠ 7)), fun _ => ⟨_, _, _, _, rfl, hb.size, cells_new w' #[Value.bool false, Value.string ⟨#[]⟩, Value.string ⟨#[]⟩] 25, fun h => by have h' := s9_8 (getD_ne h (by decide : 8 ≠ 9)); rw [hun] at h'; cases h'⟩, fun _ => getD_self hlt⟩
    refine InvSteps.cons rfl (fun listed a w' K' hlt hun hdep hI hK => ?_) ?_
    · obtain ⟨t16, t17, t18, t19, t20, t21, t22, t23, t6, ha, hb, h0, h1, h2, h3, h4, h5, h6, h7, h8, s9_8⟩ := hI
      have H8 := hdep ⟨8, Ground.data⟩ (by simp) rfl
      have H7 := hdep ⟨7, Ground.data⟩ (by simp) rfl
      have H6 := hdep ⟨6, Ground.chain⟩ (by simp) rfl
      have H0 := hdep ⟨0, Ground.phase⟩ (by simp) rfl
      have H1 := hdep ⟨1, Ground.phase⟩ (by simp) rfl
      have H2 := hdep ⟨2, Ground.phase⟩ (by simp) rfl
      have H3 := hdep ⟨3, Ground.phase⟩ (by simp) rfl
      have H4 := hdep ⟨4, Ground.phase⟩ (by simp) rfl
      have H5 := hdep ⟨5, Ground.phase⟩ (by simp) rfl
      clear hdep
      have g7 := h7 H7
      subst g7
      have g6 := h6 H6
      subst g6
      have g0 := h0 H0
      subst g0
      have g1 := h1 H1
      subst g1
      have g2 := h2 H2
      subst g2
      have g3 := h3 H3
      subst g3
      have g4 := h4 H4
      subst g4
      have g5 := h5 H5
      subst g5
      obtain ⟨B, x0, x1, x2, rfl, hB, kc, _⟩ := h8 H8
      have kl := kc.lt
      have k0 := (kc 0 _ rfl).1
      have z0 := (kc 0 _ rfl).2
      have k1 := (kc 1 _ rfl).1
      have z1 := (kc 1 _ rfl).2
      have k2 := (kc 2 _ rfl).1
      have z2 := (kc 2 _ rfl).2
      rw [ha]
      clear ha a
      simp only [puts_cons, puts_nil, Act.put, List.setIfInBounds_toArray, List.set_cons_zero, List.set_cons_succ]
      go_simp
      have yc0 : Cells (B) [.bool (decide (n < 0)), x1, x2] _ := (kc).set (k := 0) (Value.bool (decide (n < 0))) _ rfl
      have yc1 : Cells (B) [.bool (decide (n < 0)), .string s', x2] _ := (yc0).set (k := 1) (Value.string s') _ rfl
      have yc2 : Cells (B) [.bool (decide (n < 0)), .string s', .string ⟨#[]⟩] _ := (yc1).set (k := 2) (Value.string ⟨#[]⟩) _ rfl
      exact hK.out _ _ ⟨(.pointer (some ⟨w.heap.size, 0, none⟩)), (.int .i64 n), (.bool (decide (n < 0))), (.int .u64 (N : Int)), (.int .u64 (g : Int)), (.int .u64 (K : Int)), (.string s'), (.agg #[.bool (decide (n < 0)), .string s', .string ⟨#[]⟩]), (.pointer (some ⟨B, 0, none⟩)), (by kernel_rfl), (below_sets (below_sets (below_sets hb hB 0 (Value.bool (decide (n < 0)))) hB 1 (Value.string s')) hB 2 (Value.string ⟨#[]⟩)), fun _ => rfl, fun _ => rfl, fun _ => rfl, fun _ => rfl, fun _ => rfl, fun _ => rfl, fun _ => rfl, fun _ => rfl, fun _ => ⟨B, _, _, _, rfl, hB, yc2, fun _ => ⟨rfl, rfl, rfl⟩⟩, fun _ => getD_set_true H8⟩
    exact InvSteps.nil
  · intro listed a WN hl hI
    obtain ⟨t16, t17, t18, t19, t20, t21, t22, t23, t6, ha, hb, h0, h1, h2, h3, h4, h5, h6, h7, h8, s9_8⟩ := hI
    have H0 := hl 0 (by show 0 < 10; omega)
    have H1 := hl 1 (by show 1 < 10; omega)
    have H2 := hl 2 (by show 2 < 10; omega)
    have H3 := hl 3 (by show 3 < 10; omega)
    have H4 := hl 4 (by show 4 < 10; omega)
    have H5 := hl 5 (by show 5 < 10; omega)
    have H6 := hl 6 (by show 6 < 10; omega)
    have H7 := hl 7 (by show 7 < 10; omega)
    have H8 := hl 8 (by show 8 < 10; omega)
    have H9 := hl 9 (by show 9 < 10; omega)
    have g0 := h0 H0
    subst g0
    have g1 := h1 H1
    subst g1
    have g2 := h2 H2
    subst g2
    have g3 := h3 H3
    subst g3
    have g4 := h4 H4
    subst g4
    have g5 := h5 H5
    subst g5
    have g6 := h6 H6
    subst g6
    have g7 := h7 H7
    subst g7
    obtain ⟨B8, y8_0, y8_1, y8_2, rfl, r8, c8, f8⟩ := h8 H8
    obtain ⟨rfl, rfl, rfl⟩ := f8 H9
    clear H0 H1 H2 H3 H4 H5 H6 H7 H8 H9 hl h0 h1 h2 h3 h4 h5 h6 h7 h8 s9_8 f8 listed
    rw [ha]
    clear ha a
    simp only [puts_cons, puts_nil, Act.put, List.setIfInBounds_toArray, List.set_cons_zero, List.set_cons_succ]
    have f := HS2.out.1.trans (hb.mono HS2.out.1.size)
    have t0 := (HS2.out.2.2).below hb (HS2.out.2.2).lt
    have ne : ¬ w.heap.size + 1 = B8 := by have := (HS2.out.2.2).lt; omega
    have gB : w.heap.size ≤ B8 := Nat.le_trans HS2.out.1.size r8
    have HS3 := Lib.hid (And.intro f (And.intro t0 c8))
    clear f t0 c8 r8 hb
    by_cases hp : p = 1
    · have hDq : (D : Int) = (g : Int) := by rw [HDG.out.2, hp, Nat.mul_one]
      have l0 := (HS3.out.2.1).lt
      have m00 := (HS3.out.2.1 0 _ rfl).1
      have z00 := (HS3.out.2.1 0 _ rfl).2
      have m01 := (HS3.out.2.1 1 _ rfl).1
      have z01 := (HS3.out.2.1 1 _ rfl).2
      have m02 := (HS3.out.2.1 2 _ rfl).1
      have z02 := (HS3.out.2.1 2 _ rfl).2
      have l1 := (HS3.out.2.2).lt
      have m10 := (HS3.out.2.2 0 _ rfl).1
      have m11 := (HS3.out.2.2 1 _ rfl).1
      have m12 := (HS3.out.2.2 2 _ rfl).1
      go_wp2_with fail
      clear l0 m00 z00 m01 z01 m02 z02 l1 m10 m11 m12
      obtain ⟨WR, hWR⟩ : ∃ V, (((WN.setCell ⟨w.heap.size + 1, 0, none⟩ (Value.bool (decide (n < 0)))).setCell ⟨w.heap.size + 1, 1, none⟩ (Value.string s')).setCell ⟨w.heap.size + 1, 2, none⟩ (Value.string ⟨#[]⟩)) = V := ⟨_, rfl⟩
      have f : Below w.heap.size w WR := by rw [← hWR]; exact (below_sets (below_sets (below_sets HS3.out.1 (by first | assumption | exact Nat.le_refl _ | omega) 0 (Value.bool (decide (n < 0)))) (by first | assumption | exact Nat.le_refl _ | omega) 1 (Value.string s')) (by first | assumption | exact Nat.le_refl _ | omega) 2 (Value.string ⟨#[]⟩))
      have t0 : Cells (w.heap.size + 1) [.bool (decide (n < 0)), .string s', .string ⟨#[]⟩] WR := by rw [← hWR]; exact ((((((HS3.out.2.1).set (k := 0) (Value.bool (decide (n < 0))) _ rfl)).set (k := 1) (Value.string s') _ rfl)).set (k := 2) (Value.string ⟨#[]⟩) _ rfl)
      have t1 : Cells (B8) [.bool (decide (n < 0)), .string s', .string ⟨#[]⟩] WR := by rw [← hWR]; exact ((((((HS3.out.2.2).other (by omega))).other (by omega))).other (by omega))
      have HSR := Lib.hid (And.intro f (And.intro t0 t1))
      rw [hWR]
      clear hWR f t0 t1
      have y0 := (HSR.out.2.1 0 _ rfl).1
      have y1 := (HSR.out.2.1 1 _ rfl).1
      have y2 := (HSR.out.2.1 2 _ rfl).1
      refine bodyPost_ret (v := .agg #[.bool (decide (n < 0)), .string s', .string ⟨#[]⟩]) (by simp [results, Tryz.results64, go_sem, y0, y1, y2]) rfl ⟨rfl, HSR.out.1⟩
    · have hDq : ¬ (D : Int) = (g : Int) := fun e => hp (Nat.eq_of_mul_eq_mul_left hg0 (by have h9 := HDG.out.2; omega))
      go_wp2_with fail
      refine (R5.out _).mono ?_
      rintro e w5 ⟨rfl, c⟩
      have f := HS3.out.1.trans (c.mono HS3.out.1.size)
      have t0 := (HS3.out.2.1).below c (HS3.out.2.1).lt
      have t1 := (HS3.out.2.2).below c (HS3.out.2.2).lt
      have HS4 := Lib.hid (And.intro f (And.intro t0 t1))
      clear c f t0 t1
      have l0 := (HS4.out.2.1).lt
      have m00 := (HS4.out.2.1 0 _ rfl).1
      have z00 := (HS4.out.2.1 0 _ rfl).2
      have m01 := (HS4.out.2.1 1 _ rfl).1
      have z01 := (HS4.out.2.1 1 _ rfl).2
      have m02 := (HS4.out.2.1 2 _ rfl).1
      have z02 := (HS4.out.2.1 2 _ rfl).2
      have l1 := (HS4.out.2.2).lt
      have m10 := (HS4.out.2.2 0 _ rfl).1
      have z10 := (HS4.out.2.2 0 _ rfl).2
      have m11 := (HS4.out.2.2 1 _ rfl).1
      have z11 := (HS4.out.2.2 1 _ rfl).2
      have m12 := (HS4.out.2.2 2 _ rfl).1
      have z12 := (HS4.out.2.2 2 _ rfl).2
      go_wp2_with fail
      clear l0 m00 z00 m01 z01 m02 z02 l1 m10 z10 m11 z11 m12 z12
      obtain ⟨WB, hWB⟩ : ∃ V, (w5.setCell ⟨B8, 2, none⟩ (Value.string sp)) = V := ⟨_, rfl⟩
      have f : Below w.heap.size w WB := by rw [← hWB]; exact below_sets HS4.out.1 (by first | assumption | exact Nat.le_refl _ | omega) 2 (Value.string sp)
      have t0 : Cells (w.heap.size + 1) [.bool false, .string ⟨#[]⟩, .string ⟨#[]⟩] WB := by rw [← hWB]; exact (HS4.out.2.1).other (by omega)
      have t1 : Cells (B8) [.bool (decide (n < 0)), .string s', .string sp] WB := by rw [← hWB]; exact (HS4.out.2.2).set (k := 2) (Value.string sp) _ rfl
      have HS5 := Lib.hid (And.intro f (And.intro t0 t1))
      rw [hWB]
      clear hWB f t0 t1
      obtain ⟨WR, hWR⟩ : ∃ V, (((WB.setCell ⟨w.heap.size + 1, 0, none⟩ (Value.bool (decide (n < 0)))).setCell ⟨w.heap.size + 1, 1, none⟩ (Value.string s')).setCell ⟨w.heap.size + 1, 2, none⟩ (Value.string sp)) = V := ⟨_, rfl⟩
      have f : Below w.heap.size w WR := by rw [← hWR]; exact (below_sets (below_sets (below_sets HS5.out.1 (by first | assumption | exact Nat.le_refl _ | omega) 0 (Value.bool (decide (n < 0)))) (by first | assumption | exact Nat.le_refl _ | omega) 1 (Value.string s')) (by first | assumption | exact Nat.le_refl _ | omega) 2 (Value.string sp))
      have t0 : Cells (w.heap.size + 1) [.bool (decide (n < 0)), .string s', .string sp] WR := by rw [← hWR]; exact ((((((HS5.out.2.1).set (k := 0) (Value.bool (decide (n < 0))) _ rfl)).set (k := 1) (Value.string s') _ rfl)).set (k := 2) (Value.string sp) _ rfl)
      have t1 : Cells (B8) [.bool (decide (n < 0)), .string s', .string sp] WR := by rw [← hWR]; exact ((((((HS5.out.2.2).other (by omega))).other (by omega))).other (by omega))
      have HS6 := Lib.hid (And.intro f (And.intro t0 t1))
      rw [hWR]
      clear hWR f t0 t1
      have y0 := (HS6.out.2.1 0 _ rfl).1
      have y1 := (HS6.out.2.1 1 _ rfl).1
      have y2 := (HS6.out.2.1 2 _ rfl).1
      refine bodyPost_ret (v := .agg #[.bool (decide (n < 0)), .string s', .string sp]) (by simp [results, Tryz.results64, go_sem, y0, y1, y2]) rfl ⟨rfl, HS6.out.1⟩
end Go.Proofs.YtpdhffjdgnpikaaGreatDoor
