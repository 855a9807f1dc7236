/- The walk of narrowslaw02.RationalFloors. -/
import Derived.Test.YtpdhffjdgnpikaaGreatDoorRatWh
namespace Go.Proofs.YtpdhffjdgnpikaaGreatDoor
open Go.RowKit Go.Shelf

theorem rowR_cells1 {B : Nat} {n1 : Bool} {s1 t1 : ByteArray} {W : World} (h : Cells B [.bool n1, .string s1, .string t1] W) : RowR W B [(n1, s1, t1)] := by
  intro j hj
  have hj1 : j < 1 := hj
  obtain rfl : j = 0 := by omega
  exact ⟨(h 0 _ rfl).1, (h 1 _ rfl).1, (h 2 _ rfl).1⟩
set_option maxHeartbeats 16000000 in
set_option maxRecDepth 100000 in
theorem floors_great (b : Bool) (s t : ByteArray) (w : World) (htab : Tab w) (hs : s.size ≤ 9223372036854775807) (ht : t.size ≤ 9223372036854775807) (hg : ([(b, s, t)] : List (Bool × ByteArray × ByteArray)).any grt = true)
    (ca : ∀ W : World, Tab W → Calls Tryz.prog 14 #[] W fun e w' => e = .returned (.bool true) ∧ Below W.heap.size W w') :
    Calls Tryz.prog 9 #[.agg #[.bool b, .string s, .string t]] w fun e w' => e = .returned (.bool true) ∧ Below w.heap.size w w' := by
  have HT := Lib.hid htab
  have HG := Lib.hid hg
  have RA := Lib.hid ca
  have HS := Lib.hid (And.intro hs ht)
  clear htab hg ca hs ht
  go_enter Tryz.func9, Tryz.ntmps9
  go_wp2_with fail
  obtain ⟨W0, hW0⟩ : ∃ V, ((w.alloc (Obj.cells #[Value.bool b, Value.string s, Value.string t] 25)).alloc (Obj.cells #[Value.bool b, Value.string s, Value.string t] 25)) = V := ⟨_, rfl⟩
  have sW0 : W0.heap.size = w.heap.size + 1 + 1 := by rw [← hW0]; simp
  have k0 : Cells (w.heap.size) [.bool b, .string s, .string t] W0 := by
    rw [← hW0]
    have h := cells_new w #[.bool b, .string s, .string t] 25
    exact (h.alloc (by simp; try omega) _)
  have k1 : Cells (w.heap.size + 1) [.bool b, .string s, .string t] W0 := by
    rw [← hW0]
    have h := cells_new (w.alloc (Obj.cells #[Value.bool b, Value.string s, Value.string t] 25)) #[.bool b, .string s, .string t] 25
    simp only [World.size_alloc] at h
    exact h
  have bW0 : Below w.heap.size w W0 := by
    rw [← hW0]
    exact (((Below.refl _ _).alloc (Nat.le_refl _) _).alloc (by simp; try omega) _)
  rw [hW0]
  clear hW0
  have hgr := rgreat_any _ [(b, s, t)] W0 (rowR_cells1 k1) k1.lt (by show 1 ≤ 1000; omega) (by intro p hp; rw [List.mem_singleton] at hp; subst hp; exact HS.out)
  rw [HG.out] at hgr
  have HGR := Lib.hid hgr
  clear hgr
  have HS0 := Lib.hid (And.intro bW0 (And.intro k0 k1))
  clear bW0 k0 k1
  refine (HGR.out).mono ?_
  rintro e wg ⟨rfl, c⟩
  have f := HS0.out.1.trans (c.mono HS0.out.1.size)
  have t0 := (HS0.out.2.1).below c (HS0.out.2.1).lt
  have t1 := (HS0.out.2.2).below c (HS0.out.2.2).lt
  have HS1 := Lib.hid (And.intro f (And.intro t0 t1))
  clear c f t0 t1
  go_wp2_with fail
  refine (RA.out _ (tab_of HT.out HS1.out.1)).mono ?_
  rintro e wh ⟨rfl, c⟩
  have HF := Lib.hid (HS1.out.1.trans (c.mono HS1.out.1.size))
  clear c
  go_wp2_with fail
  go_ret
  exact ⟨rfl, HF.out⟩

set_option maxHeartbeats 16000000 in
set_option maxRecDepth 100000 in
theorem floors_small (b : Bool) (s t : ByteArray) (nf nc bl ba bn nz b1 oo v : Bool) (sf sc sl tl sa ta sn tn sz s1 sd : ByteArray) (kk n1 n2 : Int) (w : World) (htab : Tab w) (hs : s.size ≤ 9223372036854775807) (ht : t.size ≤ 9223372036854775807) (hg : ([(b, s, t)] : List (Bool × ByteArray × ByteArray)).any grt = false)
    (h1 : n1 ≤ 0) (h2 : n2 < 0) (e1 : eqI nc sc nc sc = true) (e2 : eqI nf sf nc sc = v) (e3 : decide (kk = 1) = v)
    (c1 : ∀ W : World, Calls Tryz.prog 41 #[.agg #[.bool b, .string s, .string t]] W fun e w' => e = .returned (.agg #[.bool nf, .string sf]) ∧ Below W.heap.size W w')
    (c2 : ∀ W : World, Calls Tryz.prog 43 #[.agg #[.bool b, .string s, .string t]] W fun e w' => e = .returned (.agg #[.bool nc, .string sc]) ∧ Below W.heap.size W w')
    (c3 : ∀ W : World, Calls Tryz.prog 49 #[.agg #[.bool nf, .string sf]] W fun e w' => e = .returned (.agg #[.bool bl, .string sl, .string tl]) ∧ Below W.heap.size W w')
    (c4 : ∀ W : World, Calls Tryz.prog 19 #[.agg #[.bool b, .string s, .string t]] W fun e w' => e = .returned (.tuple #[.agg #[.bool b1, .string s1], .agg #[.bool false, .string sd]]) ∧ Below W.heap.size W w')
    (c5 : ∀ W : World, Calls Tryz.prog 50 #[.agg #[.bool false, .string sd]] W fun e w' => e = .returned (.tuple #[.int .i64 kk, .bool oo]) ∧ Below W.heap.size W w')
    (c6 : ∀ W : World, Calls Tryz.prog 35 #[.agg #[.bool bl, .string sl, .string tl], .agg #[.bool b, .string s, .string t]] W fun e w' => e = .returned (.int .i64 n1) ∧ Below W.heap.size W w')
    (c7 : ∀ W : World, Calls Tryz.prog 21 #[.int .i64 1] W fun e w' => e = .returned (.agg #[.bool false, .string ⟨#[1]⟩, .string ⟨#[]⟩]) ∧ Below W.heap.size W w')
    (c8 : ∀ W : World, Calls Tryz.prog 29 #[.agg #[.bool bl, .string sl, .string tl], .agg #[.bool false, .string ⟨#[1]⟩, .string ⟨#[]⟩]] W fun e w' => e = .returned (.agg #[.bool ba, .string sa, .string ta]) ∧ Below W.heap.size W w')
    (c9 : ∀ W : World, Calls Tryz.prog 35 #[.agg #[.bool b, .string s, .string t], .agg #[.bool ba, .string sa, .string ta]] W fun e w' => e = .returned (.int .i64 n2) ∧ Below W.heap.size W w')
    (c10 : ∀ W : World, Calls Tryz.prog 27 #[.agg #[.bool b, .string s, .string t]] W fun e w' => e = .returned (.agg #[.bool bn, .string sn, .string tn]) ∧ Below W.heap.size W w')
    (c11 : ∀ W : World, Calls Tryz.prog 41 #[.agg #[.bool bn, .string sn, .string tn]] W fun e w' => e = .returned (.agg #[.bool nz, .string sz]) ∧ Below W.heap.size W w')
    (c12 : ∀ W : World, Calls Tryz.prog 51 #[.agg #[.bool nz, .string sz]] W fun e w' => e = .returned (.agg #[.bool nc, .string sc]) ∧ Below W.heap.size W w')
    (ca : ∀ W : World, Tab W → Calls Tryz.prog 14 #[] W fun e w' => e = .returned (.bool true) ∧ Below W.heap.size W w') :
    Calls Tryz.prog 9 #[.agg #[.bool b, .string s, .string t]] w fun e w' => e = .returned (.bool true) ∧ Below w.heap.size w w' := by
  have HT := Lib.hid htab
  have HG := Lib.hid hg
  have RA := Lib.hid ca
  have HS := Lib.hid (And.intro hs ht)
  have HE := Lib.hid (And.intro h1 (And.intro h2 (And.intro e1 (And.intro e2 e3))))
  clear htab hg ca hs ht h1 h2 e1 e2 e3
  have R1 := Lib.hid c1
  have R2 := Lib.hid c2
  have R3 := Lib.hid c3
  have R4 := Lib.hid c4
  have R5 := Lib.hid c5
  have R6 := Lib.hid c6
  have R7 := Lib.hid c7
  have R8 := Lib.hid c8
  have R9 := Lib.hid c9
  have R10 := Lib.hid c10
  have R11 := Lib.hid c11
  have R12 := Lib.hid c12
  clear c1 c2 c3 c4 c5 c6 c7 c8 c9 c10 c11 c12
  go_enter Tryz.func9, Tryz.ntmps9
  go_wp2_with fail
  obtain ⟨W0, hW0⟩ : ∃ V, ((w.alloc (Obj.cells #[Value.bool b, Value.string s, Value.string t] 25)).alloc (Obj.cells #[Value.bool b, Value.string s, Value.string t] 25)) = V := ⟨_, rfl⟩
  have sW0 : W0.heap.size = w.heap.size + 1 + 1 := by rw [← hW0]; simp
  have k0 : Cells (w.heap.size) [.bool b, .string s, .string t] W0 := by
    rw [← hW0]
    have h := cells_new w #[.bool b, .string s, .string t] 25
    exact (h.alloc (by simp; try omega) _)
  have k1 : Cells (w.heap.size + 1) [.bool b, .string s, .string t] W0 := by
    rw [← hW0]
    have h := cells_new (w.alloc (Obj.cells #[Value.bool b, Value.string s, Value.string t] 25)) #[.bool b, .string s, .string t] 25
    simp only [World.size_alloc] at h
    exact h
  have bW0 : Below w.heap.size w W0 := by
    rw [← hW0]
    exact (((Below.refl _ _).alloc (Nat.le_refl _) _).alloc (by simp; try omega) _)
  rw [hW0]
  clear hW0
  have hgr := rgreat_any _ [(b, s, t)] W0 (rowR_cells1 k1) k1.lt (by show 1 ≤ 1000; omega) (by intro p hp; rw [List.mem_singleton] at hp; subst hp; exact HS.out)
  rw [HG.out] at hgr
  have HGR := Lib.hid hgr
  clear hgr
  have HS0 := Lib.hid (And.intro bW0 (And.intro k0 k1))
  clear bW0 k0 k1
  refine (HGR.out).mono ?_
  rintro e wg ⟨rfl, c⟩
  have f := HS0.out.1.trans (c.mono HS0.out.1.size)
  have t0 := (HS0.out.2.1).below c (HS0.out.2.1).lt
  have t1 := (HS0.out.2.2).below c (HS0.out.2.2).lt
  have HS1 := Lib.hid (And.intro f (And.intro t0 t1))
  clear c f t0 t1
  go_wp2_with fail
  refine wp_region_invA (fun a listed a' w' => ∃ t14 t15 t16 t17 t3 t4 : Value, a' = puts a [(14, t14), (15, t15), (16, t16), (17, t17), (3, t3), (4, t4)] ∧ Below (wg.heap.size) wg w' ∧ (listed.getD 0 false = true → t14 = .agg #[.bool b, .string s, .string t]) ∧ (listed.getD 1 false = true → t15 = .agg #[.bool nf, .string sf]) ∧ (listed.getD 2 false = true → t16 = .agg #[.bool b, .string s, .string t]) ∧ (listed.getD 3 false = true → t17 = .agg #[.bool nc, .string sc]) ∧ (listed.getD 4 false = true → ∃ (B : Nat) (x0 x1 : Value), t3 = .pointer (some ⟨B, 0, none⟩) ∧ wg.heap.size ≤ B ∧ Cells B [x0, x1] w' ∧ (listed.getD 6 false = true → x0 = .bool nf ∧ x1 = .string sf)) ∧ (listed.getD 5 false = true → ∃ (B : Nat) (x0 x1 : Value), t4 = .pointer (some ⟨B, 0, none⟩) ∧ wg.heap.size ≤ B ∧ Cells B [x0, x1] w' ∧ (listed.getD 7 false = true → x0 = .bool nc ∧ x1 = .string sc)) ∧ (listed.getD 6 false = true → listed.getD 4 false = true) ∧ (listed.getD 7 false = true → listed.getD 5 false = true) ∧ (listed.getD 4 false = true → listed.getD 5 false = true → t3 ≠ t4)) (by kernel_rfl) (by kernel_rfl) ?_ ?_ ?_
  · exact ⟨undef, undef, undef, undef, undef, undef, (by kernel_rfl), (Below.refl _ _).drew, (fun h => getD_rep h), (fun h => getD_rep h), (fun h => getD_rep h), (fun h => getD_rep h), (fun h => getD_rep h), (fun h => getD_rep h), (fun h => getD_rep h), (fun h => getD_rep h), (fun h => getD_rep h)⟩
  · show InvSteps _ _ _ _ _ [0, 1, 2, 3, 4, 5, 6, 7]
    refine InvSteps.cons rfl (fun listed a w' K' hlt hun hdep hI hK => ?_) ?_
    · obtain ⟨t14, t15, t16, t17, t3, t4, ha, hb, h0, h1, h2, h3, h4, h5, s6_4, s7_5, d4_5⟩ := hI
      clear hdep
      have kc := (HS1.out.2.1).below hb (by have := (HS1.out.2.1).lt; omega)
      have kl := kc.lt
      have k0 := (kc 0 _ rfl).1
      have k1 := (kc 1 _ rfl).1
      have k2 := (kc 2 _ rfl).1
      clear kc
      rw [ha]
      clear ha a
      simp only [puts_cons, puts_nil, Act.put, List.setIfInBounds_toArray, List.set_cons_zero, List.set_cons_succ]
      go_simp
      exact hK.out _ _ ⟨(.agg #[.bool b, .string s, .string t]), t15, t16, t17, t3, t4, (by kernel_rfl), hb, fun _ => rfl, fun h => h1 (getD_ne h (by decide : 0 ≠ 1)), fun h => h2 (getD_ne h (by decide : 0 ≠ 2)), fun h => h3 (getD_ne h (by decide : 0 ≠ 3)), fun h => by obtain ⟨B, x0, x1, e, hB, kc, hf⟩ := h4 (getD_ne h (by decide : 0 ≠ 4)); exact ⟨B, x0, x1, e, hB, kc, fun h => hf (getD_ne h (by decide : 0 ≠ 6))⟩, fun h => by obtain ⟨B, x0, x1, e, hB, kc, hf⟩ := h5 (getD_ne h (by decide : 0 ≠ 5)); exact ⟨B, x0, x1, e, hB, kc, fun h => hf (getD_ne h (by decide : 0 ≠ 7))⟩, fun h => getD_set_true (s6_4 (getD_ne h (by decide : 0 ≠ 6))), fun h => getD_set_true (s7_5 (getD_ne h (by decide : 0 ≠ 7))), fun h h2 => d4_5 (getD_ne h (by decide : 0 ≠ 4)) (getD_ne h2 (by decide : 0 ≠ 5))⟩
    refine InvSteps.cons rfl (fun listed a w' K' hlt hun hdep hI hK => ?_) ?_
    · obtain ⟨t14, t15, t16, t17, t3, t4, ha, hb, h0, h1, h2, h3, h4, h5, s6_4, s7_5, d4_5⟩ := hI
      have H0 := hdep ⟨0, Ground.data⟩ (by simp) rfl
      clear hdep
      have g0 := h0 H0
      subst g0
      rw [ha]
      clear ha a
      simp only [puts_cons, puts_nil, Act.put, List.setIfInBounds_toArray, List.set_cons_zero, List.set_cons_succ]
      go_simp
      refine (R1.out _).mono ?_
      rintro e u ⟨rfl, c⟩
      go_simp
      exact hK.out _ _ ⟨(.agg #[.bool b, .string s, .string t]), (.agg #[.bool nf, .string sf]), t16, t17, t3, t4, (by kernel_rfl), hb.trans (c.mono hb.size), fun _ => rfl, fun _ => rfl, fun h => h2 (getD_ne h (by decide : 1 ≠ 2)), fun h => h3 (getD_ne h (by decide : 1 ≠ 3)), fun h => by obtain ⟨B, x0, x1, e, hB, kc, hf⟩ := h4 (getD_ne h (by decide : 1 ≠ 4)); exact ⟨B, x0, x1, e, hB, kc.below c kc.lt, fun h => hf (getD_ne h (by decide : 1 ≠ 6))⟩, fun h => by obtain ⟨B, x0, x1, e, hB, kc, hf⟩ := h5 (getD_ne h (by decide : 1 ≠ 5)); exact ⟨B, x0, x1, e, hB, kc.below c kc.lt, fun h => hf (getD_ne h (by decide : 1 ≠ 7))⟩, fun h => getD_set_true (s6_4 (getD_ne h (by decide : 1 ≠ 6))), fun h => getD_set_true (s7_5 (getD_ne h (by decide : 1 ≠ 7))), fun h h2 => d4_5 (getD_ne h (by decide : 1 ≠ 4)) (getD_ne h2 (by decide : 1 ≠ 5))⟩
    refine InvSteps.cons rfl (fun listed a w' K' hlt hun hdep hI hK => ?_) ?_
    · obtain ⟨t14, t15, t16, t17, t3, t4, ha, hb, h0, h1, h2, h3, h4, h5, s6_4, s7_5, d4_5⟩ := hI
      clear hdep
      have kc := (HS1.out.2.1).below hb (by have := (HS1.out.2.1).lt; omega)
      have kl := kc.lt
      have k0 := (kc 0 _ rfl).1
      have k1 := (kc 1 _ rfl).1
      have k2 := (kc 2 _ rfl).1
      clear kc
      rw [ha]
      clear ha a
      simp only [puts_cons, puts_nil, Act.put, List.setIfInBounds_toArray, List.set_cons_zero, List.set_cons_succ]
      go_simp
      exact hK.out _ _ ⟨t14, t15, (.agg #[.bool b, .string s, .string t]), t17, t3, t4, (by kernel_rfl), hb, fun h => h0 (getD_ne h (by decide : 2 ≠ 0)), fun h => h1 (getD_ne h (by decide : 2 ≠ 1)), fun _ => rfl, fun h => h3 (getD_ne h (by decide : 2 ≠ 3)), fun h => by obtain ⟨B, x0, x1, e, hB, kc, hf⟩ := h4 (getD_ne h (by decide : 2 ≠ 4)); exact ⟨B, x0, x1, e, hB, kc, fun h => hf (getD_ne h (by decide : 2 ≠ 6))⟩, fun h => by obtain ⟨B, x0, x1, e, hB, kc, hf⟩ := h5 (getD_ne h (by decide : 2 ≠ 5)); exact ⟨B, x0, x1, e, hB, kc, fun h => hf (getD_ne h (by decide : 2 ≠ 7))⟩, fun h => getD_set_true (s6_4 (getD_ne h (by decide : 2 ≠ 6))), fun h => getD_set_true (s7_5 (getD_ne h (by decide : 2 ≠ 7))), fun h h2 => d4_5 (getD_ne h (by decide : 2 ≠ 4)) (getD_ne h2 (by decide : 2 ≠ 5))⟩
    refine InvSteps.cons rfl (fun listed a w' K' hlt hun hdep hI hK => ?_) ?_
    · obtain ⟨t14, t15, t16, t17, t3, t4, ha, hb, h0, h1, h2, h3, h4, h5, s6_4, s7_5, d4_5⟩ := hI
      have H2 := hdep ⟨2, Ground.data⟩ (by simp) rfl
      have H1 := hdep ⟨1, Ground.chain⟩ (by simp) rfl
      clear hdep
      have g2 := h2 H2
      subst g2
      have g1 := h1 H1
      subst g1
      rw [ha]
      clear ha a
      simp only [puts_cons, puts_nil, Act.put, List.setIfInBounds_toArray, List.set_cons_zero, List.set_cons_succ]
      go_simp
      refine (R2.out _).mono ?_
      rintro e u ⟨rfl, c⟩
      go_simp
      exact hK.out _ _ ⟨t14, (.agg #[.bool nf, .string sf]), (.agg #[.bool b, .string s, .string t]), (.agg #[.bool nc, .string sc]), t3, t4, (by kernel_rfl), hb.trans (c.mono hb.size), fun h => h0 (getD_ne h (by decide : 3 ≠ 0)), fun _ => rfl, fun _ => rfl, fun _ => rfl, fun h => by obtain ⟨B, x0, x1, e, hB, kc, hf⟩ := h4 (getD_ne h (by decide : 3 ≠ 4)); exact ⟨B, x0, x1, e, hB, kc.below c kc.lt, fun h => hf (getD_ne h (by decide : 3 ≠ 6))⟩, fun h => by obtain ⟨B, x0, x1, e, hB, kc, hf⟩ := h5 (getD_ne h (by decide : 3 ≠ 5)); exact ⟨B, x0, x1, e, hB, kc.below c kc.lt, fun h => hf (getD_ne h (by decide : 3 ≠ 7))⟩, fun h => getD_set_true (s6_4 (getD_ne h (by decide : 3 ≠ 6))), fun h => getD_set_true (s7_5 (getD_ne h (by decide : 3 ≠ 7))), fun h h2 => d4_5 (getD_ne h (by decide : 3 ≠ 4)) (getD_ne h2 (by decide : 3 ≠ 5))⟩
    refine InvSteps.cons rfl (fun listed a w' K' hlt hun hdep hI hK => ?_) ?_
    · obtain ⟨t14, t15, t16, t17, t3, t4, ha, hb, h0, h1, h2, h3, h4, h5, s6_4, s7_5, d4_5⟩ := hI
      clear hdep
      rw [ha]
      clear ha a
      simp only [puts_cons, puts_nil, Act.put, List.setIfInBounds_toArray, List.set_cons_zero, List.set_cons_succ]
      go_simp
      exact hK.out _ _ ⟨t14, t15, t16, t17, (.pointer (some ⟨w'.heap.size, 0, none⟩)), t4, (by kernel_rfl), hb.alloc hb.size _, fun h => h0 (getD_ne h (by decide : 4 ≠ 0)), fun h => h1 (getD_ne h (by decide : 4 ≠ 1)), fun h => h2 (getD_ne h (by decide : 4 ≠ 2)), fun h => h3 (getD_ne h (by decide : 4 ≠ 3)), fun _ => ⟨_, _, _, rfl, hb.size, cells_new w' #[Value.bool false, Value.string ⟨#[]⟩] 23, fun h => by have h' := s6_4 (getD_ne h (by decide : 4 ≠ 6)); rw [hun] at h'; cases h'⟩, fun h => by obtain ⟨B, x0, x1, e, hB, kc, hf⟩ := h5 (getD_ne h (by decide : 4 ≠ 5)); exact ⟨B, x0, x1, e, hB, kc.alloc kc.lt _, fun h => hf (getD_ne h (by decide : 4 ≠ 7))⟩, fun _ => getD_self hlt, fun h => getD_set_true (s7_5 (getD_ne h (by decide : 4 ≠ 7))), fun _ h => by obtain ⟨B, _, _, e1, _, kc, _⟩ := h5 (getD_ne h (by decide : 4 ≠ 5)); intro e; rw [e1] at e; have := kc.lt; (simp at e) <;> omega⟩
    refine InvSteps.cons rfl (fun listed a w' K' hlt hun hdep hI hK => ?_) ?_
    · obtain ⟨t14, t15, t16, t17, t3, t4, ha, hb, h0, h1, h2, h3, h4, h5, s6_4, s7_5, d4_5⟩ := hI
      clear hdep
      rw [ha]
      clear ha a
      simp only [puts_cons, puts_nil, Act.put, List.setIfInBounds_toArray, List.set_cons_zero, List.set_cons_succ]
      go_simp
      exact hK.out _ _ ⟨t14, t15, t16, t17, t3, (.pointer (some ⟨w'.heap.size, 0, none⟩)), (by kernel_rfl), hb.alloc hb.size _, fun h => h0 (getD_ne h (by decide : 5 ≠ 0)), fun h => h1 (getD_ne h (by decide : 5 ≠ 1)), fun h => h2 (getD_ne h (by decide : 5 ≠ 2)), fun h => h3 (getD_ne h (by decide : 5 ≠ 3)), fun h => by obtain ⟨B, x0, x1, e, hB, kc, hf⟩ := h4 (getD_ne h (by decide : 5 ≠ 4)); exact ⟨B, x0, x1, e, hB, kc.alloc kc.lt _, fun h => hf (getD_ne h (by decide : 5 ≠ 6))⟩, fun _ => ⟨_, _, _, rfl, hb.size, cells_new w' #[Value.bool false, Value.string ⟨#[]⟩] 23, fun h => by have h' := s7_5 (getD_ne h (by decide : 5 ≠ 7)); rw [hun] at h'; cases h'⟩, fun h => getD_set_true (s6_4 (getD_ne h (by decide : 5 ≠ 6))), fun _ => getD_self hlt, fun h _ => by obtain ⟨B, _, _, e1, _, kc, _⟩ := h4 (getD_ne h (by decide : 5 ≠ 4)); intro e; rw [e1] at e; have := kc.lt; (simp at e) <;> omega⟩
    refine InvSteps.cons rfl (fun listed a w' K' hlt hun hdep hI hK => ?_) ?_
    · obtain ⟨t14, t15, t16, t17, t3, t4, ha, hb, h0, h1, h2, h3, h4, h5, s6_4, s7_5, d4_5⟩ := hI
      have H4 := hdep ⟨4, Ground.data⟩ (by simp) rfl
      have H1 := hdep ⟨1, Ground.data⟩ (by simp) rfl
      have H3 := hdep ⟨3, Ground.chain⟩ (by simp) rfl
      have H0 := hdep ⟨0, Ground.phase⟩ (by simp) rfl
      have H5 := hdep ⟨5, Ground.phase⟩ (by simp) rfl
      clear hdep
      have g1 := h1 H1
      subst g1
      have g3 := h3 H3
      subst g3
      have g0 := h0 H0
      subst g0
      obtain ⟨B, x0, x1, rfl, hB, kc, _⟩ := h4 H4
      obtain ⟨C5, w5_0, w5_1, rfl, q5, kd5, o5⟩ := h5 H5
      have kl := kc.lt
      have k0 := (kc 0 _ rfl).1
      have z0 := (kc 0 _ rfl).2
      have k1 := (kc 1 _ rfl).1
      have z1 := (kc 1 _ rfl).2
      rw [ha]
      clear ha a
      simp only [puts_cons, puts_nil, Act.put, List.setIfInBounds_toArray, List.set_cons_zero, List.set_cons_succ]
      go_simp
      have yc0 : Cells (B) [.bool nf, x1] _ := (kc).set (k := 0) (Value.bool nf) _ rfl
      have yc1 : Cells (B) [.bool nf, .string sf] _ := (yc0).set (k := 1) (Value.string sf) _ rfl
      exact hK.out _ _ ⟨(.agg #[.bool b, .string s, .string t]), (.agg #[.bool nf, .string sf]), t16, (.agg #[.bool nc, .string sc]), (.pointer (some ⟨B, 0, none⟩)), (.pointer (some ⟨C5, 0, none⟩)), (by kernel_rfl), (below_sets (below_sets hb hB 0 (Value.bool nf)) hB 1 (Value.string sf)), fun _ => rfl, fun _ => rfl, fun h => h2 (getD_ne h (by decide : 6 ≠ 2)), fun _ => rfl, fun _ => ⟨B, _, _, rfl, hB, yc1, fun _ => ⟨rfl, rfl⟩⟩, fun _ => ⟨C5, w5_0, w5_1, rfl, q5, ((((kd5).other (fun e => d4_5 H4 H5 (by rw [e])))).other (fun e => d4_5 H4 H5 (by rw [e]))), fun h => o5 (getD_ne h (by decide : 6 ≠ 7))⟩, fun _ => getD_set_true H4, fun h => getD_set_true (s7_5 (getD_ne h (by decide : 6 ≠ 7))), fun h h2 => d4_5 (getD_ne h (by decide : 6 ≠ 4)) (getD_ne h2 (by decide : 6 ≠ 5))⟩
    refine InvSteps.cons rfl (fun listed a w' K' hlt hun hdep hI hK => ?_) ?_
    · obtain ⟨t14, t15, t16, t17, t3, t4, ha, hb, h0, h1, h2, h3, h4, h5, s6_4, s7_5, d4_5⟩ := hI
      have H5 := hdep ⟨5, Ground.data⟩ (by simp) rfl
      have H3 := hdep ⟨3, Ground.data⟩ (by simp) rfl
      have H6 := hdep ⟨6, Ground.chain⟩ (by simp) rfl
      have H0 := hdep ⟨0, Ground.phase⟩ (by simp) rfl
      have H1 := hdep ⟨1, Ground.phase⟩ (by simp) rfl
      have H2 := hdep ⟨2, Ground.phase⟩ (by simp) rfl
      have H4 := hdep ⟨4, Ground.phase⟩ (by simp) rfl
      clear hdep
      have g3 := h3 H3
      subst g3
      have g0 := h0 H0
      subst g0
      have g1 := h1 H1
      subst g1
      have g2 := h2 H2
      subst g2
      obtain ⟨B, x0, x1, rfl, hB, kc, _⟩ := h5 H5
      obtain ⟨C4, w4_0, w4_1, rfl, q4, kd4, o4⟩ := h4 H4
      have kl := kc.lt
      have k0 := (kc 0 _ rfl).1
      have z0 := (kc 0 _ rfl).2
      have k1 := (kc 1 _ rfl).1
      have z1 := (kc 1 _ rfl).2
      rw [ha]
      clear ha a
      simp only [puts_cons, puts_nil, Act.put, List.setIfInBounds_toArray, List.set_cons_zero, List.set_cons_succ]
      go_simp
      have yc0 : Cells (B) [.bool nc, x1] _ := (kc).set (k := 0) (Value.bool nc) _ rfl
      have yc1 : Cells (B) [.bool nc, .string sc] _ := (yc0).set (k := 1) (Value.string sc) _ rfl
      exact hK.out _ _ ⟨(.agg #[.bool b, .string s, .string t]), (.agg #[.bool nf, .string sf]), (.agg #[.bool b, .string s, .string t]), (.agg #[.bool nc, .string sc]), (.pointer (some ⟨C4, 0, none⟩)), (.pointer (some ⟨B, 0, none⟩)), (by kernel_rfl), (below_sets (below_sets hb hB 0 (Value.bool nc)) hB 1 (Value.string sc)), fun _ => rfl, fun _ => rfl, fun _ => rfl, fun _ => rfl, fun _ => ⟨C4, w4_0, w4_1, rfl, q4, ((((kd4).other (fun e => d4_5 H4 H5 (by rw [e])))).other (fun e => d4_5 H4 H5 (by rw [e]))), fun h => o4 (getD_ne h (by decide : 7 ≠ 6))⟩, fun _ => ⟨B, _, _, rfl, hB, yc1, fun _ => ⟨rfl, rfl⟩⟩, fun h => getD_set_true (s6_4 (getD_ne h (by decide : 7 ≠ 6))), fun _ => getD_set_true H5, fun h h2 => d4_5 (getD_ne h (by decide : 7 ≠ 4)) (getD_ne h2 (by decide : 7 ≠ 5))⟩
    exact InvSteps.nil
  · intro listed a w1 hl hI
    obtain ⟨t14, t15, t16, t17, t3, t4, ha, hb, h0, h1, h2, h3, h4, h5, s6_4, s7_5, d4_5⟩ := hI
    have H0 := hl 0 (by show 0 < 8; omega)
    have H1 := hl 1 (by show 1 < 8; omega)
    have H2 := hl 2 (by show 2 < 8; omega)
    have H3 := hl 3 (by show 3 < 8; omega)
    have H4 := hl 4 (by show 4 < 8; omega)
    have H5 := hl 5 (by show 5 < 8; omega)
    have H6 := hl 6 (by show 6 < 8; omega)
    have H7 := hl 7 (by show 7 < 8; omega)
    have g0 := h0 H0
    subst g0
    have g1 := h1 H1
    subst g1
    have g2 := h2 H2
    subst g2
    have g3 := h3 H3
    subst g3
    obtain ⟨B4, y4_0, y4_1, rfl, r4, c4, f4⟩ := h4 H4
    obtain ⟨rfl, rfl⟩ := f4 H6
    obtain ⟨B5, y5_0, y5_1, rfl, r5, c5, f5⟩ := h5 H5
    obtain ⟨rfl, rfl⟩ := f5 H7
    have e4_5 : B4 ≠ B5 := fun e => d4_5 H4 H5 (by rw [e])
    clear H0 H1 H2 H3 H4 H5 H6 H7 hl h0 h1 h2 h3 h4 h5 s6_4 s7_5 d4_5 f4 f5 listed
    rw [ha]
    clear ha a
    simp only [puts_cons, puts_nil, Act.put, List.setIfInBounds_toArray, List.set_cons_zero, List.set_cons_succ]
    clear r4 r5 e4_5
    have f := HS1.out.1.trans (hb.mono HS1.out.1.size)
    have t0 := (HS1.out.2.1).below hb (HS1.out.2.1).lt
    have t1 := (HS1.out.2.2).below hb (HS1.out.2.2).lt
    have HS2 := Lib.hid (And.intro f (And.intro t0 (And.intro t1 (And.intro c4 c5))))
    clear f hb t0 t1 c4 c5
    have l0 := (HS2.out.2.1).lt
    have l1 := (HS2.out.2.2.1).lt
    have l2 := (HS2.out.2.2.2.1).lt
    have m20 := (HS2.out.2.2.2.1 0 _ rfl).1
    have m21 := (HS2.out.2.2.2.1 1 _ rfl).1
    have l3 := (HS2.out.2.2.2.2).lt
    go_wp2_with fail
    clear l0 l1 l2 m20 m21 l3
    refine (R3.out _).mono ?_
    rintro e w3 ⟨rfl, c⟩
    have f := HS2.out.1.trans (c.mono HS2.out.1.size)
    have t0 := (HS2.out.2.1).below c (HS2.out.2.1).lt
    have t1 := (HS2.out.2.2.1).below c (HS2.out.2.2.1).lt
    have t2 := (HS2.out.2.2.2.1).below c (HS2.out.2.2.2.1).lt
    have t3 := (HS2.out.2.2.2.2).below c (HS2.out.2.2.2.2).lt
    have HS3 := Lib.hid (And.intro f (And.intro t0 (And.intro t1 (And.intro t2 t3))))
    clear c f t0 t1 t2 t3
    have l0 := (HS3.out.2.1).lt
    have m00 := (HS3.out.2.1 0 _ rfl).1
    have m01 := (HS3.out.2.1 1 _ rfl).1
    have m02 := (HS3.out.2.1 2 _ rfl).1
    have l1 := (HS3.out.2.2.1).lt
    have l2 := (HS3.out.2.2.2.1).lt
    have l3 := (HS3.out.2.2.2.2).lt
    go_wp2_with fail
    clear l0 m00 m01 m02 l1 l2 l3
    obtain ⟨w4, hw4⟩ : ∃ V, (w3.alloc (Obj.cells #[Value.bool bl, Value.string sl, Value.string tl] 25)) = V := ⟨_, rfl⟩
    obtain ⟨B6, hB6⟩ : ∃ B, w3.heap.size = B := ⟨_, rfl⟩
    have f : Below w.heap.size w w4 := by rw [← hw4]; exact (HS3.out.1.alloc (by have := HS3.out.1.size; simp; try omega) _)
    have t0 : Cells (w.heap.size) [.bool b, .string s, .string t] w4 := by rw [← hw4]; exact ((HS3.out.2.1).alloc (by have := (HS3.out.2.1).lt; simp; try omega) _)
    have t1 : Cells (w.heap.size + 1) [.bool b, .string s, .string t] w4 := by rw [← hw4]; exact ((HS3.out.2.2.1).alloc (by have := (HS3.out.2.2.1).lt; simp; try omega) _)
    have t2 : Cells (B4) [.bool nf, .string sf] w4 := by rw [← hw4]; exact ((HS3.out.2.2.2.1).alloc (by have := (HS3.out.2.2.2.1).lt; simp; try omega) _)
    have t3 : Cells (B5) [.bool nc, .string sc] w4 := by rw [← hw4]; exact ((HS3.out.2.2.2.2).alloc (by have := (HS3.out.2.2.2.2).lt; simp; try omega) _)
    have t4 : Cells B6 [.bool bl, .string sl, .string tl] w4 := by
      rw [← hw4, ← hB6]
      have h := cells_new w3 #[.bool bl, .string sl, .string tl] 25
      (try simp only at h)
      exact h
    have xB60 : ¬ (w.heap.size) = B6 := by have := (HS3.out.2.1).lt; omega
    have xB61 : ¬ (w.heap.size + 1) = B6 := by have := (HS3.out.2.2.1).lt; omega
    have xB62 : ¬ (B4) = B6 := by have := (HS3.out.2.2.2.1).lt; omega
    have xB63 : ¬ (B5) = B6 := by have := (HS3.out.2.2.2.2).lt; omega
    have gB6 : w.heap.size ≤ B6 := by have := HS3.out.1.size; omega
    have HS4 := Lib.hid (And.intro f (And.intro t0 (And.intro t1 (And.intro t2 (And.intro t3 t4)))))
    rw [hw4]
    (try rw [hB6])
    clear hw4 hB6 f t0 t1 t2 t3 t4
    refine (R4.out _).mono ?_
    rintro e w5 ⟨rfl, c⟩
    have f := HS4.out.1.trans (c.mono HS4.out.1.size)
    have t0 := (HS4.out.2.1).below c (HS4.out.2.1).lt
    have t1 := (HS4.out.2.2.1).below c (HS4.out.2.2.1).lt
    have t2 := (HS4.out.2.2.2.1).below c (HS4.out.2.2.2.1).lt
    have t3 := (HS4.out.2.2.2.2.1).below c (HS4.out.2.2.2.2.1).lt
    have t4 := (HS4.out.2.2.2.2.2).below c (HS4.out.2.2.2.2.2).lt
    have HS5 := Lib.hid (And.intro f (And.intro t0 (And.intro t1 (And.intro t2 (And.intro t3 t4)))))
    clear c f t0 t1 t2 t3 t4
    have l0 := (HS5.out.2.1).lt
    have l1 := (HS5.out.2.2.1).lt
    have l2 := (HS5.out.2.2.2.1).lt
    have l3 := (HS5.out.2.2.2.2.1).lt
    have l4 := (HS5.out.2.2.2.2.2).lt
    go_wp2_with fail
    clear l0 l1 l2 l3 l4
    obtain ⟨w6, hw6⟩ : ∃ V, ((w5.alloc (Obj.cells #[Value.bool b1, Value.string s1] 23)).alloc (Obj.cells #[Value.bool false, Value.string sd] 23)) = V := ⟨_, rfl⟩
    obtain ⟨B7, hB7⟩ : ∃ B, w5.heap.size = B := ⟨_, rfl⟩
    obtain ⟨B8, hB8⟩ : ∃ B, B7 + 1 = B := ⟨_, rfl⟩
    have f : Below w.heap.size w w6 := by rw [← hw6]; exact ((HS5.out.1.alloc (by have := HS5.out.1.size; simp; try omega) _).alloc (by have := HS5.out.1.size; simp; try omega) _)
    have t0 : Cells (w.heap.size) [.bool b, .string s, .string t] w6 := by rw [← hw6]; exact ((((HS5.out.2.1).alloc (by have := (HS5.out.2.1).lt; simp; try omega) _)).alloc (by have := (HS5.out.2.1).lt; simp; try omega) _)
    have t1 : Cells (w.heap.size + 1) [.bool b, .string s, .string t] w6 := by rw [← hw6]; exact ((((HS5.out.2.2.1).alloc (by have := (HS5.out.2.2.1).lt; simp; try omega) _)).alloc (by have := (HS5.out.2.2.1).lt; simp; try omega) _)
    have t2 : Cells (B4) [.bool nf, .string sf] w6 := by rw [← hw6]; exact ((((HS5.out.2.2.2.1).alloc (by have := (HS5.out.2.2.2.1).lt; simp; try omega) _)).alloc (by have := (HS5.out.2.2.2.1).lt; simp; try omega) _)
    have t3 : Cells (B5) [.bool nc, .string sc] w6 := by rw [← hw6]; exact ((((HS5.out.2.2.2.2.1).alloc (by have := (HS5.out.2.2.2.2.1).lt; simp; try omega) _)).alloc (by have := (HS5.out.2.2.2.2.1).lt; simp; try omega) _)
    have t4 : Cells (B6) [.bool bl, .string sl, .string tl] w6 := by rw [← hw6]; exact ((((HS5.out.2.2.2.2.2).alloc (by have := (HS5.out.2.2.2.2.2).lt; simp; try omega) _)).alloc (by have := (HS5.out.2.2.2.2.2).lt; simp; try omega) _)
    have t5 : Cells B7 [.bool b1, .string s1] w6 := by
      rw [← hw6, ← hB7]
      have h := cells_new w5 #[.bool b1, .string s1] 23
      (try simp only at h)
      exact (h.alloc (by simp; try omega) _)
    have t6 : Cells B8 [.bool false, .string sd] w6 := by
      rw [← hw6, ← hB8, ← hB7]
      have h := cells_new (w5.alloc (Obj.cells #[Value.bool b1, Value.string s1] 23)) #[.bool false, .string sd] 23
      (try simp only [World.size_alloc] at h)
      exact h
    have xB70 : ¬ (w.heap.size) = B7 := by have := (HS5.out.2.1).lt; omega
    have xB71 : ¬ (w.heap.size + 1) = B7 := by have := (HS5.out.2.2.1).lt; omega
    have xB72 : ¬ (B4) = B7 := by have := (HS5.out.2.2.2.1).lt; omega
    have xB73 : ¬ (B5) = B7 := by have := (HS5.out.2.2.2.2.1).lt; omega
    have xB74 : ¬ (B6) = B7 := by have := (HS5.out.2.2.2.2.2).lt; omega
    have gB7 : w.heap.size ≤ B7 := by have := HS5.out.1.size; omega
    have xB80 : ¬ (w.heap.size) = B8 := by have := (HS5.out.2.1).lt; omega
    have xB81 : ¬ (w.heap.size + 1) = B8 := by have := (HS5.out.2.2.1).lt; omega
    have xB82 : ¬ (B4) = B8 := by have := (HS5.out.2.2.2.1).lt; omega
    have xB83 : ¬ (B5) = B8 := by have := (HS5.out.2.2.2.2.1).lt; omega
    have xB84 : ¬ (B6) = B8 := by have := (HS5.out.2.2.2.2.2).lt; omega
    have xB85 : ¬ B7 = B8 := by omega
    have gB8 : w.heap.size ≤ B8 := by have := HS5.out.1.size; omega
    have HS6 := Lib.hid (And.intro f (And.intro t0 (And.intro t1 (And.intro t2 (And.intro t3 (And.intro t4 (And.intro t5 t6)))))))
    rw [hw6]
    (try rw [hB7, hB8])
    clear hw6 hB8 hB7 f t0 t1 t2 t3 t4 t5 t6
    refine (R5.out _).mono ?_
    rintro e w7 ⟨rfl, c⟩
    have f := HS6.out.1.trans (c.mono HS6.out.1.size)
    have t0 := (HS6.out.2.1).below c (HS6.out.2.1).lt
    have t1 := (HS6.out.2.2.1).below c (HS6.out.2.2.1).lt
    have t2 := (HS6.out.2.2.2.1).below c (HS6.out.2.2.2.1).lt
    have t3 := (HS6.out.2.2.2.2.1).below c (HS6.out.2.2.2.2.1).lt
    have t4 := (HS6.out.2.2.2.2.2.1).below c (HS6.out.2.2.2.2.2.1).lt
    have t5 := (HS6.out.2.2.2.2.2.2.1).below c (HS6.out.2.2.2.2.2.2.1).lt
    have t6 := (HS6.out.2.2.2.2.2.2.2).below c (HS6.out.2.2.2.2.2.2.2).lt
    have HS7 := Lib.hid (And.intro f (And.intro t0 (And.intro t1 (And.intro t2 (And.intro t3 (And.intro t4 (And.intro t5 t6)))))))
    clear c f t0 t1 t2 t3 t4 t5 t6
    have l0 := (HS7.out.2.1).lt
    have m00 := (HS7.out.2.1 0 _ rfl).1
    have m01 := (HS7.out.2.1 1 _ rfl).1
    have m02 := (HS7.out.2.1 2 _ rfl).1
    have l1 := (HS7.out.2.2.1).lt
    have l2 := (HS7.out.2.2.2.1).lt
    have m20 := (HS7.out.2.2.2.1 0 _ rfl).1
    have m21 := (HS7.out.2.2.2.1 1 _ rfl).1
    have l3 := (HS7.out.2.2.2.2.1).lt
    have m30 := (HS7.out.2.2.2.2.1 0 _ rfl).1
    have m31 := (HS7.out.2.2.2.2.1 1 _ rfl).1
    have l4 := (HS7.out.2.2.2.2.2.1).lt
    have m40 := (HS7.out.2.2.2.2.2.1 0 _ rfl).1
    have m41 := (HS7.out.2.2.2.2.2.1 1 _ rfl).1
    have m42 := (HS7.out.2.2.2.2.2.1 2 _ rfl).1
    have l5 := (HS7.out.2.2.2.2.2.2.1).lt
    have l6 := (HS7.out.2.2.2.2.2.2.2).lt
    have q1 := eql_int
    have q3 := guard_int
    obtain ⟨h1, h2, e1, e2, e3⟩ := HE.out
    have d1 : decide (n1 ≤ 0) = true := decide_eq_true h1
    have d2 : decide (n2 < 0) = true := decide_eq_true h2
    have e4 : (kk == 1) = v := by rw [← e3]; rfl
    go_wp2_with fail
    have htd : Tab w7.drew := tab_of HT.out (HS7.out.1.trans ((Below.refl w7.heap.size w7).drew.mono HS7.out.1.size))
    have HTD := Lib.hid htd
    clear htd
    (try simp only [List.append_eq, List.cons_append, List.nil_append])
    have tok1 : True := trivial
    have tok2 : True := trivial
    have tok3 : True := trivial
    have tok4 : True := trivial
    have tok5 : True := trivial
    have tok6 : True := trivial
    have tok7 : True := trivial
    have tok8 : True := trivial
    have hRb : w7.heap.size ≤ w7.heap.size := by omega
    go_region_held3 (fun w' => ∀ (a o : Nat), a < w7.heap.size → w'.cell? ⟨a, o, none⟩ = w7.cell? ⟨a, o, none⟩) (first | with_reducible assumption | (intro _ _ _; rfl) | (repeat' (first | with_reducible assumption | with_reducible exact keepN_refl _ _ | with_reducible (refine keepN_drew ?_) | with_reducible (refine keepN_set ?_ ?_) | with_reducible (refine keepN_alloc ?_ ?_) | exact Nat.le_refl _ | omega | (intro _ _ _; rfl))))
      (first | (go_at_call 35; have _t := tok1; clear tok1; refine (R6.out _).mono ?_; rintro e u1 ⟨rfl, d1⟩; have E1 := Lib.hid (d1); have kS1 : ∀ (a o : Nat), a < w7.heap.size → u1.cell? ⟨a, o, none⟩ = w7.cell? ⟨a, o, none⟩ := fun a o h => E1.out.cell (p := ⟨a, o, none⟩) (Nat.lt_of_lt_of_le h hRb); have hz1 : w7.heap.size ≤ u1.heap.size := E1.out.size; clear d1) | (go_at_call 21; have _t := tok2; clear tok2; refine (R7.out _).mono ?_; rintro e u2 ⟨rfl, d2⟩; have E2 := Lib.hid (E1.out.trans (d2.mono E1.out.size)); have kS2 : ∀ (a o : Nat), a < w7.heap.size → u2.cell? ⟨a, o, none⟩ = w7.cell? ⟨a, o, none⟩ := fun a o h => E2.out.cell (p := ⟨a, o, none⟩) (Nat.lt_of_lt_of_le h hRb); have hz2 : w7.heap.size ≤ u2.heap.size := E2.out.size; clear d2) | (go_at_call 29; have _t := tok3; clear tok3; refine (R8.out _).mono ?_; rintro e u3 ⟨rfl, d3⟩; have E3 := Lib.hid (E2.out.trans (d3.mono E2.out.size)); have kS3 : ∀ (a o : Nat), a < w7.heap.size → u3.cell? ⟨a, o, none⟩ = w7.cell? ⟨a, o, none⟩ := fun a o h => E3.out.cell (p := ⟨a, o, none⟩) (Nat.lt_of_lt_of_le h hRb); have hz3 : w7.heap.size ≤ u3.heap.size := E3.out.size; clear d3) | (go_at_call 35; have _t := tok4; clear tok4; refine (R9.out _).mono ?_; rintro e u4 ⟨rfl, d4⟩; have E4 := Lib.hid (E3.out.trans (d4.mono E3.out.size)); have kS4 : ∀ (a o : Nat), a < w7.heap.size → u4.cell? ⟨a, o, none⟩ = w7.cell? ⟨a, o, none⟩ := fun a o h => E4.out.cell (p := ⟨a, o, none⟩) (Nat.lt_of_lt_of_le h hRb); have hz4 : w7.heap.size ≤ u4.heap.size := E4.out.size; clear d4) | (go_at_call 27; have _t := tok5; clear tok5; refine (R10.out _).mono ?_; rintro e u5 ⟨rfl, d5⟩; have E5 := Lib.hid (E4.out.trans (d5.mono E4.out.size)); have kS5 : ∀ (a o : Nat), a < w7.heap.size → u5.cell? ⟨a, o, none⟩ = w7.cell? ⟨a, o, none⟩ := fun a o h => E5.out.cell (p := ⟨a, o, none⟩) (Nat.lt_of_lt_of_le h hRb); have hz5 : w7.heap.size ≤ u5.heap.size := E5.out.size; clear d5) | (go_at_call 41; have _t := tok6; clear tok6; refine (R11.out _).mono ?_; rintro e u6 ⟨rfl, d6⟩; have E6 := Lib.hid (E5.out.trans (d6.mono E5.out.size)); have kS6 : ∀ (a o : Nat), a < w7.heap.size → u6.cell? ⟨a, o, none⟩ = w7.cell? ⟨a, o, none⟩ := fun a o h => E6.out.cell (p := ⟨a, o, none⟩) (Nat.lt_of_lt_of_le h hRb); have hz6 : w7.heap.size ≤ u6.heap.size := E6.out.size; clear d6) | (go_at_call 51; have _t := tok7; clear tok7; refine (R12.out _).mono ?_; rintro e u7 ⟨rfl, d7⟩; have E7 := Lib.hid (E6.out.trans (d7.mono E6.out.size)); have kS7 : ∀ (a o : Nat), a < w7.heap.size → u7.cell? ⟨a, o, none⟩ = w7.cell? ⟨a, o, none⟩ := fun a o h => E7.out.cell (p := ⟨a, o, none⟩) (Nat.lt_of_lt_of_le h hRb); have hz7 : w7.heap.size ≤ u7.heap.size := E7.out.size; clear d7) | (go_at_call 14; have _t := tok8; clear tok8; refine (RA.out _ (tab_of HTD.out E7.out)).mono ?_; rintro e u8 ⟨rfl, d8⟩; have E8 := Lib.hid (E7.out.trans (d8.mono E7.out.size)); have kS8 : ∀ (a o : Nat), a < w7.heap.size → u8.cell? ⟨a, o, none⟩ = w7.cell? ⟨a, o, none⟩ := fun a o h => E8.out.cell (p := ⟨a, o, none⟩) (Nat.lt_of_lt_of_le h hRb); have hz8 : w7.heap.size ≤ u8.heap.size := E8.out.size; clear d8))
    go_wp2_with fail
    go_ret
    exact ⟨rfl, HS7.out.1.trans ((((Below.refl w7.heap.size w7).drew).trans E8.out).mono HS7.out.1.size)⟩

end Go.Proofs.YtpdhffjdgnpikaaGreatDoor
