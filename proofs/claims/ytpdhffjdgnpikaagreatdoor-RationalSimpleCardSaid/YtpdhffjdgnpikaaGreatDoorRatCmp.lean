/- The contract of rational.Compare. -/
import Derived.Test.YtpdhffjdgnpikaaGreatDoorRatOps
import Derived.Test.YtpdhffjdgnpikaaGreatDoorRatOrd
import Derived.Test.YtpdhffjdgnpikaaGreatDoorInv
namespace Go.Proofs.YtpdhffjdgnpikaaGreatDoor
open Go.RowKit Go.Shelf

set_option maxHeartbeats 4000000 in
set_option maxRecDepth 100000 in
theorem compare1_any (A B : Nat) (n1 d1 n2 d2 p1 p2 : Int) (z : Int) (w : World) (hA : Cells A [.int .i64 n1, .int .i64 d1] w) (hB : Cells B [.int .i64 n2, .int .i64 d2] w)
    (w0 : IntKind.i64.wrap (n1 * d2) = p1) (w1 : IntKind.i64.wrap (n2 * d1) = p2)
    (c1 : ∀ W : World, Calls Tryz.prog 83 #[.int .i64 p1, .int .i64 p2] W fun e w' => e = .returned (.int .i64 z) ∧ Below W.heap.size W w') :
    Calls Tryz.prog 82 #[.pointer (some ⟨A, 0, none⟩), .pointer (some ⟨B, 0, none⟩)] w fun e w' => e = .returned (.int .i64 z) ∧ Below w.heap.size w w' := by
  have R1 := Lib.hid c1
  have lA := hA.lt
  have lB := hB.lt
  have mA0 := (hA 0 _ rfl).1
  have mA1 := (hA 1 _ rfl).1
  have mB0 := (hB 0 _ rfl).1
  have mB1 := (hB 1 _ rfl).1
  clear hA hB c1
  go_enter Tryz.func82, Tryz.ntmps82
  go_wp2_with fail
  refine (R1.out _).mono ?_
  rintro e w1 ⟨rfl, hb⟩
  go_wp2_with fail
  go_ret
  exact ⟨rfl, hb⟩

set_option maxHeartbeats 4000000 in
set_option maxRecDepth 100000 in
theorem compare2_any (A B : Nat) (b c : Bool) (s t u v qa qb : ByteArray)  (z : Int) (w : World) (hA : Cells A [.bool b, .string s, .string t] w) (hB : Cells B [.bool c, .string u, .string v] w)
    (c1 : ∀ W : World, Calls Tryz.prog 61 #[.agg #[.bool b, .string s, .string t]] W fun e w' => e = .returned (.agg #[.bool b, .string s, .bool false, .string qa]) ∧ Below W.heap.size W w')
    (c2 : ∀ W : World, Calls Tryz.prog 61 #[.agg #[.bool c, .string u, .string v]] W fun e w' => e = .returned (.agg #[.bool c, .string u, .bool false, .string qb]) ∧ Below W.heap.size W w')
    (c3 : ∀ W : World, Calls Tryz.prog 85 #[.agg #[.bool b, .string s, .bool false, .string qa], .agg #[.bool c, .string u, .bool false, .string qb]] W fun e w' => e = .returned (.int .i64 z) ∧ Below W.heap.size W w')
    : Calls Tryz.prog 84 #[.pointer (some ⟨A, 0, none⟩), .pointer (some ⟨B, 0, none⟩)] w fun e w' => e = .returned (.int .i64 z) ∧ Below w.heap.size w w' := by
  have R1 := Lib.hid c1
  have R2 := Lib.hid c2
  have R3 := Lib.hid c3
  have HA := Lib.hid hA
  have HB := Lib.hid hB
  clear hA hB c1 c2 c3
  go_enter Tryz.func84, Tryz.ntmps84
  go_wp2_with fail
  have bW0 : Below w.heap.size w w := Below.refl _ _
  have kA := HA.out.below bW0 HA.out.lt
  have kB := HB.out.below bW0 HB.out.lt
  have lA := kA.lt
  have lB := kB.lt
  have lA' := HA.out.lt
  have lB' := HB.out.lt
  have mA0 := (kA 0 _ rfl).1
  have mA1 := (kA 1 _ rfl).1
  have mA2 := (kA 2 _ rfl).1
  have mB0 := (kB 0 _ rfl).1
  have mB1 := (kB 1 _ rfl).1
  have mB2 := (kB 2 _ rfl).1
  clear kA kB
  have HQ := Lib.hid bW0
  clear bW0
  have tok1 : True := trivial
  have tok2 : True := trivial
  have tok3 : True := trivial
  have hRb : w.heap.size ≤ w.heap.size := by omega
  go_region_held3 (fun w' => ∀ (a o : Nat), a < w.heap.size → w'.cell? ⟨a, o, none⟩ = w.cell? ⟨a, o, none⟩) (first | with_reducible assumption | (intro _ _ _; rfl) | (repeat' (first | with_reducible assumption | with_reducible exact keepN_refl _ _ | with_reducible (refine keepN_drew ?_) | with_reducible (refine keepN_set ?_ ?_) | with_reducible (refine keepN_alloc ?_ ?_) | exact Nat.le_refl _ | omega | (intro _ _ _; rfl))))
    (first | (go_at_call 61; have _t := tok1; clear tok1; refine (R1.out _).mono ?_; rintro e u1 ⟨rfl, d1⟩; have E1 := Lib.hid (d1); have kS1 : ∀ (a o : Nat), a < w.heap.size → u1.cell? ⟨a, o, none⟩ = w.cell? ⟨a, o, none⟩ := fun a o h => E1.out.cell (p := ⟨a, o, none⟩) (Nat.lt_of_lt_of_le h hRb); have hz1 : w.heap.size ≤ u1.heap.size := E1.out.size; clear d1) | (go_at_call 61; have _t := tok2; clear tok2; refine (R2.out _).mono ?_; rintro e u2 ⟨rfl, d2⟩; have E2 := Lib.hid (E1.out.trans (d2.mono E1.out.size)); have kS2 : ∀ (a o : Nat), a < w.heap.size → u2.cell? ⟨a, o, none⟩ = w.cell? ⟨a, o, none⟩ := fun a o h => E2.out.cell (p := ⟨a, o, none⟩) (Nat.lt_of_lt_of_le h hRb); have hz2 : w.heap.size ≤ u2.heap.size := E2.out.size; clear d2) | (go_at_call 85; have _t := tok3; clear tok3; refine (R3.out _).mono ?_; rintro e u3 ⟨rfl, d3⟩; have E3 := Lib.hid (E2.out.trans (d3.mono E2.out.size)); have kS3 : ∀ (a o : Nat), a < w.heap.size → u3.cell? ⟨a, o, none⟩ = w.cell? ⟨a, o, none⟩ := fun a o h => E3.out.cell (p := ⟨a, o, none⟩) (Nat.lt_of_lt_of_le h hRb); have hz3 : w.heap.size ≤ u3.heap.size := E3.out.size; clear d3))
  go_wp2_with fail
  go_ret
  exact ⟨rfl, HQ.out.trans ((((Below.refl w.heap.size w).drew).trans E3.out).mono HQ.out.size)⟩

set_option maxHeartbeats 4000000 in
set_option maxRecDepth 100000 in
theorem either_compare (A B X Y : Nat) (w : World) (o : Bool) (z : Int)
    (c1 : o = true → ∀ W : World, Below w.heap.size w W → Calls Tryz.prog 82 #[.pointer (some ⟨X, 0, none⟩), .pointer (some ⟨Y, 0, none⟩)] W fun e w' => e = .returned (.int .i64 z) ∧ Below W.heap.size W w')
    (c2 : o = false → ∀ W : World, Below w.heap.size w W → Calls Tryz.prog 84 #[.pointer (some ⟨A, 0, none⟩), .pointer (some ⟨B, 0, none⟩)] W fun e w' => e = .returned (.int .i64 z) ∧ Below W.heap.size W w') :
    Calls Tryz.prog 81 #[.bool o, .func (Fn.func 82) #[] #[.pointer (some ⟨X, 0, none⟩), .pointer (some ⟨Y, 0, none⟩)], .func (Fn.func 84) #[] #[.pointer (some ⟨A, 0, none⟩), .pointer (some ⟨B, 0, none⟩)]] w fun e w' => e = .returned (.int .i64 z) ∧ Below w.heap.size w w' := by
  cases o
  · have RR := Lib.hid (c2 rfl)
    clear c1 c2
    go_enter Tryz.func81, Tryz.ntmps81
    go_wp2_with fail
    refine (RR.out _ (Below.refl _ _)).mono ?_
    rintro e w1 ⟨rfl, hb⟩
    go_wp2_with fail
    go_ret
    exact ⟨rfl, hb⟩
  · have RR := Lib.hid (c1 rfl)
    clear c1 c2
    go_enter Tryz.func81, Tryz.ntmps81
    go_wp2_with fail
    refine (RR.out _ (Below.refl _ _)).mono ?_
    rintro e w1 ⟨rfl, hb⟩
    go_wp2_with fail
    go_ret
    exact ⟨rfl, hb⟩

set_option maxHeartbeats 4000000 in
set_option maxRecDepth 100000 in
theorem compare_walk (b c : Bool) (s t u v : ByteArray) (n1 d1 n2 d2 : Int) (o1 o2 : Bool) (z : Int)
    (c1 : ∀ W : World, Calls Tryz.prog 67 #[.agg #[.bool b, .string s, .string t]] W fun e w' => e = .returned (.agg #[.int .i64 n1, .int .i64 d1]) ∧ Below W.heap.size W w')
    (c2 : ∀ W : World, Calls Tryz.prog 67 #[.agg #[.bool c, .string u, .string v]] W fun e w' => e = .returned (.agg #[.int .i64 n2, .int .i64 d2]) ∧ Below W.heap.size W w')
    (cf1 : ∀ W : World, Calls Tryz.prog 69 #[.int .i64 n1, .int .i64 d2] W fun e w' => e = .returned (.bool o1) ∧ Below W.heap.size W w')
    (cf2 : ∀ W : World, Calls Tryz.prog 69 #[.int .i64 n2, .int .i64 d1] W fun e w' => e = .returned (.bool o2) ∧ Below W.heap.size W w')
    (ca : o1 = true → o2 = true → ∀ (X Y : Nat) (W : World), Cells X [.int .i64 n1, .int .i64 d1] W → Cells Y [.int .i64 n2, .int .i64 d2] W → Calls Tryz.prog 82 #[.pointer (some ⟨X, 0, none⟩), .pointer (some ⟨Y, 0, none⟩)] W fun e w' => e = .returned (.int .i64 z) ∧ Below W.heap.size W w')
    (cb : ∀ (A B : Nat) (W : World), Cells A [.bool b, .string s, .string t] W → Cells B [.bool c, .string u, .string v] W → Calls Tryz.prog 84 #[.pointer (some ⟨A, 0, none⟩), .pointer (some ⟨B, 0, none⟩)] W fun e w' => e = .returned (.int .i64 z) ∧ Below W.heap.size W w')
    (w : World) : Calls Tryz.prog 35 #[.agg #[.bool b, .string s, .string t], .agg #[.bool c, .string u, .string v]] w fun e w' => e = .returned (.int .i64 z) ∧ Below w.heap.size w w' := by
  have R1 := Lib.hid c1
  have R2 := Lib.hid c2
  have RF1 := Lib.hid cf1
  have RF2 := Lib.hid cf2
  have RA := Lib.hid ca
  have RB := Lib.hid cb
  clear c1 c2 ca cb cf1 cf2
  go_enter Tryz.func35, Tryz.ntmps35
  go_wp2_with fail
  obtain ⟨W0, hW0⟩ : ∃ V, ((w.alloc (Obj.cells #[Value.bool b, Value.string s, Value.string t] 25)).alloc (Obj.cells #[Value.bool c, Value.string u, Value.string v] 25)) = V := ⟨_, rfl⟩
  have sW0 : W0.heap.size = w.heap.size + 1 + 1 := by rw [← hW0]; simp
  have k0 : Cells (w.heap.size) [.bool b, .string s, .string t] W0 := by
    rw [← hW0]
    have h := cells_new w #[.bool b, .string s, .string t] 25
    exact (h.alloc (by simp; try omega) _)
  have k1 : Cells (w.heap.size + 1) [.bool c, .string u, .string v] W0 := by
    rw [← hW0]
    have h := cells_new (w.alloc (Obj.cells #[Value.bool b, Value.string s, Value.string t] 25)) #[.bool c, .string u, .string v] 25
    simp only [World.size_alloc] at h
    exact h
  have bW0 : Below w.heap.size w W0 := by
    rw [← hW0]
    exact (((Below.refl _ _).alloc (Nat.le_refl _) _).alloc (by simp; try omega) _)
  rw [hW0]
  clear hW0
  have HS0 := Lib.hid (And.intro bW0 (And.intro k0 k1))
  clear bW0 k0 k1
  refine wp_region_inv (fun listed a w' => ∃ t7 t8 t9 t10 t5 t6 : Value, a = ⟨[.agg #[.bool b, .string s, .string t], .agg #[.bool c, .string u, .string v], .pointer (some ⟨w.heap.size, 0, none⟩), .pointer (some ⟨w.heap.size + 1, 0, none⟩), .int .i64 0, t5, t6, t7, t8, t9, t10, undef, undef, undef, undef, undef, undef, undef, undef, undef, undef, undef, undef, undef, undef, undef].toArray, []⟩ ∧ Below W0.heap.size W0 w' ∧ (listed.getD 0 false = true → t7 = .agg #[.bool b, .string s, .string t]) ∧ (listed.getD 1 false = true → t8 = .agg #[.int .i64 n1, .int .i64 d1]) ∧ (listed.getD 2 false = true → t9 = .agg #[.bool c, .string u, .string v]) ∧ (listed.getD 3 false = true → t10 = .agg #[.int .i64 n2, .int .i64 d2]) ∧ (listed.getD 4 false = true → ∃ (B : Nat) (x0 x1 : Value), t5 = .pointer (some ⟨B, 0, none⟩) ∧ W0.heap.size ≤ B ∧ Cells B [x0, x1] w' ∧ (listed.getD 6 false = true → x0 = .int .i64 n1 ∧ x1 = .int .i64 d1)) ∧ (listed.getD 5 false = true → ∃ (B : Nat) (x0 x1 : Value), t6 = .pointer (some ⟨B, 0, none⟩) ∧ W0.heap.size ≤ B ∧ Cells B [x0, x1] w' ∧ (listed.getD 7 false = true → x0 = .int .i64 n2 ∧ x1 = .int .i64 d2)) ∧ (listed.getD 6 false = true → listed.getD 4 false = true) ∧ (listed.getD 7 false = true → listed.getD 5 false = true) ∧ (listed.getD 4 false = true → listed.getD 5 false = true → t5 ≠ t6)) (by kernel_rfl) (by kernel_rfl) ?_ ?_ ?_
  · refine ⟨_, _, _, _, _, _, rfl, (Below.refl _ _).drew, (fun h => getD_rep h), (fun h => getD_rep h), (fun h => getD_rep h), (fun h => getD_rep h), (fun h => getD_rep h), (fun h => getD_rep h), (fun h => getD_rep h), (fun h => getD_rep h), (fun h => getD_rep h)⟩
  · show InvSteps _ _ _ _ _ [0, 1, 2, 3, 4, 5, 6, 7]
    refine InvSteps.cons rfl (fun listed a w' K' hlt hun hdep hI hK => ?_) ?_
    · obtain ⟨t7, t8, t9, t10, t5, t6, rfl, hb, h0, h1, h2, h3, h4, h5, s6, s7, d45⟩ := hI
      clear hdep
      have kc : Cells (w.heap.size) [.bool b, .string s, .string t] w' := (HS0.out.2.1).below hb (by have := (HS0.out.2.1).lt; omega)
      have kl := kc.lt
      have k0 := (kc 0 _ rfl).1
      have k1 := (kc 1 _ rfl).1
      have k2 := (kc 2 _ rfl).1
      clear kc
      go_simp
      refine hK.out _ _ ⟨_, _, _, _, _, _, rfl, hb, fun _ => rfl, fun h => h1 (getD_ne h (by decide : 0 ≠ 1)), fun h => h2 (getD_ne h (by decide : 0 ≠ 2)), fun h => h3 (getD_ne h (by decide : 0 ≠ 3)), fun h => by obtain ⟨B, x0, x1, e, hB, kc, hf⟩ := h4 (getD_ne h (by decide : 0 ≠ 4)); exact ⟨B, x0, x1, e, hB, kc, fun h => hf (getD_ne h (by decide : 0 ≠ 6))⟩, fun h => by obtain ⟨B, x0, x1, e, hB, kc, hf⟩ := h5 (getD_ne h (by decide : 0 ≠ 5)); exact ⟨B, x0, x1, e, hB, kc, fun h => hf (getD_ne h (by decide : 0 ≠ 7))⟩, fun h => getD_set_true (s6 (getD_ne h (by decide : 0 ≠ 6))), fun h => getD_set_true (s7 (getD_ne h (by decide : 0 ≠ 7))), fun h h2 => d45 (getD_ne h (by decide : 0 ≠ 4)) (getD_ne h2 (by decide : 0 ≠ 5))⟩
    refine InvSteps.cons rfl (fun listed a w' K' hlt hun hdep hI hK => ?_) ?_
    · obtain ⟨t7, t8, t9, t10, t5, t6, rfl, hb, h0, h1, h2, h3, h4, h5, s6, s7, d45⟩ := hI
      have H0 := hdep ⟨0, Ground.data⟩ (by simp) rfl
      clear hdep
      have g0 := h0 H0
      subst g0
      go_simp
      refine (R1.out _).mono ?_
      rintro e u ⟨rfl, c⟩
      go_simp
      refine hK.out _ _ ⟨_, _, _, _, _, _, rfl, hb.trans (c.mono hb.size), fun h => h0 (getD_ne h (by decide : 1 ≠ 0)), fun _ => rfl, fun h => h2 (getD_ne h (by decide : 1 ≠ 2)), fun h => h3 (getD_ne h (by decide : 1 ≠ 3)), fun h => by obtain ⟨B, x0, x1, e, hB, kc, hf⟩ := h4 (getD_ne h (by decide : 1 ≠ 4)); exact ⟨B, x0, x1, e, hB, kc.below c kc.lt, fun h => hf (getD_ne h (by decide : 1 ≠ 6))⟩, fun h => by obtain ⟨B, x0, x1, e, hB, kc, hf⟩ := h5 (getD_ne h (by decide : 1 ≠ 5)); exact ⟨B, x0, x1, e, hB, kc.below c kc.lt, fun h => hf (getD_ne h (by decide : 1 ≠ 7))⟩, fun h => getD_set_true (s6 (getD_ne h (by decide : 1 ≠ 6))), fun h => getD_set_true (s7 (getD_ne h (by decide : 1 ≠ 7))), fun h h2 => d45 (getD_ne h (by decide : 1 ≠ 4)) (getD_ne h2 (by decide : 1 ≠ 5))⟩
    refine InvSteps.cons rfl (fun listed a w' K' hlt hun hdep hI hK => ?_) ?_
    · obtain ⟨t7, t8, t9, t10, t5, t6, rfl, hb, h0, h1, h2, h3, h4, h5, s6, s7, d45⟩ := hI
      clear hdep
      have kc : Cells (w.heap.size + 1) [.bool c, .string u, .string v] w' := (HS0.out.2.2).below hb (by have := (HS0.out.2.2).lt; omega)
      have kl := kc.lt
      have k0 := (kc 0 _ rfl).1
      have k1 := (kc 1 _ rfl).1
      have k2 := (kc 2 _ rfl).1
      clear kc
      go_simp
      refine hK.out _ _ ⟨_, _, _, _, _, _, rfl, hb, fun h => h0 (getD_ne h (by decide : 2 ≠ 0)), fun h => h1 (getD_ne h (by decide : 2 ≠ 1)), fun _ => rfl, fun h => h3 (getD_ne h (by decide : 2 ≠ 3)), fun h => by obtain ⟨B, x0, x1, e, hB, kc, hf⟩ := h4 (getD_ne h (by decide : 2 ≠ 4)); exact ⟨B, x0, x1, e, hB, kc, fun h => hf (getD_ne h (by decide : 2 ≠ 6))⟩, fun h => by obtain ⟨B, x0, x1, e, hB, kc, hf⟩ := h5 (getD_ne h (by decide : 2 ≠ 5)); exact ⟨B, x0, x1, e, hB, kc, fun h => hf (getD_ne h (by decide : 2 ≠ 7))⟩, fun h => getD_set_true (s6 (getD_ne h (by decide : 2 ≠ 6))), fun h => getD_set_true (s7 (getD_ne h (by decide : 2 ≠ 7))), fun h h2 => d45 (getD_ne h (by decide : 2 ≠ 4)) (getD_ne h2 (by decide : 2 ≠ 5))⟩
    refine InvSteps.cons rfl (fun listed a w' K' hlt hun hdep hI hK => ?_) ?_
    · obtain ⟨t7, t8, t9, t10, t5, t6, rfl, hb, h0, h1, h2, h3, h4, h5, s6, s7, d45⟩ := hI
      have H2 := hdep ⟨2, Ground.data⟩ (by simp) rfl
      clear hdep
      have g2 := h2 H2
      subst g2
      go_simp
      refine (R2.out _).mono ?_
      rintro e u ⟨rfl, c⟩
      go_simp
      refine hK.out _ _ ⟨_, _, _, _, _, _, rfl, hb.trans (c.mono hb.size), fun h => h0 (getD_ne h (by decide : 3 ≠ 0)), fun h => h1 (getD_ne h (by decide : 3 ≠ 1)), fun h => h2 (getD_ne h (by decide : 3 ≠ 2)), fun _ => rfl, fun h => by obtain ⟨B, x0, x1, e, hB, kc, hf⟩ := h4 (getD_ne h (by decide : 3 ≠ 4)); exact ⟨B, x0, x1, e, hB, kc.below c kc.lt, fun h => hf (getD_ne h (by decide : 3 ≠ 6))⟩, fun h => by obtain ⟨B, x0, x1, e, hB, kc, hf⟩ := h5 (getD_ne h (by decide : 3 ≠ 5)); exact ⟨B, x0, x1, e, hB, kc.below c kc.lt, fun h => hf (getD_ne h (by decide : 3 ≠ 7))⟩, fun h => getD_set_true (s6 (getD_ne h (by decide : 3 ≠ 6))), fun h => getD_set_true (s7 (getD_ne h (by decide : 3 ≠ 7))), fun h h2 => d45 (getD_ne h (by decide : 3 ≠ 4)) (getD_ne h2 (by decide : 3 ≠ 5))⟩
    refine InvSteps.cons rfl (fun listed a w' K' hlt hun hdep hI hK => ?_) ?_
    · obtain ⟨t7, t8, t9, t10, t5, t6, rfl, hb, h0, h1, h2, h3, h4, h5, s6, s7, d45⟩ := hI
      clear hdep
      go_simp
      refine hK.out _ _ ⟨_, _, _, _, _, _, rfl, hb.alloc hb.size _, fun h => h0 (getD_ne h (by decide : 4 ≠ 0)), fun h => h1 (getD_ne h (by decide : 4 ≠ 1)), fun h => h2 (getD_ne h (by decide : 4 ≠ 2)), fun h => h3 (getD_ne h (by decide : 4 ≠ 3)), fun _ => ⟨_, _, _, rfl, hb.size, cells_new w' #[Value.int .i64 0, Value.int .i64 0] 63, fun h => by have h' := s6 (getD_ne h (by decide : 4 ≠ 6)); rw [hun] at h'; cases h'⟩, fun h => by obtain ⟨B, x0, x1, e, hB, kc, hf⟩ := h5 (getD_ne h (by decide : 4 ≠ 5)); exact ⟨B, x0, x1, e, hB, kc.alloc kc.lt _, fun h => hf (getD_ne h (by decide : 4 ≠ 7))⟩, fun _ => getD_self hlt, fun h => getD_set_true (s7 (getD_ne h (by decide : 4 ≠ 7))), fun _ h => by obtain ⟨B, _, _, e1, _, kc, _⟩ := h5 (getD_ne h (by decide : 4 ≠ 5)); intro e; rw [e1] at e; have := kc.lt; (simp at e) <;> omega⟩
    refine InvSteps.cons rfl (fun listed a w' K' hlt hun hdep hI hK => ?_) ?_
    · obtain ⟨t7, t8, t9, t10, t5, t6, rfl, hb, h0, h1, h2, h3, h4, h5, s6, s7, d45⟩ := hI
      clear hdep
      go_simp
      refine hK.out _ _ ⟨_, _, _, _, _, _, rfl, hb.alloc hb.size _, fun h => h0 (getD_ne h (by decide : 5 ≠ 0)), fun h => h1 (getD_ne h (by decide : 5 ≠ 1)), fun h => h2 (getD_ne h (by decide : 5 ≠ 2)), fun h => h3 (getD_ne h (by decide : 5 ≠ 3)), fun h => by obtain ⟨B, x0, x1, e, hB, kc, hf⟩ := h4 (getD_ne h (by decide : 5 ≠ 4)); exact ⟨B, x0, x1, e, hB, kc.alloc kc.lt _, fun h => hf (getD_ne h (by decide : 5 ≠ 6))⟩, fun _ => ⟨_, _, _, rfl, hb.size, cells_new w' #[Value.int .i64 0, Value.int .i64 0] 63, fun h => by have h' := s7 (getD_ne h (by decide : 5 ≠ 7)); rw [hun] at h'; cases h'⟩, fun h => getD_set_true (s6 (getD_ne h (by decide : 5 ≠ 6))), fun _ => getD_self hlt, fun h _ => by obtain ⟨B, _, _, e1, _, kc, _⟩ := h4 (getD_ne h (by decide : 5 ≠ 4)); intro e; rw [e1] at e; have := kc.lt; (simp at e) <;> omega⟩
    refine InvSteps.cons rfl (fun listed a w' K' hlt hun hdep hI hK => ?_) ?_
    · obtain ⟨t7, t8, t9, t10, t5, t6, rfl, hb, h0, h1, h2, h3, h4, h5, s6, s7, d45⟩ := hI
      have H4 := hdep ⟨4, Ground.data⟩ (by simp) rfl
      have H1 := hdep ⟨1, Ground.data⟩ (by simp) rfl
      have H5 := hdep ⟨5, Ground.phase⟩ (by simp) rfl
      clear hdep
      have g1 := h1 H1
      subst g1
      obtain ⟨B, x0, x1, rfl, hB, kc, _⟩ := h4 H4
      obtain ⟨C5, w50, w51, rfl, q5, kd5, o5⟩ := h5 H5
      have kl := kc.lt
      have k0 := (kc 0 _ rfl).1
      have z0 := (kc 0 _ rfl).2
      have k1 := (kc 1 _ rfl).1
      have z1 := (kc 1 _ rfl).2
      go_simp
      refine hK.out _ _ ⟨_, _, _, _, _, _, rfl, (below_sets (below_sets hb hB 0 (Value.int .i64 n1)) hB 1 (Value.int .i64 d1)), fun h => h0 (getD_ne h (by decide : 6 ≠ 0)), fun _ => rfl, fun h => h2 (getD_ne h (by decide : 6 ≠ 2)), fun h => h3 (getD_ne h (by decide : 6 ≠ 3)), fun _ => ⟨B, _, _, rfl, hB, ((((kc).set (k := 0) (Value.int .i64 n1) _ rfl)).set (k := 1) (Value.int .i64 d1) _ rfl), fun _ => ⟨rfl, rfl⟩⟩, fun _ => ⟨C5, w50, w51, rfl, q5, ((((kd5).other (fun e => d45 H4 H5 (by rw [e])))).other (fun e => d45 H4 H5 (by rw [e]))), fun h => o5 (getD_ne h (by decide : 6 ≠ 7))⟩, fun _ => getD_set_true H4, fun h => getD_set_true (s7 (getD_ne h (by decide : 6 ≠ 7))), fun _ _ => d45 H4 H5⟩
    refine InvSteps.cons rfl (fun listed a w' K' hlt hun hdep hI hK => ?_) ?_
    · obtain ⟨t7, t8, t9, t10, t5, t6, rfl, hb, h0, h1, h2, h3, h4, h5, s6, s7, d45⟩ := hI
      have H5 := hdep ⟨5, Ground.data⟩ (by simp) rfl
      have H3 := hdep ⟨3, Ground.data⟩ (by simp) rfl
      have H4 := hdep ⟨4, Ground.phase⟩ (by simp) rfl
      clear hdep
      have g3 := h3 H3
      subst g3
      obtain ⟨B, x0, x1, rfl, hB, kc, _⟩ := h5 H5
      obtain ⟨C4, w40, w41, rfl, q4, kd4, o4⟩ := h4 H4
      have kl := kc.lt
      have k0 := (kc 0 _ rfl).1
      have z0 := (kc 0 _ rfl).2
      have k1 := (kc 1 _ rfl).1
      have z1 := (kc 1 _ rfl).2
      go_simp
      refine hK.out _ _ ⟨_, _, _, _, _, _, rfl, (below_sets (below_sets hb hB 0 (Value.int .i64 n2)) hB 1 (Value.int .i64 d2)), fun h => h0 (getD_ne h (by decide : 7 ≠ 0)), fun h => h1 (getD_ne h (by decide : 7 ≠ 1)), fun h => h2 (getD_ne h (by decide : 7 ≠ 2)), fun _ => rfl, fun _ => ⟨C4, w40, w41, rfl, q4, ((((kd4).other (fun e => d45 H4 H5 (by rw [e])))).other (fun e => d45 H4 H5 (by rw [e]))), fun h => o4 (getD_ne h (by decide : 7 ≠ 6))⟩, fun _ => ⟨B, _, _, rfl, hB, ((((kc).set (k := 0) (Value.int .i64 n2) _ rfl)).set (k := 1) (Value.int .i64 d2) _ rfl), fun _ => ⟨rfl, rfl⟩⟩, fun h => getD_set_true (s6 (getD_ne h (by decide : 7 ≠ 6))), fun _ => getD_set_true H5, fun _ _ => d45 H4 H5⟩
    exact InvSteps.nil
  · intro listed a w1 hl hI
    obtain ⟨t7, t8, t9, t10, t5, t6, rfl, hb, h0, h1, h2, h3, h4, h5, s6, s7, d45⟩ := hI
    have H0 := hl 0 (by show 0 < 8; omega)
    have H1 := hl 1 (by show 1 < 8; omega)
    have H2 := hl 2 (by show 2 < 8; omega)
    have H3 := hl 3 (by show 3 < 8; omega)
    have H4 := hl 4 (by show 4 < 8; omega)
    have H5 := hl 5 (by show 5 < 8; omega)
    have H6 := hl 6 (by show 6 < 8; omega)
    have H7 := hl 7 (by show 7 < 8; omega)
    have g0 := h0 H0
    subst g0
    have g1 := h1 H1
    subst g1
    have g2 := h2 H2
    subst g2
    have g3 := h3 H3
    subst g3
    obtain ⟨B4, y40, y41, rfl, r4, c4, f4⟩ := h4 H4
    obtain ⟨rfl, rfl⟩ := f4 H6
    obtain ⟨B5, y50, y51, rfl, r5, c5, f5⟩ := h5 H5
    obtain ⟨rfl, rfl⟩ := f5 H7
    have e45 : B4 ≠ B5 := fun e => d45 H4 H5 (by rw [e])
    clear H0 H1 H2 H3 H4 H5 H6 H7 h0 h1 h2 h3 h4 h5 hl d45
    have f := HS0.out.1.trans (hb.mono HS0.out.1.size)
    have t0 := (HS0.out.2.1).below hb (HS0.out.2.1).lt
    have t1 := (HS0.out.2.2).below hb (HS0.out.2.2).lt
    have HS1 := Lib.hid (And.intro f (And.intro t0 (And.intro t1 (And.intro c4 c5))))
    rw [sW0] at r4 r5
    clear hb f t0 t1 c4 c5
    have l0 := (HS1.out.2.1).lt
    have l1 := (HS1.out.2.2.1).lt
    have l2 := (HS1.out.2.2.2.1).lt
    have m20 := (HS1.out.2.2.2.1 0 _ rfl).1
    have m21 := (HS1.out.2.2.2.1 1 _ rfl).1
    have l3 := (HS1.out.2.2.2.2).lt
    have m30 := (HS1.out.2.2.2.2 0 _ rfl).1
    have m31 := (HS1.out.2.2.2.2 1 _ rfl).1
    go_wp2_with fail
    clear l0 l1 l2 m20 m21 l3 m30 m31
    refine (RF1.out _).mono ?_
    rintro e wf1 ⟨rfl, c⟩
    have f := HS1.out.1.trans (c.mono HS1.out.1.size)
    have t0 := (HS1.out.2.1).below c (HS1.out.2.1).lt
    have t1 := (HS1.out.2.2.1).below c (HS1.out.2.2.1).lt
    have t2 := (HS1.out.2.2.2.1).below c (HS1.out.2.2.2.1).lt
    have t3 := (HS1.out.2.2.2.2).below c (HS1.out.2.2.2.2).lt
    have HF1 := Lib.hid (And.intro f (And.intro t0 (And.intro t1 (And.intro t2 t3))))
    clear c f t0 t1 t2 t3
    cases o1
    · have l0 := (HF1.out.2.1).lt
      have l1 := (HF1.out.2.2.1).lt
      have l2 := (HF1.out.2.2.2.1).lt
      have m20 := (HF1.out.2.2.2.1 0 _ rfl).1
      have m21 := (HF1.out.2.2.2.1 1 _ rfl).1
      have l3 := (HF1.out.2.2.2.2).lt
      have m30 := (HF1.out.2.2.2.2 0 _ rfl).1
      have m31 := (HF1.out.2.2.2.2 1 _ rfl).1
      go_wp2_with fail
      clear l0 l1 l2 m20 m21 l3 m30 m31
      refine (either_compare _ _ B4 B5 wf1 false z (fun h => by cases h) (fun _ W hW => RB.out _ _ W ((HF1.out.2.1).below hW (HF1.out.2.1).lt) ((HF1.out.2.2.1).below hW (HF1.out.2.2.1).lt))).mono ?_
      rintro e wE ⟨rfl, c⟩
      have f := HF1.out.1.trans (c.mono HF1.out.1.size)
      have t0 := (HF1.out.2.1).below c (HF1.out.2.1).lt
      have t1 := (HF1.out.2.2.1).below c (HF1.out.2.2.1).lt
      have t2 := (HF1.out.2.2.2.1).below c (HF1.out.2.2.2.1).lt
      have t3 := (HF1.out.2.2.2.2).below c (HF1.out.2.2.2.2).lt
      have HSE := Lib.hid (And.intro f (And.intro t0 (And.intro t1 (And.intro t2 t3))))
      clear c f t0 t1 t2 t3
      go_wp2_with fail
      go_ret
      exact ⟨rfl, HSE.out.1⟩
    · have l0 := (HF1.out.2.1).lt
      have l1 := (HF1.out.2.2.1).lt
      have l2 := (HF1.out.2.2.2.1).lt
      have m20 := (HF1.out.2.2.2.1 0 _ rfl).1
      have m21 := (HF1.out.2.2.2.1 1 _ rfl).1
      have l3 := (HF1.out.2.2.2.2).lt
      have m30 := (HF1.out.2.2.2.2 0 _ rfl).1
      have m31 := (HF1.out.2.2.2.2 1 _ rfl).1
      go_wp2_with fail
      clear l0 l1 l2 m20 m21 l3 m30 m31
      refine (RF2.out _).mono ?_
      rintro e wf2 ⟨rfl, c⟩
      have f := HF1.out.1.trans (c.mono HF1.out.1.size)
      have t0 := (HF1.out.2.1).below c (HF1.out.2.1).lt
      have t1 := (HF1.out.2.2.1).below c (HF1.out.2.2.1).lt
      have t2 := (HF1.out.2.2.2.1).below c (HF1.out.2.2.2.1).lt
      have t3 := (HF1.out.2.2.2.2).below c (HF1.out.2.2.2.2).lt
      have HF2 := Lib.hid (And.intro f (And.intro t0 (And.intro t1 (And.intro t2 t3))))
      clear c f t0 t1 t2 t3
      have l0 := (HF2.out.2.1).lt
      have l1 := (HF2.out.2.2.1).lt
      have l2 := (HF2.out.2.2.2.1).lt
      have m20 := (HF2.out.2.2.2.1 0 _ rfl).1
      have m21 := (HF2.out.2.2.2.1 1 _ rfl).1
      have l3 := (HF2.out.2.2.2.2).lt
      have m30 := (HF2.out.2.2.2.2 0 _ rfl).1
      have m31 := (HF2.out.2.2.2.2 1 _ rfl).1
      go_wp2_with fail
      clear l0 l1 l2 m20 m21 l3 m30 m31
      refine (either_compare _ _ B4 B5 wf2 o2 z (fun h W hW => RA.out (by first | rfl | trivial) h B4 B5 W ((HF2.out.2.2.2.1).below hW (HF2.out.2.2.2.1).lt) ((HF2.out.2.2.2.2).below hW (HF2.out.2.2.2.2).lt)) (fun _ W hW => RB.out _ _ W ((HF2.out.2.1).below hW (HF2.out.2.1).lt) ((HF2.out.2.2.1).below hW (HF2.out.2.2.1).lt))).mono ?_
      rintro e wE ⟨rfl, c⟩
      have f := HF2.out.1.trans (c.mono HF2.out.1.size)
      have t0 := (HF2.out.2.1).below c (HF2.out.2.1).lt
      have t1 := (HF2.out.2.2.1).below c (HF2.out.2.2.1).lt
      have t2 := (HF2.out.2.2.2.1).below c (HF2.out.2.2.2.1).lt
      have t3 := (HF2.out.2.2.2.2).below c (HF2.out.2.2.2.2).lt
      have HSE := Lib.hid (And.intro f (And.intro t0 (And.intro t1 (And.intro t2 t3))))
      clear c f t0 t1 t2 t3
      go_wp2_with fail
      go_ret
      exact ⟨rfl, HSE.out.1⟩

end Go.Proofs.YtpdhffjdgnpikaaGreatDoor
