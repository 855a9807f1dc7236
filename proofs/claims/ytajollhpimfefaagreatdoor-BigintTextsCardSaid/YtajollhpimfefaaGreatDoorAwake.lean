/- The contract of narrowslaw01.awake: the examples of the chapter. -/
import Derived.Test.YtajollhpimfefaaGreatDoorDecimal
import Derived.Test.YtajollhpimfefaaGreatDoorMul
import Derived.Test.YtajollhpimfefaaGreatDoorCmp
import Derived.Outline
namespace Go.Proofs.YtajollhpimfefaaGreatDoor
open Go.RowKit Go.Shelf

theorem mg_size (z : Int) (k : Nat) (h : z.natAbs < 256 ^ k) : (mg z).size ≤ k := by
  rw [Lib.size_eq, mg_list]; exact be_length_le k _ h
/-- Calls at integers whose parts bear names. -/
theorem of_lit (z : Int) (b : Bool) (s : ByteArray) (hb : ng z = b) (hs : mg z = s) (h1 : -9223372036854775808 ≤ z) (h2 : z ≤ 9223372036854775807) (W : World) :
    Calls Tryz.prog 18 #[.int .i64 z] W fun e w' => e = .returned (.agg #[.bool b, .string s]) ∧ Below W.heap.size W w' := by
  subst hb; subst hs
  exact of_any z W h1 h2
theorem mul_lit (x y : Int) (hx : x.natAbs < 256 ^ 9) (hy : y.natAbs < 256 ^ 9) (bx by' bz : Bool) (sx sy sz : ByteArray) (h1 : ng x = bx) (h2 : mg x = sx) (h3 : ng y = by') (h4 : mg y = sy) (h5 : ng (x * y) = bz) (h6 : mg (x * y) = sz) (W : World) :
    Calls Tryz.prog 32 #[.agg #[.bool bx, .string sx], .agg #[.bool by', .string sy]] W fun e w' => e = .returned (.agg #[.bool bz, .string sz]) ∧ Below W.heap.size W w' := by
  subst h1; subst h2; subst h3; subst h4; subst h5; subst h6
  have h := mul_any (ng x) (ng y) (mg x) (mg y) W (Nat.le_trans (mg_size x 9 hx) (by omega)) (Nat.le_trans (mg_size y 9 hy) (by omega))
  rw [ival_mg, ival_mg] at h
  exact h
theorem div_lit (x y q r : Int) (hx : x.natAbs < 256 ^ 9) (hy : y.natAbs < 18446744073709551616) (hy0 : y ≠ 0) (hd : IsDiv x y q r) (bx by' bq br : Bool) (sx sy sq sr : ByteArray)
    (h1 : ng x = bx) (h2 : mg x = sx) (h3 : ng y = by') (h4 : mg y = sy) (h5 : ng q = bq) (h6 : mg q = sq) (h7 : ng r = br) (h8 : mg r = sr) (W : World) :
    Calls Tryz.prog 34 #[.agg #[.bool bx, .string sx], .agg #[.bool by', .string sy]] W fun e w' => e = .returned (.tuple #[.agg #[.bool bq, .string sq], .agg #[.bool br, .string sr], .int .i64 0]) ∧ Below W.heap.size W w' := by
  subst h1; subst h2; subst h3; subst h4; subst h5; subst h6; subst h7; subst h8
  have e1 : beVal (mg x).data.toList = x.natAbs := by rw [mg_list, beVal_be]
  have e2 : beVal (mg y).data.toList = y.natAbs := by rw [mg_list, beVal_be]
  have hl : (nw x.natAbs).length ≤ 1048576 := Nat.le_trans (nw_length_le 9 x.natAbs (Nat.lt_of_lt_of_le hx (Nat.pow_le_pow_left (by omega) 9))) (by omega)
  have h := div_gen (ng x) (ng y) (mg x) (mg y) W (Nat.le_trans (mg_size x 9 hx) (by omega)) (Nat.le_trans (mg_size y 9 (Nat.lt_of_lt_of_le hy (by decide))) (by omega))
    (by rw [e1, e2]; exact divideOk_word _ _ (by omega) hl (.inr hy)) (by rw [e2]; omega)
  rw [ival_mg, ival_mg] at h
  refine h.mono ?_
  rintro e w' ⟨q', r', hd', rfl, hb⟩
  obtain ⟨rfl, rfl⟩ := hd.unique hd'
  exact ⟨rfl, hb⟩
theorem root_lit (x : Nat) (r : Nat) (hx : x < 18446744073709551616) (hr : IsRoot x r) (bx br : Bool) (sx sr : ByteArray) (h1 : ng (x : Int) = bx) (h2 : mg (x : Int) = sx) (h3 : ng (r : Int) = br) (h4 : mg (r : Int) = sr) (W : World) :
    Calls Tryz.prog 36 #[.agg #[.bool bx, .string sx]] W fun e w' => e = .returned (.tuple #[.agg #[.bool br, .string sr], .bool (decide (r * r = x)), .int .i64 0]) ∧ Below W.heap.size W w' := by
  subst h1; subst h2; subst h3; subst h4
  have e1 : beVal (mg (x : Int)).data.toList = x := by rw [mg_list, beVal_be]; rfl
  have e2 : ng (x : Int) = false := by simp [ng]
  have h := root_gen (ng (x : Int)) (mg (x : Int)) r W (Nat.le_trans (mg_size x 9 (by show x < _; exact Nat.lt_of_lt_of_le hx (by decide))) (by omega)) (by rw [e1]; exact rootOk_word x r hx hr) (by rw [e1]; exact hr) (.inl e2)
  rw [e1] at h
  exact h

theorem digits_two64 : Lib.decDigits 18446744073709551616 = [49, 56, 52, 52, 54, 55, 52, 52, 48, 55, 51, 55, 48, 57, 53, 53, 49, 54, 49, 54] := by
  simp [Lib.decDigits]
theorem bl_two64 : bl 18446744073709551616 = 65 := by decide
theorem big_mul : (4294967296 : Int) * 4294967296 = ((18446744073709551616 : Nat) : Int) := by decide

set_option maxHeartbeats 4000000 in
set_option maxRecDepth 100000 in
theorem awake_any (w : World) (htab : Tab w) :
    Calls Tryz.prog 15 #[] w fun e w' => e = .returned (.bool true) ∧ Below w.heap.size w w' := by
  have HT := Lib.hid htab
  clear htab
  obtain ⟨b32, h32⟩ : ∃ b, ng 4294967296 = b := ⟨_, rfl⟩
  obtain ⟨s32, k32⟩ : ∃ s, mg 4294967296 = s := ⟨_, rfl⟩
  obtain ⟨bP, hP⟩ : ∃ b, ng (4294967296 * 4294967296) = b := ⟨_, rfl⟩
  obtain ⟨sP, kP⟩ : ∃ s, mg (4294967296 * 4294967296) = s := ⟨_, rfl⟩
  obtain ⟨bm7, hm7⟩ : ∃ b, ng (-7) = b := ⟨_, rfl⟩
  obtain ⟨sm7, km7⟩ : ∃ s, mg (-7) = s := ⟨_, rfl⟩
  obtain ⟨b2, h2⟩ : ∃ b, ng 2 = b := ⟨_, rfl⟩
  obtain ⟨s2, k2⟩ : ∃ s, mg 2 = s := ⟨_, rfl⟩
  obtain ⟨b7, h7⟩ : ∃ b, ng 7 = b := ⟨_, rfl⟩
  obtain ⟨s7, k7⟩ : ∃ s, mg 7 = s := ⟨_, rfl⟩
  obtain ⟨bm2, hm2⟩ : ∃ b, ng (-2) = b := ⟨_, rfl⟩
  obtain ⟨sm2, km2⟩ : ∃ s, mg (-2) = s := ⟨_, rfl⟩
  obtain ⟨bm4, hm4⟩ : ∃ b, ng (-4) = b := ⟨_, rfl⟩
  obtain ⟨sm4, km4⟩ : ∃ s, mg (-4) = s := ⟨_, rfl⟩
  obtain ⟨b1, h1⟩ : ∃ b, ng 1 = b := ⟨_, rfl⟩
  obtain ⟨s1, k1⟩ : ∃ s, mg 1 = s := ⟨_, rfl⟩
  obtain ⟨bm1, hm1⟩ : ∃ b, ng (-1) = b := ⟨_, rfl⟩
  obtain ⟨sm1, km1⟩ : ∃ s, mg (-1) = s := ⟨_, rfl⟩
  obtain ⟨b10, h10⟩ : ∃ b, ng ((10 : Nat) : Int) = b := ⟨_, rfl⟩
  obtain ⟨s10, k10⟩ : ∃ s, mg ((10 : Nat) : Int) = s := ⟨_, rfl⟩
  obtain ⟨b3, h3⟩ : ∃ b, ng ((3 : Nat) : Int) = b := ⟨_, rfl⟩
  obtain ⟨s3, k3⟩ : ∃ s, mg ((3 : Nat) : Int) = s := ⟨_, rfl⟩
  have O32 := Lib.hid (of_lit _ _ _ h32 k32 (by omega) (by omega))
  have Om7 := Lib.hid (of_lit _ _ _ hm7 km7 (by omega) (by omega))
  have O2 := Lib.hid (of_lit _ _ _ h2 k2 (by omega) (by omega))
  have O7 := Lib.hid (of_lit _ _ _ h7 k7 (by omega) (by omega))
  have Om2 := Lib.hid (of_lit _ _ _ hm2 km2 (by omega) (by omega))
  have Om4 := Lib.hid (of_lit _ _ _ hm4 km4 (by omega) (by omega))
  have O1 := Lib.hid (of_lit _ _ _ h1 k1 (by omega) (by omega))
  have Om1 := Lib.hid (of_lit _ _ _ hm1 km1 (by omega) (by omega))
  have O10 := Lib.hid (of_lit _ _ _ h10 k10 (by omega) (by omega))
  have O3 := Lib.hid (of_lit _ _ _ h3 k3 (by omega) (by omega))
  have M := Lib.hid (mul_lit 4294967296 4294967296 (by decide) (by decide) _ _ _ _ _ _ h32 k32 h32 k32 hP kP)
  have D1 := Lib.hid (div_lit (-7) 2 (-4) 1 (by decide) (by decide) (by omega) ⟨by omega, by omega⟩ _ _ _ _ _ _ _ _ hm7 km7 h2 k2 hm4 km4 h1 k1)
  have D2 := Lib.hid (div_lit 7 (-2) (-4) (-1) (by decide) (by decide) (by omega) ⟨by omega, by omega⟩ _ _ _ _ _ _ _ _ h7 k7 hm2 km2 hm4 km4 hm1 km1)
  have R := Lib.hid (root_lit 10 3 (by decide) ⟨by decide, by decide⟩ _ _ _ _ h10 k10 h3 k3)
  have hpr : ∀ W, Tab W → Calls Tryz.prog 42 #[.agg #[.bool bP, .string sP]] W fun e w' => e = .returned (.string ⟨#[49, 56, 52, 52, 54, 55, 52, 52, 48, 55, 51, 55, 48, 57, 53, 53, 49, 54, 49, 54]⟩) ∧ Below W.heap.size W w' := by
    intro W hW
    subst hP; subst kP
    have h := print_any (ng (4294967296 * 4294967296)) (mg (4294967296 * 4294967296)) W (Nat.le_trans (mg_size _ 9 (by decide)) (by omega)) hW
    rw [ival_mg, big_mul] at h
    unfold txt at h
    rw [Lib.itoa_nonneg, digits_two64] at h
    exact h
  have hbt : ∀ W, Calls Tryz.prog 26 #[.agg #[.bool bP, .string sP]] W fun e w' => e = .returned (.int .i64 65) ∧ Below W.heap.size W w' := by
    intro W
    subst hP; subst kP
    have h := bits_any (ng (4294967296 * 4294967296)) (mg (4294967296 * 4294967296)) W (Nat.le_trans (mg_size _ 9 (by decide)) (by omega))
    rw [mg_list, beVal_be, big_mul, Int.natAbs_natCast, bl_two64] at h
    exact h
  have PR := Lib.hid hpr
  have BT := Lib.hid hbt
  have eqs : ∀ (x : Int) (b : Bool) (s : ByteArray), ng x = b → mg x = s → eqI b s b s = true := fun x b s hb hs => by subst hb; subst hs; rw [eqI_ints]; simp
  have q4 := eqs _ _ _ hm4 km4
  have q1 := eqs _ _ _ h1 k1
  have qm1 := eqs _ _ _ hm1 km1
  have q3 := eqs _ _ _ h3 k3
  clear hpr hbt eqs h32 k32 hP kP hm7 km7 h2 k2 h7 k7 hm2 km2 hm4 km4 h1 k1 hm1 km1 h10 k10 h3 k3
  go_enter Tryz.func15, Tryz.ntmps15
  go_wp2_with fail
  refine (O32.out _).mono ?_
  rintro e w1 ⟨rfl, c1⟩
  go_wp2_with fail
  refine (O32.out _).mono ?_
  rintro e w2 ⟨rfl, c2⟩
  go_wp2_with fail
  refine (M.out _).mono ?_
  rintro e w3 ⟨rfl, c3⟩
  have b3w : Below w.heap.size w w3 := (c1.trans (c2.mono c1.size)).trans (c3.mono (Nat.le_trans c1.size c2.size))
  have C3 := Lib.hid b3w
  clear c1 c2 c3 b3w
  go_wp2_with fail
  obtain ⟨V1, hV1⟩ : ∃ V, w3.alloc (Obj.cells #[Value.bool bP, Value.string sP] 23) = V := ⟨_, rfl⟩
  obtain ⟨B1, hB1⟩ : ∃ B, w3.heap.size = B := ⟨_, rfl⟩
  have tP : Two B1 (.bool bP) (.string sP) V1 := by rw [← hV1, ← hB1]; exact two_new _ _ _ _
  have vb1 : Below w.heap.size w V1 := by rw [← hV1]; exact C3.out.alloc C3.out.size _
  rw [hV1, hB1]
  have S1 := Lib.hid (And.intro tP vb1)
  clear hV1 hB1 tP vb1 C3
  refine (Om7.out _).mono ?_
  rintro e w4 ⟨rfl, c4⟩
  go_wp2_with fail
  refine (O2.out _).mono ?_
  rintro e w5 ⟨rfl, c5⟩
  go_wp2_with fail
  refine (D1.out _).mono ?_
  rintro e w6 ⟨rfl, c6⟩
  have c46 : Below V1.heap.size V1 w6 := (c4.trans (c5.mono c4.size)).trans (c6.mono (Nat.le_trans c4.size c5.size))
  have C6 := Lib.hid c46
  clear c4 c5 c6 c46
  go_wp2_with fail
  obtain ⟨V2, hV2⟩ : ∃ V, (w6.alloc (Obj.cells #[Value.bool bm4, Value.string sm4] 23)).alloc (Obj.cells #[Value.bool b1, Value.string s1] 23) = V := ⟨_, rfl⟩
  obtain ⟨B2, hB2⟩ : ∃ B, w6.heap.size = B := ⟨_, rfl⟩
  have v12 : Below V1.heap.size V1 V2 := by rw [← hV2]; exact (C6.out.alloc C6.out.size _).alloc (by have := C6.out.size; simp; omega) _
  have tq : Two B2 (.bool bm4) (.string sm4) V2 := by rw [← hV2, ← hB2]; exact (two_new w6 _ _ _).below (B0 := w6.heap.size + 1) ((Below.refl _ _).alloc (by simp) _) (by omega)
  have tr : Two (B2 + 1) (.bool b1) (.string s1) V2 := by
    rw [← hV2, ← hB2]
    have h := two_new (w6.alloc (Obj.cells #[Value.bool bm4, Value.string sm4] 23)) (.bool b1) (.string s1) 23
    rwa [World.size_alloc] at h
  have tP2 := S1.out.1.below v12 S1.out.1.lt
  have vb2 : Below w.heap.size w V2 := S1.out.2.trans (v12.mono S1.out.2.size)
  rw [hV2, hB2]
  have S2 := Lib.hid (And.intro tP2 (And.intro tq (And.intro tr vb2)))
  clear hV2 hB2 v12 tq tr tP2 vb2 C6 S1
  refine (O7.out _).mono ?_
  rintro e w7 ⟨rfl, c7⟩
  go_wp2_with fail
  refine (Om2.out _).mono ?_
  rintro e w8 ⟨rfl, c8⟩
  go_wp2_with fail
  refine (D2.out _).mono ?_
  rintro e w9 ⟨rfl, c9⟩
  have c79 : Below V2.heap.size V2 w9 := (c7.trans (c8.mono c7.size)).trans (c9.mono (Nat.le_trans c7.size c8.size))
  have C9 := Lib.hid c79
  clear c7 c8 c9 c79
  go_wp2_with fail
  obtain ⟨V3, hV3⟩ : ∃ V, (w9.alloc (Obj.cells #[Value.bool bm4, Value.string sm4] 23)).alloc (Obj.cells #[Value.bool bm1, Value.string sm1] 23) = V := ⟨_, rfl⟩
  obtain ⟨B3, hB3⟩ : ∃ B, w9.heap.size = B := ⟨_, rfl⟩
  have v23 : Below V2.heap.size V2 V3 := by rw [← hV3]; exact (C9.out.alloc C9.out.size _).alloc (by have := C9.out.size; simp; omega) _
  have tp : Two B3 (.bool bm4) (.string sm4) V3 := by rw [← hV3, ← hB3]; exact (two_new w9 _ _ _).below (B0 := w9.heap.size + 1) ((Below.refl _ _).alloc (by simp) _) (by omega)
  have ts : Two (B3 + 1) (.bool bm1) (.string sm1) V3 := by
    rw [← hV3, ← hB3]
    have h := two_new (w9.alloc (Obj.cells #[Value.bool bm4, Value.string sm4] 23)) (.bool bm1) (.string sm1) 23
    rwa [World.size_alloc] at h
  have tP3 := S2.out.1.below v23 S2.out.1.lt
  have tq3 := S2.out.2.1.below v23 S2.out.2.1.lt
  have tr3 := S2.out.2.2.1.below v23 S2.out.2.2.1.lt
  have vb3 : Below w.heap.size w V3 := S2.out.2.2.2.trans (v23.mono S2.out.2.2.2.size)
  rw [hV3, hB3]
  have S3 := Lib.hid (And.intro tP3 (And.intro tq3 (And.intro tr3 (And.intro tp (And.intro ts vb3)))))
  clear hV3 hB3 v23 tP3 tq3 tr3 tp ts vb3 C9 S2
  refine (O10.out _).mono ?_
  rintro e w10 ⟨rfl, c10⟩
  go_wp2_with fail
  refine (R.out _).mono ?_
  rintro e w11 ⟨rfl, c11⟩
  have c1011 : Below V3.heap.size V3 w11 := c10.trans (c11.mono c10.size)
  have C11 := Lib.hid c1011
  clear c10 c11 c1011
  go_wp2_with fail
  obtain ⟨V4, hV4⟩ : ∃ V, w11.alloc (Obj.cells #[Value.bool b3, Value.string s3] 23) = V := ⟨_, rfl⟩
  obtain ⟨B4, hB4⟩ : ∃ B, w11.heap.size = B := ⟨_, rfl⟩
  have v34 : Below V3.heap.size V3 V4 := by rw [← hV4]; exact C11.out.alloc C11.out.size _
  have tw : Two B4 (.bool b3) (.string s3) V4 := by rw [← hV4, ← hB4]; exact two_new _ _ _ _
  have tP4 := S3.out.1.below v34 S3.out.1.lt
  have tq4 := S3.out.2.1.below v34 S3.out.2.1.lt
  have tr4 := S3.out.2.2.1.below v34 S3.out.2.2.1.lt
  have tp4 := S3.out.2.2.2.1.below v34 S3.out.2.2.2.1.lt
  have ts4 := S3.out.2.2.2.2.1.below v34 S3.out.2.2.2.2.1.lt
  have vb4 : Below w.heap.size w V4 := S3.out.2.2.2.2.2.trans (v34.mono S3.out.2.2.2.2.2.size)
  have htv : Tab V4.drew := tab_kept (row := none) HT.out ⟨vb4.os, vb4.tape, vb4.output, vb4.size, fun k hk _ => vb4.block k hk⟩ (by simp)
  rw [hV4, hB4]
  have HTV := Lib.hid htv
  have S4 := Lib.hid vb4
  have l1 := tP4.lt
  have l2 := tq4.lt
  have l3 := tr4.lt
  have l4 := tp4.lt
  have l5 := ts4.lt
  have l6 := tw.lt
  have m1 := tP4.1.1
  have m2 := tP4.2.1
  have m3 := tq4.1.1
  have m4 := tq4.2.1
  have m5 := tr4.1.1
  have m6 := tr4.2.1
  have m7 := tp4.1.1
  have m8 := tp4.2.1
  have m9 := ts4.1.1
  have m10 := ts4.2.1
  have m11 := tw.1.1
  have m12 := tw.2.1
  have g1 := eql_int
  have g2 := guard_int
  clear hV4 hB4 v34 tP4 tq4 tr4 tp4 ts4 tw vb4 htv C11 S3
  have tok3 : True := trivial
  have tok4 : True := trivial
  have tok5 : True := trivial
  have tok6 : True := trivial
  go_region_held3 (fun w' => ∀ (a o : Nat), a < V4.heap.size → w'.cell? ⟨a, o, none⟩ = V4.cell? ⟨a, o, none⟩) (first | assumption | (intro _ _ _; rfl))
    (first | (go_at_call 42; refine (PR.out _ HTV.out).mono ?_; rintro e u1 ⟨rfl, d1⟩; have E1 := Lib.hid d1; have kS1 : ∀ (a o : Nat), a < V4.heap.size → u1.cell? ⟨a, o, none⟩ = V4.cell? ⟨a, o, none⟩ := fun a o h => E1.out.cell (p := ⟨a, o, none⟩) h; clear d1) | (go_at_call 26; refine (BT.out _).mono ?_; rintro e u2 ⟨rfl, d2⟩; have E2 := Lib.hid (E1.out.trans (d2.mono E1.out.size)); have kS2 : ∀ (a o : Nat), a < V4.heap.size → u2.cell? ⟨a, o, none⟩ = V4.cell? ⟨a, o, none⟩ := fun a o h => E2.out.cell (p := ⟨a, o, none⟩) h; clear d2) | (go_at_call 18; have _t := tok3; clear tok3; refine (Om4.out _).mono ?_; rintro e u3 ⟨rfl, d3⟩; have E3 := Lib.hid (E2.out.trans (d3.mono E2.out.size)); have kS3 : ∀ (a o : Nat), a < V4.heap.size → u3.cell? ⟨a, o, none⟩ = V4.cell? ⟨a, o, none⟩ := fun a o h => E3.out.cell (p := ⟨a, o, none⟩) h; clear d3) | (go_at_call 18; have _t := tok4; clear tok4; refine (O1.out _).mono ?_; rintro e u4 ⟨rfl, d4⟩; have E4 := Lib.hid (E3.out.trans (d4.mono E3.out.size)); have kS4 : ∀ (a o : Nat), a < V4.heap.size → u4.cell? ⟨a, o, none⟩ = V4.cell? ⟨a, o, none⟩ := fun a o h => E4.out.cell (p := ⟨a, o, none⟩) h; clear d4) | (go_at_call 18; have _t := tok5; clear tok5; refine (Om1.out _).mono ?_; rintro e u5 ⟨rfl, d5⟩; have E5 := Lib.hid (E4.out.trans (d5.mono E4.out.size)); have kS5 : ∀ (a o : Nat), a < V4.heap.size → u5.cell? ⟨a, o, none⟩ = V4.cell? ⟨a, o, none⟩ := fun a o h => E5.out.cell (p := ⟨a, o, none⟩) h; clear d5) | (go_at_call 18; have _t := tok6; clear tok6; refine (O3.out _).mono ?_; rintro e u6 ⟨rfl, d6⟩; have E6 := Lib.hid (E5.out.trans (d6.mono E5.out.size)); have kS6 : ∀ (a o : Nat), a < V4.heap.size → u6.cell? ⟨a, o, none⟩ = V4.cell? ⟨a, o, none⟩ := fun a o h => E6.out.cell (p := ⟨a, o, none⟩) h; clear d6))
  go_wp2_with fail
  go_ret
  exact ⟨rfl, S4.out.drew.trans (E6.out.mono S4.out.size)⟩
end Go.Proofs.YtajollhpimfefaaGreatDoor
