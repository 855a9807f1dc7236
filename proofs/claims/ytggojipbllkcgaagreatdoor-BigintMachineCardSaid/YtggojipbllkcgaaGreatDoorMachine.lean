/- The walk of narrowslaw01.BigintMachine. -/
import Derived.Test.YtggojipbllkcgaaGreatDoorLawKit
import Derived.Test.YtggojipbllkcgaaGreatDoorSmall
import Derived.Outline
import Derived.Handy
namespace Go.Proofs.YtggojipbllkcgaaGreatDoor
open Go.RowKit Go.Shelf

theorem of_val {z : Int} {b : Bool} {s : ByteArray} (h : Nam b s z) (h1 : -9223372036854775808 ≤ z) (h2 : z ≤ 9223372036854775807) (W : World) :
    Calls Tryz.prog 19 #[.int .i64 z] W fun e w' => e = .returned (.agg #[.bool b, .string s]) ∧ Below W.heap.size W w' := of_lit z b s h.sign h.mag h1 h2 W
theorem small_val {z : Int} {b : Bool} {s : ByteArray} (h : Val b s z) (h1 : -9223372036854775808 ≤ z) (h2 : z ≤ 9223372036854775807) (W : World) :
    Calls Tryz.prog 17 #[.agg #[.bool b, .string s]] W fun e w' => e = .returned (.tuple #[.int .i64 z, .bool true]) ∧ Below W.heap.size W w' := by
  have hs := small_any b s W
  rw [h.val] at hs
  refine hs.mono ?_
  rintro e w' ⟨hh | hh, hb⟩
  · exact ⟨hh.2.2, hb⟩
  · omega
theorem div_val {x y q r : Int} (hx : x.natAbs < 256 ^ 9) (hy : y.natAbs < 18446744073709551616) (hy0 : y ≠ 0) (hd : IsDiv x y q r) {bx by' bq br : Bool} {sx sy sq sr : ByteArray}
    (h1 : Nam bx sx x) (h2 : Nam by' sy y) (h3 : Nam bq sq q) (h4 : Nam br sr r) (W : World) :
    Calls Tryz.prog 35 #[.agg #[.bool bx, .string sx], .agg #[.bool by', .string sy]] W fun e w' => e = .returned (.tuple #[.agg #[.bool bq, .string sq], .agg #[.bool br, .string sr], .int .i64 0]) ∧ Below W.heap.size W w' :=
  div_lit x y q r hx hy hy0 hd _ _ _ _ _ _ _ _ h1.sign h1.mag h2.sign h2.mag h3.sign h3.mag h4.sign h4.mag W
theorem div_val0 {bx by' : Bool} {sx sy : ByteArray} (hs : sx.size ≤ 262144) (h2 : Nam by' sy 0) (W : World) :
    Calls Tryz.prog 35 #[.agg #[.bool bx, .string sx], .agg #[.bool by', .string sy]] W fun e w' => e = .returned (.tuple #[.agg #[.bool false, .string ⟨#[]⟩], .agg #[.bool false, .string ⟨#[]⟩], .int .i64 10]) ∧ Below W.heap.size W w' := by
  obtain ⟨rfl, rfl⟩ := h2.zero
  exact div_zero bx false sx ⟨#[]⟩ W hs (Nat.zero_le _) rfl
/-- The quotient that is rounded towards zero, set right by one where the signs differ. -/
theorem isDiv_trunc (x y : Int) (hy : y ≠ 0) (h : ¬ (x.tmod y ≠ 0 ∧ ¬ (x.tmod y < 0 ↔ y < 0))) : IsDiv x y (x.tdiv y) (x.tmod y) := by
  have e := Int.mul_tdiv_add_tmod x y
  have hl : (x.tmod y).natAbs < y.natAbs := by rw [Int.natAbs_tmod]; exact Nat.mod_lt _ (by omega)
  refine ⟨e.symm, ?_⟩
  generalize x.tmod y = r at *
  by_cases hr : r = 0
  · subst hr; omega
  · have h' : r < 0 ↔ y < 0 := Classical.byContradiction fun hn => h ⟨hr, hn⟩
    omega
theorem isDiv_trunc1 (x y : Int) (hy : y ≠ 0) (h : x.tmod y ≠ 0 ∧ ¬ (x.tmod y < 0 ↔ y < 0)) : IsDiv x y (x.tdiv y - 1) (x.tmod y + y) := by
  have e := Int.mul_tdiv_add_tmod x y
  have hl : (x.tmod y).natAbs < y.natAbs := by rw [Int.natAbs_tmod]; exact Nat.mod_lt _ (by omega)
  obtain ⟨h1, h2⟩ := h
  refine ⟨by rw [Int.mul_sub, Int.mul_one]; omega, ?_⟩
  generalize x.tmod y = r at *
  omega

set_option maxHeartbeats 4000000 in
set_option maxRecDepth 100000 in
theorem machine_any (x y : Int) (w : World) (htab : Tab w) (hx1 : -2147483648 ≤ x) (hx2 : x ≤ 2147483647) (hy1 : -2147483648 ≤ y) (hy2 : y ≤ 2147483647) :
    Calls Tryz.prog 8 #[.int .i32 x, .int .i32 y] w fun e w' => e = .returned (.bool true) ∧ Below w.heap.size w w' := by
  have zx : Sz 4 x := by unfold Sz; omega
  have zy : Sz 4 y := by unfold Sz; omega
  have zm : Sz 8 (x * y) := zx.mul zy
  obtain ⟨bX, sX, mX⟩ := nam_ex x
  obtain ⟨bY, sY, mY⟩ := nam_ex y
  obtain ⟨bS, sS, mS⟩ := nam_ex (x + y)
  obtain ⟨bD, sD, mD⟩ := nam_ex (x - y)
  obtain ⟨bP, sP, mP⟩ := nam_ex (x * y)
  have vX := mX.val zx (by omega)
  have vY := mY.val zy (by omega)
  have hm62 : (x * y).natAbs ≤ 2147483648 * 2147483648 := by
    rw [Int.natAbs_mul]
    exact Nat.mul_le_mul (by omega) (by omega)
  have hml : -9223372036854775808 ≤ x * y ∧ x * y ≤ 9223372036854775807 := by omega
  obtain ⟨c, hc⟩ : ∃ c, cmpZ x y = c := ⟨_, rfl⟩
  have hcl : c < 0 ↔ x < y := by rw [← hc]; unfold cmpZ; split <;> (try split) <;> omega
  have hcg : 0 < c ↔ y < x := by rw [← hc]; unfold cmpZ; split <;> (try split) <;> omega
  have KX := Lib.hid (of_val mX (by omega) (by omega))
  have KY := Lib.hid (of_val mY (by omega) (by omega))
  have KS := Lib.hid (small_val vX (by omega) (by omega))
  have R1 := Lib.hid (add_val vX vY rfl mS)
  have R2 := Lib.hid (of_val mS (by omega) (by omega))
  have R3 := Lib.hid (sub_val vX vY rfl mD)
  have R4 := Lib.hid (of_val mD (by omega) (by omega))
  have R5 := Lib.hid (mul_val vX vY rfl mP)
  have R6 := Lib.hid (of_val mP hml.1 hml.2)
  have R7 := Lib.hid (cmp_val vX vY c hc)
  have HT := Lib.hid htab
  have HV := Lib.hid (And.intro mX (And.intro mY vX))
  have HZ := Lib.hid (And.intro hx1 (And.intro hx2 (And.intro hy1 hy2)))
  have i1 : IntKind.i64.wrap x = x := by apply IntWalk.i64_in <;> omega
  have i2 : IntKind.i64.wrap y = y := by apply IntWalk.i64_in <;> omega
  have i3 : IntKind.i64.wrap (x + y) = x + y := by apply IntWalk.i64_in <;> omega
  have i4 : IntKind.i64.wrap (x - y) = x - y := by apply IntWalk.i64_in <;> omega
  have i5 : IntKind.i64.wrap (x * y) = x * y := by apply IntWalk.i64_in <;> omega
  have e1 := mS.eq
  have e2 := mD.eq
  have e3 := mP.eq
  have g0 := neq_int
  have g1 := eql_int
  have g2 := guard_int
  clear zx zy zm vX vY mX mY mS mD mP hm62 hml hc htab hx1 hx2 hy1 hy2
  go_enter Tryz.func8, Tryz.ntmps8
  go_wp2_with fail
  refine (KX.out _).mono ?_
  rintro e w1 ⟨rfl, c1⟩
  go_wp2_with fail
  refine (KY.out _).mono ?_
  rintro e w2 ⟨rfl, c2⟩
  go_wp2_with fail
  have c12 : Below w.heap.size w w2 := c1.trans (c2.mono c1.size)
  obtain ⟨w3, h3⟩ : ∃ V, (w2.alloc (Obj.cells #[Value.bool bX, Value.string sX] 23)).alloc (Obj.cells #[Value.bool bY, Value.string sY] 23) = V := ⟨_, rfl⟩
  obtain ⟨B, hB⟩ : ∃ B, w2.heap.size = B := ⟨_, rfl⟩
  have f3 : Below w.heap.size w w3 := by rw [← h3]; exact (c12.alloc c12.size _).alloc (by have := c12.size; simp; omega) _
  have a3 : Two B (.bool bX) (.string sX) w3 := by rw [← h3, ← hB]; exact (two_new w2 _ _ _).below (B0 := w2.heap.size + 1) ((Below.refl _ _).alloc (by simp) _) (by omega)
  have b3 : Two (B + 1) (.bool bY) (.string sY) w3 := by
    rw [← h3, ← hB]
    have h := two_new (w2.alloc (Obj.cells #[Value.bool bX, Value.string sX] 23)) (.bool bY) (.string sY) 23
    rwa [World.size_alloc] at h
  rw [h3, hB]
  have HA3 := Lib.hid a3
  have HB3 := Lib.hid b3
  have HF3 := Lib.hid f3
  clear c1 c2 c12 h3 hB f3 a3 b3
  refine (KS.out _).mono ?_
  rintro e w4 ⟨rfl, c4⟩
  have a4 := HA3.out.below c4 HA3.out.lt
  have b4 := HB3.out.below c4 HB3.out.lt
  have f4 := HF3.out.trans (c4.mono HF3.out.size)
  have m41 := a4.1.1
  have m42 := a4.2.1
  have m43 := b4.1.1
  have m44 := b4.2.1
  have HA4 := Lib.hid a4
  have HB4 := Lib.hid b4
  have HF4 := Lib.hid f4
  clear a4 b4 f4 c4
  go_wp2_with fail
  refine (R1.out _).mono ?_
  rintro e w5 ⟨rfl, c5⟩
  have a5 := HA4.out.below c5 HA4.out.lt
  have b5 := HB4.out.below c5 HB4.out.lt
  have f5 := HF4.out.trans (c5.mono HF4.out.size)
  have m51 := a5.1.1
  have m52 := a5.2.1
  have m53 := b5.1.1
  have m54 := b5.2.1
  have HA5 := Lib.hid a5
  have HB5 := Lib.hid b5
  have HF5 := Lib.hid f5
  clear a5 b5 f5 c5 m41 m42 m43 m44
  go_wp2_with fail
  refine (R2.out _).mono ?_
  rintro e w6 ⟨rfl, c6⟩
  have a6 := HA5.out.below c6 HA5.out.lt
  have b6 := HB5.out.below c6 HB5.out.lt
  have f6 := HF5.out.trans (c6.mono HF5.out.size)
  have m61 := a6.1.1
  have m62 := a6.2.1
  have m63 := b6.1.1
  have m64 := b6.2.1
  have HA6 := Lib.hid a6
  have HB6 := Lib.hid b6
  have HF6 := Lib.hid f6
  clear a6 b6 f6 c6 m51 m52 m53 m54
  go_wp2_with fail
  refine (R3.out _).mono ?_
  rintro e w7 ⟨rfl, c7⟩
  have a7 := HA6.out.below c7 HA6.out.lt
  have b7 := HB6.out.below c7 HB6.out.lt
  have f7 := HF6.out.trans (c7.mono HF6.out.size)
  have m71 := a7.1.1
  have m72 := a7.2.1
  have m73 := b7.1.1
  have m74 := b7.2.1
  have HA7 := Lib.hid a7
  have HB7 := Lib.hid b7
  have HF7 := Lib.hid f7
  clear a7 b7 f7 c7 m61 m62 m63 m64
  go_wp2_with fail
  refine (R4.out _).mono ?_
  rintro e w8 ⟨rfl, c8⟩
  have a8 := HA7.out.below c8 HA7.out.lt
  have b8 := HB7.out.below c8 HB7.out.lt
  have f8 := HF7.out.trans (c8.mono HF7.out.size)
  have m81 := a8.1.1
  have m82 := a8.2.1
  have m83 := b8.1.1
  have m84 := b8.2.1
  have HA8 := Lib.hid a8
  have HB8 := Lib.hid b8
  have HF8 := Lib.hid f8
  clear a8 b8 f8 c8 m71 m72 m73 m74
  go_wp2_with fail
  refine (R5.out _).mono ?_
  rintro e w9 ⟨rfl, c9⟩
  have a9 := HA8.out.below c9 HA8.out.lt
  have b9 := HB8.out.below c9 HB8.out.lt
  have f9 := HF8.out.trans (c9.mono HF8.out.size)
  have m91 := a9.1.1
  have m92 := a9.2.1
  have m93 := b9.1.1
  have m94 := b9.2.1
  have HA9 := Lib.hid a9
  have HB9 := Lib.hid b9
  have HF9 := Lib.hid f9
  clear a9 b9 f9 c9 m81 m82 m83 m84
  go_wp2_with fail
  refine (R6.out _).mono ?_
  rintro e w10 ⟨rfl, c10⟩
  have a10 := HA9.out.below c10 HA9.out.lt
  have b10 := HB9.out.below c10 HB9.out.lt
  have f10 := HF9.out.trans (c10.mono HF9.out.size)
  have m101 := a10.1.1
  have m102 := a10.2.1
  have m103 := b10.1.1
  have m104 := b10.2.1
  have HA10 := Lib.hid a10
  have HB10 := Lib.hid b10
  have HF10 := Lib.hid f10
  clear a10 b10 f10 c10 m91 m92 m93 m94
  go_wp2_with fail
  refine (R7.out _).mono ?_
  rintro e w11 ⟨rfl, c11⟩
  have a11 := HA10.out.below c11 HA10.out.lt
  have b11 := HB10.out.below c11 HB10.out.lt
  have f11 := HF10.out.trans (c11.mono HF10.out.size)
  have m111 := a11.1.1
  have m112 := a11.2.1
  have m113 := b11.1.1
  have m114 := b11.2.1
  have HA11 := Lib.hid a11
  have HB11 := Lib.hid b11
  have HF11 := Lib.hid f11
  clear a11 b11 f11 c11 m101 m102 m103 m104
  go_wp2_with fail
  refine (R7.out _).mono ?_
  rintro e w12 ⟨rfl, c12⟩
  have a12 := HA11.out.below c12 HA11.out.lt
  have b12 := HB11.out.below c12 HB11.out.lt
  have f12 := HF11.out.trans (c12.mono HF11.out.size)
  have m121 := a12.1.1
  have m122 := a12.2.1
  have m123 := b12.1.1
  have m124 := b12.2.1
  have HA12 := Lib.hid a12
  have HB12 := Lib.hid b12
  have HF12 := Lib.hid f12
  clear a12 b12 f12 c12 m111 m112 m113 m114
  by_cases hy0 : y = 0
  · subst hy0
    have RD := Lib.hid (div_val0 (bx := bX) HV.out.2.2.small HV.out.2.1)
    go_wp2_with fail
    refine (RD.out _).mono ?_
    rintro e w13 ⟨rfl, c13⟩
    have f13 := HF12.out.trans (c13.mono HF12.out.size)
    have HF13 := Lib.hid f13
    have z13 := f13.size
    clear f13 c13
    go_wp2_with fail
    have htv := fun (W : World) (h : Below w.heap.size w W) => awake_any W (tab_below HT.out h)
    have HAW := Lib.hid htv
    clear htv
    refine (HAW.out _ (by have Dp := HF13.out; go_grown)).mono ?_
    rintro e w14 ⟨rfl, c14⟩
    go_wp2_with fail
    go_ret
    exact ⟨rfl, Below.trans (by have Dp := HF13.out; go_grown) (c14.mono (by go_size))⟩
  · have zq : x.tdiv y = x.tdiv y := rfl
    have hdv : (¬ (x.tmod y ≠ 0 ∧ ¬ (x.tmod y < 0 ↔ y < 0)) → IsDiv x y (x.tdiv y) (x.tmod y)) ∧ ((x.tmod y ≠ 0 ∧ ¬ (x.tmod y < 0 ↔ y < 0)) → IsDiv x y (x.tdiv y - 1) (x.tmod y + y)) := ⟨isDiv_trunc x y hy0, isDiv_trunc1 x y hy0⟩
    obtain ⟨hx1, hx2, hy1, hy2⟩ := HZ.out
    have hb : x.natAbs < 256 ^ 9 ∧ y.natAbs < 18446744073709551616 := ⟨by omega, by omega⟩
    have hQb : (x.tdiv y).natAbs ≤ x.natAbs := by rw [Int.natAbs_tdiv]; exact Nat.div_le_self _ _
    have hRb : (x.tmod y).natAbs < y.natAbs := by rw [Int.natAbs_tmod]; exact Nat.mod_lt _ (by omega)
    obtain ⟨Q0, hQ⟩ : ∃ q, x.tdiv y = q := ⟨_, rfl⟩
    obtain ⟨R0, hR⟩ : ∃ r, x.tmod y = r := ⟨_, rfl⟩
    rw [hQ] at hdv hQb
    rw [hR] at hdv hRb
    have i6 : IntKind.i64.wrap Q0 = Q0 := by apply IntWalk.i64_in <;> omega
    have i7 : IntKind.i64.wrap R0 = R0 := by apply IntWalk.i64_in <;> omega
    have i8 : IntKind.i64.wrap (Q0 - 1) = Q0 - 1 := by apply IntWalk.i64_in <;> omega
    have i9 : IntKind.i64.wrap (R0 + y) = R0 + y := by apply IntWalk.i64_in <;> omega
    clear zq hx1 hx2 hy1 hy2
    rcases Int.lt_trichotomy R0 0 with hr | hr | hr
    · by_cases hyn : y < 0
      · have hr0 : R0 ≠ 0 := by omega
        have hx1 := HZ.out
        obtain ⟨bQ, sQ, mQ⟩ := nam_ex (Q0)
        obtain ⟨bR, sR, mR⟩ := nam_ex (R0)
        have RD := Lib.hid (div_val hb.1 hb.2 hy0 (hdv.1 (by omega)) HV.out.1 HV.out.2.1 mQ mR)
        have O1 := Lib.hid (of_val mQ (by omega) (by omega))
        have O2 := Lib.hid (of_val mR (by omega) (by omega))
        have eq1 := mQ.eq
        have eq2 := mR.eq
        clear mQ mR hb hQb hRb hdv
        go_wp2_with fail
        go_region_held3 (fun _ => True) (trivial) (fail)
        go_wp2_with fail
        refine (RD.out _).mono ?_
        rintro e w13 ⟨rfl, c13⟩
        have f13 := HF12.out.drew.trans (c13.mono HF12.out.size)
        have HF13 := Lib.hid f13
        clear f13 c13 m121 m122 m123 m124
        go_wp2_with fail
        obtain ⟨w14, h14⟩ : ∃ V, (w13.alloc (Obj.cells #[Value.bool bQ, Value.string sQ] 23)).alloc (Obj.cells #[Value.bool bR, Value.string sR] 23) = V := ⟨_, rfl⟩
        obtain ⟨B2, hB2⟩ : ∃ B, w13.heap.size = B := ⟨_, rfl⟩
        have f14 : Below w.heap.size w w14 := by rw [← h14]; exact (HF13.out.alloc HF13.out.size _).alloc (by have := HF13.out.size; simp; omega) _
        have a14 : Two B2 (.bool bQ) (.string sQ) w14 := by rw [← h14, ← hB2]; exact (two_new w13 _ _ _).below (B0 := w13.heap.size + 1) ((Below.refl _ _).alloc (by simp) _) (by omega)
        have b14 : Two (B2 + 1) (.bool bR) (.string sR) w14 := by
          rw [← h14, ← hB2]
          have h := two_new (w13.alloc (Obj.cells #[Value.bool bQ, Value.string sQ] 23)) (.bool bR) (.string sR) 23
          rwa [World.size_alloc] at h
        rw [h14, hB2]
        have HTV := Lib.hid (tab_below HT.out f14.drew)
        have l1 := a14.lt
        have l2 := b14.lt
        have m1 := a14.1.1
        have m2 := a14.2.1
        have m3 := b14.1.1
        have m4 := b14.2.1
        have HF14 := Lib.hid f14
        clear h14 hB2 f14 a14 b14
        have tok1 : True := trivial
        have tok2 : True := trivial
        have tok3 : True := trivial
        go_region_held3 (fun w' => ∀ (a o : Nat), a < w14.heap.size → w'.cell? ⟨a, o, none⟩ = w14.cell? ⟨a, o, none⟩) (first | assumption | (intro _ _ _; rfl))
          (first | (go_at_call 19; have _t := tok1; clear tok1; refine (O1.out _).mono ?_; rintro e u1 ⟨rfl, d1⟩; have E1 := Lib.hid d1; have kS1 : ∀ (a o : Nat), a < w14.heap.size → u1.cell? ⟨a, o, none⟩ = w14.cell? ⟨a, o, none⟩ := fun a o h => E1.out.cell (p := ⟨a, o, none⟩) h; clear d1) | (go_at_call 19; have _t := tok2; clear tok2; refine (O2.out _).mono ?_; rintro e u2 ⟨rfl, d2⟩; have E2 := Lib.hid (E1.out.trans (d2.mono E1.out.size)); have kS2 : ∀ (a o : Nat), a < w14.heap.size → u2.cell? ⟨a, o, none⟩ = w14.cell? ⟨a, o, none⟩ := fun a o h => E2.out.cell (p := ⟨a, o, none⟩) h; clear d2) | (go_at_call 16; have _t := tok3; clear tok3; refine (awake_any _ (tab_below HTV.out E2.out)).mono ?_; rintro e u3 ⟨rfl, d3⟩; have E3 := Lib.hid (E2.out.trans (d3.mono E2.out.size)); have kS3 : ∀ (a o : Nat), a < w14.heap.size → u3.cell? ⟨a, o, none⟩ = w14.cell? ⟨a, o, none⟩ := fun a o h => E3.out.cell (p := ⟨a, o, none⟩) h; clear d3))
        all_goals (go_wp2_with fail)
        go_ret
        exact ⟨rfl, HF14.out.trans ((((Below.refl w14.heap.size w14).drew).trans E3.out).mono HF14.out.size)⟩
      · have hr0 : R0 ≠ 0 := by omega
        have hyn1 : 0 ≤ y := by omega
        have hx1 := HZ.out
        obtain ⟨bQ, sQ, mQ⟩ := nam_ex (Q0 - 1)
        obtain ⟨bR, sR, mR⟩ := nam_ex (R0 + y)
        have RD := Lib.hid (div_val hb.1 hb.2 hy0 (hdv.2 (by omega)) HV.out.1 HV.out.2.1 mQ mR)
        have O1 := Lib.hid (of_val mQ (by omega) (by omega))
        have O2 := Lib.hid (of_val mR (by omega) (by omega))
        have eq1 := mQ.eq
        have eq2 := mR.eq
        clear mQ mR hb hQb hRb hdv
        go_wp2_with fail
        go_region_held3 (fun _ => True) (trivial) (fail)
        go_wp2_with fail
        any_goals (exfalso; first | (rename (R0 != 0) = false ∨ _ => hh; rcases hh with hh | hh <;> simp at hh <;> omega) | (rename (R0 != 0) = true ∧ _ => hh; obtain ⟨_, hh⟩ := hh; simp at hh <;> omega))
        refine (RD.out _).mono ?_
        rintro e w13 ⟨rfl, c13⟩
        have f13 := HF12.out.drew.trans (c13.mono HF12.out.size)
        have HF13 := Lib.hid f13
        clear f13 c13 m121 m122 m123 m124
        go_wp2_with fail
        obtain ⟨w14, h14⟩ : ∃ V, (w13.alloc (Obj.cells #[Value.bool bQ, Value.string sQ] 23)).alloc (Obj.cells #[Value.bool bR, Value.string sR] 23) = V := ⟨_, rfl⟩
        obtain ⟨B2, hB2⟩ : ∃ B, w13.heap.size = B := ⟨_, rfl⟩
        have f14 : Below w.heap.size w w14 := by rw [← h14]; exact (HF13.out.alloc HF13.out.size _).alloc (by have := HF13.out.size; simp; omega) _
        have a14 : Two B2 (.bool bQ) (.string sQ) w14 := by rw [← h14, ← hB2]; exact (two_new w13 _ _ _).below (B0 := w13.heap.size + 1) ((Below.refl _ _).alloc (by simp) _) (by omega)
        have b14 : Two (B2 + 1) (.bool bR) (.string sR) w14 := by
          rw [← h14, ← hB2]
          have h := two_new (w13.alloc (Obj.cells #[Value.bool bQ, Value.string sQ] 23)) (.bool bR) (.string sR) 23
          rwa [World.size_alloc] at h
        rw [h14, hB2]
        have HTV := Lib.hid (tab_below HT.out f14.drew)
        have l1 := a14.lt
        have l2 := b14.lt
        have m1 := a14.1.1
        have m2 := a14.2.1
        have m3 := b14.1.1
        have m4 := b14.2.1
        have HF14 := Lib.hid f14
        clear h14 hB2 f14 a14 b14
        have tok1 : True := trivial
        have tok2 : True := trivial
        have tok3 : True := trivial
        go_region_held3 (fun w' => ∀ (a o : Nat), a < w14.heap.size → w'.cell? ⟨a, o, none⟩ = w14.cell? ⟨a, o, none⟩) (first | assumption | (intro _ _ _; rfl))
          (first | (go_at_call 19; have _t := tok1; clear tok1; refine (O1.out _).mono ?_; rintro e u1 ⟨rfl, d1⟩; have E1 := Lib.hid d1; have kS1 : ∀ (a o : Nat), a < w14.heap.size → u1.cell? ⟨a, o, none⟩ = w14.cell? ⟨a, o, none⟩ := fun a o h => E1.out.cell (p := ⟨a, o, none⟩) h; clear d1) | (go_at_call 19; have _t := tok2; clear tok2; refine (O2.out _).mono ?_; rintro e u2 ⟨rfl, d2⟩; have E2 := Lib.hid (E1.out.trans (d2.mono E1.out.size)); have kS2 : ∀ (a o : Nat), a < w14.heap.size → u2.cell? ⟨a, o, none⟩ = w14.cell? ⟨a, o, none⟩ := fun a o h => E2.out.cell (p := ⟨a, o, none⟩) h; clear d2) | (go_at_call 16; have _t := tok3; clear tok3; refine (awake_any _ (tab_below HTV.out E2.out)).mono ?_; rintro e u3 ⟨rfl, d3⟩; have E3 := Lib.hid (E2.out.trans (d3.mono E2.out.size)); have kS3 : ∀ (a o : Nat), a < w14.heap.size → u3.cell? ⟨a, o, none⟩ = w14.cell? ⟨a, o, none⟩ := fun a o h => E3.out.cell (p := ⟨a, o, none⟩) h; clear d3))
        all_goals (go_wp2_with fail)
        go_ret
        exact ⟨rfl, HF14.out.trans ((((Below.refl w14.heap.size w14).drew).trans E3.out).mono HF14.out.size)⟩
    · subst hr
      have hx1 := HZ.out
      obtain ⟨bQ, sQ, mQ⟩ := nam_ex (Q0)
      obtain ⟨bR, sR, mR⟩ := nam_ex (0)
      have RD := Lib.hid (div_val hb.1 hb.2 hy0 (hdv.1 (by omega)) HV.out.1 HV.out.2.1 mQ mR)
      have O1 := Lib.hid (of_val mQ (by omega) (by omega))
      have O2 := Lib.hid (of_val mR (by omega) (by omega))
      have eq1 := mQ.eq
      have eq2 := mR.eq
      clear mQ mR hb hQb hRb hdv
      go_wp2_with fail
      go_region_held3 (fun _ => True) (trivial) (fail)
      go_wp2_with fail
      refine (RD.out _).mono ?_
      rintro e w13 ⟨rfl, c13⟩
      have f13 := HF12.out.drew.trans (c13.mono HF12.out.size)
      have HF13 := Lib.hid f13
      clear f13 c13 m121 m122 m123 m124
      go_wp2_with fail
      obtain ⟨w14, h14⟩ : ∃ V, (w13.alloc (Obj.cells #[Value.bool bQ, Value.string sQ] 23)).alloc (Obj.cells #[Value.bool bR, Value.string sR] 23) = V := ⟨_, rfl⟩
      obtain ⟨B2, hB2⟩ : ∃ B, w13.heap.size = B := ⟨_, rfl⟩
      have f14 : Below w.heap.size w w14 := by rw [← h14]; exact (HF13.out.alloc HF13.out.size _).alloc (by have := HF13.out.size; simp; omega) _
      have a14 : Two B2 (.bool bQ) (.string sQ) w14 := by rw [← h14, ← hB2]; exact (two_new w13 _ _ _).below (B0 := w13.heap.size + 1) ((Below.refl _ _).alloc (by simp) _) (by omega)
      have b14 : Two (B2 + 1) (.bool bR) (.string sR) w14 := by
        rw [← h14, ← hB2]
        have h := two_new (w13.alloc (Obj.cells #[Value.bool bQ, Value.string sQ] 23)) (.bool bR) (.string sR) 23
        rwa [World.size_alloc] at h
      rw [h14, hB2]
      have HTV := Lib.hid (tab_below HT.out f14.drew)
      have l1 := a14.lt
      have l2 := b14.lt
      have m1 := a14.1.1
      have m2 := a14.2.1
      have m3 := b14.1.1
      have m4 := b14.2.1
      have HF14 := Lib.hid f14
      clear h14 hB2 f14 a14 b14
      have tok1 : True := trivial
      have tok2 : True := trivial
      have tok3 : True := trivial
      go_region_held3 (fun w' => ∀ (a o : Nat), a < w14.heap.size → w'.cell? ⟨a, o, none⟩ = w14.cell? ⟨a, o, none⟩) (first | assumption | (intro _ _ _; rfl))
        (first | (go_at_call 19; have _t := tok1; clear tok1; refine (O1.out _).mono ?_; rintro e u1 ⟨rfl, d1⟩; have E1 := Lib.hid d1; have kS1 : ∀ (a o : Nat), a < w14.heap.size → u1.cell? ⟨a, o, none⟩ = w14.cell? ⟨a, o, none⟩ := fun a o h => E1.out.cell (p := ⟨a, o, none⟩) h; clear d1) | (go_at_call 19; have _t := tok2; clear tok2; refine (O2.out _).mono ?_; rintro e u2 ⟨rfl, d2⟩; have E2 := Lib.hid (E1.out.trans (d2.mono E1.out.size)); have kS2 : ∀ (a o : Nat), a < w14.heap.size → u2.cell? ⟨a, o, none⟩ = w14.cell? ⟨a, o, none⟩ := fun a o h => E2.out.cell (p := ⟨a, o, none⟩) h; clear d2) | (go_at_call 16; have _t := tok3; clear tok3; refine (awake_any _ (tab_below HTV.out E2.out)).mono ?_; rintro e u3 ⟨rfl, d3⟩; have E3 := Lib.hid (E2.out.trans (d3.mono E2.out.size)); have kS3 : ∀ (a o : Nat), a < w14.heap.size → u3.cell? ⟨a, o, none⟩ = w14.cell? ⟨a, o, none⟩ := fun a o h => E3.out.cell (p := ⟨a, o, none⟩) h; clear d3))
      all_goals (go_wp2_with fail)
      go_ret
      exact ⟨rfl, HF14.out.trans ((((Below.refl w14.heap.size w14).drew).trans E3.out).mono HF14.out.size)⟩
    · by_cases hyn : y < 0
      · have hr0 : R0 ≠ 0 := by omega
        have hr1 : ¬ R0 < 0 := by omega
        have hr2 : 0 ≤ R0 := by omega
        have hx1 := HZ.out
        obtain ⟨bQ, sQ, mQ⟩ := nam_ex (Q0 - 1)
        obtain ⟨bR, sR, mR⟩ := nam_ex (R0 + y)
        have RD := Lib.hid (div_val hb.1 hb.2 hy0 (hdv.2 (by omega)) HV.out.1 HV.out.2.1 mQ mR)
        have O1 := Lib.hid (of_val mQ (by omega) (by omega))
        have O2 := Lib.hid (of_val mR (by omega) (by omega))
        have eq1 := mQ.eq
        have eq2 := mR.eq
        clear mQ mR hb hQb hRb hdv
        go_wp2_with fail
        go_region_held3 (fun _ => True) (trivial) (fail)
        go_wp2_with fail
        any_goals (exfalso; first | (rename (R0 != 0) = false ∨ _ => hh; rcases hh with hh | hh <;> simp at hh <;> omega) | (rename (R0 != 0) = true ∧ _ => hh; obtain ⟨_, hh⟩ := hh; simp at hh <;> omega))
        refine (RD.out _).mono ?_
        rintro e w13 ⟨rfl, c13⟩
        have f13 := HF12.out.drew.trans (c13.mono HF12.out.size)
        have HF13 := Lib.hid f13
        clear f13 c13 m121 m122 m123 m124
        go_wp2_with fail
        obtain ⟨w14, h14⟩ : ∃ V, (w13.alloc (Obj.cells #[Value.bool bQ, Value.string sQ] 23)).alloc (Obj.cells #[Value.bool bR, Value.string sR] 23) = V := ⟨_, rfl⟩
        obtain ⟨B2, hB2⟩ : ∃ B, w13.heap.size = B := ⟨_, rfl⟩
        have f14 : Below w.heap.size w w14 := by rw [← h14]; exact (HF13.out.alloc HF13.out.size _).alloc (by have := HF13.out.size; simp; omega) _
        have a14 : Two B2 (.bool bQ) (.string sQ) w14 := by rw [← h14, ← hB2]; exact (two_new w13 _ _ _).below (B0 := w13.heap.size + 1) ((Below.refl _ _).alloc (by simp) _) (by omega)
        have b14 : Two (B2 + 1) (.bool bR) (.string sR) w14 := by
          rw [← h14, ← hB2]
          have h := two_new (w13.alloc (Obj.cells #[Value.bool bQ, Value.string sQ] 23)) (.bool bR) (.string sR) 23
          rwa [World.size_alloc] at h
        rw [h14, hB2]
        have HTV := Lib.hid (tab_below HT.out f14.drew)
        have l1 := a14.lt
        have l2 := b14.lt
        have m1 := a14.1.1
        have m2 := a14.2.1
        have m3 := b14.1.1
        have m4 := b14.2.1
        have HF14 := Lib.hid f14
        clear h14 hB2 f14 a14 b14
        have tok1 : True := trivial
        have tok2 : True := trivial
        have tok3 : True := trivial
        go_region_held3 (fun w' => ∀ (a o : Nat), a < w14.heap.size → w'.cell? ⟨a, o, none⟩ = w14.cell? ⟨a, o, none⟩) (first | assumption | (intro _ _ _; rfl))
          (first | (go_at_call 19; have _t := tok1; clear tok1; refine (O1.out _).mono ?_; rintro e u1 ⟨rfl, d1⟩; have E1 := Lib.hid d1; have kS1 : ∀ (a o : Nat), a < w14.heap.size → u1.cell? ⟨a, o, none⟩ = w14.cell? ⟨a, o, none⟩ := fun a o h => E1.out.cell (p := ⟨a, o, none⟩) h; clear d1) | (go_at_call 19; have _t := tok2; clear tok2; refine (O2.out _).mono ?_; rintro e u2 ⟨rfl, d2⟩; have E2 := Lib.hid (E1.out.trans (d2.mono E1.out.size)); have kS2 : ∀ (a o : Nat), a < w14.heap.size → u2.cell? ⟨a, o, none⟩ = w14.cell? ⟨a, o, none⟩ := fun a o h => E2.out.cell (p := ⟨a, o, none⟩) h; clear d2) | (go_at_call 16; have _t := tok3; clear tok3; refine (awake_any _ (tab_below HTV.out E2.out)).mono ?_; rintro e u3 ⟨rfl, d3⟩; have E3 := Lib.hid (E2.out.trans (d3.mono E2.out.size)); have kS3 : ∀ (a o : Nat), a < w14.heap.size → u3.cell? ⟨a, o, none⟩ = w14.cell? ⟨a, o, none⟩ := fun a o h => E3.out.cell (p := ⟨a, o, none⟩) h; clear d3))
        all_goals (go_wp2_with fail)
        go_ret
        exact ⟨rfl, HF14.out.trans ((((Below.refl w14.heap.size w14).drew).trans E3.out).mono HF14.out.size)⟩
      · have hr0 : R0 ≠ 0 := by omega
        have hyn1 : 0 ≤ y := by omega
        have hr1 : ¬ R0 < 0 := by omega
        have hr2 : 0 ≤ R0 := by omega
        have hx1 := HZ.out
        obtain ⟨bQ, sQ, mQ⟩ := nam_ex (Q0)
        obtain ⟨bR, sR, mR⟩ := nam_ex (R0)
        have RD := Lib.hid (div_val hb.1 hb.2 hy0 (hdv.1 (by omega)) HV.out.1 HV.out.2.1 mQ mR)
        have O1 := Lib.hid (of_val mQ (by omega) (by omega))
        have O2 := Lib.hid (of_val mR (by omega) (by omega))
        have eq1 := mQ.eq
        have eq2 := mR.eq
        clear mQ mR hb hQb hRb hdv
        go_wp2_with fail
        go_region_held3 (fun _ => True) (trivial) (fail)
        go_wp2_with fail
        any_goals (exfalso; first | (rename (R0 != 0) = false ∨ _ => hh; rcases hh with hh | hh <;> simp at hh <;> omega) | (rename (R0 != 0) = true ∧ _ => hh; obtain ⟨_, hh⟩ := hh; simp at hh <;> omega))
        refine (RD.out _).mono ?_
        rintro e w13 ⟨rfl, c13⟩
        have f13 := HF12.out.drew.trans (c13.mono HF12.out.size)
        have HF13 := Lib.hid f13
        clear f13 c13 m121 m122 m123 m124
        go_wp2_with fail
        obtain ⟨w14, h14⟩ : ∃ V, (w13.alloc (Obj.cells #[Value.bool bQ, Value.string sQ] 23)).alloc (Obj.cells #[Value.bool bR, Value.string sR] 23) = V := ⟨_, rfl⟩
        obtain ⟨B2, hB2⟩ : ∃ B, w13.heap.size = B := ⟨_, rfl⟩
        have f14 : Below w.heap.size w w14 := by rw [← h14]; exact (HF13.out.alloc HF13.out.size _).alloc (by have := HF13.out.size; simp; omega) _
        have a14 : Two B2 (.bool bQ) (.string sQ) w14 := by rw [← h14, ← hB2]; exact (two_new w13 _ _ _).below (B0 := w13.heap.size + 1) ((Below.refl _ _).alloc (by simp) _) (by omega)
        have b14 : Two (B2 + 1) (.bool bR) (.string sR) w14 := by
          rw [← h14, ← hB2]
          have h := two_new (w13.alloc (Obj.cells #[Value.bool bQ, Value.string sQ] 23)) (.bool bR) (.string sR) 23
          rwa [World.size_alloc] at h
        rw [h14, hB2]
        have HTV := Lib.hid (tab_below HT.out f14.drew)
        have l1 := a14.lt
        have l2 := b14.lt
        have m1 := a14.1.1
        have m2 := a14.2.1
        have m3 := b14.1.1
        have m4 := b14.2.1
        have HF14 := Lib.hid f14
        clear h14 hB2 f14 a14 b14
        have tok1 : True := trivial
        have tok2 : True := trivial
        have tok3 : True := trivial
        go_region_held3 (fun w' => ∀ (a o : Nat), a < w14.heap.size → w'.cell? ⟨a, o, none⟩ = w14.cell? ⟨a, o, none⟩) (first | assumption | (intro _ _ _; rfl))
          (first | (go_at_call 19; have _t := tok1; clear tok1; refine (O1.out _).mono ?_; rintro e u1 ⟨rfl, d1⟩; have E1 := Lib.hid d1; have kS1 : ∀ (a o : Nat), a < w14.heap.size → u1.cell? ⟨a, o, none⟩ = w14.cell? ⟨a, o, none⟩ := fun a o h => E1.out.cell (p := ⟨a, o, none⟩) h; clear d1) | (go_at_call 19; have _t := tok2; clear tok2; refine (O2.out _).mono ?_; rintro e u2 ⟨rfl, d2⟩; have E2 := Lib.hid (E1.out.trans (d2.mono E1.out.size)); have kS2 : ∀ (a o : Nat), a < w14.heap.size → u2.cell? ⟨a, o, none⟩ = w14.cell? ⟨a, o, none⟩ := fun a o h => E2.out.cell (p := ⟨a, o, none⟩) h; clear d2) | (go_at_call 16; have _t := tok3; clear tok3; refine (awake_any _ (tab_below HTV.out E2.out)).mono ?_; rintro e u3 ⟨rfl, d3⟩; have E3 := Lib.hid (E2.out.trans (d3.mono E2.out.size)); have kS3 : ∀ (a o : Nat), a < w14.heap.size → u3.cell? ⟨a, o, none⟩ = w14.cell? ⟨a, o, none⟩ := fun a o h => E3.out.cell (p := ⟨a, o, none⟩) h; clear d3))
        all_goals (go_wp2_with fail)
        go_ret
        exact ⟨rfl, HF14.out.trans ((((Below.refl w14.heap.size w14).drew).trans E3.out).mono HF14.out.size)⟩
end Go.Proofs.YtggojipbllkcgaaGreatDoor
