/- The contract of the reference's Root. -/
import Derived.Test.YtajollhpimfefaaGreatDoorRPow
import Derived.Test.YtajollhpimfefaaGreatDoorRArithM
namespace Go.Proofs.YtajollhpimfefaaGreatDoor
open Go.RowKit Go.Shelf

theorem rmul_val {x y z : Int} {bx by' bz : Bool} {sx sy sz : ByteArray} (hx : ival bx sx = x) (hy : ival by' sy = y) (lx : sx.size ≤ 100000) (ly : sy.size ≤ 100000) (he : x * y = z) (hz : Nam bz sz z) (W : World) :
  Calls Tryz.prog 33 #[.agg #[.bool bx, .string sx], .agg #[.bool by', .string sy]] W fun e w' => e = .returned (.agg #[.bool bz, .string sz]) ∧ Below W.heap.size W w' := by
 have h := rmul_any bx by' sx sy W lx ly
 rw [hx, hy, he] at h
 obtain ⟨rfl, rfl⟩ := hz
 exact h
theorem rcmp_val {x y n : Int} {bx by' : Bool} {sx sy : ByteArray} (hx : ival bx sx = x) (hy : ival by' sy = y) (hn : cmpZ x y = n) (W : World) :
  Calls Tryz.prog 25 #[.agg #[.bool bx, .string sx], .agg #[.bool by', .string sy]] W fun e w' => e = .returned (.int .i64 n) ∧ Below W.heap.size W w' := by
 have h := rcomp_any bx by' sx sy W
 rw [hx, hy, hn] at h
 exact h
theorem lt_two_bl (n : Nat) : n < 2 ^ bl n := by
 unfold bl
 split
 ·omega
 ·exact Nat.lt_log2_self

theorem bl_le8 {n k : Nat} (h : n < 256 ^ k) : bl n ≤ 8 * k := by
 unfold bl
 split
 ·omega
 ·rename_i h0
  have h1 : n < 2 ^ (8 * k) := by rw [Nat.pow_mul]; exact h
  have := (Nat.log2_lt h0).2 h1
  omega

theorem pow_lt8 {k j : Nat} (h : k < 8 * j) : 2 ^ k < 256 ^ j := by
 rw [show (256 : Nat) = 2 ^ 8 from rfl, ← Nat.pow_mul]
 exact Nat.pow_lt_pow_right (by omega) h

/-- A negative number has no root. -/
theorem rroot_neg (n : Bool) (s : ByteArray) (w : World) {x : Int} (hx : ival n s = x) (h0 : x < 0) :
  Calls Tryz.prog 37 #[.agg #[.bool n, .string s]] w fun e w' => e = .returned (.tuple #[.agg #[.bool false, .string ⟨#[]⟩], .bool false, .int .i64 2]) ∧ Below w.heap.size w w' := by
 obtain ⟨bx, sx, nX⟩ := nam_ex x
 have hbx : bx = true := by rw [← nX.sign]; exact decide_eq_true h0
 subst hbx
 have C1 := Lib.hid (fun W => rcan_val hx nX W)
 clear hx h0 nX
 go_enter Tryz.func37, Tryz.ntmps37
 go_wp2_with fail
 have b0 : Below w.heap.size w ((w.alloc (Obj.cells #[Value.bool n, Value.string s] 23)).alloc (Obj.cells #[Value.bool false, Value.string ⟨#[]⟩] 23)) := ((Below.refl _ _).alloc (Nat.le_refl _) _).alloc (by simp) _
 have tA : Two w.heap.size (.bool n) (.string s) ((w.alloc (Obj.cells #[Value.bool n, Value.string s] 23)).alloc (Obj.cells #[Value.bool false, Value.string ⟨#[]⟩] 23)) :=
  (two_new w _ _ _).below (B0 := w.heap.size + 1) ((Below.refl _ _).alloc (by simp) _) (by omega)
 have tR : Two (w.heap.size + 1) (.bool false) (.string ⟨#[]⟩) ((w.alloc (Obj.cells #[Value.bool n, Value.string s] 23)).alloc (Obj.cells #[Value.bool false, Value.string ⟨#[]⟩] 23)) := by
  have h := two_new (w.alloc (Obj.cells #[Value.bool n, Value.string s] 23)) (.bool false) (.string ⟨#[]⟩) 23
  rw [World.size_alloc] at h
  exact h
 have HS0 := Lib.hid (And.intro b0 (And.intro tA tR))
 clear b0 tA tR
 refine (C1.out _).mono ?_
 rintro e w1 ⟨rfl, c1⟩
 have tA := HS0.out.2.1.below c1 HS0.out.2.1.lt
 have tR := HS0.out.2.2.below c1 HS0.out.2.2.lt
 have f := HS0.out.1.trans (c1.mono HS0.out.1.size)
 have uR := (tR.other (B' := w.heap.size) (o := 0) (u := .bool true) (by omega)).other (B' := w.heap.size) (o := 1) (u := .string sx) (by omega)
 have z2 := two_set uR (.bool false) (.string ⟨#[]⟩)
 have g := (((f.setCell (p := ⟨w.heap.size, 0, none⟩) (Nat.le_refl _) (.bool true)).setCell (p := ⟨w.heap.size, 1, none⟩) (Nat.le_refl _) (.string sx)).setCell (p := ⟨w.heap.size + 1, 0, none⟩) (by show w.heap.size ≤ w.heap.size + 1; omega) (.bool false)).setCell (p := ⟨w.heap.size + 1, 1, none⟩) (by show w.heap.size ≤ w.heap.size + 1; omega) (.string ⟨#[]⟩)
 have HG := Lib.hid g
 have l0 := tA.lt
 have m00 := tA.1.1
 have m01 := tA.1.2
 have m02 := tA.2.1
 have m03 := tA.2.2
 have m10 := tR.1.1
 have m11 := tR.1.2
 have m12 := tR.2.1
 have m13 := tR.2.2
 have y0 := z2.1.1
 have y1 := z2.2.1
 clear tA tR f uR g z2 c1
 go_wp2_with fail
 (try go_region)
 all_goals (try go_wp2_with fail)
 all_goals refine bodyPost_ret (v := .tuple #[.agg #[.bool false, .string ⟨#[]⟩], .bool false, .int .i64 2]) (by simp [results, Tryz.results37, go_sem, y0, y1]) rfl ⟨rfl, HG.out⟩

set_option maxHeartbeats 8000000 in
set_option maxRecDepth 100000 in
theorem rroot_any (n : Bool) (s : ByteArray) (w : World) {x : Int} {M r : Nat} (hx : ival n s = x) (hs : s.size ≤ 100) (hM : x = (M : Int)) (hr : IsRoot M r) :
  Calls Tryz.prog 37 #[.agg #[.bool n, .string s]] w fun e w' => e = .returned (.tuple #[.agg #[.bool false, .string ⟨(be r).toArray⟩], .bool (decide (r * r = M)), .int .i64 0]) ∧ Below w.heap.size w w' := by
 have lM : M < 256 ^ 100 := by
  have h := ival_lt n s 100 hs
  rw [hx, hM, Int.natAbs_natCast] at h
  exact h
 obtain ⟨SX, hSX⟩ : ∃ s : ByteArray, (⟨(be M).toArray⟩ : ByteArray) = s := ⟨_, rfl⟩
 have nX : Nam false SX x := by rw [hM, ← hSX]; exact nam_nat M
 have vX : beVal SX.data.toList = M := by rw [← hSX]; exact beVal_be M
 have sX : SX.size ≤ 100 := nam_size nX (by rw [hM, Int.natAbs_natCast]; exact lM)
 have C1 := Lib.hid (fun W => rcan_val hx nX W)
 have B1 := Lib.hid (fun W => rbits_any false SX W (by omega))
 obtain ⟨i0, hi0⟩ : ∃ i, (bl M + 1) / 2 = i := ⟨_, rfl⟩
 obtain ⟨L, hL⟩ : ∃ L, bl M = L := ⟨_, rfl⟩
 have hLb : L ≤ 800 := by rw [← hL]; exact bl_le8 (k := 100) lM
 have hM2 : M < 2 ^ L := by rw [← hL]; exact lt_two_bl M
 rw [hL] at hi0
 have hi1 : ((L : Int) + 1).tdiv 2 = (i0 : Int) := by rw [Int.tdiv_eq_ediv_of_nonneg (by omega)]; omega
 have hi2 : ((L : Int) + 1) / 2 = (i0 : Int) := by omega
 have hib : i0 ≤ 400 := by omega
 have HM := Lib.hid (And.intro hM (And.intro lM (And.intro nX (And.intro vX (And.intro hi0 (And.intro hM2 (And.intro hr hL)))))))
 rw [vX, hL] at B1
 clear hx hM lM hSX nX vX hi0 hM2 hL hr hs
 go_enter Tryz.func37, Tryz.ntmps37
 go_wp2_with fail
 have b0 : Below w.heap.size w ((w.alloc (Obj.cells #[Value.bool n, Value.string s] 23)).alloc (Obj.cells #[Value.bool false, Value.string ⟨#[]⟩] 23)) := ((Below.refl _ _).alloc (Nat.le_refl _) _).alloc (by simp) _
 have tA : Two w.heap.size (.bool n) (.string s) ((w.alloc (Obj.cells #[Value.bool n, Value.string s] 23)).alloc (Obj.cells #[Value.bool false, Value.string ⟨#[]⟩] 23)) :=
  (two_new w _ _ _).below (B0 := w.heap.size + 1) ((Below.refl _ _).alloc (by simp) _) (by omega)
 have tR : Two (w.heap.size + 1) (.bool false) (.string ⟨#[]⟩) ((w.alloc (Obj.cells #[Value.bool n, Value.string s] 23)).alloc (Obj.cells #[Value.bool false, Value.string ⟨#[]⟩] 23)) := by
  have h := two_new (w.alloc (Obj.cells #[Value.bool n, Value.string s] 23)) (.bool false) (.string ⟨#[]⟩) 23
  rw [World.size_alloc] at h
  exact h
 have HS0 := Lib.hid (And.intro b0 (And.intro tA tR))
 clear b0 tA tR
 refine (C1.out _).mono ?_
 rintro e w1 ⟨rfl, c1⟩
 have tA := HS0.out.2.1.below c1 HS0.out.2.1.lt
 have tR := HS0.out.2.2.below c1 HS0.out.2.2.lt
 have f := HS0.out.1.trans (c1.mono HS0.out.1.size)
 obtain ⟨w2, hw2⟩ : ∃ V, (w1.setCell ⟨w.heap.size, 0, none⟩ (.bool false)).setCell ⟨w.heap.size, 1, none⟩ (.string SX) = V := ⟨_, rfl⟩
 have uA := two_set tA (.bool false) (.string SX)
 have uR := (tR.other (B' := w.heap.size) (o := 0) (u := .bool false) (by omega)).other (B' := w.heap.size) (o := 1) (u := .string SX) (by omega)
 have g := (f.setCell (p := ⟨w.heap.size, 0, none⟩) (Nat.le_refl _) (.bool false)).setCell (p := ⟨w.heap.size, 1, none⟩) (Nat.le_refl _) (.string SX)
 rw [hw2] at uA uR g
 have HS1 := Lib.hid (And.intro g (And.intro uA uR))
 have HW2 := Lib.hid hw2
 have l0 := tA.lt
 have m00 := tA.1.1
 have m01 := tA.1.2
 have m02 := tA.2.1
 have m03 := tA.2.2
 have l1 := tR.lt
 clear tA tR f uA uR g hw2 c1
 go_wp2_with fail
 --CONT
 rw [HW2.out]
 obtain ⟨w3, hw3⟩ : ∃ V, (w2.alloc (Obj.cells #[Value.bool false, Value.string ⟨#[]⟩] 23)) = V := ⟨_, rfl⟩
 have hsz2 : w2.heap.size = w1.heap.size := by rw [← HW2.out]; simp [World.setCell]
 obtain ⟨B5, hB5⟩ : ∃ B, w1.heap.size = B := ⟨_, rfl⟩
 have b3 : Below w2.heap.size w2 w3 := by rw [← hw3]; exact (Below.refl _ _).alloc (Nat.le_refl _) _
 have t5 : Two B5 (.bool false) (.string ⟨#[]⟩) w3 := by
  rw [← hw3, ← hB5, ← hsz2]; exact two_new w2 _ _ _
 rw [hw3, hB5]
 have tA := HS1.out.2.1.below b3 HS1.out.2.1.lt
 have tR := HS1.out.2.2.below b3 HS1.out.2.2.lt
 have f := HS1.out.1.trans (b3.mono HS1.out.1.size)
 have hA5 : w.heap.size < B5 := by have := HS1.out.2.1.lt; omega
 have hR5 : w.heap.size + 1 < B5 := by have := HS1.out.2.2.lt; omega
 have HS3 := Lib.hid (And.intro f (And.intro tA (And.intro tR t5)))
 clear m00 m01 m02 m03 l0 l1 tA tR t5 f b3 hw3 hsz2 hB5
 refine (B1.out _).mono ?_
 rintro e w4 ⟨rfl, c4⟩
 have f := HS3.out.1.trans (c4.mono HS3.out.1.size)
 have tA := HS3.out.2.1.below c4 HS3.out.2.1.lt
 have tR := HS3.out.2.2.1.below c4 HS3.out.2.2.1.lt
 have t5 := HS3.out.2.2.2.below c4 HS3.out.2.2.2.lt
 have HS4 := Lib.hid (And.intro f (And.intro tA (And.intro tR t5)))
 clear f tA tR t5 c4
 go_wp2_with fail
 go_loopw [6] (fun v wr => ∃ q a : Nat, v = .int .i64 ((q : Int) - 1) ∧ q ≤ i0 + 1 ∧ a * a ≤ M ∧ M < (a + 2 ^ q) * (a + 2 ^ q) ∧ Two w.heap.size (.bool false) (.string SX) wr ∧ Two (w.heap.size + 1) (.bool false) (.string ⟨#[]⟩) wr ∧ Two B5 (.bool false) (.string ⟨(be a).toArray⟩) wr ∧ Below w.heap.size w wr) (fun v _ => (intOf v + 1).toNat)
 case atStart =>
  refine ⟨i0 + 1, 0, by go_num, Nat.le_refl _, by omega, ?_, HS4.out.2.1, HS4.out.2.2.1, by rw [be_zero]; exact HS4.out.2.2.2, HS4.out.1⟩
  rw [Nat.zero_add, ← Nat.pow_add]
  exact Nat.lt_of_lt_of_le HM.out.2.2.2.2.2.1 (Nat.pow_le_pow_right (by omega) (by have := HM.out.2.2.2.2.1; omega))
 case round =>
  obtain ⟨q, a, rfl, hq, ha, haM, tA, tR, t5, f⟩ := hrel
  obtain ⟨SR, hSR⟩ : ∃ s : ByteArray, (⟨(be a).toArray⟩ : ByteArray) = s := ⟨_, rfl⟩
  rw [hSR] at t5
  have nR : Nam false SR (a : Int) := by rw [← hSR]; exact nam_nat a
  have haM2 : a ≤ M := by
   rcases Nat.eq_zero_or_pos a with h | h
   ·omega
   ·have : a * 1 ≤ a * a := Nat.mul_le_mul_left _ h
    omega
  have lM := HM.out.2.1
  have sR : SR.size ≤ 100 := nam_size nR (by rw [Int.natAbs_natCast]; omega)
  have HT := Lib.hid (And.intro f (And.intro tA (And.intro tR t5)))
  have q1 := eql_int
  have q3 := guard_int
  rename World => wB
  rcases q with _ | k
  ·obtain ⟨bz, sz, nz⟩ := nam_ex ((a : Int) * (a : Int))
   have hra : r = a := by
    have hr := HM.out.2.2.2.2.2.2.1
    rw [Nat.pow_zero] at haM
    exact Nat.le_antisymm (isRoot_le hr.1 haM) (isRoot_le ha hr.2)
   subst hra
   have R1 := Lib.hid (fun W => rmul_val (nam_ival nR) (nam_ival nR) (by omega) (by omega) rfl nz W)
   obtain ⟨ex, hex⟩ : ∃ e, decide (r * r = M) = e := ⟨_, rfl⟩
   have e1 : eqI bz sz false SX = ex := by
    have h := eqI_ints ((r : Int) * (r : Int)) x
    rw [nz.sign, nz.mag, HM.out.2.2.1.sign, HM.out.2.2.1.mag, HM.out.1] at h
    rw [h, ← hex]
    congr 1
    rw [← Int.natCast_mul]
    exact propext Int.ofNat_inj
   have HEX := Lib.hid (And.intro hex hSR)
   have l0 := tA.lt
   have l1 := tR.lt
   have l5 := t5.lt
   have d1 : wB.drew.cell? ⟨B5, 0, none⟩ = some (.bool false) := t5.1.1
   have d2 : wB.drew.cell? ⟨B5, 1, none⟩ = some (.string SR) := t5.2.1
   have d3 : wB.drew.cell? ⟨w.heap.size, 0, none⟩ = some (.bool false) := tA.1.1
   have d4 : wB.drew.cell? ⟨w.heap.size, 1, none⟩ = some (.string SX) := tA.2.1
   have n1 : B5 ≠ w.heap.size + 1 := by omega
   have n2 : w.heap.size ≠ w.heap.size + 1 := by omega
   have tok1 : True := trivial
   clear hq ha haM tA tR t5 f nR haM2 lM hSR hex nz
   go_wp2_with fail
   go_region_held3 (fun w' => w'.cell? ⟨B5, 0, none⟩ = some (.bool false) ∧ w'.cell? ⟨B5, 1, none⟩ = some (.string SR) ∧ w'.cell? ⟨w.heap.size, 0, none⟩ = some (.bool false) ∧ w'.cell? ⟨w.heap.size, 1, none⟩ = some (.string SX)) (refine ⟨?_, ?_, ?_, ?_⟩ <;> (first | with_reducible assumption | (rw [World.cell?_setCell_other _ _ _ _ (by intro e; have := congrArg Addr.block e; simp at this <;> omega), World.cell?_setCell_other _ _ _ _ (by intro e; have := congrArg Addr.block e; simp at this <;> omega)]; with_reducible assumption)))
    (first
    | (go_at_call 33; have _t := tok1; clear tok1; refine (R1.out _).mono ?_; intro e u1 h1; obtain ⟨he, c⟩ := h1; subst he; have HU := Lib.hid c; have j1 := (c.cell (p := ⟨B5, 0, none⟩) l5).trans d1; have j2 := (c.cell (p := ⟨B5, 1, none⟩) l5).trans d2; have j3 := (c.cell (p := ⟨w.heap.size, 0, none⟩) l0).trans d3; have j4 := (c.cell (p := ⟨w.heap.size, 1, none⟩) l0).trans d4; have jR := (show Two (w.heap.size + 1) (.bool false) (.string ⟨#[]⟩) wB.drew from HT.out.2.2.1).below c l1; obtain ⟨⟨jR1, jR2⟩, jR3, jR4⟩ := jR; clear c))
   have hb2 : Below wB.heap.size wB u1 := ((Below.refl wB.heap.size wB).drew).trans HU.out
   have tR := HT.out.2.2.1.below hb2 l1
   have z2 := two_set tR (.bool false) (.string SR)
   have f := ((HT.out.1.trans (hb2.mono HT.out.1.size)).setCell (p := ⟨w.heap.size + 1, 0, none⟩) (by show w.heap.size ≤ w.heap.size + 1; omega) (.bool false)).setCell (p := ⟨w.heap.size + 1, 1, none⟩) (by show w.heap.size ≤ w.heap.size + 1; omega) (.string SR)
   have y0 := z2.1.1
   have y1 := z2.2.1
   have HF := Lib.hid f
   clear tR z2 f hb2
   go_wp2_with fail
   refine bodyPost_ret (v := .tuple #[.agg #[.bool false, .string SR], .bool ex, .int .i64 0]) (by simp [results, Tryz.results37, go_sem, y0, y1]) rfl ⟨by rw [HEX.out.1, HEX.out.2], HF.out⟩
  ·obtain ⟨z, hz⟩ : ∃ z, 2 ^ k = z := ⟨_, rfl⟩
   have hz2 : 2 ^ (k + 1) = z + z := by rw [Nat.pow_succ, hz]; omega
   rw [hz2] at haM
   have hzb : z < 256 ^ 100 := by
    rw [← hz]; exact pow_lt8 (by omega)
   obtain ⟨N, hN⟩ : ∃ N, a + z = N := ⟨_, rfl⟩
   obtain ⟨SN, hSN⟩ : ∃ s : ByteArray, (⟨(be N).toArray⟩ : ByteArray) = s := ⟨_, rfl⟩
   have nN : Nam false SN (N : Int) := by rw [← hSN]; exact nam_nat N
   have sN : SN.size ≤ 101 := nam_size nN (by rw [Int.natAbs_natCast, ← hN]; omega)
   obtain ⟨bq, sq, nq⟩ := nam_ex ((N : Int) * (N : Int))
   obtain ⟨cz, hcz⟩ : ∃ c, cmpZ ((N : Int) * (N : Int)) x = c := ⟨_, rfl⟩
   have P1 := Lib.hid (fun W => rpower_any k W (by omega))
   have A1 := Lib.hid (fun (sp : ByteArray) (hv : beVal sp.data.toList = 2 ^ k) (hl : sp.size = k / 8 + 1) W => radd_val (by' := false) (sy := sp) (y := (z : Int)) (nam_ival nR) (by show ((beVal sp.data.toList : Nat) : Int) = (z : Int); rw [hv, hz]) (by omega) (by omega) (by rw [← hN]; rfl) nN W)
   have R2 := Lib.hid (fun W => rmul_val (nam_ival nN) (nam_ival nN) (by omega) (by omega) rfl nq W)
   have R3 := Lib.hid (fun W => rcmp_val (nam_ival nq) (nam_ival HM.out.2.2.1) hcz W)
   have hle : cz ≤ 0 ↔ N * N ≤ M := by
    rw [← hcz, HM.out.1, ← Int.natCast_mul, cmpZ_nat]
    split
    ·constructor <;> intro <;> omega
    ·split
     ·constructor <;> intro <;> omega
     ·constructor <;> intro <;> omega
   have HSR := Lib.hid hSR
   have hkb : k ≤ 400 := by omega
   have HK := Lib.hid (And.intro hz (And.intro haM (And.intro hN (And.intro hSN (And.intro hq (And.intro ha hle))))))
   have j1 : ((k + 1 : Nat) : Int) - 1 = (k : Int) := by omega
   rw [j1]
   have l0 := tA.lt
   have l1 := tR.lt
   have l5 := t5.lt
   have m50 := t5.1.1
   have m51 := t5.2.1
   clear hq ha haM tA tR t5 f nR haM2 lM hSR nq nN hz hz2 hzb hN hSN hcz hle sR
   go_wp2_with fail
   go_cut [7] from 22 to 26 (fun v wc => ∃ B7 : Nat, v = .pointer (some ⟨B7, 0, none⟩) ∧ Two B7 (.bool false) (.string SN) wc ∧ wB.heap.size ≤ B7 ∧ Below wB.heap.size wB wc)
   case first =>
    have D0 := Lib.hid ((Below.refl wB.heap.size wB).drew)
    have hz0 : wB.heap.size ≤ wB.drew.heap.size := Nat.le_refl _
    have tok1 : True := trivial
    have tok2 : True := trivial
    go_region_held3 (fun w' => ∀ (a o : Nat), a < wB.heap.size → w'.cell? ⟨a, o, none⟩ = wB.cell? ⟨a, o, none⟩) (repeat' (first | with_reducible assumption | with_reducible exact keepS_refl _ | with_reducible (refine keepS_drew ?_) | with_reducible (refine keepS_alloc ?_ ?_) | with_reducible (refine keepS_set ?_ ?_) | go_size))
     (first
      | (go_at_call 70; have _t := tok1; clear tok1; refine (P1.out _).mono ?_; rintro e u1 ⟨⟨sp, rfl, hv, hl⟩, d1⟩; have HV := Lib.hid (And.intro hv hl); have E2 := Lib.hid (show Below wB.heap.size wB u1 from Below.trans (by have Dp := D0.out; go_grown) (d1.mono (by go_size))); have kS1 : ∀ (a o : Nat), a < wB.heap.size → u1.cell? ⟨a, o, none⟩ = wB.cell? ⟨a, o, none⟩ := fun a o h => E2.out.cell (p := ⟨a, o, none⟩) h; have hz1 : wB.heap.size ≤ u1.heap.size := E2.out.size; (try (have q10 := carry_two d1 (wB.heap.size) (by first | omega | (simp only [World.size_alloc, World.size_drew]; omega)); obtain ⟨⟨f100, f101⟩, ⟨g100, g101⟩, t10, n10, s10⟩ := q10)); clear d1 hv hl)
      | (go_at_call 29; have _t := tok2; clear tok2; refine (A1.out sp HV.out.1 HV.out.2 _).mono ?_; rintro e u2 ⟨rfl, d2⟩; have E3 := Lib.hid (show Below wB.heap.size wB u2 from Below.trans (by have Dp := E2.out; go_grown) (d2.mono (by go_size))); have kS2 : ∀ (a o : Nat), a < wB.heap.size → u2.cell? ⟨a, o, none⟩ = wB.cell? ⟨a, o, none⟩ := fun a o h => E3.out.cell (p := ⟨a, o, none⟩) h; have hz2 : wB.heap.size ≤ u2.heap.size := E3.out.size; (try (have q20 := carry_two d2 (wB.heap.size) (by first | omega | (simp only [World.size_alloc]; omega)); obtain ⟨⟨f200, f201⟩, ⟨g200, g201⟩, t20, n20, s20⟩ := q20)); (try (have q21 := carry_two d2 (u1.heap.size) (by first | omega | (simp only [World.size_alloc]; omega)); obtain ⟨⟨f210, f211⟩, ⟨g210, g211⟩, t21, n21, s21⟩ := q21)); clear d2))
    all_goals (go_wp2_with fail; go_meet)
    all_goals exact ⟨_, rfl, ⟨⟨(by first | (simp; done) | (simp [go_sem, *]; done)), (by first | (simp; done) | (simp [go_sem, *]; done))⟩, ⟨(by first | (simp; done) | (simp [go_sem, *]; done)), (by first | (simp; done) | (simp [go_sem, *]; done))⟩⟩, (by first | omega | (simp only [World.size_alloc, World.size_drew] at *; omega)), (by have Dp := E3.out; go_grown)⟩
   case rest =>
    obtain ⟨B7, rfl, t7, hB7, bC⟩ := hcut
    rename World => wC
    have f := HT.out.1.trans (bC.mono HT.out.1.size)
    have tA := HT.out.2.1.below bC l0
    have tR := HT.out.2.2.1.below bC l1
    have t5 := HT.out.2.2.2.below bC l5
    have n5 : B5 ≠ B7 := by omega
    have HC := Lib.hid (And.intro f (And.intro tA (And.intro tR (And.intro t5 t7))))
    clear l0 l1 l5 m50 m51 bC hB7
    have l0 := tA.lt
    have l7 := t7.lt
    have m70 := t7.1.1
    have m71 := t7.2.1
    have m00 := tA.1.1
    have m01 := tA.2.1
    clear f tA tR t5 t7
    go_wp2_with fail
    have tok1 : True := trivial
    have tok2 : True := trivial
    go_region_held3 (fun w' => ∀ (a o : Nat), a < wC.heap.size → w'.cell? ⟨a, o, none⟩ = wC.cell? ⟨a, o, none⟩) (first | assumption | (intro _ _ _; rfl))
     (first | (go_at_call 33; have _t := tok1; clear tok1; refine (R2.out _).mono ?_; rintro e u1 ⟨rfl, d1⟩; have E1 := Lib.hid (d1); have kS1 : ∀ (a o : Nat), a < wC.heap.size → u1.cell? ⟨a, o, none⟩ = wC.cell? ⟨a, o, none⟩ := fun a o h => E1.out.cell (p := ⟨a, o, none⟩) h; have hz1 : wC.heap.size ≤ u1.heap.size := E1.out.size; clear d1) | (go_at_call 25; have _t := tok2; clear tok2; refine (R3.out _).mono ?_; rintro e u2 ⟨rfl, d2⟩; have E2 := Lib.hid (E1.out.trans (d2.mono E1.out.size)); have kS2 : ∀ (a o : Nat), a < wC.heap.size → u2.cell? ⟨a, o, none⟩ = wC.cell? ⟨a, o, none⟩ := fun a o h => E2.out.cell (p := ⟨a, o, none⟩) h; have hz2 : wC.heap.size ≤ u2.heap.size := E2.out.size; clear d2))
    have hb2 : Below wC.heap.size wC u2 := ((Below.refl wC.heap.size wC).drew).trans E2.out
    have f := HC.out.1.trans (hb2.mono HC.out.1.size)
    have tA := HC.out.2.1.below hb2 HC.out.2.1.lt
    have tR := HC.out.2.2.1.below hb2 HC.out.2.2.1.lt
    have t5 := HC.out.2.2.2.1.below hb2 HC.out.2.2.2.1.lt
    have t7 := HC.out.2.2.2.2.below hb2 HC.out.2.2.2.2.lt
    have HD := Lib.hid (And.intro f (And.intro tA (And.intro tR (And.intro t5 t7))))
    clear l0 l7 m70 m71 m00 m01 hb2 kS1 kS2 hz1 hz2
    have l5 := t5.lt
    have m50 := t5.1.1
    have m51 := t5.1.2
    have m52 := t5.2.1
    have m53 := t5.2.2
    have m70 := t7.1.1
    have m71 := t7.2.1
    clear f tA tR t5 t7
    by_cases hc : cz ≤ 0
    ·go_wp2_with fail
     obtain ⟨hz, haM, hN, hSN, hq, ha, hle⟩ := HK.out
     obtain ⟨f, tA, tR, t5, t7⟩ := HD.out
     have hAne : w.heap.size ≠ B5 := by omega
     have hRne : w.heap.size + 1 ≠ B5 := by omega
     refine ⟨⟨k, N, rfl, by omega, hle.1 hc, ?_, (tA.other hAne).other hAne, (tR.other hRne).other hRne, by rw [hSN]; exact two_set t5 _ _, (f.setCell (by show w.heap.size ≤ B5; omega) _).setCell (by show w.heap.size ≤ B5; omega) _⟩, by simp [intOf]⟩
     rw [hz, ← hN, Nat.add_assoc]
     exact haM
    ·go_wp2_with fail
     obtain ⟨hz, haM, hN, hSN, hq, ha, hle⟩ := HK.out
     obtain ⟨f, tA, tR, t5, t7⟩ := HD.out
     refine ⟨⟨k, a, rfl, by omega, ha, ?_, tA, tR, by rw [HSR.out]; exact t5, f⟩, by simp [intOf]⟩
     rw [hz, hN]
     exact Nat.lt_of_not_le (fun h => hc (hle.2 h))
end Go.Proofs.YtajollhpimfefaaGreatDoor
