/- The contract of the reference's Div: a case of signs. -/
import Derived.Test.YtajollhpimfefaaGreatDoorRDivF
namespace Go.Proofs.YtajollhpimfefaaGreatDoor
open Go.RowKit Go.Shelf

set_option maxHeartbeats 8000000 in
set_option maxRecDepth 100000 in
theorem rdiv_pnz (na nb : Bool) (sa sb : ByteArray) (w : World) (ha : sa.size ≤ 100) (hb : sb.size ≤ 100) (hs : ng (ival na sa) = false) (ht : ng (ival nb sb) = true) (hy0 : ival nb sb ≠ 0) (hrz : (ival na sa).natAbs % (ival nb sb).natAbs = 0) {q r : Int} {bq br : Bool} {sq sr : ByteArray} (hd : IsDiv (ival na sa) (ival nb sb) q r) (h3 : Nam bq sq q) (h4 : Nam br sr r) :
  Calls Tryz.prog 35 #[.agg #[.bool na, .string sa], .agg #[.bool nb, .string sb]] w fun e w' => e = .returned (.tuple #[.agg #[.bool bq, .string sq], .agg #[.bool br, .string sr], .int .i64 0]) ∧ Below w.heap.size w w' := by
 have la := ival_lt na sa 100 ha
 have lb := ival_lt nb sb 100 hb
 obtain ⟨x, hx⟩ : ∃ x, ival na sa = x := ⟨_, rfl⟩
 obtain ⟨y, hy⟩ : ∃ y, ival nb sb = y := ⟨_, rfl⟩
 rw [hx] at hs hd la hrz
 rw [hy] at ht hy0 hd lb hrz
 obtain ⟨SX, hSX⟩ : ∃ s, mg x = s := ⟨_, rfl⟩
 obtain ⟨SY, hSY⟩ : ∃ s, mg y = s := ⟨_, rfl⟩
 have nX : Nam false SX x := ⟨hs, hSX⟩
 have nY : Nam true SY y := ⟨ht, hSY⟩
 obtain ⟨M, hM⟩ : ∃ M, x.natAbs = M := ⟨_, rfl⟩
 obtain ⟨N, hN⟩ : ∃ N, y.natAbs = N := ⟨_, rfl⟩
 have hN0 : 0 < N := by omega
 have hxe := sgn_false hs hM
 have hye := sgn_true ht hN
 rw [hM] at la
 rw [hN] at lb
 rw [hM, hN] at hrz
 obtain ⟨qn, hqn⟩ : ∃ q, M / N = q := ⟨_, rfl⟩
 obtain ⟨rn, hrn⟩ : ∃ r, M % N = r := ⟨_, rfl⟩
 have hqle : qn ≤ M := by rw [← hqn]; exact Nat.div_le_self _ _
 have hrle : rn < N := by rw [← hrn]; exact Nat.mod_lt _ hN0
 rw [hrn] at hrz
 have hu := hd.unique (by rw [hxe, hye]; exact isDiv_even false true (by decide) M N hN0 (by rw [hrn]; exact hrz))
 rw [hqn] at hu
 obtain ⟨hq, hr⟩ := hu
 obtain ⟨SQ, hSQ⟩ : ∃ s, (⟨(be qn).toArray⟩ : ByteArray) = s := ⟨_, rfl⟩
 obtain ⟨SR, hSR⟩ : ∃ s, (⟨(be rn).toArray⟩ : ByteArray) = s := ⟨_, rfl⟩
 have nQ : Nam false SQ (qn : Int) := by rw [← hSQ]; exact nam_nat qn
 have nR : Nam false SR (rn : Int) := by rw [← hSR]; exact nam_nat rn
 have lY := nam_size nY (k := 100) (by rw [hN]; exact lb)
 have lX := nam_size nX (k := 100) (by rw [hM]; exact la)
 have lQ := nam_size nQ (k := 100) (by rw [Int.natAbs_natCast]; omega)
 have lR := nam_size nR (k := 100) (by rw [Int.natAbs_natCast]; omega)
 have nY0 : Nam false SY (N : Int) := by
  have h := nam_nat N
  have e : mg y = ⟨(be N).toArray⟩ := by unfold mg; rw [hN]
  rw [← e, hSY] at h
  exact h
 have hYb : (⟨(be N).toArray⟩ : ByteArray) = SY := by rw [← mg_pos]; exact nY0.mag
 have vX : beVal SX.data.toList = M := by rw [← hSX, mg_val, hM]
 have vY : beVal SY.data.toList = N := by rw [← hSY, mg_val, hN]
 have CA := Lib.hid (fun W => rcan_val (bx := na) (sx := sa) hx nX W)
 have CB := Lib.hid (fun W => rcan_val (bx := nb) (sx := sb) hy nY W)
 have hNl : (be N).length ≤ 50000 := by
  have h1 := congrArg ByteArray.size hYb
  have h2 : (⟨(be N).toArray⟩ : ByteArray).size = (be N).length := List.size_toArray
  omega
 have hdm := fun W => divMag_any SX N W (by omega) hN0 hNl
 rw [hYb, vX, hqn, hrn, hSQ, hSR] at hdm
 have DM := Lib.hid hdm
 have hYe : SY.toList.isEmpty = false := by rw [nam_empty nY]; exact decide_eq_false hy0
 have hsX : SX.size < 8 → M < 72057594037927936 := fun h => by
  have h1 := beVal_lt SX.data.toList
  rw [vX, ← Lib.size_eq] at h1
  exact Nat.lt_of_lt_of_le h1 (Nat.pow_le_pow_right (n := 256) (by omega) (show SX.size ≤ 7 by omega))
 have hsY : SY.size < 8 → N < 72057594037927936 := fun h => by
  have h1 := beVal_lt SY.data.toList
  rw [vY, ← Lib.size_eq] at h1
  exact Nat.lt_of_lt_of_le h1 (Nat.pow_le_pow_right (n := 256) (by omega) (show SY.size ≤ 7 by omega))
 have HSM := Lib.hid (And.intro hsX (And.intro hsY (And.intro vX (And.intro vY (And.intro hqn (And.intro hrn (And.intro nQ (And.intro nR (And.intro hN0 (And.intro hqle hrle))))))))))
 have hSR0 : SR = ⟨#[]⟩ := by rw [← hSR, hrz, be_zero]
 subst hSR0
 have hres : br = false ∧ sr = ⟨#[]⟩ := by
  subst hr
  exact ⟨h4.sign.symm, h4.mag.symm⟩
 obtain ⟨rfl, rfl⟩ := hres
 have N1 := Lib.hid (fun W => rneg_val (nam_ival nQ) hq.symm h3 W)
 have hRe : (⟨#[]⟩ : ByteArray).toList.isEmpty = true := (nam_empty nR).trans (decide_eq_true (by rw [hrz]; rfl))
 have N2 := Lib.hid (fun W => rneg_val (bx := false) (sx := ⟨#[]⟩) (bz := false) (sz := ⟨#[]⟩) (z := 0) (nam_ival nR) (by rw [hrz]; rfl) ⟨rfl, rfl⟩ W)
 clear hNl la lb hx hy hs ht hSX hSY hM hN hxe hye hqn hrn hSQ hSR lX nY0 hYb vX vY hdm hsX hsY hd hN0 nX nY hy0 hq hr hrz nQ nR lQ lR lY h3 h4 hqle hrle
 go_enter Tryz.func35, Tryz.ntmps35
 go_upto_region 1 with fail
 obtain ⟨W0, hW0⟩ : ∃ W0, ((((w.alloc (Obj.cells #[Value.bool na, Value.string sa] 23)).alloc (Obj.cells #[Value.bool nb, Value.string sb] 23)).alloc (Obj.cells #[Value.bool false, Value.string ⟨#[]⟩] 23)).alloc (Obj.cells #[Value.bool false, Value.string ⟨#[]⟩] 23)) = W0 := ⟨_, rfl⟩
 have hs0 : W0.heap.size = w.heap.size + 1 + 1 + 1 + 1 := by rw [← hW0]; simp
 have t0 : Two (w.heap.size) (.bool na) (.string sa) W0 := by
  rw [← hW0]
  have h := two_new w (.bool na) (.string sa) 23
  (try simp only [World.size_alloc] at h)
  exact h.below (B0 := w.heap.size + 1) ((((Below.refl _ _).alloc (by simp) _).alloc (by simp) _).alloc (by simp) _) (by omega)
 have t1 : Two (w.heap.size + 1) (.bool nb) (.string sb) W0 := by
  rw [← hW0]
  have h := two_new (w.alloc (Obj.cells #[Value.bool na, Value.string sa] 23)) (.bool nb) (.string sb) 23
  (try simp only [World.size_alloc] at h)
  exact h.below (B0 := w.heap.size + 1 + 1) (((Below.refl _ _).alloc (by simp) _).alloc (by simp) _) (by omega)
 have t2 : Two (w.heap.size + 1 + 1) (.bool false) (.string ⟨#[]⟩) W0 := by
  rw [← hW0]
  have h := two_new ((w.alloc (Obj.cells #[Value.bool na, Value.string sa] 23)).alloc (Obj.cells #[Value.bool nb, Value.string sb] 23)) (.bool false) (.string ⟨#[]⟩) 23
  (try simp only [World.size_alloc] at h)
  exact h.below (B0 := w.heap.size + 1 + 1 + 1) ((Below.refl _ _).alloc (by simp) _) (by omega)
 have t3 : Two (w.heap.size + 1 + 1 + 1) (.bool false) (.string ⟨#[]⟩) W0 := by
  rw [← hW0]
  have h := two_new (((w.alloc (Obj.cells #[Value.bool na, Value.string sa] 23)).alloc (Obj.cells #[Value.bool nb, Value.string sb] 23)).alloc (Obj.cells #[Value.bool false, Value.string ⟨#[]⟩] 23)) (.bool false) (.string ⟨#[]⟩) 23
  (try simp only [World.size_alloc] at h)
  exact h
 have f : Below w.heap.size w W0 := by
  rw [← hW0]
  exact ((((Below.refl _ _).alloc (Nat.le_refl _) _).alloc (by simp) _).alloc (by simp; omega) _).alloc (by simp; omega) _
 rw [hW0]
 have HQ := Lib.hid (And.intro f (And.intro t0 (And.intro t1 (And.intro t2 t3))))
 have q1 : Two w.heap.size (.bool na) (.string sa) W0.drew := t0
 have q2 : Two (w.heap.size + 1) (.bool nb) (.string sb) W0.drew := t1
 have HD := Lib.hid (And.intro q1 q2)
 obtain ⟨⟨a1, a2⟩, a3, a4⟩ := q1
 obtain ⟨⟨b1, b2⟩, b3, b4⟩ := q2
 clear f t0 t1 t2 t3 hW0
 have l0 : w.heap.size < W0.heap.size := by omega
 have l1 : w.heap.size + 1 < W0.heap.size := by omega
 go_cut [] from 13 to 16 (fun wc => Two w.heap.size (.bool false) (.string SX) wc ∧ Two (w.heap.size + 1) (.bool true) (.string SY) wc ∧ Two (w.heap.size + 1 + 1) (.bool false) (.string ⟨#[]⟩) wc ∧ Two (w.heap.size + 1 + 1 + 1) (.bool false) (.string ⟨#[]⟩) wc ∧ Below w.heap.size w wc)
 case first =>
  have tok1 : True := trivial
  go_region_with (first
   | (go_at_call 48; have _t := tok1; clear tok1; refine (CA.out _).mono ?_; intro e w1 h1; obtain ⟨he, hb1⟩ := h1; subst he; have H1 := Lib.hid hb1; have k1 := HD.out.1.below hb1 l0; have k2 := HD.out.2.below hb1 l1; obtain ⟨⟨k11, k12⟩, k13, k14⟩ := k1; obtain ⟨⟨k21, k22⟩, k23, k24⟩ := k2; clear hb1)
   | (go_at_call 48; refine (CB.out _).mono ?_; intro e w2 h2; obtain ⟨he, hb2⟩ := h2; subst he; have H2 := Lib.hid hb2; have j1 := (HD.out.1.below H1.out l0).below hb2 (Nat.lt_of_lt_of_le l0 H1.out.size); have j2 := (HD.out.2.below H1.out l1).below hb2 (Nat.lt_of_lt_of_le l1 H1.out.size); obtain ⟨⟨j11, j12⟩, j13, j14⟩ := j1; obtain ⟨⟨j21, j22⟩, j23, j24⟩ := j2; clear hb2))
  all_goals (go_wp2_with fail; go_meet)
  all_goals
   have hb2 : Below W0.heap.size W0 w2 := ((Below.refl W0.heap.size W0).drew).trans (H1.out.trans (H2.out.mono H1.out.size))
   obtain ⟨f, t0, t1, t2, t3⟩ := HQ.out
   have x0 := t0.below hb2 t0.lt
   have x1 := t1.below hb2 t1.lt
   have x2 := t2.below hb2 t2.lt
   have x3 := t3.below hb2 t3.lt
   have xf := f.trans (hb2.mono f.size)
   exact ⟨((two_set x0 _ _).other (by omega)).other (by omega), two_set ((x1.other (by omega)).other (by omega)) _ _, (((x2.other (by omega)).other (by omega)).other (by omega)).other (by omega), (((x3.other (by omega)).other (by omega)).other (by omega)).other (by omega), (((xf.setCell (Nat.le_refl _) _).setCell (Nat.le_refl _) _).setCell (by show w.heap.size ≤ w.heap.size + 1; omega) _).setCell (by show w.heap.size ≤ w.heap.size + 1; omega) _⟩
 case rest =>
  obtain ⟨t0, t1, t2, t3, f⟩ := hcut
  clear a1 a2 a3 a4 b1 b2 b3 b4 l0 l1 hs0 HD HQ
  have HS1 := Lib.hid (And.intro f (And.intro t0 (And.intro t1 (And.intro t2 t3))))
  clear f t0 t1 t2 t3
  by_cases h8 : SX.size < 8 ∧ SY.size < 8
  ·have l0 := (HS1.out.2.1).lt
   have m00 := (HS1.out.2.1).1.1
   have m01 := (HS1.out.2.1).2.1
   have l1 := (HS1.out.2.2.1).lt
   have m10 := (HS1.out.2.2.1).1.1
   have m11 := (HS1.out.2.2.1).2.1
   have l2 := (HS1.out.2.2.2.1).lt
   have m20 := (HS1.out.2.2.2.1).1.1
   have m21 := (HS1.out.2.2.2.1).2.1
   have l3 := (HS1.out.2.2.2.2).lt
   have m30 := (HS1.out.2.2.2.2).1.1
   have m31 := (HS1.out.2.2.2.2).2.1
   have hi1 : SX.size < 8 := h8.1
   have hi2 : SY.size < 8 := h8.2
   have hM7 := HSM.out.1 hi1
   have hN7 := HSM.out.2.1 hi2
   have V1 := Lib.hid (fun W => rsmall_any SX W (by omega) (by rw [HSM.out.2.2.1]; omega))
   have V2 := Lib.hid (fun W => rsmall_any SY W (by omega) (by rw [HSM.out.2.2.2.1]; omega))
   have N0 : ¬ ((N : Int) = 0) := by have := HSM.out.2.2.2.2.2.2.2.2.1; omega
   have A1 : (M : Int) / (N : Int) = (qn : Int) := by rw [← HSM.out.2.2.2.2.1]; rfl
   have A2 : (M : Int).tdiv (N : Int) = (qn : Int) := by rw [Int.tdiv_eq_ediv_of_nonneg (by omega)]; exact A1
   have A3 : (M : Int) % (N : Int) = (rn : Int) := by rw [← HSM.out.2.2.2.2.2.1]; rfl
   have A4 : (M : Int).tmod (N : Int) = (rn : Int) := by rw [Int.tmod_eq_emod_of_nonneg (by omega)]; exact A3
   have hq7 : qn ≤ M := HSM.out.2.2.2.2.2.2.2.2.2.1
   have hr7 : rn < N := HSM.out.2.2.2.2.2.2.2.2.2.2
   have A5 : IntKind.i64.wrap (qn : Int) = (qn : Int) := by apply IntWalk.i64_in <;> omega
   have A6 : IntKind.i64.wrap (rn : Int) = (rn : Int) := by apply IntWalk.i64_in <;> omega
   have OQ := Lib.hid (fun W => rof_val (by omega) (by omega) HSM.out.2.2.2.2.2.2.1 W)
   have OR := Lib.hid (fun W => rof_val (by omega) (by omega) HSM.out.2.2.2.2.2.2.2.1 W)
   clear h8
   go_wp2_with fail
   clear l0 m00 m01 l1 m10 m11 l2 m20 m21 l3 m30 m31
   obtain ⟨w2, hw2⟩ : ∃ V, ((wc.alloc (Obj.cells #[Value.bool false, Value.string ⟨#[]⟩] 23)).alloc (Obj.cells #[Value.bool false, Value.string ⟨#[]⟩] 23)) = V := ⟨_, rfl⟩
   obtain ⟨B7, hB7⟩ : ∃ B, wc.heap.size = B := ⟨_, rfl⟩
   obtain ⟨B8, hB8⟩ : ∃ B, B7 + 1 = B := ⟨_, rfl⟩
   have bw2 : Below wc.heap.size wc w2 := by rw [← hw2]; exact (((Below.refl _ _).alloc (Nat.le_refl _) _).alloc (by simp) _)
   have tB7 : Two B7 (.bool false) (.string ⟨#[]⟩) w2 := by
    rw [← hw2, ← hB7]
    have h := two_new wc (.bool false) (.string ⟨#[]⟩) 23
    (try simp only [World.size_alloc] at h)
    exact h.below (B0 := wc.heap.size + 1) ((Below.refl _ _).alloc (by simp) _) (by omega)
   have tB8 : Two B8 (.bool false) (.string ⟨#[]⟩) w2 := by
    rw [← hw2, ← hB8, ← hB7]
    have h := two_new (wc.alloc (Obj.cells #[Value.bool false, Value.string ⟨#[]⟩] 23)) (.bool false) (.string ⟨#[]⟩) 23
    (try simp only [World.size_alloc] at h)
    exact h
   have hszw2 : wc.heap.size ≤ B7 := by omega
   rw [hw2, hB7, hB8]
   have f := HS1.out.1.trans (bw2.mono HS1.out.1.size)
   have t0 := (HS1.out.2.1).below bw2 (HS1.out.2.1).lt
   have t1 := (HS1.out.2.2.1).below bw2 (HS1.out.2.2.1).lt
   have t2 := (HS1.out.2.2.2.1).below bw2 (HS1.out.2.2.2.1).lt
   have t3 := (HS1.out.2.2.2.2).below bw2 (HS1.out.2.2.2.2).lt
   have ne4_0 : B7 ≠ w.heap.size := by have := (HS1.out.2.1).lt; omega
   have en4_0 : w.heap.size ≠ B7 := fun e => ne4_0 e.symm
   have ne5_0 : B8 ≠ w.heap.size := by have := (HS1.out.2.1).lt; omega
   have en5_0 : w.heap.size ≠ B8 := fun e => ne5_0 e.symm
   have ne4_1 : B7 ≠ w.heap.size + 1 := by have := (HS1.out.2.2.1).lt; omega
   have en4_1 : w.heap.size + 1 ≠ B7 := fun e => ne4_1 e.symm
   have ne5_1 : B8 ≠ w.heap.size + 1 := by have := (HS1.out.2.2.1).lt; omega
   have en5_1 : w.heap.size + 1 ≠ B8 := fun e => ne5_1 e.symm
   have ne4_2 : B7 ≠ w.heap.size + 1 + 1 := by have := (HS1.out.2.2.2.1).lt; omega
   have en4_2 : w.heap.size + 1 + 1 ≠ B7 := fun e => ne4_2 e.symm
   have ne5_2 : B8 ≠ w.heap.size + 1 + 1 := by have := (HS1.out.2.2.2.1).lt; omega
   have en5_2 : w.heap.size + 1 + 1 ≠ B8 := fun e => ne5_2 e.symm
   have ne4_3 : B7 ≠ w.heap.size + 1 + 1 + 1 := by have := (HS1.out.2.2.2.2).lt; omega
   have en4_3 : w.heap.size + 1 + 1 + 1 ≠ B7 := fun e => ne4_3 e.symm
   have ne5_3 : B8 ≠ w.heap.size + 1 + 1 + 1 := by have := (HS1.out.2.2.2.2).lt; omega
   have en5_3 : w.heap.size + 1 + 1 + 1 ≠ B8 := fun e => ne5_3 e.symm
   have ne5_4 : B8 ≠ B7 := by omega
   have en5_4 : B7 ≠ B8 := by omega
   have geB7 : w.heap.size ≤ B7 := by have := HS1.out.1.size; omega
   have geB8 : w.heap.size ≤ B8 := by have := HS1.out.1.size; omega
   have HS2 := Lib.hid (And.intro f (And.intro t0 (And.intro t1 (And.intro t2 (And.intro t3 (And.intro tB7 tB8))))))
   clear f hw2 bw2 hszw2 t0 t1 t2 t3 tB7 tB8 hB8 hB7
   have l0 := (HS2.out.2.1).lt
   have m00 := (HS2.out.2.1).1.1
   have m01 := (HS2.out.2.1).2.1
   have m02 := (HS2.out.2.1).1.2
   have m03 := (HS2.out.2.1).2.2
   have l1 := (HS2.out.2.2.1).lt
   have m10 := (HS2.out.2.2.1).1.1
   have m11 := (HS2.out.2.2.1).2.1
   have m12 := (HS2.out.2.2.1).1.2
   have m13 := (HS2.out.2.2.1).2.2
   have l2 := (HS2.out.2.2.2.1).lt
   have m20 := (HS2.out.2.2.2.1).1.1
   have m21 := (HS2.out.2.2.2.1).2.1
   have m22 := (HS2.out.2.2.2.1).1.2
   have m23 := (HS2.out.2.2.2.1).2.2
   have l3 := (HS2.out.2.2.2.2.1).lt
   have m30 := (HS2.out.2.2.2.2.1).1.1
   have m31 := (HS2.out.2.2.2.2.1).2.1
   have m32 := (HS2.out.2.2.2.2.1).1.2
   have m33 := (HS2.out.2.2.2.2.1).2.2
   have l4 := (HS2.out.2.2.2.2.2.1).lt
   have m40 := (HS2.out.2.2.2.2.2.1).1.1
   have m41 := (HS2.out.2.2.2.2.2.1).2.1
   have m42 := (HS2.out.2.2.2.2.2.1).1.2
   have m43 := (HS2.out.2.2.2.2.2.1).2.2
   have l5 := (HS2.out.2.2.2.2.2.2).lt
   have m50 := (HS2.out.2.2.2.2.2.2).1.1
   have m51 := (HS2.out.2.2.2.2.2.2).2.1
   have m52 := (HS2.out.2.2.2.2.2.2).1.2
   have m53 := (HS2.out.2.2.2.2.2.2).2.2
   have d00 : w2.drew.cell? ⟨w.heap.size, 0, none⟩ = some (.bool false) := m00
   have d01 : w2.drew.cell? ⟨w.heap.size, 1, none⟩ = some (.string SX) := m01
   have d10 : w2.drew.cell? ⟨w.heap.size + 1, 0, none⟩ = some (.bool true) := m10
   have d11 : w2.drew.cell? ⟨w.heap.size + 1, 1, none⟩ = some (.string SY) := m11
   have d20 : w2.drew.cell? ⟨w.heap.size + 1 + 1, 0, none⟩ = some (.bool false) := m20
   have d21 : w2.drew.cell? ⟨w.heap.size + 1 + 1, 1, none⟩ = some (.string ⟨#[]⟩) := m21
   have d30 : w2.drew.cell? ⟨w.heap.size + 1 + 1 + 1, 0, none⟩ = some (.bool false) := m30
   have d31 : w2.drew.cell? ⟨w.heap.size + 1 + 1 + 1, 1, none⟩ = some (.string ⟨#[]⟩) := m31
   have d40 : w2.drew.cell? ⟨B7, 0, none⟩ = some (.bool false) := m40
   have d41 : w2.drew.cell? ⟨B7, 1, none⟩ = some (.string ⟨#[]⟩) := m41
   have d50 : w2.drew.cell? ⟨B8, 0, none⟩ = some (.bool false) := m50
   have d51 : w2.drew.cell? ⟨B8, 1, none⟩ = some (.string ⟨#[]⟩) := m51
   have vX := HSM.out.2.2.1
   have vY := HSM.out.2.2.2.1
   have tok1 : True := trivial
   go_region_held3 (fun w' => w'.cell? ⟨w.heap.size, 1, none⟩ = some (.string SX) ∧ w'.cell? ⟨w.heap.size + 1, 1, none⟩ = some (.string SY)) (refine ⟨?_, ?_⟩ <;> assumption) (first | (go_at_call 67; have _t := tok1; clear tok1; refine (V1.out _).mono ?_; intro e u1 h1; obtain ⟨he, hb1⟩ := h1; subst he; subst hb1) | (go_at_call 67; refine (V2.out _).mono ?_; intro e u2 h2; obtain ⟨he, hb2⟩ := h2; subst he; subst hb2))
   obtain ⟨w3, hw3⟩ : ∃ V, w2.drew = V := ⟨_, rfl⟩
   have f := HS2.out.1.drew
   rw [hw3] at f
   have t0 : Two (w.heap.size) (.bool false) (.string SX) w2.drew := HS2.out.2.1
   rw [hw3] at t0
   have t1 : Two (w.heap.size + 1) (.bool true) (.string SY) w2.drew := HS2.out.2.2.1
   rw [hw3] at t1
   have t2 : Two (w.heap.size + 1 + 1) (.bool false) (.string ⟨#[]⟩) w2.drew := HS2.out.2.2.2.1
   rw [hw3] at t2
   have t3 : Two (w.heap.size + 1 + 1 + 1) (.bool false) (.string ⟨#[]⟩) w2.drew := HS2.out.2.2.2.2.1
   rw [hw3] at t3
   have t4 : Two (B7) (.bool false) (.string ⟨#[]⟩) w2.drew := HS2.out.2.2.2.2.2.1
   rw [hw3] at t4
   have t5 : Two (B8) (.bool false) (.string ⟨#[]⟩) w2.drew := HS2.out.2.2.2.2.2.2
   rw [hw3] at t5
   clear l0 m00 m01 m02 m03 l1 m10 m11 m12 m13 l2 m20 m21 m22 m23 l3 m30 m31 m32 m33 l4 m40 m41 m42 m43 l5 m50 m51 m52 m53
   clear d00 d01 d10 d11 d20 d21 d30 d31 d40 d41 d50 d51
   have HS3 := Lib.hid (And.intro f (And.intro t0 (And.intro t1 (And.intro t2 (And.intro t3 (And.intro t4 t5))))))
   clear f t0 t1 t2 t3 t4 t5
   have l0 := (HS3.out.2.1).lt
   have m00 := (HS3.out.2.1).1.1
   have m01 := (HS3.out.2.1).2.1
   have m02 := (HS3.out.2.1).1.2
   have m03 := (HS3.out.2.1).2.2
   have l1 := (HS3.out.2.2.1).lt
   have m10 := (HS3.out.2.2.1).1.1
   have m11 := (HS3.out.2.2.1).2.1
   have m12 := (HS3.out.2.2.1).1.2
   have m13 := (HS3.out.2.2.1).2.2
   have l2 := (HS3.out.2.2.2.1).lt
   have m20 := (HS3.out.2.2.2.1).1.1
   have m21 := (HS3.out.2.2.2.1).2.1
   have m22 := (HS3.out.2.2.2.1).1.2
   have m23 := (HS3.out.2.2.2.1).2.2
   have l3 := (HS3.out.2.2.2.2.1).lt
   have m30 := (HS3.out.2.2.2.2.1).1.1
   have m31 := (HS3.out.2.2.2.2.1).2.1
   have m32 := (HS3.out.2.2.2.2.1).1.2
   have m33 := (HS3.out.2.2.2.2.1).2.2
   have l4 := (HS3.out.2.2.2.2.2.1).lt
   have m40 := (HS3.out.2.2.2.2.2.1).1.1
   have m41 := (HS3.out.2.2.2.2.2.1).2.1
   have m42 := (HS3.out.2.2.2.2.2.1).1.2
   have m43 := (HS3.out.2.2.2.2.2.1).2.2
   have l5 := (HS3.out.2.2.2.2.2.2).lt
   have m50 := (HS3.out.2.2.2.2.2.2).1.1
   have m51 := (HS3.out.2.2.2.2.2.2).2.1
   have m52 := (HS3.out.2.2.2.2.2.2).1.2
   have m53 := (HS3.out.2.2.2.2.2.2).2.2
   have l4d : B7 < w3.drew.heap.size := l4
   have l5d : B8 < w3.drew.heap.size := l5
   have HE := Lib.hid (And.intro (show Two B7 (.bool false) (.string ⟨#[]⟩) w3.drew from HS3.out.2.2.2.2.2.1) (show Two B8 (.bool false) (.string ⟨#[]⟩) w3.drew from HS3.out.2.2.2.2.2.2))
   have HW3 := Lib.hid hw3
   clear hw3
   go_wp2_with fail
   (try rw [HW3.out])
   go_cut [] from 38 to 46 (fun w4 => Two (w.heap.size) (.bool false) (.string SX) w4 ∧ Two (w.heap.size + 1) (.bool true) (.string SY) w4 ∧ Two (w.heap.size + 1 + 1) (.bool false) (.string ⟨#[]⟩) w4 ∧ Two (w.heap.size + 1 + 1 + 1) (.bool false) (.string ⟨#[]⟩) w4 ∧ Two (B7) (.bool false) (.string SQ) w4 ∧ Two (B8) (.bool false) (.string ⟨#[]⟩) w4 ∧ Below w.heap.size w w4)
   case first =>
    have tok1 : True := trivial
    go_region_with (first
     | (go_at_call 19; have _t := tok1; clear tok1; refine (OQ.out _).mono ?_; intro e u1 h1; obtain ⟨he, hb1⟩ := h1; subst he; have H1 := Lib.hid hb1; clear hb1)
     | (go_at_call 19; refine (OR.out _).mono ?_; intro e u2 h2; obtain ⟨he, hb2⟩ := h2; subst he; have H2 := Lib.hid hb2; have k4 := (HE.out.1.below H1.out HE.out.1.lt).below hb2 (Nat.lt_of_lt_of_le HE.out.1.lt H1.out.size); have k5 := (HE.out.2.below H1.out HE.out.2.lt).below hb2 (Nat.lt_of_lt_of_le HE.out.2.lt H1.out.size); obtain ⟨⟨k41, k42⟩, k43, k44⟩ := k4; obtain ⟨⟨k51, k52⟩, k53, k54⟩ := k5; clear hb2))
    all_goals (go_wp2_with fail; go_meet)
    all_goals
     have hb2 : Below w3.heap.size w3 u2 := ((Below.refl w3.heap.size w3).drew).trans (H1.out.trans (H2.out.mono H1.out.size))
     have xf := HS3.out.1.trans (hb2.mono HS3.out.1.size)
     have x0 := (HS3.out.2.1).below hb2 (HS3.out.2.1).lt
     have x1 := (HS3.out.2.2.1).below hb2 (HS3.out.2.2.1).lt
     have x2 := (HS3.out.2.2.2.1).below hb2 (HS3.out.2.2.2.1).lt
     have x3 := (HS3.out.2.2.2.2.1).below hb2 (HS3.out.2.2.2.2.1).lt
     have x4 := (HS3.out.2.2.2.2.2.1).below hb2 (HS3.out.2.2.2.2.2.1).lt
     have x5 := (HS3.out.2.2.2.2.2.2).below hb2 (HS3.out.2.2.2.2.2.2).lt
     exact ⟨(((x0.other en4_0).other en4_0).other en5_0).other en5_0, (((x1.other en4_1).other en4_1).other en5_1).other en5_1, (((x2.other en4_2).other en4_2).other en5_2).other en5_2, (((x3.other en4_3).other en4_3).other en5_3).other en5_3, ((two_set x4 _ _).other en5_4).other en5_4, two_set ((x5.other ne5_4).other ne5_4) _ _, (((xf.setCell (by show w.heap.size ≤ B7; omega) _).setCell (by show w.heap.size ≤ B7; omega) _).setCell (by show w.heap.size ≤ B8; omega) _).setCell (by show w.heap.size ≤ B8; omega) _⟩
   case rest =>
    obtain ⟨t0, t1, t2, t3, t4, t5, f⟩ := hcut
    rename World => w4
    clear l0 m00 m01 m02 m03 l1 m10 m11 m12 m13 l2 m20 m21 m22 m23 l3 m30 m31 m32 m33 l4 m40 m41 m42 m43 l5 m50 m51 m52 m53
    clear l4d l5d
    have HS4 := Lib.hid (And.intro f (And.intro t0 (And.intro t1 (And.intro t2 (And.intro t3 (And.intro t4 t5))))))
    clear f t0 t1 t2 t3 t4 t5
    have l0 := (HS4.out.2.1).lt
    have m00 := (HS4.out.2.1).1.1
    have m01 := (HS4.out.2.1).2.1
    have m02 := (HS4.out.2.1).1.2
    have m03 := (HS4.out.2.1).2.2
    have l1 := (HS4.out.2.2.1).lt
    have m10 := (HS4.out.2.2.1).1.1
    have m11 := (HS4.out.2.2.1).2.1
    have m12 := (HS4.out.2.2.1).1.2
    have m13 := (HS4.out.2.2.1).2.2
    have l4 := (HS4.out.2.2.2.2.2.1).lt
    have m40 := (HS4.out.2.2.2.2.2.1).1.1
    have m41 := (HS4.out.2.2.2.2.2.1).2.1
    have m42 := (HS4.out.2.2.2.2.2.1).1.2
    have m43 := (HS4.out.2.2.2.2.2.1).2.2
    have l5 := (HS4.out.2.2.2.2.2.2).lt
    have m50 := (HS4.out.2.2.2.2.2.2).1.1
    have m51 := (HS4.out.2.2.2.2.2.2).2.1
    have m52 := (HS4.out.2.2.2.2.2.2).1.2
    have m53 := (HS4.out.2.2.2.2.2.2).2.2
    go_wp2_with fail
    clear l0 m00 m01 m02 m03 l1 m10 m11 m12 m13 l4 m40 m41 m42 m43 l5 m50 m51 m52 m53
    refine (N1.out _).mono ?_
    rintro e v20 ⟨rfl, c⟩
    have f := HS4.out.1.trans (c.mono HS4.out.1.size)
    have t0 := (HS4.out.2.1).below c (HS4.out.2.1).lt
    have t1 := (HS4.out.2.2.1).below c (HS4.out.2.2.1).lt
    have t2 := (HS4.out.2.2.2.1).below c (HS4.out.2.2.2.1).lt
    have t3 := (HS4.out.2.2.2.2.1).below c (HS4.out.2.2.2.2.1).lt
    have t4 := (HS4.out.2.2.2.2.2.1).below c (HS4.out.2.2.2.2.2.1).lt
    have t5 := (HS4.out.2.2.2.2.2.2).below c (HS4.out.2.2.2.2.2.2).lt
    have HV20 := Lib.hid (And.intro f (And.intro t0 (And.intro t1 (And.intro t2 (And.intro t3 (And.intro t4 t5))))))
    clear c f t0 t1 t2 t3 t4 t5
    obtain ⟨v21, hv21⟩ : ∃ V, (v20.setCell ⟨B7, 0, none⟩ (.bool bq)).setCell ⟨B7, 1, none⟩ (.string sq) = V := ⟨_, rfl⟩
    have t0 := ((HV20.out.2.1).other en4_0 (o := 0) (u := .bool bq)).other en4_0 (o := 1) (u := .string sq)
    rw [hv21] at t0
    have t1 := ((HV20.out.2.2.1).other en4_1 (o := 0) (u := .bool bq)).other en4_1 (o := 1) (u := .string sq)
    rw [hv21] at t1
    have t2 := ((HV20.out.2.2.2.1).other en4_2 (o := 0) (u := .bool bq)).other en4_2 (o := 1) (u := .string sq)
    rw [hv21] at t2
    have t3 := ((HV20.out.2.2.2.2.1).other en4_3 (o := 0) (u := .bool bq)).other en4_3 (o := 1) (u := .string sq)
    rw [hv21] at t3
    have t4 := two_set (HV20.out.2.2.2.2.2.1) (.bool bq) (.string sq)
    rw [hv21] at t4
    have t5 := ((HV20.out.2.2.2.2.2.2).other ne5_4 (o := 0) (u := .bool bq)).other ne5_4 (o := 1) (u := .string sq)
    rw [hv21] at t5
    have f := (HV20.out.1.setCell (by show w.heap.size ≤ B7; omega) (.bool bq) (p := ⟨B7, 0, none⟩)).setCell (by show w.heap.size ≤ B7; omega) (.string sq) (p := ⟨B7, 1, none⟩)
    rw [hv21] at f
    have HV21 := Lib.hid (And.intro f (And.intro t0 (And.intro t1 (And.intro t2 (And.intro t3 (And.intro t4 t5))))))
    clear f t0 t1 t2 t3 t4 t5
    have HWv21 := Lib.hid hv21
    clear hv21
    have l1 := (HV20.out.2.2.1).lt
    have m10 := (HV20.out.2.2.1).1.1
    have m11 := (HV20.out.2.2.1).2.1
    have m12 := (HV20.out.2.2.1).1.2
    have m13 := (HV20.out.2.2.1).2.2
    have l4 := (HV20.out.2.2.2.2.2.1).lt
    have m40 := (HV20.out.2.2.2.2.2.1).1.1
    have m41 := (HV20.out.2.2.2.2.2.1).2.1
    have m42 := (HV20.out.2.2.2.2.2.1).1.2
    have m43 := (HV20.out.2.2.2.2.2.1).2.2
    have l5 := (HV20.out.2.2.2.2.2.2).lt
    have m50 := (HV20.out.2.2.2.2.2.2).1.1
    have m51 := (HV20.out.2.2.2.2.2.2).2.1
    have m52 := (HV20.out.2.2.2.2.2.2).1.2
    have m53 := (HV20.out.2.2.2.2.2.2).2.2
    go_wp2_with fail
    rw [HWv21.out]
    clear l1 m10 m11 m12 m13 l4 m40 m41 m42 m43 l5 m50 m51 m52 m53
    refine (N2.out _).mono ?_
    rintro e v22 ⟨rfl, c⟩
    have f := HV21.out.1.trans (c.mono HV21.out.1.size)
    have t0 := (HV21.out.2.1).below c (HV21.out.2.1).lt
    have t1 := (HV21.out.2.2.1).below c (HV21.out.2.2.1).lt
    have t2 := (HV21.out.2.2.2.1).below c (HV21.out.2.2.2.1).lt
    have t3 := (HV21.out.2.2.2.2.1).below c (HV21.out.2.2.2.2.1).lt
    have t4 := (HV21.out.2.2.2.2.2.1).below c (HV21.out.2.2.2.2.2.1).lt
    have t5 := (HV21.out.2.2.2.2.2.2).below c (HV21.out.2.2.2.2.2.2).lt
    have HV22 := Lib.hid (And.intro f (And.intro t0 (And.intro t1 (And.intro t2 (And.intro t3 (And.intro t4 t5))))))
    clear c f t0 t1 t2 t3 t4 t5
    obtain ⟨v23, hv23⟩ : ∃ V, (v22.setCell ⟨B8, 0, none⟩ (.bool false)).setCell ⟨B8, 1, none⟩ (.string ⟨#[]⟩) = V := ⟨_, rfl⟩
    have t0 := ((HV22.out.2.1).other en5_0 (o := 0) (u := .bool false)).other en5_0 (o := 1) (u := .string ⟨#[]⟩)
    rw [hv23] at t0
    have t1 := ((HV22.out.2.2.1).other en5_1 (o := 0) (u := .bool false)).other en5_1 (o := 1) (u := .string ⟨#[]⟩)
    rw [hv23] at t1
    have t2 := ((HV22.out.2.2.2.1).other en5_2 (o := 0) (u := .bool false)).other en5_2 (o := 1) (u := .string ⟨#[]⟩)
    rw [hv23] at t2
    have t3 := ((HV22.out.2.2.2.2.1).other en5_3 (o := 0) (u := .bool false)).other en5_3 (o := 1) (u := .string ⟨#[]⟩)
    rw [hv23] at t3
    have t4 := ((HV22.out.2.2.2.2.2.1).other en5_4 (o := 0) (u := .bool false)).other en5_4 (o := 1) (u := .string ⟨#[]⟩)
    rw [hv23] at t4
    have t5 := two_set (HV22.out.2.2.2.2.2.2) (.bool false) (.string ⟨#[]⟩)
    rw [hv23] at t5
    have f := (HV22.out.1.setCell (by show w.heap.size ≤ B8; omega) (.bool false) (p := ⟨B8, 0, none⟩)).setCell (by show w.heap.size ≤ B8; omega) (.string ⟨#[]⟩) (p := ⟨B8, 1, none⟩)
    rw [hv23] at f
    have HV23 := Lib.hid (And.intro f (And.intro t0 (And.intro t1 (And.intro t2 (And.intro t3 (And.intro t4 t5))))))
    clear f t0 t1 t2 t3 t4 t5
    have HWv23 := Lib.hid hv23
    clear hv23
    have l5 := (HV22.out.2.2.2.2.2.2).lt
    have m50 := (HV22.out.2.2.2.2.2.2).1.1
    have m51 := (HV22.out.2.2.2.2.2.2).2.1
    have m52 := (HV22.out.2.2.2.2.2.2).1.2
    have m53 := (HV22.out.2.2.2.2.2.2).2.2
    go_wp2_with fail
    rw [HWv23.out]
    clear l5 m50 m51 m52 m53
    have l2 := (HV23.out.2.2.2.1).lt
    have m20 := (HV23.out.2.2.2.1).1.1
    have m21 := (HV23.out.2.2.2.1).2.1
    have m22 := (HV23.out.2.2.2.1).1.2
    have m23 := (HV23.out.2.2.2.1).2.2
    have l3 := (HV23.out.2.2.2.2.1).lt
    have m30 := (HV23.out.2.2.2.2.1).1.1
    have m31 := (HV23.out.2.2.2.2.1).2.1
    have m32 := (HV23.out.2.2.2.2.1).1.2
    have m33 := (HV23.out.2.2.2.2.1).2.2
    have l4 := (HV23.out.2.2.2.2.2.1).lt
    have m40 := (HV23.out.2.2.2.2.2.1).1.1
    have m41 := (HV23.out.2.2.2.2.2.1).2.1
    have m42 := (HV23.out.2.2.2.2.2.1).1.2
    have m43 := (HV23.out.2.2.2.2.2.1).2.2
    have l5 := (HV23.out.2.2.2.2.2.2).lt
    have m50 := (HV23.out.2.2.2.2.2.2).1.1
    have m51 := (HV23.out.2.2.2.2.2.2).2.1
    have m52 := (HV23.out.2.2.2.2.2.2).1.2
    have m53 := (HV23.out.2.2.2.2.2.2).2.2
    have d40 : v23.drew.cell? ⟨B7, 0, none⟩ = some (.bool bq) := m40
    have d41 : v23.drew.cell? ⟨B7, 1, none⟩ = some (.string sq) := m41
    have d50 : v23.drew.cell? ⟨B8, 0, none⟩ = some (.bool false) := m50
    have d51 : v23.drew.cell? ⟨B8, 1, none⟩ = some (.string ⟨#[]⟩) := m51
    go_region_held3 (fun w' => w'.cell? ⟨B7, 0, none⟩ = some (.bool bq) ∧ w'.cell? ⟨B7, 1, none⟩ = some (.string sq) ∧ w'.cell? ⟨B8, 0, none⟩ = some (.bool false) ∧ w'.cell? ⟨B8, 1, none⟩ = some (.string ⟨#[]⟩)) (simp only [cell_drewD, cell_setO ne4_2, cell_setO ne5_2, cell_setO ne4_3, cell_setO ne5_3, m40, m41, m50, m51, and_self]) (fail)
    have x2 := HV23.out.2.2.2.1
    have x3 := HV23.out.2.2.2.2.1
    have z2 := ((two_set x2 (.bool bq) (.string sq)).other (B' := w.heap.size + 1 + 1 + 1) (o := 0) (u := .bool false) (by omega)).other (B' := w.heap.size + 1 + 1 + 1) (o := 1) (u := .string ⟨#[]⟩) (by omega)
    have z3 := two_set ((x3.other (B' := w.heap.size + 1 + 1) (o := 0) (u := .bool bq) (by omega)).other (B' := w.heap.size + 1 + 1) (o := 1) (u := .string sq) (by omega)) (.bool false) (.string ⟨#[]⟩)
    have f := ((((HV23.out.1.setCell (p := ⟨w.heap.size + 1 + 1, 0, none⟩) (by show w.heap.size ≤ w.heap.size + 1 + 1; omega) (.bool bq)).setCell (p := ⟨w.heap.size + 1 + 1, 1, none⟩) (by show w.heap.size ≤ w.heap.size + 1 + 1; omega) (.string sq)).setCell (p := ⟨w.heap.size + 1 + 1 + 1, 0, none⟩) (by show w.heap.size ≤ w.heap.size + 1 + 1 + 1; omega) (.bool false)).setCell (p := ⟨w.heap.size + 1 + 1 + 1, 1, none⟩) (by show w.heap.size ≤ w.heap.size + 1 + 1 + 1; omega) (.string ⟨#[]⟩)).drew
    obtain ⟨WF, hWF⟩ : ∃ V, ((((v23.setCell ⟨w.heap.size + 1 + 1, 0, none⟩ (.bool bq)).setCell ⟨w.heap.size + 1 + 1, 1, none⟩ (.string sq)).setCell ⟨w.heap.size + 1 + 1 + 1, 0, none⟩ (.bool false)).setCell ⟨w.heap.size + 1 + 1 + 1, 1, none⟩ (.string ⟨#[]⟩)).drew = V := ⟨_, rfl⟩
    have zz2 : Two (w.heap.size + 1 + 1) (.bool bq) (.string sq) WF := by rw [← hWF]; exact z2
    have zz3 : Two (w.heap.size + 1 + 1 + 1) (.bool false) (.string ⟨#[]⟩) WF := by rw [← hWF]; exact z3
    rw [hWF] at f
    rw [hWF]
    have y0 := zz2.1.1
    have y1 := zz2.2.1
    have y2 := zz3.1.1
    have y3 := zz3.2.1
    have HF := Lib.hid f
    clear hWF zz2 zz3
    clear x2 x3 z2 z3 f
    clear l2 m20 m21 m22 m23 l3 m30 m31 m32 m33 l4 m40 m41 m42 m43 l5 m50 m51 m52 m53
    clear d40 d41 d50 d51
    go_wp2_with fail
    refine bodyPost_ret (v := .tuple #[.agg #[.bool bq, .string sq], .agg #[.bool false, .string ⟨#[]⟩], .int .i64 0]) (by simp [results, Tryz.results35, go_sem, y0, y1, y2, y3]) rfl ⟨rfl, HF.out⟩
  ·have hi0 : SX.size < 8 → ¬ SY.size < 8 := fun h1 h2 => h8 ⟨h1, h2⟩
   by_cases h1 : SX.size < 8
   ·have h2 := hi0 h1
    clear h8 hi0
    have l0 := (HS1.out.2.1).lt
    have m00 := (HS1.out.2.1).1.1
    have m01 := (HS1.out.2.1).2.1
    have l1 := (HS1.out.2.2.1).lt
    have m10 := (HS1.out.2.2.1).1.1
    have m11 := (HS1.out.2.2.1).2.1
    have l2 := (HS1.out.2.2.2.1).lt
    have m20 := (HS1.out.2.2.2.1).1.1
    have m21 := (HS1.out.2.2.2.1).2.1
    have l3 := (HS1.out.2.2.2.2).lt
    have m30 := (HS1.out.2.2.2.2).1.1
    have m31 := (HS1.out.2.2.2.2).2.1
    go_wp2_with fail
    clear l0 m00 m01 l1 m10 m11 l2 m20 m21 l3 m30 m31
    obtain ⟨w2, hw2⟩ : ∃ V, ((wc.alloc (Obj.cells #[Value.bool false, Value.string ⟨#[]⟩] 23)).alloc (Obj.cells #[Value.bool false, Value.string ⟨#[]⟩] 23)) = V := ⟨_, rfl⟩
    obtain ⟨B7, hB7⟩ : ∃ B, wc.heap.size = B := ⟨_, rfl⟩
    obtain ⟨B8, hB8⟩ : ∃ B, B7 + 1 = B := ⟨_, rfl⟩
    have bw2 : Below wc.heap.size wc w2 := by rw [← hw2]; exact (((Below.refl _ _).alloc (Nat.le_refl _) _).alloc (by simp) _)
    have tB7 : Two B7 (.bool false) (.string ⟨#[]⟩) w2 := by
     rw [← hw2, ← hB7]
     have h := two_new wc (.bool false) (.string ⟨#[]⟩) 23
     (try simp only [World.size_alloc] at h)
     exact h.below (B0 := wc.heap.size + 1) ((Below.refl _ _).alloc (by simp) _) (by omega)
    have tB8 : Two B8 (.bool false) (.string ⟨#[]⟩) w2 := by
     rw [← hw2, ← hB8, ← hB7]
     have h := two_new (wc.alloc (Obj.cells #[Value.bool false, Value.string ⟨#[]⟩] 23)) (.bool false) (.string ⟨#[]⟩) 23
     (try simp only [World.size_alloc] at h)
     exact h
    have hszw2 : wc.heap.size ≤ B7 := by omega
    rw [hw2, hB7, hB8]
    have f := HS1.out.1.trans (bw2.mono HS1.out.1.size)
    have t0 := (HS1.out.2.1).below bw2 (HS1.out.2.1).lt
    have t1 := (HS1.out.2.2.1).below bw2 (HS1.out.2.2.1).lt
    have t2 := (HS1.out.2.2.2.1).below bw2 (HS1.out.2.2.2.1).lt
    have t3 := (HS1.out.2.2.2.2).below bw2 (HS1.out.2.2.2.2).lt
    have ne4_0 : B7 ≠ w.heap.size := by have := (HS1.out.2.1).lt; omega
    have en4_0 : w.heap.size ≠ B7 := fun e => ne4_0 e.symm
    have ne5_0 : B8 ≠ w.heap.size := by have := (HS1.out.2.1).lt; omega
    have en5_0 : w.heap.size ≠ B8 := fun e => ne5_0 e.symm
    have ne4_1 : B7 ≠ w.heap.size + 1 := by have := (HS1.out.2.2.1).lt; omega
    have en4_1 : w.heap.size + 1 ≠ B7 := fun e => ne4_1 e.symm
    have ne5_1 : B8 ≠ w.heap.size + 1 := by have := (HS1.out.2.2.1).lt; omega
    have en5_1 : w.heap.size + 1 ≠ B8 := fun e => ne5_1 e.symm
    have ne4_2 : B7 ≠ w.heap.size + 1 + 1 := by have := (HS1.out.2.2.2.1).lt; omega
    have en4_2 : w.heap.size + 1 + 1 ≠ B7 := fun e => ne4_2 e.symm
    have ne5_2 : B8 ≠ w.heap.size + 1 + 1 := by have := (HS1.out.2.2.2.1).lt; omega
    have en5_2 : w.heap.size + 1 + 1 ≠ B8 := fun e => ne5_2 e.symm
    have ne4_3 : B7 ≠ w.heap.size + 1 + 1 + 1 := by have := (HS1.out.2.2.2.2).lt; omega
    have en4_3 : w.heap.size + 1 + 1 + 1 ≠ B7 := fun e => ne4_3 e.symm
    have ne5_3 : B8 ≠ w.heap.size + 1 + 1 + 1 := by have := (HS1.out.2.2.2.2).lt; omega
    have en5_3 : w.heap.size + 1 + 1 + 1 ≠ B8 := fun e => ne5_3 e.symm
    have ne5_4 : B8 ≠ B7 := by omega
    have en5_4 : B7 ≠ B8 := by omega
    have geB7 : w.heap.size ≤ B7 := by have := HS1.out.1.size; omega
    have geB8 : w.heap.size ≤ B8 := by have := HS1.out.1.size; omega
    have HS2 := Lib.hid (And.intro f (And.intro t0 (And.intro t1 (And.intro t2 (And.intro t3 (And.intro tB7 tB8))))))
    clear f hw2 bw2 hszw2 t0 t1 t2 t3 tB7 tB8 hB8 hB7
    refine (DM.out _).mono ?_
    rintro e v24 ⟨rfl, c⟩
    have f := HS2.out.1.trans (c.mono HS2.out.1.size)
    have t0 := (HS2.out.2.1).below c (HS2.out.2.1).lt
    have t1 := (HS2.out.2.2.1).below c (HS2.out.2.2.1).lt
    have t2 := (HS2.out.2.2.2.1).below c (HS2.out.2.2.2.1).lt
    have t3 := (HS2.out.2.2.2.2.1).below c (HS2.out.2.2.2.2.1).lt
    have t4 := (HS2.out.2.2.2.2.2.1).below c (HS2.out.2.2.2.2.2.1).lt
    have t5 := (HS2.out.2.2.2.2.2.2).below c (HS2.out.2.2.2.2.2.2).lt
    have HV24 := Lib.hid (And.intro f (And.intro t0 (And.intro t1 (And.intro t2 (And.intro t3 (And.intro t4 t5))))))
    clear c f t0 t1 t2 t3 t4 t5
    obtain ⟨v25, hv25⟩ : ∃ V, (v24.setCell ⟨B7, 0, none⟩ (.bool false)).setCell ⟨B7, 1, none⟩ (.string SQ) = V := ⟨_, rfl⟩
    have t0 := ((HV24.out.2.1).other en4_0 (o := 0) (u := .bool false)).other en4_0 (o := 1) (u := .string SQ)
    rw [hv25] at t0
    have t1 := ((HV24.out.2.2.1).other en4_1 (o := 0) (u := .bool false)).other en4_1 (o := 1) (u := .string SQ)
    rw [hv25] at t1
    have t2 := ((HV24.out.2.2.2.1).other en4_2 (o := 0) (u := .bool false)).other en4_2 (o := 1) (u := .string SQ)
    rw [hv25] at t2
    have t3 := ((HV24.out.2.2.2.2.1).other en4_3 (o := 0) (u := .bool false)).other en4_3 (o := 1) (u := .string SQ)
    rw [hv25] at t3
    have t4 := two_set (HV24.out.2.2.2.2.2.1) (.bool false) (.string SQ)
    rw [hv25] at t4
    have t5 := ((HV24.out.2.2.2.2.2.2).other ne5_4 (o := 0) (u := .bool false)).other ne5_4 (o := 1) (u := .string SQ)
    rw [hv25] at t5
    have f := (HV24.out.1.setCell (by show w.heap.size ≤ B7; omega) (.bool false) (p := ⟨B7, 0, none⟩)).setCell (by show w.heap.size ≤ B7; omega) (.string SQ) (p := ⟨B7, 1, none⟩)
    rw [hv25] at f
    have HV25 := Lib.hid (And.intro f (And.intro t0 (And.intro t1 (And.intro t2 (And.intro t3 (And.intro t4 t5))))))
    clear f t0 t1 t2 t3 t4 t5
    have HWv25 := Lib.hid hv25
    clear hv25
    obtain ⟨v26, hv26⟩ : ∃ V, (v25.setCell ⟨B8, 0, none⟩ (.bool false)).setCell ⟨B8, 1, none⟩ (.string ⟨#[]⟩) = V := ⟨_, rfl⟩
    have t0 := ((HV25.out.2.1).other en5_0 (o := 0) (u := .bool false)).other en5_0 (o := 1) (u := .string ⟨#[]⟩)
    rw [hv26] at t0
    have t1 := ((HV25.out.2.2.1).other en5_1 (o := 0) (u := .bool false)).other en5_1 (o := 1) (u := .string ⟨#[]⟩)
    rw [hv26] at t1
    have t2 := ((HV25.out.2.2.2.1).other en5_2 (o := 0) (u := .bool false)).other en5_2 (o := 1) (u := .string ⟨#[]⟩)
    rw [hv26] at t2
    have t3 := ((HV25.out.2.2.2.2.1).other en5_3 (o := 0) (u := .bool false)).other en5_3 (o := 1) (u := .string ⟨#[]⟩)
    rw [hv26] at t3
    have t4 := ((HV25.out.2.2.2.2.2.1).other en5_4 (o := 0) (u := .bool false)).other en5_4 (o := 1) (u := .string ⟨#[]⟩)
    rw [hv26] at t4
    have t5 := two_set (HV25.out.2.2.2.2.2.2) (.bool false) (.string ⟨#[]⟩)
    rw [hv26] at t5
    have f := (HV25.out.1.setCell (by show w.heap.size ≤ B8; omega) (.bool false) (p := ⟨B8, 0, none⟩)).setCell (by show w.heap.size ≤ B8; omega) (.string ⟨#[]⟩) (p := ⟨B8, 1, none⟩)
    rw [hv26] at f
    have HV26 := Lib.hid (And.intro f (And.intro t0 (And.intro t1 (And.intro t2 (And.intro t3 (And.intro t4 t5))))))
    clear f t0 t1 t2 t3 t4 t5
    have HWv26 := Lib.hid hv26
    clear hv26
    have HWx := Lib.hid (show _ = v26 from (congrArg (fun V => (World.setCell (World.setCell V ⟨B8, 0, none⟩ (.bool false)) ⟨B8, 1, none⟩ (.string ⟨#[]⟩))) HWv25.out).trans HWv26.out)
    have l0 := (HV24.out.2.1).lt
    have m00 := (HV24.out.2.1).1.1
    have m01 := (HV24.out.2.1).2.1
    have m02 := (HV24.out.2.1).1.2
    have m03 := (HV24.out.2.1).2.2
    have l1 := (HV24.out.2.2.1).lt
    have m10 := (HV24.out.2.2.1).1.1
    have m11 := (HV24.out.2.2.1).2.1
    have m12 := (HV24.out.2.2.1).1.2
    have m13 := (HV24.out.2.2.1).2.2
    have l4 := (HV24.out.2.2.2.2.2.1).lt
    have m40 := (HV24.out.2.2.2.2.2.1).1.1
    have m41 := (HV24.out.2.2.2.2.2.1).2.1
    have m42 := (HV24.out.2.2.2.2.2.1).1.2
    have m43 := (HV24.out.2.2.2.2.2.1).2.2
    have l5 := (HV24.out.2.2.2.2.2.2).lt
    have m50 := (HV24.out.2.2.2.2.2.2).1.1
    have m51 := (HV24.out.2.2.2.2.2.2).2.1
    have m52 := (HV24.out.2.2.2.2.2.2).1.2
    have m53 := (HV24.out.2.2.2.2.2.2).2.2
    go_wp2_with fail
    rw [HWx.out]
    clear l0 m00 m01 m02 m03 l1 m10 m11 m12 m13 l4 m40 m41 m42 m43 l5 m50 m51 m52 m53
    refine (N1.out _).mono ?_
    rintro e v27 ⟨rfl, c⟩
    have f := HV26.out.1.trans (c.mono HV26.out.1.size)
    have t0 := (HV26.out.2.1).below c (HV26.out.2.1).lt
    have t1 := (HV26.out.2.2.1).below c (HV26.out.2.2.1).lt
    have t2 := (HV26.out.2.2.2.1).below c (HV26.out.2.2.2.1).lt
    have t3 := (HV26.out.2.2.2.2.1).below c (HV26.out.2.2.2.2.1).lt
    have t4 := (HV26.out.2.2.2.2.2.1).below c (HV26.out.2.2.2.2.2.1).lt
    have t5 := (HV26.out.2.2.2.2.2.2).below c (HV26.out.2.2.2.2.2.2).lt
    have HV27 := Lib.hid (And.intro f (And.intro t0 (And.intro t1 (And.intro t2 (And.intro t3 (And.intro t4 t5))))))
    clear c f t0 t1 t2 t3 t4 t5
    obtain ⟨v28, hv28⟩ : ∃ V, (v27.setCell ⟨B7, 0, none⟩ (.bool bq)).setCell ⟨B7, 1, none⟩ (.string sq) = V := ⟨_, rfl⟩
    have t0 := ((HV27.out.2.1).other en4_0 (o := 0) (u := .bool bq)).other en4_0 (o := 1) (u := .string sq)
    rw [hv28] at t0
    have t1 := ((HV27.out.2.2.1).other en4_1 (o := 0) (u := .bool bq)).other en4_1 (o := 1) (u := .string sq)
    rw [hv28] at t1
    have t2 := ((HV27.out.2.2.2.1).other en4_2 (o := 0) (u := .bool bq)).other en4_2 (o := 1) (u := .string sq)
    rw [hv28] at t2
    have t3 := ((HV27.out.2.2.2.2.1).other en4_3 (o := 0) (u := .bool bq)).other en4_3 (o := 1) (u := .string sq)
    rw [hv28] at t3
    have t4 := two_set (HV27.out.2.2.2.2.2.1) (.bool bq) (.string sq)
    rw [hv28] at t4
    have t5 := ((HV27.out.2.2.2.2.2.2).other ne5_4 (o := 0) (u := .bool bq)).other ne5_4 (o := 1) (u := .string sq)
    rw [hv28] at t5
    have f := (HV27.out.1.setCell (by show w.heap.size ≤ B7; omega) (.bool bq) (p := ⟨B7, 0, none⟩)).setCell (by show w.heap.size ≤ B7; omega) (.string sq) (p := ⟨B7, 1, none⟩)
    rw [hv28] at f
    have HV28 := Lib.hid (And.intro f (And.intro t0 (And.intro t1 (And.intro t2 (And.intro t3 (And.intro t4 t5))))))
    clear f t0 t1 t2 t3 t4 t5
    have HWv28 := Lib.hid hv28
    clear hv28
    have l1 := (HV27.out.2.2.1).lt
    have m10 := (HV27.out.2.2.1).1.1
    have m11 := (HV27.out.2.2.1).2.1
    have m12 := (HV27.out.2.2.1).1.2
    have m13 := (HV27.out.2.2.1).2.2
    have l4 := (HV27.out.2.2.2.2.2.1).lt
    have m40 := (HV27.out.2.2.2.2.2.1).1.1
    have m41 := (HV27.out.2.2.2.2.2.1).2.1
    have m42 := (HV27.out.2.2.2.2.2.1).1.2
    have m43 := (HV27.out.2.2.2.2.2.1).2.2
    have l5 := (HV27.out.2.2.2.2.2.2).lt
    have m50 := (HV27.out.2.2.2.2.2.2).1.1
    have m51 := (HV27.out.2.2.2.2.2.2).2.1
    have m52 := (HV27.out.2.2.2.2.2.2).1.2
    have m53 := (HV27.out.2.2.2.2.2.2).2.2
    go_wp2_with fail
    rw [HWv28.out]
    clear l1 m10 m11 m12 m13 l4 m40 m41 m42 m43 l5 m50 m51 m52 m53
    refine (N2.out _).mono ?_
    rintro e v29 ⟨rfl, c⟩
    have f := HV28.out.1.trans (c.mono HV28.out.1.size)
    have t0 := (HV28.out.2.1).below c (HV28.out.2.1).lt
    have t1 := (HV28.out.2.2.1).below c (HV28.out.2.2.1).lt
    have t2 := (HV28.out.2.2.2.1).below c (HV28.out.2.2.2.1).lt
    have t3 := (HV28.out.2.2.2.2.1).below c (HV28.out.2.2.2.2.1).lt
    have t4 := (HV28.out.2.2.2.2.2.1).below c (HV28.out.2.2.2.2.2.1).lt
    have t5 := (HV28.out.2.2.2.2.2.2).below c (HV28.out.2.2.2.2.2.2).lt
    have HV29 := Lib.hid (And.intro f (And.intro t0 (And.intro t1 (And.intro t2 (And.intro t3 (And.intro t4 t5))))))
    clear c f t0 t1 t2 t3 t4 t5
    obtain ⟨v30, hv30⟩ : ∃ V, (v29.setCell ⟨B8, 0, none⟩ (.bool false)).setCell ⟨B8, 1, none⟩ (.string ⟨#[]⟩) = V := ⟨_, rfl⟩
    have t0 := ((HV29.out.2.1).other en5_0 (o := 0) (u := .bool false)).other en5_0 (o := 1) (u := .string ⟨#[]⟩)
    rw [hv30] at t0
    have t1 := ((HV29.out.2.2.1).other en5_1 (o := 0) (u := .bool false)).other en5_1 (o := 1) (u := .string ⟨#[]⟩)
    rw [hv30] at t1
    have t2 := ((HV29.out.2.2.2.1).other en5_2 (o := 0) (u := .bool false)).other en5_2 (o := 1) (u := .string ⟨#[]⟩)
    rw [hv30] at t2
    have t3 := ((HV29.out.2.2.2.2.1).other en5_3 (o := 0) (u := .bool false)).other en5_3 (o := 1) (u := .string ⟨#[]⟩)
    rw [hv30] at t3
    have t4 := ((HV29.out.2.2.2.2.2.1).other en5_4 (o := 0) (u := .bool false)).other en5_4 (o := 1) (u := .string ⟨#[]⟩)
    rw [hv30] at t4
    have t5 := two_set (HV29.out.2.2.2.2.2.2) (.bool false) (.string ⟨#[]⟩)
    rw [hv30] at t5
    have f := (HV29.out.1.setCell (by show w.heap.size ≤ B8; omega) (.bool false) (p := ⟨B8, 0, none⟩)).setCell (by show w.heap.size ≤ B8; omega) (.string ⟨#[]⟩) (p := ⟨B8, 1, none⟩)
    rw [hv30] at f
    have HV30 := Lib.hid (And.intro f (And.intro t0 (And.intro t1 (And.intro t2 (And.intro t3 (And.intro t4 t5))))))
    clear f t0 t1 t2 t3 t4 t5
    have HWv30 := Lib.hid hv30
    clear hv30
    have l5 := (HV29.out.2.2.2.2.2.2).lt
    have m50 := (HV29.out.2.2.2.2.2.2).1.1
    have m51 := (HV29.out.2.2.2.2.2.2).2.1
    have m52 := (HV29.out.2.2.2.2.2.2).1.2
    have m53 := (HV29.out.2.2.2.2.2.2).2.2
    go_wp2_with fail
    rw [HWv30.out]
    clear l5 m50 m51 m52 m53
    have l2 := (HV30.out.2.2.2.1).lt
    have m20 := (HV30.out.2.2.2.1).1.1
    have m21 := (HV30.out.2.2.2.1).2.1
    have m22 := (HV30.out.2.2.2.1).1.2
    have m23 := (HV30.out.2.2.2.1).2.2
    have l3 := (HV30.out.2.2.2.2.1).lt
    have m30 := (HV30.out.2.2.2.2.1).1.1
    have m31 := (HV30.out.2.2.2.2.1).2.1
    have m32 := (HV30.out.2.2.2.2.1).1.2
    have m33 := (HV30.out.2.2.2.2.1).2.2
    have l4 := (HV30.out.2.2.2.2.2.1).lt
    have m40 := (HV30.out.2.2.2.2.2.1).1.1
    have m41 := (HV30.out.2.2.2.2.2.1).2.1
    have m42 := (HV30.out.2.2.2.2.2.1).1.2
    have m43 := (HV30.out.2.2.2.2.2.1).2.2
    have l5 := (HV30.out.2.2.2.2.2.2).lt
    have m50 := (HV30.out.2.2.2.2.2.2).1.1
    have m51 := (HV30.out.2.2.2.2.2.2).2.1
    have m52 := (HV30.out.2.2.2.2.2.2).1.2
    have m53 := (HV30.out.2.2.2.2.2.2).2.2
    have d40 : v30.drew.cell? ⟨B7, 0, none⟩ = some (.bool bq) := m40
    have d41 : v30.drew.cell? ⟨B7, 1, none⟩ = some (.string sq) := m41
    have d50 : v30.drew.cell? ⟨B8, 0, none⟩ = some (.bool false) := m50
    have d51 : v30.drew.cell? ⟨B8, 1, none⟩ = some (.string ⟨#[]⟩) := m51
    go_region_held3 (fun w' => w'.cell? ⟨B7, 0, none⟩ = some (.bool bq) ∧ w'.cell? ⟨B7, 1, none⟩ = some (.string sq) ∧ w'.cell? ⟨B8, 0, none⟩ = some (.bool false) ∧ w'.cell? ⟨B8, 1, none⟩ = some (.string ⟨#[]⟩)) (simp only [cell_drewD, cell_setO ne4_2, cell_setO ne5_2, cell_setO ne4_3, cell_setO ne5_3, m40, m41, m50, m51, and_self]) (fail)
    have x2 := HV30.out.2.2.2.1
    have x3 := HV30.out.2.2.2.2.1
    have z2 := ((two_set x2 (.bool bq) (.string sq)).other (B' := w.heap.size + 1 + 1 + 1) (o := 0) (u := .bool false) (by omega)).other (B' := w.heap.size + 1 + 1 + 1) (o := 1) (u := .string ⟨#[]⟩) (by omega)
    have z3 := two_set ((x3.other (B' := w.heap.size + 1 + 1) (o := 0) (u := .bool bq) (by omega)).other (B' := w.heap.size + 1 + 1) (o := 1) (u := .string sq) (by omega)) (.bool false) (.string ⟨#[]⟩)
    have f := ((((HV30.out.1.setCell (p := ⟨w.heap.size + 1 + 1, 0, none⟩) (by show w.heap.size ≤ w.heap.size + 1 + 1; omega) (.bool bq)).setCell (p := ⟨w.heap.size + 1 + 1, 1, none⟩) (by show w.heap.size ≤ w.heap.size + 1 + 1; omega) (.string sq)).setCell (p := ⟨w.heap.size + 1 + 1 + 1, 0, none⟩) (by show w.heap.size ≤ w.heap.size + 1 + 1 + 1; omega) (.bool false)).setCell (p := ⟨w.heap.size + 1 + 1 + 1, 1, none⟩) (by show w.heap.size ≤ w.heap.size + 1 + 1 + 1; omega) (.string ⟨#[]⟩)).drew
    obtain ⟨WF, hWF⟩ : ∃ V, ((((v30.setCell ⟨w.heap.size + 1 + 1, 0, none⟩ (.bool bq)).setCell ⟨w.heap.size + 1 + 1, 1, none⟩ (.string sq)).setCell ⟨w.heap.size + 1 + 1 + 1, 0, none⟩ (.bool false)).setCell ⟨w.heap.size + 1 + 1 + 1, 1, none⟩ (.string ⟨#[]⟩)).drew = V := ⟨_, rfl⟩
    have zz2 : Two (w.heap.size + 1 + 1) (.bool bq) (.string sq) WF := by rw [← hWF]; exact z2
    have zz3 : Two (w.heap.size + 1 + 1 + 1) (.bool false) (.string ⟨#[]⟩) WF := by rw [← hWF]; exact z3
    rw [hWF] at f
    rw [hWF]
    have y0 := zz2.1.1
    have y1 := zz2.2.1
    have y2 := zz3.1.1
    have y3 := zz3.2.1
    have HF := Lib.hid f
    clear hWF zz2 zz3
    clear x2 x3 z2 z3 f
    clear l2 m20 m21 m22 m23 l3 m30 m31 m32 m33 l4 m40 m41 m42 m43 l5 m50 m51 m52 m53
    clear d40 d41 d50 d51
    go_wp2_with fail
    refine bodyPost_ret (v := .tuple #[.agg #[.bool bq, .string sq], .agg #[.bool false, .string ⟨#[]⟩], .int .i64 0]) (by simp [results, Tryz.results35, go_sem, y0, y1, y2, y3]) rfl ⟨rfl, HF.out⟩
   ·clear h8 hi0
    have l0 := (HS1.out.2.1).lt
    have m00 := (HS1.out.2.1).1.1
    have m01 := (HS1.out.2.1).2.1
    have l1 := (HS1.out.2.2.1).lt
    have m10 := (HS1.out.2.2.1).1.1
    have m11 := (HS1.out.2.2.1).2.1
    have l2 := (HS1.out.2.2.2.1).lt
    have m20 := (HS1.out.2.2.2.1).1.1
    have m21 := (HS1.out.2.2.2.1).2.1
    have l3 := (HS1.out.2.2.2.2).lt
    have m30 := (HS1.out.2.2.2.2).1.1
    have m31 := (HS1.out.2.2.2.2).2.1
    go_wp2_with fail
    clear l0 m00 m01 l1 m10 m11 l2 m20 m21 l3 m30 m31
    obtain ⟨w2, hw2⟩ : ∃ V, ((wc.alloc (Obj.cells #[Value.bool false, Value.string ⟨#[]⟩] 23)).alloc (Obj.cells #[Value.bool false, Value.string ⟨#[]⟩] 23)) = V := ⟨_, rfl⟩
    obtain ⟨B7, hB7⟩ : ∃ B, wc.heap.size = B := ⟨_, rfl⟩
    obtain ⟨B8, hB8⟩ : ∃ B, B7 + 1 = B := ⟨_, rfl⟩
    have bw2 : Below wc.heap.size wc w2 := by rw [← hw2]; exact (((Below.refl _ _).alloc (Nat.le_refl _) _).alloc (by simp) _)
    have tB7 : Two B7 (.bool false) (.string ⟨#[]⟩) w2 := by
     rw [← hw2, ← hB7]
     have h := two_new wc (.bool false) (.string ⟨#[]⟩) 23
     (try simp only [World.size_alloc] at h)
     exact h.below (B0 := wc.heap.size + 1) ((Below.refl _ _).alloc (by simp) _) (by omega)
    have tB8 : Two B8 (.bool false) (.string ⟨#[]⟩) w2 := by
     rw [← hw2, ← hB8, ← hB7]
     have h := two_new (wc.alloc (Obj.cells #[Value.bool false, Value.string ⟨#[]⟩] 23)) (.bool false) (.string ⟨#[]⟩) 23
     (try simp only [World.size_alloc] at h)
     exact h
    have hszw2 : wc.heap.size ≤ B7 := by omega
    rw [hw2, hB7, hB8]
    have f := HS1.out.1.trans (bw2.mono HS1.out.1.size)
    have t0 := (HS1.out.2.1).below bw2 (HS1.out.2.1).lt
    have t1 := (HS1.out.2.2.1).below bw2 (HS1.out.2.2.1).lt
    have t2 := (HS1.out.2.2.2.1).below bw2 (HS1.out.2.2.2.1).lt
    have t3 := (HS1.out.2.2.2.2).below bw2 (HS1.out.2.2.2.2).lt
    have ne4_0 : B7 ≠ w.heap.size := by have := (HS1.out.2.1).lt; omega
    have en4_0 : w.heap.size ≠ B7 := fun e => ne4_0 e.symm
    have ne5_0 : B8 ≠ w.heap.size := by have := (HS1.out.2.1).lt; omega
    have en5_0 : w.heap.size ≠ B8 := fun e => ne5_0 e.symm
    have ne4_1 : B7 ≠ w.heap.size + 1 := by have := (HS1.out.2.2.1).lt; omega
    have en4_1 : w.heap.size + 1 ≠ B7 := fun e => ne4_1 e.symm
    have ne5_1 : B8 ≠ w.heap.size + 1 := by have := (HS1.out.2.2.1).lt; omega
    have en5_1 : w.heap.size + 1 ≠ B8 := fun e => ne5_1 e.symm
    have ne4_2 : B7 ≠ w.heap.size + 1 + 1 := by have := (HS1.out.2.2.2.1).lt; omega
    have en4_2 : w.heap.size + 1 + 1 ≠ B7 := fun e => ne4_2 e.symm
    have ne5_2 : B8 ≠ w.heap.size + 1 + 1 := by have := (HS1.out.2.2.2.1).lt; omega
    have en5_2 : w.heap.size + 1 + 1 ≠ B8 := fun e => ne5_2 e.symm
    have ne4_3 : B7 ≠ w.heap.size + 1 + 1 + 1 := by have := (HS1.out.2.2.2.2).lt; omega
    have en4_3 : w.heap.size + 1 + 1 + 1 ≠ B7 := fun e => ne4_3 e.symm
    have ne5_3 : B8 ≠ w.heap.size + 1 + 1 + 1 := by have := (HS1.out.2.2.2.2).lt; omega
    have en5_3 : w.heap.size + 1 + 1 + 1 ≠ B8 := fun e => ne5_3 e.symm
    have ne5_4 : B8 ≠ B7 := by omega
    have en5_4 : B7 ≠ B8 := by omega
    have geB7 : w.heap.size ≤ B7 := by have := HS1.out.1.size; omega
    have geB8 : w.heap.size ≤ B8 := by have := HS1.out.1.size; omega
    have HS2 := Lib.hid (And.intro f (And.intro t0 (And.intro t1 (And.intro t2 (And.intro t3 (And.intro tB7 tB8))))))
    clear f hw2 bw2 hszw2 t0 t1 t2 t3 tB7 tB8 hB8 hB7
    refine (DM.out _).mono ?_
    rintro e v31 ⟨rfl, c⟩
    have f := HS2.out.1.trans (c.mono HS2.out.1.size)
    have t0 := (HS2.out.2.1).below c (HS2.out.2.1).lt
    have t1 := (HS2.out.2.2.1).below c (HS2.out.2.2.1).lt
    have t2 := (HS2.out.2.2.2.1).below c (HS2.out.2.2.2.1).lt
    have t3 := (HS2.out.2.2.2.2.1).below c (HS2.out.2.2.2.2.1).lt
    have t4 := (HS2.out.2.2.2.2.2.1).below c (HS2.out.2.2.2.2.2.1).lt
    have t5 := (HS2.out.2.2.2.2.2.2).below c (HS2.out.2.2.2.2.2.2).lt
    have HV31 := Lib.hid (And.intro f (And.intro t0 (And.intro t1 (And.intro t2 (And.intro t3 (And.intro t4 t5))))))
    clear c f t0 t1 t2 t3 t4 t5
    obtain ⟨v32, hv32⟩ : ∃ V, (v31.setCell ⟨B7, 0, none⟩ (.bool false)).setCell ⟨B7, 1, none⟩ (.string SQ) = V := ⟨_, rfl⟩
    have t0 := ((HV31.out.2.1).other en4_0 (o := 0) (u := .bool false)).other en4_0 (o := 1) (u := .string SQ)
    rw [hv32] at t0
    have t1 := ((HV31.out.2.2.1).other en4_1 (o := 0) (u := .bool false)).other en4_1 (o := 1) (u := .string SQ)
    rw [hv32] at t1
    have t2 := ((HV31.out.2.2.2.1).other en4_2 (o := 0) (u := .bool false)).other en4_2 (o := 1) (u := .string SQ)
    rw [hv32] at t2
    have t3 := ((HV31.out.2.2.2.2.1).other en4_3 (o := 0) (u := .bool false)).other en4_3 (o := 1) (u := .string SQ)
    rw [hv32] at t3
    have t4 := two_set (HV31.out.2.2.2.2.2.1) (.bool false) (.string SQ)
    rw [hv32] at t4
    have t5 := ((HV31.out.2.2.2.2.2.2).other ne5_4 (o := 0) (u := .bool false)).other ne5_4 (o := 1) (u := .string SQ)
    rw [hv32] at t5
    have f := (HV31.out.1.setCell (by show w.heap.size ≤ B7; omega) (.bool false) (p := ⟨B7, 0, none⟩)).setCell (by show w.heap.size ≤ B7; omega) (.string SQ) (p := ⟨B7, 1, none⟩)
    rw [hv32] at f
    have HV32 := Lib.hid (And.intro f (And.intro t0 (And.intro t1 (And.intro t2 (And.intro t3 (And.intro t4 t5))))))
    clear f t0 t1 t2 t3 t4 t5
    have HWv32 := Lib.hid hv32
    clear hv32
    obtain ⟨v33, hv33⟩ : ∃ V, (v32.setCell ⟨B8, 0, none⟩ (.bool false)).setCell ⟨B8, 1, none⟩ (.string ⟨#[]⟩) = V := ⟨_, rfl⟩
    have t0 := ((HV32.out.2.1).other en5_0 (o := 0) (u := .bool false)).other en5_0 (o := 1) (u := .string ⟨#[]⟩)
    rw [hv33] at t0
    have t1 := ((HV32.out.2.2.1).other en5_1 (o := 0) (u := .bool false)).other en5_1 (o := 1) (u := .string ⟨#[]⟩)
    rw [hv33] at t1
    have t2 := ((HV32.out.2.2.2.1).other en5_2 (o := 0) (u := .bool false)).other en5_2 (o := 1) (u := .string ⟨#[]⟩)
    rw [hv33] at t2
    have t3 := ((HV32.out.2.2.2.2.1).other en5_3 (o := 0) (u := .bool false)).other en5_3 (o := 1) (u := .string ⟨#[]⟩)
    rw [hv33] at t3
    have t4 := ((HV32.out.2.2.2.2.2.1).other en5_4 (o := 0) (u := .bool false)).other en5_4 (o := 1) (u := .string ⟨#[]⟩)
    rw [hv33] at t4
    have t5 := two_set (HV32.out.2.2.2.2.2.2) (.bool false) (.string ⟨#[]⟩)
    rw [hv33] at t5
    have f := (HV32.out.1.setCell (by show w.heap.size ≤ B8; omega) (.bool false) (p := ⟨B8, 0, none⟩)).setCell (by show w.heap.size ≤ B8; omega) (.string ⟨#[]⟩) (p := ⟨B8, 1, none⟩)
    rw [hv33] at f
    have HV33 := Lib.hid (And.intro f (And.intro t0 (And.intro t1 (And.intro t2 (And.intro t3 (And.intro t4 t5))))))
    clear f t0 t1 t2 t3 t4 t5
    have HWv33 := Lib.hid hv33
    clear hv33
    have HWx := Lib.hid (show _ = v33 from (congrArg (fun V => (World.setCell (World.setCell V ⟨B8, 0, none⟩ (.bool false)) ⟨B8, 1, none⟩ (.string ⟨#[]⟩))) HWv32.out).trans HWv33.out)
    have l0 := (HV31.out.2.1).lt
    have m00 := (HV31.out.2.1).1.1
    have m01 := (HV31.out.2.1).2.1
    have m02 := (HV31.out.2.1).1.2
    have m03 := (HV31.out.2.1).2.2
    have l1 := (HV31.out.2.2.1).lt
    have m10 := (HV31.out.2.2.1).1.1
    have m11 := (HV31.out.2.2.1).2.1
    have m12 := (HV31.out.2.2.1).1.2
    have m13 := (HV31.out.2.2.1).2.2
    have l4 := (HV31.out.2.2.2.2.2.1).lt
    have m40 := (HV31.out.2.2.2.2.2.1).1.1
    have m41 := (HV31.out.2.2.2.2.2.1).2.1
    have m42 := (HV31.out.2.2.2.2.2.1).1.2
    have m43 := (HV31.out.2.2.2.2.2.1).2.2
    have l5 := (HV31.out.2.2.2.2.2.2).lt
    have m50 := (HV31.out.2.2.2.2.2.2).1.1
    have m51 := (HV31.out.2.2.2.2.2.2).2.1
    have m52 := (HV31.out.2.2.2.2.2.2).1.2
    have m53 := (HV31.out.2.2.2.2.2.2).2.2
    go_wp2_with fail
    rw [HWx.out]
    clear l0 m00 m01 m02 m03 l1 m10 m11 m12 m13 l4 m40 m41 m42 m43 l5 m50 m51 m52 m53
    refine (N1.out _).mono ?_
    rintro e v34 ⟨rfl, c⟩
    have f := HV33.out.1.trans (c.mono HV33.out.1.size)
    have t0 := (HV33.out.2.1).below c (HV33.out.2.1).lt
    have t1 := (HV33.out.2.2.1).below c (HV33.out.2.2.1).lt
    have t2 := (HV33.out.2.2.2.1).below c (HV33.out.2.2.2.1).lt
    have t3 := (HV33.out.2.2.2.2.1).below c (HV33.out.2.2.2.2.1).lt
    have t4 := (HV33.out.2.2.2.2.2.1).below c (HV33.out.2.2.2.2.2.1).lt
    have t5 := (HV33.out.2.2.2.2.2.2).below c (HV33.out.2.2.2.2.2.2).lt
    have HV34 := Lib.hid (And.intro f (And.intro t0 (And.intro t1 (And.intro t2 (And.intro t3 (And.intro t4 t5))))))
    clear c f t0 t1 t2 t3 t4 t5
    obtain ⟨v35, hv35⟩ : ∃ V, (v34.setCell ⟨B7, 0, none⟩ (.bool bq)).setCell ⟨B7, 1, none⟩ (.string sq) = V := ⟨_, rfl⟩
    have t0 := ((HV34.out.2.1).other en4_0 (o := 0) (u := .bool bq)).other en4_0 (o := 1) (u := .string sq)
    rw [hv35] at t0
    have t1 := ((HV34.out.2.2.1).other en4_1 (o := 0) (u := .bool bq)).other en4_1 (o := 1) (u := .string sq)
    rw [hv35] at t1
    have t2 := ((HV34.out.2.2.2.1).other en4_2 (o := 0) (u := .bool bq)).other en4_2 (o := 1) (u := .string sq)
    rw [hv35] at t2
    have t3 := ((HV34.out.2.2.2.2.1).other en4_3 (o := 0) (u := .bool bq)).other en4_3 (o := 1) (u := .string sq)
    rw [hv35] at t3
    have t4 := two_set (HV34.out.2.2.2.2.2.1) (.bool bq) (.string sq)
    rw [hv35] at t4
    have t5 := ((HV34.out.2.2.2.2.2.2).other ne5_4 (o := 0) (u := .bool bq)).other ne5_4 (o := 1) (u := .string sq)
    rw [hv35] at t5
    have f := (HV34.out.1.setCell (by show w.heap.size ≤ B7; omega) (.bool bq) (p := ⟨B7, 0, none⟩)).setCell (by show w.heap.size ≤ B7; omega) (.string sq) (p := ⟨B7, 1, none⟩)
    rw [hv35] at f
    have HV35 := Lib.hid (And.intro f (And.intro t0 (And.intro t1 (And.intro t2 (And.intro t3 (And.intro t4 t5))))))
    clear f t0 t1 t2 t3 t4 t5
    have HWv35 := Lib.hid hv35
    clear hv35
    have l1 := (HV34.out.2.2.1).lt
    have m10 := (HV34.out.2.2.1).1.1
    have m11 := (HV34.out.2.2.1).2.1
    have m12 := (HV34.out.2.2.1).1.2
    have m13 := (HV34.out.2.2.1).2.2
    have l4 := (HV34.out.2.2.2.2.2.1).lt
    have m40 := (HV34.out.2.2.2.2.2.1).1.1
    have m41 := (HV34.out.2.2.2.2.2.1).2.1
    have m42 := (HV34.out.2.2.2.2.2.1).1.2
    have m43 := (HV34.out.2.2.2.2.2.1).2.2
    have l5 := (HV34.out.2.2.2.2.2.2).lt
    have m50 := (HV34.out.2.2.2.2.2.2).1.1
    have m51 := (HV34.out.2.2.2.2.2.2).2.1
    have m52 := (HV34.out.2.2.2.2.2.2).1.2
    have m53 := (HV34.out.2.2.2.2.2.2).2.2
    go_wp2_with fail
    rw [HWv35.out]
    clear l1 m10 m11 m12 m13 l4 m40 m41 m42 m43 l5 m50 m51 m52 m53
    refine (N2.out _).mono ?_
    rintro e v36 ⟨rfl, c⟩
    have f := HV35.out.1.trans (c.mono HV35.out.1.size)
    have t0 := (HV35.out.2.1).below c (HV35.out.2.1).lt
    have t1 := (HV35.out.2.2.1).below c (HV35.out.2.2.1).lt
    have t2 := (HV35.out.2.2.2.1).below c (HV35.out.2.2.2.1).lt
    have t3 := (HV35.out.2.2.2.2.1).below c (HV35.out.2.2.2.2.1).lt
    have t4 := (HV35.out.2.2.2.2.2.1).below c (HV35.out.2.2.2.2.2.1).lt
    have t5 := (HV35.out.2.2.2.2.2.2).below c (HV35.out.2.2.2.2.2.2).lt
    have HV36 := Lib.hid (And.intro f (And.intro t0 (And.intro t1 (And.intro t2 (And.intro t3 (And.intro t4 t5))))))
    clear c f t0 t1 t2 t3 t4 t5
    obtain ⟨v37, hv37⟩ : ∃ V, (v36.setCell ⟨B8, 0, none⟩ (.bool false)).setCell ⟨B8, 1, none⟩ (.string ⟨#[]⟩) = V := ⟨_, rfl⟩
    have t0 := ((HV36.out.2.1).other en5_0 (o := 0) (u := .bool false)).other en5_0 (o := 1) (u := .string ⟨#[]⟩)
    rw [hv37] at t0
    have t1 := ((HV36.out.2.2.1).other en5_1 (o := 0) (u := .bool false)).other en5_1 (o := 1) (u := .string ⟨#[]⟩)
    rw [hv37] at t1
    have t2 := ((HV36.out.2.2.2.1).other en5_2 (o := 0) (u := .bool false)).other en5_2 (o := 1) (u := .string ⟨#[]⟩)
    rw [hv37] at t2
    have t3 := ((HV36.out.2.2.2.2.1).other en5_3 (o := 0) (u := .bool false)).other en5_3 (o := 1) (u := .string ⟨#[]⟩)
    rw [hv37] at t3
    have t4 := ((HV36.out.2.2.2.2.2.1).other en5_4 (o := 0) (u := .bool false)).other en5_4 (o := 1) (u := .string ⟨#[]⟩)
    rw [hv37] at t4
    have t5 := two_set (HV36.out.2.2.2.2.2.2) (.bool false) (.string ⟨#[]⟩)
    rw [hv37] at t5
    have f := (HV36.out.1.setCell (by show w.heap.size ≤ B8; omega) (.bool false) (p := ⟨B8, 0, none⟩)).setCell (by show w.heap.size ≤ B8; omega) (.string ⟨#[]⟩) (p := ⟨B8, 1, none⟩)
    rw [hv37] at f
    have HV37 := Lib.hid (And.intro f (And.intro t0 (And.intro t1 (And.intro t2 (And.intro t3 (And.intro t4 t5))))))
    clear f t0 t1 t2 t3 t4 t5
    have HWv37 := Lib.hid hv37
    clear hv37
    have l5 := (HV36.out.2.2.2.2.2.2).lt
    have m50 := (HV36.out.2.2.2.2.2.2).1.1
    have m51 := (HV36.out.2.2.2.2.2.2).2.1
    have m52 := (HV36.out.2.2.2.2.2.2).1.2
    have m53 := (HV36.out.2.2.2.2.2.2).2.2
    go_wp2_with fail
    rw [HWv37.out]
    clear l5 m50 m51 m52 m53
    have l2 := (HV37.out.2.2.2.1).lt
    have m20 := (HV37.out.2.2.2.1).1.1
    have m21 := (HV37.out.2.2.2.1).2.1
    have m22 := (HV37.out.2.2.2.1).1.2
    have m23 := (HV37.out.2.2.2.1).2.2
    have l3 := (HV37.out.2.2.2.2.1).lt
    have m30 := (HV37.out.2.2.2.2.1).1.1
    have m31 := (HV37.out.2.2.2.2.1).2.1
    have m32 := (HV37.out.2.2.2.2.1).1.2
    have m33 := (HV37.out.2.2.2.2.1).2.2
    have l4 := (HV37.out.2.2.2.2.2.1).lt
    have m40 := (HV37.out.2.2.2.2.2.1).1.1
    have m41 := (HV37.out.2.2.2.2.2.1).2.1
    have m42 := (HV37.out.2.2.2.2.2.1).1.2
    have m43 := (HV37.out.2.2.2.2.2.1).2.2
    have l5 := (HV37.out.2.2.2.2.2.2).lt
    have m50 := (HV37.out.2.2.2.2.2.2).1.1
    have m51 := (HV37.out.2.2.2.2.2.2).2.1
    have m52 := (HV37.out.2.2.2.2.2.2).1.2
    have m53 := (HV37.out.2.2.2.2.2.2).2.2
    have d40 : v37.drew.cell? ⟨B7, 0, none⟩ = some (.bool bq) := m40
    have d41 : v37.drew.cell? ⟨B7, 1, none⟩ = some (.string sq) := m41
    have d50 : v37.drew.cell? ⟨B8, 0, none⟩ = some (.bool false) := m50
    have d51 : v37.drew.cell? ⟨B8, 1, none⟩ = some (.string ⟨#[]⟩) := m51
    go_region_held3 (fun w' => w'.cell? ⟨B7, 0, none⟩ = some (.bool bq) ∧ w'.cell? ⟨B7, 1, none⟩ = some (.string sq) ∧ w'.cell? ⟨B8, 0, none⟩ = some (.bool false) ∧ w'.cell? ⟨B8, 1, none⟩ = some (.string ⟨#[]⟩)) (simp only [cell_drewD, cell_setO ne4_2, cell_setO ne5_2, cell_setO ne4_3, cell_setO ne5_3, m40, m41, m50, m51, and_self]) (fail)
    have x2 := HV37.out.2.2.2.1
    have x3 := HV37.out.2.2.2.2.1
    have z2 := ((two_set x2 (.bool bq) (.string sq)).other (B' := w.heap.size + 1 + 1 + 1) (o := 0) (u := .bool false) (by omega)).other (B' := w.heap.size + 1 + 1 + 1) (o := 1) (u := .string ⟨#[]⟩) (by omega)
    have z3 := two_set ((x3.other (B' := w.heap.size + 1 + 1) (o := 0) (u := .bool bq) (by omega)).other (B' := w.heap.size + 1 + 1) (o := 1) (u := .string sq) (by omega)) (.bool false) (.string ⟨#[]⟩)
    have f := ((((HV37.out.1.setCell (p := ⟨w.heap.size + 1 + 1, 0, none⟩) (by show w.heap.size ≤ w.heap.size + 1 + 1; omega) (.bool bq)).setCell (p := ⟨w.heap.size + 1 + 1, 1, none⟩) (by show w.heap.size ≤ w.heap.size + 1 + 1; omega) (.string sq)).setCell (p := ⟨w.heap.size + 1 + 1 + 1, 0, none⟩) (by show w.heap.size ≤ w.heap.size + 1 + 1 + 1; omega) (.bool false)).setCell (p := ⟨w.heap.size + 1 + 1 + 1, 1, none⟩) (by show w.heap.size ≤ w.heap.size + 1 + 1 + 1; omega) (.string ⟨#[]⟩)).drew
    obtain ⟨WF, hWF⟩ : ∃ V, ((((v37.setCell ⟨w.heap.size + 1 + 1, 0, none⟩ (.bool bq)).setCell ⟨w.heap.size + 1 + 1, 1, none⟩ (.string sq)).setCell ⟨w.heap.size + 1 + 1 + 1, 0, none⟩ (.bool false)).setCell ⟨w.heap.size + 1 + 1 + 1, 1, none⟩ (.string ⟨#[]⟩)).drew = V := ⟨_, rfl⟩
    have zz2 : Two (w.heap.size + 1 + 1) (.bool bq) (.string sq) WF := by rw [← hWF]; exact z2
    have zz3 : Two (w.heap.size + 1 + 1 + 1) (.bool false) (.string ⟨#[]⟩) WF := by rw [← hWF]; exact z3
    rw [hWF] at f
    rw [hWF]
    have y0 := zz2.1.1
    have y1 := zz2.2.1
    have y2 := zz3.1.1
    have y3 := zz3.2.1
    have HF := Lib.hid f
    clear hWF zz2 zz3
    clear x2 x3 z2 z3 f
    clear l2 m20 m21 m22 m23 l3 m30 m31 m32 m33 l4 m40 m41 m42 m43 l5 m50 m51 m52 m53
    clear d40 d41 d50 d51
    go_wp2_with fail
    refine bodyPost_ret (v := .tuple #[.agg #[.bool bq, .string sq], .agg #[.bool false, .string ⟨#[]⟩], .int .i64 0]) (by simp [results, Tryz.results35, go_sem, y0, y1, y2, y3]) rfl ⟨rfl, HF.out⟩

end Go.Proofs.YtajollhpimfefaaGreatDoor
