/- The walk of narrowslaw02.RationalField. -/
import Derived.Test.YtpdhffjdgnpikaaGreatDoorROrder
import Derived.Test.YtpdhffjdgnpikaaGreatDoorInv
namespace Go.Proofs.YtpdhffjdgnpikaaGreatDoor
open Go.RowKit Go.Shelf

theorem neq_ratF (n n' : Bool) (s s' t t' : ByteArray) (w : World) :
  (binOp .neq 25 (.agg #[.bool n, .string s, .string t]) (.agg #[.bool n', .string s', .string t'])).run Tryz.prog w = .ok (.bool (!eqR n s t n' s' t')) w := by
 rw [run_neq_struct, eqIn_rat]; rfl
theorem eqR_same (n : Bool) (s t : ByteArray) : eqR n s t n s t = true := by rw [eqR_iff]; simp
set_option maxHeartbeats 16000000 in
set_option maxRecDepth 100000 in
theorem field_great (na nb nc : Bool) (sa ta sb tb sc tc : ByteArray)  (w : World) (htab : Tab w) (hsz : ∀ p ∈ ([(na, sa, ta), (nb, sb, tb), (nc, sc, tc)] : List (Bool × ByteArray × ByteArray)), p.2.1.size ≤ 9223372036854775807 ∧ p.2.2.size ≤ 9223372036854775807) (hg : ([(na, sa, ta), (nb, sb, tb), (nc, sc, tc)] : List (Bool × ByteArray × ByteArray)).any grt = true)
  (ca : ∀ W : World, Tab W → Calls Tryz.prog 14 #[] W fun e w' => e = .returned (.bool true) ∧ Below W.heap.size W w') :
  Calls Tryz.prog 7 #[.agg #[.bool na, .string sa, .string ta], .agg #[.bool nb, .string sb, .string tb], .agg #[.bool nc, .string sc, .string tc]] w fun e w' => e = .returned (.bool true) ∧ Below w.heap.size w w' := by
 have HT := Lib.hid htab
 have HG := Lib.hid hg
 have RA := Lib.hid ca
 have HS := Lib.hid hsz
 clear htab hg ca hsz
 go_enter Tryz.func7, Tryz.ntmps7
 go_wp2_with fail
 obtain ⟨W0, hW0⟩ : ∃ V, ((((w.alloc (Obj.cells #[Value.bool na, Value.string sa, Value.string ta] 25)).alloc (Obj.cells #[Value.bool nb, Value.string sb, Value.string tb] 25)).alloc (Obj.cells #[Value.bool nc, Value.string sc, Value.string tc] 25)).alloc (Obj.cells #[Value.bool na, Value.string sa, Value.string ta, Value.bool nb, Value.string sb, Value.string tb, Value.bool nc, Value.string sc, Value.string tc] 25)) = V := ⟨_, rfl⟩
 have sW0 : W0.heap.size = w.heap.size + 1 + 1 + 1 + 1 := by rw [← hW0]; simp
 have k0 : Cells (w.heap.size) [.bool na, .string sa, .string ta] W0 := by
  rw [← hW0]
  have h := cells_new w #[.bool na, .string sa, .string ta] 25
  exact (((h.alloc (by simp; try omega) _).alloc (by simp; try omega) _).alloc (by simp; try omega) _)
 have k1 : Cells (w.heap.size + 1) [.bool nb, .string sb, .string tb] W0 := by
  rw [← hW0]
  have h := cells_new (w.alloc (Obj.cells #[Value.bool na, Value.string sa, Value.string ta] 25)) #[.bool nb, .string sb, .string tb] 25
  simp only [World.size_alloc] at h
  exact ((h.alloc (by simp; try omega) _).alloc (by simp; try omega) _)
 have k2 : Cells (w.heap.size + 1 + 1) [.bool nc, .string sc, .string tc] W0 := by
  rw [← hW0]
  have h := cells_new ((w.alloc (Obj.cells #[Value.bool na, Value.string sa, Value.string ta] 25)).alloc (Obj.cells #[Value.bool nb, Value.string sb, Value.string tb] 25)) #[.bool nc, .string sc, .string tc] 25
  simp only [World.size_alloc] at h
  exact (h.alloc (by simp; try omega) _)
 have k3 : Cells (w.heap.size + 1 + 1 + 1) [.bool na, .string sa, .string ta, .bool nb, .string sb, .string tb, .bool nc, .string sc, .string tc] W0 := by
  rw [← hW0]
  have h := cells_new (((w.alloc (Obj.cells #[Value.bool na, Value.string sa, Value.string ta] 25)).alloc (Obj.cells #[Value.bool nb, Value.string sb, Value.string tb] 25)).alloc (Obj.cells #[Value.bool nc, Value.string sc, Value.string tc] 25)) #[.bool na, .string sa, .string ta, .bool nb, .string sb, .string tb, .bool nc, .string sc, .string tc] 25
  simp only [World.size_alloc] at h
  exact h
 have bW0 : Below w.heap.size w W0 := by
  rw [← hW0]
  exact (((((Below.refl _ _).alloc (Nat.le_refl _) _).alloc (by simp; try omega) _).alloc (by simp; try omega) _).alloc (by simp; try omega) _)
 rw [hW0]
 clear hW0
 have hgr := rgreat_any _ [(na, sa, ta), (nb, sb, tb), (nc, sc, tc)] W0 (rowR_cells3 k3) k3.lt (by show 3 ≤ 1000; omega) HS.out
 rw [HG.out] at hgr
 have HGR := Lib.hid hgr
 clear hgr
 have HS0 := Lib.hid (And.intro bW0 (And.intro k0 (And.intro k1 (And.intro k2 k3))))
 clear bW0 k0 k1 k2 k3
 refine (HGR.out).mono ?_
 rintro e wg ⟨rfl, c⟩
 have f := HS0.out.1.trans (c.mono HS0.out.1.size)
 have t0 := (HS0.out.2.1).below c (HS0.out.2.1).lt
 have t1 := (HS0.out.2.2.1).below c (HS0.out.2.2.1).lt
 have t2 := (HS0.out.2.2.2.1).below c (HS0.out.2.2.2.1).lt
 have t3 := (HS0.out.2.2.2.2).below c (HS0.out.2.2.2.2).lt
 have HS1 := Lib.hid (And.intro f (And.intro t0 (And.intro t1 (And.intro t2 t3))))
 clear c f t0 t1 t2 t3
 go_wp2_with fail
 refine (RA.out _ (tab_of HT.out HS1.out.1)).mono ?_
 rintro e wh ⟨rfl, c⟩
 have HF := Lib.hid (HS1.out.1.trans (c.mono HS1.out.1.size))
 clear c
 go_wp2_with fail
 go_ret
 exact ⟨rfl, HF.out⟩

set_option maxHeartbeats 16000000 in
set_option maxRecDepth 100000 in
theorem field_none (na nb nc : Bool) (sa ta sb tb sc tc : ByteArray) (nd ne nf ng nh ni nj nk nm ny : Bool) (sd td se te sf tf sg tg sh th si ti sj tj sk tk sm tm sy ty : ByteArray) (w : World) (htab : Tab w) (hsz : ∀ p ∈ ([(na, sa, ta), (nb, sb, tb), (nc, sc, tc)] : List (Bool × ByteArray × ByteArray)), p.2.1.size ≤ 9223372036854775807 ∧ p.2.2.size ≤ 9223372036854775807) (hg : ([(na, sa, ta), (nb, sb, tb), (nc, sc, tc)] : List (Bool × ByteArray × ByteArray)).any grt = false)
  (ca : ∀ W : World, Tab W → Calls Tryz.prog 14 #[] W fun e w' => e = .returned (.bool true) ∧ Below W.heap.size W w')
  (cs1 : ∀ W : World, Calls Tryz.prog 29 #[.agg #[.bool na, .string sa, .string ta], .agg #[.bool nb, .string sb, .string tb]] W fun e w' => e = .returned (.agg #[.bool nd, .string sd, .string td]) ∧ Below W.heap.size W w')
  (cs2 : ∀ W : World, Calls Tryz.prog 29 #[.agg #[.bool nb, .string sb, .string tb], .agg #[.bool na, .string sa, .string ta]] W fun e w' => e = .returned (.agg #[.bool nd, .string sd, .string td]) ∧ Below W.heap.size W w')
  (cp1 : ∀ W : World, Calls Tryz.prog 33 #[.agg #[.bool na, .string sa, .string ta], .agg #[.bool nb, .string sb, .string tb]] W fun e w' => e = .returned (.agg #[.bool ne, .string se, .string te]) ∧ Below W.heap.size W w')
  (cp2 : ∀ W : World, Calls Tryz.prog 33 #[.agg #[.bool nb, .string sb, .string tb], .agg #[.bool na, .string sa, .string ta]] W fun e w' => e = .returned (.agg #[.bool ne, .string se, .string te]) ∧ Below W.heap.size W w')
  (ct1 : ∀ W : World, Calls Tryz.prog 29 #[.agg #[.bool nd, .string sd, .string td], .agg #[.bool nc, .string sc, .string tc]] W fun e w' => e = .returned (.agg #[.bool nf, .string sf, .string tf]) ∧ Below W.heap.size W w')
  (cu1 : ∀ W : World, Calls Tryz.prog 29 #[.agg #[.bool nb, .string sb, .string tb], .agg #[.bool nc, .string sc, .string tc]] W fun e w' => e = .returned (.agg #[.bool ng, .string sg, .string tg]) ∧ Below W.heap.size W w')
  (ct2 : ∀ W : World, Calls Tryz.prog 29 #[.agg #[.bool na, .string sa, .string ta], .agg #[.bool ng, .string sg, .string tg]] W fun e w' => e = .returned (.agg #[.bool nf, .string sf, .string tf]) ∧ Below W.heap.size W w')
  (cq1 : ∀ W : World, Calls Tryz.prog 33 #[.agg #[.bool ne, .string se, .string te], .agg #[.bool nc, .string sc, .string tc]] W fun e w' => e = .returned (.agg #[.bool nh, .string sh, .string th]) ∧ Below W.heap.size W w')
  (cx1 : ∀ W : World, Calls Tryz.prog 33 #[.agg #[.bool nb, .string sb, .string tb], .agg #[.bool nc, .string sc, .string tc]] W fun e w' => e = .returned (.agg #[.bool ni, .string si, .string ti]) ∧ Below W.heap.size W w')
  (cq2 : ∀ W : World, Calls Tryz.prog 33 #[.agg #[.bool na, .string sa, .string ta], .agg #[.bool ni, .string si, .string ti]] W fun e w' => e = .returned (.agg #[.bool nh, .string sh, .string th]) ∧ Below W.heap.size W w')
  (cy1 : ∀ W : World, Calls Tryz.prog 33 #[.agg #[.bool na, .string sa, .string ta], .agg #[.bool ng, .string sg, .string tg]] W fun e w' => e = .returned (.agg #[.bool nj, .string sj, .string tj]) ∧ Below W.heap.size W w')
  (cz1 : ∀ W : World, Calls Tryz.prog 33 #[.agg #[.bool na, .string sa, .string ta], .agg #[.bool nc, .string sc, .string tc]] W fun e w' => e = .returned (.agg #[.bool nk, .string sk, .string tk]) ∧ Below W.heap.size W w')
  (cy2 : ∀ W : World, Calls Tryz.prog 29 #[.agg #[.bool ne, .string se, .string te], .agg #[.bool nk, .string sk, .string tk]] W fun e w' => e = .returned (.agg #[.bool nj, .string sj, .string tj]) ∧ Below W.heap.size W w')
  (co0 : ∀ W : World, Calls Tryz.prog 21 #[.int .i64 0] W fun e w' => e = .returned (.agg #[.bool false, .string ⟨#[]⟩, .string ⟨#[]⟩]) ∧ Below W.heap.size W w')
  (cm1 : ∀ W : World, Calls Tryz.prog 29 #[.agg #[.bool na, .string sa, .string ta], .agg #[.bool false, .string ⟨#[]⟩, .string ⟨#[]⟩]] W fun e w' => e = .returned (.agg #[.bool nm, .string sm, .string tm]) ∧ Below W.heap.size W w')
  (cm2 : ∀ W : World, Calls Tryz.prog 31 #[.agg #[.bool nd, .string sd, .string td], .agg #[.bool nb, .string sb, .string tb]] W fun e w' => e = .returned (.agg #[.bool nm, .string sm, .string tm]) ∧ Below W.heap.size W w')
  (cn1 : ∀ W : World, Calls Tryz.prog 27 #[.agg #[.bool na, .string sa, .string ta]] W fun e w' => e = .returned (.agg #[.bool ny, .string sy, .string ty]) ∧ Below W.heap.size W w')
  (cn2 : ∀ W : World, Calls Tryz.prog 29 #[.agg #[.bool na, .string sa, .string ta], .agg #[.bool ny, .string sy, .string ty]] W fun e w' => e = .returned (.agg #[.bool false, .string ⟨#[]⟩, .string ⟨#[]⟩]) ∧ Below W.heap.size W w')
  (co1 : ∀ W : World, Calls Tryz.prog 21 #[.int .i64 1] W fun e w' => e = .returned (.agg #[.bool false, .string ⟨#[1]⟩, .string ⟨#[]⟩]) ∧ Below W.heap.size W w')
  (cm3 : ∀ W : World, Calls Tryz.prog 33 #[.agg #[.bool na, .string sa, .string ta], .agg #[.bool false, .string ⟨#[1]⟩, .string ⟨#[]⟩]] W fun e w' => e = .returned (.agg #[.bool nm, .string sm, .string tm]) ∧ Below W.heap.size W w')
  (cg1 : ∀ W : World, Calls Tryz.prog 25 #[.agg #[.bool na, .string sa, .string ta], .agg #[.bool nb, .string sb, .string tb]] W fun e w' => e = .returned (.tuple #[.agg #[.bool false, .string ⟨#[]⟩, .string ⟨#[]⟩], .int .i64 10]) ∧ Below W.heap.size W w')
  (ck1 : ∀ W : World, Calls Tryz.prog 37 #[.agg #[.bool nb, .string sb, .string tb]] W fun e w' => e = .returned (.int .i64 0) ∧ Below W.heap.size W w')
  : Calls Tryz.prog 7 #[.agg #[.bool na, .string sa, .string ta], .agg #[.bool nb, .string sb, .string tb], .agg #[.bool nc, .string sc, .string tc]] w fun e w' => e = .returned (.bool true) ∧ Below w.heap.size w w' := by
 have HT := Lib.hid htab
 have HG := Lib.hid hg
 have RA := Lib.hid ca
 have HS := Lib.hid hsz
 clear htab hg ca hsz
 have Rs1 := Lib.hid cs1
 have Rs2 := Lib.hid cs2
 have Rp1 := Lib.hid cp1
 have Rp2 := Lib.hid cp2
 have Rt1 := Lib.hid ct1
 have Ru1 := Lib.hid cu1
 have Rt2 := Lib.hid ct2
 have Rq1 := Lib.hid cq1
 have Rx1 := Lib.hid cx1
 have Rq2 := Lib.hid cq2
 have Ry1 := Lib.hid cy1
 have Rz1 := Lib.hid cz1
 have Ry2 := Lib.hid cy2
 have Ro0 := Lib.hid co0
 have Rm1 := Lib.hid cm1
 have Rm2 := Lib.hid cm2
 have Rn1 := Lib.hid cn1
 have Rn2 := Lib.hid cn2
 have Ro1 := Lib.hid co1
 have Rm3 := Lib.hid cm3
 have Rg1 := Lib.hid cg1
 have Rk1 := Lib.hid ck1
 clear cs1 cs2 cp1 cp2 ct1 cu1 ct2 cq1 cx1 cq2 cy1 cz1 cy2 co0 cm1 cm2 cn1 cn2 co1 cm3 cg1 ck1
 go_enter Tryz.func7, Tryz.ntmps7
 go_wp2_with fail
 obtain ⟨W0, hW0⟩ : ∃ V, ((((w.alloc (Obj.cells #[Value.bool na, Value.string sa, Value.string ta] 25)).alloc (Obj.cells #[Value.bool nb, Value.string sb, Value.string tb] 25)).alloc (Obj.cells #[Value.bool nc, Value.string sc, Value.string tc] 25)).alloc (Obj.cells #[Value.bool na, Value.string sa, Value.string ta, Value.bool nb, Value.string sb, Value.string tb, Value.bool nc, Value.string sc, Value.string tc] 25)) = V := ⟨_, rfl⟩
 have sW0 : W0.heap.size = w.heap.size + 1 + 1 + 1 + 1 := by rw [← hW0]; simp
 have k0 : Cells (w.heap.size) [.bool na, .string sa, .string ta] W0 := by
  rw [← hW0]
  have h := cells_new w #[.bool na, .string sa, .string ta] 25
  exact (((h.alloc (by simp; try omega) _).alloc (by simp; try omega) _).alloc (by simp; try omega) _)
 have k1 : Cells (w.heap.size + 1) [.bool nb, .string sb, .string tb] W0 := by
  rw [← hW0]
  have h := cells_new (w.alloc (Obj.cells #[Value.bool na, Value.string sa, Value.string ta] 25)) #[.bool nb, .string sb, .string tb] 25
  simp only [World.size_alloc] at h
  exact ((h.alloc (by simp; try omega) _).alloc (by simp; try omega) _)
 have k2 : Cells (w.heap.size + 1 + 1) [.bool nc, .string sc, .string tc] W0 := by
  rw [← hW0]
  have h := cells_new ((w.alloc (Obj.cells #[Value.bool na, Value.string sa, Value.string ta] 25)).alloc (Obj.cells #[Value.bool nb, Value.string sb, Value.string tb] 25)) #[.bool nc, .string sc, .string tc] 25
  simp only [World.size_alloc] at h
  exact (h.alloc (by simp; try omega) _)
 have k3 : Cells (w.heap.size + 1 + 1 + 1) [.bool na, .string sa, .string ta, .bool nb, .string sb, .string tb, .bool nc, .string sc, .string tc] W0 := by
  rw [← hW0]
  have h := cells_new (((w.alloc (Obj.cells #[Value.bool na, Value.string sa, Value.string ta] 25)).alloc (Obj.cells #[Value.bool nb, Value.string sb, Value.string tb] 25)).alloc (Obj.cells #[Value.bool nc, Value.string sc, Value.string tc] 25)) #[.bool na, .string sa, .string ta, .bool nb, .string sb, .string tb, .bool nc, .string sc, .string tc] 25
  simp only [World.size_alloc] at h
  exact h
 have bW0 : Below w.heap.size w W0 := by
  rw [← hW0]
  exact (((((Below.refl _ _).alloc (Nat.le_refl _) _).alloc (by simp; try omega) _).alloc (by simp; try omega) _).alloc (by simp; try omega) _)
 rw [hW0]
 clear hW0
 have hgr := rgreat_any _ [(na, sa, ta), (nb, sb, tb), (nc, sc, tc)] W0 (rowR_cells3 k3) k3.lt (by show 3 ≤ 1000; omega) HS.out
 rw [HG.out] at hgr
 have HGR := Lib.hid hgr
 clear hgr
 have HS0 := Lib.hid (And.intro bW0 (And.intro k0 (And.intro k1 (And.intro k2 k3))))
 clear bW0 k0 k1 k2 k3
 refine (HGR.out).mono ?_
 rintro e wg ⟨rfl, c⟩
 have f := HS0.out.1.trans (c.mono HS0.out.1.size)
 have t0 := (HS0.out.2.1).below c (HS0.out.2.1).lt
 have t1 := (HS0.out.2.2.1).below c (HS0.out.2.2.1).lt
 have t2 := (HS0.out.2.2.2.1).below c (HS0.out.2.2.2.1).lt
 have t3 := (HS0.out.2.2.2.2).below c (HS0.out.2.2.2.2).lt
 have HS1 := Lib.hid (And.intro f (And.intro t0 (And.intro t1 (And.intro t2 t3))))
 clear c f t0 t1 t2 t3
 have j1 := neq_ratF
 have j2 := guard_rat
 have j3 := eql_rat
 have e0 := eqR_same nd sd td
 have e1 := eqR_same ne se te
 have e2 := eqR_same nf sf tf
 have e3 := eqR_same nh sh th
 have e4 := eqR_same nj sj tj
 have l0 := (HS1.out.2.1).lt
 have m00 := (HS1.out.2.1 0 _ rfl).1
 have m01 := (HS1.out.2.1 1 _ rfl).1
 have m02 := (HS1.out.2.1 2 _ rfl).1
 have l1 := (HS1.out.2.2.1).lt
 have m10 := (HS1.out.2.2.1 0 _ rfl).1
 have m11 := (HS1.out.2.2.1 1 _ rfl).1
 have m12 := (HS1.out.2.2.1 2 _ rfl).1
 have l2 := (HS1.out.2.2.2.1).lt
 have m20 := (HS1.out.2.2.2.1 0 _ rfl).1
 have m21 := (HS1.out.2.2.2.1 1 _ rfl).1
 have m22 := (HS1.out.2.2.2.1 2 _ rfl).1
 have l3 := (HS1.out.2.2.2.2).lt
 go_wp2_with fail
 (try simp only [List.append_eq, List.cons_append, List.nil_append])
 have tok1 : True := trivial
 have tok2 : True := trivial
 have tok3 : True := trivial
 have tok4 : True := trivial
 have tok5 : True := trivial
 have tok6 : True := trivial
 have tok7 : True := trivial
 have tok8 : True := trivial
 have tok9 : True := trivial
 have tok10 : True := trivial
 have tok11 : True := trivial
 have tok12 : True := trivial
 have tok13 : True := trivial
 have tok14 : True := trivial
 have tok15 : True := trivial
 have tok16 : True := trivial
 have tok17 : True := trivial
 have hRb : wg.heap.size ≤ wg.heap.size := by omega
 go_region_held3 (fun w' => ∀ (a o : Nat), a < wg.heap.size → w'.cell? ⟨a, o, none⟩ = wg.cell? ⟨a, o, none⟩) (first | with_reducible assumption | (intro _ _ _; rfl) | (repeat' (first | with_reducible assumption | with_reducible exact keepN_refl _ _ | with_reducible (refine keepN_drew ?_) | with_reducible (refine keepN_set ?_ ?_) | with_reducible (refine keepN_alloc ?_ ?_) | exact Nat.le_refl _ | omega | (intro _ _ _; rfl))))
  (first | (go_at_call 29; have _t := tok1; clear tok1; refine (Rs1.out _).mono ?_; rintro e u1 ⟨rfl, d1⟩; have E1 := Lib.hid (d1); have kS1 : ∀ (a o : Nat), a < wg.heap.size → u1.cell? ⟨a, o, none⟩ = wg.cell? ⟨a, o, none⟩ := fun a o h => E1.out.cell (p := ⟨a, o, none⟩) (Nat.lt_of_lt_of_le h hRb); have hz1 : wg.heap.size ≤ u1.heap.size := E1.out.size; clear d1) | (go_at_call 29; have _t := tok2; clear tok2; refine (Rs2.out _).mono ?_; rintro e u2 ⟨rfl, d2⟩; have E2 := Lib.hid (E1.out.trans (d2.mono E1.out.size)); have kS2 : ∀ (a o : Nat), a < wg.heap.size → u2.cell? ⟨a, o, none⟩ = wg.cell? ⟨a, o, none⟩ := fun a o h => E2.out.cell (p := ⟨a, o, none⟩) (Nat.lt_of_lt_of_le h hRb); have hz2 : wg.heap.size ≤ u2.heap.size := E2.out.size; clear d2) | (go_at_call 33; have _t := tok3; clear tok3; refine (Rp1.out _).mono ?_; rintro e u3 ⟨rfl, d3⟩; have E3 := Lib.hid (E2.out.trans (d3.mono E2.out.size)); have kS3 : ∀ (a o : Nat), a < wg.heap.size → u3.cell? ⟨a, o, none⟩ = wg.cell? ⟨a, o, none⟩ := fun a o h => E3.out.cell (p := ⟨a, o, none⟩) (Nat.lt_of_lt_of_le h hRb); have hz3 : wg.heap.size ≤ u3.heap.size := E3.out.size; clear d3) | (go_at_call 33; have _t := tok4; clear tok4; refine (Rp2.out _).mono ?_; rintro e u4 ⟨rfl, d4⟩; have E4 := Lib.hid (E3.out.trans (d4.mono E3.out.size)); have kS4 : ∀ (a o : Nat), a < wg.heap.size → u4.cell? ⟨a, o, none⟩ = wg.cell? ⟨a, o, none⟩ := fun a o h => E4.out.cell (p := ⟨a, o, none⟩) (Nat.lt_of_lt_of_le h hRb); have hz4 : wg.heap.size ≤ u4.heap.size := E4.out.size; clear d4) | (go_at_call 29; have _t := tok5; clear tok5; refine (Rs1.out _).mono ?_; rintro e u5 ⟨rfl, d5⟩; have E5 := Lib.hid (E4.out.trans (d5.mono E4.out.size)); have kS5 : ∀ (a o : Nat), a < wg.heap.size → u5.cell? ⟨a, o, none⟩ = wg.cell? ⟨a, o, none⟩ := fun a o h => E5.out.cell (p := ⟨a, o, none⟩) (Nat.lt_of_lt_of_le h hRb); have hz5 : wg.heap.size ≤ u5.heap.size := E5.out.size; clear d5) | (go_at_call 29; have _t := tok6; clear tok6; refine (Rt1.out _).mono ?_; rintro e u6 ⟨rfl, d6⟩; have E6 := Lib.hid (E5.out.trans (d6.mono E5.out.size)); have kS6 : ∀ (a o : Nat), a < wg.heap.size → u6.cell? ⟨a, o, none⟩ = wg.cell? ⟨a, o, none⟩ := fun a o h => E6.out.cell (p := ⟨a, o, none⟩) (Nat.lt_of_lt_of_le h hRb); have hz6 : wg.heap.size ≤ u6.heap.size := E6.out.size; clear d6) | (go_at_call 29; have _t := tok7; clear tok7; refine (Ru1.out _).mono ?_; rintro e u7 ⟨rfl, d7⟩; have E7 := Lib.hid (E6.out.trans (d7.mono E6.out.size)); have kS7 : ∀ (a o : Nat), a < wg.heap.size → u7.cell? ⟨a, o, none⟩ = wg.cell? ⟨a, o, none⟩ := fun a o h => E7.out.cell (p := ⟨a, o, none⟩) (Nat.lt_of_lt_of_le h hRb); have hz7 : wg.heap.size ≤ u7.heap.size := E7.out.size; clear d7) | (go_at_call 29; have _t := tok8; clear tok8; refine (Rt2.out _).mono ?_; rintro e u8 ⟨rfl, d8⟩; have E8 := Lib.hid (E7.out.trans (d8.mono E7.out.size)); have kS8 : ∀ (a o : Nat), a < wg.heap.size → u8.cell? ⟨a, o, none⟩ = wg.cell? ⟨a, o, none⟩ := fun a o h => E8.out.cell (p := ⟨a, o, none⟩) (Nat.lt_of_lt_of_le h hRb); have hz8 : wg.heap.size ≤ u8.heap.size := E8.out.size; clear d8) | (go_at_call 33; have _t := tok9; clear tok9; refine (Rp1.out _).mono ?_; rintro e u9 ⟨rfl, d9⟩; have E9 := Lib.hid (E8.out.trans (d9.mono E8.out.size)); have kS9 : ∀ (a o : Nat), a < wg.heap.size → u9.cell? ⟨a, o, none⟩ = wg.cell? ⟨a, o, none⟩ := fun a o h => E9.out.cell (p := ⟨a, o, none⟩) (Nat.lt_of_lt_of_le h hRb); have hz9 : wg.heap.size ≤ u9.heap.size := E9.out.size; clear d9) | (go_at_call 33; have _t := tok10; clear tok10; refine (Rq1.out _).mono ?_; rintro e u10 ⟨rfl, d10⟩; have E10 := Lib.hid (E9.out.trans (d10.mono E9.out.size)); have kS10 : ∀ (a o : Nat), a < wg.heap.size → u10.cell? ⟨a, o, none⟩ = wg.cell? ⟨a, o, none⟩ := fun a o h => E10.out.cell (p := ⟨a, o, none⟩) (Nat.lt_of_lt_of_le h hRb); have hz10 : wg.heap.size ≤ u10.heap.size := E10.out.size; clear d10) | (go_at_call 33; have _t := tok11; clear tok11; refine (Rx1.out _).mono ?_; rintro e u11 ⟨rfl, d11⟩; have E11 := Lib.hid (E10.out.trans (d11.mono E10.out.size)); have kS11 : ∀ (a o : Nat), a < wg.heap.size → u11.cell? ⟨a, o, none⟩ = wg.cell? ⟨a, o, none⟩ := fun a o h => E11.out.cell (p := ⟨a, o, none⟩) (Nat.lt_of_lt_of_le h hRb); have hz11 : wg.heap.size ≤ u11.heap.size := E11.out.size; clear d11) | (go_at_call 33; have _t := tok12; clear tok12; refine (Rq2.out _).mono ?_; rintro e u12 ⟨rfl, d12⟩; have E12 := Lib.hid (E11.out.trans (d12.mono E11.out.size)); have kS12 : ∀ (a o : Nat), a < wg.heap.size → u12.cell? ⟨a, o, none⟩ = wg.cell? ⟨a, o, none⟩ := fun a o h => E12.out.cell (p := ⟨a, o, none⟩) (Nat.lt_of_lt_of_le h hRb); have hz12 : wg.heap.size ≤ u12.heap.size := E12.out.size; clear d12) | (go_at_call 29; have _t := tok13; clear tok13; refine (Ru1.out _).mono ?_; rintro e u13 ⟨rfl, d13⟩; have E13 := Lib.hid (E12.out.trans (d13.mono E12.out.size)); have kS13 : ∀ (a o : Nat), a < wg.heap.size → u13.cell? ⟨a, o, none⟩ = wg.cell? ⟨a, o, none⟩ := fun a o h => E13.out.cell (p := ⟨a, o, none⟩) (Nat.lt_of_lt_of_le h hRb); have hz13 : wg.heap.size ≤ u13.heap.size := E13.out.size; clear d13) | (go_at_call 33; have _t := tok14; clear tok14; refine (Ry1.out _).mono ?_; rintro e u14 ⟨rfl, d14⟩; have E14 := Lib.hid (E13.out.trans (d14.mono E13.out.size)); have kS14 : ∀ (a o : Nat), a < wg.heap.size → u14.cell? ⟨a, o, none⟩ = wg.cell? ⟨a, o, none⟩ := fun a o h => E14.out.cell (p := ⟨a, o, none⟩) (Nat.lt_of_lt_of_le h hRb); have hz14 : wg.heap.size ≤ u14.heap.size := E14.out.size; clear d14) | (go_at_call 33; have _t := tok15; clear tok15; refine (Rp1.out _).mono ?_; rintro e u15 ⟨rfl, d15⟩; have E15 := Lib.hid (E14.out.trans (d15.mono E14.out.size)); have kS15 : ∀ (a o : Nat), a < wg.heap.size → u15.cell? ⟨a, o, none⟩ = wg.cell? ⟨a, o, none⟩ := fun a o h => E15.out.cell (p := ⟨a, o, none⟩) (Nat.lt_of_lt_of_le h hRb); have hz15 : wg.heap.size ≤ u15.heap.size := E15.out.size; clear d15) | (go_at_call 33; have _t := tok16; clear tok16; refine (Rz1.out _).mono ?_; rintro e u16 ⟨rfl, d16⟩; have E16 := Lib.hid (E15.out.trans (d16.mono E15.out.size)); have kS16 : ∀ (a o : Nat), a < wg.heap.size → u16.cell? ⟨a, o, none⟩ = wg.cell? ⟨a, o, none⟩ := fun a o h => E16.out.cell (p := ⟨a, o, none⟩) (Nat.lt_of_lt_of_le h hRb); have hz16 : wg.heap.size ≤ u16.heap.size := E16.out.size; clear d16) | (go_at_call 29; have _t := tok17; clear tok17; refine (Ry2.out _).mono ?_; rintro e u17 ⟨rfl, d17⟩; have E17 := Lib.hid (E16.out.trans (d17.mono E16.out.size)); have kS17 : ∀ (a o : Nat), a < wg.heap.size → u17.cell? ⟨a, o, none⟩ = wg.cell? ⟨a, o, none⟩ := fun a o h => E17.out.cell (p := ⟨a, o, none⟩) (Nat.lt_of_lt_of_le h hRb); have hz17 : wg.heap.size ≤ u17.heap.size := E17.out.size; clear d17))
 clear l0 m00 m01 m02 l1 m10 m11 m12 l2 m20 m21 m22 l3
 clear e0 e1 e2 e3 e4
 have f := HS1.out.1.trans ((((Below.refl wg.heap.size wg).drew).trans E17.out).mono HS1.out.1.size)
 have t0 : Cells (w.heap.size) [.bool na, .string sa, .string ta] u17 := (show Cells _ _ wg.drew from HS1.out.2.1).below E17.out (HS1.out.2.1).lt
 have t1 : Cells (w.heap.size + 1) [.bool nb, .string sb, .string tb] u17 := (show Cells _ _ wg.drew from HS1.out.2.2.1).below E17.out (HS1.out.2.2.1).lt
 have t2 : Cells (w.heap.size + 1 + 1) [.bool nc, .string sc, .string tc] u17 := (show Cells _ _ wg.drew from HS1.out.2.2.2.1).below E17.out (HS1.out.2.2.2.1).lt
 have t3 : Cells (w.heap.size + 1 + 1 + 1) [.bool na, .string sa, .string ta, .bool nb, .string sb, .string tb, .bool nc, .string sc, .string tc] u17 := (show Cells _ _ wg.drew from HS1.out.2.2.2.2).below E17.out (HS1.out.2.2.2.2).lt
 have HS2 := Lib.hid (And.intro f (And.intro t0 (And.intro t1 (And.intro t2 t3))))
 clear f t0 t1 t2 t3 E1 kS1 hz1 E2 kS2 hz2 E3 kS3 hz3 E4 kS4 hz4 E5 kS5 hz5 E6 kS6 hz6 E7 kS7 hz7 E8 kS8 hz8 E9 kS9 hz9 E10 kS10 hz10 E11 kS11 hz11 E12 kS12 hz12 E13 kS13 hz13 E14 kS14 hz14 E15 kS15 hz15 E16 kS16 hz16 E17 kS17 hz17 hRb
 go_wp2_with fail
 refine wp_region_invA (fun a listed a' w' => ∃ t92 t93 t94 t95 t9 : Value, a' = puts a [(92, t92), (93, t93), (94, t94), (95, t95), (9, t9)] ∧ Below (u17.heap.size) u17 w' ∧ (listed.getD 0 false = true → t92 = .func (Fn.func 29) #[] #[]) ∧ (listed.getD 1 false = true → t93 = .agg #[.bool na, .string sa, .string ta]) ∧ (listed.getD 2 false = true → t94 = .agg #[.bool false, .string ⟨#[]⟩, .string ⟨#[]⟩]) ∧ (listed.getD 3 false = true → t95 = .agg #[.bool nm, .string sm, .string tm]) ∧ (listed.getD 4 false = true → ∃ (B : Nat) (x0 x1 x2 : Value), t9 = .pointer (some ⟨B, 0, none⟩) ∧ u17.heap.size ≤ B ∧ Cells B [x0, x1, x2] w' ∧ (listed.getD 5 false = true → x0 = .bool nm ∧ x1 = .string sm ∧ x2 = .string tm)) ∧ (listed.getD 5 false = true → listed.getD 4 false = true)) (by kernel_rfl) (by kernel_rfl) ?_ ?_ ?_
 ·exact ⟨undef, undef, undef, undef, undef, (by kernel_rfl), (Below.refl _ _).drew, (fun h => getD_rep h), (fun h => getD_rep h), (fun h => getD_rep h), (fun h => getD_rep h), (fun h => getD_rep h), (fun h => getD_rep h)⟩
 ·show InvSteps _ _ _ _ _ [0, 1, 2, 3, 4, 5]
  refine InvSteps.cons rfl (fun listed a w' K' hlt hun hdep hI hK => ?_) ?_
  ·obtain ⟨t92, t93, t94, t95, t9, ha, hb, h0, h1, h2, h3, h4, s5_4⟩ := hI
   clear hdep
   rw [ha]
   clear ha a
   simp only [puts_cons, puts_nil, Act.put, List.setIfInBounds_toArray, List.set_cons_zero, List.set_cons_succ]
   go_simp
   exact hK.out _ _ ⟨(.func (Fn.func 29) #[] #[]), t93, t94, t95, t9, (by kernel_rfl), hb, fun _ => rfl, fun h => h1 (getD_ne h (by decide : 0 ≠ 1)), fun h => h2 (getD_ne h (by decide : 0 ≠ 2)), fun h => h3 (getD_ne h (by decide : 0 ≠ 3)), fun h => by obtain ⟨B, x0, x1, x2, e, hB, kc, hf⟩ := h4 (getD_ne h (by decide : 0 ≠ 4)); exact ⟨B, x0, x1, x2, e, hB, kc, fun h => hf (getD_ne h (by decide : 0 ≠ 5))⟩, fun h => getD_set_true (s5_4 (getD_ne h (by decide : 0 ≠ 5)))⟩
  refine InvSteps.cons rfl (fun listed a w' K' hlt hun hdep hI hK => ?_) ?_
  ·obtain ⟨t92, t93, t94, t95, t9, ha, hb, h0, h1, h2, h3, h4, s5_4⟩ := hI
   clear hdep
   have kc := (HS2.out.2.1).below hb (by have := (HS2.out.2.1).lt; omega)
   have kl := kc.lt
   have k0 := (kc 0 _ rfl).1
   have k1 := (kc 1 _ rfl).1
   have k2 := (kc 2 _ rfl).1
   clear kc
   rw [ha]
   clear ha a
   simp only [puts_cons, puts_nil, Act.put, List.setIfInBounds_toArray, List.set_cons_zero, List.set_cons_succ]
   go_simp
   exact hK.out _ _ ⟨t92, (.agg #[.bool na, .string sa, .string ta]), t94, t95, t9, (by kernel_rfl), hb, fun h => h0 (getD_ne h (by decide : 1 ≠ 0)), fun _ => rfl, fun h => h2 (getD_ne h (by decide : 1 ≠ 2)), fun h => h3 (getD_ne h (by decide : 1 ≠ 3)), fun h => by obtain ⟨B, x0, x1, x2, e, hB, kc, hf⟩ := h4 (getD_ne h (by decide : 1 ≠ 4)); exact ⟨B, x0, x1, x2, e, hB, kc, fun h => hf (getD_ne h (by decide : 1 ≠ 5))⟩, fun h => getD_set_true (s5_4 (getD_ne h (by decide : 1 ≠ 5)))⟩
  refine InvSteps.cons rfl (fun listed a w' K' hlt hun hdep hI hK => ?_) ?_
  ·obtain ⟨t92, t93, t94, t95, t9, ha, hb, h0, h1, h2, h3, h4, s5_4⟩ := hI
   clear hdep
   rw [ha]
   clear ha a
   simp only [puts_cons, puts_nil, Act.put, List.setIfInBounds_toArray, List.set_cons_zero, List.set_cons_succ]
   go_simp
   refine (Ro0.out _).mono ?_
   rintro e u ⟨rfl, c⟩
   go_simp
   exact hK.out _ _ ⟨t92, t93, (.agg #[.bool false, .string ⟨#[]⟩, .string ⟨#[]⟩]), t95, t9, (by kernel_rfl), hb.trans (c.mono hb.size), fun h => h0 (getD_ne h (by decide : 2 ≠ 0)), fun h => h1 (getD_ne h (by decide : 2 ≠ 1)), fun _ => rfl, fun h => h3 (getD_ne h (by decide : 2 ≠ 3)), fun h => by obtain ⟨B, x0, x1, x2, e, hB, kc, hf⟩ := h4 (getD_ne h (by decide : 2 ≠ 4)); exact ⟨B, x0, x1, x2, e, hB, kc.below c kc.lt, fun h => hf (getD_ne h (by decide : 2 ≠ 5))⟩, fun h => getD_set_true (s5_4 (getD_ne h (by decide : 2 ≠ 5)))⟩
  refine InvSteps.cons rfl (fun listed a w' K' hlt hun hdep hI hK => ?_) ?_
  ·obtain ⟨t92, t93, t94, t95, t9, ha, hb, h0, h1, h2, h3, h4, s5_4⟩ := hI
   have H0 := hdep ⟨0, Ground.data⟩ (by simp) rfl
   have H1 := hdep ⟨1, Ground.data⟩ (by simp) rfl
   have H2 := hdep ⟨2, Ground.data⟩ (by simp) rfl
   clear hdep
   have g0 := h0 H0
   subst g0
   have g1 := h1 H1
   subst g1
   have g2 := h2 H2
   subst g2
   rw [ha]
   clear ha a
   simp only [puts_cons, puts_nil, Act.put, List.setIfInBounds_toArray, List.set_cons_zero, List.set_cons_succ]
   go_simp
   refine (Rm1.out _).mono ?_
   rintro e u ⟨rfl, c⟩
   go_simp
   exact hK.out _ _ ⟨(.func (Fn.func 29) #[] #[]), (.agg #[.bool na, .string sa, .string ta]), (.agg #[.bool false, .string ⟨#[]⟩, .string ⟨#[]⟩]), (.agg #[.bool nm, .string sm, .string tm]), t9, (by kernel_rfl), hb.trans (c.mono hb.size), fun _ => rfl, fun _ => rfl, fun _ => rfl, fun _ => rfl, fun h => by obtain ⟨B, x0, x1, x2, e, hB, kc, hf⟩ := h4 (getD_ne h (by decide : 3 ≠ 4)); exact ⟨B, x0, x1, x2, e, hB, kc.below c kc.lt, fun h => hf (getD_ne h (by decide : 3 ≠ 5))⟩, fun h => getD_set_true (s5_4 (getD_ne h (by decide : 3 ≠ 5)))⟩
  refine InvSteps.cons rfl (fun listed a w' K' hlt hun hdep hI hK => ?_) ?_
  ·obtain ⟨t92, t93, t94, t95, t9, ha, hb, h0, h1, h2, h3, h4, s5_4⟩ := hI
   clear hdep
   rw [ha]
   clear ha a
   simp only [puts_cons, puts_nil, Act.put, List.setIfInBounds_toArray, List.set_cons_zero, List.set_cons_succ]
   go_simp
   exact hK.out _ _ ⟨t92, t93, t94, t95, (.pointer (some ⟨w'.heap.size, 0, none⟩)), (by kernel_rfl), hb.alloc hb.size _, fun h => h0 (getD_ne h (by decide : 4 ≠ 0)), fun h => h1 (getD_ne h (by decide : 4 ≠ 1)), fun h => h2 (getD_ne h (by decide : 4 ≠ 2)), fun h => h3 (getD_ne h (by decide : 4 ≠ 3)), fun _ => ⟨_, _, _, _, rfl, hb.size, cells_new w' #[Value.bool false, Value.string ⟨#[]⟩, Value.string ⟨#[]⟩] 25, fun h => by have h' := s5_4 (getD_ne h (by decide : 4 ≠ 5)); rw [hun] at h'; cases h'⟩, fun _ => getD_self hlt⟩
  refine InvSteps.cons rfl (fun listed a w' K' hlt hun hdep hI hK => ?_) ?_
  ·obtain ⟨t92, t93, t94, t95, t9, ha, hb, h0, h1, h2, h3, h4, s5_4⟩ := hI
   have H4 := hdep ⟨4, Ground.data⟩ (by simp) rfl
   have H3 := hdep ⟨3, Ground.data⟩ (by simp) rfl
   have H0 := hdep ⟨0, Ground.phase⟩ (by simp) rfl
   have H1 := hdep ⟨1, Ground.phase⟩ (by simp) rfl
   have H2 := hdep ⟨2, Ground.phase⟩ (by simp) rfl
   clear hdep
   have g3 := h3 H3
   subst g3
   have g0 := h0 H0
   subst g0
   have g1 := h1 H1
   subst g1
   have g2 := h2 H2
   subst g2
   obtain ⟨B, x0, x1, x2, rfl, hB, kc, _⟩ := h4 H4
   have kl := kc.lt
   have k0 := (kc 0 _ rfl).1
   have z0 := (kc 0 _ rfl).2
   have k1 := (kc 1 _ rfl).1
   have z1 := (kc 1 _ rfl).2
   have k2 := (kc 2 _ rfl).1
   have z2 := (kc 2 _ rfl).2
   rw [ha]
   clear ha a
   simp only [puts_cons, puts_nil, Act.put, List.setIfInBounds_toArray, List.set_cons_zero, List.set_cons_succ]
   go_simp
   have yc0 : Cells (B) [.bool nm, x1, x2] _ := (kc).set (k := 0) (Value.bool nm) _ rfl
   have yc1 : Cells (B) [.bool nm, .string sm, x2] _ := (yc0).set (k := 1) (Value.string sm) _ rfl
   have yc2 : Cells (B) [.bool nm, .string sm, .string tm] _ := (yc1).set (k := 2) (Value.string tm) _ rfl
   exact hK.out _ _ ⟨(.func (Fn.func 29) #[] #[]), (.agg #[.bool na, .string sa, .string ta]), (.agg #[.bool false, .string ⟨#[]⟩, .string ⟨#[]⟩]), (.agg #[.bool nm, .string sm, .string tm]), (.pointer (some ⟨B, 0, none⟩)), (by kernel_rfl), (below_sets (below_sets (below_sets hb hB 0 (Value.bool nm)) hB 1 (Value.string sm)) hB 2 (Value.string tm)), fun _ => rfl, fun _ => rfl, fun _ => rfl, fun _ => rfl, fun _ => ⟨B, _, _, _, rfl, hB, yc2, fun _ => ⟨rfl, rfl, rfl⟩⟩, fun _ => getD_set_true H4⟩
  exact InvSteps.nil
 ·intro listed a w3 hl hI
  obtain ⟨t92, t93, t94, t95, t9, ha, hb, h0, h1, h2, h3, h4, s5_4⟩ := hI
  have H0 := hl 0 (by show 0 < 6; omega)
  have H1 := hl 1 (by show 1 < 6; omega)
  have H2 := hl 2 (by show 2 < 6; omega)
  have H3 := hl 3 (by show 3 < 6; omega)
  have H4 := hl 4 (by show 4 < 6; omega)
  have H5 := hl 5 (by show 5 < 6; omega)
  have g0 := h0 H0
  subst g0
  have g1 := h1 H1
  subst g1
  have g2 := h2 H2
  subst g2
  have g3 := h3 H3
  subst g3
  obtain ⟨B4, y4_0, y4_1, y4_2, rfl, r4, c4, f4⟩ := h4 H4
  obtain ⟨rfl, rfl, rfl⟩ := f4 H5
  clear H0 H1 H2 H3 H4 H5 hl h0 h1 h2 h3 h4 s5_4 f4 listed
  rw [ha]
  clear ha a
  simp only [puts_cons, puts_nil, Act.put, List.setIfInBounds_toArray, List.set_cons_zero, List.set_cons_succ]
  clear r4
  have f := HS2.out.1.trans (hb.mono HS2.out.1.size)
  have t0 := (HS2.out.2.1).below hb (HS2.out.2.1).lt
  have t1 := (HS2.out.2.2.1).below hb (HS2.out.2.2.1).lt
  have t2 := (HS2.out.2.2.2.1).below hb (HS2.out.2.2.2.1).lt
  have t3 := (HS2.out.2.2.2.2).below hb (HS2.out.2.2.2.2).lt
  have HS3 := Lib.hid (And.intro f (And.intro t0 (And.intro t1 (And.intro t2 (And.intro t3 c4)))))
  clear f hb t0 t1 t2 t3 c4
  have e0 := eqR_same nm sm tm
  have e1 := eqR_same false ⟨#[]⟩ ⟨#[]⟩
  have l0 := (HS3.out.2.1).lt
  have m00 := (HS3.out.2.1 0 _ rfl).1
  have m01 := (HS3.out.2.1 1 _ rfl).1
  have m02 := (HS3.out.2.1 2 _ rfl).1
  have l1 := (HS3.out.2.2.1).lt
  have m10 := (HS3.out.2.2.1 0 _ rfl).1
  have m11 := (HS3.out.2.2.1 1 _ rfl).1
  have m12 := (HS3.out.2.2.1 2 _ rfl).1
  have l2 := (HS3.out.2.2.2.1).lt
  have l3 := (HS3.out.2.2.2.2.1).lt
  have l4 := (HS3.out.2.2.2.2.2).lt
  have m40 := (HS3.out.2.2.2.2.2 0 _ rfl).1
  have m41 := (HS3.out.2.2.2.2.2 1 _ rfl).1
  have m42 := (HS3.out.2.2.2.2.2 2 _ rfl).1
  go_wp2_with fail
  (try simp only [List.append_eq, List.cons_append, List.nil_append])
  have tok1 : True := trivial
  have tok2 : True := trivial
  have tok3 : True := trivial
  have tok4 : True := trivial
  have tok5 : True := trivial
  have tok6 : True := trivial
  have tok7 : True := trivial
  have hRb : w3.heap.size ≤ w3.heap.size := by omega
  go_region_held3 (fun w' => ∀ (a o : Nat), a < w3.heap.size → w'.cell? ⟨a, o, none⟩ = w3.cell? ⟨a, o, none⟩) (first | with_reducible assumption | (intro _ _ _; rfl) | (repeat' (first | with_reducible assumption | with_reducible exact keepN_refl _ _ | with_reducible (refine keepN_drew ?_) | with_reducible (refine keepN_set ?_ ?_) | with_reducible (refine keepN_alloc ?_ ?_) | exact Nat.le_refl _ | omega | (intro _ _ _; rfl))))
   (first | (go_at_call 29; have _t := tok1; clear tok1; refine (Rs1.out _).mono ?_; rintro e u1 ⟨rfl, d1⟩; have E1 := Lib.hid (d1); have kS1 : ∀ (a o : Nat), a < w3.heap.size → u1.cell? ⟨a, o, none⟩ = w3.cell? ⟨a, o, none⟩ := fun a o h => E1.out.cell (p := ⟨a, o, none⟩) (Nat.lt_of_lt_of_le h hRb); have hz1 : w3.heap.size ≤ u1.heap.size := E1.out.size; clear d1) | (go_at_call 31; have _t := tok2; clear tok2; refine (Rm2.out _).mono ?_; rintro e u2 ⟨rfl, d2⟩; have E2 := Lib.hid (E1.out.trans (d2.mono E1.out.size)); have kS2 : ∀ (a o : Nat), a < w3.heap.size → u2.cell? ⟨a, o, none⟩ = w3.cell? ⟨a, o, none⟩ := fun a o h => E2.out.cell (p := ⟨a, o, none⟩) (Nat.lt_of_lt_of_le h hRb); have hz2 : w3.heap.size ≤ u2.heap.size := E2.out.size; clear d2) | (go_at_call 27; have _t := tok3; clear tok3; refine (Rn1.out _).mono ?_; rintro e u3 ⟨rfl, d3⟩; have E3 := Lib.hid (E2.out.trans (d3.mono E2.out.size)); have kS3 : ∀ (a o : Nat), a < w3.heap.size → u3.cell? ⟨a, o, none⟩ = w3.cell? ⟨a, o, none⟩ := fun a o h => E3.out.cell (p := ⟨a, o, none⟩) (Nat.lt_of_lt_of_le h hRb); have hz3 : w3.heap.size ≤ u3.heap.size := E3.out.size; clear d3) | (go_at_call 29; have _t := tok4; clear tok4; refine (Rn2.out _).mono ?_; rintro e u4 ⟨rfl, d4⟩; have E4 := Lib.hid (E3.out.trans (d4.mono E3.out.size)); have kS4 : ∀ (a o : Nat), a < w3.heap.size → u4.cell? ⟨a, o, none⟩ = w3.cell? ⟨a, o, none⟩ := fun a o h => E4.out.cell (p := ⟨a, o, none⟩) (Nat.lt_of_lt_of_le h hRb); have hz4 : w3.heap.size ≤ u4.heap.size := E4.out.size; clear d4) | (go_at_call 21; have _t := tok5; clear tok5; refine (Ro0.out _).mono ?_; rintro e u5 ⟨rfl, d5⟩; have E5 := Lib.hid (E4.out.trans (d5.mono E4.out.size)); have kS5 : ∀ (a o : Nat), a < w3.heap.size → u5.cell? ⟨a, o, none⟩ = w3.cell? ⟨a, o, none⟩ := fun a o h => E5.out.cell (p := ⟨a, o, none⟩) (Nat.lt_of_lt_of_le h hRb); have hz5 : w3.heap.size ≤ u5.heap.size := E5.out.size; clear d5) | (go_at_call 21; have _t := tok6; clear tok6; refine (Ro1.out _).mono ?_; rintro e u6 ⟨rfl, d6⟩; have E6 := Lib.hid (E5.out.trans (d6.mono E5.out.size)); have kS6 : ∀ (a o : Nat), a < w3.heap.size → u6.cell? ⟨a, o, none⟩ = w3.cell? ⟨a, o, none⟩ := fun a o h => E6.out.cell (p := ⟨a, o, none⟩) (Nat.lt_of_lt_of_le h hRb); have hz6 : w3.heap.size ≤ u6.heap.size := E6.out.size; clear d6) | (go_at_call 33; have _t := tok7; clear tok7; refine (Rm3.out _).mono ?_; rintro e u7 ⟨rfl, d7⟩; have E7 := Lib.hid (E6.out.trans (d7.mono E6.out.size)); have kS7 : ∀ (a o : Nat), a < w3.heap.size → u7.cell? ⟨a, o, none⟩ = w3.cell? ⟨a, o, none⟩ := fun a o h => E7.out.cell (p := ⟨a, o, none⟩) (Nat.lt_of_lt_of_le h hRb); have hz7 : w3.heap.size ≤ u7.heap.size := E7.out.size; clear d7))
  clear l0 m00 m01 m02 l1 m10 m11 m12 l2 l3 l4 m40 m41 m42
  have f := HS3.out.1.trans ((((Below.refl w3.heap.size w3).drew).trans E7.out).mono HS3.out.1.size)
  have t0 : Cells (w.heap.size) [.bool na, .string sa, .string ta] u7 := (show Cells _ _ w3.drew from HS3.out.2.1).below E7.out (HS3.out.2.1).lt
  have t1 : Cells (w.heap.size + 1) [.bool nb, .string sb, .string tb] u7 := (show Cells _ _ w3.drew from HS3.out.2.2.1).below E7.out (HS3.out.2.2.1).lt
  have t2 : Cells (w.heap.size + 1 + 1) [.bool nc, .string sc, .string tc] u7 := (show Cells _ _ w3.drew from HS3.out.2.2.2.1).below E7.out (HS3.out.2.2.2.1).lt
  have t3 : Cells (w.heap.size + 1 + 1 + 1) [.bool na, .string sa, .string ta, .bool nb, .string sb, .string tb, .bool nc, .string sc, .string tc] u7 := (show Cells _ _ w3.drew from HS3.out.2.2.2.2.1).below E7.out (HS3.out.2.2.2.2.1).lt
  have t4 : Cells (B4) [.bool nm, .string sm, .string tm] u7 := (show Cells _ _ w3.drew from HS3.out.2.2.2.2.2).below E7.out (HS3.out.2.2.2.2.2).lt
  have HS4 := Lib.hid (And.intro f (And.intro t0 (And.intro t1 (And.intro t2 (And.intro t3 t4)))))
  clear f t0 t1 t2 t3 t4 E1 kS1 hz1 E2 kS2 hz2 E3 kS3 hz3 E4 kS4 hz4 E5 kS5 hz5 E6 kS6 hz6 E7 kS7 hz7 hRb
  have l0 := (HS4.out.2.1).lt
  have m00 := (HS4.out.2.1 0 _ rfl).1
  have m01 := (HS4.out.2.1 1 _ rfl).1
  have m02 := (HS4.out.2.1 2 _ rfl).1
  have l1 := (HS4.out.2.2.1).lt
  have m10 := (HS4.out.2.2.1 0 _ rfl).1
  have m11 := (HS4.out.2.2.1 1 _ rfl).1
  have m12 := (HS4.out.2.2.1 2 _ rfl).1
  have l2 := (HS4.out.2.2.2.1).lt
  have l3 := (HS4.out.2.2.2.2.1).lt
  have l4 := (HS4.out.2.2.2.2.2).lt
  go_wp2_with fail
  clear l0 m00 m01 m02 l1 m10 m11 m12 l2 l3 l4
  refine (Rg1.out _).mono ?_
  rintro e w5 ⟨rfl, c⟩
  have f := HS4.out.1.trans (c.mono HS4.out.1.size)
  have t0 := (HS4.out.2.1).below c (HS4.out.2.1).lt
  have t1 := (HS4.out.2.2.1).below c (HS4.out.2.2.1).lt
  have t2 := (HS4.out.2.2.2.1).below c (HS4.out.2.2.2.1).lt
  have t3 := (HS4.out.2.2.2.2.1).below c (HS4.out.2.2.2.2.1).lt
  have t4 := (HS4.out.2.2.2.2.2).below c (HS4.out.2.2.2.2.2).lt
  have HS5 := Lib.hid (And.intro f (And.intro t0 (And.intro t1 (And.intro t2 (And.intro t3 t4)))))
  clear c f t0 t1 t2 t3 t4
  have l0 := (HS5.out.2.1).lt
  have l1 := (HS5.out.2.2.1).lt
  have m10 := (HS5.out.2.2.1 0 _ rfl).1
  have m11 := (HS5.out.2.2.1 1 _ rfl).1
  have m12 := (HS5.out.2.2.1 2 _ rfl).1
  have l2 := (HS5.out.2.2.2.1).lt
  have l3 := (HS5.out.2.2.2.2.1).lt
  have l4 := (HS5.out.2.2.2.2.2).lt
  go_wp2_with fail
  clear l0 l1 m10 m11 m12 l2 l3 l4
  obtain ⟨w6, hw6⟩ : ∃ V, (w5.alloc (Obj.cells #[Value.bool false, Value.string ⟨#[]⟩, Value.string ⟨#[]⟩] 25)) = V := ⟨_, rfl⟩
  obtain ⟨BQ, hBQ⟩ : ∃ B, w5.heap.size = B := ⟨_, rfl⟩
  have f : Below w.heap.size w w6 := by rw [← hw6]; exact (HS5.out.1.alloc (by have := HS5.out.1.size; simp; try omega) _)
  have t0 : Cells (w.heap.size) [.bool na, .string sa, .string ta] w6 := by rw [← hw6]; exact ((HS5.out.2.1).alloc (by have := (HS5.out.2.1).lt; simp; try omega) _)
  have t1 : Cells (w.heap.size + 1) [.bool nb, .string sb, .string tb] w6 := by rw [← hw6]; exact ((HS5.out.2.2.1).alloc (by have := (HS5.out.2.2.1).lt; simp; try omega) _)
  have t2 : Cells (w.heap.size + 1 + 1) [.bool nc, .string sc, .string tc] w6 := by rw [← hw6]; exact ((HS5.out.2.2.2.1).alloc (by have := (HS5.out.2.2.2.1).lt; simp; try omega) _)
  have t3 : Cells (w.heap.size + 1 + 1 + 1) [.bool na, .string sa, .string ta, .bool nb, .string sb, .string tb, .bool nc, .string sc, .string tc] w6 := by rw [← hw6]; exact ((HS5.out.2.2.2.2.1).alloc (by have := (HS5.out.2.2.2.2.1).lt; simp; try omega) _)
  have t4 : Cells (B4) [.bool nm, .string sm, .string tm] w6 := by rw [← hw6]; exact ((HS5.out.2.2.2.2.2).alloc (by have := (HS5.out.2.2.2.2.2).lt; simp; try omega) _)
  have t5 : Cells BQ [.bool false, .string ⟨#[]⟩, .string ⟨#[]⟩] w6 := by
   rw [← hw6, ← hBQ]
   have h := cells_new w5 #[.bool false, .string ⟨#[]⟩, .string ⟨#[]⟩] 25
   exact h
  have xBQ0 : ¬ (w.heap.size) = BQ := by have := (HS5.out.2.1).lt; omega
  have xBQ1 : ¬ (w.heap.size + 1) = BQ := by have := (HS5.out.2.2.1).lt; omega
  have xBQ2 : ¬ (w.heap.size + 1 + 1) = BQ := by have := (HS5.out.2.2.2.1).lt; omega
  have xBQ3 : ¬ (w.heap.size + 1 + 1 + 1) = BQ := by have := (HS5.out.2.2.2.2.1).lt; omega
  have xBQ4 : ¬ (B4) = BQ := by have := (HS5.out.2.2.2.2.2).lt; omega
  have gBQ : w.heap.size ≤ BQ := by have := HS5.out.1.size; omega
  have HS6 := Lib.hid (And.intro f (And.intro t0 (And.intro t1 (And.intro t2 (And.intro t3 (And.intro t4 t5))))))
  rw [hw6]
  (try rw [hBQ])
  clear hw6 hBQ f t0 t1 t2 t3 t4 t5
  refine (Rk1.out _).mono ?_
  rintro e w7 ⟨rfl, c⟩
  have f := HS6.out.1.trans (c.mono HS6.out.1.size)
  have t0 := (HS6.out.2.1).below c (HS6.out.2.1).lt
  have t1 := (HS6.out.2.2.1).below c (HS6.out.2.2.1).lt
  have t2 := (HS6.out.2.2.2.1).below c (HS6.out.2.2.2.1).lt
  have t3 := (HS6.out.2.2.2.2.1).below c (HS6.out.2.2.2.2.1).lt
  have t4 := (HS6.out.2.2.2.2.2.1).below c (HS6.out.2.2.2.2.2.1).lt
  have t5 := (HS6.out.2.2.2.2.2.2).below c (HS6.out.2.2.2.2.2.2).lt
  have HS7 := Lib.hid (And.intro f (And.intro t0 (And.intro t1 (And.intro t2 (And.intro t3 (And.intro t4 t5))))))
  clear c f t0 t1 t2 t3 t4 t5
  have l0 := (HS7.out.2.1).lt
  have l1 := (HS7.out.2.2.1).lt
  have m10 := (HS7.out.2.2.1 0 _ rfl).1
  have m11 := (HS7.out.2.2.1 1 _ rfl).1
  have m12 := (HS7.out.2.2.1 2 _ rfl).1
  have l2 := (HS7.out.2.2.2.1).lt
  have l3 := (HS7.out.2.2.2.2.1).lt
  have l4 := (HS7.out.2.2.2.2.2.1).lt
  have m40 := (HS7.out.2.2.2.2.2.1 0 _ rfl).1
  have m41 := (HS7.out.2.2.2.2.2.1 1 _ rfl).1
  have m42 := (HS7.out.2.2.2.2.2.1 2 _ rfl).1
  have l5 := (HS7.out.2.2.2.2.2.2).lt
  have m50 := (HS7.out.2.2.2.2.2.2 0 _ rfl).1
  have m51 := (HS7.out.2.2.2.2.2.2 1 _ rfl).1
  have m52 := (HS7.out.2.2.2.2.2.2 2 _ rfl).1
  go_wp2_with fail
  refine (RA.out _ (tab_of HT.out HS7.out.1)).mono ?_
  rintro e wh ⟨rfl, c⟩
  have HF := Lib.hid (HS7.out.1.trans (c.mono HS7.out.1.size))
  clear c
  clear l0 l1 m10 m11 m12 l2 l3 l4 m40 m41 m42 l5 m50 m51 m52
  go_wp2_with fail
  go_ret
  exact ⟨rfl, HF.out⟩

set_option maxHeartbeats 16000000 in
set_option maxRecDepth 100000 in
theorem field_quo (na nb nc : Bool) (sa ta sb tb sc tc : ByteArray) (nd ne nf ng nh ni nj nk nm ny nq : Bool) (sd td se te sf tf sg tg sh th si ti sj tj sk tk sm tm sy ty sq tq : ByteArray) (k : Int) (hk : ¬ k = 0) (w : World) (htab : Tab w) (hsz : ∀ p ∈ ([(na, sa, ta), (nb, sb, tb), (nc, sc, tc)] : List (Bool × ByteArray × ByteArray)), p.2.1.size ≤ 9223372036854775807 ∧ p.2.2.size ≤ 9223372036854775807) (hg : ([(na, sa, ta), (nb, sb, tb), (nc, sc, tc)] : List (Bool × ByteArray × ByteArray)).any grt = false)
  (ca : ∀ W : World, Tab W → Calls Tryz.prog 14 #[] W fun e w' => e = .returned (.bool true) ∧ Below W.heap.size W w')
  (cs1 : ∀ W : World, Calls Tryz.prog 29 #[.agg #[.bool na, .string sa, .string ta], .agg #[.bool nb, .string sb, .string tb]] W fun e w' => e = .returned (.agg #[.bool nd, .string sd, .string td]) ∧ Below W.heap.size W w')
  (cs2 : ∀ W : World, Calls Tryz.prog 29 #[.agg #[.bool nb, .string sb, .string tb], .agg #[.bool na, .string sa, .string ta]] W fun e w' => e = .returned (.agg #[.bool nd, .string sd, .string td]) ∧ Below W.heap.size W w')
  (cp1 : ∀ W : World, Calls Tryz.prog 33 #[.agg #[.bool na, .string sa, .string ta], .agg #[.bool nb, .string sb, .string tb]] W fun e w' => e = .returned (.agg #[.bool ne, .string se, .string te]) ∧ Below W.heap.size W w')
  (cp2 : ∀ W : World, Calls Tryz.prog 33 #[.agg #[.bool nb, .string sb, .string tb], .agg #[.bool na, .string sa, .string ta]] W fun e w' => e = .returned (.agg #[.bool ne, .string se, .string te]) ∧ Below W.heap.size W w')
  (ct1 : ∀ W : World, Calls Tryz.prog 29 #[.agg #[.bool nd, .string sd, .string td], .agg #[.bool nc, .string sc, .string tc]] W fun e w' => e = .returned (.agg #[.bool nf, .string sf, .string tf]) ∧ Below W.heap.size W w')
  (cu1 : ∀ W : World, Calls Tryz.prog 29 #[.agg #[.bool nb, .string sb, .string tb], .agg #[.bool nc, .string sc, .string tc]] W fun e w' => e = .returned (.agg #[.bool ng, .string sg, .string tg]) ∧ Below W.heap.size W w')
  (ct2 : ∀ W : World, Calls Tryz.prog 29 #[.agg #[.bool na, .string sa, .string ta], .agg #[.bool ng, .string sg, .string tg]] W fun e w' => e = .returned (.agg #[.bool nf, .string sf, .string tf]) ∧ Below W.heap.size W w')
  (cq1 : ∀ W : World, Calls Tryz.prog 33 #[.agg #[.bool ne, .string se, .string te], .agg #[.bool nc, .string sc, .string tc]] W fun e w' => e = .returned (.agg #[.bool nh, .string sh, .string th]) ∧ Below W.heap.size W w')
  (cx1 : ∀ W : World, Calls Tryz.prog 33 #[.agg #[.bool nb, .string sb, .string tb], .agg #[.bool nc, .string sc, .string tc]] W fun e w' => e = .returned (.agg #[.bool ni, .string si, .string ti]) ∧ Below W.heap.size W w')
  (cq2 : ∀ W : World, Calls Tryz.prog 33 #[.agg #[.bool na, .string sa, .string ta], .agg #[.bool ni, .string si, .string ti]] W fun e w' => e = .returned (.agg #[.bool nh, .string sh, .string th]) ∧ Below W.heap.size W w')
  (cy1 : ∀ W : World, Calls Tryz.prog 33 #[.agg #[.bool na, .string sa, .string ta], .agg #[.bool ng, .string sg, .string tg]] W fun e w' => e = .returned (.agg #[.bool nj, .string sj, .string tj]) ∧ Below W.heap.size W w')
  (cz1 : ∀ W : World, Calls Tryz.prog 33 #[.agg #[.bool na, .string sa, .string ta], .agg #[.bool nc, .string sc, .string tc]] W fun e w' => e = .returned (.agg #[.bool nk, .string sk, .string tk]) ∧ Below W.heap.size W w')
  (cy2 : ∀ W : World, Calls Tryz.prog 29 #[.agg #[.bool ne, .string se, .string te], .agg #[.bool nk, .string sk, .string tk]] W fun e w' => e = .returned (.agg #[.bool nj, .string sj, .string tj]) ∧ Below W.heap.size W w')
  (co0 : ∀ W : World, Calls Tryz.prog 21 #[.int .i64 0] W fun e w' => e = .returned (.agg #[.bool false, .string ⟨#[]⟩, .string ⟨#[]⟩]) ∧ Below W.heap.size W w')
  (cm1 : ∀ W : World, Calls Tryz.prog 29 #[.agg #[.bool na, .string sa, .string ta], .agg #[.bool false, .string ⟨#[]⟩, .string ⟨#[]⟩]] W fun e w' => e = .returned (.agg #[.bool nm, .string sm, .string tm]) ∧ Below W.heap.size W w')
  (cm2 : ∀ W : World, Calls Tryz.prog 31 #[.agg #[.bool nd, .string sd, .string td], .agg #[.bool nb, .string sb, .string tb]] W fun e w' => e = .returned (.agg #[.bool nm, .string sm, .string tm]) ∧ Below W.heap.size W w')
  (cn1 : ∀ W : World, Calls Tryz.prog 27 #[.agg #[.bool na, .string sa, .string ta]] W fun e w' => e = .returned (.agg #[.bool ny, .string sy, .string ty]) ∧ Below W.heap.size W w')
  (cn2 : ∀ W : World, Calls Tryz.prog 29 #[.agg #[.bool na, .string sa, .string ta], .agg #[.bool ny, .string sy, .string ty]] W fun e w' => e = .returned (.agg #[.bool false, .string ⟨#[]⟩, .string ⟨#[]⟩]) ∧ Below W.heap.size W w')
  (co1 : ∀ W : World, Calls Tryz.prog 21 #[.int .i64 1] W fun e w' => e = .returned (.agg #[.bool false, .string ⟨#[1]⟩, .string ⟨#[]⟩]) ∧ Below W.heap.size W w')
  (cm3 : ∀ W : World, Calls Tryz.prog 33 #[.agg #[.bool na, .string sa, .string ta], .agg #[.bool false, .string ⟨#[1]⟩, .string ⟨#[]⟩]] W fun e w' => e = .returned (.agg #[.bool nm, .string sm, .string tm]) ∧ Below W.heap.size W w')
  (cg1 : ∀ W : World, Calls Tryz.prog 25 #[.agg #[.bool na, .string sa, .string ta], .agg #[.bool nb, .string sb, .string tb]] W fun e w' => e = .returned (.tuple #[.agg #[.bool nq, .string sq, .string tq], .int .i64 0]) ∧ Below W.heap.size W w')
  (ck1 : ∀ W : World, Calls Tryz.prog 37 #[.agg #[.bool nb, .string sb, .string tb]] W fun e w' => e = .returned (.int .i64 k) ∧ Below W.heap.size W w')
  (cm4 : ∀ W : World, Calls Tryz.prog 33 #[.agg #[.bool nq, .string sq, .string tq], .agg #[.bool nb, .string sb, .string tb]] W fun e w' => e = .returned (.agg #[.bool nm, .string sm, .string tm]) ∧ Below W.heap.size W w')
  : Calls Tryz.prog 7 #[.agg #[.bool na, .string sa, .string ta], .agg #[.bool nb, .string sb, .string tb], .agg #[.bool nc, .string sc, .string tc]] w fun e w' => e = .returned (.bool true) ∧ Below w.heap.size w w' := by
 have HT := Lib.hid htab
 have HG := Lib.hid hg
 have RA := Lib.hid ca
 have HS := Lib.hid hsz
 clear htab hg ca hsz
 have Rs1 := Lib.hid cs1
 have Rs2 := Lib.hid cs2
 have Rp1 := Lib.hid cp1
 have Rp2 := Lib.hid cp2
 have Rt1 := Lib.hid ct1
 have Ru1 := Lib.hid cu1
 have Rt2 := Lib.hid ct2
 have Rq1 := Lib.hid cq1
 have Rx1 := Lib.hid cx1
 have Rq2 := Lib.hid cq2
 have Ry1 := Lib.hid cy1
 have Rz1 := Lib.hid cz1
 have Ry2 := Lib.hid cy2
 have Ro0 := Lib.hid co0
 have Rm1 := Lib.hid cm1
 have Rm2 := Lib.hid cm2
 have Rn1 := Lib.hid cn1
 have Rn2 := Lib.hid cn2
 have Ro1 := Lib.hid co1
 have Rm3 := Lib.hid cm3
 have Rg1 := Lib.hid cg1
 have Rk1 := Lib.hid ck1
 have Rm4 := Lib.hid cm4
 clear cs1 cs2 cp1 cp2 ct1 cu1 ct2 cq1 cx1 cq2 cy1 cz1 cy2 co0 cm1 cm2 cn1 cn2 co1 cm3 cg1 ck1 cm4
 go_enter Tryz.func7, Tryz.ntmps7
 go_wp2_with fail
 obtain ⟨W0, hW0⟩ : ∃ V, ((((w.alloc (Obj.cells #[Value.bool na, Value.string sa, Value.string ta] 25)).alloc (Obj.cells #[Value.bool nb, Value.string sb, Value.string tb] 25)).alloc (Obj.cells #[Value.bool nc, Value.string sc, Value.string tc] 25)).alloc (Obj.cells #[Value.bool na, Value.string sa, Value.string ta, Value.bool nb, Value.string sb, Value.string tb, Value.bool nc, Value.string sc, Value.string tc] 25)) = V := ⟨_, rfl⟩
 have sW0 : W0.heap.size = w.heap.size + 1 + 1 + 1 + 1 := by rw [← hW0]; simp
 have k0 : Cells (w.heap.size) [.bool na, .string sa, .string ta] W0 := by
  rw [← hW0]
  have h := cells_new w #[.bool na, .string sa, .string ta] 25
  exact (((h.alloc (by simp; try omega) _).alloc (by simp; try omega) _).alloc (by simp; try omega) _)
 have k1 : Cells (w.heap.size + 1) [.bool nb, .string sb, .string tb] W0 := by
  rw [← hW0]
  have h := cells_new (w.alloc (Obj.cells #[Value.bool na, Value.string sa, Value.string ta] 25)) #[.bool nb, .string sb, .string tb] 25
  simp only [World.size_alloc] at h
  exact ((h.alloc (by simp; try omega) _).alloc (by simp; try omega) _)
 have k2 : Cells (w.heap.size + 1 + 1) [.bool nc, .string sc, .string tc] W0 := by
  rw [← hW0]
  have h := cells_new ((w.alloc (Obj.cells #[Value.bool na, Value.string sa, Value.string ta] 25)).alloc (Obj.cells #[Value.bool nb, Value.string sb, Value.string tb] 25)) #[.bool nc, .string sc, .string tc] 25
  simp only [World.size_alloc] at h
  exact (h.alloc (by simp; try omega) _)
 have k3 : Cells (w.heap.size + 1 + 1 + 1) [.bool na, .string sa, .string ta, .bool nb, .string sb, .string tb, .bool nc, .string sc, .string tc] W0 := by
  rw [← hW0]
  have h := cells_new (((w.alloc (Obj.cells #[Value.bool na, Value.string sa, Value.string ta] 25)).alloc (Obj.cells #[Value.bool nb, Value.string sb, Value.string tb] 25)).alloc (Obj.cells #[Value.bool nc, Value.string sc, Value.string tc] 25)) #[.bool na, .string sa, .string ta, .bool nb, .string sb, .string tb, .bool nc, .string sc, .string tc] 25
  simp only [World.size_alloc] at h
  exact h
 have bW0 : Below w.heap.size w W0 := by
  rw [← hW0]
  exact (((((Below.refl _ _).alloc (Nat.le_refl _) _).alloc (by simp; try omega) _).alloc (by simp; try omega) _).alloc (by simp; try omega) _)
 rw [hW0]
 clear hW0
 have hgr := rgreat_any _ [(na, sa, ta), (nb, sb, tb), (nc, sc, tc)] W0 (rowR_cells3 k3) k3.lt (by show 3 ≤ 1000; omega) HS.out
 rw [HG.out] at hgr
 have HGR := Lib.hid hgr
 clear hgr
 have HS0 := Lib.hid (And.intro bW0 (And.intro k0 (And.intro k1 (And.intro k2 k3))))
 clear bW0 k0 k1 k2 k3
 refine (HGR.out).mono ?_
 rintro e wg ⟨rfl, c⟩
 have f := HS0.out.1.trans (c.mono HS0.out.1.size)
 have t0 := (HS0.out.2.1).below c (HS0.out.2.1).lt
 have t1 := (HS0.out.2.2.1).below c (HS0.out.2.2.1).lt
 have t2 := (HS0.out.2.2.2.1).below c (HS0.out.2.2.2.1).lt
 have t3 := (HS0.out.2.2.2.2).below c (HS0.out.2.2.2.2).lt
 have HS1 := Lib.hid (And.intro f (And.intro t0 (And.intro t1 (And.intro t2 t3))))
 clear c f t0 t1 t2 t3
 have j1 := neq_ratF
 have j2 := guard_rat
 have j3 := eql_rat
 have e0 := eqR_same nd sd td
 have e1 := eqR_same ne se te
 have e2 := eqR_same nf sf tf
 have e3 := eqR_same nh sh th
 have e4 := eqR_same nj sj tj
 have l0 := (HS1.out.2.1).lt
 have m00 := (HS1.out.2.1 0 _ rfl).1
 have m01 := (HS1.out.2.1 1 _ rfl).1
 have m02 := (HS1.out.2.1 2 _ rfl).1
 have l1 := (HS1.out.2.2.1).lt
 have m10 := (HS1.out.2.2.1 0 _ rfl).1
 have m11 := (HS1.out.2.2.1 1 _ rfl).1
 have m12 := (HS1.out.2.2.1 2 _ rfl).1
 have l2 := (HS1.out.2.2.2.1).lt
 have m20 := (HS1.out.2.2.2.1 0 _ rfl).1
 have m21 := (HS1.out.2.2.2.1 1 _ rfl).1
 have m22 := (HS1.out.2.2.2.1 2 _ rfl).1
 have l3 := (HS1.out.2.2.2.2).lt
 go_wp2_with fail
 (try simp only [List.append_eq, List.cons_append, List.nil_append])
 have tok1 : True := trivial
 have tok2 : True := trivial
 have tok3 : True := trivial
 have tok4 : True := trivial
 have tok5 : True := trivial
 have tok6 : True := trivial
 have tok7 : True := trivial
 have tok8 : True := trivial
 have tok9 : True := trivial
 have tok10 : True := trivial
 have tok11 : True := trivial
 have tok12 : True := trivial
 have tok13 : True := trivial
 have tok14 : True := trivial
 have tok15 : True := trivial
 have tok16 : True := trivial
 have tok17 : True := trivial
 have hRb : wg.heap.size ≤ wg.heap.size := by omega
 go_region_held3 (fun w' => ∀ (a o : Nat), a < wg.heap.size → w'.cell? ⟨a, o, none⟩ = wg.cell? ⟨a, o, none⟩) (first | with_reducible assumption | (intro _ _ _; rfl) | (repeat' (first | with_reducible assumption | with_reducible exact keepN_refl _ _ | with_reducible (refine keepN_drew ?_) | with_reducible (refine keepN_set ?_ ?_) | with_reducible (refine keepN_alloc ?_ ?_) | exact Nat.le_refl _ | omega | (intro _ _ _; rfl))))
  (first | (go_at_call 29; have _t := tok1; clear tok1; refine (Rs1.out _).mono ?_; rintro e u1 ⟨rfl, d1⟩; have E1 := Lib.hid (d1); have kS1 : ∀ (a o : Nat), a < wg.heap.size → u1.cell? ⟨a, o, none⟩ = wg.cell? ⟨a, o, none⟩ := fun a o h => E1.out.cell (p := ⟨a, o, none⟩) (Nat.lt_of_lt_of_le h hRb); have hz1 : wg.heap.size ≤ u1.heap.size := E1.out.size; clear d1) | (go_at_call 29; have _t := tok2; clear tok2; refine (Rs2.out _).mono ?_; rintro e u2 ⟨rfl, d2⟩; have E2 := Lib.hid (E1.out.trans (d2.mono E1.out.size)); have kS2 : ∀ (a o : Nat), a < wg.heap.size → u2.cell? ⟨a, o, none⟩ = wg.cell? ⟨a, o, none⟩ := fun a o h => E2.out.cell (p := ⟨a, o, none⟩) (Nat.lt_of_lt_of_le h hRb); have hz2 : wg.heap.size ≤ u2.heap.size := E2.out.size; clear d2) | (go_at_call 33; have _t := tok3; clear tok3; refine (Rp1.out _).mono ?_; rintro e u3 ⟨rfl, d3⟩; have E3 := Lib.hid (E2.out.trans (d3.mono E2.out.size)); have kS3 : ∀ (a o : Nat), a < wg.heap.size → u3.cell? ⟨a, o, none⟩ = wg.cell? ⟨a, o, none⟩ := fun a o h => E3.out.cell (p := ⟨a, o, none⟩) (Nat.lt_of_lt_of_le h hRb); have hz3 : wg.heap.size ≤ u3.heap.size := E3.out.size; clear d3) | (go_at_call 33; have _t := tok4; clear tok4; refine (Rp2.out _).mono ?_; rintro e u4 ⟨rfl, d4⟩; have E4 := Lib.hid (E3.out.trans (d4.mono E3.out.size)); have kS4 : ∀ (a o : Nat), a < wg.heap.size → u4.cell? ⟨a, o, none⟩ = wg.cell? ⟨a, o, none⟩ := fun a o h => E4.out.cell (p := ⟨a, o, none⟩) (Nat.lt_of_lt_of_le h hRb); have hz4 : wg.heap.size ≤ u4.heap.size := E4.out.size; clear d4) | (go_at_call 29; have _t := tok5; clear tok5; refine (Rs1.out _).mono ?_; rintro e u5 ⟨rfl, d5⟩; have E5 := Lib.hid (E4.out.trans (d5.mono E4.out.size)); have kS5 : ∀ (a o : Nat), a < wg.heap.size → u5.cell? ⟨a, o, none⟩ = wg.cell? ⟨a, o, none⟩ := fun a o h => E5.out.cell (p := ⟨a, o, none⟩) (Nat.lt_of_lt_of_le h hRb); have hz5 : wg.heap.size ≤ u5.heap.size := E5.out.size; clear d5) | (go_at_call 29; have _t := tok6; clear tok6; refine (Rt1.out _).mono ?_; rintro e u6 ⟨rfl, d6⟩; have E6 := Lib.hid (E5.out.trans (d6.mono E5.out.size)); have kS6 : ∀ (a o : Nat), a < wg.heap.size → u6.cell? ⟨a, o, none⟩ = wg.cell? ⟨a, o, none⟩ := fun a o h => E6.out.cell (p := ⟨a, o, none⟩) (Nat.lt_of_lt_of_le h hRb); have hz6 : wg.heap.size ≤ u6.heap.size := E6.out.size; clear d6) | (go_at_call 29; have _t := tok7; clear tok7; refine (Ru1.out _).mono ?_; rintro e u7 ⟨rfl, d7⟩; have E7 := Lib.hid (E6.out.trans (d7.mono E6.out.size)); have kS7 : ∀ (a o : Nat), a < wg.heap.size → u7.cell? ⟨a, o, none⟩ = wg.cell? ⟨a, o, none⟩ := fun a o h => E7.out.cell (p := ⟨a, o, none⟩) (Nat.lt_of_lt_of_le h hRb); have hz7 : wg.heap.size ≤ u7.heap.size := E7.out.size; clear d7) | (go_at_call 29; have _t := tok8; clear tok8; refine (Rt2.out _).mono ?_; rintro e u8 ⟨rfl, d8⟩; have E8 := Lib.hid (E7.out.trans (d8.mono E7.out.size)); have kS8 : ∀ (a o : Nat), a < wg.heap.size → u8.cell? ⟨a, o, none⟩ = wg.cell? ⟨a, o, none⟩ := fun a o h => E8.out.cell (p := ⟨a, o, none⟩) (Nat.lt_of_lt_of_le h hRb); have hz8 : wg.heap.size ≤ u8.heap.size := E8.out.size; clear d8) | (go_at_call 33; have _t := tok9; clear tok9; refine (Rp1.out _).mono ?_; rintro e u9 ⟨rfl, d9⟩; have E9 := Lib.hid (E8.out.trans (d9.mono E8.out.size)); have kS9 : ∀ (a o : Nat), a < wg.heap.size → u9.cell? ⟨a, o, none⟩ = wg.cell? ⟨a, o, none⟩ := fun a o h => E9.out.cell (p := ⟨a, o, none⟩) (Nat.lt_of_lt_of_le h hRb); have hz9 : wg.heap.size ≤ u9.heap.size := E9.out.size; clear d9) | (go_at_call 33; have _t := tok10; clear tok10; refine (Rq1.out _).mono ?_; rintro e u10 ⟨rfl, d10⟩; have E10 := Lib.hid (E9.out.trans (d10.mono E9.out.size)); have kS10 : ∀ (a o : Nat), a < wg.heap.size → u10.cell? ⟨a, o, none⟩ = wg.cell? ⟨a, o, none⟩ := fun a o h => E10.out.cell (p := ⟨a, o, none⟩) (Nat.lt_of_lt_of_le h hRb); have hz10 : wg.heap.size ≤ u10.heap.size := E10.out.size; clear d10) | (go_at_call 33; have _t := tok11; clear tok11; refine (Rx1.out _).mono ?_; rintro e u11 ⟨rfl, d11⟩; have E11 := Lib.hid (E10.out.trans (d11.mono E10.out.size)); have kS11 : ∀ (a o : Nat), a < wg.heap.size → u11.cell? ⟨a, o, none⟩ = wg.cell? ⟨a, o, none⟩ := fun a o h => E11.out.cell (p := ⟨a, o, none⟩) (Nat.lt_of_lt_of_le h hRb); have hz11 : wg.heap.size ≤ u11.heap.size := E11.out.size; clear d11) | (go_at_call 33; have _t := tok12; clear tok12; refine (Rq2.out _).mono ?_; rintro e u12 ⟨rfl, d12⟩; have E12 := Lib.hid (E11.out.trans (d12.mono E11.out.size)); have kS12 : ∀ (a o : Nat), a < wg.heap.size → u12.cell? ⟨a, o, none⟩ = wg.cell? ⟨a, o, none⟩ := fun a o h => E12.out.cell (p := ⟨a, o, none⟩) (Nat.lt_of_lt_of_le h hRb); have hz12 : wg.heap.size ≤ u12.heap.size := E12.out.size; clear d12) | (go_at_call 29; have _t := tok13; clear tok13; refine (Ru1.out _).mono ?_; rintro e u13 ⟨rfl, d13⟩; have E13 := Lib.hid (E12.out.trans (d13.mono E12.out.size)); have kS13 : ∀ (a o : Nat), a < wg.heap.size → u13.cell? ⟨a, o, none⟩ = wg.cell? ⟨a, o, none⟩ := fun a o h => E13.out.cell (p := ⟨a, o, none⟩) (Nat.lt_of_lt_of_le h hRb); have hz13 : wg.heap.size ≤ u13.heap.size := E13.out.size; clear d13) | (go_at_call 33; have _t := tok14; clear tok14; refine (Ry1.out _).mono ?_; rintro e u14 ⟨rfl, d14⟩; have E14 := Lib.hid (E13.out.trans (d14.mono E13.out.size)); have kS14 : ∀ (a o : Nat), a < wg.heap.size → u14.cell? ⟨a, o, none⟩ = wg.cell? ⟨a, o, none⟩ := fun a o h => E14.out.cell (p := ⟨a, o, none⟩) (Nat.lt_of_lt_of_le h hRb); have hz14 : wg.heap.size ≤ u14.heap.size := E14.out.size; clear d14) | (go_at_call 33; have _t := tok15; clear tok15; refine (Rp1.out _).mono ?_; rintro e u15 ⟨rfl, d15⟩; have E15 := Lib.hid (E14.out.trans (d15.mono E14.out.size)); have kS15 : ∀ (a o : Nat), a < wg.heap.size → u15.cell? ⟨a, o, none⟩ = wg.cell? ⟨a, o, none⟩ := fun a o h => E15.out.cell (p := ⟨a, o, none⟩) (Nat.lt_of_lt_of_le h hRb); have hz15 : wg.heap.size ≤ u15.heap.size := E15.out.size; clear d15) | (go_at_call 33; have _t := tok16; clear tok16; refine (Rz1.out _).mono ?_; rintro e u16 ⟨rfl, d16⟩; have E16 := Lib.hid (E15.out.trans (d16.mono E15.out.size)); have kS16 : ∀ (a o : Nat), a < wg.heap.size → u16.cell? ⟨a, o, none⟩ = wg.cell? ⟨a, o, none⟩ := fun a o h => E16.out.cell (p := ⟨a, o, none⟩) (Nat.lt_of_lt_of_le h hRb); have hz16 : wg.heap.size ≤ u16.heap.size := E16.out.size; clear d16) | (go_at_call 29; have _t := tok17; clear tok17; refine (Ry2.out _).mono ?_; rintro e u17 ⟨rfl, d17⟩; have E17 := Lib.hid (E16.out.trans (d17.mono E16.out.size)); have kS17 : ∀ (a o : Nat), a < wg.heap.size → u17.cell? ⟨a, o, none⟩ = wg.cell? ⟨a, o, none⟩ := fun a o h => E17.out.cell (p := ⟨a, o, none⟩) (Nat.lt_of_lt_of_le h hRb); have hz17 : wg.heap.size ≤ u17.heap.size := E17.out.size; clear d17))
 clear l0 m00 m01 m02 l1 m10 m11 m12 l2 m20 m21 m22 l3
 clear e0 e1 e2 e3 e4
 have f := HS1.out.1.trans ((((Below.refl wg.heap.size wg).drew).trans E17.out).mono HS1.out.1.size)
 have t0 : Cells (w.heap.size) [.bool na, .string sa, .string ta] u17 := (show Cells _ _ wg.drew from HS1.out.2.1).below E17.out (HS1.out.2.1).lt
 have t1 : Cells (w.heap.size + 1) [.bool nb, .string sb, .string tb] u17 := (show Cells _ _ wg.drew from HS1.out.2.2.1).below E17.out (HS1.out.2.2.1).lt
 have t2 : Cells (w.heap.size + 1 + 1) [.bool nc, .string sc, .string tc] u17 := (show Cells _ _ wg.drew from HS1.out.2.2.2.1).below E17.out (HS1.out.2.2.2.1).lt
 have t3 : Cells (w.heap.size + 1 + 1 + 1) [.bool na, .string sa, .string ta, .bool nb, .string sb, .string tb, .bool nc, .string sc, .string tc] u17 := (show Cells _ _ wg.drew from HS1.out.2.2.2.2).below E17.out (HS1.out.2.2.2.2).lt
 have HS2 := Lib.hid (And.intro f (And.intro t0 (And.intro t1 (And.intro t2 t3))))
 clear f t0 t1 t2 t3 E1 kS1 hz1 E2 kS2 hz2 E3 kS3 hz3 E4 kS4 hz4 E5 kS5 hz5 E6 kS6 hz6 E7 kS7 hz7 E8 kS8 hz8 E9 kS9 hz9 E10 kS10 hz10 E11 kS11 hz11 E12 kS12 hz12 E13 kS13 hz13 E14 kS14 hz14 E15 kS15 hz15 E16 kS16 hz16 E17 kS17 hz17 hRb
 go_wp2_with fail
 refine wp_region_invA (fun a listed a' w' => ∃ t92 t93 t94 t95 t9 : Value, a' = puts a [(92, t92), (93, t93), (94, t94), (95, t95), (9, t9)] ∧ Below (u17.heap.size) u17 w' ∧ (listed.getD 0 false = true → t92 = .func (Fn.func 29) #[] #[]) ∧ (listed.getD 1 false = true → t93 = .agg #[.bool na, .string sa, .string ta]) ∧ (listed.getD 2 false = true → t94 = .agg #[.bool false, .string ⟨#[]⟩, .string ⟨#[]⟩]) ∧ (listed.getD 3 false = true → t95 = .agg #[.bool nm, .string sm, .string tm]) ∧ (listed.getD 4 false = true → ∃ (B : Nat) (x0 x1 x2 : Value), t9 = .pointer (some ⟨B, 0, none⟩) ∧ u17.heap.size ≤ B ∧ Cells B [x0, x1, x2] w' ∧ (listed.getD 5 false = true → x0 = .bool nm ∧ x1 = .string sm ∧ x2 = .string tm)) ∧ (listed.getD 5 false = true → listed.getD 4 false = true)) (by kernel_rfl) (by kernel_rfl) ?_ ?_ ?_
 ·exact ⟨undef, undef, undef, undef, undef, (by kernel_rfl), (Below.refl _ _).drew, (fun h => getD_rep h), (fun h => getD_rep h), (fun h => getD_rep h), (fun h => getD_rep h), (fun h => getD_rep h), (fun h => getD_rep h)⟩
 ·show InvSteps _ _ _ _ _ [0, 1, 2, 3, 4, 5]
  refine InvSteps.cons rfl (fun listed a w' K' hlt hun hdep hI hK => ?_) ?_
  ·obtain ⟨t92, t93, t94, t95, t9, ha, hb, h0, h1, h2, h3, h4, s5_4⟩ := hI
   clear hdep
   rw [ha]
   clear ha a
   simp only [puts_cons, puts_nil, Act.put, List.setIfInBounds_toArray, List.set_cons_zero, List.set_cons_succ]
   go_simp
   exact hK.out _ _ ⟨(.func (Fn.func 29) #[] #[]), t93, t94, t95, t9, (by kernel_rfl), hb, fun _ => rfl, fun h => h1 (getD_ne h (by decide : 0 ≠ 1)), fun h => h2 (getD_ne h (by decide : 0 ≠ 2)), fun h => h3 (getD_ne h (by decide : 0 ≠ 3)), fun h => by obtain ⟨B, x0, x1, x2, e, hB, kc, hf⟩ := h4 (getD_ne h (by decide : 0 ≠ 4)); exact ⟨B, x0, x1, x2, e, hB, kc, fun h => hf (getD_ne h (by decide : 0 ≠ 5))⟩, fun h => getD_set_true (s5_4 (getD_ne h (by decide : 0 ≠ 5)))⟩
  refine InvSteps.cons rfl (fun listed a w' K' hlt hun hdep hI hK => ?_) ?_
  ·obtain ⟨t92, t93, t94, t95, t9, ha, hb, h0, h1, h2, h3, h4, s5_4⟩ := hI
   clear hdep
   have kc := (HS2.out.2.1).below hb (by have := (HS2.out.2.1).lt; omega)
   have kl := kc.lt
   have k0 := (kc 0 _ rfl).1
   have k1 := (kc 1 _ rfl).1
   have k2 := (kc 2 _ rfl).1
   clear kc
   rw [ha]
   clear ha a
   simp only [puts_cons, puts_nil, Act.put, List.setIfInBounds_toArray, List.set_cons_zero, List.set_cons_succ]
   go_simp
   exact hK.out _ _ ⟨t92, (.agg #[.bool na, .string sa, .string ta]), t94, t95, t9, (by kernel_rfl), hb, fun h => h0 (getD_ne h (by decide : 1 ≠ 0)), fun _ => rfl, fun h => h2 (getD_ne h (by decide : 1 ≠ 2)), fun h => h3 (getD_ne h (by decide : 1 ≠ 3)), fun h => by obtain ⟨B, x0, x1, x2, e, hB, kc, hf⟩ := h4 (getD_ne h (by decide : 1 ≠ 4)); exact ⟨B, x0, x1, x2, e, hB, kc, fun h => hf (getD_ne h (by decide : 1 ≠ 5))⟩, fun h => getD_set_true (s5_4 (getD_ne h (by decide : 1 ≠ 5)))⟩
  refine InvSteps.cons rfl (fun listed a w' K' hlt hun hdep hI hK => ?_) ?_
  ·obtain ⟨t92, t93, t94, t95, t9, ha, hb, h0, h1, h2, h3, h4, s5_4⟩ := hI
   clear hdep
   rw [ha]
   clear ha a
   simp only [puts_cons, puts_nil, Act.put, List.setIfInBounds_toArray, List.set_cons_zero, List.set_cons_succ]
   go_simp
   refine (Ro0.out _).mono ?_
   rintro e u ⟨rfl, c⟩
   go_simp
   exact hK.out _ _ ⟨t92, t93, (.agg #[.bool false, .string ⟨#[]⟩, .string ⟨#[]⟩]), t95, t9, (by kernel_rfl), hb.trans (c.mono hb.size), fun h => h0 (getD_ne h (by decide : 2 ≠ 0)), fun h => h1 (getD_ne h (by decide : 2 ≠ 1)), fun _ => rfl, fun h => h3 (getD_ne h (by decide : 2 ≠ 3)), fun h => by obtain ⟨B, x0, x1, x2, e, hB, kc, hf⟩ := h4 (getD_ne h (by decide : 2 ≠ 4)); exact ⟨B, x0, x1, x2, e, hB, kc.below c kc.lt, fun h => hf (getD_ne h (by decide : 2 ≠ 5))⟩, fun h => getD_set_true (s5_4 (getD_ne h (by decide : 2 ≠ 5)))⟩
  refine InvSteps.cons rfl (fun listed a w' K' hlt hun hdep hI hK => ?_) ?_
  ·obtain ⟨t92, t93, t94, t95, t9, ha, hb, h0, h1, h2, h3, h4, s5_4⟩ := hI
   have H0 := hdep ⟨0, Ground.data⟩ (by simp) rfl
   have H1 := hdep ⟨1, Ground.data⟩ (by simp) rfl
   have H2 := hdep ⟨2, Ground.data⟩ (by simp) rfl
   clear hdep
   have g0 := h0 H0
   subst g0
   have g1 := h1 H1
   subst g1
   have g2 := h2 H2
   subst g2
   rw [ha]
   clear ha a
   simp only [puts_cons, puts_nil, Act.put, List.setIfInBounds_toArray, List.set_cons_zero, List.set_cons_succ]
   go_simp
   refine (Rm1.out _).mono ?_
   rintro e u ⟨rfl, c⟩
   go_simp
   exact hK.out _ _ ⟨(.func (Fn.func 29) #[] #[]), (.agg #[.bool na, .string sa, .string ta]), (.agg #[.bool false, .string ⟨#[]⟩, .string ⟨#[]⟩]), (.agg #[.bool nm, .string sm, .string tm]), t9, (by kernel_rfl), hb.trans (c.mono hb.size), fun _ => rfl, fun _ => rfl, fun _ => rfl, fun _ => rfl, fun h => by obtain ⟨B, x0, x1, x2, e, hB, kc, hf⟩ := h4 (getD_ne h (by decide : 3 ≠ 4)); exact ⟨B, x0, x1, x2, e, hB, kc.below c kc.lt, fun h => hf (getD_ne h (by decide : 3 ≠ 5))⟩, fun h => getD_set_true (s5_4 (getD_ne h (by decide : 3 ≠ 5)))⟩
  refine InvSteps.cons rfl (fun listed a w' K' hlt hun hdep hI hK => ?_) ?_
  ·obtain ⟨t92, t93, t94, t95, t9, ha, hb, h0, h1, h2, h3, h4, s5_4⟩ := hI
   clear hdep
   rw [ha]
   clear ha a
   simp only [puts_cons, puts_nil, Act.put, List.setIfInBounds_toArray, List.set_cons_zero, List.set_cons_succ]
   go_simp
   exact hK.out _ _ ⟨t92, t93, t94, t95, (.pointer (some ⟨w'.heap.size, 0, none⟩)), (by kernel_rfl), hb.alloc hb.size _, fun h => h0 (getD_ne h (by decide : 4 ≠ 0)), fun h => h1 (getD_ne h (by decide : 4 ≠ 1)), fun h => h2 (getD_ne h (by decide : 4 ≠ 2)), fun h => h3 (getD_ne h (by decide : 4 ≠ 3)), fun _ => ⟨_, _, _, _, rfl, hb.size, cells_new w' #[Value.bool false, Value.string ⟨#[]⟩, Value.string ⟨#[]⟩] 25, fun h => by have h' := s5_4 (getD_ne h (by decide : 4 ≠ 5)); rw [hun] at h'; cases h'⟩, fun _ => getD_self hlt⟩
  refine InvSteps.cons rfl (fun listed a w' K' hlt hun hdep hI hK => ?_) ?_
  ·obtain ⟨t92, t93, t94, t95, t9, ha, hb, h0, h1, h2, h3, h4, s5_4⟩ := hI
   have H4 := hdep ⟨4, Ground.data⟩ (by simp) rfl
   have H3 := hdep ⟨3, Ground.data⟩ (by simp) rfl
   have H0 := hdep ⟨0, Ground.phase⟩ (by simp) rfl
   have H1 := hdep ⟨1, Ground.phase⟩ (by simp) rfl
   have H2 := hdep ⟨2, Ground.phase⟩ (by simp) rfl
   clear hdep
   have g3 := h3 H3
   subst g3
   have g0 := h0 H0
   subst g0
   have g1 := h1 H1
   subst g1
   have g2 := h2 H2
   subst g2
   obtain ⟨B, x0, x1, x2, rfl, hB, kc, _⟩ := h4 H4
   have kl := kc.lt
   have k0 := (kc 0 _ rfl).1
   have z0 := (kc 0 _ rfl).2
   have k1 := (kc 1 _ rfl).1
   have z1 := (kc 1 _ rfl).2
   have k2 := (kc 2 _ rfl).1
   have z2 := (kc 2 _ rfl).2
   rw [ha]
   clear ha a
   simp only [puts_cons, puts_nil, Act.put, List.setIfInBounds_toArray, List.set_cons_zero, List.set_cons_succ]
   go_simp
   have yc0 : Cells (B) [.bool nm, x1, x2] _ := (kc).set (k := 0) (Value.bool nm) _ rfl
   have yc1 : Cells (B) [.bool nm, .string sm, x2] _ := (yc0).set (k := 1) (Value.string sm) _ rfl
   have yc2 : Cells (B) [.bool nm, .string sm, .string tm] _ := (yc1).set (k := 2) (Value.string tm) _ rfl
   exact hK.out _ _ ⟨(.func (Fn.func 29) #[] #[]), (.agg #[.bool na, .string sa, .string ta]), (.agg #[.bool false, .string ⟨#[]⟩, .string ⟨#[]⟩]), (.agg #[.bool nm, .string sm, .string tm]), (.pointer (some ⟨B, 0, none⟩)), (by kernel_rfl), (below_sets (below_sets (below_sets hb hB 0 (Value.bool nm)) hB 1 (Value.string sm)) hB 2 (Value.string tm)), fun _ => rfl, fun _ => rfl, fun _ => rfl, fun _ => rfl, fun _ => ⟨B, _, _, _, rfl, hB, yc2, fun _ => ⟨rfl, rfl, rfl⟩⟩, fun _ => getD_set_true H4⟩
  exact InvSteps.nil
 ·intro listed a w3 hl hI
  obtain ⟨t92, t93, t94, t95, t9, ha, hb, h0, h1, h2, h3, h4, s5_4⟩ := hI
  have H0 := hl 0 (by show 0 < 6; omega)
  have H1 := hl 1 (by show 1 < 6; omega)
  have H2 := hl 2 (by show 2 < 6; omega)
  have H3 := hl 3 (by show 3 < 6; omega)
  have H4 := hl 4 (by show 4 < 6; omega)
  have H5 := hl 5 (by show 5 < 6; omega)
  have g0 := h0 H0
  subst g0
  have g1 := h1 H1
  subst g1
  have g2 := h2 H2
  subst g2
  have g3 := h3 H3
  subst g3
  obtain ⟨B4, y4_0, y4_1, y4_2, rfl, r4, c4, f4⟩ := h4 H4
  obtain ⟨rfl, rfl, rfl⟩ := f4 H5
  clear H0 H1 H2 H3 H4 H5 hl h0 h1 h2 h3 h4 s5_4 f4 listed
  rw [ha]
  clear ha a
  simp only [puts_cons, puts_nil, Act.put, List.setIfInBounds_toArray, List.set_cons_zero, List.set_cons_succ]
  clear r4
  have f := HS2.out.1.trans (hb.mono HS2.out.1.size)
  have t0 := (HS2.out.2.1).below hb (HS2.out.2.1).lt
  have t1 := (HS2.out.2.2.1).below hb (HS2.out.2.2.1).lt
  have t2 := (HS2.out.2.2.2.1).below hb (HS2.out.2.2.2.1).lt
  have t3 := (HS2.out.2.2.2.2).below hb (HS2.out.2.2.2.2).lt
  have HS3 := Lib.hid (And.intro f (And.intro t0 (And.intro t1 (And.intro t2 (And.intro t3 c4)))))
  clear f hb t0 t1 t2 t3 c4
  have e0 := eqR_same nm sm tm
  have e1 := eqR_same false ⟨#[]⟩ ⟨#[]⟩
  have l0 := (HS3.out.2.1).lt
  have m00 := (HS3.out.2.1 0 _ rfl).1
  have m01 := (HS3.out.2.1 1 _ rfl).1
  have m02 := (HS3.out.2.1 2 _ rfl).1
  have l1 := (HS3.out.2.2.1).lt
  have m10 := (HS3.out.2.2.1 0 _ rfl).1
  have m11 := (HS3.out.2.2.1 1 _ rfl).1
  have m12 := (HS3.out.2.2.1 2 _ rfl).1
  have l2 := (HS3.out.2.2.2.1).lt
  have l3 := (HS3.out.2.2.2.2.1).lt
  have l4 := (HS3.out.2.2.2.2.2).lt
  have m40 := (HS3.out.2.2.2.2.2 0 _ rfl).1
  have m41 := (HS3.out.2.2.2.2.2 1 _ rfl).1
  have m42 := (HS3.out.2.2.2.2.2 2 _ rfl).1
  go_wp2_with fail
  (try simp only [List.append_eq, List.cons_append, List.nil_append])
  have tok1 : True := trivial
  have tok2 : True := trivial
  have tok3 : True := trivial
  have tok4 : True := trivial
  have tok5 : True := trivial
  have tok6 : True := trivial
  have tok7 : True := trivial
  have hRb : w3.heap.size ≤ w3.heap.size := by omega
  go_region_held3 (fun w' => ∀ (a o : Nat), a < w3.heap.size → w'.cell? ⟨a, o, none⟩ = w3.cell? ⟨a, o, none⟩) (first | with_reducible assumption | (intro _ _ _; rfl) | (repeat' (first | with_reducible assumption | with_reducible exact keepN_refl _ _ | with_reducible (refine keepN_drew ?_) | with_reducible (refine keepN_set ?_ ?_) | with_reducible (refine keepN_alloc ?_ ?_) | exact Nat.le_refl _ | omega | (intro _ _ _; rfl))))
   (first | (go_at_call 29; have _t := tok1; clear tok1; refine (Rs1.out _).mono ?_; rintro e u1 ⟨rfl, d1⟩; have E1 := Lib.hid (d1); have kS1 : ∀ (a o : Nat), a < w3.heap.size → u1.cell? ⟨a, o, none⟩ = w3.cell? ⟨a, o, none⟩ := fun a o h => E1.out.cell (p := ⟨a, o, none⟩) (Nat.lt_of_lt_of_le h hRb); have hz1 : w3.heap.size ≤ u1.heap.size := E1.out.size; clear d1) | (go_at_call 31; have _t := tok2; clear tok2; refine (Rm2.out _).mono ?_; rintro e u2 ⟨rfl, d2⟩; have E2 := Lib.hid (E1.out.trans (d2.mono E1.out.size)); have kS2 : ∀ (a o : Nat), a < w3.heap.size → u2.cell? ⟨a, o, none⟩ = w3.cell? ⟨a, o, none⟩ := fun a o h => E2.out.cell (p := ⟨a, o, none⟩) (Nat.lt_of_lt_of_le h hRb); have hz2 : w3.heap.size ≤ u2.heap.size := E2.out.size; clear d2) | (go_at_call 27; have _t := tok3; clear tok3; refine (Rn1.out _).mono ?_; rintro e u3 ⟨rfl, d3⟩; have E3 := Lib.hid (E2.out.trans (d3.mono E2.out.size)); have kS3 : ∀ (a o : Nat), a < w3.heap.size → u3.cell? ⟨a, o, none⟩ = w3.cell? ⟨a, o, none⟩ := fun a o h => E3.out.cell (p := ⟨a, o, none⟩) (Nat.lt_of_lt_of_le h hRb); have hz3 : w3.heap.size ≤ u3.heap.size := E3.out.size; clear d3) | (go_at_call 29; have _t := tok4; clear tok4; refine (Rn2.out _).mono ?_; rintro e u4 ⟨rfl, d4⟩; have E4 := Lib.hid (E3.out.trans (d4.mono E3.out.size)); have kS4 : ∀ (a o : Nat), a < w3.heap.size → u4.cell? ⟨a, o, none⟩ = w3.cell? ⟨a, o, none⟩ := fun a o h => E4.out.cell (p := ⟨a, o, none⟩) (Nat.lt_of_lt_of_le h hRb); have hz4 : w3.heap.size ≤ u4.heap.size := E4.out.size; clear d4) | (go_at_call 21; have _t := tok5; clear tok5; refine (Ro0.out _).mono ?_; rintro e u5 ⟨rfl, d5⟩; have E5 := Lib.hid (E4.out.trans (d5.mono E4.out.size)); have kS5 : ∀ (a o : Nat), a < w3.heap.size → u5.cell? ⟨a, o, none⟩ = w3.cell? ⟨a, o, none⟩ := fun a o h => E5.out.cell (p := ⟨a, o, none⟩) (Nat.lt_of_lt_of_le h hRb); have hz5 : w3.heap.size ≤ u5.heap.size := E5.out.size; clear d5) | (go_at_call 21; have _t := tok6; clear tok6; refine (Ro1.out _).mono ?_; rintro e u6 ⟨rfl, d6⟩; have E6 := Lib.hid (E5.out.trans (d6.mono E5.out.size)); have kS6 : ∀ (a o : Nat), a < w3.heap.size → u6.cell? ⟨a, o, none⟩ = w3.cell? ⟨a, o, none⟩ := fun a o h => E6.out.cell (p := ⟨a, o, none⟩) (Nat.lt_of_lt_of_le h hRb); have hz6 : w3.heap.size ≤ u6.heap.size := E6.out.size; clear d6) | (go_at_call 33; have _t := tok7; clear tok7; refine (Rm3.out _).mono ?_; rintro e u7 ⟨rfl, d7⟩; have E7 := Lib.hid (E6.out.trans (d7.mono E6.out.size)); have kS7 : ∀ (a o : Nat), a < w3.heap.size → u7.cell? ⟨a, o, none⟩ = w3.cell? ⟨a, o, none⟩ := fun a o h => E7.out.cell (p := ⟨a, o, none⟩) (Nat.lt_of_lt_of_le h hRb); have hz7 : w3.heap.size ≤ u7.heap.size := E7.out.size; clear d7))
  clear l0 m00 m01 m02 l1 m10 m11 m12 l2 l3 l4 m40 m41 m42
  have f := HS3.out.1.trans ((((Below.refl w3.heap.size w3).drew).trans E7.out).mono HS3.out.1.size)
  have t0 : Cells (w.heap.size) [.bool na, .string sa, .string ta] u7 := (show Cells _ _ w3.drew from HS3.out.2.1).below E7.out (HS3.out.2.1).lt
  have t1 : Cells (w.heap.size + 1) [.bool nb, .string sb, .string tb] u7 := (show Cells _ _ w3.drew from HS3.out.2.2.1).below E7.out (HS3.out.2.2.1).lt
  have t2 : Cells (w.heap.size + 1 + 1) [.bool nc, .string sc, .string tc] u7 := (show Cells _ _ w3.drew from HS3.out.2.2.2.1).below E7.out (HS3.out.2.2.2.1).lt
  have t3 : Cells (w.heap.size + 1 + 1 + 1) [.bool na, .string sa, .string ta, .bool nb, .string sb, .string tb, .bool nc, .string sc, .string tc] u7 := (show Cells _ _ w3.drew from HS3.out.2.2.2.2.1).below E7.out (HS3.out.2.2.2.2.1).lt
  have t4 : Cells (B4) [.bool nm, .string sm, .string tm] u7 := (show Cells _ _ w3.drew from HS3.out.2.2.2.2.2).below E7.out (HS3.out.2.2.2.2.2).lt
  have HS4 := Lib.hid (And.intro f (And.intro t0 (And.intro t1 (And.intro t2 (And.intro t3 t4)))))
  clear f t0 t1 t2 t3 t4 E1 kS1 hz1 E2 kS2 hz2 E3 kS3 hz3 E4 kS4 hz4 E5 kS5 hz5 E6 kS6 hz6 E7 kS7 hz7 hRb
  have l0 := (HS4.out.2.1).lt
  have m00 := (HS4.out.2.1 0 _ rfl).1
  have m01 := (HS4.out.2.1 1 _ rfl).1
  have m02 := (HS4.out.2.1 2 _ rfl).1
  have l1 := (HS4.out.2.2.1).lt
  have m10 := (HS4.out.2.2.1 0 _ rfl).1
  have m11 := (HS4.out.2.2.1 1 _ rfl).1
  have m12 := (HS4.out.2.2.1 2 _ rfl).1
  have l2 := (HS4.out.2.2.2.1).lt
  have l3 := (HS4.out.2.2.2.2.1).lt
  have l4 := (HS4.out.2.2.2.2.2).lt
  go_wp2_with fail
  clear l0 m00 m01 m02 l1 m10 m11 m12 l2 l3 l4
  refine (Rg1.out _).mono ?_
  rintro e w5 ⟨rfl, c⟩
  have f := HS4.out.1.trans (c.mono HS4.out.1.size)
  have t0 := (HS4.out.2.1).below c (HS4.out.2.1).lt
  have t1 := (HS4.out.2.2.1).below c (HS4.out.2.2.1).lt
  have t2 := (HS4.out.2.2.2.1).below c (HS4.out.2.2.2.1).lt
  have t3 := (HS4.out.2.2.2.2.1).below c (HS4.out.2.2.2.2.1).lt
  have t4 := (HS4.out.2.2.2.2.2).below c (HS4.out.2.2.2.2.2).lt
  have HS5 := Lib.hid (And.intro f (And.intro t0 (And.intro t1 (And.intro t2 (And.intro t3 t4)))))
  clear c f t0 t1 t2 t3 t4
  have l0 := (HS5.out.2.1).lt
  have l1 := (HS5.out.2.2.1).lt
  have m10 := (HS5.out.2.2.1 0 _ rfl).1
  have m11 := (HS5.out.2.2.1 1 _ rfl).1
  have m12 := (HS5.out.2.2.1 2 _ rfl).1
  have l2 := (HS5.out.2.2.2.1).lt
  have l3 := (HS5.out.2.2.2.2.1).lt
  have l4 := (HS5.out.2.2.2.2.2).lt
  go_wp2_with fail
  clear l0 l1 m10 m11 m12 l2 l3 l4
  obtain ⟨w6, hw6⟩ : ∃ V, (w5.alloc (Obj.cells #[Value.bool nq, Value.string sq, Value.string tq] 25)) = V := ⟨_, rfl⟩
  obtain ⟨BQ, hBQ⟩ : ∃ B, w5.heap.size = B := ⟨_, rfl⟩
  have f : Below w.heap.size w w6 := by rw [← hw6]; exact (HS5.out.1.alloc (by have := HS5.out.1.size; simp; try omega) _)
  have t0 : Cells (w.heap.size) [.bool na, .string sa, .string ta] w6 := by rw [← hw6]; exact ((HS5.out.2.1).alloc (by have := (HS5.out.2.1).lt; simp; try omega) _)
  have t1 : Cells (w.heap.size + 1) [.bool nb, .string sb, .string tb] w6 := by rw [← hw6]; exact ((HS5.out.2.2.1).alloc (by have := (HS5.out.2.2.1).lt; simp; try omega) _)
  have t2 : Cells (w.heap.size + 1 + 1) [.bool nc, .string sc, .string tc] w6 := by rw [← hw6]; exact ((HS5.out.2.2.2.1).alloc (by have := (HS5.out.2.2.2.1).lt; simp; try omega) _)
  have t3 : Cells (w.heap.size + 1 + 1 + 1) [.bool na, .string sa, .string ta, .bool nb, .string sb, .string tb, .bool nc, .string sc, .string tc] w6 := by rw [← hw6]; exact ((HS5.out.2.2.2.2.1).alloc (by have := (HS5.out.2.2.2.2.1).lt; simp; try omega) _)
  have t4 : Cells (B4) [.bool nm, .string sm, .string tm] w6 := by rw [← hw6]; exact ((HS5.out.2.2.2.2.2).alloc (by have := (HS5.out.2.2.2.2.2).lt; simp; try omega) _)
  have t5 : Cells BQ [.bool nq, .string sq, .string tq] w6 := by
   rw [← hw6, ← hBQ]
   have h := cells_new w5 #[.bool nq, .string sq, .string tq] 25
   exact h
  have xBQ0 : ¬ (w.heap.size) = BQ := by have := (HS5.out.2.1).lt; omega
  have xBQ1 : ¬ (w.heap.size + 1) = BQ := by have := (HS5.out.2.2.1).lt; omega
  have xBQ2 : ¬ (w.heap.size + 1 + 1) = BQ := by have := (HS5.out.2.2.2.1).lt; omega
  have xBQ3 : ¬ (w.heap.size + 1 + 1 + 1) = BQ := by have := (HS5.out.2.2.2.2.1).lt; omega
  have xBQ4 : ¬ (B4) = BQ := by have := (HS5.out.2.2.2.2.2).lt; omega
  have gBQ : w.heap.size ≤ BQ := by have := HS5.out.1.size; omega
  have HS6 := Lib.hid (And.intro f (And.intro t0 (And.intro t1 (And.intro t2 (And.intro t3 (And.intro t4 t5))))))
  rw [hw6]
  (try rw [hBQ])
  clear hw6 hBQ f t0 t1 t2 t3 t4 t5
  refine (Rk1.out _).mono ?_
  rintro e w7 ⟨rfl, c⟩
  have f := HS6.out.1.trans (c.mono HS6.out.1.size)
  have t0 := (HS6.out.2.1).below c (HS6.out.2.1).lt
  have t1 := (HS6.out.2.2.1).below c (HS6.out.2.2.1).lt
  have t2 := (HS6.out.2.2.2.1).below c (HS6.out.2.2.2.1).lt
  have t3 := (HS6.out.2.2.2.2.1).below c (HS6.out.2.2.2.2.1).lt
  have t4 := (HS6.out.2.2.2.2.2.1).below c (HS6.out.2.2.2.2.2.1).lt
  have t5 := (HS6.out.2.2.2.2.2.2).below c (HS6.out.2.2.2.2.2.2).lt
  have HS7 := Lib.hid (And.intro f (And.intro t0 (And.intro t1 (And.intro t2 (And.intro t3 (And.intro t4 t5))))))
  clear c f t0 t1 t2 t3 t4 t5
  have l0 := (HS7.out.2.1).lt
  have l1 := (HS7.out.2.2.1).lt
  have m10 := (HS7.out.2.2.1 0 _ rfl).1
  have m11 := (HS7.out.2.2.1 1 _ rfl).1
  have m12 := (HS7.out.2.2.1 2 _ rfl).1
  have l2 := (HS7.out.2.2.2.1).lt
  have l3 := (HS7.out.2.2.2.2.1).lt
  have l4 := (HS7.out.2.2.2.2.2.1).lt
  have m40 := (HS7.out.2.2.2.2.2.1 0 _ rfl).1
  have m41 := (HS7.out.2.2.2.2.2.1 1 _ rfl).1
  have m42 := (HS7.out.2.2.2.2.2.1 2 _ rfl).1
  have l5 := (HS7.out.2.2.2.2.2.2).lt
  have m50 := (HS7.out.2.2.2.2.2.2 0 _ rfl).1
  have m51 := (HS7.out.2.2.2.2.2.2 1 _ rfl).1
  have m52 := (HS7.out.2.2.2.2.2.2 2 _ rfl).1
  go_wp2_with fail
  have htd : Tab w7.drew := tab_of HT.out (HS7.out.1.trans ((Below.refl w7.heap.size w7).drew.mono HS7.out.1.size))
  have HTD := Lib.hid htd
  clear htd
  have tok1 : True := trivial
  have tok2 : True := trivial
  have hRb : w7.heap.size ≤ w7.heap.size := by omega
  go_region_held3 (fun w' => ∀ (a o : Nat), a < w7.heap.size → w'.cell? ⟨a, o, none⟩ = w7.cell? ⟨a, o, none⟩) (first | with_reducible assumption | (intro _ _ _; rfl) | (repeat' (first | with_reducible assumption | with_reducible exact keepN_refl _ _ | with_reducible (refine keepN_drew ?_) | with_reducible (refine keepN_set ?_ ?_) | with_reducible (refine keepN_alloc ?_ ?_) | exact Nat.le_refl _ | omega | (intro _ _ _; rfl))))
   (first | (go_at_call 33; have _t := tok1; clear tok1; refine (Rm4.out _).mono ?_; rintro e u1 ⟨rfl, d1⟩; have E1 := Lib.hid (d1); have kS1 : ∀ (a o : Nat), a < w7.heap.size → u1.cell? ⟨a, o, none⟩ = w7.cell? ⟨a, o, none⟩ := fun a o h => E1.out.cell (p := ⟨a, o, none⟩) (Nat.lt_of_lt_of_le h hRb); have hz1 : w7.heap.size ≤ u1.heap.size := E1.out.size; clear d1) | (go_at_call 14; have _t := tok2; clear tok2; refine (RA.out _ (tab_of HTD.out E1.out)).mono ?_; rintro e u2 ⟨rfl, d2⟩; have E2 := Lib.hid (E1.out.trans (d2.mono E1.out.size)); have kS2 : ∀ (a o : Nat), a < w7.heap.size → u2.cell? ⟨a, o, none⟩ = w7.cell? ⟨a, o, none⟩ := fun a o h => E2.out.cell (p := ⟨a, o, none⟩) (Nat.lt_of_lt_of_le h hRb); have hz2 : w7.heap.size ≤ u2.heap.size := E2.out.size; clear d2))
  go_wp2_with fail
  go_ret
  exact ⟨rfl, HS7.out.1.trans ((((Below.refl w7.heap.size w7).drew).trans E2.out).mono HS7.out.1.size)⟩

end Go.Proofs.YtpdhffjdgnpikaaGreatDoor
