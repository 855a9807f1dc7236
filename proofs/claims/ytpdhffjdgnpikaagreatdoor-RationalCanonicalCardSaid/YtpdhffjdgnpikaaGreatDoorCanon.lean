/- The walk of narrowslaw02.RationalCanonical. -/
import Derived.Test.YtpdhffjdgnpikaaGreatDoorRatLaw
import Derived.Test.YtpdhffjdgnpikaaGreatDoorRatEq
import Derived.Test.YtpdhffjdgnpikaaGreatDoorInv
namespace Go.Proofs.YtpdhffjdgnpikaaGreatDoor
open Go.RowKit Go.Shelf

theorem rowR_cells2 {B : Nat} {n1 n2 : Bool} {s1 t1 s2 t2 : ByteArray} {W : World} (h : Cells B [.bool n1, .string s1, .string t1, .bool n2, .string s2, .string t2] W) : RowR W B [(n1, s1, t1), (n2, s2, t2)] := by
 intro j hj
 have hj1 : j < 2 := hj
 rcases j with _ | _ | j
 ·exact ⟨(h 0 _ rfl).1, (h 1 _ rfl).1, (h 2 _ rfl).1⟩
 ·exact ⟨(h 3 _ rfl).1, (h 4 _ rfl).1, (h 5 _ rfl).1⟩
 ·omega
theorem rowR_cells5 {B : Nat} {n1 n2 n3 n4 n5 : Bool} {s1 t1 s2 t2 s3 t3 s4 t4 s5 t5 : ByteArray} {W : World} (h : Cells B [.bool n1, .string s1, .string t1, .bool n2, .string s2, .string t2, .bool n3, .string s3, .string t3, .bool n4, .string s4, .string t4, .bool n5, .string s5, .string t5] W) : RowR W B [(n1, s1, t1), (n2, s2, t2), (n3, s3, t3), (n4, s4, t4), (n5, s5, t5)] := by
 intro j hj
 have hj1 : j < 5 := hj
 rcases j with _ | _ | _ | _ | _ | j
 ·exact ⟨(h 0 _ rfl).1, (h 1 _ rfl).1, (h 2 _ rfl).1⟩
 ·exact ⟨(h 3 _ rfl).1, (h 4 _ rfl).1, (h 5 _ rfl).1⟩
 ·exact ⟨(h 6 _ rfl).1, (h 7 _ rfl).1, (h 8 _ rfl).1⟩
 ·exact ⟨(h 9 _ rfl).1, (h 10 _ rfl).1, (h 11 _ rfl).1⟩
 ·exact ⟨(h 12 _ rfl).1, (h 13 _ rfl).1, (h 14 _ rfl).1⟩
 ·omega
set_option maxHeartbeats 16000000 in
set_option maxRecDepth 100000 in
theorem canon_great (na nb : Bool) (sa ta sb tb : ByteArray)  (w : World) (htab : Tab w) (hsz : ∀ p ∈ ([(na, sa, ta), (nb, sb, tb)] : List (Bool × ByteArray × ByteArray)), p.2.1.size ≤ 9223372036854775807 ∧ p.2.2.size ≤ 9223372036854775807) (hg : ([(na, sa, ta), (nb, sb, tb)] : List (Bool × ByteArray × ByteArray)).any grt = true)
  (ca : ∀ W : World, Tab W → Calls Tryz.prog 14 #[] W fun e w' => e = .returned (.bool true) ∧ Below W.heap.size W w') :
  Calls Tryz.prog 11 #[.agg #[.bool na, .string sa, .string ta], .agg #[.bool nb, .string sb, .string tb]] w fun e w' => e = .returned (.bool true) ∧ Below w.heap.size w w' := by
 have HT := Lib.hid htab
 have HG := Lib.hid hg
 have RA := Lib.hid ca
 have HS := Lib.hid hsz
 clear htab hg ca hsz
 go_enter Tryz.func11, Tryz.ntmps11
 go_wp2_with fail
 obtain ⟨W0, hW0⟩ : ∃ V, (((w.alloc (Obj.cells #[Value.bool na, Value.string sa, Value.string ta] 25)).alloc (Obj.cells #[Value.bool nb, Value.string sb, Value.string tb] 25)).alloc (Obj.cells #[Value.bool na, Value.string sa, Value.string ta, Value.bool nb, Value.string sb, Value.string tb] 25)) = V := ⟨_, rfl⟩
 have sW0 : W0.heap.size = w.heap.size + 1 + 1 + 1 := by rw [← hW0]; simp
 have k0 : Cells (w.heap.size) [.bool na, .string sa, .string ta] W0 := by
  rw [← hW0]
  have h := cells_new w #[.bool na, .string sa, .string ta] 25
  exact ((h.alloc (by simp; try omega) _).alloc (by simp; try omega) _)
 have k1 : Cells (w.heap.size + 1) [.bool nb, .string sb, .string tb] W0 := by
  rw [← hW0]
  have h := cells_new (w.alloc (Obj.cells #[Value.bool na, Value.string sa, Value.string ta] 25)) #[.bool nb, .string sb, .string tb] 25
  simp only [World.size_alloc] at h
  exact (h.alloc (by simp; try omega) _)
 have k2 : Cells (w.heap.size + 1 + 1) [.bool na, .string sa, .string ta, .bool nb, .string sb, .string tb] W0 := by
  rw [← hW0]
  have h := cells_new ((w.alloc (Obj.cells #[Value.bool na, Value.string sa, Value.string ta] 25)).alloc (Obj.cells #[Value.bool nb, Value.string sb, Value.string tb] 25)) #[.bool na, .string sa, .string ta, .bool nb, .string sb, .string tb] 25
  simp only [World.size_alloc] at h
  exact h
 have bW0 : Below w.heap.size w W0 := by
  rw [← hW0]
  exact ((((Below.refl _ _).alloc (Nat.le_refl _) _).alloc (by simp; try omega) _).alloc (by simp; try omega) _)
 rw [hW0]
 clear hW0
 have hgr := rgreat_any _ [(na, sa, ta), (nb, sb, tb)] W0 (rowR_cells2 k2) k2.lt (by show 2 ≤ 1000; omega) HS.out
 rw [HG.out] at hgr
 have HGR := Lib.hid hgr
 clear hgr
 have HS0 := Lib.hid (And.intro bW0 (And.intro k0 (And.intro k1 k2)))
 clear bW0 k0 k1 k2
 refine (HGR.out).mono ?_
 rintro e wg ⟨rfl, c⟩
 have f := HS0.out.1.trans (c.mono HS0.out.1.size)
 have t0 := (HS0.out.2.1).below c (HS0.out.2.1).lt
 have t1 := (HS0.out.2.2.1).below c (HS0.out.2.2.1).lt
 have t2 := (HS0.out.2.2.2).below c (HS0.out.2.2.2).lt
 have HS1 := Lib.hid (And.intro f (And.intro t0 (And.intro t1 t2)))
 clear c f t0 t1 t2
 go_wp2_with fail
 refine (RA.out _ (tab_of HT.out HS1.out.1)).mono ?_
 rintro e wh ⟨rfl, c⟩
 have HF := Lib.hid (HS1.out.1.trans (c.mono HS1.out.1.size))
 clear c
 go_wp2_with fail
 go_ret
 exact ⟨rfl, HF.out⟩

set_option maxHeartbeats 16000000 in
set_option maxRecDepth 100000 in
theorem canon_small (na nb : Bool) (sa ta sb tb : ByteArray) (nd ne nf ng nq nx ny n1 v1 v2 : Bool) (sd td se te sf tf sg tg sq tq sx tx sy ty s1 s2 : ByteArray) (qe cc ck : Int) (w : World) (htab : Tab w) (hsz : ∀ p ∈ ([(na, sa, ta), (nb, sb, tb)] : List (Bool × ByteArray × ByteArray)), p.2.1.size ≤ 9223372036854775807 ∧ p.2.2.size ≤ 9223372036854775807) (hg : ([(na, sa, ta), (nb, sb, tb)] : List (Bool × ByteArray × ByteArray)).any grt = false)
  (ca : ∀ W : World, Tab W → Calls Tryz.prog 14 #[] W fun e w' => e = .returned (.bool true) ∧ Below W.heap.size W w')
  (hv1 : eqR nx sx tx ny sy ty = v1) (hw1 : (cc == 0) = v1) (hv2 : eqR na sa ta nx sx tx = v2) (hw2 : (ck == 0) = v2)
  (hch : ∀ p ∈ ([(nd, sd, td), (ne, se, te), (nf, sf, tf), (ng, sg, tg), (nq, sq, tq)] : List (Bool × ByteArray × ByteArray)), ∀ W : World, Calls Tryz.prog 23 #[.agg #[.bool p.1, .string p.2.1, .string p.2.2]] W fun e w' => e = .returned (.int .i64 0) ∧ Below W.heap.size W w')
  (cq1 : ∀ W : World, Calls Tryz.prog 25 #[.agg #[.bool na, .string sa, .string ta], .agg #[.bool nb, .string sb, .string tb]] W fun e w' => e = .returned (.tuple #[.agg #[.bool nq, .string sq, .string tq], .int .i64 qe]) ∧ Below W.heap.size W w')
  (cd1 : ∀ W : World, Calls Tryz.prog 27 #[.agg #[.bool na, .string sa, .string ta]] W fun e w' => e = .returned (.agg #[.bool nd, .string sd, .string td]) ∧ Below W.heap.size W w')
  (ce1 : ∀ W : World, Calls Tryz.prog 29 #[.agg #[.bool na, .string sa, .string ta], .agg #[.bool nb, .string sb, .string tb]] W fun e w' => e = .returned (.agg #[.bool ne, .string se, .string te]) ∧ Below W.heap.size W w')
  (cf1 : ∀ W : World, Calls Tryz.prog 31 #[.agg #[.bool na, .string sa, .string ta], .agg #[.bool nb, .string sb, .string tb]] W fun e w' => e = .returned (.agg #[.bool nf, .string sf, .string tf]) ∧ Below W.heap.size W w')
  (cg1 : ∀ W : World, Calls Tryz.prog 33 #[.agg #[.bool na, .string sa, .string ta], .agg #[.bool nb, .string sb, .string tb]] W fun e w' => e = .returned (.agg #[.bool ng, .string sg, .string tg]) ∧ Below W.heap.size W w')
  (co0 : ∀ W : World, Calls Tryz.prog 21 #[.int .i64 0] W fun e w' => e = .returned (.agg #[.bool false, .string ⟨#[]⟩, .string ⟨#[]⟩]) ∧ Below W.heap.size W w')
  (cx1 : ∀ W : World, Calls Tryz.prog 29 #[.agg #[.bool na, .string sa, .string ta], .agg #[.bool false, .string ⟨#[]⟩, .string ⟨#[]⟩]] W fun e w' => e = .returned (.agg #[.bool nx, .string sx, .string tx]) ∧ Below W.heap.size W w')
  (cy1 : ∀ W : World, Calls Tryz.prog 29 #[.agg #[.bool nb, .string sb, .string tb], .agg #[.bool false, .string ⟨#[]⟩, .string ⟨#[]⟩]] W fun e w' => e = .returned (.agg #[.bool ny, .string sy, .string ty]) ∧ Below W.heap.size W w')
  (cp1 : ∀ W : World, Calls Tryz.prog 19 #[.agg #[.bool na, .string sa, .string ta]] W fun e w' => e = .returned (.tuple #[.agg #[.bool n1, .string s1], .agg #[.bool false, .string s2]]) ∧ Below W.heap.size W w')
  (cn1 : ∀ W : World, Calls Tryz.prog 17 #[.agg #[.bool n1, .string s1], .agg #[.bool false, .string s2]] W fun e w' => e = .returned (.tuple #[.agg #[.bool nx, .string sx, .string tx], .int .i64 0]) ∧ Below W.heap.size W w')
  (cc1 : ∀ W : World, Calls Tryz.prog 35 #[.agg #[.bool na, .string sa, .string ta], .agg #[.bool nb, .string sb, .string tb]] W fun e w' => e = .returned (.int .i64 cc) ∧ Below W.heap.size W w')
  (ck1 : ∀ W : World, Calls Tryz.prog 23 #[.agg #[.bool na, .string sa, .string ta]] W fun e w' => e = .returned (.int .i64 ck) ∧ Below W.heap.size W w')
  (ch1 : ∀ W : World, Calls Tryz.prog 54 #[.agg #[.bool n1, .string s1], .agg #[.bool false, .string s2]] W fun e w' => e = .returned (.agg #[.bool false, .string ⟨#[1]⟩]) ∧ Below W.heap.size W w')
  (ci1 : ∀ W : World, Calls Tryz.prog 53 #[.int .i64 1] W fun e w' => e = .returned (.agg #[.bool false, .string ⟨#[1]⟩]) ∧ Below W.heap.size W w')
  (cj1 : ∀ W : World, Calls Tryz.prog 52 #[.agg #[.bool false, .string ⟨#[1]⟩], .agg #[.bool false, .string ⟨#[1]⟩]] W fun e w' => e = .returned (.int .i64 0) ∧ Below W.heap.size W w')
  (ci0 : ∀ W : World, Calls Tryz.prog 53 #[.int .i64 0] W fun e w' => e = .returned (.agg #[.bool false, .string ⟨#[]⟩]) ∧ Below W.heap.size W w')
  (cj0 : ∀ W : World, Calls Tryz.prog 52 #[.agg #[.bool false, .string s2], .agg #[.bool false, .string ⟨#[]⟩]] W fun e w' => e = .returned (.int .i64 1) ∧ Below W.heap.size W w')
  : Calls Tryz.prog 11 #[.agg #[.bool na, .string sa, .string ta], .agg #[.bool nb, .string sb, .string tb]] w fun e w' => e = .returned (.bool true) ∧ Below w.heap.size w w' := by
 have HT := Lib.hid htab
 have HG := Lib.hid hg
 have RA := Lib.hid ca
 have HS := Lib.hid hsz
 have HE := Lib.hid (And.intro hv1 (And.intro hw1 (And.intro hv2 hw2)))
 have HCH := Lib.hid hch
 clear htab hg ca hsz hv1 hw1 hv2 hw2 hch
 have Rq1 := Lib.hid cq1
 have Rd1 := Lib.hid cd1
 have Re1 := Lib.hid ce1
 have Rf1 := Lib.hid cf1
 have Rg1 := Lib.hid cg1
 have Ro0 := Lib.hid co0
 have Rx1 := Lib.hid cx1
 have Ry1 := Lib.hid cy1
 have Rp1 := Lib.hid cp1
 have Rn1 := Lib.hid cn1
 have Rc1 := Lib.hid cc1
 have Rk1 := Lib.hid ck1
 have Rh1 := Lib.hid ch1
 have Ri1 := Lib.hid ci1
 have Rj1 := Lib.hid cj1
 have Ri0 := Lib.hid ci0
 have Rj0 := Lib.hid cj0
 clear cq1 cd1 ce1 cf1 cg1 co0 cx1 cy1 cp1 cn1 cc1 ck1 ch1 ci1 cj1 ci0 cj0
 go_enter Tryz.func11, Tryz.ntmps11
 go_wp2_with fail
 obtain ⟨W0, hW0⟩ : ∃ V, (((w.alloc (Obj.cells #[Value.bool na, Value.string sa, Value.string ta] 25)).alloc (Obj.cells #[Value.bool nb, Value.string sb, Value.string tb] 25)).alloc (Obj.cells #[Value.bool na, Value.string sa, Value.string ta, Value.bool nb, Value.string sb, Value.string tb] 25)) = V := ⟨_, rfl⟩
 have sW0 : W0.heap.size = w.heap.size + 1 + 1 + 1 := by rw [← hW0]; simp
 have k0 : Cells (w.heap.size) [.bool na, .string sa, .string ta] W0 := by
  rw [← hW0]
  have h := cells_new w #[.bool na, .string sa, .string ta] 25
  exact ((h.alloc (by simp; try omega) _).alloc (by simp; try omega) _)
 have k1 : Cells (w.heap.size + 1) [.bool nb, .string sb, .string tb] W0 := by
  rw [← hW0]
  have h := cells_new (w.alloc (Obj.cells #[Value.bool na, Value.string sa, Value.string ta] 25)) #[.bool nb, .string sb, .string tb] 25
  simp only [World.size_alloc] at h
  exact (h.alloc (by simp; try omega) _)
 have k2 : Cells (w.heap.size + 1 + 1) [.bool na, .string sa, .string ta, .bool nb, .string sb, .string tb] W0 := by
  rw [← hW0]
  have h := cells_new ((w.alloc (Obj.cells #[Value.bool na, Value.string sa, Value.string ta] 25)).alloc (Obj.cells #[Value.bool nb, Value.string sb, Value.string tb] 25)) #[.bool na, .string sa, .string ta, .bool nb, .string sb, .string tb] 25
  simp only [World.size_alloc] at h
  exact h
 have bW0 : Below w.heap.size w W0 := by
  rw [← hW0]
  exact ((((Below.refl _ _).alloc (Nat.le_refl _) _).alloc (by simp; try omega) _).alloc (by simp; try omega) _)
 rw [hW0]
 clear hW0
 have hgr := rgreat_any _ [(na, sa, ta), (nb, sb, tb)] W0 (rowR_cells2 k2) k2.lt (by show 2 ≤ 1000; omega) HS.out
 rw [HG.out] at hgr
 have HGR := Lib.hid hgr
 clear hgr
 have HS0 := Lib.hid (And.intro bW0 (And.intro k0 (And.intro k1 k2)))
 clear bW0 k0 k1 k2
 refine (HGR.out).mono ?_
 rintro e wg ⟨rfl, c⟩
 have f := HS0.out.1.trans (c.mono HS0.out.1.size)
 have t0 := (HS0.out.2.1).below c (HS0.out.2.1).lt
 have t1 := (HS0.out.2.2.1).below c (HS0.out.2.2.1).lt
 have t2 := (HS0.out.2.2.2).below c (HS0.out.2.2.2).lt
 have HS1 := Lib.hid (And.intro f (And.intro t0 (And.intro t1 t2)))
 clear c f t0 t1 t2
 have l0 := (HS1.out.2.1).lt
 have m00 := (HS1.out.2.1 0 _ rfl).1
 have m01 := (HS1.out.2.1 1 _ rfl).1
 have m02 := (HS1.out.2.1 2 _ rfl).1
 have l1 := (HS1.out.2.2.1).lt
 have m10 := (HS1.out.2.2.1 0 _ rfl).1
 have m11 := (HS1.out.2.2.1 1 _ rfl).1
 have m12 := (HS1.out.2.2.1 2 _ rfl).1
 have l2 := (HS1.out.2.2.2).lt
 go_wp2_with fail
 clear l0 m00 m01 m02 l1 m10 m11 m12 l2
 refine (Rq1.out _).mono ?_
 rintro e w1 ⟨rfl, c⟩
 have f := HS1.out.1.trans (c.mono HS1.out.1.size)
 have t0 := (HS1.out.2.1).below c (HS1.out.2.1).lt
 have t1 := (HS1.out.2.2.1).below c (HS1.out.2.2.1).lt
 have t2 := (HS1.out.2.2.2).below c (HS1.out.2.2.2).lt
 have HS2 := Lib.hid (And.intro f (And.intro t0 (And.intro t1 t2)))
 clear c f t0 t1 t2
 have l0 := (HS2.out.2.1).lt
 have l1 := (HS2.out.2.2.1).lt
 have l2 := (HS2.out.2.2.2).lt
 go_wp2_with fail
 clear l0 l1 l2
 obtain ⟨w2, hw2⟩ : ∃ V, (w1.alloc (Obj.cells #[Value.bool nq, Value.string sq, Value.string tq] 25)) = V := ⟨_, rfl⟩
 obtain ⟨BQ, hBQ⟩ : ∃ B, w1.heap.size = B := ⟨_, rfl⟩
 have f : Below w.heap.size w w2 := by rw [← hw2]; exact (HS2.out.1.alloc (by have := HS2.out.1.size; simp; try omega) _)
 have t0 : Cells (w.heap.size) [.bool na, .string sa, .string ta] w2 := by rw [← hw2]; exact ((HS2.out.2.1).alloc (by have := (HS2.out.2.1).lt; simp; try omega) _)
 have t1 : Cells (w.heap.size + 1) [.bool nb, .string sb, .string tb] w2 := by rw [← hw2]; exact ((HS2.out.2.2.1).alloc (by have := (HS2.out.2.2.1).lt; simp; try omega) _)
 have t2 : Cells (w.heap.size + 1 + 1) [.bool na, .string sa, .string ta, .bool nb, .string sb, .string tb] w2 := by rw [← hw2]; exact ((HS2.out.2.2.2).alloc (by have := (HS2.out.2.2.2).lt; simp; try omega) _)
 have t3 : Cells BQ [.bool nq, .string sq, .string tq] w2 := by
  rw [← hw2, ← hBQ]
  have h := cells_new w1 #[.bool nq, .string sq, .string tq] 25
  exact h
 have xBQ0 : ¬ (w.heap.size) = BQ := by have := (HS2.out.2.1).lt; omega
 have xBQ1 : ¬ (w.heap.size + 1) = BQ := by have := (HS2.out.2.2.1).lt; omega
 have xBQ2 : ¬ (w.heap.size + 1 + 1) = BQ := by have := (HS2.out.2.2.2).lt; omega
 have gBQ : w.heap.size ≤ BQ := by have := HS2.out.1.size; omega
 have HS3 := Lib.hid (And.intro f (And.intro t0 (And.intro t1 (And.intro t2 t3))))
 rw [hw2]
 (try rw [hBQ])
 clear hw2 hBQ f t0 t1 t2 t3
 have l0 := (HS3.out.2.1).lt
 have m00 := (HS3.out.2.1 0 _ rfl).1
 have m01 := (HS3.out.2.1 1 _ rfl).1
 have m02 := (HS3.out.2.1 2 _ rfl).1
 have l1 := (HS3.out.2.2.1).lt
 have m10 := (HS3.out.2.2.1 0 _ rfl).1
 have m11 := (HS3.out.2.2.1 1 _ rfl).1
 have m12 := (HS3.out.2.2.1 2 _ rfl).1
 have l2 := (HS3.out.2.2.2.1).lt
 have l3 := (HS3.out.2.2.2.2).lt
 have m30 := (HS3.out.2.2.2.2 0 _ rfl).1
 have m31 := (HS3.out.2.2.2.2 1 _ rfl).1
 have m32 := (HS3.out.2.2.2.2 2 _ rfl).1
 have tok1 : True := trivial
 have tok2 : True := trivial
 have tok3 : True := trivial
 have tok4 : True := trivial
 have hRb : w2.heap.size ≤ w2.heap.size := by omega
 go_region_held3 (fun w' => ∀ (a o : Nat), a < w2.heap.size → w'.cell? ⟨a, o, none⟩ = w2.cell? ⟨a, o, none⟩) (first | with_reducible assumption | (intro _ _ _; rfl) | (repeat' (first | with_reducible assumption | with_reducible exact keepN_refl _ _ | with_reducible (refine keepN_drew ?_) | with_reducible (refine keepN_set ?_ ?_) | with_reducible (refine keepN_alloc ?_ ?_) | exact Nat.le_refl _ | omega | (intro _ _ _; rfl))))
  (first | (go_at_call 27; have _t := tok1; clear tok1; refine (Rd1.out _).mono ?_; rintro e u1 ⟨rfl, d1⟩; have E1 := Lib.hid (d1); have kS1 : ∀ (a o : Nat), a < w2.heap.size → u1.cell? ⟨a, o, none⟩ = w2.cell? ⟨a, o, none⟩ := fun a o h => E1.out.cell (p := ⟨a, o, none⟩) (Nat.lt_of_lt_of_le h hRb); have hz1 : w2.heap.size ≤ u1.heap.size := E1.out.size; clear d1) | (go_at_call 29; have _t := tok2; clear tok2; refine (Re1.out _).mono ?_; rintro e u2 ⟨rfl, d2⟩; have E2 := Lib.hid (E1.out.trans (d2.mono E1.out.size)); have kS2 : ∀ (a o : Nat), a < w2.heap.size → u2.cell? ⟨a, o, none⟩ = w2.cell? ⟨a, o, none⟩ := fun a o h => E2.out.cell (p := ⟨a, o, none⟩) (Nat.lt_of_lt_of_le h hRb); have hz2 : w2.heap.size ≤ u2.heap.size := E2.out.size; clear d2) | (go_at_call 31; have _t := tok3; clear tok3; refine (Rf1.out _).mono ?_; rintro e u3 ⟨rfl, d3⟩; have E3 := Lib.hid (E2.out.trans (d3.mono E2.out.size)); have kS3 : ∀ (a o : Nat), a < w2.heap.size → u3.cell? ⟨a, o, none⟩ = w2.cell? ⟨a, o, none⟩ := fun a o h => E3.out.cell (p := ⟨a, o, none⟩) (Nat.lt_of_lt_of_le h hRb); have hz3 : w2.heap.size ≤ u3.heap.size := E3.out.size; clear d3) | (go_at_call 33; have _t := tok4; clear tok4; refine (Rg1.out _).mono ?_; rintro e u4 ⟨rfl, d4⟩; have E4 := Lib.hid (E3.out.trans (d4.mono E3.out.size)); have kS4 : ∀ (a o : Nat), a < w2.heap.size → u4.cell? ⟨a, o, none⟩ = w2.cell? ⟨a, o, none⟩ := fun a o h => E4.out.cell (p := ⟨a, o, none⟩) (Nat.lt_of_lt_of_le h hRb); have hz4 : w2.heap.size ≤ u4.heap.size := E4.out.size; clear d4))
 clear l0 m00 m01 m02 l1 m10 m11 m12 l2 l3 m30 m31 m32
 have f := HS3.out.1.trans ((((Below.refl w2.heap.size w2).drew).trans E4.out).mono HS3.out.1.size)
 have t0 : Cells (w.heap.size) [.bool na, .string sa, .string ta] u4 := (show Cells _ _ w2.drew from HS3.out.2.1).below E4.out (HS3.out.2.1).lt
 have t1 : Cells (w.heap.size + 1) [.bool nb, .string sb, .string tb] u4 := (show Cells _ _ w2.drew from HS3.out.2.2.1).below E4.out (HS3.out.2.2.1).lt
 have t2 : Cells (w.heap.size + 1 + 1) [.bool na, .string sa, .string ta, .bool nb, .string sb, .string tb] u4 := (show Cells _ _ w2.drew from HS3.out.2.2.2.1).below E4.out (HS3.out.2.2.2.1).lt
 have t3 : Cells (BQ) [.bool nq, .string sq, .string tq] u4 := (show Cells _ _ w2.drew from HS3.out.2.2.2.2).below E4.out (HS3.out.2.2.2.2).lt
 have HS4 := Lib.hid (And.intro f (And.intro t0 (And.intro t1 (And.intro t2 t3))))
 clear f t0 t1 t2 t3 E1 kS1 hz1 E2 kS2 hz2 E3 kS3 hz3 E4 kS4 hz4 hRb
 go_wp2_with fail
 obtain ⟨w5, hw5⟩ : ∃ V, (u4.alloc (Obj.cells #[Value.bool nd, Value.string sd, Value.string td, Value.bool ne, Value.string se, Value.string te, Value.bool nf, Value.string sf, Value.string tf, Value.bool ng, Value.string sg, Value.string tg, Value.bool nq, Value.string sq, Value.string tq] 25)) = V := ⟨_, rfl⟩
 obtain ⟨B5, hB5⟩ : ∃ B, u4.heap.size = B := ⟨_, rfl⟩
 have f : Below w.heap.size w w5 := by rw [← hw5]; exact (HS4.out.1.alloc (by have := HS4.out.1.size; simp; try omega) _)
 have t0 : Cells (w.heap.size) [.bool na, .string sa, .string ta] w5 := by rw [← hw5]; exact ((HS4.out.2.1).alloc (by have := (HS4.out.2.1).lt; simp; try omega) _)
 have t1 : Cells (w.heap.size + 1) [.bool nb, .string sb, .string tb] w5 := by rw [← hw5]; exact ((HS4.out.2.2.1).alloc (by have := (HS4.out.2.2.1).lt; simp; try omega) _)
 have t2 : Cells (w.heap.size + 1 + 1) [.bool na, .string sa, .string ta, .bool nb, .string sb, .string tb] w5 := by rw [← hw5]; exact ((HS4.out.2.2.2.1).alloc (by have := (HS4.out.2.2.2.1).lt; simp; try omega) _)
 have t3 : Cells (BQ) [.bool nq, .string sq, .string tq] w5 := by rw [← hw5]; exact ((HS4.out.2.2.2.2).alloc (by have := (HS4.out.2.2.2.2).lt; simp; try omega) _)
 have t4 : Cells B5 [.bool nd, .string sd, .string td, .bool ne, .string se, .string te, .bool nf, .string sf, .string tf, .bool ng, .string sg, .string tg, .bool nq, .string sq, .string tq] w5 := by
  rw [← hw5, ← hB5]
  have h := cells_new u4 #[.bool nd, .string sd, .string td, .bool ne, .string se, .string te, .bool nf, .string sf, .string tf, .bool ng, .string sg, .string tg, .bool nq, .string sq, .string tq] 25
  exact h
 have xB50 : ¬ (w.heap.size) = B5 := by have := (HS4.out.2.1).lt; omega
 have xB51 : ¬ (w.heap.size + 1) = B5 := by have := (HS4.out.2.2.1).lt; omega
 have xB52 : ¬ (w.heap.size + 1 + 1) = B5 := by have := (HS4.out.2.2.2.1).lt; omega
 have xB53 : ¬ (BQ) = B5 := by have := (HS4.out.2.2.2.2).lt; omega
 have gB5 : w.heap.size ≤ B5 := by have := HS4.out.1.size; omega
 have HS5 := Lib.hid (And.intro f (And.intro t0 (And.intro t1 (And.intro t2 (And.intro t3 t4)))))
 rw [hw5]
 (try rw [hB5])
 clear hw5 hB5 f t0 t1 t2 t3 t4
 have hrow := rowR_cells5 (HS5.out.2.2.2.2.2)
 have z5 := (HS5.out.2.2.2.2.2).lt
 have HR5 := Lib.hid hrow
 clear hrow
 go_loopw [41] (fun i wr => ∃ k : Nat, k ≤ 5 ∧ i = .int .i64 k ∧ Below w5.heap.size w5 wr) (fun i _ => 5 - (intOf i).toNat)
 case atStart => exact ⟨0, by omega, rfl, Below.refl _ _⟩
 case round =>
  obtain ⟨k, hk, rfl, hbel⟩ := hrel
  by_cases hlt : k < 5
  ·obtain ⟨n, s, t, hns⟩ : ∃ n s t, ([(nd, sd, td), (ne, se, te), (nf, sf, tf), (ng, sg, tg), (nq, sq, tq)] : List (Bool × ByteArray × ByteArray)).getD k (false, ⟨#[]⟩, ⟨#[]⟩) = (n, s, t) := ⟨_, _, _, rfl⟩
   have hmem : (n, s, t) ∈ ([(nd, sd, td), (ne, se, te), (nf, sf, tf), (ng, sg, tg), (nq, sq, tq)] : List (Bool × ByteArray × ByteArray)) := by
    rw [← hns, List.getD_eq_getElem?_getD, List.getElem?_eq_getElem (by simpa using hlt)]
    exact List.getElem_mem _
   have k1 : wr.cell? ⟨B5, k * 3, none⟩ = some (.bool n) := by rw [hbel.cell (p := ⟨B5, k * 3, none⟩) z5, (HR5.out k (by simpa using hlt)).1, hns]
   have k2 : wr.cell? ⟨B5, k * 3 + 1, none⟩ = some (.string s) := by rw [hbel.cell (p := ⟨B5, k * 3 + 1, none⟩) z5, (HR5.out k (by simpa using hlt)).2.1, hns]
   have k3 : wr.cell? ⟨B5, k * 3 + 2, none⟩ = some (.string t) := by rw [hbel.cell (p := ⟨B5, k * 3 + 2, none⟩) z5, (HR5.out k (by simpa using hlt)).2.2, hns]
   have HC := Lib.hid (HCH.out _ hmem)
   have HA := Lib.hid hbel
   have hli : (k : Int) < 5 := by omega
   clear hbel hns hmem
   go_wp2_with fail
   refine (HC.out _).mono ?_
   rintro e w2 ⟨rfl, d2⟩
   have HD := Lib.hid d2
   clear d2
   go_wp2_with fail
   go_roundw
   case rel => exact ⟨k + 1, by omega, by go_num, (HA.out.alloc HA.out.size _).trans (HD.out.mono (by have := HA.out.size; simp; omega))⟩
   case measure => simp [intOf]; omega
  ·have f := HS5.out.1.trans (hbel.mono HS5.out.1.size)
   have t0 := (HS5.out.2.1).below hbel (HS5.out.2.1).lt
   have t1 := (HS5.out.2.2.1).below hbel (HS5.out.2.2.1).lt
   have t2 := (HS5.out.2.2.2.1).below hbel (HS5.out.2.2.2.1).lt
   have t3 := (HS5.out.2.2.2.2.1).below hbel (HS5.out.2.2.2.2.1).lt
   have t4 := (HS5.out.2.2.2.2.2).below hbel (HS5.out.2.2.2.2.2).lt
   have HS6 := Lib.hid (And.intro f (And.intro t0 (And.intro t1 (And.intro t2 (And.intro t3 t4)))))
   clear f hbel z5 t0 t1 t2 t3 t4
   go_wp2_with fail
   refine (Ro0.out _).mono ?_
   rintro e w7 ⟨rfl, c⟩
   have f := HS6.out.1.trans (c.mono HS6.out.1.size)
   have t0 := (HS6.out.2.1).below c (HS6.out.2.1).lt
   have t1 := (HS6.out.2.2.1).below c (HS6.out.2.2.1).lt
   have t2 := (HS6.out.2.2.2.1).below c (HS6.out.2.2.2.1).lt
   have t3 := (HS6.out.2.2.2.2.1).below c (HS6.out.2.2.2.2.1).lt
   have t4 := (HS6.out.2.2.2.2.2).below c (HS6.out.2.2.2.2.2).lt
   have HS7 := Lib.hid (And.intro f (And.intro t0 (And.intro t1 (And.intro t2 (And.intro t3 t4)))))
   clear c f t0 t1 t2 t3 t4
   have l0 := (HS7.out.2.1).lt
   have l1 := (HS7.out.2.2.1).lt
   have l2 := (HS7.out.2.2.2.1).lt
   have l3 := (HS7.out.2.2.2.2.1).lt
   have l4 := (HS7.out.2.2.2.2.2).lt
   go_wp2_with fail
   clear l0 l1 l2 l3 l4
   obtain ⟨w8, hw8⟩ : ∃ V, (w7.alloc (Obj.cells #[Value.bool false, Value.string ⟨#[]⟩, Value.string ⟨#[]⟩] 25)) = V := ⟨_, rfl⟩
   obtain ⟨BZ, hBZ⟩ : ∃ B, w7.heap.size = B := ⟨_, rfl⟩
   have f : Below w.heap.size w w8 := by rw [← hw8]; exact (HS7.out.1.alloc (by have := HS7.out.1.size; simp; try omega) _)
   have t0 : Cells (w.heap.size) [.bool na, .string sa, .string ta] w8 := by rw [← hw8]; exact ((HS7.out.2.1).alloc (by have := (HS7.out.2.1).lt; simp; try omega) _)
   have t1 : Cells (w.heap.size + 1) [.bool nb, .string sb, .string tb] w8 := by rw [← hw8]; exact ((HS7.out.2.2.1).alloc (by have := (HS7.out.2.2.1).lt; simp; try omega) _)
   have t2 : Cells (w.heap.size + 1 + 1) [.bool na, .string sa, .string ta, .bool nb, .string sb, .string tb] w8 := by rw [← hw8]; exact ((HS7.out.2.2.2.1).alloc (by have := (HS7.out.2.2.2.1).lt; simp; try omega) _)
   have t3 : Cells (BQ) [.bool nq, .string sq, .string tq] w8 := by rw [← hw8]; exact ((HS7.out.2.2.2.2.1).alloc (by have := (HS7.out.2.2.2.2.1).lt; simp; try omega) _)
   have t4 : Cells (B5) [.bool nd, .string sd, .string td, .bool ne, .string se, .string te, .bool nf, .string sf, .string tf, .bool ng, .string sg, .string tg, .bool nq, .string sq, .string tq] w8 := by rw [← hw8]; exact ((HS7.out.2.2.2.2.2).alloc (by have := (HS7.out.2.2.2.2.2).lt; simp; try omega) _)
   have t5 : Cells BZ [.bool false, .string ⟨#[]⟩, .string ⟨#[]⟩] w8 := by
    rw [← hw8, ← hBZ]
    have h := cells_new w7 #[.bool false, .string ⟨#[]⟩, .string ⟨#[]⟩] 25
    exact h
   have xBZ0 : ¬ (w.heap.size) = BZ := by have := (HS7.out.2.1).lt; omega
   have xBZ1 : ¬ (w.heap.size + 1) = BZ := by have := (HS7.out.2.2.1).lt; omega
   have xBZ2 : ¬ (w.heap.size + 1 + 1) = BZ := by have := (HS7.out.2.2.2.1).lt; omega
   have xBZ3 : ¬ (BQ) = BZ := by have := (HS7.out.2.2.2.2.1).lt; omega
   have xBZ4 : ¬ (B5) = BZ := by have := (HS7.out.2.2.2.2.2).lt; omega
   have gBZ : w.heap.size ≤ BZ := by have := HS7.out.1.size; omega
   have HS8 := Lib.hid (And.intro f (And.intro t0 (And.intro t1 (And.intro t2 (And.intro t3 (And.intro t4 t5))))))
   rw [hw8]
   (try rw [hBZ])
   clear hw8 hBZ f t0 t1 t2 t3 t4 t5
   refine wp_region_invA (fun a listed a' w' => ∃ t50 t51 t52 t53 t54 t55 t10 t11 : Value, a' = puts a [(50, t50), (51, t51), (52, t52), (53, t53), (54, t54), (55, t55), (10, t10), (11, t11)] ∧ Below (w8.heap.size) w8 w' ∧ (listed.getD 0 false = true → t50 = .agg #[.bool na, .string sa, .string ta]) ∧ (listed.getD 1 false = true → t51 = .agg #[.bool false, .string ⟨#[]⟩, .string ⟨#[]⟩]) ∧ (listed.getD 2 false = true → t52 = .agg #[.bool nx, .string sx, .string tx]) ∧ (listed.getD 3 false = true → t53 = .agg #[.bool nb, .string sb, .string tb]) ∧ (listed.getD 4 false = true → t54 = .agg #[.bool false, .string ⟨#[]⟩, .string ⟨#[]⟩]) ∧ (listed.getD 5 false = true → t55 = .agg #[.bool ny, .string sy, .string ty]) ∧ (listed.getD 6 false = true → ∃ (B : Nat) (x0 x1 x2 : Value), t10 = .pointer (some ⟨B, 0, none⟩) ∧ w8.heap.size ≤ B ∧ Cells B [x0, x1, x2] w' ∧ (listed.getD 8 false = true → x0 = .bool nx ∧ x1 = .string sx ∧ x2 = .string tx)) ∧ (listed.getD 7 false = true → ∃ (B : Nat) (x0 x1 x2 : Value), t11 = .pointer (some ⟨B, 0, none⟩) ∧ w8.heap.size ≤ B ∧ Cells B [x0, x1, x2] w' ∧ (listed.getD 9 false = true → x0 = .bool ny ∧ x1 = .string sy ∧ x2 = .string ty)) ∧ (listed.getD 8 false = true → listed.getD 6 false = true) ∧ (listed.getD 9 false = true → listed.getD 7 false = true) ∧ (listed.getD 6 false = true → listed.getD 7 false = true → t10 ≠ t11)) (by kernel_rfl) (by kernel_rfl) ?_ ?_ ?_
   ·exact ⟨undef, undef, undef, undef, undef, undef, undef, undef, (by kernel_rfl), (Below.refl _ _).drew, (fun h => getD_rep h), (fun h => getD_rep h), (fun h => getD_rep h), (fun h => getD_rep h), (fun h => getD_rep h), (fun h => getD_rep h), (fun h => getD_rep h), (fun h => getD_rep h), (fun h => getD_rep h), (fun h => getD_rep h), (fun h => getD_rep h)⟩
   ·show InvSteps _ _ _ _ _ [0, 1, 2, 3, 4, 5, 6, 7, 8, 9]
    refine InvSteps.cons rfl (fun listed a w' K' hlt hun hdep hI hK => ?_) ?_
    ·obtain ⟨t50, t51, t52, t53, t54, t55, t10, t11, ha, hb, h0, h1, h2, h3, h4, h5, h6, h7, s8_6, s9_7, d6_7⟩ := hI
     clear hdep
     have kc := (HS8.out.2.1).below hb (by have := (HS8.out.2.1).lt; omega)
     have kl := kc.lt
     have k0 := (kc 0 _ rfl).1
     have k1 := (kc 1 _ rfl).1
     have k2 := (kc 2 _ rfl).1
     clear kc
     rw [ha]
     clear ha a
     simp only [puts_cons, puts_nil, Act.put, List.setIfInBounds_toArray, List.set_cons_zero, List.set_cons_succ]
     go_simp
     exact hK.out _ _ ⟨(.agg #[.bool na, .string sa, .string ta]), t51, t52, t53, t54, t55, t10, t11, (by kernel_rfl), hb, fun _ => rfl, fun h => h1 (getD_ne h (by decide : 0 ≠ 1)), fun h => h2 (getD_ne h (by decide : 0 ≠ 2)), fun h => h3 (getD_ne h (by decide : 0 ≠ 3)), fun h => h4 (getD_ne h (by decide : 0 ≠ 4)), fun h => h5 (getD_ne h (by decide : 0 ≠ 5)), fun h => by obtain ⟨B, x0, x1, x2, e, hB, kc, hf⟩ := h6 (getD_ne h (by decide : 0 ≠ 6)); exact ⟨B, x0, x1, x2, e, hB, kc, fun h => hf (getD_ne h (by decide : 0 ≠ 8))⟩, fun h => by obtain ⟨B, x0, x1, x2, e, hB, kc, hf⟩ := h7 (getD_ne h (by decide : 0 ≠ 7)); exact ⟨B, x0, x1, x2, e, hB, kc, fun h => hf (getD_ne h (by decide : 0 ≠ 9))⟩, fun h => getD_set_true (s8_6 (getD_ne h (by decide : 0 ≠ 8))), fun h => getD_set_true (s9_7 (getD_ne h (by decide : 0 ≠ 9))), fun h h2 => d6_7 (getD_ne h (by decide : 0 ≠ 6)) (getD_ne h2 (by decide : 0 ≠ 7))⟩
    refine InvSteps.cons rfl (fun listed a w' K' hlt hun hdep hI hK => ?_) ?_
    ·obtain ⟨t50, t51, t52, t53, t54, t55, t10, t11, ha, hb, h0, h1, h2, h3, h4, h5, h6, h7, s8_6, s9_7, d6_7⟩ := hI
     clear hdep
     have kc := (HS8.out.2.2.2.2.2.2).below hb (by have := (HS8.out.2.2.2.2.2.2).lt; omega)
     have kl := kc.lt
     have k0 := (kc 0 _ rfl).1
     have k1 := (kc 1 _ rfl).1
     have k2 := (kc 2 _ rfl).1
     clear kc
     rw [ha]
     clear ha a
     simp only [puts_cons, puts_nil, Act.put, List.setIfInBounds_toArray, List.set_cons_zero, List.set_cons_succ]
     go_simp
     exact hK.out _ _ ⟨t50, (.agg #[.bool false, .string ⟨#[]⟩, .string ⟨#[]⟩]), t52, t53, t54, t55, t10, t11, (by kernel_rfl), hb, fun h => h0 (getD_ne h (by decide : 1 ≠ 0)), fun _ => rfl, fun h => h2 (getD_ne h (by decide : 1 ≠ 2)), fun h => h3 (getD_ne h (by decide : 1 ≠ 3)), fun h => h4 (getD_ne h (by decide : 1 ≠ 4)), fun h => h5 (getD_ne h (by decide : 1 ≠ 5)), fun h => by obtain ⟨B, x0, x1, x2, e, hB, kc, hf⟩ := h6 (getD_ne h (by decide : 1 ≠ 6)); exact ⟨B, x0, x1, x2, e, hB, kc, fun h => hf (getD_ne h (by decide : 1 ≠ 8))⟩, fun h => by obtain ⟨B, x0, x1, x2, e, hB, kc, hf⟩ := h7 (getD_ne h (by decide : 1 ≠ 7)); exact ⟨B, x0, x1, x2, e, hB, kc, fun h => hf (getD_ne h (by decide : 1 ≠ 9))⟩, fun h => getD_set_true (s8_6 (getD_ne h (by decide : 1 ≠ 8))), fun h => getD_set_true (s9_7 (getD_ne h (by decide : 1 ≠ 9))), fun h h2 => d6_7 (getD_ne h (by decide : 1 ≠ 6)) (getD_ne h2 (by decide : 1 ≠ 7))⟩
    refine InvSteps.cons rfl (fun listed a w' K' hlt hun hdep hI hK => ?_) ?_
    ·obtain ⟨t50, t51, t52, t53, t54, t55, t10, t11, ha, hb, h0, h1, h2, h3, h4, h5, h6, h7, s8_6, s9_7, d6_7⟩ := hI
     have H0 := hdep ⟨0, Ground.data⟩ (by simp) rfl
     have H1 := hdep ⟨1, Ground.data⟩ (by simp) rfl
     clear hdep
     have g0 := h0 H0
     subst g0
     have g1 := h1 H1
     subst g1
     rw [ha]
     clear ha a
     simp only [puts_cons, puts_nil, Act.put, List.setIfInBounds_toArray, List.set_cons_zero, List.set_cons_succ]
     go_simp
     refine (Rx1.out _).mono ?_
     rintro e u ⟨rfl, c⟩
     go_simp
     exact hK.out _ _ ⟨(.agg #[.bool na, .string sa, .string ta]), (.agg #[.bool false, .string ⟨#[]⟩, .string ⟨#[]⟩]), (.agg #[.bool nx, .string sx, .string tx]), t53, t54, t55, t10, t11, (by kernel_rfl), hb.trans (c.mono hb.size), fun _ => rfl, fun _ => rfl, fun _ => rfl, fun h => h3 (getD_ne h (by decide : 2 ≠ 3)), fun h => h4 (getD_ne h (by decide : 2 ≠ 4)), fun h => h5 (getD_ne h (by decide : 2 ≠ 5)), fun h => by obtain ⟨B, x0, x1, x2, e, hB, kc, hf⟩ := h6 (getD_ne h (by decide : 2 ≠ 6)); exact ⟨B, x0, x1, x2, e, hB, kc.below c kc.lt, fun h => hf (getD_ne h (by decide : 2 ≠ 8))⟩, fun h => by obtain ⟨B, x0, x1, x2, e, hB, kc, hf⟩ := h7 (getD_ne h (by decide : 2 ≠ 7)); exact ⟨B, x0, x1, x2, e, hB, kc.below c kc.lt, fun h => hf (getD_ne h (by decide : 2 ≠ 9))⟩, fun h => getD_set_true (s8_6 (getD_ne h (by decide : 2 ≠ 8))), fun h => getD_set_true (s9_7 (getD_ne h (by decide : 2 ≠ 9))), fun h h2 => d6_7 (getD_ne h (by decide : 2 ≠ 6)) (getD_ne h2 (by decide : 2 ≠ 7))⟩
    refine InvSteps.cons rfl (fun listed a w' K' hlt hun hdep hI hK => ?_) ?_
    ·obtain ⟨t50, t51, t52, t53, t54, t55, t10, t11, ha, hb, h0, h1, h2, h3, h4, h5, h6, h7, s8_6, s9_7, d6_7⟩ := hI
     clear hdep
     have kc := (HS8.out.2.2.1).below hb (by have := (HS8.out.2.2.1).lt; omega)
     have kl := kc.lt
     have k0 := (kc 0 _ rfl).1
     have k1 := (kc 1 _ rfl).1
     have k2 := (kc 2 _ rfl).1
     clear kc
     rw [ha]
     clear ha a
     simp only [puts_cons, puts_nil, Act.put, List.setIfInBounds_toArray, List.set_cons_zero, List.set_cons_succ]
     go_simp
     exact hK.out _ _ ⟨t50, t51, t52, (.agg #[.bool nb, .string sb, .string tb]), t54, t55, t10, t11, (by kernel_rfl), hb, fun h => h0 (getD_ne h (by decide : 3 ≠ 0)), fun h => h1 (getD_ne h (by decide : 3 ≠ 1)), fun h => h2 (getD_ne h (by decide : 3 ≠ 2)), fun _ => rfl, fun h => h4 (getD_ne h (by decide : 3 ≠ 4)), fun h => h5 (getD_ne h (by decide : 3 ≠ 5)), fun h => by obtain ⟨B, x0, x1, x2, e, hB, kc, hf⟩ := h6 (getD_ne h (by decide : 3 ≠ 6)); exact ⟨B, x0, x1, x2, e, hB, kc, fun h => hf (getD_ne h (by decide : 3 ≠ 8))⟩, fun h => by obtain ⟨B, x0, x1, x2, e, hB, kc, hf⟩ := h7 (getD_ne h (by decide : 3 ≠ 7)); exact ⟨B, x0, x1, x2, e, hB, kc, fun h => hf (getD_ne h (by decide : 3 ≠ 9))⟩, fun h => getD_set_true (s8_6 (getD_ne h (by decide : 3 ≠ 8))), fun h => getD_set_true (s9_7 (getD_ne h (by decide : 3 ≠ 9))), fun h h2 => d6_7 (getD_ne h (by decide : 3 ≠ 6)) (getD_ne h2 (by decide : 3 ≠ 7))⟩
    refine InvSteps.cons rfl (fun listed a w' K' hlt hun hdep hI hK => ?_) ?_
    ·obtain ⟨t50, t51, t52, t53, t54, t55, t10, t11, ha, hb, h0, h1, h2, h3, h4, h5, h6, h7, s8_6, s9_7, d6_7⟩ := hI
     clear hdep
     have kc := (HS8.out.2.2.2.2.2.2).below hb (by have := (HS8.out.2.2.2.2.2.2).lt; omega)
     have kl := kc.lt
     have k0 := (kc 0 _ rfl).1
     have k1 := (kc 1 _ rfl).1
     have k2 := (kc 2 _ rfl).1
     clear kc
     rw [ha]
     clear ha a
     simp only [puts_cons, puts_nil, Act.put, List.setIfInBounds_toArray, List.set_cons_zero, List.set_cons_succ]
     go_simp
     exact hK.out _ _ ⟨t50, t51, t52, t53, (.agg #[.bool false, .string ⟨#[]⟩, .string ⟨#[]⟩]), t55, t10, t11, (by kernel_rfl), hb, fun h => h0 (getD_ne h (by decide : 4 ≠ 0)), fun h => h1 (getD_ne h (by decide : 4 ≠ 1)), fun h => h2 (getD_ne h (by decide : 4 ≠ 2)), fun h => h3 (getD_ne h (by decide : 4 ≠ 3)), fun _ => rfl, fun h => h5 (getD_ne h (by decide : 4 ≠ 5)), fun h => by obtain ⟨B, x0, x1, x2, e, hB, kc, hf⟩ := h6 (getD_ne h (by decide : 4 ≠ 6)); exact ⟨B, x0, x1, x2, e, hB, kc, fun h => hf (getD_ne h (by decide : 4 ≠ 8))⟩, fun h => by obtain ⟨B, x0, x1, x2, e, hB, kc, hf⟩ := h7 (getD_ne h (by decide : 4 ≠ 7)); exact ⟨B, x0, x1, x2, e, hB, kc, fun h => hf (getD_ne h (by decide : 4 ≠ 9))⟩, fun h => getD_set_true (s8_6 (getD_ne h (by decide : 4 ≠ 8))), fun h => getD_set_true (s9_7 (getD_ne h (by decide : 4 ≠ 9))), fun h h2 => d6_7 (getD_ne h (by decide : 4 ≠ 6)) (getD_ne h2 (by decide : 4 ≠ 7))⟩
    refine InvSteps.cons rfl (fun listed a w' K' hlt hun hdep hI hK => ?_) ?_
    ·obtain ⟨t50, t51, t52, t53, t54, t55, t10, t11, ha, hb, h0, h1, h2, h3, h4, h5, h6, h7, s8_6, s9_7, d6_7⟩ := hI
     have H3 := hdep ⟨3, Ground.data⟩ (by simp) rfl
     have H4 := hdep ⟨4, Ground.data⟩ (by simp) rfl
     have H2 := hdep ⟨2, Ground.chain⟩ (by simp) rfl
     clear hdep
     have g3 := h3 H3
     subst g3
     have g4 := h4 H4
     subst g4
     have g2 := h2 H2
     subst g2
     rw [ha]
     clear ha a
     simp only [puts_cons, puts_nil, Act.put, List.setIfInBounds_toArray, List.set_cons_zero, List.set_cons_succ]
     go_simp
     refine (Ry1.out _).mono ?_
     rintro e u ⟨rfl, c⟩
     go_simp
     exact hK.out _ _ ⟨t50, t51, (.agg #[.bool nx, .string sx, .string tx]), (.agg #[.bool nb, .string sb, .string tb]), (.agg #[.bool false, .string ⟨#[]⟩, .string ⟨#[]⟩]), (.agg #[.bool ny, .string sy, .string ty]), t10, t11, (by kernel_rfl), hb.trans (c.mono hb.size), fun h => h0 (getD_ne h (by decide : 5 ≠ 0)), fun h => h1 (getD_ne h (by decide : 5 ≠ 1)), fun _ => rfl, fun _ => rfl, fun _ => rfl, fun _ => rfl, fun h => by obtain ⟨B, x0, x1, x2, e, hB, kc, hf⟩ := h6 (getD_ne h (by decide : 5 ≠ 6)); exact ⟨B, x0, x1, x2, e, hB, kc.below c kc.lt, fun h => hf (getD_ne h (by decide : 5 ≠ 8))⟩, fun h => by obtain ⟨B, x0, x1, x2, e, hB, kc, hf⟩ := h7 (getD_ne h (by decide : 5 ≠ 7)); exact ⟨B, x0, x1, x2, e, hB, kc.below c kc.lt, fun h => hf (getD_ne h (by decide : 5 ≠ 9))⟩, fun h => getD_set_true (s8_6 (getD_ne h (by decide : 5 ≠ 8))), fun h => getD_set_true (s9_7 (getD_ne h (by decide : 5 ≠ 9))), fun h h2 => d6_7 (getD_ne h (by decide : 5 ≠ 6)) (getD_ne h2 (by decide : 5 ≠ 7))⟩
    refine InvSteps.cons rfl (fun listed a w' K' hlt hun hdep hI hK => ?_) ?_
    ·obtain ⟨t50, t51, t52, t53, t54, t55, t10, t11, ha, hb, h0, h1, h2, h3, h4, h5, h6, h7, s8_6, s9_7, d6_7⟩ := hI
     clear hdep
     rw [ha]
     clear ha a
     simp only [puts_cons, puts_nil, Act.put, List.setIfInBounds_toArray, List.set_cons_zero, List.set_cons_succ]
     go_simp
     exact hK.out _ _ ⟨t50, t51, t52, t53, t54, t55, (.pointer (some ⟨w'.heap.size, 0, none⟩)), t11, (by kernel_rfl), hb.alloc hb.size _, fun h => h0 (getD_ne h (by decide : 6 ≠ 0)), fun h => h1 (getD_ne h (by decide : 6 ≠ 1)), fun h => h2 (getD_ne h (by decide : 6 ≠ 2)), fun h => h3 (getD_ne h (by decide : 6 ≠ 3)), fun h => h4 (getD_ne h (by decide : 6 ≠ 4)), fun h => h5 (getD_ne h (by decide : 6 ≠ 5)), fun _ => ⟨_, _, _, _, rfl, hb.size, cells_new w' #[Value.bool false, Value.string ⟨#[]⟩, Value.string ⟨#[]⟩] 25, fun h => by have h' := s8_6 (getD_ne h (by decide : 6 ≠ 8)); rw [hun] at h'; cases h'⟩, fun h => by obtain ⟨B, x0, x1, x2, e, hB, kc, hf⟩ := h7 (getD_ne h (by decide : 6 ≠ 7)); exact ⟨B, x0, x1, x2, e, hB, kc.alloc kc.lt _, fun h => hf (getD_ne h (by decide : 6 ≠ 9))⟩, fun _ => getD_self hlt, fun h => getD_set_true (s9_7 (getD_ne h (by decide : 6 ≠ 9))), fun _ h => by obtain ⟨B, _, _, _, e1, _, kc, _⟩ := h7 (getD_ne h (by decide : 6 ≠ 7)); intro e; rw [e1] at e; have := kc.lt; (simp at e) <;> omega⟩
    refine InvSteps.cons rfl (fun listed a w' K' hlt hun hdep hI hK => ?_) ?_
    ·obtain ⟨t50, t51, t52, t53, t54, t55, t10, t11, ha, hb, h0, h1, h2, h3, h4, h5, h6, h7, s8_6, s9_7, d6_7⟩ := hI
     clear hdep
     rw [ha]
     clear ha a
     simp only [puts_cons, puts_nil, Act.put, List.setIfInBounds_toArray, List.set_cons_zero, List.set_cons_succ]
     go_simp
     exact hK.out _ _ ⟨t50, t51, t52, t53, t54, t55, t10, (.pointer (some ⟨w'.heap.size, 0, none⟩)), (by kernel_rfl), hb.alloc hb.size _, fun h => h0 (getD_ne h (by decide : 7 ≠ 0)), fun h => h1 (getD_ne h (by decide : 7 ≠ 1)), fun h => h2 (getD_ne h (by decide : 7 ≠ 2)), fun h => h3 (getD_ne h (by decide : 7 ≠ 3)), fun h => h4 (getD_ne h (by decide : 7 ≠ 4)), fun h => h5 (getD_ne h (by decide : 7 ≠ 5)), fun h => by obtain ⟨B, x0, x1, x2, e, hB, kc, hf⟩ := h6 (getD_ne h (by decide : 7 ≠ 6)); exact ⟨B, x0, x1, x2, e, hB, kc.alloc kc.lt _, fun h => hf (getD_ne h (by decide : 7 ≠ 8))⟩, fun _ => ⟨_, _, _, _, rfl, hb.size, cells_new w' #[Value.bool false, Value.string ⟨#[]⟩, Value.string ⟨#[]⟩] 25, fun h => by have h' := s9_7 (getD_ne h (by decide : 7 ≠ 9)); rw [hun] at h'; cases h'⟩, fun h => getD_set_true (s8_6 (getD_ne h (by decide : 7 ≠ 8))), fun _ => getD_self hlt, fun h _ => by obtain ⟨B, _, _, _, e1, _, kc, _⟩ := h6 (getD_ne h (by decide : 7 ≠ 6)); intro e; rw [e1] at e; have := kc.lt; (simp at e) <;> omega⟩
    refine InvSteps.cons rfl (fun listed a w' K' hlt hun hdep hI hK => ?_) ?_
    ·obtain ⟨t50, t51, t52, t53, t54, t55, t10, t11, ha, hb, h0, h1, h2, h3, h4, h5, h6, h7, s8_6, s9_7, d6_7⟩ := hI
     have H6 := hdep ⟨6, Ground.data⟩ (by simp) rfl
     have H2 := hdep ⟨2, Ground.data⟩ (by simp) rfl
     have H5 := hdep ⟨5, Ground.chain⟩ (by simp) rfl
     have H0 := hdep ⟨0, Ground.phase⟩ (by simp) rfl
     have H1 := hdep ⟨1, Ground.phase⟩ (by simp) rfl
     have H7 := hdep ⟨7, Ground.phase⟩ (by simp) rfl
     clear hdep
     have g2 := h2 H2
     subst g2
     have g5 := h5 H5
     subst g5
     have g0 := h0 H0
     subst g0
     have g1 := h1 H1
     subst g1
     obtain ⟨B, x0, x1, x2, rfl, hB, kc, _⟩ := h6 H6
     obtain ⟨C7, w7_0, w7_1, w7_2, rfl, q7, kd7, o7⟩ := h7 H7
     have kl := kc.lt
     have k0 := (kc 0 _ rfl).1
     have z0 := (kc 0 _ rfl).2
     have k1 := (kc 1 _ rfl).1
     have z1 := (kc 1 _ rfl).2
     have k2 := (kc 2 _ rfl).1
     have z2 := (kc 2 _ rfl).2
     rw [ha]
     clear ha a
     simp only [puts_cons, puts_nil, Act.put, List.setIfInBounds_toArray, List.set_cons_zero, List.set_cons_succ]
     go_simp
     have yc0 : Cells (B) [.bool nx, x1, x2] _ := (kc).set (k := 0) (Value.bool nx) _ rfl
     have yc1 : Cells (B) [.bool nx, .string sx, x2] _ := (yc0).set (k := 1) (Value.string sx) _ rfl
     have yc2 : Cells (B) [.bool nx, .string sx, .string tx] _ := (yc1).set (k := 2) (Value.string tx) _ rfl
     exact hK.out _ _ ⟨(.agg #[.bool na, .string sa, .string ta]), (.agg #[.bool false, .string ⟨#[]⟩, .string ⟨#[]⟩]), (.agg #[.bool nx, .string sx, .string tx]), t53, t54, (.agg #[.bool ny, .string sy, .string ty]), (.pointer (some ⟨B, 0, none⟩)), (.pointer (some ⟨C7, 0, none⟩)), (by kernel_rfl), (below_sets (below_sets (below_sets hb hB 0 (Value.bool nx)) hB 1 (Value.string sx)) hB 2 (Value.string tx)), fun _ => rfl, fun _ => rfl, fun _ => rfl, fun h => h3 (getD_ne h (by decide : 8 ≠ 3)), fun h => h4 (getD_ne h (by decide : 8 ≠ 4)), fun _ => rfl, fun _ => ⟨B, _, _, _, rfl, hB, yc2, fun _ => ⟨rfl, rfl, rfl⟩⟩, fun _ => ⟨C7, w7_0, w7_1, w7_2, rfl, q7, ((((((kd7).other (fun e => d6_7 H6 H7 (by rw [e])))).other (fun e => d6_7 H6 H7 (by rw [e])))).other (fun e => d6_7 H6 H7 (by rw [e]))), fun h => o7 (getD_ne h (by decide : 8 ≠ 9))⟩, fun _ => getD_set_true H6, fun h => getD_set_true (s9_7 (getD_ne h (by decide : 8 ≠ 9))), fun h h2 => d6_7 (getD_ne h (by decide : 8 ≠ 6)) (getD_ne h2 (by decide : 8 ≠ 7))⟩
    refine InvSteps.cons rfl (fun listed a w' K' hlt hun hdep hI hK => ?_) ?_
    ·obtain ⟨t50, t51, t52, t53, t54, t55, t10, t11, ha, hb, h0, h1, h2, h3, h4, h5, h6, h7, s8_6, s9_7, d6_7⟩ := hI
     have H7 := hdep ⟨7, Ground.data⟩ (by simp) rfl
     have H5 := hdep ⟨5, Ground.data⟩ (by simp) rfl
     have H8 := hdep ⟨8, Ground.chain⟩ (by simp) rfl
     have H0 := hdep ⟨0, Ground.phase⟩ (by simp) rfl
     have H1 := hdep ⟨1, Ground.phase⟩ (by simp) rfl
     have H2 := hdep ⟨2, Ground.phase⟩ (by simp) rfl
     have H3 := hdep ⟨3, Ground.phase⟩ (by simp) rfl
     have H4 := hdep ⟨4, Ground.phase⟩ (by simp) rfl
     have H6 := hdep ⟨6, Ground.phase⟩ (by simp) rfl
     clear hdep
     have g5 := h5 H5
     subst g5
     have g0 := h0 H0
     subst g0
     have g1 := h1 H1
     subst g1
     have g2 := h2 H2
     subst g2
     have g3 := h3 H3
     subst g3
     have g4 := h4 H4
     subst g4
     obtain ⟨B, x0, x1, x2, rfl, hB, kc, _⟩ := h7 H7
     obtain ⟨C6, w6_0, w6_1, w6_2, rfl, q6, kd6, o6⟩ := h6 H6
     have kl := kc.lt
     have k0 := (kc 0 _ rfl).1
     have z0 := (kc 0 _ rfl).2
     have k1 := (kc 1 _ rfl).1
     have z1 := (kc 1 _ rfl).2
     have k2 := (kc 2 _ rfl).1
     have z2 := (kc 2 _ rfl).2
     rw [ha]
     clear ha a
     simp only [puts_cons, puts_nil, Act.put, List.setIfInBounds_toArray, List.set_cons_zero, List.set_cons_succ]
     go_simp
     have yc0 : Cells (B) [.bool ny, x1, x2] _ := (kc).set (k := 0) (Value.bool ny) _ rfl
     have yc1 : Cells (B) [.bool ny, .string sy, x2] _ := (yc0).set (k := 1) (Value.string sy) _ rfl
     have yc2 : Cells (B) [.bool ny, .string sy, .string ty] _ := (yc1).set (k := 2) (Value.string ty) _ rfl
     exact hK.out _ _ ⟨(.agg #[.bool na, .string sa, .string ta]), (.agg #[.bool false, .string ⟨#[]⟩, .string ⟨#[]⟩]), (.agg #[.bool nx, .string sx, .string tx]), (.agg #[.bool nb, .string sb, .string tb]), (.agg #[.bool false, .string ⟨#[]⟩, .string ⟨#[]⟩]), (.agg #[.bool ny, .string sy, .string ty]), (.pointer (some ⟨C6, 0, none⟩)), (.pointer (some ⟨B, 0, none⟩)), (by kernel_rfl), (below_sets (below_sets (below_sets hb hB 0 (Value.bool ny)) hB 1 (Value.string sy)) hB 2 (Value.string ty)), fun _ => rfl, fun _ => rfl, fun _ => rfl, fun _ => rfl, fun _ => rfl, fun _ => rfl, fun _ => ⟨C6, w6_0, w6_1, w6_2, rfl, q6, ((((((kd6).other (fun e => d6_7 H6 H7 (by rw [e])))).other (fun e => d6_7 H6 H7 (by rw [e])))).other (fun e => d6_7 H6 H7 (by rw [e]))), fun h => o6 (getD_ne h (by decide : 9 ≠ 8))⟩, fun _ => ⟨B, _, _, _, rfl, hB, yc2, fun _ => ⟨rfl, rfl, rfl⟩⟩, fun h => getD_set_true (s8_6 (getD_ne h (by decide : 9 ≠ 8))), fun _ => getD_set_true H7, fun h h2 => d6_7 (getD_ne h (by decide : 9 ≠ 6)) (getD_ne h2 (by decide : 9 ≠ 7))⟩
    exact InvSteps.nil
   ·intro listed a w9 hl hI
    obtain ⟨t50, t51, t52, t53, t54, t55, t10, t11, ha, hb, h0, h1, h2, h3, h4, h5, h6, h7, s8_6, s9_7, d6_7⟩ := hI
    have H0 := hl 0 (by show 0 < 10; omega)
    have H1 := hl 1 (by show 1 < 10; omega)
    have H2 := hl 2 (by show 2 < 10; omega)
    have H3 := hl 3 (by show 3 < 10; omega)
    have H4 := hl 4 (by show 4 < 10; omega)
    have H5 := hl 5 (by show 5 < 10; omega)
    have H6 := hl 6 (by show 6 < 10; omega)
    have H7 := hl 7 (by show 7 < 10; omega)
    have H8 := hl 8 (by show 8 < 10; omega)
    have H9 := hl 9 (by show 9 < 10; omega)
    have g0 := h0 H0
    subst g0
    have g1 := h1 H1
    subst g1
    have g2 := h2 H2
    subst g2
    have g3 := h3 H3
    subst g3
    have g4 := h4 H4
    subst g4
    have g5 := h5 H5
    subst g5
    obtain ⟨B6, y6_0, y6_1, y6_2, rfl, r6, c6, f6⟩ := h6 H6
    obtain ⟨rfl, rfl, rfl⟩ := f6 H8
    obtain ⟨B7, y7_0, y7_1, y7_2, rfl, r7, c7, f7⟩ := h7 H7
    obtain ⟨rfl, rfl, rfl⟩ := f7 H9
    have e6_7 : B6 ≠ B7 := fun e => d6_7 H6 H7 (by rw [e])
    clear H0 H1 H2 H3 H4 H5 H6 H7 H8 H9 hl h0 h1 h2 h3 h4 h5 h6 h7 s8_6 s9_7 d6_7 f6 f7 listed
    rw [ha]
    clear ha a
    simp only [puts_cons, puts_nil, Act.put, List.setIfInBounds_toArray, List.set_cons_zero, List.set_cons_succ]
    clear r6 r7 e6_7
    have f := HS8.out.1.trans (hb.mono HS8.out.1.size)
    have t0 := (HS8.out.2.1).below hb (HS8.out.2.1).lt
    have t1 := (HS8.out.2.2.1).below hb (HS8.out.2.2.1).lt
    have t2 := (HS8.out.2.2.2.1).below hb (HS8.out.2.2.2.1).lt
    have t3 := (HS8.out.2.2.2.2.1).below hb (HS8.out.2.2.2.2.1).lt
    have t4 := (HS8.out.2.2.2.2.2.1).below hb (HS8.out.2.2.2.2.2.1).lt
    have t5 := (HS8.out.2.2.2.2.2.2).below hb (HS8.out.2.2.2.2.2.2).lt
    have HS9 := Lib.hid (And.intro f (And.intro t0 (And.intro t1 (And.intro t2 (And.intro t3 (And.intro t4 (And.intro t5 (And.intro c6 c7))))))))
    clear f hb t0 t1 t2 t3 t4 t5 c6 c7
    have l0 := (HS9.out.2.1).lt
    have m00 := (HS9.out.2.1 0 _ rfl).1
    have m01 := (HS9.out.2.1 1 _ rfl).1
    have m02 := (HS9.out.2.1 2 _ rfl).1
    have l1 := (HS9.out.2.2.1).lt
    have l2 := (HS9.out.2.2.2.1).lt
    have l3 := (HS9.out.2.2.2.2.1).lt
    have l4 := (HS9.out.2.2.2.2.2.1).lt
    have l5 := (HS9.out.2.2.2.2.2.2.1).lt
    have l6 := (HS9.out.2.2.2.2.2.2.2.1).lt
    have l7 := (HS9.out.2.2.2.2.2.2.2.2).lt
    go_wp2_with fail
    clear l0 m00 m01 m02 l1 l2 l3 l4 l5 l6 l7
    refine (Rp1.out _).mono ?_
    rintro e wb ⟨rfl, c⟩
    have f := HS9.out.1.trans (c.mono HS9.out.1.size)
    have t0 := (HS9.out.2.1).below c (HS9.out.2.1).lt
    have t1 := (HS9.out.2.2.1).below c (HS9.out.2.2.1).lt
    have t2 := (HS9.out.2.2.2.1).below c (HS9.out.2.2.2.1).lt
    have t3 := (HS9.out.2.2.2.2.1).below c (HS9.out.2.2.2.2.1).lt
    have t4 := (HS9.out.2.2.2.2.2.1).below c (HS9.out.2.2.2.2.2.1).lt
    have t5 := (HS9.out.2.2.2.2.2.2.1).below c (HS9.out.2.2.2.2.2.2.1).lt
    have t6 := (HS9.out.2.2.2.2.2.2.2.1).below c (HS9.out.2.2.2.2.2.2.2.1).lt
    have t7 := (HS9.out.2.2.2.2.2.2.2.2).below c (HS9.out.2.2.2.2.2.2.2.2).lt
    have HSb := Lib.hid (And.intro f (And.intro t0 (And.intro t1 (And.intro t2 (And.intro t3 (And.intro t4 (And.intro t5 (And.intro t6 t7))))))))
    clear c f t0 t1 t2 t3 t4 t5 t6 t7
    have l0 := (HSb.out.2.1).lt
    have l1 := (HSb.out.2.2.1).lt
    have l2 := (HSb.out.2.2.2.1).lt
    have l3 := (HSb.out.2.2.2.2.1).lt
    have l4 := (HSb.out.2.2.2.2.2.1).lt
    have l5 := (HSb.out.2.2.2.2.2.2.1).lt
    have l6 := (HSb.out.2.2.2.2.2.2.2.1).lt
    have l7 := (HSb.out.2.2.2.2.2.2.2.2).lt
    go_wp2_with fail
    clear l0 l1 l2 l3 l4 l5 l6 l7
    obtain ⟨wc, hwc⟩ : ∃ V, ((wb.alloc (Obj.cells #[Value.bool n1, Value.string s1] 23)).alloc (Obj.cells #[Value.bool false, Value.string s2] 23)) = V := ⟨_, rfl⟩
    obtain ⟨BN, hBN⟩ : ∃ B, wb.heap.size = B := ⟨_, rfl⟩
    obtain ⟨BD, hBD⟩ : ∃ B, BN + 1 = B := ⟨_, rfl⟩
    have f : Below w.heap.size w wc := by rw [← hwc]; exact ((HSb.out.1.alloc (by have := HSb.out.1.size; simp; try omega) _).alloc (by have := HSb.out.1.size; simp; try omega) _)
    have t0 : Cells (w.heap.size) [.bool na, .string sa, .string ta] wc := by rw [← hwc]; exact ((((HSb.out.2.1).alloc (by have := (HSb.out.2.1).lt; simp; try omega) _)).alloc (by have := (HSb.out.2.1).lt; simp; try omega) _)
    have t1 : Cells (w.heap.size + 1) [.bool nb, .string sb, .string tb] wc := by rw [← hwc]; exact ((((HSb.out.2.2.1).alloc (by have := (HSb.out.2.2.1).lt; simp; try omega) _)).alloc (by have := (HSb.out.2.2.1).lt; simp; try omega) _)
    have t2 : Cells (w.heap.size + 1 + 1) [.bool na, .string sa, .string ta, .bool nb, .string sb, .string tb] wc := by rw [← hwc]; exact ((((HSb.out.2.2.2.1).alloc (by have := (HSb.out.2.2.2.1).lt; simp; try omega) _)).alloc (by have := (HSb.out.2.2.2.1).lt; simp; try omega) _)
    have t3 : Cells (BQ) [.bool nq, .string sq, .string tq] wc := by rw [← hwc]; exact ((((HSb.out.2.2.2.2.1).alloc (by have := (HSb.out.2.2.2.2.1).lt; simp; try omega) _)).alloc (by have := (HSb.out.2.2.2.2.1).lt; simp; try omega) _)
    have t4 : Cells (B5) [.bool nd, .string sd, .string td, .bool ne, .string se, .string te, .bool nf, .string sf, .string tf, .bool ng, .string sg, .string tg, .bool nq, .string sq, .string tq] wc := by rw [← hwc]; exact ((((HSb.out.2.2.2.2.2.1).alloc (by have := (HSb.out.2.2.2.2.2.1).lt; simp; try omega) _)).alloc (by have := (HSb.out.2.2.2.2.2.1).lt; simp; try omega) _)
    have t5 : Cells (BZ) [.bool false, .string ⟨#[]⟩, .string ⟨#[]⟩] wc := by rw [← hwc]; exact ((((HSb.out.2.2.2.2.2.2.1).alloc (by have := (HSb.out.2.2.2.2.2.2.1).lt; simp; try omega) _)).alloc (by have := (HSb.out.2.2.2.2.2.2.1).lt; simp; try omega) _)
    have t6 : Cells (B6) [.bool nx, .string sx, .string tx] wc := by rw [← hwc]; exact ((((HSb.out.2.2.2.2.2.2.2.1).alloc (by have := (HSb.out.2.2.2.2.2.2.2.1).lt; simp; try omega) _)).alloc (by have := (HSb.out.2.2.2.2.2.2.2.1).lt; simp; try omega) _)
    have t7 : Cells (B7) [.bool ny, .string sy, .string ty] wc := by rw [← hwc]; exact ((((HSb.out.2.2.2.2.2.2.2.2).alloc (by have := (HSb.out.2.2.2.2.2.2.2.2).lt; simp; try omega) _)).alloc (by have := (HSb.out.2.2.2.2.2.2.2.2).lt; simp; try omega) _)
    have t8 : Cells BN [.bool n1, .string s1] wc := by
     rw [← hwc, ← hBN]
     have h := cells_new wb #[.bool n1, .string s1] 23
     exact (h.alloc (by simp; try omega) _)
    have t9 : Cells BD [.bool false, .string s2] wc := by
     rw [← hwc, ← hBD, ← hBN]
     have h := cells_new (wb.alloc (Obj.cells #[Value.bool n1, Value.string s1] 23)) #[.bool false, .string s2] 23
     simp only [World.size_alloc] at h
     exact h
    have xBN0 : ¬ (w.heap.size) = BN := by have := (HSb.out.2.1).lt; omega
    have xBN1 : ¬ (w.heap.size + 1) = BN := by have := (HSb.out.2.2.1).lt; omega
    have xBN2 : ¬ (w.heap.size + 1 + 1) = BN := by have := (HSb.out.2.2.2.1).lt; omega
    have xBN3 : ¬ (BQ) = BN := by have := (HSb.out.2.2.2.2.1).lt; omega
    have xBN4 : ¬ (B5) = BN := by have := (HSb.out.2.2.2.2.2.1).lt; omega
    have xBN5 : ¬ (BZ) = BN := by have := (HSb.out.2.2.2.2.2.2.1).lt; omega
    have xBN6 : ¬ (B6) = BN := by have := (HSb.out.2.2.2.2.2.2.2.1).lt; omega
    have xBN7 : ¬ (B7) = BN := by have := (HSb.out.2.2.2.2.2.2.2.2).lt; omega
    have gBN : w.heap.size ≤ BN := by have := HSb.out.1.size; omega
    have xBD0 : ¬ (w.heap.size) = BD := by have := (HSb.out.2.1).lt; omega
    have xBD1 : ¬ (w.heap.size + 1) = BD := by have := (HSb.out.2.2.1).lt; omega
    have xBD2 : ¬ (w.heap.size + 1 + 1) = BD := by have := (HSb.out.2.2.2.1).lt; omega
    have xBD3 : ¬ (BQ) = BD := by have := (HSb.out.2.2.2.2.1).lt; omega
    have xBD4 : ¬ (B5) = BD := by have := (HSb.out.2.2.2.2.2.1).lt; omega
    have xBD5 : ¬ (BZ) = BD := by have := (HSb.out.2.2.2.2.2.2.1).lt; omega
    have xBD6 : ¬ (B6) = BD := by have := (HSb.out.2.2.2.2.2.2.2.1).lt; omega
    have xBD7 : ¬ (B7) = BD := by have := (HSb.out.2.2.2.2.2.2.2.2).lt; omega
    have xBD8 : ¬ BN = BD := by omega
    have gBD : w.heap.size ≤ BD := by have := HSb.out.1.size; omega
    have HSc := Lib.hid (And.intro f (And.intro t0 (And.intro t1 (And.intro t2 (And.intro t3 (And.intro t4 (And.intro t5 (And.intro t6 (And.intro t7 (And.intro t8 t9))))))))))
    rw [hwc]
    (try rw [hBN, hBD])
    clear hwc hBD hBN f t0 t1 t2 t3 t4 t5 t6 t7 t8 t9
    refine (Rn1.out _).mono ?_
    rintro e wd ⟨rfl, c⟩
    have f := HSc.out.1.trans (c.mono HSc.out.1.size)
    have t0 := (HSc.out.2.1).below c (HSc.out.2.1).lt
    have t1 := (HSc.out.2.2.1).below c (HSc.out.2.2.1).lt
    have t2 := (HSc.out.2.2.2.1).below c (HSc.out.2.2.2.1).lt
    have t3 := (HSc.out.2.2.2.2.1).below c (HSc.out.2.2.2.2.1).lt
    have t4 := (HSc.out.2.2.2.2.2.1).below c (HSc.out.2.2.2.2.2.1).lt
    have t5 := (HSc.out.2.2.2.2.2.2.1).below c (HSc.out.2.2.2.2.2.2.1).lt
    have t6 := (HSc.out.2.2.2.2.2.2.2.1).below c (HSc.out.2.2.2.2.2.2.2.1).lt
    have t7 := (HSc.out.2.2.2.2.2.2.2.2.1).below c (HSc.out.2.2.2.2.2.2.2.2.1).lt
    have t8 := (HSc.out.2.2.2.2.2.2.2.2.2.1).below c (HSc.out.2.2.2.2.2.2.2.2.2.1).lt
    have t9 := (HSc.out.2.2.2.2.2.2.2.2.2.2).below c (HSc.out.2.2.2.2.2.2.2.2.2.2).lt
    have HSd := Lib.hid (And.intro f (And.intro t0 (And.intro t1 (And.intro t2 (And.intro t3 (And.intro t4 (And.intro t5 (And.intro t6 (And.intro t7 (And.intro t8 t9))))))))))
    clear c f t0 t1 t2 t3 t4 t5 t6 t7 t8 t9
    have l0 := (HSd.out.2.1).lt
    have l1 := (HSd.out.2.2.1).lt
    have l2 := (HSd.out.2.2.2.1).lt
    have l3 := (HSd.out.2.2.2.2.1).lt
    have l4 := (HSd.out.2.2.2.2.2.1).lt
    have l5 := (HSd.out.2.2.2.2.2.2.1).lt
    have l6 := (HSd.out.2.2.2.2.2.2.2.1).lt
    have l7 := (HSd.out.2.2.2.2.2.2.2.2.1).lt
    have l8 := (HSd.out.2.2.2.2.2.2.2.2.2.1).lt
    have l9 := (HSd.out.2.2.2.2.2.2.2.2.2.2).lt
    go_wp2_with fail
    clear l0 l1 l2 l3 l4 l5 l6 l7 l8 l9
    obtain ⟨we, hwe⟩ : ∃ V, (wd.alloc (Obj.cells #[Value.bool nx, Value.string sx, Value.string tx] 25)) = V := ⟨_, rfl⟩
    obtain ⟨BK, hBK⟩ : ∃ B, wd.heap.size = B := ⟨_, rfl⟩
    have f : Below w.heap.size w we := by rw [← hwe]; exact (HSd.out.1.alloc (by have := HSd.out.1.size; simp; try omega) _)
    have t0 : Cells (w.heap.size) [.bool na, .string sa, .string ta] we := by rw [← hwe]; exact ((HSd.out.2.1).alloc (by have := (HSd.out.2.1).lt; simp; try omega) _)
    have t1 : Cells (w.heap.size + 1) [.bool nb, .string sb, .string tb] we := by rw [← hwe]; exact ((HSd.out.2.2.1).alloc (by have := (HSd.out.2.2.1).lt; simp; try omega) _)
    have t2 : Cells (w.heap.size + 1 + 1) [.bool na, .string sa, .string ta, .bool nb, .string sb, .string tb] we := by rw [← hwe]; exact ((HSd.out.2.2.2.1).alloc (by have := (HSd.out.2.2.2.1).lt; simp; try omega) _)
    have t3 : Cells (BQ) [.bool nq, .string sq, .string tq] we := by rw [← hwe]; exact ((HSd.out.2.2.2.2.1).alloc (by have := (HSd.out.2.2.2.2.1).lt; simp; try omega) _)
    have t4 : Cells (B5) [.bool nd, .string sd, .string td, .bool ne, .string se, .string te, .bool nf, .string sf, .string tf, .bool ng, .string sg, .string tg, .bool nq, .string sq, .string tq] we := by rw [← hwe]; exact ((HSd.out.2.2.2.2.2.1).alloc (by have := (HSd.out.2.2.2.2.2.1).lt; simp; try omega) _)
    have t5 : Cells (BZ) [.bool false, .string ⟨#[]⟩, .string ⟨#[]⟩] we := by rw [← hwe]; exact ((HSd.out.2.2.2.2.2.2.1).alloc (by have := (HSd.out.2.2.2.2.2.2.1).lt; simp; try omega) _)
    have t6 : Cells (B6) [.bool nx, .string sx, .string tx] we := by rw [← hwe]; exact ((HSd.out.2.2.2.2.2.2.2.1).alloc (by have := (HSd.out.2.2.2.2.2.2.2.1).lt; simp; try omega) _)
    have t7 : Cells (B7) [.bool ny, .string sy, .string ty] we := by rw [← hwe]; exact ((HSd.out.2.2.2.2.2.2.2.2.1).alloc (by have := (HSd.out.2.2.2.2.2.2.2.2.1).lt; simp; try omega) _)
    have t8 : Cells (BN) [.bool n1, .string s1] we := by rw [← hwe]; exact ((HSd.out.2.2.2.2.2.2.2.2.2.1).alloc (by have := (HSd.out.2.2.2.2.2.2.2.2.2.1).lt; simp; try omega) _)
    have t9 : Cells (BD) [.bool false, .string s2] we := by rw [← hwe]; exact ((HSd.out.2.2.2.2.2.2.2.2.2.2).alloc (by have := (HSd.out.2.2.2.2.2.2.2.2.2.2).lt; simp; try omega) _)
    have t10 : Cells BK [.bool nx, .string sx, .string tx] we := by
     rw [← hwe, ← hBK]
     have h := cells_new wd #[.bool nx, .string sx, .string tx] 25
     exact h
    have xBK0 : ¬ (w.heap.size) = BK := by have := (HSd.out.2.1).lt; omega
    have xBK1 : ¬ (w.heap.size + 1) = BK := by have := (HSd.out.2.2.1).lt; omega
    have xBK2 : ¬ (w.heap.size + 1 + 1) = BK := by have := (HSd.out.2.2.2.1).lt; omega
    have xBK3 : ¬ (BQ) = BK := by have := (HSd.out.2.2.2.2.1).lt; omega
    have xBK4 : ¬ (B5) = BK := by have := (HSd.out.2.2.2.2.2.1).lt; omega
    have xBK5 : ¬ (BZ) = BK := by have := (HSd.out.2.2.2.2.2.2.1).lt; omega
    have xBK6 : ¬ (B6) = BK := by have := (HSd.out.2.2.2.2.2.2.2.1).lt; omega
    have xBK7 : ¬ (B7) = BK := by have := (HSd.out.2.2.2.2.2.2.2.2.1).lt; omega
    have xBK8 : ¬ (BN) = BK := by have := (HSd.out.2.2.2.2.2.2.2.2.2.1).lt; omega
    have xBK9 : ¬ (BD) = BK := by have := (HSd.out.2.2.2.2.2.2.2.2.2.2).lt; omega
    have gBK : w.heap.size ≤ BK := by have := HSd.out.1.size; omega
    have HSe := Lib.hid (And.intro f (And.intro t0 (And.intro t1 (And.intro t2 (And.intro t3 (And.intro t4 (And.intro t5 (And.intro t6 (And.intro t7 (And.intro t8 (And.intro t9 t10)))))))))))
    rw [hwe]
    (try rw [hBK])
    clear hwe hBK f t0 t1 t2 t3 t4 t5 t6 t7 t8 t9 t10
    have l0 := (HSe.out.2.1).lt
    have m00 := (HSe.out.2.1 0 _ rfl).1
    have m01 := (HSe.out.2.1 1 _ rfl).1
    have m02 := (HSe.out.2.1 2 _ rfl).1
    have l1 := (HSe.out.2.2.1).lt
    have m10 := (HSe.out.2.2.1 0 _ rfl).1
    have m11 := (HSe.out.2.2.1 1 _ rfl).1
    have m12 := (HSe.out.2.2.1 2 _ rfl).1
    have l2 := (HSe.out.2.2.2.1).lt
    have l3 := (HSe.out.2.2.2.2.1).lt
    have l4 := (HSe.out.2.2.2.2.2.1).lt
    have l5 := (HSe.out.2.2.2.2.2.2.1).lt
    have l6 := (HSe.out.2.2.2.2.2.2.2.1).lt
    have m60 := (HSe.out.2.2.2.2.2.2.2.1 0 _ rfl).1
    have m61 := (HSe.out.2.2.2.2.2.2.2.1 1 _ rfl).1
    have m62 := (HSe.out.2.2.2.2.2.2.2.1 2 _ rfl).1
    have l7 := (HSe.out.2.2.2.2.2.2.2.2.1).lt
    have m70 := (HSe.out.2.2.2.2.2.2.2.2.1 0 _ rfl).1
    have m71 := (HSe.out.2.2.2.2.2.2.2.2.1 1 _ rfl).1
    have m72 := (HSe.out.2.2.2.2.2.2.2.2.1 2 _ rfl).1
    have l8 := (HSe.out.2.2.2.2.2.2.2.2.2.1).lt
    have m80 := (HSe.out.2.2.2.2.2.2.2.2.2.1 0 _ rfl).1
    have m81 := (HSe.out.2.2.2.2.2.2.2.2.2.1 1 _ rfl).1
    have l9 := (HSe.out.2.2.2.2.2.2.2.2.2.2.1).lt
    have m90 := (HSe.out.2.2.2.2.2.2.2.2.2.2.1 0 _ rfl).1
    have m91 := (HSe.out.2.2.2.2.2.2.2.2.2.2.1 1 _ rfl).1
    have l10 := (HSe.out.2.2.2.2.2.2.2.2.2.2.2).lt
    have m100 := (HSe.out.2.2.2.2.2.2.2.2.2.2.2 0 _ rfl).1
    have m101 := (HSe.out.2.2.2.2.2.2.2.2.2.2.2 1 _ rfl).1
    have m102 := (HSe.out.2.2.2.2.2.2.2.2.2.2.2 2 _ rfl).1
    have j1 := eql_rat
    have j2 := guard_rat
    obtain ⟨e1, e2, e3, e4⟩ := HE.out
    have e5 : eqR nx sx tx nx sx tx = true := by rw [eqR_iff]; simp
    have htd : Tab we.drew := tab_of HT.out (HSe.out.1.trans ((Below.refl we.heap.size we).drew.mono HSe.out.1.size))
    have HTD := Lib.hid htd
    clear htd
    (try simp only [List.append_eq, List.cons_append, List.nil_append])
    have tok1 : True := trivial
    have tok2 : True := trivial
    have tok3 : True := trivial
    have tok4 : True := trivial
    have tok5 : True := trivial
    have tok6 : True := trivial
    have tok7 : True := trivial
    have tok8 : True := trivial
    have hRb : we.heap.size ≤ we.heap.size := by omega
    go_region_held3 (fun w' => ∀ (a o : Nat), a < we.heap.size → w'.cell? ⟨a, o, none⟩ = we.cell? ⟨a, o, none⟩) (first | with_reducible assumption | (intro _ _ _; rfl) | (repeat' (first | with_reducible assumption | with_reducible exact keepN_refl _ _ | with_reducible (refine keepN_drew ?_) | with_reducible (refine keepN_set ?_ ?_) | with_reducible (refine keepN_alloc ?_ ?_) | exact Nat.le_refl _ | omega | (intro _ _ _; rfl))))
     (first | (go_at_call 35; have _t := tok1; clear tok1; refine (Rc1.out _).mono ?_; rintro e u1 ⟨rfl, d1⟩; have E1 := Lib.hid (d1); have kS1 : ∀ (a o : Nat), a < we.heap.size → u1.cell? ⟨a, o, none⟩ = we.cell? ⟨a, o, none⟩ := fun a o h => E1.out.cell (p := ⟨a, o, none⟩) (Nat.lt_of_lt_of_le h hRb); have hz1 : we.heap.size ≤ u1.heap.size := E1.out.size; clear d1) | (go_at_call 23; have _t := tok2; clear tok2; refine (Rk1.out _).mono ?_; rintro e u2 ⟨rfl, d2⟩; have E2 := Lib.hid (E1.out.trans (d2.mono E1.out.size)); have kS2 : ∀ (a o : Nat), a < we.heap.size → u2.cell? ⟨a, o, none⟩ = we.cell? ⟨a, o, none⟩ := fun a o h => E2.out.cell (p := ⟨a, o, none⟩) (Nat.lt_of_lt_of_le h hRb); have hz2 : we.heap.size ≤ u2.heap.size := E2.out.size; clear d2) | (go_at_call 54; have _t := tok3; clear tok3; refine (Rh1.out _).mono ?_; rintro e u3 ⟨rfl, d3⟩; have E3 := Lib.hid (E2.out.trans (d3.mono E2.out.size)); have kS3 : ∀ (a o : Nat), a < we.heap.size → u3.cell? ⟨a, o, none⟩ = we.cell? ⟨a, o, none⟩ := fun a o h => E3.out.cell (p := ⟨a, o, none⟩) (Nat.lt_of_lt_of_le h hRb); have hz3 : we.heap.size ≤ u3.heap.size := E3.out.size; clear d3) | (go_at_call 53; have _t := tok4; clear tok4; refine (Ri1.out _).mono ?_; rintro e u4 ⟨rfl, d4⟩; have E4 := Lib.hid (E3.out.trans (d4.mono E3.out.size)); have kS4 : ∀ (a o : Nat), a < we.heap.size → u4.cell? ⟨a, o, none⟩ = we.cell? ⟨a, o, none⟩ := fun a o h => E4.out.cell (p := ⟨a, o, none⟩) (Nat.lt_of_lt_of_le h hRb); have hz4 : we.heap.size ≤ u4.heap.size := E4.out.size; clear d4) | (go_at_call 52; have _t := tok5; clear tok5; refine (Rj1.out _).mono ?_; rintro e u5 ⟨rfl, d5⟩; have E5 := Lib.hid (E4.out.trans (d5.mono E4.out.size)); have kS5 : ∀ (a o : Nat), a < we.heap.size → u5.cell? ⟨a, o, none⟩ = we.cell? ⟨a, o, none⟩ := fun a o h => E5.out.cell (p := ⟨a, o, none⟩) (Nat.lt_of_lt_of_le h hRb); have hz5 : we.heap.size ≤ u5.heap.size := E5.out.size; clear d5) | (go_at_call 53; have _t := tok6; clear tok6; refine (Ri0.out _).mono ?_; rintro e u6 ⟨rfl, d6⟩; have E6 := Lib.hid (E5.out.trans (d6.mono E5.out.size)); have kS6 : ∀ (a o : Nat), a < we.heap.size → u6.cell? ⟨a, o, none⟩ = we.cell? ⟨a, o, none⟩ := fun a o h => E6.out.cell (p := ⟨a, o, none⟩) (Nat.lt_of_lt_of_le h hRb); have hz6 : we.heap.size ≤ u6.heap.size := E6.out.size; clear d6) | (go_at_call 52; have _t := tok7; clear tok7; refine (Rj0.out _).mono ?_; rintro e u7 ⟨rfl, d7⟩; have E7 := Lib.hid (E6.out.trans (d7.mono E6.out.size)); have kS7 : ∀ (a o : Nat), a < we.heap.size → u7.cell? ⟨a, o, none⟩ = we.cell? ⟨a, o, none⟩ := fun a o h => E7.out.cell (p := ⟨a, o, none⟩) (Nat.lt_of_lt_of_le h hRb); have hz7 : we.heap.size ≤ u7.heap.size := E7.out.size; clear d7) | (go_at_call 14; have _t := tok8; clear tok8; refine (RA.out _ (tab_of HTD.out E7.out)).mono ?_; rintro e u8 ⟨rfl, d8⟩; have E8 := Lib.hid (E7.out.trans (d8.mono E7.out.size)); have kS8 : ∀ (a o : Nat), a < we.heap.size → u8.cell? ⟨a, o, none⟩ = we.cell? ⟨a, o, none⟩ := fun a o h => E8.out.cell (p := ⟨a, o, none⟩) (Nat.lt_of_lt_of_le h hRb); have hz8 : we.heap.size ≤ u8.heap.size := E8.out.size; clear d8))
    go_wp2_with fail
    go_ret
    exact ⟨rfl, HSe.out.1.trans ((((Below.refl we.heap.size we).drew).trans E8.out).mono HSe.out.1.size)⟩

end Go.Proofs.YtpdhffjdgnpikaaGreatDoor
