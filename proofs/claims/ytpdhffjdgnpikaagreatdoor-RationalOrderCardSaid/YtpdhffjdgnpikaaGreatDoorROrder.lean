/- The walk of narrowslaw02.RationalOrder. -/
import Derived.Test.YtpdhffjdgnpikaaGreatDoorRatLaw
import Derived.Test.YtpdhffjdgnpikaaGreatDoorRatEq
namespace Go.Proofs.YtpdhffjdgnpikaaGreatDoor
open Go.RowKit Go.Shelf

theorem rowR_cells3 {B : Nat} {n1 n2 n3 : Bool} {s1 t1 s2 t2 s3 t3 : ByteArray} {W : World} (h : Cells B [.bool n1, .string s1, .string t1, .bool n2, .string s2, .string t2, .bool n3, .string s3, .string t3] W) : RowR W B [(n1, s1, t1), (n2, s2, t2), (n3, s3, t3)] := by
  intro j hj
  have hj1 : j < 3 := hj
  rcases j with _ | _ | _ | j
  · exact ⟨(h 0 _ rfl).1, (h 1 _ rfl).1, (h 2 _ rfl).1⟩
  · exact ⟨(h 3 _ rfl).1, (h 4 _ rfl).1, (h 5 _ rfl).1⟩
  · exact ⟨(h 6 _ rfl).1, (h 7 _ rfl).1, (h 8 _ rfl).1⟩
  · omega
set_option maxHeartbeats 16000000 in
set_option maxRecDepth 100000 in
theorem order_great (na nb nc : Bool) (sa ta sb tb sc tc : ByteArray)  (w : World) (htab : Tab w) (hsz : ∀ p ∈ ([(na, sa, ta), (nb, sb, tb), (nc, sc, tc)] : List (Bool × ByteArray × ByteArray)), p.2.1.size ≤ 9223372036854775807 ∧ p.2.2.size ≤ 9223372036854775807) (hg : ([(na, sa, ta), (nb, sb, tb), (nc, sc, tc)] : List (Bool × ByteArray × ByteArray)).any grt = true)
    (ca : ∀ W : World, Tab W → Calls Tryz.prog 14 #[] W fun e w' => e = .returned (.bool true) ∧ Below W.heap.size W w') :
    Calls Tryz.prog 8 #[.agg #[.bool na, .string sa, .string ta], .agg #[.bool nb, .string sb, .string tb], .agg #[.bool nc, .string sc, .string tc]] w fun e w' => e = .returned (.bool true) ∧ Below w.heap.size w w' := by
  have HT := Lib.hid htab
  have HG := Lib.hid hg
  have RA := Lib.hid ca
  have HS := Lib.hid hsz
  clear htab hg ca hsz
  go_enter Tryz.func8, Tryz.ntmps8
  go_wp2_with fail
  obtain ⟨W0, hW0⟩ : ∃ V, ((((w.alloc (Obj.cells #[Value.bool na, Value.string sa, Value.string ta] 25)).alloc (Obj.cells #[Value.bool nb, Value.string sb, Value.string tb] 25)).alloc (Obj.cells #[Value.bool nc, Value.string sc, Value.string tc] 25)).alloc (Obj.cells #[Value.bool na, Value.string sa, Value.string ta, Value.bool nb, Value.string sb, Value.string tb, Value.bool nc, Value.string sc, Value.string tc] 25)) = V := ⟨_, rfl⟩
  have sW0 : W0.heap.size = w.heap.size + 1 + 1 + 1 + 1 := by rw [← hW0]; simp
  have k0 : Cells (w.heap.size) [.bool na, .string sa, .string ta] W0 := by
    rw [← hW0]
    have h := cells_new w #[.bool na, .string sa, .string ta] 25
    exact (((h.alloc (by simp; try omega) _).alloc (by simp; try omega) _).alloc (by simp; try omega) _)
  have k1 : Cells (w.heap.size + 1) [.bool nb, .string sb, .string tb] W0 := by
    rw [← hW0]
    have h := cells_new (w.alloc (Obj.cells #[Value.bool na, Value.string sa, Value.string ta] 25)) #[.bool nb, .string sb, .string tb] 25
    simp only [World.size_alloc] at h
    exact ((h.alloc (by simp; try omega) _).alloc (by simp; try omega) _)
  have k2 : Cells (w.heap.size + 1 + 1) [.bool nc, .string sc, .string tc] W0 := by
    rw [← hW0]
    have h := cells_new ((w.alloc (Obj.cells #[Value.bool na, Value.string sa, Value.string ta] 25)).alloc (Obj.cells #[Value.bool nb, Value.string sb, Value.string tb] 25)) #[.bool nc, .string sc, .string tc] 25
    simp only [World.size_alloc] at h
    exact (h.alloc (by simp; try omega) _)
  have k3 : Cells (w.heap.size + 1 + 1 + 1) [.bool na, .string sa, .string ta, .bool nb, .string sb, .string tb, .bool nc, .string sc, .string tc] W0 := by
    rw [← hW0]
    have h := cells_new (((w.alloc (Obj.cells #[Value.bool na, Value.string sa, Value.string ta] 25)).alloc (Obj.cells #[Value.bool nb, Value.string sb, Value.string tb] 25)).alloc (Obj.cells #[Value.bool nc, Value.string sc, Value.string tc] 25)) #[.bool na, .string sa, .string ta, .bool nb, .string sb, .string tb, .bool nc, .string sc, .string tc] 25
    simp only [World.size_alloc] at h
    exact h
  have bW0 : Below w.heap.size w W0 := by
    rw [← hW0]
    exact (((((Below.refl _ _).alloc (Nat.le_refl _) _).alloc (by simp; try omega) _).alloc (by simp; try omega) _).alloc (by simp; try omega) _)
  rw [hW0]
  clear hW0
  have hgr := rgreat_any _ [(na, sa, ta), (nb, sb, tb), (nc, sc, tc)] W0 (rowR_cells3 k3) k3.lt (by show 3 ≤ 1000; omega) HS.out
  rw [HG.out] at hgr
  have HGR := Lib.hid hgr
  clear hgr
  have HS0 := Lib.hid (And.intro bW0 (And.intro k0 (And.intro k1 (And.intro k2 k3))))
  clear bW0 k0 k1 k2 k3
  refine (HGR.out).mono ?_
  rintro e wg ⟨rfl, c⟩
  have f := HS0.out.1.trans (c.mono HS0.out.1.size)
  have t0 := (HS0.out.2.1).below c (HS0.out.2.1).lt
  have t1 := (HS0.out.2.2.1).below c (HS0.out.2.2.1).lt
  have t2 := (HS0.out.2.2.2.1).below c (HS0.out.2.2.2.1).lt
  have t3 := (HS0.out.2.2.2.2).below c (HS0.out.2.2.2.2).lt
  have HS1 := Lib.hid (And.intro f (And.intro t0 (And.intro t1 (And.intro t2 t3))))
  clear c f t0 t1 t2 t3
  go_wp2_with fail
  refine (RA.out _ (tab_of HT.out HS1.out.1)).mono ?_
  rintro e wh ⟨rfl, c⟩
  have HF := Lib.hid (HS1.out.1.trans (c.mono HS1.out.1.size))
  clear c
  go_wp2_with fail
  go_ret
  exact ⟨rfl, HF.out⟩

set_option maxHeartbeats 16000000 in
set_option maxRecDepth 100000 in
theorem order_same (na nb nc : Bool) (sa ta sb tb sc tc : ByteArray) (nd ne nf ng nh : Bool) (sd td se te sf tf sg tg sh th : ByteArray) (x xr s xs k j : Int) (w : World) (htab : Tab w) (hsz : ∀ p ∈ ([(na, sa, ta), (nb, sb, tb), (nc, sc, tc)] : List (Bool × ByteArray × ByteArray)), p.2.1.size ≤ 9223372036854775807 ∧ p.2.2.size ≤ 9223372036854775807) (hg : ([(na, sa, ta), (nb, sb, tb), (nc, sc, tc)] : List (Bool × ByteArray × ByteArray)).any grt = false)
    (ca : ∀ W : World, Tab W → Calls Tryz.prog 14 #[] W fun e w' => e = .returned (.bool true) ∧ Below W.heap.size W w')
    (h1 : ¬ x < -1) (h2 : ¬ 1 < x) (h3 : IntKind.i64.wrap (-xr) = x) (h4 : IntKind.i64.wrap (x * s) = xs) (h5 : IntKind.i64.wrap (j * s) = k)
    (c1 : ∀ W : World, Calls Tryz.prog 35 #[.agg #[.bool na, .string sa, .string ta], .agg #[.bool nb, .string sb, .string tb]] W fun e w' => e = .returned (.int .i64 x) ∧ Below W.heap.size W w')
    (c2 : ∀ W : World, Calls Tryz.prog 35 #[.agg #[.bool nb, .string sb, .string tb], .agg #[.bool nc, .string sc, .string tc]] W fun e w' => e = .returned (.int .i64 x) ∧ Below W.heap.size W w')
    (c3 : ∀ W : World, Calls Tryz.prog 35 #[.agg #[.bool na, .string sa, .string ta], .agg #[.bool nc, .string sc, .string tc]] W fun e w' => e = .returned (.int .i64 x) ∧ Below W.heap.size W w')
    (c4 : ∀ W : World, Calls Tryz.prog 35 #[.agg #[.bool nb, .string sb, .string tb], .agg #[.bool na, .string sa, .string ta]] W fun e w' => e = .returned (.int .i64 xr) ∧ Below W.heap.size W w')
    (c5 : ∀ W : World, Calls Tryz.prog 31 #[.agg #[.bool na, .string sa, .string ta], .agg #[.bool nb, .string sb, .string tb]] W fun e w' => e = .returned (.agg #[.bool nd, .string sd, .string td]) ∧ Below W.heap.size W w')
    (c6 : ∀ W : World, Calls Tryz.prog 37 #[.agg #[.bool nd, .string sd, .string td]] W fun e w' => e = .returned (.int .i64 x) ∧ Below W.heap.size W w')
    (c7 : ∀ W : World, Calls Tryz.prog 37 #[.agg #[.bool nc, .string sc, .string tc]] W fun e w' => e = .returned (.int .i64 s) ∧ Below W.heap.size W w')
    (c8 : ∀ W : World, Calls Tryz.prog 29 #[.agg #[.bool na, .string sa, .string ta], .agg #[.bool nc, .string sc, .string tc]] W fun e w' => e = .returned (.agg #[.bool ne, .string se, .string te]) ∧ Below W.heap.size W w')
    (c9 : ∀ W : World, Calls Tryz.prog 29 #[.agg #[.bool nb, .string sb, .string tb], .agg #[.bool nc, .string sc, .string tc]] W fun e w' => e = .returned (.agg #[.bool nf, .string sf, .string tf]) ∧ Below W.heap.size W w')
    (c10 : ∀ W : World, Calls Tryz.prog 35 #[.agg #[.bool ne, .string se, .string te], .agg #[.bool nf, .string sf, .string tf]] W fun e w' => e = .returned (.int .i64 x) ∧ Below W.heap.size W w')
    (c11 : ∀ W : World, Calls Tryz.prog 33 #[.agg #[.bool na, .string sa, .string ta], .agg #[.bool nc, .string sc, .string tc]] W fun e w' => e = .returned (.agg #[.bool ng, .string sg, .string tg]) ∧ Below W.heap.size W w')
    (c12 : ∀ W : World, Calls Tryz.prog 33 #[.agg #[.bool nb, .string sb, .string tb], .agg #[.bool nc, .string sc, .string tc]] W fun e w' => e = .returned (.agg #[.bool nh, .string sh, .string th]) ∧ Below W.heap.size W w')
    (c13 : ∀ W : World, Calls Tryz.prog 35 #[.agg #[.bool ng, .string sg, .string tg], .agg #[.bool nh, .string sh, .string th]] W fun e w' => e = .returned (.int .i64 xs) ∧ Below W.heap.size W w')
    (c14 : ∀ W : World, Calls Tryz.prog 37 #[.agg #[.bool ng, .string sg, .string tg]] W fun e w' => e = .returned (.int .i64 k) ∧ Below W.heap.size W w')
    (c15 : ∀ W : World, Calls Tryz.prog 37 #[.agg #[.bool na, .string sa, .string ta]] W fun e w' => e = .returned (.int .i64 j) ∧ Below W.heap.size W w')
    : Calls Tryz.prog 8 #[.agg #[.bool na, .string sa, .string ta], .agg #[.bool nb, .string sb, .string tb], .agg #[.bool nc, .string sc, .string tc]] w fun e w' => e = .returned (.bool true) ∧ Below w.heap.size w w' := by
  have HT := Lib.hid htab
  have HG := Lib.hid hg
  have RA := Lib.hid ca
  have HS := Lib.hid hsz
  have HE := Lib.hid (And.intro h1 (And.intro h2 (And.intro h3 (And.intro h4 h5))))
  clear htab hg ca hsz h1 h2 h3 h4 h5
  have R1 := Lib.hid c1
  have R2 := Lib.hid c2
  have R3 := Lib.hid c3
  have R4 := Lib.hid c4
  have R5 := Lib.hid c5
  have R6 := Lib.hid c6
  have R7 := Lib.hid c7
  have R8 := Lib.hid c8
  have R9 := Lib.hid c9
  have R10 := Lib.hid c10
  have R11 := Lib.hid c11
  have R12 := Lib.hid c12
  have R13 := Lib.hid c13
  have R14 := Lib.hid c14
  have R15 := Lib.hid c15
  clear c1 c2 c3 c4 c5 c6 c7 c8 c9 c10 c11 c12 c13 c14 c15
  go_enter Tryz.func8, Tryz.ntmps8
  go_wp2_with fail
  obtain ⟨W0, hW0⟩ : ∃ V, ((((w.alloc (Obj.cells #[Value.bool na, Value.string sa, Value.string ta] 25)).alloc (Obj.cells #[Value.bool nb, Value.string sb, Value.string tb] 25)).alloc (Obj.cells #[Value.bool nc, Value.string sc, Value.string tc] 25)).alloc (Obj.cells #[Value.bool na, Value.string sa, Value.string ta, Value.bool nb, Value.string sb, Value.string tb, Value.bool nc, Value.string sc, Value.string tc] 25)) = V := ⟨_, rfl⟩
  have sW0 : W0.heap.size = w.heap.size + 1 + 1 + 1 + 1 := by rw [← hW0]; simp
  have k0 : Cells (w.heap.size) [.bool na, .string sa, .string ta] W0 := by
    rw [← hW0]
    have h := cells_new w #[.bool na, .string sa, .string ta] 25
    exact (((h.alloc (by simp; try omega) _).alloc (by simp; try omega) _).alloc (by simp; try omega) _)
  have k1 : Cells (w.heap.size + 1) [.bool nb, .string sb, .string tb] W0 := by
    rw [← hW0]
    have h := cells_new (w.alloc (Obj.cells #[Value.bool na, Value.string sa, Value.string ta] 25)) #[.bool nb, .string sb, .string tb] 25
    simp only [World.size_alloc] at h
    exact ((h.alloc (by simp; try omega) _).alloc (by simp; try omega) _)
  have k2 : Cells (w.heap.size + 1 + 1) [.bool nc, .string sc, .string tc] W0 := by
    rw [← hW0]
    have h := cells_new ((w.alloc (Obj.cells #[Value.bool na, Value.string sa, Value.string ta] 25)).alloc (Obj.cells #[Value.bool nb, Value.string sb, Value.string tb] 25)) #[.bool nc, .string sc, .string tc] 25
    simp only [World.size_alloc] at h
    exact (h.alloc (by simp; try omega) _)
  have k3 : Cells (w.heap.size + 1 + 1 + 1) [.bool na, .string sa, .string ta, .bool nb, .string sb, .string tb, .bool nc, .string sc, .string tc] W0 := by
    rw [← hW0]
    have h := cells_new (((w.alloc (Obj.cells #[Value.bool na, Value.string sa, Value.string ta] 25)).alloc (Obj.cells #[Value.bool nb, Value.string sb, Value.string tb] 25)).alloc (Obj.cells #[Value.bool nc, Value.string sc, Value.string tc] 25)) #[.bool na, .string sa, .string ta, .bool nb, .string sb, .string tb, .bool nc, .string sc, .string tc] 25
    simp only [World.size_alloc] at h
    exact h
  have bW0 : Below w.heap.size w W0 := by
    rw [← hW0]
    exact (((((Below.refl _ _).alloc (Nat.le_refl _) _).alloc (by simp; try omega) _).alloc (by simp; try omega) _).alloc (by simp; try omega) _)
  rw [hW0]
  clear hW0
  have hgr := rgreat_any _ [(na, sa, ta), (nb, sb, tb), (nc, sc, tc)] W0 (rowR_cells3 k3) k3.lt (by show 3 ≤ 1000; omega) HS.out
  rw [HG.out] at hgr
  have HGR := Lib.hid hgr
  clear hgr
  have HS0 := Lib.hid (And.intro bW0 (And.intro k0 (And.intro k1 (And.intro k2 k3))))
  clear bW0 k0 k1 k2 k3
  refine (HGR.out).mono ?_
  rintro e wg ⟨rfl, c⟩
  have f := HS0.out.1.trans (c.mono HS0.out.1.size)
  have t0 := (HS0.out.2.1).below c (HS0.out.2.1).lt
  have t1 := (HS0.out.2.2.1).below c (HS0.out.2.2.1).lt
  have t2 := (HS0.out.2.2.2.1).below c (HS0.out.2.2.2.1).lt
  have t3 := (HS0.out.2.2.2.2).below c (HS0.out.2.2.2.2).lt
  have HS1 := Lib.hid (And.intro f (And.intro t0 (And.intro t1 (And.intro t2 t3))))
  clear c f t0 t1 t2 t3
  have l0 := (HS1.out.2.1).lt
  have m00 := (HS1.out.2.1 0 _ rfl).1
  have m01 := (HS1.out.2.1 1 _ rfl).1
  have m02 := (HS1.out.2.1 2 _ rfl).1
  have l1 := (HS1.out.2.2.1).lt
  have m10 := (HS1.out.2.2.1 0 _ rfl).1
  have m11 := (HS1.out.2.2.1 1 _ rfl).1
  have m12 := (HS1.out.2.2.1 2 _ rfl).1
  have l2 := (HS1.out.2.2.2.1).lt
  have m20 := (HS1.out.2.2.2.1 0 _ rfl).1
  have m21 := (HS1.out.2.2.2.1 1 _ rfl).1
  have m22 := (HS1.out.2.2.2.1 2 _ rfl).1
  have l3 := (HS1.out.2.2.2.2).lt
  go_wp2_with fail
  have tok1 : True := trivial
  have tok2 : True := trivial
  have tok3 : True := trivial
  have hRb : wg.heap.size ≤ wg.heap.size := by omega
  go_region_held3 (fun w' => ∀ (a o : Nat), a < wg.heap.size → w'.cell? ⟨a, o, none⟩ = wg.cell? ⟨a, o, none⟩) (first | with_reducible assumption | (intro _ _ _; rfl) | (repeat' (first | with_reducible assumption | with_reducible exact keepN_refl _ _ | with_reducible (refine keepN_drew ?_) | with_reducible (refine keepN_set ?_ ?_) | with_reducible (refine keepN_alloc ?_ ?_) | exact Nat.le_refl _ | omega | (intro _ _ _; rfl))))
    (first | (go_at_call 35; have _t := tok1; clear tok1; refine (R1.out _).mono ?_; rintro e u1 ⟨rfl, d1⟩; have E1 := Lib.hid (d1); have kS1 : ∀ (a o : Nat), a < wg.heap.size → u1.cell? ⟨a, o, none⟩ = wg.cell? ⟨a, o, none⟩ := fun a o h => E1.out.cell (p := ⟨a, o, none⟩) (Nat.lt_of_lt_of_le h hRb); have hz1 : wg.heap.size ≤ u1.heap.size := E1.out.size; clear d1) | (go_at_call 35; have _t := tok2; clear tok2; refine (R2.out _).mono ?_; rintro e u2 ⟨rfl, d2⟩; have E2 := Lib.hid (E1.out.trans (d2.mono E1.out.size)); have kS2 : ∀ (a o : Nat), a < wg.heap.size → u2.cell? ⟨a, o, none⟩ = wg.cell? ⟨a, o, none⟩ := fun a o h => E2.out.cell (p := ⟨a, o, none⟩) (Nat.lt_of_lt_of_le h hRb); have hz2 : wg.heap.size ≤ u2.heap.size := E2.out.size; clear d2) | (go_at_call 35; have _t := tok3; clear tok3; refine (R3.out _).mono ?_; rintro e u3 ⟨rfl, d3⟩; have E3 := Lib.hid (E2.out.trans (d3.mono E2.out.size)); have kS3 : ∀ (a o : Nat), a < wg.heap.size → u3.cell? ⟨a, o, none⟩ = wg.cell? ⟨a, o, none⟩ := fun a o h => E3.out.cell (p := ⟨a, o, none⟩) (Nat.lt_of_lt_of_le h hRb); have hz3 : wg.heap.size ≤ u3.heap.size := E3.out.size; clear d3))
  clear l0 m00 m01 m02 l1 m10 m11 m12 l2 m20 m21 m22 l3
  have f := HS1.out.1.trans ((((Below.refl wg.heap.size wg).drew).trans E3.out).mono HS1.out.1.size)
  have t0 : Cells (w.heap.size) [.bool na, .string sa, .string ta] u3 := (show Cells _ _ wg.drew from HS1.out.2.1).below E3.out (HS1.out.2.1).lt
  have t1 : Cells (w.heap.size + 1) [.bool nb, .string sb, .string tb] u3 := (show Cells _ _ wg.drew from HS1.out.2.2.1).below E3.out (HS1.out.2.2.1).lt
  have t2 : Cells (w.heap.size + 1 + 1) [.bool nc, .string sc, .string tc] u3 := (show Cells _ _ wg.drew from HS1.out.2.2.2.1).below E3.out (HS1.out.2.2.2.1).lt
  have t3 : Cells (w.heap.size + 1 + 1 + 1) [.bool na, .string sa, .string ta, .bool nb, .string sb, .string tb, .bool nc, .string sc, .string tc] u3 := (show Cells _ _ wg.drew from HS1.out.2.2.2.2).below E3.out (HS1.out.2.2.2.2).lt
  have HS2 := Lib.hid (And.intro f (And.intro t0 (And.intro t1 (And.intro t2 t3))))
  clear f t0 t1 t2 t3 E1 kS1 hz1 E2 kS2 hz2 E3 kS3 hz3 hRb
  obtain ⟨h1, h2, h3, h4, h5⟩ := HE.out
  have h1b : -1 ≤ x := by omega
  have h2b : x ≤ 1 := by omega
  have l0 := (HS2.out.2.1).lt
  have m00 := (HS2.out.2.1 0 _ rfl).1
  have m01 := (HS2.out.2.1 1 _ rfl).1
  have m02 := (HS2.out.2.1 2 _ rfl).1
  have l1 := (HS2.out.2.2.1).lt
  have m10 := (HS2.out.2.2.1 0 _ rfl).1
  have m11 := (HS2.out.2.2.1 1 _ rfl).1
  have m12 := (HS2.out.2.2.1 2 _ rfl).1
  have l2 := (HS2.out.2.2.2.1).lt
  have l3 := (HS2.out.2.2.2.2).lt
  go_wp2_with fail
  clear l0 m00 m01 m02 l1 m10 m11 m12 l2 l3
  refine (R4.out _).mono ?_
  rintro e w4 ⟨rfl, c⟩
  have f := HS2.out.1.trans (c.mono HS2.out.1.size)
  have t0 := (HS2.out.2.1).below c (HS2.out.2.1).lt
  have t1 := (HS2.out.2.2.1).below c (HS2.out.2.2.1).lt
  have t2 := (HS2.out.2.2.2.1).below c (HS2.out.2.2.2.1).lt
  have t3 := (HS2.out.2.2.2.2).below c (HS2.out.2.2.2.2).lt
  have HR4 := Lib.hid (And.intro f (And.intro t0 (And.intro t1 (And.intro t2 t3))))
  clear c f t0 t1 t2 t3
  have l0 := (HR4.out.2.1).lt
  have m00 := (HR4.out.2.1 0 _ rfl).1
  have m01 := (HR4.out.2.1 1 _ rfl).1
  have m02 := (HR4.out.2.1 2 _ rfl).1
  have l1 := (HR4.out.2.2.1).lt
  have m10 := (HR4.out.2.2.1 0 _ rfl).1
  have m11 := (HR4.out.2.2.1 1 _ rfl).1
  have m12 := (HR4.out.2.2.1 2 _ rfl).1
  have l2 := (HR4.out.2.2.2.1).lt
  have m20 := (HR4.out.2.2.2.1 0 _ rfl).1
  have m21 := (HR4.out.2.2.2.1 1 _ rfl).1
  have m22 := (HR4.out.2.2.2.1 2 _ rfl).1
  have l3 := (HR4.out.2.2.2.2).lt
  go_wp2_with fail
  clear l0 m00 m01 m02 l1 m10 m11 m12 l2 m20 m21 m22 l3
  refine (R5.out _).mono ?_
  rintro e w5 ⟨rfl, c⟩
  have f := HR4.out.1.trans (c.mono HR4.out.1.size)
  have t0 := (HR4.out.2.1).below c (HR4.out.2.1).lt
  have t1 := (HR4.out.2.2.1).below c (HR4.out.2.2.1).lt
  have t2 := (HR4.out.2.2.2.1).below c (HR4.out.2.2.2.1).lt
  have t3 := (HR4.out.2.2.2.2).below c (HR4.out.2.2.2.2).lt
  have HR5 := Lib.hid (And.intro f (And.intro t0 (And.intro t1 (And.intro t2 t3))))
  clear c f t0 t1 t2 t3
  have l0 := (HR5.out.2.1).lt
  have m00 := (HR5.out.2.1 0 _ rfl).1
  have m01 := (HR5.out.2.1 1 _ rfl).1
  have m02 := (HR5.out.2.1 2 _ rfl).1
  have l1 := (HR5.out.2.2.1).lt
  have m10 := (HR5.out.2.2.1 0 _ rfl).1
  have m11 := (HR5.out.2.2.1 1 _ rfl).1
  have m12 := (HR5.out.2.2.1 2 _ rfl).1
  have l2 := (HR5.out.2.2.2.1).lt
  have m20 := (HR5.out.2.2.2.1 0 _ rfl).1
  have m21 := (HR5.out.2.2.2.1 1 _ rfl).1
  have m22 := (HR5.out.2.2.2.1 2 _ rfl).1
  have l3 := (HR5.out.2.2.2.2).lt
  go_wp2_with fail
  clear l0 m00 m01 m02 l1 m10 m11 m12 l2 m20 m21 m22 l3
  refine (R6.out _).mono ?_
  rintro e w6 ⟨rfl, c⟩
  have f := HR5.out.1.trans (c.mono HR5.out.1.size)
  have t0 := (HR5.out.2.1).below c (HR5.out.2.1).lt
  have t1 := (HR5.out.2.2.1).below c (HR5.out.2.2.1).lt
  have t2 := (HR5.out.2.2.2.1).below c (HR5.out.2.2.2.1).lt
  have t3 := (HR5.out.2.2.2.2).below c (HR5.out.2.2.2.2).lt
  have HR6 := Lib.hid (And.intro f (And.intro t0 (And.intro t1 (And.intro t2 t3))))
  clear c f t0 t1 t2 t3
  have l0 := (HR6.out.2.1).lt
  have m00 := (HR6.out.2.1 0 _ rfl).1
  have m01 := (HR6.out.2.1 1 _ rfl).1
  have m02 := (HR6.out.2.1 2 _ rfl).1
  have l1 := (HR6.out.2.2.1).lt
  have m10 := (HR6.out.2.2.1 0 _ rfl).1
  have m11 := (HR6.out.2.2.1 1 _ rfl).1
  have m12 := (HR6.out.2.2.1 2 _ rfl).1
  have l2 := (HR6.out.2.2.2.1).lt
  have m20 := (HR6.out.2.2.2.1 0 _ rfl).1
  have m21 := (HR6.out.2.2.2.1 1 _ rfl).1
  have m22 := (HR6.out.2.2.2.1 2 _ rfl).1
  have l3 := (HR6.out.2.2.2.2).lt
  go_wp2_with fail
  clear l0 m00 m01 m02 l1 m10 m11 m12 l2 m20 m21 m22 l3
  refine (R7.out _).mono ?_
  rintro e w7 ⟨rfl, c⟩
  have f := HR6.out.1.trans (c.mono HR6.out.1.size)
  have t0 := (HR6.out.2.1).below c (HR6.out.2.1).lt
  have t1 := (HR6.out.2.2.1).below c (HR6.out.2.2.1).lt
  have t2 := (HR6.out.2.2.2.1).below c (HR6.out.2.2.2.1).lt
  have t3 := (HR6.out.2.2.2.2).below c (HR6.out.2.2.2.2).lt
  have HR7 := Lib.hid (And.intro f (And.intro t0 (And.intro t1 (And.intro t2 t3))))
  clear c f t0 t1 t2 t3
  have l0 := (HR7.out.2.1).lt
  have m00 := (HR7.out.2.1 0 _ rfl).1
  have m01 := (HR7.out.2.1 1 _ rfl).1
  have m02 := (HR7.out.2.1 2 _ rfl).1
  have l1 := (HR7.out.2.2.1).lt
  have m10 := (HR7.out.2.2.1 0 _ rfl).1
  have m11 := (HR7.out.2.2.1 1 _ rfl).1
  have m12 := (HR7.out.2.2.1 2 _ rfl).1
  have l2 := (HR7.out.2.2.2.1).lt
  have m20 := (HR7.out.2.2.2.1 0 _ rfl).1
  have m21 := (HR7.out.2.2.2.1 1 _ rfl).1
  have m22 := (HR7.out.2.2.2.1 2 _ rfl).1
  have l3 := (HR7.out.2.2.2.2).lt
  go_wp2_with fail
  have htd : Tab w7.drew := tab_of HT.out (HR7.out.1.trans ((Below.refl w7.heap.size w7).drew.mono HR7.out.1.size))
  have HTD := Lib.hid htd
  clear htd
  (try simp only [List.append_eq, List.cons_append, List.nil_append])
  have tok1 : True := trivial
  have tok2 : True := trivial
  have tok3 : True := trivial
  have tok4 : True := trivial
  have tok5 : True := trivial
  have tok6 : True := trivial
  have tok7 : True := trivial
  have tok8 : True := trivial
  have tok9 : True := trivial
  have tok10 : True := trivial
  have hRb : w7.heap.size ≤ w7.heap.size := by omega
  go_region_held3 (fun w' => ∀ (a o : Nat), a < w7.heap.size → w'.cell? ⟨a, o, none⟩ = w7.cell? ⟨a, o, none⟩) (first | with_reducible assumption | (intro _ _ _; rfl) | (repeat' (first | with_reducible assumption | with_reducible exact keepN_refl _ _ | with_reducible (refine keepN_drew ?_) | with_reducible (refine keepN_set ?_ ?_) | with_reducible (refine keepN_alloc ?_ ?_) | exact Nat.le_refl _ | omega | (intro _ _ _; rfl))))
    (first | (go_at_call 29; have _t := tok1; clear tok1; refine (R8.out _).mono ?_; rintro e u1 ⟨rfl, d1⟩; have E1 := Lib.hid (d1); have kS1 : ∀ (a o : Nat), a < w7.heap.size → u1.cell? ⟨a, o, none⟩ = w7.cell? ⟨a, o, none⟩ := fun a o h => E1.out.cell (p := ⟨a, o, none⟩) (Nat.lt_of_lt_of_le h hRb); have hz1 : w7.heap.size ≤ u1.heap.size := E1.out.size; clear d1) | (go_at_call 29; have _t := tok2; clear tok2; refine (R9.out _).mono ?_; rintro e u2 ⟨rfl, d2⟩; have E2 := Lib.hid (E1.out.trans (d2.mono E1.out.size)); have kS2 : ∀ (a o : Nat), a < w7.heap.size → u2.cell? ⟨a, o, none⟩ = w7.cell? ⟨a, o, none⟩ := fun a o h => E2.out.cell (p := ⟨a, o, none⟩) (Nat.lt_of_lt_of_le h hRb); have hz2 : w7.heap.size ≤ u2.heap.size := E2.out.size; clear d2) | (go_at_call 35; have _t := tok3; clear tok3; refine (R10.out _).mono ?_; rintro e u3 ⟨rfl, d3⟩; have E3 := Lib.hid (E2.out.trans (d3.mono E2.out.size)); have kS3 : ∀ (a o : Nat), a < w7.heap.size → u3.cell? ⟨a, o, none⟩ = w7.cell? ⟨a, o, none⟩ := fun a o h => E3.out.cell (p := ⟨a, o, none⟩) (Nat.lt_of_lt_of_le h hRb); have hz3 : w7.heap.size ≤ u3.heap.size := E3.out.size; clear d3) | (go_at_call 33; have _t := tok4; clear tok4; refine (R11.out _).mono ?_; rintro e u4 ⟨rfl, d4⟩; have E4 := Lib.hid (E3.out.trans (d4.mono E3.out.size)); have kS4 : ∀ (a o : Nat), a < w7.heap.size → u4.cell? ⟨a, o, none⟩ = w7.cell? ⟨a, o, none⟩ := fun a o h => E4.out.cell (p := ⟨a, o, none⟩) (Nat.lt_of_lt_of_le h hRb); have hz4 : w7.heap.size ≤ u4.heap.size := E4.out.size; clear d4) | (go_at_call 33; have _t := tok5; clear tok5; refine (R12.out _).mono ?_; rintro e u5 ⟨rfl, d5⟩; have E5 := Lib.hid (E4.out.trans (d5.mono E4.out.size)); have kS5 : ∀ (a o : Nat), a < w7.heap.size → u5.cell? ⟨a, o, none⟩ = w7.cell? ⟨a, o, none⟩ := fun a o h => E5.out.cell (p := ⟨a, o, none⟩) (Nat.lt_of_lt_of_le h hRb); have hz5 : w7.heap.size ≤ u5.heap.size := E5.out.size; clear d5) | (go_at_call 35; have _t := tok6; clear tok6; refine (R13.out _).mono ?_; rintro e u6 ⟨rfl, d6⟩; have E6 := Lib.hid (E5.out.trans (d6.mono E5.out.size)); have kS6 : ∀ (a o : Nat), a < w7.heap.size → u6.cell? ⟨a, o, none⟩ = w7.cell? ⟨a, o, none⟩ := fun a o h => E6.out.cell (p := ⟨a, o, none⟩) (Nat.lt_of_lt_of_le h hRb); have hz6 : w7.heap.size ≤ u6.heap.size := E6.out.size; clear d6) | (go_at_call 33; have _t := tok7; clear tok7; refine (R11.out _).mono ?_; rintro e u7 ⟨rfl, d7⟩; have E7 := Lib.hid (E6.out.trans (d7.mono E6.out.size)); have kS7 : ∀ (a o : Nat), a < w7.heap.size → u7.cell? ⟨a, o, none⟩ = w7.cell? ⟨a, o, none⟩ := fun a o h => E7.out.cell (p := ⟨a, o, none⟩) (Nat.lt_of_lt_of_le h hRb); have hz7 : w7.heap.size ≤ u7.heap.size := E7.out.size; clear d7) | (go_at_call 37; have _t := tok8; clear tok8; refine (R14.out _).mono ?_; rintro e u8 ⟨rfl, d8⟩; have E8 := Lib.hid (E7.out.trans (d8.mono E7.out.size)); have kS8 : ∀ (a o : Nat), a < w7.heap.size → u8.cell? ⟨a, o, none⟩ = w7.cell? ⟨a, o, none⟩ := fun a o h => E8.out.cell (p := ⟨a, o, none⟩) (Nat.lt_of_lt_of_le h hRb); have hz8 : w7.heap.size ≤ u8.heap.size := E8.out.size; clear d8) | (go_at_call 37; have _t := tok9; clear tok9; refine (R15.out _).mono ?_; rintro e u9 ⟨rfl, d9⟩; have E9 := Lib.hid (E8.out.trans (d9.mono E8.out.size)); have kS9 : ∀ (a o : Nat), a < w7.heap.size → u9.cell? ⟨a, o, none⟩ = w7.cell? ⟨a, o, none⟩ := fun a o h => E9.out.cell (p := ⟨a, o, none⟩) (Nat.lt_of_lt_of_le h hRb); have hz9 : w7.heap.size ≤ u9.heap.size := E9.out.size; clear d9) | (go_at_call 14; have _t := tok10; clear tok10; refine (RA.out _ (tab_of HTD.out E9.out)).mono ?_; rintro e u10 ⟨rfl, d10⟩; have E10 := Lib.hid (E9.out.trans (d10.mono E9.out.size)); have kS10 : ∀ (a o : Nat), a < w7.heap.size → u10.cell? ⟨a, o, none⟩ = w7.cell? ⟨a, o, none⟩ := fun a o h => E10.out.cell (p := ⟨a, o, none⟩) (Nat.lt_of_lt_of_le h hRb); have hz10 : w7.heap.size ≤ u10.heap.size := E10.out.size; clear d10))
  go_wp2_with fail
  go_ret
  exact ⟨rfl, HR7.out.1.trans ((((Below.refl w7.heap.size w7).drew).trans E10.out).mono HR7.out.1.size)⟩

set_option maxHeartbeats 16000000 in
set_option maxRecDepth 100000 in
theorem order_other (na nb nc : Bool) (sa ta sb tb sc tc : ByteArray) (nd ne nf ng nh : Bool) (sd td se te sf tf sg tg sh th : ByteArray) (x y z xr s xs k j : Int) (w : World) (htab : Tab w) (hsz : ∀ p ∈ ([(na, sa, ta), (nb, sb, tb), (nc, sc, tc)] : List (Bool × ByteArray × ByteArray)), p.2.1.size ≤ 9223372036854775807 ∧ p.2.2.size ≤ 9223372036854775807) (hg : ([(na, sa, ta), (nb, sb, tb), (nc, sc, tc)] : List (Bool × ByteArray × ByteArray)).any grt = false)
    (ca : ∀ W : World, Tab W → Calls Tryz.prog 14 #[] W fun e w' => e = .returned (.bool true) ∧ Below W.heap.size W w')
    (h1 : ¬ x < -1) (h2 : ¬ 1 < x) (h3 : IntKind.i64.wrap (-xr) = x) (h4 : IntKind.i64.wrap (x * s) = xs) (h5 : IntKind.i64.wrap (j * s) = k) (h6 : ¬ x = y)
    (c1 : ∀ W : World, Calls Tryz.prog 35 #[.agg #[.bool na, .string sa, .string ta], .agg #[.bool nb, .string sb, .string tb]] W fun e w' => e = .returned (.int .i64 x) ∧ Below W.heap.size W w')
    (c2 : ∀ W : World, Calls Tryz.prog 35 #[.agg #[.bool nb, .string sb, .string tb], .agg #[.bool nc, .string sc, .string tc]] W fun e w' => e = .returned (.int .i64 y) ∧ Below W.heap.size W w')
    (c3 : ∀ W : World, Calls Tryz.prog 35 #[.agg #[.bool na, .string sa, .string ta], .agg #[.bool nc, .string sc, .string tc]] W fun e w' => e = .returned (.int .i64 z) ∧ Below W.heap.size W w')
    (c4 : ∀ W : World, Calls Tryz.prog 35 #[.agg #[.bool nb, .string sb, .string tb], .agg #[.bool na, .string sa, .string ta]] W fun e w' => e = .returned (.int .i64 xr) ∧ Below W.heap.size W w')
    (c5 : ∀ W : World, Calls Tryz.prog 31 #[.agg #[.bool na, .string sa, .string ta], .agg #[.bool nb, .string sb, .string tb]] W fun e w' => e = .returned (.agg #[.bool nd, .string sd, .string td]) ∧ Below W.heap.size W w')
    (c6 : ∀ W : World, Calls Tryz.prog 37 #[.agg #[.bool nd, .string sd, .string td]] W fun e w' => e = .returned (.int .i64 x) ∧ Below W.heap.size W w')
    (c7 : ∀ W : World, Calls Tryz.prog 37 #[.agg #[.bool nc, .string sc, .string tc]] W fun e w' => e = .returned (.int .i64 s) ∧ Below W.heap.size W w')
    (c8 : ∀ W : World, Calls Tryz.prog 29 #[.agg #[.bool na, .string sa, .string ta], .agg #[.bool nc, .string sc, .string tc]] W fun e w' => e = .returned (.agg #[.bool ne, .string se, .string te]) ∧ Below W.heap.size W w')
    (c9 : ∀ W : World, Calls Tryz.prog 29 #[.agg #[.bool nb, .string sb, .string tb], .agg #[.bool nc, .string sc, .string tc]] W fun e w' => e = .returned (.agg #[.bool nf, .string sf, .string tf]) ∧ Below W.heap.size W w')
    (c10 : ∀ W : World, Calls Tryz.prog 35 #[.agg #[.bool ne, .string se, .string te], .agg #[.bool nf, .string sf, .string tf]] W fun e w' => e = .returned (.int .i64 x) ∧ Below W.heap.size W w')
    (c11 : ∀ W : World, Calls Tryz.prog 33 #[.agg #[.bool na, .string sa, .string ta], .agg #[.bool nc, .string sc, .string tc]] W fun e w' => e = .returned (.agg #[.bool ng, .string sg, .string tg]) ∧ Below W.heap.size W w')
    (c12 : ∀ W : World, Calls Tryz.prog 33 #[.agg #[.bool nb, .string sb, .string tb], .agg #[.bool nc, .string sc, .string tc]] W fun e w' => e = .returned (.agg #[.bool nh, .string sh, .string th]) ∧ Below W.heap.size W w')
    (c13 : ∀ W : World, Calls Tryz.prog 35 #[.agg #[.bool ng, .string sg, .string tg], .agg #[.bool nh, .string sh, .string th]] W fun e w' => e = .returned (.int .i64 xs) ∧ Below W.heap.size W w')
    (c14 : ∀ W : World, Calls Tryz.prog 37 #[.agg #[.bool ng, .string sg, .string tg]] W fun e w' => e = .returned (.int .i64 k) ∧ Below W.heap.size W w')
    (c15 : ∀ W : World, Calls Tryz.prog 37 #[.agg #[.bool na, .string sa, .string ta]] W fun e w' => e = .returned (.int .i64 j) ∧ Below W.heap.size W w')
    : Calls Tryz.prog 8 #[.agg #[.bool na, .string sa, .string ta], .agg #[.bool nb, .string sb, .string tb], .agg #[.bool nc, .string sc, .string tc]] w fun e w' => e = .returned (.bool true) ∧ Below w.heap.size w w' := by
  have HT := Lib.hid htab
  have HG := Lib.hid hg
  have RA := Lib.hid ca
  have HS := Lib.hid hsz
  have HE := Lib.hid (And.intro h1 (And.intro h2 (And.intro h3 (And.intro h4 (And.intro h5 h6)))))
  clear htab hg ca hsz h1 h2 h3 h4 h5 h6
  have R1 := Lib.hid c1
  have R2 := Lib.hid c2
  have R3 := Lib.hid c3
  have R4 := Lib.hid c4
  have R5 := Lib.hid c5
  have R6 := Lib.hid c6
  have R7 := Lib.hid c7
  have R8 := Lib.hid c8
  have R9 := Lib.hid c9
  have R10 := Lib.hid c10
  have R11 := Lib.hid c11
  have R12 := Lib.hid c12
  have R13 := Lib.hid c13
  have R14 := Lib.hid c14
  have R15 := Lib.hid c15
  clear c1 c2 c3 c4 c5 c6 c7 c8 c9 c10 c11 c12 c13 c14 c15
  go_enter Tryz.func8, Tryz.ntmps8
  go_wp2_with fail
  obtain ⟨W0, hW0⟩ : ∃ V, ((((w.alloc (Obj.cells #[Value.bool na, Value.string sa, Value.string ta] 25)).alloc (Obj.cells #[Value.bool nb, Value.string sb, Value.string tb] 25)).alloc (Obj.cells #[Value.bool nc, Value.string sc, Value.string tc] 25)).alloc (Obj.cells #[Value.bool na, Value.string sa, Value.string ta, Value.bool nb, Value.string sb, Value.string tb, Value.bool nc, Value.string sc, Value.string tc] 25)) = V := ⟨_, rfl⟩
  have sW0 : W0.heap.size = w.heap.size + 1 + 1 + 1 + 1 := by rw [← hW0]; simp
  have k0 : Cells (w.heap.size) [.bool na, .string sa, .string ta] W0 := by
    rw [← hW0]
    have h := cells_new w #[.bool na, .string sa, .string ta] 25
    exact (((h.alloc (by simp; try omega) _).alloc (by simp; try omega) _).alloc (by simp; try omega) _)
  have k1 : Cells (w.heap.size + 1) [.bool nb, .string sb, .string tb] W0 := by
    rw [← hW0]
    have h := cells_new (w.alloc (Obj.cells #[Value.bool na, Value.string sa, Value.string ta] 25)) #[.bool nb, .string sb, .string tb] 25
    simp only [World.size_alloc] at h
    exact ((h.alloc (by simp; try omega) _).alloc (by simp; try omega) _)
  have k2 : Cells (w.heap.size + 1 + 1) [.bool nc, .string sc, .string tc] W0 := by
    rw [← hW0]
    have h := cells_new ((w.alloc (Obj.cells #[Value.bool na, Value.string sa, Value.string ta] 25)).alloc (Obj.cells #[Value.bool nb, Value.string sb, Value.string tb] 25)) #[.bool nc, .string sc, .string tc] 25
    simp only [World.size_alloc] at h
    exact (h.alloc (by simp; try omega) _)
  have k3 : Cells (w.heap.size + 1 + 1 + 1) [.bool na, .string sa, .string ta, .bool nb, .string sb, .string tb, .bool nc, .string sc, .string tc] W0 := by
    rw [← hW0]
    have h := cells_new (((w.alloc (Obj.cells #[Value.bool na, Value.string sa, Value.string ta] 25)).alloc (Obj.cells #[Value.bool nb, Value.string sb, Value.string tb] 25)).alloc (Obj.cells #[Value.bool nc, Value.string sc, Value.string tc] 25)) #[.bool na, .string sa, .string ta, .bool nb, .string sb, .string tb, .bool nc, .string sc, .string tc] 25
    simp only [World.size_alloc] at h
    exact h
  have bW0 : Below w.heap.size w W0 := by
    rw [← hW0]
    exact (((((Below.refl _ _).alloc (Nat.le_refl _) _).alloc (by simp; try omega) _).alloc (by simp; try omega) _).alloc (by simp; try omega) _)
  rw [hW0]
  clear hW0
  have hgr := rgreat_any _ [(na, sa, ta), (nb, sb, tb), (nc, sc, tc)] W0 (rowR_cells3 k3) k3.lt (by show 3 ≤ 1000; omega) HS.out
  rw [HG.out] at hgr
  have HGR := Lib.hid hgr
  clear hgr
  have HS0 := Lib.hid (And.intro bW0 (And.intro k0 (And.intro k1 (And.intro k2 k3))))
  clear bW0 k0 k1 k2 k3
  refine (HGR.out).mono ?_
  rintro e wg ⟨rfl, c⟩
  have f := HS0.out.1.trans (c.mono HS0.out.1.size)
  have t0 := (HS0.out.2.1).below c (HS0.out.2.1).lt
  have t1 := (HS0.out.2.2.1).below c (HS0.out.2.2.1).lt
  have t2 := (HS0.out.2.2.2.1).below c (HS0.out.2.2.2.1).lt
  have t3 := (HS0.out.2.2.2.2).below c (HS0.out.2.2.2.2).lt
  have HS1 := Lib.hid (And.intro f (And.intro t0 (And.intro t1 (And.intro t2 t3))))
  clear c f t0 t1 t2 t3
  have l0 := (HS1.out.2.1).lt
  have m00 := (HS1.out.2.1 0 _ rfl).1
  have m01 := (HS1.out.2.1 1 _ rfl).1
  have m02 := (HS1.out.2.1 2 _ rfl).1
  have l1 := (HS1.out.2.2.1).lt
  have m10 := (HS1.out.2.2.1 0 _ rfl).1
  have m11 := (HS1.out.2.2.1 1 _ rfl).1
  have m12 := (HS1.out.2.2.1 2 _ rfl).1
  have l2 := (HS1.out.2.2.2.1).lt
  have m20 := (HS1.out.2.2.2.1 0 _ rfl).1
  have m21 := (HS1.out.2.2.2.1 1 _ rfl).1
  have m22 := (HS1.out.2.2.2.1 2 _ rfl).1
  have l3 := (HS1.out.2.2.2.2).lt
  go_wp2_with fail
  have tok1 : True := trivial
  have tok2 : True := trivial
  have tok3 : True := trivial
  have hRb : wg.heap.size ≤ wg.heap.size := by omega
  go_region_held3 (fun w' => ∀ (a o : Nat), a < wg.heap.size → w'.cell? ⟨a, o, none⟩ = wg.cell? ⟨a, o, none⟩) (first | with_reducible assumption | (intro _ _ _; rfl) | (repeat' (first | with_reducible assumption | with_reducible exact keepN_refl _ _ | with_reducible (refine keepN_drew ?_) | with_reducible (refine keepN_set ?_ ?_) | with_reducible (refine keepN_alloc ?_ ?_) | exact Nat.le_refl _ | omega | (intro _ _ _; rfl))))
    (first | (go_at_call 35; have _t := tok1; clear tok1; refine (R1.out _).mono ?_; rintro e u1 ⟨rfl, d1⟩; have E1 := Lib.hid (d1); have kS1 : ∀ (a o : Nat), a < wg.heap.size → u1.cell? ⟨a, o, none⟩ = wg.cell? ⟨a, o, none⟩ := fun a o h => E1.out.cell (p := ⟨a, o, none⟩) (Nat.lt_of_lt_of_le h hRb); have hz1 : wg.heap.size ≤ u1.heap.size := E1.out.size; clear d1) | (go_at_call 35; have _t := tok2; clear tok2; refine (R2.out _).mono ?_; rintro e u2 ⟨rfl, d2⟩; have E2 := Lib.hid (E1.out.trans (d2.mono E1.out.size)); have kS2 : ∀ (a o : Nat), a < wg.heap.size → u2.cell? ⟨a, o, none⟩ = wg.cell? ⟨a, o, none⟩ := fun a o h => E2.out.cell (p := ⟨a, o, none⟩) (Nat.lt_of_lt_of_le h hRb); have hz2 : wg.heap.size ≤ u2.heap.size := E2.out.size; clear d2) | (go_at_call 35; have _t := tok3; clear tok3; refine (R3.out _).mono ?_; rintro e u3 ⟨rfl, d3⟩; have E3 := Lib.hid (E2.out.trans (d3.mono E2.out.size)); have kS3 : ∀ (a o : Nat), a < wg.heap.size → u3.cell? ⟨a, o, none⟩ = wg.cell? ⟨a, o, none⟩ := fun a o h => E3.out.cell (p := ⟨a, o, none⟩) (Nat.lt_of_lt_of_le h hRb); have hz3 : wg.heap.size ≤ u3.heap.size := E3.out.size; clear d3))
  clear l0 m00 m01 m02 l1 m10 m11 m12 l2 m20 m21 m22 l3
  have f := HS1.out.1.trans ((((Below.refl wg.heap.size wg).drew).trans E3.out).mono HS1.out.1.size)
  have t0 : Cells (w.heap.size) [.bool na, .string sa, .string ta] u3 := (show Cells _ _ wg.drew from HS1.out.2.1).below E3.out (HS1.out.2.1).lt
  have t1 : Cells (w.heap.size + 1) [.bool nb, .string sb, .string tb] u3 := (show Cells _ _ wg.drew from HS1.out.2.2.1).below E3.out (HS1.out.2.2.1).lt
  have t2 : Cells (w.heap.size + 1 + 1) [.bool nc, .string sc, .string tc] u3 := (show Cells _ _ wg.drew from HS1.out.2.2.2.1).below E3.out (HS1.out.2.2.2.1).lt
  have t3 : Cells (w.heap.size + 1 + 1 + 1) [.bool na, .string sa, .string ta, .bool nb, .string sb, .string tb, .bool nc, .string sc, .string tc] u3 := (show Cells _ _ wg.drew from HS1.out.2.2.2.2).below E3.out (HS1.out.2.2.2.2).lt
  have HS2 := Lib.hid (And.intro f (And.intro t0 (And.intro t1 (And.intro t2 t3))))
  clear f t0 t1 t2 t3 E1 kS1 hz1 E2 kS2 hz2 E3 kS3 hz3 hRb
  obtain ⟨h1, h2, h3, h4, h5, h6⟩ := HE.out
  have h1b : -1 ≤ x := by omega
  have h2b : x ≤ 1 := by omega
  have h6b : (x == y) = false := by rw [beq_eq_false_iff_ne]; exact h6
  have l0 := (HS2.out.2.1).lt
  have m00 := (HS2.out.2.1 0 _ rfl).1
  have m01 := (HS2.out.2.1 1 _ rfl).1
  have m02 := (HS2.out.2.1 2 _ rfl).1
  have l1 := (HS2.out.2.2.1).lt
  have m10 := (HS2.out.2.2.1 0 _ rfl).1
  have m11 := (HS2.out.2.2.1 1 _ rfl).1
  have m12 := (HS2.out.2.2.1 2 _ rfl).1
  have l2 := (HS2.out.2.2.2.1).lt
  have l3 := (HS2.out.2.2.2.2).lt
  go_wp2_with fail
  clear l0 m00 m01 m02 l1 m10 m11 m12 l2 l3
  refine (R4.out _).mono ?_
  rintro e w4 ⟨rfl, c⟩
  have f := HS2.out.1.trans (c.mono HS2.out.1.size)
  have t0 := (HS2.out.2.1).below c (HS2.out.2.1).lt
  have t1 := (HS2.out.2.2.1).below c (HS2.out.2.2.1).lt
  have t2 := (HS2.out.2.2.2.1).below c (HS2.out.2.2.2.1).lt
  have t3 := (HS2.out.2.2.2.2).below c (HS2.out.2.2.2.2).lt
  have HR4 := Lib.hid (And.intro f (And.intro t0 (And.intro t1 (And.intro t2 t3))))
  clear c f t0 t1 t2 t3
  have l0 := (HR4.out.2.1).lt
  have m00 := (HR4.out.2.1 0 _ rfl).1
  have m01 := (HR4.out.2.1 1 _ rfl).1
  have m02 := (HR4.out.2.1 2 _ rfl).1
  have l1 := (HR4.out.2.2.1).lt
  have m10 := (HR4.out.2.2.1 0 _ rfl).1
  have m11 := (HR4.out.2.2.1 1 _ rfl).1
  have m12 := (HR4.out.2.2.1 2 _ rfl).1
  have l2 := (HR4.out.2.2.2.1).lt
  have m20 := (HR4.out.2.2.2.1 0 _ rfl).1
  have m21 := (HR4.out.2.2.2.1 1 _ rfl).1
  have m22 := (HR4.out.2.2.2.1 2 _ rfl).1
  have l3 := (HR4.out.2.2.2.2).lt
  go_wp2_with fail
  clear l0 m00 m01 m02 l1 m10 m11 m12 l2 m20 m21 m22 l3
  refine (R5.out _).mono ?_
  rintro e w5 ⟨rfl, c⟩
  have f := HR4.out.1.trans (c.mono HR4.out.1.size)
  have t0 := (HR4.out.2.1).below c (HR4.out.2.1).lt
  have t1 := (HR4.out.2.2.1).below c (HR4.out.2.2.1).lt
  have t2 := (HR4.out.2.2.2.1).below c (HR4.out.2.2.2.1).lt
  have t3 := (HR4.out.2.2.2.2).below c (HR4.out.2.2.2.2).lt
  have HR5 := Lib.hid (And.intro f (And.intro t0 (And.intro t1 (And.intro t2 t3))))
  clear c f t0 t1 t2 t3
  have l0 := (HR5.out.2.1).lt
  have m00 := (HR5.out.2.1 0 _ rfl).1
  have m01 := (HR5.out.2.1 1 _ rfl).1
  have m02 := (HR5.out.2.1 2 _ rfl).1
  have l1 := (HR5.out.2.2.1).lt
  have m10 := (HR5.out.2.2.1 0 _ rfl).1
  have m11 := (HR5.out.2.2.1 1 _ rfl).1
  have m12 := (HR5.out.2.2.1 2 _ rfl).1
  have l2 := (HR5.out.2.2.2.1).lt
  have m20 := (HR5.out.2.2.2.1 0 _ rfl).1
  have m21 := (HR5.out.2.2.2.1 1 _ rfl).1
  have m22 := (HR5.out.2.2.2.1 2 _ rfl).1
  have l3 := (HR5.out.2.2.2.2).lt
  go_wp2_with fail
  clear l0 m00 m01 m02 l1 m10 m11 m12 l2 m20 m21 m22 l3
  refine (R6.out _).mono ?_
  rintro e w6 ⟨rfl, c⟩
  have f := HR5.out.1.trans (c.mono HR5.out.1.size)
  have t0 := (HR5.out.2.1).below c (HR5.out.2.1).lt
  have t1 := (HR5.out.2.2.1).below c (HR5.out.2.2.1).lt
  have t2 := (HR5.out.2.2.2.1).below c (HR5.out.2.2.2.1).lt
  have t3 := (HR5.out.2.2.2.2).below c (HR5.out.2.2.2.2).lt
  have HR6 := Lib.hid (And.intro f (And.intro t0 (And.intro t1 (And.intro t2 t3))))
  clear c f t0 t1 t2 t3
  have l0 := (HR6.out.2.1).lt
  have m00 := (HR6.out.2.1 0 _ rfl).1
  have m01 := (HR6.out.2.1 1 _ rfl).1
  have m02 := (HR6.out.2.1 2 _ rfl).1
  have l1 := (HR6.out.2.2.1).lt
  have m10 := (HR6.out.2.2.1 0 _ rfl).1
  have m11 := (HR6.out.2.2.1 1 _ rfl).1
  have m12 := (HR6.out.2.2.1 2 _ rfl).1
  have l2 := (HR6.out.2.2.2.1).lt
  have m20 := (HR6.out.2.2.2.1 0 _ rfl).1
  have m21 := (HR6.out.2.2.2.1 1 _ rfl).1
  have m22 := (HR6.out.2.2.2.1 2 _ rfl).1
  have l3 := (HR6.out.2.2.2.2).lt
  go_wp2_with fail
  clear l0 m00 m01 m02 l1 m10 m11 m12 l2 m20 m21 m22 l3
  refine (R7.out _).mono ?_
  rintro e w7 ⟨rfl, c⟩
  have f := HR6.out.1.trans (c.mono HR6.out.1.size)
  have t0 := (HR6.out.2.1).below c (HR6.out.2.1).lt
  have t1 := (HR6.out.2.2.1).below c (HR6.out.2.2.1).lt
  have t2 := (HR6.out.2.2.2.1).below c (HR6.out.2.2.2.1).lt
  have t3 := (HR6.out.2.2.2.2).below c (HR6.out.2.2.2.2).lt
  have HR7 := Lib.hid (And.intro f (And.intro t0 (And.intro t1 (And.intro t2 t3))))
  clear c f t0 t1 t2 t3
  have l0 := (HR7.out.2.1).lt
  have m00 := (HR7.out.2.1 0 _ rfl).1
  have m01 := (HR7.out.2.1 1 _ rfl).1
  have m02 := (HR7.out.2.1 2 _ rfl).1
  have l1 := (HR7.out.2.2.1).lt
  have m10 := (HR7.out.2.2.1 0 _ rfl).1
  have m11 := (HR7.out.2.2.1 1 _ rfl).1
  have m12 := (HR7.out.2.2.1 2 _ rfl).1
  have l2 := (HR7.out.2.2.2.1).lt
  have m20 := (HR7.out.2.2.2.1 0 _ rfl).1
  have m21 := (HR7.out.2.2.2.1 1 _ rfl).1
  have m22 := (HR7.out.2.2.2.1 2 _ rfl).1
  have l3 := (HR7.out.2.2.2.2).lt
  go_wp2_with fail
  have htd : Tab w7.drew := tab_of HT.out (HR7.out.1.trans ((Below.refl w7.heap.size w7).drew.mono HR7.out.1.size))
  have HTD := Lib.hid htd
  clear htd
  (try simp only [List.append_eq, List.cons_append, List.nil_append])
  have tok1 : True := trivial
  have tok2 : True := trivial
  have tok3 : True := trivial
  have tok4 : True := trivial
  have tok5 : True := trivial
  have tok6 : True := trivial
  have tok7 : True := trivial
  have tok8 : True := trivial
  have tok9 : True := trivial
  have tok10 : True := trivial
  have hRb : w7.heap.size ≤ w7.heap.size := by omega
  go_region_held3 (fun w' => ∀ (a o : Nat), a < w7.heap.size → w'.cell? ⟨a, o, none⟩ = w7.cell? ⟨a, o, none⟩) (first | with_reducible assumption | (intro _ _ _; rfl) | (repeat' (first | with_reducible assumption | with_reducible exact keepN_refl _ _ | with_reducible (refine keepN_drew ?_) | with_reducible (refine keepN_set ?_ ?_) | with_reducible (refine keepN_alloc ?_ ?_) | exact Nat.le_refl _ | omega | (intro _ _ _; rfl))))
    (first | (go_at_call 29; have _t := tok1; clear tok1; refine (R8.out _).mono ?_; rintro e u1 ⟨rfl, d1⟩; have E1 := Lib.hid (d1); have kS1 : ∀ (a o : Nat), a < w7.heap.size → u1.cell? ⟨a, o, none⟩ = w7.cell? ⟨a, o, none⟩ := fun a o h => E1.out.cell (p := ⟨a, o, none⟩) (Nat.lt_of_lt_of_le h hRb); have hz1 : w7.heap.size ≤ u1.heap.size := E1.out.size; clear d1) | (go_at_call 29; have _t := tok2; clear tok2; refine (R9.out _).mono ?_; rintro e u2 ⟨rfl, d2⟩; have E2 := Lib.hid (E1.out.trans (d2.mono E1.out.size)); have kS2 : ∀ (a o : Nat), a < w7.heap.size → u2.cell? ⟨a, o, none⟩ = w7.cell? ⟨a, o, none⟩ := fun a o h => E2.out.cell (p := ⟨a, o, none⟩) (Nat.lt_of_lt_of_le h hRb); have hz2 : w7.heap.size ≤ u2.heap.size := E2.out.size; clear d2) | (go_at_call 35; have _t := tok3; clear tok3; refine (R10.out _).mono ?_; rintro e u3 ⟨rfl, d3⟩; have E3 := Lib.hid (E2.out.trans (d3.mono E2.out.size)); have kS3 : ∀ (a o : Nat), a < w7.heap.size → u3.cell? ⟨a, o, none⟩ = w7.cell? ⟨a, o, none⟩ := fun a o h => E3.out.cell (p := ⟨a, o, none⟩) (Nat.lt_of_lt_of_le h hRb); have hz3 : w7.heap.size ≤ u3.heap.size := E3.out.size; clear d3) | (go_at_call 33; have _t := tok4; clear tok4; refine (R11.out _).mono ?_; rintro e u4 ⟨rfl, d4⟩; have E4 := Lib.hid (E3.out.trans (d4.mono E3.out.size)); have kS4 : ∀ (a o : Nat), a < w7.heap.size → u4.cell? ⟨a, o, none⟩ = w7.cell? ⟨a, o, none⟩ := fun a o h => E4.out.cell (p := ⟨a, o, none⟩) (Nat.lt_of_lt_of_le h hRb); have hz4 : w7.heap.size ≤ u4.heap.size := E4.out.size; clear d4) | (go_at_call 33; have _t := tok5; clear tok5; refine (R12.out _).mono ?_; rintro e u5 ⟨rfl, d5⟩; have E5 := Lib.hid (E4.out.trans (d5.mono E4.out.size)); have kS5 : ∀ (a o : Nat), a < w7.heap.size → u5.cell? ⟨a, o, none⟩ = w7.cell? ⟨a, o, none⟩ := fun a o h => E5.out.cell (p := ⟨a, o, none⟩) (Nat.lt_of_lt_of_le h hRb); have hz5 : w7.heap.size ≤ u5.heap.size := E5.out.size; clear d5) | (go_at_call 35; have _t := tok6; clear tok6; refine (R13.out _).mono ?_; rintro e u6 ⟨rfl, d6⟩; have E6 := Lib.hid (E5.out.trans (d6.mono E5.out.size)); have kS6 : ∀ (a o : Nat), a < w7.heap.size → u6.cell? ⟨a, o, none⟩ = w7.cell? ⟨a, o, none⟩ := fun a o h => E6.out.cell (p := ⟨a, o, none⟩) (Nat.lt_of_lt_of_le h hRb); have hz6 : w7.heap.size ≤ u6.heap.size := E6.out.size; clear d6) | (go_at_call 33; have _t := tok7; clear tok7; refine (R11.out _).mono ?_; rintro e u7 ⟨rfl, d7⟩; have E7 := Lib.hid (E6.out.trans (d7.mono E6.out.size)); have kS7 : ∀ (a o : Nat), a < w7.heap.size → u7.cell? ⟨a, o, none⟩ = w7.cell? ⟨a, o, none⟩ := fun a o h => E7.out.cell (p := ⟨a, o, none⟩) (Nat.lt_of_lt_of_le h hRb); have hz7 : w7.heap.size ≤ u7.heap.size := E7.out.size; clear d7) | (go_at_call 37; have _t := tok8; clear tok8; refine (R14.out _).mono ?_; rintro e u8 ⟨rfl, d8⟩; have E8 := Lib.hid (E7.out.trans (d8.mono E7.out.size)); have kS8 : ∀ (a o : Nat), a < w7.heap.size → u8.cell? ⟨a, o, none⟩ = w7.cell? ⟨a, o, none⟩ := fun a o h => E8.out.cell (p := ⟨a, o, none⟩) (Nat.lt_of_lt_of_le h hRb); have hz8 : w7.heap.size ≤ u8.heap.size := E8.out.size; clear d8) | (go_at_call 37; have _t := tok9; clear tok9; refine (R15.out _).mono ?_; rintro e u9 ⟨rfl, d9⟩; have E9 := Lib.hid (E8.out.trans (d9.mono E8.out.size)); have kS9 : ∀ (a o : Nat), a < w7.heap.size → u9.cell? ⟨a, o, none⟩ = w7.cell? ⟨a, o, none⟩ := fun a o h => E9.out.cell (p := ⟨a, o, none⟩) (Nat.lt_of_lt_of_le h hRb); have hz9 : w7.heap.size ≤ u9.heap.size := E9.out.size; clear d9) | (go_at_call 14; have _t := tok10; clear tok10; refine (RA.out _ (tab_of HTD.out E9.out)).mono ?_; rintro e u10 ⟨rfl, d10⟩; have E10 := Lib.hid (E9.out.trans (d10.mono E9.out.size)); have kS10 : ∀ (a o : Nat), a < w7.heap.size → u10.cell? ⟨a, o, none⟩ = w7.cell? ⟨a, o, none⟩ := fun a o h => E10.out.cell (p := ⟨a, o, none⟩) (Nat.lt_of_lt_of_le h hRb); have hz10 : w7.heap.size ≤ u10.heap.size := E10.out.size; clear d10))
  go_wp2_with fail
  go_ret
  exact ⟨rfl, HR7.out.1.trans ((((Below.refl w7.heap.size w7).drew).trans E10.out).mono HR7.out.1.size)⟩

end Go.Proofs.YtpdhffjdgnpikaaGreatDoor
