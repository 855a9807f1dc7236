/- The walk of narrowslaw02.RationalSimple. -/
import Derived.Test.YtpdhffjdgnpikaaGreatDoorCanon
namespace Go.Proofs.YtpdhffjdgnpikaaGreatDoor
open Go.RowKit Go.Shelf

set_option maxHeartbeats 16000000 in
set_option maxRecDepth 100000 in
theorem simple_great (na nb : Bool) (sa ta sb tb : ByteArray)  (w : World) (htab : Tab w) (hsz : ∀ p ∈ ([(na, sa, ta), (nb, sb, tb)] : List (Bool × ByteArray × ByteArray)), p.2.1.size ≤ 9223372036854775807 ∧ p.2.2.size ≤ 9223372036854775807) (hg : ([(na, sa, ta), (nb, sb, tb)] : List (Bool × ByteArray × ByteArray)).any grt = true)
    (ca : ∀ W : World, Tab W → Calls Tryz.prog 14 #[] W fun e w' => e = .returned (.bool true) ∧ Below W.heap.size W w') :
    Calls Tryz.prog 10 #[.agg #[.bool na, .string sa, .string ta], .agg #[.bool nb, .string sb, .string tb]] w fun e w' => e = .returned (.bool true) ∧ Below w.heap.size w w' := by
  have HT := Lib.hid htab
  have HG := Lib.hid hg
  have RA := Lib.hid ca
  have HS := Lib.hid hsz
  clear htab hg ca hsz
  go_enter Tryz.func10, Tryz.ntmps10
  go_wp2_with fail
  obtain ⟨W0, hW0⟩ : ∃ V, (((w.alloc (Obj.cells #[Value.bool na, Value.string sa, Value.string ta] 25)).alloc (Obj.cells #[Value.bool nb, Value.string sb, Value.string tb] 25)).alloc (Obj.cells #[Value.bool na, Value.string sa, Value.string ta, Value.bool nb, Value.string sb, Value.string tb] 25)) = V := ⟨_, rfl⟩
  have sW0 : W0.heap.size = w.heap.size + 1 + 1 + 1 := by rw [← hW0]; simp
  have k0 : Cells (w.heap.size) [.bool na, .string sa, .string ta] W0 := by
    rw [← hW0]
    have h := cells_new w #[.bool na, .string sa, .string ta] 25
    exact ((h.alloc (by simp; try omega) _).alloc (by simp; try omega) _)
  have k1 : Cells (w.heap.size + 1) [.bool nb, .string sb, .string tb] W0 := by
    rw [← hW0]
    have h := cells_new (w.alloc (Obj.cells #[Value.bool na, Value.string sa, Value.string ta] 25)) #[.bool nb, .string sb, .string tb] 25
    simp only [World.size_alloc] at h
    exact (h.alloc (by simp; try omega) _)
  have k2 : Cells (w.heap.size + 1 + 1) [.bool na, .string sa, .string ta, .bool nb, .string sb, .string tb] W0 := by
    rw [← hW0]
    have h := cells_new ((w.alloc (Obj.cells #[Value.bool na, Value.string sa, Value.string ta] 25)).alloc (Obj.cells #[Value.bool nb, Value.string sb, Value.string tb] 25)) #[.bool na, .string sa, .string ta, .bool nb, .string sb, .string tb] 25
    simp only [World.size_alloc] at h
    exact h
  have bW0 : Below w.heap.size w W0 := by
    rw [← hW0]
    exact ((((Below.refl _ _).alloc (Nat.le_refl _) _).alloc (by simp; try omega) _).alloc (by simp; try omega) _)
  rw [hW0]
  clear hW0
  have hgr := rgreat_any _ [(na, sa, ta), (nb, sb, tb)] W0 (rowR_cells2 k2) k2.lt (by show 2 ≤ 1000; omega) HS.out
  rw [HG.out] at hgr
  have HGR := Lib.hid hgr
  clear hgr
  have HS0 := Lib.hid (And.intro bW0 (And.intro k0 (And.intro k1 k2)))
  clear bW0 k0 k1 k2
  refine (HGR.out).mono ?_
  rintro e wg ⟨rfl, c⟩
  have f := HS0.out.1.trans (c.mono HS0.out.1.size)
  have t0 := (HS0.out.2.1).below c (HS0.out.2.1).lt
  have t1 := (HS0.out.2.2.1).below c (HS0.out.2.2.1).lt
  have t2 := (HS0.out.2.2.2).below c (HS0.out.2.2.2).lt
  have HS1 := Lib.hid (And.intro f (And.intro t0 (And.intro t1 t2)))
  clear c f t0 t1 t2
  go_wp2_with fail
  refine (RA.out _ (tab_of HT.out HS1.out.1)).mono ?_
  rintro e wh ⟨rfl, c⟩
  have HF := Lib.hid (HS1.out.1.trans (c.mono HS1.out.1.size))
  clear c
  go_wp2_with fail
  go_ret
  exact ⟨rfl, HF.out⟩

set_option maxHeartbeats 16000000 in
set_option maxRecDepth 100000 in
theorem simple_err (na nb : Bool) (sa ta sb tb : ByteArray) (n : Int) (hn : 0 < n) (w : World) (htab : Tab w) (hsz : ∀ p ∈ ([(na, sa, ta), (nb, sb, tb)] : List (Bool × ByteArray × ByteArray)), p.2.1.size ≤ 9223372036854775807 ∧ p.2.2.size ≤ 9223372036854775807) (hg : ([(na, sa, ta), (nb, sb, tb)] : List (Bool × ByteArray × ByteArray)).any grt = false)
    (ca : ∀ W : World, Tab W → Calls Tryz.prog 14 #[] W fun e w' => e = .returned (.bool true) ∧ Below W.heap.size W w')
    (c1 : ∀ W : World, Calls Tryz.prog 39 #[.agg #[.bool na, .string sa, .string ta], .agg #[.bool nb, .string sb, .string tb]] W fun e w' => e = .returned (.tuple #[.agg #[.bool false, .string ⟨#[]⟩, .string ⟨#[]⟩], .int .i64 8]) ∧ Below W.heap.size W w')
    (c2 : ∀ W : World, Calls Tryz.prog 35 #[.agg #[.bool na, .string sa, .string ta], .agg #[.bool nb, .string sb, .string tb]] W fun e w' => e = .returned (.int .i64 n) ∧ Below W.heap.size W w')
    : Calls Tryz.prog 10 #[.agg #[.bool na, .string sa, .string ta], .agg #[.bool nb, .string sb, .string tb]] w fun e w' => e = .returned (.bool true) ∧ Below w.heap.size w w' := by
  have HT := Lib.hid htab
  have HG := Lib.hid hg
  have RA := Lib.hid ca
  have HS := Lib.hid hsz
  clear htab hg ca hsz
  have R1 := Lib.hid c1
  have R2 := Lib.hid c2
  clear c1 c2
  go_enter Tryz.func10, Tryz.ntmps10
  go_wp2_with fail
  obtain ⟨W0, hW0⟩ : ∃ V, (((w.alloc (Obj.cells #[Value.bool na, Value.string sa, Value.string ta] 25)).alloc (Obj.cells #[Value.bool nb, Value.string sb, Value.string tb] 25)).alloc (Obj.cells #[Value.bool na, Value.string sa, Value.string ta, Value.bool nb, Value.string sb, Value.string tb] 25)) = V := ⟨_, rfl⟩
  have sW0 : W0.heap.size = w.heap.size + 1 + 1 + 1 := by rw [← hW0]; simp
  have k0 : Cells (w.heap.size) [.bool na, .string sa, .string ta] W0 := by
    rw [← hW0]
    have h := cells_new w #[.bool na, .string sa, .string ta] 25
    exact ((h.alloc (by simp; try omega) _).alloc (by simp; try omega) _)
  have k1 : Cells (w.heap.size + 1) [.bool nb, .string sb, .string tb] W0 := by
    rw [← hW0]
    have h := cells_new (w.alloc (Obj.cells #[Value.bool na, Value.string sa, Value.string ta] 25)) #[.bool nb, .string sb, .string tb] 25
    simp only [World.size_alloc] at h
    exact (h.alloc (by simp; try omega) _)
  have k2 : Cells (w.heap.size + 1 + 1) [.bool na, .string sa, .string ta, .bool nb, .string sb, .string tb] W0 := by
    rw [← hW0]
    have h := cells_new ((w.alloc (Obj.cells #[Value.bool na, Value.string sa, Value.string ta] 25)).alloc (Obj.cells #[Value.bool nb, Value.string sb, Value.string tb] 25)) #[.bool na, .string sa, .string ta, .bool nb, .string sb, .string tb] 25
    simp only [World.size_alloc] at h
    exact h
  have bW0 : Below w.heap.size w W0 := by
    rw [← hW0]
    exact ((((Below.refl _ _).alloc (Nat.le_refl _) _).alloc (by simp; try omega) _).alloc (by simp; try omega) _)
  rw [hW0]
  clear hW0
  have hgr := rgreat_any _ [(na, sa, ta), (nb, sb, tb)] W0 (rowR_cells2 k2) k2.lt (by show 2 ≤ 1000; omega) HS.out
  rw [HG.out] at hgr
  have HGR := Lib.hid hgr
  clear hgr
  have HS0 := Lib.hid (And.intro bW0 (And.intro k0 (And.intro k1 k2)))
  clear bW0 k0 k1 k2
  refine (HGR.out).mono ?_
  rintro e wg ⟨rfl, c⟩
  have f := HS0.out.1.trans (c.mono HS0.out.1.size)
  have t0 := (HS0.out.2.1).below c (HS0.out.2.1).lt
  have t1 := (HS0.out.2.2.1).below c (HS0.out.2.2.1).lt
  have t2 := (HS0.out.2.2.2).below c (HS0.out.2.2.2).lt
  have HS1 := Lib.hid (And.intro f (And.intro t0 (And.intro t1 t2)))
  clear c f t0 t1 t2
  have l0 := (HS1.out.2.1).lt
  have m00 := (HS1.out.2.1 0 _ rfl).1
  have m01 := (HS1.out.2.1 1 _ rfl).1
  have m02 := (HS1.out.2.1 2 _ rfl).1
  have l1 := (HS1.out.2.2.1).lt
  have m10 := (HS1.out.2.2.1 0 _ rfl).1
  have m11 := (HS1.out.2.2.1 1 _ rfl).1
  have m12 := (HS1.out.2.2.1 2 _ rfl).1
  have l2 := (HS1.out.2.2.2).lt
  go_wp2_with fail
  clear l0 m00 m01 m02 l1 m10 m11 m12 l2
  refine (R1.out _).mono ?_
  rintro e w1 ⟨rfl, c⟩
  have f := HS1.out.1.trans (c.mono HS1.out.1.size)
  have t0 := (HS1.out.2.1).below c (HS1.out.2.1).lt
  have t1 := (HS1.out.2.2.1).below c (HS1.out.2.2.1).lt
  have t2 := (HS1.out.2.2.2).below c (HS1.out.2.2.2).lt
  have HS2 := Lib.hid (And.intro f (And.intro t0 (And.intro t1 t2)))
  clear c f t0 t1 t2
  have l0 := (HS2.out.2.1).lt
  have m00 := (HS2.out.2.1 0 _ rfl).1
  have m01 := (HS2.out.2.1 1 _ rfl).1
  have m02 := (HS2.out.2.1 2 _ rfl).1
  have l1 := (HS2.out.2.2.1).lt
  have m10 := (HS2.out.2.2.1 0 _ rfl).1
  have m11 := (HS2.out.2.2.1 1 _ rfl).1
  have m12 := (HS2.out.2.2.1 2 _ rfl).1
  have l2 := (HS2.out.2.2.2).lt
  go_wp2_with fail
  clear l0 m00 m01 m02 l1 m10 m11 m12 l2
  obtain ⟨w2, hw2⟩ : ∃ V, (w1.alloc (Obj.cells #[Value.bool false, Value.string ⟨#[]⟩, Value.string ⟨#[]⟩] 25)) = V := ⟨_, rfl⟩
  obtain ⟨BX, hBX⟩ : ∃ B, w1.heap.size = B := ⟨_, rfl⟩
  have f : Below w.heap.size w w2 := by rw [← hw2]; exact (HS2.out.1.alloc (by have := HS2.out.1.size; simp; try omega) _)
  have t0 : Cells (w.heap.size) [.bool na, .string sa, .string ta] w2 := by rw [← hw2]; exact ((HS2.out.2.1).alloc (by have := (HS2.out.2.1).lt; simp; try omega) _)
  have t1 : Cells (w.heap.size + 1) [.bool nb, .string sb, .string tb] w2 := by rw [← hw2]; exact ((HS2.out.2.2.1).alloc (by have := (HS2.out.2.2.1).lt; simp; try omega) _)
  have t2 : Cells (w.heap.size + 1 + 1) [.bool na, .string sa, .string ta, .bool nb, .string sb, .string tb] w2 := by rw [← hw2]; exact ((HS2.out.2.2.2).alloc (by have := (HS2.out.2.2.2).lt; simp; try omega) _)
  have t3 : Cells BX [.bool false, .string ⟨#[]⟩, .string ⟨#[]⟩] w2 := by
    rw [← hw2, ← hBX]
    have h := cells_new w1 #[.bool false, .string ⟨#[]⟩, .string ⟨#[]⟩] 25
    exact h
  have xBX0 : ¬ (w.heap.size) = BX := by have := (HS2.out.2.1).lt; omega
  have xBX1 : ¬ (w.heap.size + 1) = BX := by have := (HS2.out.2.2.1).lt; omega
  have xBX2 : ¬ (w.heap.size + 1 + 1) = BX := by have := (HS2.out.2.2.2).lt; omega
  have gBX : w.heap.size ≤ BX := by have := HS2.out.1.size; omega
  have HS3 := Lib.hid (And.intro f (And.intro t0 (And.intro t1 (And.intro t2 t3))))
  rw [hw2]
  (try rw [hBX])
  clear hw2 hBX f t0 t1 t2 t3
  refine (R2.out _).mono ?_
  rintro e w3 ⟨rfl, c⟩
  have f := HS3.out.1.trans (c.mono HS3.out.1.size)
  have t0 := (HS3.out.2.1).below c (HS3.out.2.1).lt
  have t1 := (HS3.out.2.2.1).below c (HS3.out.2.2.1).lt
  have t2 := (HS3.out.2.2.2.1).below c (HS3.out.2.2.2.1).lt
  have t3 := (HS3.out.2.2.2.2).below c (HS3.out.2.2.2.2).lt
  have HS4 := Lib.hid (And.intro f (And.intro t0 (And.intro t1 (And.intro t2 t3))))
  clear c f t0 t1 t2 t3
  have j1 := eql_rat
  have j2 := guard_rat
  have e1 : eqR false ⟨#[]⟩ ⟨#[]⟩ false ⟨#[]⟩ ⟨#[]⟩ = true := by rw [eqR_iff]; simp
  have l0 := (HS4.out.2.1).lt
  have l1 := (HS4.out.2.2.1).lt
  have l2 := (HS4.out.2.2.2.1).lt
  have l3 := (HS4.out.2.2.2.2).lt
  have m30 := (HS4.out.2.2.2.2 0 _ rfl).1
  have m31 := (HS4.out.2.2.2.2 1 _ rfl).1
  have m32 := (HS4.out.2.2.2.2 2 _ rfl).1
  go_wp2_with fail
  clear l0 l1 l2 l3 m30 m31 m32
  refine (RA.out _ (tab_of HT.out HS4.out.1)).mono ?_
  rintro e wh ⟨rfl, c⟩
  have HF := Lib.hid (HS4.out.1.trans (c.mono HS4.out.1.size))
  clear c
  go_wp2_with fail
  go_ret
  exact ⟨rfl, HF.out⟩

set_option maxHeartbeats 16000000 in
set_option maxRecDepth 100000 in
theorem simple_ok (na nb : Bool) (sa ta sb tb : ByteArray) (nx n1 : Bool) (sx tx s1 s2 : ByteArray) (n c3 c4 : Int) (hn : ¬ 0 < n) (h3 : ¬ 0 < c3) (h4 : ¬ 0 < c4) (w : World) (htab : Tab w) (hsz : ∀ p ∈ ([(na, sa, ta), (nb, sb, tb)] : List (Bool × ByteArray × ByteArray)), p.2.1.size ≤ 9223372036854775807 ∧ p.2.2.size ≤ 9223372036854775807) (hg : ([(na, sa, ta), (nb, sb, tb)] : List (Bool × ByteArray × ByteArray)).any grt = false)
    (ca : ∀ W : World, Tab W → Calls Tryz.prog 14 #[] W fun e w' => e = .returned (.bool true) ∧ Below W.heap.size W w')
    (c1 : ∀ W : World, Calls Tryz.prog 39 #[.agg #[.bool na, .string sa, .string ta], .agg #[.bool nb, .string sb, .string tb]] W fun e w' => e = .returned (.tuple #[.agg #[.bool nx, .string sx, .string tx], .int .i64 0]) ∧ Below W.heap.size W w')
    (c2 : ∀ W : World, Calls Tryz.prog 35 #[.agg #[.bool na, .string sa, .string ta], .agg #[.bool nb, .string sb, .string tb]] W fun e w' => e = .returned (.int .i64 n) ∧ Below W.heap.size W w')
    (cax : ∀ W : World, Calls Tryz.prog 35 #[.agg #[.bool na, .string sa, .string ta], .agg #[.bool nx, .string sx, .string tx]] W fun e w' => e = .returned (.int .i64 c3) ∧ Below W.heap.size W w')
    (cxb : ∀ W : World, Calls Tryz.prog 35 #[.agg #[.bool nx, .string sx, .string tx], .agg #[.bool nb, .string sb, .string tb]] W fun e w' => e = .returned (.int .i64 c4) ∧ Below W.heap.size W w')
    (cp : ∀ W : World, Calls Tryz.prog 19 #[.agg #[.bool nx, .string sx, .string tx]] W fun e w' => e = .returned (.tuple #[.agg #[.bool n1, .string s1], .agg #[.bool false, .string s2]]) ∧ Below W.heap.size W w')
    (hk : ∀ k : Nat, 1 ≤ k → k ≤ 12 → ∃ (nk nr ng nc nh ni : Bool) (sk sr tr sg tg sc sh th si ti : ByteArray) (ck cm : Int), (ck < 0 → 0 < cm) ∧ (∀ W : World, Calls Tryz.prog 53 #[.int .i64 (k : Int)] W fun e w' => e = .returned (.agg #[.bool nk, .string sk]) ∧ Below W.heap.size W w') ∧ (∀ W : World, Calls Tryz.prog 52 #[.agg #[.bool nk, .string sk], .agg #[.bool false, .string s2]] W fun e w' => e = .returned (.int .i64 ck) ∧ Below W.heap.size W w') ∧ (∀ W : World, Calls Tryz.prog 21 #[.int .i64 (k : Int)] W fun e w' => e = .returned (.agg #[.bool nr, .string sr, .string tr]) ∧ Below W.heap.size W w') ∧ (∀ W : World, Calls Tryz.prog 33 #[.agg #[.bool na, .string sa, .string ta], .agg #[.bool nr, .string sr, .string tr]] W fun e w' => e = .returned (.agg #[.bool ng, .string sg, .string tg]) ∧ Below W.heap.size W w') ∧ (∀ W : World, Calls Tryz.prog 43 #[.agg #[.bool ng, .string sg, .string tg]] W fun e w' => e = .returned (.agg #[.bool nc, .string sc]) ∧ Below W.heap.size W w') ∧ (∀ W : World, Calls Tryz.prog 49 #[.agg #[.bool nc, .string sc]] W fun e w' => e = .returned (.agg #[.bool nh, .string sh, .string th]) ∧ Below W.heap.size W w') ∧ (∀ W : World, Calls Tryz.prog 33 #[.agg #[.bool nb, .string sb, .string tb], .agg #[.bool nr, .string sr, .string tr]] W fun e w' => e = .returned (.agg #[.bool ni, .string si, .string ti]) ∧ Below W.heap.size W w') ∧ (∀ W : World, Calls Tryz.prog 35 #[.agg #[.bool nh, .string sh, .string th], .agg #[.bool ni, .string si, .string ti]] W fun e w' => e = .returned (.int .i64 cm) ∧ Below W.heap.size W w'))
    : Calls Tryz.prog 10 #[.agg #[.bool na, .string sa, .string ta], .agg #[.bool nb, .string sb, .string tb]] w fun e w' => e = .returned (.bool true) ∧ Below w.heap.size w w' := by
  have HT := Lib.hid htab
  have HG := Lib.hid hg
  have RA := Lib.hid ca
  have HS := Lib.hid hsz
  clear htab hg ca hsz
  have R1 := Lib.hid c1
  have R2 := Lib.hid c2
  have R3 := Lib.hid cax
  have R4 := Lib.hid cxb
  have R5 := Lib.hid cp
  have R6 := Lib.hid hk
  clear c1 c2 cax cxb cp hk
  have hn2 : n ≤ 0 := by omega
  have h32 : c3 ≤ 0 := by omega
  have h42 : c4 ≤ 0 := by omega
  go_enter Tryz.func10, Tryz.ntmps10
  go_wp2_with fail
  obtain ⟨W0, hW0⟩ : ∃ V, (((w.alloc (Obj.cells #[Value.bool na, Value.string sa, Value.string ta] 25)).alloc (Obj.cells #[Value.bool nb, Value.string sb, Value.string tb] 25)).alloc (Obj.cells #[Value.bool na, Value.string sa, Value.string ta, Value.bool nb, Value.string sb, Value.string tb] 25)) = V := ⟨_, rfl⟩
  have sW0 : W0.heap.size = w.heap.size + 1 + 1 + 1 := by rw [← hW0]; simp
  have k0 : Cells (w.heap.size) [.bool na, .string sa, .string ta] W0 := by
    rw [← hW0]
    have h := cells_new w #[.bool na, .string sa, .string ta] 25
    exact ((h.alloc (by simp; try omega) _).alloc (by simp; try omega) _)
  have k1 : Cells (w.heap.size + 1) [.bool nb, .string sb, .string tb] W0 := by
    rw [← hW0]
    have h := cells_new (w.alloc (Obj.cells #[Value.bool na, Value.string sa, Value.string ta] 25)) #[.bool nb, .string sb, .string tb] 25
    simp only [World.size_alloc] at h
    exact (h.alloc (by simp; try omega) _)
  have k2 : Cells (w.heap.size + 1 + 1) [.bool na, .string sa, .string ta, .bool nb, .string sb, .string tb] W0 := by
    rw [← hW0]
    have h := cells_new ((w.alloc (Obj.cells #[Value.bool na, Value.string sa, Value.string ta] 25)).alloc (Obj.cells #[Value.bool nb, Value.string sb, Value.string tb] 25)) #[.bool na, .string sa, .string ta, .bool nb, .string sb, .string tb] 25
    simp only [World.size_alloc] at h
    exact h
  have bW0 : Below w.heap.size w W0 := by
    rw [← hW0]
    exact ((((Below.refl _ _).alloc (Nat.le_refl _) _).alloc (by simp; try omega) _).alloc (by simp; try omega) _)
  rw [hW0]
  clear hW0
  have hgr := rgreat_any _ [(na, sa, ta), (nb, sb, tb)] W0 (rowR_cells2 k2) k2.lt (by show 2 ≤ 1000; omega) HS.out
  rw [HG.out] at hgr
  have HGR := Lib.hid hgr
  clear hgr
  have HS0 := Lib.hid (And.intro bW0 (And.intro k0 (And.intro k1 k2)))
  clear bW0 k0 k1 k2
  refine (HGR.out).mono ?_
  rintro e wg ⟨rfl, c⟩
  have f := HS0.out.1.trans (c.mono HS0.out.1.size)
  have t0 := (HS0.out.2.1).below c (HS0.out.2.1).lt
  have t1 := (HS0.out.2.2.1).below c (HS0.out.2.2.1).lt
  have t2 := (HS0.out.2.2.2).below c (HS0.out.2.2.2).lt
  have HS1 := Lib.hid (And.intro f (And.intro t0 (And.intro t1 t2)))
  clear c f t0 t1 t2
  have l0 := (HS1.out.2.1).lt
  have m00 := (HS1.out.2.1 0 _ rfl).1
  have m01 := (HS1.out.2.1 1 _ rfl).1
  have m02 := (HS1.out.2.1 2 _ rfl).1
  have l1 := (HS1.out.2.2.1).lt
  have m10 := (HS1.out.2.2.1 0 _ rfl).1
  have m11 := (HS1.out.2.2.1 1 _ rfl).1
  have m12 := (HS1.out.2.2.1 2 _ rfl).1
  have l2 := (HS1.out.2.2.2).lt
  go_wp2_with fail
  clear l0 m00 m01 m02 l1 m10 m11 m12 l2
  refine (R1.out _).mono ?_
  rintro e w1 ⟨rfl, c⟩
  have f := HS1.out.1.trans (c.mono HS1.out.1.size)
  have t0 := (HS1.out.2.1).below c (HS1.out.2.1).lt
  have t1 := (HS1.out.2.2.1).below c (HS1.out.2.2.1).lt
  have t2 := (HS1.out.2.2.2).below c (HS1.out.2.2.2).lt
  have HS2 := Lib.hid (And.intro f (And.intro t0 (And.intro t1 t2)))
  clear c f t0 t1 t2
  have l0 := (HS2.out.2.1).lt
  have m00 := (HS2.out.2.1 0 _ rfl).1
  have m01 := (HS2.out.2.1 1 _ rfl).1
  have m02 := (HS2.out.2.1 2 _ rfl).1
  have l1 := (HS2.out.2.2.1).lt
  have m10 := (HS2.out.2.2.1 0 _ rfl).1
  have m11 := (HS2.out.2.2.1 1 _ rfl).1
  have m12 := (HS2.out.2.2.1 2 _ rfl).1
  have l2 := (HS2.out.2.2.2).lt
  go_wp2_with fail
  clear l0 m00 m01 m02 l1 m10 m11 m12 l2
  obtain ⟨w2, hw2⟩ : ∃ V, (w1.alloc (Obj.cells #[Value.bool nx, Value.string sx, Value.string tx] 25)) = V := ⟨_, rfl⟩
  obtain ⟨BX, hBX⟩ : ∃ B, w1.heap.size = B := ⟨_, rfl⟩
  have f : Below w.heap.size w w2 := by rw [← hw2]; exact (HS2.out.1.alloc (by have := HS2.out.1.size; simp; try omega) _)
  have t0 : Cells (w.heap.size) [.bool na, .string sa, .string ta] w2 := by rw [← hw2]; exact ((HS2.out.2.1).alloc (by have := (HS2.out.2.1).lt; simp; try omega) _)
  have t1 : Cells (w.heap.size + 1) [.bool nb, .string sb, .string tb] w2 := by rw [← hw2]; exact ((HS2.out.2.2.1).alloc (by have := (HS2.out.2.2.1).lt; simp; try omega) _)
  have t2 : Cells (w.heap.size + 1 + 1) [.bool na, .string sa, .string ta, .bool nb, .string sb, .string tb] w2 := by rw [← hw2]; exact ((HS2.out.2.2.2).alloc (by have := (HS2.out.2.2.2).lt; simp; try omega) _)
  have t3 : Cells BX [.bool nx, .string sx, .string tx] w2 := by
    rw [← hw2, ← hBX]
    have h := cells_new w1 #[.bool nx, .string sx, .string tx] 25
    exact h
  have xBX0 : ¬ (w.heap.size) = BX := by have := (HS2.out.2.1).lt; omega
  have xBX1 : ¬ (w.heap.size + 1) = BX := by have := (HS2.out.2.2.1).lt; omega
  have xBX2 : ¬ (w.heap.size + 1 + 1) = BX := by have := (HS2.out.2.2.2).lt; omega
  have gBX : w.heap.size ≤ BX := by have := HS2.out.1.size; omega
  have HS3 := Lib.hid (And.intro f (And.intro t0 (And.intro t1 (And.intro t2 t3))))
  rw [hw2]
  (try rw [hBX])
  clear hw2 hBX f t0 t1 t2 t3
  refine (R2.out _).mono ?_
  rintro e w3 ⟨rfl, c⟩
  have f := HS3.out.1.trans (c.mono HS3.out.1.size)
  have t0 := (HS3.out.2.1).below c (HS3.out.2.1).lt
  have t1 := (HS3.out.2.2.1).below c (HS3.out.2.2.1).lt
  have t2 := (HS3.out.2.2.2.1).below c (HS3.out.2.2.2.1).lt
  have t3 := (HS3.out.2.2.2.2).below c (HS3.out.2.2.2.2).lt
  have HS4 := Lib.hid (And.intro f (And.intro t0 (And.intro t1 (And.intro t2 t3))))
  clear c f t0 t1 t2 t3
  have l0 := (HS4.out.2.1).lt
  have m00 := (HS4.out.2.1 0 _ rfl).1
  have m01 := (HS4.out.2.1 1 _ rfl).1
  have m02 := (HS4.out.2.1 2 _ rfl).1
  have l1 := (HS4.out.2.2.1).lt
  have l2 := (HS4.out.2.2.2.1).lt
  have l3 := (HS4.out.2.2.2.2).lt
  have m30 := (HS4.out.2.2.2.2 0 _ rfl).1
  have m31 := (HS4.out.2.2.2.2 1 _ rfl).1
  have m32 := (HS4.out.2.2.2.2 2 _ rfl).1
  go_wp2_with fail
  clear l0 m00 m01 m02 l1 l2 l3 m30 m31 m32
  refine (R3.out _).mono ?_
  rintro e w4 ⟨rfl, c⟩
  have f := HS4.out.1.trans (c.mono HS4.out.1.size)
  have t0 := (HS4.out.2.1).below c (HS4.out.2.1).lt
  have t1 := (HS4.out.2.2.1).below c (HS4.out.2.2.1).lt
  have t2 := (HS4.out.2.2.2.1).below c (HS4.out.2.2.2.1).lt
  have t3 := (HS4.out.2.2.2.2).below c (HS4.out.2.2.2.2).lt
  have HS5 := Lib.hid (And.intro f (And.intro t0 (And.intro t1 (And.intro t2 t3))))
  clear c f t0 t1 t2 t3
  have l0 := (HS5.out.2.1).lt
  have l1 := (HS5.out.2.2.1).lt
  have m10 := (HS5.out.2.2.1 0 _ rfl).1
  have m11 := (HS5.out.2.2.1 1 _ rfl).1
  have m12 := (HS5.out.2.2.1 2 _ rfl).1
  have l2 := (HS5.out.2.2.2.1).lt
  have l3 := (HS5.out.2.2.2.2).lt
  have m30 := (HS5.out.2.2.2.2 0 _ rfl).1
  have m31 := (HS5.out.2.2.2.2 1 _ rfl).1
  have m32 := (HS5.out.2.2.2.2 2 _ rfl).1
  go_wp2_with fail
  clear l0 l1 m10 m11 m12 l2 l3 m30 m31 m32
  refine (R4.out _).mono ?_
  rintro e w5 ⟨rfl, c⟩
  have f := HS5.out.1.trans (c.mono HS5.out.1.size)
  have t0 := (HS5.out.2.1).below c (HS5.out.2.1).lt
  have t1 := (HS5.out.2.2.1).below c (HS5.out.2.2.1).lt
  have t2 := (HS5.out.2.2.2.1).below c (HS5.out.2.2.2.1).lt
  have t3 := (HS5.out.2.2.2.2).below c (HS5.out.2.2.2.2).lt
  have HS6 := Lib.hid (And.intro f (And.intro t0 (And.intro t1 (And.intro t2 t3))))
  clear c f t0 t1 t2 t3
  have l0 := (HS6.out.2.1).lt
  have l1 := (HS6.out.2.2.1).lt
  have l2 := (HS6.out.2.2.2.1).lt
  have l3 := (HS6.out.2.2.2.2).lt
  have m30 := (HS6.out.2.2.2.2 0 _ rfl).1
  have m31 := (HS6.out.2.2.2.2 1 _ rfl).1
  have m32 := (HS6.out.2.2.2.2 2 _ rfl).1
  go_wp2_with fail
  clear l0 l1 l2 l3 m30 m31 m32
  refine (R5.out _).mono ?_
  rintro e w6 ⟨rfl, c⟩
  have f := HS6.out.1.trans (c.mono HS6.out.1.size)
  have t0 := (HS6.out.2.1).below c (HS6.out.2.1).lt
  have t1 := (HS6.out.2.2.1).below c (HS6.out.2.2.1).lt
  have t2 := (HS6.out.2.2.2.1).below c (HS6.out.2.2.2.1).lt
  have t3 := (HS6.out.2.2.2.2).below c (HS6.out.2.2.2.2).lt
  have HS7 := Lib.hid (And.intro f (And.intro t0 (And.intro t1 (And.intro t2 t3))))
  clear c f t0 t1 t2 t3
  have l0 := (HS7.out.2.1).lt
  have l1 := (HS7.out.2.2.1).lt
  have l2 := (HS7.out.2.2.2.1).lt
  have l3 := (HS7.out.2.2.2.2).lt
  go_wp2_with fail
  clear l0 l1 l2 l3
  obtain ⟨w7, hw7⟩ : ∃ V, ((w6.alloc (Obj.cells #[Value.bool n1, Value.string s1] 23)).alloc (Obj.cells #[Value.bool false, Value.string s2] 23)) = V := ⟨_, rfl⟩
  obtain ⟨BN, hBN⟩ : ∃ B, w6.heap.size = B := ⟨_, rfl⟩
  obtain ⟨BD, hBD⟩ : ∃ B, BN + 1 = B := ⟨_, rfl⟩
  have f : Below w.heap.size w w7 := by rw [← hw7]; exact ((HS7.out.1.alloc (by have := HS7.out.1.size; simp; try omega) _).alloc (by have := HS7.out.1.size; simp; try omega) _)
  have t0 : Cells (w.heap.size) [.bool na, .string sa, .string ta] w7 := by rw [← hw7]; exact ((((HS7.out.2.1).alloc (by have := (HS7.out.2.1).lt; simp; try omega) _)).alloc (by have := (HS7.out.2.1).lt; simp; try omega) _)
  have t1 : Cells (w.heap.size + 1) [.bool nb, .string sb, .string tb] w7 := by rw [← hw7]; exact ((((HS7.out.2.2.1).alloc (by have := (HS7.out.2.2.1).lt; simp; try omega) _)).alloc (by have := (HS7.out.2.2.1).lt; simp; try omega) _)
  have t2 : Cells (w.heap.size + 1 + 1) [.bool na, .string sa, .string ta, .bool nb, .string sb, .string tb] w7 := by rw [← hw7]; exact ((((HS7.out.2.2.2.1).alloc (by have := (HS7.out.2.2.2.1).lt; simp; try omega) _)).alloc (by have := (HS7.out.2.2.2.1).lt; simp; try omega) _)
  have t3 : Cells (BX) [.bool nx, .string sx, .string tx] w7 := by rw [← hw7]; exact ((((HS7.out.2.2.2.2).alloc (by have := (HS7.out.2.2.2.2).lt; simp; try omega) _)).alloc (by have := (HS7.out.2.2.2.2).lt; simp; try omega) _)
  have t4 : Cells BN [.bool n1, .string s1] w7 := by
    rw [← hw7, ← hBN]
    have h := cells_new w6 #[.bool n1, .string s1] 23
    exact (h.alloc (by simp; try omega) _)
  have t5 : Cells BD [.bool false, .string s2] w7 := by
    rw [← hw7, ← hBD, ← hBN]
    have h := cells_new (w6.alloc (Obj.cells #[Value.bool n1, Value.string s1] 23)) #[.bool false, .string s2] 23
    simp only [World.size_alloc] at h
    exact h
  have xBN0 : ¬ (w.heap.size) = BN := by have := (HS7.out.2.1).lt; omega
  have xBN1 : ¬ (w.heap.size + 1) = BN := by have := (HS7.out.2.2.1).lt; omega
  have xBN2 : ¬ (w.heap.size + 1 + 1) = BN := by have := (HS7.out.2.2.2.1).lt; omega
  have xBN3 : ¬ (BX) = BN := by have := (HS7.out.2.2.2.2).lt; omega
  have gBN : w.heap.size ≤ BN := by have := HS7.out.1.size; omega
  have xBD0 : ¬ (w.heap.size) = BD := by have := (HS7.out.2.1).lt; omega
  have xBD1 : ¬ (w.heap.size + 1) = BD := by have := (HS7.out.2.2.1).lt; omega
  have xBD2 : ¬ (w.heap.size + 1 + 1) = BD := by have := (HS7.out.2.2.2.1).lt; omega
  have xBD3 : ¬ (BX) = BD := by have := (HS7.out.2.2.2.2).lt; omega
  have xBD4 : ¬ BN = BD := by omega
  have gBD : w.heap.size ≤ BD := by have := HS7.out.1.size; omega
  have HS8 := Lib.hid (And.intro f (And.intro t0 (And.intro t1 (And.intro t2 (And.intro t3 (And.intro t4 t5))))))
  rw [hw7]
  (try rw [hBN, hBD])
  clear hw7 hBD hBN f t0 t1 t2 t3 t4 t5
  clear hn h3 h4 hn2 h32 h42
  go_loopw [9] (fun i wr => ∃ k : Nat, 1 ≤ k ∧ k ≤ 13 ∧ i = .int .i64 k ∧ Below w7.heap.size w7 wr) (fun i _ => 13 - (intOf i).toNat)
  case atStart => exact ⟨1, by omega, by omega, rfl, Below.refl _ _⟩
  case round =>
    obtain ⟨k, hk1, hk2, rfl, hbel⟩ := hrel
    have HBEL := Lib.hid hbel
    have f := HS8.out.1.trans (hbel.mono HS8.out.1.size)
    have t0 := (HS8.out.2.1).below hbel (HS8.out.2.1).lt
    have t1 := (HS8.out.2.2.1).below hbel (HS8.out.2.2.1).lt
    have t2 := (HS8.out.2.2.2.1).below hbel (HS8.out.2.2.2.1).lt
    have t3 := (HS8.out.2.2.2.2.1).below hbel (HS8.out.2.2.2.2.1).lt
    have t4 := (HS8.out.2.2.2.2.2.1).below hbel (HS8.out.2.2.2.2.2.1).lt
    have t5 := (HS8.out.2.2.2.2.2.2).below hbel (HS8.out.2.2.2.2.2.2).lt
    have HL1 := Lib.hid (And.intro f (And.intro t0 (And.intro t1 (And.intro t2 (And.intro t3 (And.intro t4 t5))))))
    clear f hbel t0 t1 t2 t3 t4 t5
    by_cases hk12 : k ≤ 12
    · obtain ⟨nk, nr, ng, nc, nh, ni, sk, sr, tr, sg, tg, sc, sh, th, si, ti, ck, cm, hcc, k1, k2, k3, k4, k5, k6, k7, k8⟩ := R6.out k hk1 hk12
      have RK1 := Lib.hid k1
      have RK2 := Lib.hid k2
      have RK3 := Lib.hid k3
      have RK4 := Lib.hid k4
      have RK5 := Lib.hid k5
      have RK6 := Lib.hid k6
      have RK7 := Lib.hid k7
      have RK8 := Lib.hid k8
      have HCC := Lib.hid hcc
      clear hcc k1 k2 k3 k4 k5 k6 k7 k8
      have hki : (k : Int) ≤ 12 := by omega
      have hkd : decide ((k : Int) ≤ 12) = true := decide_eq_true hki
      have l0 := (HL1.out.2.1).lt
      have l1 := (HL1.out.2.2.1).lt
      have l2 := (HL1.out.2.2.2.1).lt
      have l3 := (HL1.out.2.2.2.2.1).lt
      have l4 := (HL1.out.2.2.2.2.2.1).lt
      have l5 := (HL1.out.2.2.2.2.2.2).lt
      have m50 := (HL1.out.2.2.2.2.2.2 0 _ rfl).1
      have m51 := (HL1.out.2.2.2.2.2.2 1 _ rfl).1
      go_wp2_with fail
      have tok1 : True := trivial
      have tok2 : True := trivial
      have hRb : wr.heap.size ≤ wr.heap.size := by omega
      go_region_held3 (fun w' => ∀ (a o : Nat), a < wr.heap.size → w'.cell? ⟨a, o, none⟩ = wr.cell? ⟨a, o, none⟩) (first | with_reducible assumption | (intro _ _ _; rfl) | (repeat' (first | with_reducible assumption | with_reducible exact keepN_refl _ _ | with_reducible (refine keepN_drew ?_) | with_reducible (refine keepN_set ?_ ?_) | with_reducible (refine keepN_alloc ?_ ?_) | exact Nat.le_refl _ | omega | (intro _ _ _; rfl))))
        (first | (go_at_call 53; have _t := tok1; clear tok1; refine (RK1.out _).mono ?_; rintro e u1 ⟨rfl, d1⟩; have E1 := Lib.hid (d1); have kS1 : ∀ (a o : Nat), a < wr.heap.size → u1.cell? ⟨a, o, none⟩ = wr.cell? ⟨a, o, none⟩ := fun a o h => E1.out.cell (p := ⟨a, o, none⟩) (Nat.lt_of_lt_of_le h hRb); have hz1 : wr.heap.size ≤ u1.heap.size := E1.out.size; clear d1) | (go_at_call 52; have _t := tok2; clear tok2; refine (RK2.out _).mono ?_; rintro e u2 ⟨rfl, d2⟩; have E2 := Lib.hid (E1.out.trans (d2.mono E1.out.size)); have kS2 : ∀ (a o : Nat), a < wr.heap.size → u2.cell? ⟨a, o, none⟩ = wr.cell? ⟨a, o, none⟩ := fun a o h => E2.out.cell (p := ⟨a, o, none⟩) (Nat.lt_of_lt_of_le h hRb); have hz2 : wr.heap.size ≤ u2.heap.size := E2.out.size; clear d2))
      clear l0 l1 l2 l3 l4 l5 m50 m51
      have HU := Lib.hid (HBEL.out.trans ((((Below.refl wr.heap.size wr).drew).trans E2.out).mono HBEL.out.size))
      have f := HL1.out.1.trans ((((Below.refl wr.heap.size wr).drew).trans E2.out).mono HL1.out.1.size)
      have t0 : Cells (w.heap.size) [.bool na, .string sa, .string ta] u2 := (show Cells _ _ wr.drew from HL1.out.2.1).below E2.out (HL1.out.2.1).lt
      have t1 : Cells (w.heap.size + 1) [.bool nb, .string sb, .string tb] u2 := (show Cells _ _ wr.drew from HL1.out.2.2.1).below E2.out (HL1.out.2.2.1).lt
      have t2 : Cells (w.heap.size + 1 + 1) [.bool na, .string sa, .string ta, .bool nb, .string sb, .string tb] u2 := (show Cells _ _ wr.drew from HL1.out.2.2.2.1).below E2.out (HL1.out.2.2.2.1).lt
      have t3 : Cells (BX) [.bool nx, .string sx, .string tx] u2 := (show Cells _ _ wr.drew from HL1.out.2.2.2.2.1).below E2.out (HL1.out.2.2.2.2.1).lt
      have t4 : Cells (BN) [.bool n1, .string s1] u2 := (show Cells _ _ wr.drew from HL1.out.2.2.2.2.2.1).below E2.out (HL1.out.2.2.2.2.2.1).lt
      have t5 : Cells (BD) [.bool false, .string s2] u2 := (show Cells _ _ wr.drew from HL1.out.2.2.2.2.2.2).below E2.out (HL1.out.2.2.2.2.2.2).lt
      have HL2 := Lib.hid (And.intro f (And.intro t0 (And.intro t1 (And.intro t2 (And.intro t3 (And.intro t4 t5))))))
      clear f t0 t1 t2 t3 t4 t5 E1 kS1 hz1 E2 kS2 hz2 hRb
      cases hcb : decide (ck < 0)
      · clear hcb
        go_wp2_with fail
        refine (RA.out _ (tab_of HT.out HL2.out.1)).mono ?_
        rintro e wh ⟨rfl, c⟩
        have HF := Lib.hid (HL2.out.1.trans (c.mono HL2.out.1.size))
        clear c
        go_wp2_with fail
        go_ret
        exact ⟨rfl, HF.out⟩
      · have hck := of_decide_eq_true hcb
        have hcm := HCC.out hck
        have HCK0 := Lib.hid hck
        clear hcb hck
        go_wp2_with fail
        have HCK := Lib.hid (And.intro hcm (And.intro hk1 (And.intro hk2 hk12)))
        clear hki hkd hcm hk1 hk2 hk12
        refine wp_region_invA (fun a listed a' w' => ∃ t66 t67 t68 t69 t70 t71 t10 : Value, a' = puts a [(66, t66), (67, t67), (68, t68), (69, t69), (70, t70), (71, t71), (10, t10)] ∧ Below (u2.heap.size) u2 w' ∧ (listed.getD 0 false = true → t66 = .agg #[.bool na, .string sa, .string ta]) ∧ (listed.getD 1 false = true → t67 = .int .i64 (k : Int)) ∧ (listed.getD 2 false = true → t68 = .agg #[.bool nr, .string sr, .string tr]) ∧ (listed.getD 3 false = true → t69 = .agg #[.bool ng, .string sg, .string tg]) ∧ (listed.getD 4 false = true → t70 = .agg #[.bool nc, .string sc]) ∧ (listed.getD 5 false = true → t71 = .agg #[.bool nh, .string sh, .string th]) ∧ (listed.getD 6 false = true → ∃ (B : Nat) (x0 x1 x2 : Value), t10 = .pointer (some ⟨B, 0, none⟩) ∧ u2.heap.size ≤ B ∧ Cells B [x0, x1, x2] w' ∧ (listed.getD 7 false = true → x0 = .bool nh ∧ x1 = .string sh ∧ x2 = .string th)) ∧ (listed.getD 7 false = true → listed.getD 6 false = true)) (by kernel_rfl) (by kernel_rfl) ?_ ?_ ?_
        · exact ⟨u66, u67, u68, u69, u70, u71, u10, (by kernel_rfl), (Below.refl _ _).drew, (fun h => getD_rep h), (fun h => getD_rep h), (fun h => getD_rep h), (fun h => getD_rep h), (fun h => getD_rep h), (fun h => getD_rep h), (fun h => getD_rep h), (fun h => getD_rep h)⟩
        · show InvSteps _ _ _ _ _ [0, 1, 2, 3, 4, 5, 6, 7]
          refine InvSteps.cons rfl (fun listed a w' K' hlt hun hdep hI hK => ?_) ?_
          · obtain ⟨t66, t67, t68, t69, t70, t71, t10, ha, hb, h0, h1, h2, h3, h4, h5, h6, s7_6⟩ := hI
            clear hdep
            have kc := (HL2.out.2.1).below hb (by have := (HL2.out.2.1).lt; omega)
            have kl := kc.lt
            have k0 := (kc 0 _ rfl).1
            have k1 := (kc 1 _ rfl).1
            have k2 := (kc 2 _ rfl).1
            clear kc
            rw [ha]
            clear ha a
            simp only [puts_cons, puts_nil, Act.put, List.setIfInBounds_toArray, List.set_cons_zero, List.set_cons_succ]
            go_simp
            exact hK.out _ _ ⟨(.agg #[.bool na, .string sa, .string ta]), t67, t68, t69, t70, t71, t10, (by kernel_rfl), hb, fun _ => rfl, fun h => h1 (getD_ne h (by decide : 0 ≠ 1)), fun h => h2 (getD_ne h (by decide : 0 ≠ 2)), fun h => h3 (getD_ne h (by decide : 0 ≠ 3)), fun h => h4 (getD_ne h (by decide : 0 ≠ 4)), fun h => h5 (getD_ne h (by decide : 0 ≠ 5)), fun h => by obtain ⟨B, x0, x1, x2, e, hB, kc, hf⟩ := h6 (getD_ne h (by decide : 0 ≠ 6)); exact ⟨B, x0, x1, x2, e, hB, kc, fun h => hf (getD_ne h (by decide : 0 ≠ 7))⟩, fun h => getD_set_true (s7_6 (getD_ne h (by decide : 0 ≠ 7)))⟩
          refine InvSteps.cons rfl (fun listed a w' K' hlt hun hdep hI hK => ?_) ?_
          · obtain ⟨t66, t67, t68, t69, t70, t71, t10, ha, hb, h0, h1, h2, h3, h4, h5, h6, s7_6⟩ := hI
            clear hdep
            rw [ha]
            clear ha a
            simp only [puts_cons, puts_nil, Act.put, List.setIfInBounds_toArray, List.set_cons_zero, List.set_cons_succ]
            go_simp
            exact hK.out _ _ ⟨t66, (.int .i64 (k : Int)), t68, t69, t70, t71, t10, (by kernel_rfl), hb, fun h => h0 (getD_ne h (by decide : 1 ≠ 0)), fun _ => rfl, fun h => h2 (getD_ne h (by decide : 1 ≠ 2)), fun h => h3 (getD_ne h (by decide : 1 ≠ 3)), fun h => h4 (getD_ne h (by decide : 1 ≠ 4)), fun h => h5 (getD_ne h (by decide : 1 ≠ 5)), fun h => by obtain ⟨B, x0, x1, x2, e, hB, kc, hf⟩ := h6 (getD_ne h (by decide : 1 ≠ 6)); exact ⟨B, x0, x1, x2, e, hB, kc, fun h => hf (getD_ne h (by decide : 1 ≠ 7))⟩, fun h => getD_set_true (s7_6 (getD_ne h (by decide : 1 ≠ 7)))⟩
          refine InvSteps.cons rfl (fun listed a w' K' hlt hun hdep hI hK => ?_) ?_
          · obtain ⟨t66, t67, t68, t69, t70, t71, t10, ha, hb, h0, h1, h2, h3, h4, h5, h6, s7_6⟩ := hI
            have H1 := hdep ⟨1, Ground.data⟩ (by simp) rfl
            clear hdep
            have g1 := h1 H1
            subst g1
            rw [ha]
            clear ha a
            simp only [puts_cons, puts_nil, Act.put, List.setIfInBounds_toArray, List.set_cons_zero, List.set_cons_succ]
            go_simp
            refine (RK3.out _).mono ?_
            rintro e u ⟨rfl, c⟩
            go_simp
            exact hK.out _ _ ⟨t66, (.int .i64 (k : Int)), (.agg #[.bool nr, .string sr, .string tr]), t69, t70, t71, t10, (by kernel_rfl), hb.trans (c.mono hb.size), fun h => h0 (getD_ne h (by decide : 2 ≠ 0)), fun _ => rfl, fun _ => rfl, fun h => h3 (getD_ne h (by decide : 2 ≠ 3)), fun h => h4 (getD_ne h (by decide : 2 ≠ 4)), fun h => h5 (getD_ne h (by decide : 2 ≠ 5)), fun h => by obtain ⟨B, x0, x1, x2, e, hB, kc, hf⟩ := h6 (getD_ne h (by decide : 2 ≠ 6)); exact ⟨B, x0, x1, x2, e, hB, kc.below c kc.lt, fun h => hf (getD_ne h (by decide : 2 ≠ 7))⟩, fun h => getD_set_true (s7_6 (getD_ne h (by decide : 2 ≠ 7)))⟩
          refine InvSteps.cons rfl (fun listed a w' K' hlt hun hdep hI hK => ?_) ?_
          · obtain ⟨t66, t67, t68, t69, t70, t71, t10, ha, hb, h0, h1, h2, h3, h4, h5, h6, s7_6⟩ := hI
            have H0 := hdep ⟨0, Ground.data⟩ (by simp) rfl
            have H2 := hdep ⟨2, Ground.data⟩ (by simp) rfl
            clear hdep
            have g0 := h0 H0
            subst g0
            have g2 := h2 H2
            subst g2
            rw [ha]
            clear ha a
            simp only [puts_cons, puts_nil, Act.put, List.setIfInBounds_toArray, List.set_cons_zero, List.set_cons_succ]
            go_simp
            refine (RK4.out _).mono ?_
            rintro e u ⟨rfl, c⟩
            go_simp
            exact hK.out _ _ ⟨(.agg #[.bool na, .string sa, .string ta]), t67, (.agg #[.bool nr, .string sr, .string tr]), (.agg #[.bool ng, .string sg, .string tg]), t70, t71, t10, (by kernel_rfl), hb.trans (c.mono hb.size), fun _ => rfl, fun h => h1 (getD_ne h (by decide : 3 ≠ 1)), fun _ => rfl, fun _ => rfl, fun h => h4 (getD_ne h (by decide : 3 ≠ 4)), fun h => h5 (getD_ne h (by decide : 3 ≠ 5)), fun h => by obtain ⟨B, x0, x1, x2, e, hB, kc, hf⟩ := h6 (getD_ne h (by decide : 3 ≠ 6)); exact ⟨B, x0, x1, x2, e, hB, kc.below c kc.lt, fun h => hf (getD_ne h (by decide : 3 ≠ 7))⟩, fun h => getD_set_true (s7_6 (getD_ne h (by decide : 3 ≠ 7)))⟩
          refine InvSteps.cons rfl (fun listed a w' K' hlt hun hdep hI hK => ?_) ?_
          · obtain ⟨t66, t67, t68, t69, t70, t71, t10, ha, hb, h0, h1, h2, h3, h4, h5, h6, s7_6⟩ := hI
            have H3 := hdep ⟨3, Ground.data⟩ (by simp) rfl
            clear hdep
            have g3 := h3 H3
            subst g3
            rw [ha]
            clear ha a
            simp only [puts_cons, puts_nil, Act.put, List.setIfInBounds_toArray, List.set_cons_zero, List.set_cons_succ]
            go_simp
            refine (RK5.out _).mono ?_
            rintro e u ⟨rfl, c⟩
            go_simp
            exact hK.out _ _ ⟨t66, t67, t68, (.agg #[.bool ng, .string sg, .string tg]), (.agg #[.bool nc, .string sc]), t71, t10, (by kernel_rfl), hb.trans (c.mono hb.size), fun h => h0 (getD_ne h (by decide : 4 ≠ 0)), fun h => h1 (getD_ne h (by decide : 4 ≠ 1)), fun h => h2 (getD_ne h (by decide : 4 ≠ 2)), fun _ => rfl, fun _ => rfl, fun h => h5 (getD_ne h (by decide : 4 ≠ 5)), fun h => by obtain ⟨B, x0, x1, x2, e, hB, kc, hf⟩ := h6 (getD_ne h (by decide : 4 ≠ 6)); exact ⟨B, x0, x1, x2, e, hB, kc.below c kc.lt, fun h => hf (getD_ne h (by decide : 4 ≠ 7))⟩, fun h => getD_set_true (s7_6 (getD_ne h (by decide : 4 ≠ 7)))⟩
          refine InvSteps.cons rfl (fun listed a w' K' hlt hun hdep hI hK => ?_) ?_
          · obtain ⟨t66, t67, t68, t69, t70, t71, t10, ha, hb, h0, h1, h2, h3, h4, h5, h6, s7_6⟩ := hI
            have H4 := hdep ⟨4, Ground.data⟩ (by simp) rfl
            clear hdep
            have g4 := h4 H4
            subst g4
            rw [ha]
            clear ha a
            simp only [puts_cons, puts_nil, Act.put, List.setIfInBounds_toArray, List.set_cons_zero, List.set_cons_succ]
            go_simp
            refine (RK6.out _).mono ?_
            rintro e u ⟨rfl, c⟩
            go_simp
            exact hK.out _ _ ⟨t66, t67, t68, t69, (.agg #[.bool nc, .string sc]), (.agg #[.bool nh, .string sh, .string th]), t10, (by kernel_rfl), hb.trans (c.mono hb.size), fun h => h0 (getD_ne h (by decide : 5 ≠ 0)), fun h => h1 (getD_ne h (by decide : 5 ≠ 1)), fun h => h2 (getD_ne h (by decide : 5 ≠ 2)), fun h => h3 (getD_ne h (by decide : 5 ≠ 3)), fun _ => rfl, fun _ => rfl, fun h => by obtain ⟨B, x0, x1, x2, e, hB, kc, hf⟩ := h6 (getD_ne h (by decide : 5 ≠ 6)); exact ⟨B, x0, x1, x2, e, hB, kc.below c kc.lt, fun h => hf (getD_ne h (by decide : 5 ≠ 7))⟩, fun h => getD_set_true (s7_6 (getD_ne h (by decide : 5 ≠ 7)))⟩
          refine InvSteps.cons rfl (fun listed a w' K' hlt hun hdep hI hK => ?_) ?_
          · obtain ⟨t66, t67, t68, t69, t70, t71, t10, ha, hb, h0, h1, h2, h3, h4, h5, h6, s7_6⟩ := hI
            clear hdep
            rw [ha]
            clear ha a
            simp only [puts_cons, puts_nil, Act.put, List.setIfInBounds_toArray, List.set_cons_zero, List.set_cons_succ]
            go_simp
            exact hK.out _ _ ⟨t66, t67, t68, t69, t70, t71, (.pointer (some ⟨w'.heap.size, 0, none⟩)), (by kernel_rfl), hb.alloc hb.size _, fun h => h0 (getD_ne h (by decide : 6 ≠ 0)), fun h => h1 (getD_ne h (by decide : 6 ≠ 1)), fun h => h2 (getD_ne h (by decide : 6 ≠ 2)), fun h => h3 (getD_ne h (by decide : 6 ≠ 3)), fun h => h4 (getD_ne h (by decide : 6 ≠ 4)), fun h => h5 (getD_ne h (by decide : 6 ≠ 5)), fun _ => ⟨_, _, _, _, rfl, hb.size, cells_new w' #[Value.bool false, Value.string ⟨#[]⟩, Value.string ⟨#[]⟩] 25, fun h => by have h' := s7_6 (getD_ne h (by decide : 6 ≠ 7)); rw [hun] at h'; cases h'⟩, fun _ => getD_self hlt⟩
          refine InvSteps.cons rfl (fun listed a w' K' hlt hun hdep hI hK => ?_) ?_
          · obtain ⟨t66, t67, t68, t69, t70, t71, t10, ha, hb, h0, h1, h2, h3, h4, h5, h6, s7_6⟩ := hI
            have H6 := hdep ⟨6, Ground.data⟩ (by simp) rfl
            have H5 := hdep ⟨5, Ground.data⟩ (by simp) rfl
            have H0 := hdep ⟨0, Ground.phase⟩ (by simp) rfl
            have H1 := hdep ⟨1, Ground.phase⟩ (by simp) rfl
            have H2 := hdep ⟨2, Ground.phase⟩ (by simp) rfl
            have H3 := hdep ⟨3, Ground.phase⟩ (by simp) rfl
            have H4 := hdep ⟨4, Ground.phase⟩ (by simp) rfl
            clear hdep
            have g5 := h5 H5
            subst g5
            have g0 := h0 H0
            subst g0
            have g1 := h1 H1
            subst g1
            have g2 := h2 H2
            subst g2
            have g3 := h3 H3
            subst g3
            have g4 := h4 H4
            subst g4
            obtain ⟨B, x0, x1, x2, rfl, hB, kc, _⟩ := h6 H6
            have kl := kc.lt
            have k0 := (kc 0 _ rfl).1
            have z0 := (kc 0 _ rfl).2
            have k1 := (kc 1 _ rfl).1
            have z1 := (kc 1 _ rfl).2
            have k2 := (kc 2 _ rfl).1
            have z2 := (kc 2 _ rfl).2
            rw [ha]
            clear ha a
            simp only [puts_cons, puts_nil, Act.put, List.setIfInBounds_toArray, List.set_cons_zero, List.set_cons_succ]
            go_simp
            have yc0 : Cells (B) [.bool nh, x1, x2] _ := (kc).set (k := 0) (Value.bool nh) _ rfl
            have yc1 : Cells (B) [.bool nh, .string sh, x2] _ := (yc0).set (k := 1) (Value.string sh) _ rfl
            have yc2 : Cells (B) [.bool nh, .string sh, .string th] _ := (yc1).set (k := 2) (Value.string th) _ rfl
            exact hK.out _ _ ⟨(.agg #[.bool na, .string sa, .string ta]), (.int .i64 (k : Int)), (.agg #[.bool nr, .string sr, .string tr]), (.agg #[.bool ng, .string sg, .string tg]), (.agg #[.bool nc, .string sc]), (.agg #[.bool nh, .string sh, .string th]), (.pointer (some ⟨B, 0, none⟩)), (by kernel_rfl), (below_sets (below_sets (below_sets hb hB 0 (Value.bool nh)) hB 1 (Value.string sh)) hB 2 (Value.string th)), fun _ => rfl, fun _ => rfl, fun _ => rfl, fun _ => rfl, fun _ => rfl, fun _ => rfl, fun _ => ⟨B, _, _, _, rfl, hB, yc2, fun _ => ⟨rfl, rfl, rfl⟩⟩, fun _ => getD_set_true H6⟩
          exact InvSteps.nil
        · intro listed a w8 hl hI
          obtain ⟨t66, t67, t68, t69, t70, t71, t10, ha, hb, h0, h1, h2, h3, h4, h5, h6, s7_6⟩ := hI
          have H0 := hl 0 (by show 0 < 8; omega)
          have H1 := hl 1 (by show 1 < 8; omega)
          have H2 := hl 2 (by show 2 < 8; omega)
          have H3 := hl 3 (by show 3 < 8; omega)
          have H4 := hl 4 (by show 4 < 8; omega)
          have H5 := hl 5 (by show 5 < 8; omega)
          have H6 := hl 6 (by show 6 < 8; omega)
          have H7 := hl 7 (by show 7 < 8; omega)
          have g0 := h0 H0
          subst g0
          have g1 := h1 H1
          subst g1
          have g2 := h2 H2
          subst g2
          have g3 := h3 H3
          subst g3
          have g4 := h4 H4
          subst g4
          have g5 := h5 H5
          subst g5
          obtain ⟨B6, y6_0, y6_1, y6_2, rfl, r6, c6, f6⟩ := h6 H6
          obtain ⟨rfl, rfl, rfl⟩ := f6 H7
          clear H0 H1 H2 H3 H4 H5 H6 H7 hl h0 h1 h2 h3 h4 h5 h6 s7_6 f6 listed
          rw [ha]
          clear ha a
          simp only [puts_cons, puts_nil, Act.put, List.setIfInBounds_toArray, List.set_cons_zero, List.set_cons_succ]
          clear r6
          have f := HL2.out.1.trans (hb.mono HL2.out.1.size)
          have t0 := (HL2.out.2.1).below hb (HL2.out.2.1).lt
          have t1 := (HL2.out.2.2.1).below hb (HL2.out.2.2.1).lt
          have t2 := (HL2.out.2.2.2.1).below hb (HL2.out.2.2.2.1).lt
          have t3 := (HL2.out.2.2.2.2.1).below hb (HL2.out.2.2.2.2.1).lt
          have t4 := (HL2.out.2.2.2.2.2.1).below hb (HL2.out.2.2.2.2.2.1).lt
          have t5 := (HL2.out.2.2.2.2.2.2).below hb (HL2.out.2.2.2.2.2.2).lt
          have HL3 := Lib.hid (And.intro f (And.intro t0 (And.intro t1 (And.intro t2 (And.intro t3 (And.intro t4 (And.intro t5 c6)))))))
          clear f t0 t1 t2 t3 t4 t5 c6
          have HB := Lib.hid hb
          clear hb
          have l0 := (HL3.out.2.1).lt
          have l1 := (HL3.out.2.2.1).lt
          have m10 := (HL3.out.2.2.1 0 _ rfl).1
          have m11 := (HL3.out.2.2.1 1 _ rfl).1
          have m12 := (HL3.out.2.2.1 2 _ rfl).1
          have l2 := (HL3.out.2.2.2.1).lt
          have l3 := (HL3.out.2.2.2.2.1).lt
          have l4 := (HL3.out.2.2.2.2.2.1).lt
          have l5 := (HL3.out.2.2.2.2.2.2.1).lt
          have l6 := (HL3.out.2.2.2.2.2.2.2).lt
          have m60 := (HL3.out.2.2.2.2.2.2.2 0 _ rfl).1
          have m61 := (HL3.out.2.2.2.2.2.2.2 1 _ rfl).1
          have m62 := (HL3.out.2.2.2.2.2.2.2 2 _ rfl).1
          go_wp2_with fail
          have hc1 : ¬ cm ≤ 0 := by have := HCK.out.1; omega
          have hc2 : decide (cm ≤ 0) = false := decide_eq_false hc1
          have tok1 : True := trivial
          have tok2 : True := trivial
          have tok3 : True := trivial
          have hRb : w8.heap.size ≤ w8.heap.size := by omega
          go_region_held3 (fun w' => ∀ (a o : Nat), a < w8.heap.size → w'.cell? ⟨a, o, none⟩ = w8.cell? ⟨a, o, none⟩) (first | with_reducible assumption | (intro _ _ _; rfl) | (repeat' (first | with_reducible assumption | with_reducible exact keepN_refl _ _ | with_reducible (refine keepN_drew ?_) | with_reducible (refine keepN_set ?_ ?_) | with_reducible (refine keepN_alloc ?_ ?_) | exact Nat.le_refl _ | omega | (intro _ _ _; rfl))))
            (first | (go_at_call 21; have _t := tok1; clear tok1; refine (RK3.out _).mono ?_; rintro e u1 ⟨rfl, d1⟩; have E1 := Lib.hid (d1); have kS1 : ∀ (a o : Nat), a < w8.heap.size → u1.cell? ⟨a, o, none⟩ = w8.cell? ⟨a, o, none⟩ := fun a o h => E1.out.cell (p := ⟨a, o, none⟩) (Nat.lt_of_lt_of_le h hRb); have hz1 : w8.heap.size ≤ u1.heap.size := E1.out.size; clear d1) | (go_at_call 33; have _t := tok2; clear tok2; refine (RK7.out _).mono ?_; rintro e u2 ⟨rfl, d2⟩; have E2 := Lib.hid (E1.out.trans (d2.mono E1.out.size)); have kS2 : ∀ (a o : Nat), a < w8.heap.size → u2.cell? ⟨a, o, none⟩ = w8.cell? ⟨a, o, none⟩ := fun a o h => E2.out.cell (p := ⟨a, o, none⟩) (Nat.lt_of_lt_of_le h hRb); have hz2 : w8.heap.size ≤ u2.heap.size := E2.out.size; clear d2) | (go_at_call 35; have _t := tok3; clear tok3; refine (RK8.out _).mono ?_; rintro e u3 ⟨rfl, d3⟩; have E3 := Lib.hid (E2.out.trans (d3.mono E2.out.size)); have kS3 : ∀ (a o : Nat), a < w8.heap.size → u3.cell? ⟨a, o, none⟩ = w8.cell? ⟨a, o, none⟩ := fun a o h => E3.out.cell (p := ⟨a, o, none⟩) (Nat.lt_of_lt_of_le h hRb); have hz3 : w8.heap.size ≤ u3.heap.size := E3.out.size; clear d3))
          obtain ⟨hcm, hk1, hk2, hk12⟩ := HCK.out
          have hki : IntKind.i64.wrap ((k : Int) + 1) = (k : Int) + 1 := i64_in _ (by omega) (by omega)
          go_wp2_with fail
          go_roundw
          case rel => exact ⟨k + 1, by omega, by omega, by go_num, HU.out.trans ((HB.out.trans ((((Below.refl w8.heap.size w8).drew).trans E3.out).mono HB.out.size)).mono HU.out.size)⟩
          case measure => simp [intOf]; omega
    · have hki : ¬ (k : Int) ≤ 12 := by omega
      have hkd : decide ((k : Int) ≤ 12) = false := decide_eq_false hki
      have l0 := (HL1.out.2.1).lt
      have l1 := (HL1.out.2.2.1).lt
      have l2 := (HL1.out.2.2.2.1).lt
      have l3 := (HL1.out.2.2.2.2.1).lt
      have l4 := (HL1.out.2.2.2.2.2.1).lt
      have l5 := (HL1.out.2.2.2.2.2.2).lt
      go_wp2_with fail
      clear l0 l1 l2 l3 l4 l5
      go_quiet (fail)
      go_wp2_with fail
      have htq : Tab (wr.drewN nq) := tab_of (tab_of HT.out HL1.out.1) ⟨rfl, rfl, rfl, Nat.le_refl _, fun _ _ => rfl⟩
      refine (RA.out _ htq).mono ?_
      rintro e wh ⟨rfl, c⟩
      have b6q : Below wr.heap.size wr (wr.drewN nq) := ⟨rfl, rfl, rfl, Nat.le_refl _, fun _ _ => rfl⟩
      have HF := Lib.hid (HL1.out.1.trans ((b6q.trans (c.mono b6q.size)).mono HL1.out.1.size))
      clear c b6q
      go_wp2_with fail
      go_ret
      exact ⟨rfl, HF.out⟩

end Go.Proofs.YtpdhffjdgnpikaaGreatDoor
