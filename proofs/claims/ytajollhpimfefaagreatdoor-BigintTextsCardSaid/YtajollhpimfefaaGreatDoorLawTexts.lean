/- The walk of narrowslaw01.BigintTexts. -/
import Derived.Test.YtajollhpimfefaaGreatDoorRParseB
import Derived.Outline
import Derived.Handy
namespace Go.Proofs.YtajollhpimfefaaGreatDoor
open Go.RowKit Go.Shelf

set_option maxHeartbeats 4000000 in
set_option maxRecDepth 100000 in
theorem texts_great (na : Bool) (sa : ByteArray) (u : ByteArray) (w : World) (htab : Tab w) (ha : sa.size ≤ maxLen) (_hu : u.size ≤ maxLen)
    (hg : (([(na, sa)] : List (Bool × ByteArray)).any fun p => decide ((60 : Int) < (p.2.size : Int))) = true) :
    Calls Tryz.prog 6 #[.agg #[.bool na, .string sa], .string u] w fun e w' => e = .returned (.bool true) ∧ Below w.heap.size w w' := by
  unfold maxLen at ha
  have HG := Lib.hid hg
  have HT := Lib.hid htab
  have hss : ∀ p ∈ ([(na, sa)] : List (Bool × ByteArray)), p.2.size ≤ 9223372036854775807 := by
    intro p hp
    simp at hp
    rcases hp with rfl <;> simp <;> omega
  have HSS := Lib.hid hss
  clear htab hg hss
  go_enter Tryz.func6, Tryz.ntmps6
  go_wp2_with fail
  obtain ⟨W0, hW0⟩ : ∃ W0, (w.alloc (Obj.cells #[Value.bool na, Value.string sa] 23)).alloc (Obj.cells #[Value.bool na, Value.string sa] 23) = W0 := ⟨_, rfl⟩
  have z0 : W0.heap.size = w.heap.size + 1 + 1 := by rw [← hW0]; simp
  have ta : Two (w.heap.size) (.bool na) (.string sa) W0 := by
    rw [← hW0]
    have h := two_new w (.bool na) (.string sa) 23
    (try simp only [World.size_alloc] at h)
    exact h.below (B0 := w.heap.size + 1) ((Below.refl _ _).alloc (by simp) _) (by omega)
  have hrow : RowI W0 (w.heap.size + 1) [(na, sa)] := by
    rw [← hW0]
    have h := rowI_1 (w.alloc (Obj.cells #[Value.bool na, Value.string sa] 23)) na sa 23
    simp only [World.size_alloc] at h
    exact h
  have b0 : Below w.heap.size w W0 := by
    rw [← hW0]
    exact (((Below.refl _ _).alloc (Nat.le_refl _) _).alloc (by simp) _)
  rw [hW0]
  have hgr := great_any (w.heap.size + 1) [(na, sa)] W0 hrow (by omega) (by simp) HSS.out
  rw [HG.out] at hgr
  have HGR := Lib.hid hgr
  have H0 := Lib.hid (And.intro z0 (And.intro b0 (And.intro ta trivial)))
  clear hW0 z0 hrow b0 hgr ta
  refine HGR.out.mono ?_
  rintro e wG ⟨rfl, cG⟩
  have bG : Below w.heap.size w wG := H0.out.2.1.trans (cG.mono H0.out.2.1.size)
  have haw := awake_any wG (tab_of HT.out bG)
  have HAW := Lib.hid haw
  have HB := Lib.hid bG
  clear cG bG haw
  go_wp2_with fail
  refine HAW.out.mono ?_
  rintro e wA ⟨rfl, cA⟩
  go_wp2_with fail
  go_ret
  exact ⟨rfl, HB.out.trans (cA.mono HB.out.size)⟩

set_option maxHeartbeats 4000000 in
set_option maxRecDepth 100000 in
theorem texts_mid (na : Bool) (sa : ByteArray) (u : ByteArray) (w : World) (htab : Tab w) (ha : sa.size ≤ maxLen) (hu : u.size ≤ maxLen)
    (hg : (([(na, sa)] : List (Bool × ByteArray)).any fun p => decide ((60 : Int) < (p.2.size : Int))) = false) (hs1 : u.size ≤ 65536) (hs0 : 200 < u.size) :
    Calls Tryz.prog 6 #[.agg #[.bool na, .string sa], .string u] w fun e w' => e = .returned (.bool true) ∧ Below w.heap.size w w' := by
  unfold maxLen at ha hu
  have HG := Lib.hid hg
  have HT := Lib.hid htab
  have hss : ∀ p ∈ ([(na, sa)] : List (Bool × ByteArray)), p.2.size ≤ 9223372036854775807 := by
    intro p hp
    simp at hp
    rcases hp with rfl <;> simp <;> omega
  have HSS := Lib.hid hss
  have HSG0 := Lib.hid hs0
  have HSG1 := Lib.hid hs1
  clear htab hg hss hs0 hs1
  go_enter Tryz.func6, Tryz.ntmps6
  go_wp2_with fail
  obtain ⟨W0, hW0⟩ : ∃ W0, (w.alloc (Obj.cells #[Value.bool na, Value.string sa] 23)).alloc (Obj.cells #[Value.bool na, Value.string sa] 23) = W0 := ⟨_, rfl⟩
  have z0 : W0.heap.size = w.heap.size + 1 + 1 := by rw [← hW0]; simp
  have ta : Two (w.heap.size) (.bool na) (.string sa) W0 := by
    rw [← hW0]
    have h := two_new w (.bool na) (.string sa) 23
    (try simp only [World.size_alloc] at h)
    exact h.below (B0 := w.heap.size + 1) ((Below.refl _ _).alloc (by simp) _) (by omega)
  have hrow : RowI W0 (w.heap.size + 1) [(na, sa)] := by
    rw [← hW0]
    have h := rowI_1 (w.alloc (Obj.cells #[Value.bool na, Value.string sa] 23)) na sa 23
    simp only [World.size_alloc] at h
    exact h
  have b0 : Below w.heap.size w W0 := by
    rw [← hW0]
    exact (((Below.refl _ _).alloc (Nat.le_refl _) _).alloc (by simp) _)
  rw [hW0]
  have hgr := great_any (w.heap.size + 1) [(na, sa)] W0 hrow (by omega) (by simp) HSS.out
  rw [HG.out] at hgr
  have HGR := Lib.hid hgr
  have H0 := Lib.hid (And.intro z0 (And.intro b0 (And.intro ta trivial)))
  clear hW0 z0 hrow b0 hgr ta
  refine HGR.out.mono ?_
  rintro e wG ⟨rfl, cG⟩
  have bG : Below w.heap.size w wG := H0.out.2.1.trans (cG.mono H0.out.2.1.size)
  have hlen : (200 : Int) < (u.size : Int) := by have := HSG0.out; omega
  have hlen2 : (u.size : Int) ≤ 65536 := by have := HSG1.out; omega
  have haw := awake_any wG (tab_of HT.out bG)
  have HAW := Lib.hid haw
  have HB := Lib.hid bG
  clear cG bG haw
  go_wp2_with fail
  refine HAW.out.mono ?_
  rintro e wA ⟨rfl, cA⟩
  go_wp2_with fail
  go_ret
  exact ⟨rfl, HB.out.trans (cA.mono HB.out.size)⟩

set_option maxHeartbeats 4000000 in
set_option maxRecDepth 100000 in
theorem texts_walk (na : Bool) (sa : ByteArray) (u : ByteArray) (w : World) (htab : Tab w) (ha : sa.size ≤ maxLen) (hu : u.size ≤ maxLen)
    (hg : (([(na, sa)] : List (Bool × ByteArray)).any fun p => decide ((60 : Int) < (p.2.size : Int))) = false) (hway : (¬ (200 : Int) < (u.size : Int)) ∨ (65536 : Int) < (u.size : Int)) {bX : Bool} {sX : ByteArray} {f0 : Int} (hP1 : ∀ W : World, Calls Tryz.prog 40 #[.string u] W fun e w' => e = .returned (.tuple #[.agg #[.bool bX, .string sX], .int .i64 f0]) ∧ Below W.heap.size W w') (hP2 : ∀ W : World, Calls Tryz.prog 41 #[.string u] W fun e w' => e = .returned (.tuple #[.agg #[.bool bX, .string sX], .int .i64 f0]) ∧ Below W.heap.size W w') (e1 : eqI bX sX bX sX = true) :
    Calls Tryz.prog 6 #[.agg #[.bool na, .string sa], .string u] w fun e w' => e = .returned (.bool true) ∧ Below w.heap.size w w' := by
  unfold maxLen at ha hu
  have HG := Lib.hid hg
  have HT := Lib.hid htab
  have hss : ∀ p ∈ ([(na, sa)] : List (Bool × ByteArray)), p.2.size ≤ 9223372036854775807 := by
    intro p hp
    simp at hp
    rcases hp with rfl <;> simp <;> omega
  have HSS := Lib.hid hss
  clear htab hg hss
  have P1 := Lib.hid hP1
  have P2 := Lib.hid hP2
  have HW := Lib.hid hway
  clear hP1 hP2 hway
  go_enter Tryz.func6, Tryz.ntmps6
  go_wp2_with fail
  obtain ⟨W0, hW0⟩ : ∃ W0, (w.alloc (Obj.cells #[Value.bool na, Value.string sa] 23)).alloc (Obj.cells #[Value.bool na, Value.string sa] 23) = W0 := ⟨_, rfl⟩
  have z0 : W0.heap.size = w.heap.size + 1 + 1 := by rw [← hW0]; simp
  have ta : Two (w.heap.size) (.bool na) (.string sa) W0 := by
    rw [← hW0]
    have h := two_new w (.bool na) (.string sa) 23
    (try simp only [World.size_alloc] at h)
    exact h.below (B0 := w.heap.size + 1) ((Below.refl _ _).alloc (by simp) _) (by omega)
  have hrow : RowI W0 (w.heap.size + 1) [(na, sa)] := by
    rw [← hW0]
    have h := rowI_1 (w.alloc (Obj.cells #[Value.bool na, Value.string sa] 23)) na sa 23
    simp only [World.size_alloc] at h
    exact h
  have b0 : Below w.heap.size w W0 := by
    rw [← hW0]
    exact (((Below.refl _ _).alloc (Nat.le_refl _) _).alloc (by simp) _)
  rw [hW0]
  have hgr := great_any (w.heap.size + 1) [(na, sa)] W0 hrow (by omega) (by simp) HSS.out
  rw [HG.out] at hgr
  have HGR := Lib.hid hgr
  have H0 := Lib.hid (And.intro z0 (And.intro b0 (And.intro ta trivial)))
  clear hW0 z0 hrow b0 hgr ta
  refine HGR.out.mono ?_
  rintro e wG ⟨rfl, cG⟩
  have bGG : Below w.heap.size w wG := H0.out.2.1.trans (cG.mono H0.out.2.1.size)
  have hsm := small_size HG.out
  have zx : Sz 60 (ival na sa) := Sz.ival na sa 60 (hsm (na, sa) (by simp))
  have px : sa.size ≤ 60 := hsm (na, sa) (by simp)
  obtain ⟨x, hx⟩ : ∃ x, ival na sa = x := ⟨_, rfl⟩
  have vx : Val na sa x := ⟨hx, Nat.le_trans px (by omega)⟩
  rw [hx] at zx
  have tA : Two (w.heap.size) (.bool na) (.string sa) wG := H0.out.2.2.1.below cG H0.out.2.2.1.lt
  have q1 := eql_int
  have q3 := guard_int
  have hprn := fun W hW => print_any na sa W (by omega) hW
  have hrpr := fun W => rprint_any na sa W px
  obtain ⟨t, ht⟩ : ∃ t, txt (ival na sa) = t := ⟨_, rfl⟩
  rw [ht] at hprn hrpr
  have R1 := Lib.hid hprn
  have R2 := Lib.hid hrpr
  have htt : (t.data.toList == t.data.toList) = true := beq_self_eq_true _
  clear hprn hrpr ht vx zx hx px hsm
  have HS := Lib.hid (And.intro bGG tA)
  clear cG bGG tA
  rcases HW.out with hlen | hlen
  all_goals (first | (have hlen2 : (200 : Int) < (u.size : Int) := by omega) | skip)
  all_goals (first | (have hlen3 : ¬ (u.size : Int) ≤ 65536 := by omega) | skip)
  · have l0 := (HS.out.2).lt
    have m00 := (HS.out.2).1.1
    have m01 := (HS.out.2).2.1
    go_wp2_with fail
    clear l0 m00 m01
    refine (P1.out _).mono ?_
    rintro e w1 ⟨rfl, c⟩
    have f := HS.out.1.trans (c.mono HS.out.1.size)
    have t0 := (HS.out.2).below c (HS.out.2).lt
    have HS1 := Lib.hid (And.intro f t0)
    clear c f t0
    have l0 := (HS1.out.2).lt
    have m00 := (HS1.out.2).1.1
    have m01 := (HS1.out.2).2.1
    go_wp2_with fail
    clear l0 m00 m01
    obtain ⟨w2, hw2⟩ : ∃ V, (w1.alloc (Obj.cells #[Value.bool bX, Value.string sX] 23)) = V := ⟨_, rfl⟩
    obtain ⟨B5, hB5⟩ : ∃ B, w1.heap.size = B := ⟨_, rfl⟩
    have bw2 : Below w1.heap.size w1 w2 := by rw [← hw2]; exact ((Below.refl _ _).alloc (Nat.le_refl _) _)
    have tB5 : Two B5 (.bool bX) (.string sX) w2 := by
      rw [← hw2, ← hB5]
      have h := two_new w1 (.bool bX) (.string sX) 23
      (try simp only [World.size_alloc] at h)
      exact h
    have hszw2 : w1.heap.size ≤ B5 := by omega
    rw [hw2, hB5]
    have f := HS1.out.1.trans (bw2.mono HS1.out.1.size)
    have t0 := (HS1.out.2).below bw2 (HS1.out.2).lt
    have ne1_0 : B5 ≠ w.heap.size := by have := (HS1.out.2).lt; omega
    have en1_0 : w.heap.size ≠ B5 := fun e => ne1_0 e.symm
    have geB5 : w.heap.size ≤ B5 := by have := HS1.out.1.size; omega
    have HS2 := Lib.hid (And.intro f (And.intro t0 tB5))
    clear f hw2 bw2 hszw2 t0 tB5 hB5
    refine (P2.out _).mono ?_
    rintro e w3 ⟨rfl, c⟩
    have f := HS2.out.1.trans (c.mono HS2.out.1.size)
    have t0 := (HS2.out.2.1).below c (HS2.out.2.1).lt
    have t1 := (HS2.out.2.2).below c (HS2.out.2.2).lt
    have HS3 := Lib.hid (And.intro f (And.intro t0 t1))
    clear c f t0 t1
    have l0 := (HS3.out.2.1).lt
    have m00 := (HS3.out.2.1).1.1
    have m01 := (HS3.out.2.1).2.1
    have l1 := (HS3.out.2.2).lt
    have m10 := (HS3.out.2.2).1.1
    have m11 := (HS3.out.2.2).2.1
    go_wp2_with fail
    clear l0 m00 m01 l1 m10 m11
    obtain ⟨w4, hw4⟩ : ∃ V, (w3.alloc (Obj.cells #[Value.bool bX, Value.string sX] 23)) = V := ⟨_, rfl⟩
    obtain ⟨B8, hB8⟩ : ∃ B, w3.heap.size = B := ⟨_, rfl⟩
    have bw4 : Below w3.heap.size w3 w4 := by rw [← hw4]; exact ((Below.refl _ _).alloc (Nat.le_refl _) _)
    have tB8 : Two B8 (.bool bX) (.string sX) w4 := by
      rw [← hw4, ← hB8]
      have h := two_new w3 (.bool bX) (.string sX) 23
      (try simp only [World.size_alloc] at h)
      exact h
    have hszw4 : w3.heap.size ≤ B8 := by omega
    rw [hw4, hB8]
    have f := HS3.out.1.trans (bw4.mono HS3.out.1.size)
    have t0 := (HS3.out.2.1).below bw4 (HS3.out.2.1).lt
    have t1 := (HS3.out.2.2).below bw4 (HS3.out.2.2).lt
    have ne2_0 : B8 ≠ w.heap.size := by have := (HS3.out.2.1).lt; omega
    have en2_0 : w.heap.size ≠ B8 := fun e => ne2_0 e.symm
    have ne2_1 : B8 ≠ B5 := by have := (HS3.out.2.2).lt; omega
    have en2_1 : B5 ≠ B8 := fun e => ne2_1 e.symm
    have geB8 : w.heap.size ≤ B8 := by have := HS3.out.1.size; omega
    have HS4 := Lib.hid (And.intro f (And.intro t0 (And.intro t1 tB8)))
    clear f hw4 bw4 hszw4 t0 t1 tB8 hB8
    have l0 := (HS4.out.2.1).lt
    have m00 := (HS4.out.2.1).1.1
    have m01 := (HS4.out.2.1).2.1
    have l1 := (HS4.out.2.2.1).lt
    have m10 := (HS4.out.2.2.1).1.1
    have m11 := (HS4.out.2.2.1).2.1
    have l2 := (HS4.out.2.2.2).lt
    have m20 := (HS4.out.2.2.2).1.1
    have m21 := (HS4.out.2.2.2).2.1
    have HTV := Lib.hid (tab_below HT.out HS4.out.1.drew)
    have tok1 : True := trivial
    have tok2 : True := trivial
    have tok3 : True := trivial
    go_region_held3 (fun w' => ∀ (a o : Nat), a < w4.heap.size → w'.cell? ⟨a, o, none⟩ = w4.cell? ⟨a, o, none⟩) (first | assumption | (intro _ _ _; rfl))
      (first | (go_at_call 42; have _t := tok1; clear tok1; refine (R1.out _ HTV.out).mono ?_; rintro e u1 ⟨rfl, d1⟩; have E1 := Lib.hid (d1); have kS1 : ∀ (a o : Nat), a < w4.heap.size → u1.cell? ⟨a, o, none⟩ = w4.cell? ⟨a, o, none⟩ := fun a o h => E1.out.cell (p := ⟨a, o, none⟩) h; have hz1 : w4.heap.size ≤ u1.heap.size := E1.out.size; clear d1) | (go_at_call 43; have _t := tok2; clear tok2; refine (R2.out _).mono ?_; rintro e u2 ⟨rfl, d2⟩; have E2 := Lib.hid (E1.out.trans (d2.mono E1.out.size)); have kS2 : ∀ (a o : Nat), a < w4.heap.size → u2.cell? ⟨a, o, none⟩ = w4.cell? ⟨a, o, none⟩ := fun a o h => E2.out.cell (p := ⟨a, o, none⟩) h; have hz2 : w4.heap.size ≤ u2.heap.size := E2.out.size; clear d2) | (go_at_call 15; have _t := tok3; clear tok3; refine (awake_any _ (tab_below HTV.out E2.out)).mono ?_; rintro e u3 ⟨rfl, d3⟩; have E3 := Lib.hid (E2.out.trans (d3.mono E2.out.size)); have kS3 : ∀ (a o : Nat), a < w4.heap.size → u3.cell? ⟨a, o, none⟩ = w4.cell? ⟨a, o, none⟩ := fun a o h => E3.out.cell (p := ⟨a, o, none⟩) h; have hz3 : w4.heap.size ≤ u3.heap.size := E3.out.size; clear d3))
    all_goals (go_wp2_with fail)
    go_ret
    exact ⟨rfl, HS4.out.1.trans ((((Below.refl w4.heap.size w4).drew).trans E3.out).mono HS4.out.1.size)⟩
  · have l0 := (HS.out.2).lt
    have m00 := (HS.out.2).1.1
    have m01 := (HS.out.2).2.1
    go_wp2_with fail
    clear l0 m00 m01
    refine (P1.out _).mono ?_
    rintro e w1 ⟨rfl, c⟩
    have f := HS.out.1.trans (c.mono HS.out.1.size)
    have t0 := (HS.out.2).below c (HS.out.2).lt
    have HS1 := Lib.hid (And.intro f t0)
    clear c f t0
    have l0 := (HS1.out.2).lt
    have m00 := (HS1.out.2).1.1
    have m01 := (HS1.out.2).2.1
    go_wp2_with fail
    clear l0 m00 m01
    obtain ⟨w2, hw2⟩ : ∃ V, (w1.alloc (Obj.cells #[Value.bool bX, Value.string sX] 23)) = V := ⟨_, rfl⟩
    obtain ⟨B5, hB5⟩ : ∃ B, w1.heap.size = B := ⟨_, rfl⟩
    have bw2 : Below w1.heap.size w1 w2 := by rw [← hw2]; exact ((Below.refl _ _).alloc (Nat.le_refl _) _)
    have tB5 : Two B5 (.bool bX) (.string sX) w2 := by
      rw [← hw2, ← hB5]
      have h := two_new w1 (.bool bX) (.string sX) 23
      (try simp only [World.size_alloc] at h)
      exact h
    have hszw2 : w1.heap.size ≤ B5 := by omega
    rw [hw2, hB5]
    have f := HS1.out.1.trans (bw2.mono HS1.out.1.size)
    have t0 := (HS1.out.2).below bw2 (HS1.out.2).lt
    have ne1_0 : B5 ≠ w.heap.size := by have := (HS1.out.2).lt; omega
    have en1_0 : w.heap.size ≠ B5 := fun e => ne1_0 e.symm
    have geB5 : w.heap.size ≤ B5 := by have := HS1.out.1.size; omega
    have HS2 := Lib.hid (And.intro f (And.intro t0 tB5))
    clear f hw2 bw2 hszw2 t0 tB5 hB5
    refine (P2.out _).mono ?_
    rintro e w3 ⟨rfl, c⟩
    have f := HS2.out.1.trans (c.mono HS2.out.1.size)
    have t0 := (HS2.out.2.1).below c (HS2.out.2.1).lt
    have t1 := (HS2.out.2.2).below c (HS2.out.2.2).lt
    have HS3 := Lib.hid (And.intro f (And.intro t0 t1))
    clear c f t0 t1
    have l0 := (HS3.out.2.1).lt
    have m00 := (HS3.out.2.1).1.1
    have m01 := (HS3.out.2.1).2.1
    have l1 := (HS3.out.2.2).lt
    have m10 := (HS3.out.2.2).1.1
    have m11 := (HS3.out.2.2).2.1
    go_wp2_with fail
    clear l0 m00 m01 l1 m10 m11
    obtain ⟨w4, hw4⟩ : ∃ V, (w3.alloc (Obj.cells #[Value.bool bX, Value.string sX] 23)) = V := ⟨_, rfl⟩
    obtain ⟨B8, hB8⟩ : ∃ B, w3.heap.size = B := ⟨_, rfl⟩
    have bw4 : Below w3.heap.size w3 w4 := by rw [← hw4]; exact ((Below.refl _ _).alloc (Nat.le_refl _) _)
    have tB8 : Two B8 (.bool bX) (.string sX) w4 := by
      rw [← hw4, ← hB8]
      have h := two_new w3 (.bool bX) (.string sX) 23
      (try simp only [World.size_alloc] at h)
      exact h
    have hszw4 : w3.heap.size ≤ B8 := by omega
    rw [hw4, hB8]
    have f := HS3.out.1.trans (bw4.mono HS3.out.1.size)
    have t0 := (HS3.out.2.1).below bw4 (HS3.out.2.1).lt
    have t1 := (HS3.out.2.2).below bw4 (HS3.out.2.2).lt
    have ne2_0 : B8 ≠ w.heap.size := by have := (HS3.out.2.1).lt; omega
    have en2_0 : w.heap.size ≠ B8 := fun e => ne2_0 e.symm
    have ne2_1 : B8 ≠ B5 := by have := (HS3.out.2.2).lt; omega
    have en2_1 : B5 ≠ B8 := fun e => ne2_1 e.symm
    have geB8 : w.heap.size ≤ B8 := by have := HS3.out.1.size; omega
    have HS4 := Lib.hid (And.intro f (And.intro t0 (And.intro t1 tB8)))
    clear f hw4 bw4 hszw4 t0 t1 tB8 hB8
    have l0 := (HS4.out.2.1).lt
    have m00 := (HS4.out.2.1).1.1
    have m01 := (HS4.out.2.1).2.1
    have l1 := (HS4.out.2.2.1).lt
    have m10 := (HS4.out.2.2.1).1.1
    have m11 := (HS4.out.2.2.1).2.1
    have l2 := (HS4.out.2.2.2).lt
    have m20 := (HS4.out.2.2.2).1.1
    have m21 := (HS4.out.2.2.2).2.1
    have HTV := Lib.hid (tab_below HT.out HS4.out.1.drew)
    have tok1 : True := trivial
    have tok2 : True := trivial
    have tok3 : True := trivial
    go_region_held3 (fun w' => ∀ (a o : Nat), a < w4.heap.size → w'.cell? ⟨a, o, none⟩ = w4.cell? ⟨a, o, none⟩) (first | assumption | (intro _ _ _; rfl))
      (first | (go_at_call 42; have _t := tok1; clear tok1; refine (R1.out _ HTV.out).mono ?_; rintro e u1 ⟨rfl, d1⟩; have E1 := Lib.hid (d1); have kS1 : ∀ (a o : Nat), a < w4.heap.size → u1.cell? ⟨a, o, none⟩ = w4.cell? ⟨a, o, none⟩ := fun a o h => E1.out.cell (p := ⟨a, o, none⟩) h; have hz1 : w4.heap.size ≤ u1.heap.size := E1.out.size; clear d1) | (go_at_call 43; have _t := tok2; clear tok2; refine (R2.out _).mono ?_; rintro e u2 ⟨rfl, d2⟩; have E2 := Lib.hid (E1.out.trans (d2.mono E1.out.size)); have kS2 : ∀ (a o : Nat), a < w4.heap.size → u2.cell? ⟨a, o, none⟩ = w4.cell? ⟨a, o, none⟩ := fun a o h => E2.out.cell (p := ⟨a, o, none⟩) h; have hz2 : w4.heap.size ≤ u2.heap.size := E2.out.size; clear d2) | (go_at_call 15; have _t := tok3; clear tok3; refine (awake_any _ (tab_below HTV.out E2.out)).mono ?_; rintro e u3 ⟨rfl, d3⟩; have E3 := Lib.hid (E2.out.trans (d3.mono E2.out.size)); have kS3 : ∀ (a o : Nat), a < w4.heap.size → u3.cell? ⟨a, o, none⟩ = w4.cell? ⟨a, o, none⟩ := fun a o h => E3.out.cell (p := ⟨a, o, none⟩) h; have hz3 : w4.heap.size ≤ u3.heap.size := E3.out.size; clear d3))
    all_goals (go_wp2_with fail)
    go_ret
    exact ⟨rfl, HS4.out.1.trans ((((Below.refl w4.heap.size w4).drew).trans E3.out).mono HS4.out.1.size)⟩

theorem texts_any (na : Bool) (sa : ByteArray) (u : ByteArray) (w : World) (htab : Tab w) (ha : sa.size ≤ maxLen) (hu : u.size ≤ maxLen) :
    Calls Tryz.prog 6 #[.agg #[.bool na, .string sa], .string u] w fun e w' => e = .returned (.bool true) ∧ Below w.heap.size w w' := by
  cases hg : (([(na, sa)] : List (Bool × ByteArray)).any fun p => decide ((60 : Int) < (p.2.size : Int)))
  · have z0 : Nam false ⟨#[]⟩ 0 := ⟨rfl, rfl⟩
    by_cases h1 : u.size ≤ 200
    · by_cases h : ∃ z, u = txt z
      · obtain ⟨z, hz⟩ := h
        exact texts_walk na sa u w htab ha hu hg (.inl (by omega)) (fun W => parse_some u z W (by omega) hz) (fun W => rparse_some u z W h1 hz) (show Nam (ng z) (mg z) z from ⟨rfl, rfl⟩).eq
      · exact texts_walk na sa u w htab ha hu hg (.inl (by omega)) (fun W => parse_none u W (by omega) (fun z e => h ⟨z, e⟩)) (fun W => rparse_none u W h1 (fun z e => h ⟨z, e⟩)) z0.eq
    · by_cases h2 : u.size ≤ 65536
      · exact texts_mid na sa u w htab ha hu hg h2 (by omega)
      · exact texts_walk na sa u w htab ha hu hg (.inr (by omega)) (fun W => parse_long u W (by omega)) (fun W => rparse_long u W hu (by omega)) z0.eq
  · exact texts_great na sa u w htab ha hu hg
end Go.Proofs.YtajollhpimfefaaGreatDoor
