/- The walk of narrowslaw01.BigintSums. -/
import Derived.Test.YtajollhpimfefaaGreatDoorRArithT
import Derived.Test.YtajollhpimfefaaGreatDoorRArithM
import Derived.Test.YtajollhpimfefaaGreatDoorLawKit
import Derived.Outline
import Derived.Handy
namespace Go.Proofs.YtajollhpimfefaaGreatDoor
open Go.RowKit Go.Shelf

set_option maxHeartbeats 4000000 in
set_option maxRecDepth 100000 in
theorem sums_great (na nb : Bool) (sa sb : ByteArray) (w : World) (htab : Tab w) (ha : sa.size ≤ maxLen) (hb : sb.size ≤ maxLen)
    (hg : (([(na, sa), (nb, sb)] : List (Bool × ByteArray)).any fun p => decide ((60 : Int) < (p.2.size : Int))) = true) :
    Calls Tryz.prog 4 #[.agg #[.bool na, .string sa], .agg #[.bool nb, .string sb]] w fun e w' => e = .returned (.bool true) ∧ Below w.heap.size w w' := by
  unfold maxLen at ha hb
  have HG := Lib.hid hg
  have HT := Lib.hid htab
  have hss : ∀ p ∈ ([(na, sa), (nb, sb)] : List (Bool × ByteArray)), p.2.size ≤ 9223372036854775807 := by
    intro p hp
    simp at hp
    rcases hp with rfl | rfl <;> simp <;> omega
  have HSS := Lib.hid hss
  clear htab hg hss
  go_enter Tryz.func4, Tryz.ntmps4
  go_wp2_with fail
  obtain ⟨W0, hW0⟩ : ∃ W0, ((w.alloc (Obj.cells #[Value.bool na, Value.string sa] 23)).alloc (Obj.cells #[Value.bool nb, Value.string sb] 23)).alloc (Obj.cells #[Value.bool na, Value.string sa, Value.bool nb, Value.string sb] 23) = W0 := ⟨_, rfl⟩
  have z0 : W0.heap.size = w.heap.size + 1 + 1 + 1 := by rw [← hW0]; simp
  have ta : Two (w.heap.size) (.bool na) (.string sa) W0 := by
    rw [← hW0]
    have h := two_new w (.bool na) (.string sa) 23
    (try simp only [World.size_alloc] at h)
    exact h.below (B0 := w.heap.size + 1) (((Below.refl _ _).alloc (by simp) _).alloc (by simp) _) (by omega)
  have tb : Two (w.heap.size + 1) (.bool nb) (.string sb) W0 := by
    rw [← hW0]
    have h := two_new (w.alloc (Obj.cells #[Value.bool na, Value.string sa] 23)) (.bool nb) (.string sb) 23
    (try simp only [World.size_alloc] at h)
    exact h.below (B0 := w.heap.size + 1 + 1) ((Below.refl _ _).alloc (by simp) _) (by omega)
  have hrow : RowI W0 (w.heap.size + 1 + 1) [(na, sa), (nb, sb)] := by
    rw [← hW0]
    have h := rowI_2 ((w.alloc (Obj.cells #[Value.bool na, Value.string sa] 23)).alloc (Obj.cells #[Value.bool nb, Value.string sb] 23)) na nb sa sb 23
    simp only [World.size_alloc] at h
    exact h
  have b0 : Below w.heap.size w W0 := by
    rw [← hW0]
    exact ((((Below.refl _ _).alloc (Nat.le_refl _) _).alloc (by simp) _).alloc (by simp; omega) _)
  rw [hW0]
  have hgr := great_any (w.heap.size + 1 + 1) [(na, sa), (nb, sb)] W0 hrow (by omega) (by simp) HSS.out
  rw [HG.out] at hgr
  have HGR := Lib.hid hgr
  have H0 := Lib.hid (And.intro z0 (And.intro b0 (And.intro ta (And.intro tb trivial))))
  clear hW0 z0 hrow b0 hgr ta tb
  refine HGR.out.mono ?_
  rintro e wG ⟨rfl, cG⟩
  have bG : Below w.heap.size w wG := H0.out.2.1.trans (cG.mono H0.out.2.1.size)
  have haw := awake_any wG (tab_of HT.out bG)
  have HAW := Lib.hid haw
  have HB := Lib.hid bG
  clear cG bG haw
  go_wp2_with fail
  refine HAW.out.mono ?_
  rintro e wA ⟨rfl, cA⟩
  go_wp2_with fail
  go_ret
  exact ⟨rfl, HB.out.trans (cA.mono HB.out.size)⟩

set_option maxHeartbeats 4000000 in
set_option maxRecDepth 100000 in
theorem sums_small (na nb : Bool) (sa sb : ByteArray) (w : World) (htab : Tab w) (ha : sa.size ≤ maxLen) (hb : sb.size ≤ maxLen)
    (hg : (([(na, sa), (nb, sb)] : List (Bool × ByteArray)).any fun p => decide ((60 : Int) < (p.2.size : Int))) = false) :
    Calls Tryz.prog 4 #[.agg #[.bool na, .string sa], .agg #[.bool nb, .string sb]] w fun e w' => e = .returned (.bool true) ∧ Below w.heap.size w w' := by
  unfold maxLen at ha hb
  have HG := Lib.hid hg
  have HT := Lib.hid htab
  have hss : ∀ p ∈ ([(na, sa), (nb, sb)] : List (Bool × ByteArray)), p.2.size ≤ 9223372036854775807 := by
    intro p hp
    simp at hp
    rcases hp with rfl | rfl <;> simp <;> omega
  have HSS := Lib.hid hss
  clear htab hg hss
  go_enter Tryz.func4, Tryz.ntmps4
  go_wp2_with fail
  obtain ⟨W0, hW0⟩ : ∃ W0, ((w.alloc (Obj.cells #[Value.bool na, Value.string sa] 23)).alloc (Obj.cells #[Value.bool nb, Value.string sb] 23)).alloc (Obj.cells #[Value.bool na, Value.string sa, Value.bool nb, Value.string sb] 23) = W0 := ⟨_, rfl⟩
  have z0 : W0.heap.size = w.heap.size + 1 + 1 + 1 := by rw [← hW0]; simp
  have ta : Two (w.heap.size) (.bool na) (.string sa) W0 := by
    rw [← hW0]
    have h := two_new w (.bool na) (.string sa) 23
    (try simp only [World.size_alloc] at h)
    exact h.below (B0 := w.heap.size + 1) (((Below.refl _ _).alloc (by simp) _).alloc (by simp) _) (by omega)
  have tb : Two (w.heap.size + 1) (.bool nb) (.string sb) W0 := by
    rw [← hW0]
    have h := two_new (w.alloc (Obj.cells #[Value.bool na, Value.string sa] 23)) (.bool nb) (.string sb) 23
    (try simp only [World.size_alloc] at h)
    exact h.below (B0 := w.heap.size + 1 + 1) ((Below.refl _ _).alloc (by simp) _) (by omega)
  have hrow : RowI W0 (w.heap.size + 1 + 1) [(na, sa), (nb, sb)] := by
    rw [← hW0]
    have h := rowI_2 ((w.alloc (Obj.cells #[Value.bool na, Value.string sa] 23)).alloc (Obj.cells #[Value.bool nb, Value.string sb] 23)) na nb sa sb 23
    simp only [World.size_alloc] at h
    exact h
  have b0 : Below w.heap.size w W0 := by
    rw [← hW0]
    exact ((((Below.refl _ _).alloc (Nat.le_refl _) _).alloc (by simp) _).alloc (by simp; omega) _)
  rw [hW0]
  have hgr := great_any (w.heap.size + 1 + 1) [(na, sa), (nb, sb)] W0 hrow (by omega) (by simp) HSS.out
  rw [HG.out] at hgr
  have HGR := Lib.hid hgr
  have H0 := Lib.hid (And.intro z0 (And.intro b0 (And.intro ta (And.intro tb trivial))))
  clear hW0 z0 hrow b0 hgr ta tb
  refine HGR.out.mono ?_
  rintro e wG ⟨rfl, cG⟩
  have bG : Below w.heap.size w wG := H0.out.2.1.trans (cG.mono H0.out.2.1.size)
  have hsm := small_size HG.out
  have zx : Sz 60 (ival na sa) := Sz.ival na sa 60 (hsm (na, sa) (by simp))
  have px : sa.size ≤ 60 := hsm (na, sa) (by simp)
  obtain ⟨x, hx⟩ : ∃ x, ival na sa = x := ⟨_, rfl⟩
  have vx : Val na sa x := ⟨hx, Nat.le_trans px (by omega)⟩
  rw [hx] at zx
  have zy : Sz 60 (ival nb sb) := Sz.ival nb sb 60 (hsm (nb, sb) (by simp))
  have py : sb.size ≤ 60 := hsm (nb, sb) (by simp)
  obtain ⟨y, hy⟩ : ∃ y, ival nb sb = y := ⟨_, rfl⟩
  have vy : Val nb sb y := ⟨hy, Nat.le_trans py (by omega)⟩
  rw [hy] at zy
  have tA : Two (w.heap.size) (.bool na) (.string sa) wG := H0.out.2.2.1.below cG H0.out.2.2.1.lt
  have tB : Two (w.heap.size + 1) (.bool nb) (.string sb) wG := H0.out.2.2.2.1.below cG H0.out.2.2.2.1.lt
  obtain ⟨bP, sP, mP⟩ := nam_ex (x + y)
  obtain ⟨bM, sM, mM⟩ := nam_ex (x - y)
  obtain ⟨bT, sT, mT⟩ := nam_ex (x * y)
  have ra := fun W => radd_any na nb sa sb W (by omega) (by omega)
  have rs := fun W => rsub_any na nb sa sb W (by omega) (by omega)
  have rm := fun W => rmul_any na nb sa sb W (by omega) (by omega)
  rw [hx, hy] at ra rs rm
  have eP := mP
  have eM := mM
  have eT := mT
  obtain ⟨p1, p2⟩ := eP
  obtain ⟨p3, p4⟩ := eM
  obtain ⟨p5, p6⟩ := eT
  rw [p1, p2] at ra
  rw [p3, p4] at rs
  rw [p5, p6] at rm
  have R1 := Lib.hid (add_val vx vy rfl mP)
  have R2 := Lib.hid ra
  have R3 := Lib.hid (sub_val vx vy rfl mM)
  have R4 := Lib.hid rs
  have R5 := Lib.hid (mul_val vx vy rfl mT)
  have R6 := Lib.hid rm
  have e1 := mP.eq
  have e2 := mM.eq
  have e3 := mT.eq
  have q1 := eql_int
  have q2 := guard_int
  have l1 := tA.lt
  have l2 := tB.lt
  have m1 := tA.1.1
  have m2 := tA.2.1
  have m3 := tB.1.1
  have m4 := tB.2.1
  have HF2 := Lib.hid bG
  have HTV := Lib.hid (tab_below HT.out bG.drew)
  clear ra rs rm p1 p2 p3 p4 p5 p6 mP mM mT cG bG hsm hx hy vx vy zx zy px py tA tB
  go_wp2_with fail
  have tok1 : True := trivial
  have tok2 : True := trivial
  have tok3 : True := trivial
  have tok4 : True := trivial
  have tok5 : True := trivial
  have tok6 : True := trivial
  have tok7 : True := trivial
  go_region_held3 (fun w' => ∀ (a o : Nat), a < wG.heap.size → w'.cell? ⟨a, o, none⟩ = wG.cell? ⟨a, o, none⟩) (first | assumption | (intro _ _ _; rfl))
    (first | (go_at_call 28; have _t := tok1; clear tok1; refine (R1.out _).mono ?_; rintro e u1 ⟨rfl, d1⟩; have E1 := Lib.hid (d1); have kS1 : ∀ (a o : Nat), a < wG.heap.size → u1.cell? ⟨a, o, none⟩ = wG.cell? ⟨a, o, none⟩ := fun a o h => E1.out.cell (p := ⟨a, o, none⟩) h; have hz1 : wG.heap.size ≤ u1.heap.size := E1.out.size; clear d1) | (go_at_call 29; have _t := tok2; clear tok2; refine (R2.out _).mono ?_; rintro e u2 ⟨rfl, d2⟩; have E2 := Lib.hid (E1.out.trans (d2.mono E1.out.size)); have kS2 : ∀ (a o : Nat), a < wG.heap.size → u2.cell? ⟨a, o, none⟩ = wG.cell? ⟨a, o, none⟩ := fun a o h => E2.out.cell (p := ⟨a, o, none⟩) h; have hz2 : wG.heap.size ≤ u2.heap.size := E2.out.size; clear d2) | (go_at_call 30; have _t := tok3; clear tok3; refine (R3.out _).mono ?_; rintro e u3 ⟨rfl, d3⟩; have E3 := Lib.hid (E2.out.trans (d3.mono E2.out.size)); have kS3 : ∀ (a o : Nat), a < wG.heap.size → u3.cell? ⟨a, o, none⟩ = wG.cell? ⟨a, o, none⟩ := fun a o h => E3.out.cell (p := ⟨a, o, none⟩) h; have hz3 : wG.heap.size ≤ u3.heap.size := E3.out.size; clear d3) | (go_at_call 31; have _t := tok4; clear tok4; refine (R4.out _).mono ?_; rintro e u4 ⟨rfl, d4⟩; have E4 := Lib.hid (E3.out.trans (d4.mono E3.out.size)); have kS4 : ∀ (a o : Nat), a < wG.heap.size → u4.cell? ⟨a, o, none⟩ = wG.cell? ⟨a, o, none⟩ := fun a o h => E4.out.cell (p := ⟨a, o, none⟩) h; have hz4 : wG.heap.size ≤ u4.heap.size := E4.out.size; clear d4) | (go_at_call 32; have _t := tok5; clear tok5; refine (R5.out _).mono ?_; rintro e u5 ⟨rfl, d5⟩; have E5 := Lib.hid (E4.out.trans (d5.mono E4.out.size)); have kS5 : ∀ (a o : Nat), a < wG.heap.size → u5.cell? ⟨a, o, none⟩ = wG.cell? ⟨a, o, none⟩ := fun a o h => E5.out.cell (p := ⟨a, o, none⟩) h; have hz5 : wG.heap.size ≤ u5.heap.size := E5.out.size; clear d5) | (go_at_call 33; have _t := tok6; clear tok6; refine (R6.out _).mono ?_; rintro e u6 ⟨rfl, d6⟩; have E6 := Lib.hid (E5.out.trans (d6.mono E5.out.size)); have kS6 : ∀ (a o : Nat), a < wG.heap.size → u6.cell? ⟨a, o, none⟩ = wG.cell? ⟨a, o, none⟩ := fun a o h => E6.out.cell (p := ⟨a, o, none⟩) h; have hz6 : wG.heap.size ≤ u6.heap.size := E6.out.size; clear d6) | (go_at_call 15; have _t := tok7; clear tok7; refine (awake_any _ (tab_below HTV.out E6.out)).mono ?_; rintro e u7 ⟨rfl, d7⟩; have E7 := Lib.hid (E6.out.trans (d7.mono E6.out.size)); have kS7 : ∀ (a o : Nat), a < wG.heap.size → u7.cell? ⟨a, o, none⟩ = wG.cell? ⟨a, o, none⟩ := fun a o h => E7.out.cell (p := ⟨a, o, none⟩) h; have hz7 : wG.heap.size ≤ u7.heap.size := E7.out.size; clear d7))
  all_goals (go_wp2_with fail)
  go_ret
  exact ⟨rfl, HF2.out.trans ((((Below.refl wG.heap.size wG).drew).trans E7.out).mono HF2.out.size)⟩

theorem sums_any (na nb : Bool) (sa sb : ByteArray) (w : World) (htab : Tab w) (ha : sa.size ≤ maxLen) (hb : sb.size ≤ maxLen) :
    Calls Tryz.prog 4 #[.agg #[.bool na, .string sa], .agg #[.bool nb, .string sb]] w fun e w' => e = .returned (.bool true) ∧ Below w.heap.size w w' := by
  cases hg : (([(na, sa), (nb, sb)] : List (Bool × ByteArray)).any fun p => decide ((60 : Int) < (p.2.size : Int)))
  · exact sums_small na nb sa sb w htab ha hb hg
  · exact sums_great na nb sa sb w htab ha hb hg
end Go.Proofs.YtajollhpimfefaaGreatDoor
