/- The contract of bigint.Compare. -/
import Derived.Test.YtmbnkokcpmkpgaaGreatDoorCmpMag
import Derived.Test.YtmbnkokcpmkpgaaGreatDoorSigned
import Derived.Deep.RegionLaw
import Derived.Deep.CutRange
namespace Go.Proofs.YtmbnkokcpmkpgaaGreatDoor
open Go.RowKit

theorem two_set {B : Nat} {x y : Value} {W : World} (h : Two B x y W) (u v : Value) : Two B u v ((W.setCell ⟨B, 0, none⟩ u).setCell ⟨B, 1, none⟩ v) := by
  refine ⟨⟨?_, ?_⟩, ⟨?_, ?_⟩⟩
  · rw [World.cell?_setCell_other _ _ _ _ (by intro e; have := congrArg Addr.off e; simp at this), World.cell?_setCell_same' _ _ _ (by rw [h.1.1]; rfl)]
  · rw [World.frozen?_setCell, World.frozen?_setCell]; exact h.1.2
  · rw [World.cell?_setCell_same' _ _ _ (by rw [World.cell?_setCell_other _ _ _ _ (by intro e; have := congrArg Addr.off e; simp at this), h.2.1]; rfl)]
  · rw [World.frozen?_setCell, World.frozen?_setCell]; exact h.2.2
theorem Two.other {B B' o : Nat} {x y u : Value} {W : World} (h : Two B x y W) (hne : B ≠ B') : Two B x y (W.setCell ⟨B', o, none⟩ u) := by
  refine ⟨⟨?_, ?_⟩, ⟨?_, ?_⟩⟩
  · rw [World.cell?_setCell_other _ _ _ _ (by intro e; have := congrArg Addr.block e; simp at this; omega)]; exact h.1.1
  · rw [World.frozen?_setCell]; exact h.1.2
  · rw [World.cell?_setCell_other _ _ _ _ (by intro e; have := congrArg Addr.block e; simp at this; omega)]; exact h.2.1
  · rw [World.frozen?_setCell]; exact h.2.2
theorem cmpZ_neg {x y : Int} (hx : x < 0) (hy : y < 0) : cmpZ (y.natAbs : Int) (x.natAbs : Int) = cmpZ x y := by
  rcases Int.lt_trichotomy x y with h | h | h
  · rw [cmpZ_lt h, cmpZ_lt (by omega)]
  · rw [cmpZ_eq h, cmpZ_eq (by omega)]
  · rw [cmpZ_gt h, cmpZ_gt (by omega)]
theorem cmpZ_pos {x y : Int} (hx : ¬ x < 0) (hy : ¬ y < 0) : cmpZ (x.natAbs : Int) (y.natAbs : Int) = cmpZ x y := by
  rcases Int.lt_trichotomy x y with h | h | h
  · rw [cmpZ_lt h, cmpZ_lt (by omega)]
  · rw [cmpZ_eq h, cmpZ_eq (by omega)]
  · rw [cmpZ_gt h, cmpZ_gt (by omega)]

set_option maxHeartbeats 1000000 in
set_option maxRecDepth 100000 in
theorem comp_any (na nb : Bool) (sa sb : ByteArray) (w : World) :
    Calls Tryz.prog 24 #[.agg #[.bool na, .string sa], .agg #[.bool nb, .string sb]] w fun e w' => e = .returned (.int .i64 (cmpZ (ival na sa) (ival nb sb))) ∧ Below w.heap.size w w' := by
  obtain ⟨x, hx⟩ : ∃ x, x = ival na sa := ⟨_, rfl⟩
  obtain ⟨y, hy⟩ : ∃ y, y = ival nb sb := ⟨_, rfl⟩
  have ca := fun W => canonical_any na sa W
  have cb := fun W => canonical_any nb sb W
  rw [← hx] at ca
  rw [← hy] at cb
  rw [← hx, ← hy]
  have CA := Lib.hid ca
  have CB := Lib.hid cb
  clear ca cb hx hy
  go_enter Tryz.func24, Tryz.ntmps24
  go_upto_region 1 with fail
  obtain ⟨W0, hW0⟩ : ∃ W0, ((w.alloc (Obj.cells #[Value.bool na, Value.string sa] 23)).alloc (Obj.cells #[Value.bool nb, Value.string sb] 23)) = W0 := ⟨_, rfl⟩
  have hs0 : W0.heap.size = w.heap.size + 1 + 1 := by rw [← hW0]; simp
  have tA : Two w.heap.size (.bool na) (.string sa) W0 := by
    rw [← hW0]
    exact (two_new w _ _ _).below (B0 := w.heap.size + 1) ((Below.refl _ _).alloc (by simp) _) (by omega)
  have tB : Two (w.heap.size + 1) (.bool nb) (.string sb) W0 := by
    rw [← hW0]
    have h := two_new (w.alloc (Obj.cells #[Value.bool na, Value.string sa] 23)) (.bool nb) (.string sb) 23
    rw [World.size_alloc] at h
    exact h
  have b0 : Below w.heap.size w W0 := by
    rw [← hW0]
    exact ((Below.refl _ _).alloc (Nat.le_refl _) _).alloc (by simp) _
  rw [hW0]
  have q1 : Two w.heap.size (.bool na) (.string sa) W0.drew := tA
  have q2 : Two (w.heap.size + 1) (.bool nb) (.string sb) W0.drew := tB
  have q5 : w.heap.size + 1 + 1 ≤ W0.drew.heap.size := by show _ ≤ W0.heap.size; omega
  have HQ := Lib.hid (And.intro q1 (And.intro q2 (And.intro b0.drew q5)))
  obtain ⟨⟨a1, a2⟩, a3, a4⟩ := q1
  obtain ⟨⟨b1, b2⟩, b3, b4⟩ := q2
  clear tA tB b0 hs0 hW0 q5
  go_cut [] from 5 to 8 (fun wc => Two w.heap.size (.bool (ng x)) (.string (mg x)) wc ∧ Two (w.heap.size + 1) (.bool (ng y)) (.string (mg y)) wc ∧ Below w.heap.size w wc)
  case first =>
    have tok1 : True := trivial
    go_region_with (first
      | (go_at_call 52; have _t := tok1; clear tok1; refine (CA.out _).mono ?_; intro e w1 h1; obtain ⟨he, hb1⟩ := h1; subst he; have H1 := Lib.hid hb1; have k1 := HQ.out.1.below hb1 (by have := HQ.out.2.2.2; omega); have k2 := HQ.out.2.1.below hb1 (by have := HQ.out.2.2.2; omega); obtain ⟨⟨k11, k12⟩, k13, k14⟩ := k1; obtain ⟨⟨k21, k22⟩, k23, k24⟩ := k2; clear hb1)
      | (go_at_call 52; refine (CB.out _).mono ?_; intro e w2 h2; obtain ⟨he, hb2⟩ := h2; subst he; have H2 := Lib.hid hb2; have l1 := (HQ.out.1.below H1.out (by have := HQ.out.2.2.2; omega)).below hb2 (by have := HQ.out.2.2.2; have := H1.out.size; omega); have l2 := (HQ.out.2.1.below H1.out (by have := HQ.out.2.2.2; omega)).below hb2 (by have := HQ.out.2.2.2; have := H1.out.size; omega); obtain ⟨⟨l11, l12⟩, l13, l14⟩ := l1; obtain ⟨⟨l21, l22⟩, l23, l24⟩ := l2; clear hb2))
    all_goals (go_wp2_with fail; go_meet)
    all_goals
      have m1 : Two w.heap.size (.bool na) (.string sa) w2 := ⟨⟨l11, l12⟩, l13, l14⟩
      have m2 : Two (w.heap.size + 1) (.bool nb) (.string sb) w2 := ⟨⟨l21, l22⟩, l23, l24⟩
      refine ⟨Two.other (Two.other (two_set m1 _ _) (by omega)) (by omega), two_set (Two.other (Two.other m2 (by omega)) (by omega)) _ _, ?_⟩
      have s1 := HQ.out.2.2.2
      have s2 := H1.out.size
      exact ((((((HQ.out.2.2.1.trans (H1.out.mono (by omega))).trans (H2.out.mono (by omega))).setCell (by simp) _).setCell (by simp) _).setCell (by simp) _).setCell (by simp) _)
  case rest =>
    obtain ⟨t1, t2, hb⟩ := hcut
    obtain ⟨⟨c11, c12⟩, c13, c14⟩ := t1
    obtain ⟨⟨c21, c22⟩, c23, c24⟩ := t2
    have HB := Lib.hid hb
    clear hb
    by_cases hx : x < 0
    · have ex : ng x = true := by simp [ng, hx]
      rw [ex] at c11
      by_cases hy : y < 0
      · have ey : ng y = true := by simp [ng, hy]
        rw [ey] at c21
        have hc : Calls Tryz.prog 54 #[.string (mg y), .string (mg x)] wc fun e w' => e = .returned (.int .i64 (cmpZ (y.natAbs : Nat) (x.natAbs : Nat))) ∧ wc = w' := cmpMag_any _ _ wc
        rw [cmpZ_neg hx hy] at hc
        have HC := Lib.hid hc
        clear hc ex ey hx hy
        go_wp2_with fail
        refine HC.out.mono ?_
        rintro e w' ⟨rfl, rfl⟩
        go_wp2_with fail
        go_ret
        exact ⟨rfl, HB.out⟩
      · have ey : ng y = false := by simp [ng]; omega
        rw [ey] at c21
        have hc : cmpZ x y = -1 := cmpZ_lt (by omega)
        have HC := Lib.hid hc
        clear hc ex ey hx hy
        go_wp2_with fail
        go_ret
        rw [HC.out]
        exact ⟨rfl, HB.out⟩
    · have ex : ng x = false := by simp [ng]; omega
      rw [ex] at c11
      by_cases hy : y < 0
      · have ey : ng y = true := by simp [ng, hy]
        rw [ey] at c21
        have hc : cmpZ x y = 1 := cmpZ_gt (by omega)
        have HC := Lib.hid hc
        clear hc ex ey hx hy
        go_wp2_with fail
        go_ret
        rw [HC.out]
        exact ⟨rfl, HB.out⟩
      · have ey : ng y = false := by simp [ng]; omega
        rw [ey] at c21
        have hc : Calls Tryz.prog 54 #[.string (mg x), .string (mg y)] wc fun e w' => e = .returned (.int .i64 (cmpZ (x.natAbs : Nat) (y.natAbs : Nat))) ∧ wc = w' := cmpMag_any _ _ wc
        rw [cmpZ_pos hx hy] at hc
        have HC := Lib.hid hc
        clear hc ex ey hx hy
        go_wp2_with fail
        refine HC.out.mono ?_
        rintro e w' ⟨rfl, rfl⟩
        go_wp2_with fail
        go_ret
        exact ⟨rfl, HB.out⟩
end Go.Proofs.YtmbnkokcpmkpgaaGreatDoor
