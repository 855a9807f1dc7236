/- The walk of narrowslaw01.BigintBasics. -/
import Derived.Test.YtmbnkokcpmkpgaaGreatDoorLawKit
import Derived.Test.YtmbnkokcpmkpgaaGreatDoorSmall
import Derived.Test.YtmbnkokcpmkpgaaGreatDoorRef
import Derived.Outline
import Derived.Handy
namespace Go.Proofs.YtmbnkokcpmkpgaaGreatDoor
open Go.RowKit Go.Shelf

/-- Small and its reference agree. -/
theorem small_both (n : Bool) (s : ByteArray) : ∃ (v : Int) (q : Bool),
    (∀ W, Calls Tryz.prog 16 #[.agg #[.bool n, .string s]] W fun e w' => e = .returned (.tuple #[.int .i64 v, .bool q]) ∧ Below W.heap.size W w') ∧
    (∀ W, Calls Tryz.prog 17 #[.agg #[.bool n, .string s]] W fun e w' => e = .returned (.tuple #[.int .i64 v, .bool q]) ∧ Below W.heap.size W w') := by
  have key : ∀ f, (∀ W, Calls Tryz.prog f #[.agg #[.bool n, .string s]] W (SmallRes W (ival n s))) → ∀ W, Calls Tryz.prog f #[.agg #[.bool n, .string s]] W fun e w' => e = .returned (.tuple #[.int .i64 (if -9223372036854775808 ≤ ival n s ∧ ival n s ≤ 9223372036854775807 then ival n s else 0), .bool (decide (-9223372036854775808 ≤ ival n s ∧ ival n s ≤ 9223372036854775807))]) ∧ Below W.heap.size W w' := by
    intro f hf W
    refine (hf W).mono ?_
    rintro e w' ⟨⟨h1, h2, rfl⟩ | ⟨h1, rfl⟩, hb⟩
    · rw [if_pos ⟨h1, h2⟩, decide_eq_true ⟨h1, h2⟩]; exact ⟨rfl, hb⟩
    · have hn : ¬ (-9223372036854775808 ≤ ival n s ∧ ival n s ≤ 9223372036854775807) := by omega
      rw [if_neg hn, decide_eq_false hn]; exact ⟨rfl, hb⟩
  exact ⟨_, _, key _ (small_any n s), key _ (rsmallF_any n s)⟩

set_option maxHeartbeats 4000000 in
set_option maxRecDepth 100000 in
theorem basics_great (na nb : Bool) (sa sb : ByteArray) (v : Int) (w : World) (htab : Tab w) (ha : sa.size ≤ maxLen) (hb : sb.size ≤ maxLen) (lv : -9223372036854775808 ≤ v) (gv : v ≤ 9223372036854775807)
    (hg : (([(na, sa), (nb, sb)] : List (Bool × ByteArray)).any fun p => decide ((60 : Int) < (p.2.size : Int))) = true) :
    Calls Tryz.prog 3 #[.int .i64 v, .agg #[.bool na, .string sa], .agg #[.bool nb, .string sb]] w fun e w' => e = .returned (.bool true) ∧ Below w.heap.size w w' := by
  unfold maxLen at ha hb
  have HG := Lib.hid hg
  have HT := Lib.hid htab
  have HLv := Lib.hid (And.intro lv gv)
  clear lv gv
  have hss : ∀ p ∈ ([(na, sa), (nb, sb)] : List (Bool × ByteArray)), p.2.size ≤ 9223372036854775807 := by
    intro p hp
    simp at hp
    rcases hp with rfl | rfl <;> simp <;> omega
  have HSS := Lib.hid hss
  clear htab hg hss
  go_enter Tryz.func3, Tryz.ntmps3
  go_wp2_with fail
  obtain ⟨W0, hW0⟩ : ∃ W0, ((w.alloc (Obj.cells #[Value.bool na, Value.string sa] 23)).alloc (Obj.cells #[Value.bool nb, Value.string sb] 23)).alloc (Obj.cells #[Value.bool na, Value.string sa, Value.bool nb, Value.string sb] 23) = W0 := ⟨_, rfl⟩
  have z0 : W0.heap.size = w.heap.size + 1 + 1 + 1 := by rw [← hW0]; simp
  have ta : Two (w.heap.size) (.bool na) (.string sa) W0 := by
    rw [← hW0]
    have h := two_new w (.bool na) (.string sa) 23
    (try simp only [World.size_alloc] at h)
    exact h.below (B0 := w.heap.size + 1) (((Below.refl _ _).alloc (by simp) _).alloc (by simp) _) (by omega)
  have tb : Two (w.heap.size + 1) (.bool nb) (.string sb) W0 := by
    rw [← hW0]
    have h := two_new (w.alloc (Obj.cells #[Value.bool na, Value.string sa] 23)) (.bool nb) (.string sb) 23
    (try simp only [World.size_alloc] at h)
    exact h.below (B0 := w.heap.size + 1 + 1) ((Below.refl _ _).alloc (by simp) _) (by omega)
  have hrow : RowI W0 (w.heap.size + 1 + 1) [(na, sa), (nb, sb)] := by
    rw [← hW0]
    have h := rowI_2 ((w.alloc (Obj.cells #[Value.bool na, Value.string sa] 23)).alloc (Obj.cells #[Value.bool nb, Value.string sb] 23)) na nb sa sb 23
    simp only [World.size_alloc] at h
    exact h
  have b0 : Below w.heap.size w W0 := by
    rw [← hW0]
    exact ((((Below.refl _ _).alloc (Nat.le_refl _) _).alloc (by simp) _).alloc (by simp; omega) _)
  rw [hW0]
  have hgr := great_any (w.heap.size + 1 + 1) [(na, sa), (nb, sb)] W0 hrow (by omega) (by simp) HSS.out
  rw [HG.out] at hgr
  have HGR := Lib.hid hgr
  have H0 := Lib.hid (And.intro z0 (And.intro b0 (And.intro ta (And.intro tb trivial))))
  clear hW0 z0 hrow b0 hgr ta tb
  refine HGR.out.mono ?_
  rintro e wG ⟨rfl, cG⟩
  have bG : Below w.heap.size w wG := H0.out.2.1.trans (cG.mono H0.out.2.1.size)
  have haw := awake_any wG (tab_of HT.out bG)
  have HAW := Lib.hid haw
  have HB := Lib.hid bG
  clear cG bG haw
  go_wp2_with fail
  refine HAW.out.mono ?_
  rintro e wA ⟨rfl, cA⟩
  go_wp2_with fail
  go_ret
  exact ⟨rfl, HB.out.trans (cA.mono HB.out.size)⟩

set_option maxHeartbeats 4000000 in
set_option maxRecDepth 100000 in
theorem basics_small (na nb : Bool) (sa sb : ByteArray) (v : Int) (w : World) (htab : Tab w) (ha : sa.size ≤ maxLen) (hb : sb.size ≤ maxLen) (lv : -9223372036854775808 ≤ v) (gv : v ≤ 9223372036854775807)
    (hg : (([(na, sa), (nb, sb)] : List (Bool × ByteArray)).any fun p => decide ((60 : Int) < (p.2.size : Int))) = false) :
    Calls Tryz.prog 3 #[.int .i64 v, .agg #[.bool na, .string sa], .agg #[.bool nb, .string sb]] w fun e w' => e = .returned (.bool true) ∧ Below w.heap.size w w' := by
  unfold maxLen at ha hb
  have HG := Lib.hid hg
  have HT := Lib.hid htab
  have HLv := Lib.hid (And.intro lv gv)
  clear lv gv
  have hss : ∀ p ∈ ([(na, sa), (nb, sb)] : List (Bool × ByteArray)), p.2.size ≤ 9223372036854775807 := by
    intro p hp
    simp at hp
    rcases hp with rfl | rfl <;> simp <;> omega
  have HSS := Lib.hid hss
  clear htab hg hss
  go_enter Tryz.func3, Tryz.ntmps3
  go_wp2_with fail
  obtain ⟨W0, hW0⟩ : ∃ W0, ((w.alloc (Obj.cells #[Value.bool na, Value.string sa] 23)).alloc (Obj.cells #[Value.bool nb, Value.string sb] 23)).alloc (Obj.cells #[Value.bool na, Value.string sa, Value.bool nb, Value.string sb] 23) = W0 := ⟨_, rfl⟩
  have z0 : W0.heap.size = w.heap.size + 1 + 1 + 1 := by rw [← hW0]; simp
  have ta : Two (w.heap.size) (.bool na) (.string sa) W0 := by
    rw [← hW0]
    have h := two_new w (.bool na) (.string sa) 23
    (try simp only [World.size_alloc] at h)
    exact h.below (B0 := w.heap.size + 1) (((Below.refl _ _).alloc (by simp) _).alloc (by simp) _) (by omega)
  have tb : Two (w.heap.size + 1) (.bool nb) (.string sb) W0 := by
    rw [← hW0]
    have h := two_new (w.alloc (Obj.cells #[Value.bool na, Value.string sa] 23)) (.bool nb) (.string sb) 23
    (try simp only [World.size_alloc] at h)
    exact h.below (B0 := w.heap.size + 1 + 1) ((Below.refl _ _).alloc (by simp) _) (by omega)
  have hrow : RowI W0 (w.heap.size + 1 + 1) [(na, sa), (nb, sb)] := by
    rw [← hW0]
    have h := rowI_2 ((w.alloc (Obj.cells #[Value.bool na, Value.string sa] 23)).alloc (Obj.cells #[Value.bool nb, Value.string sb] 23)) na nb sa sb 23
    simp only [World.size_alloc] at h
    exact h
  have b0 : Below w.heap.size w W0 := by
    rw [← hW0]
    exact ((((Below.refl _ _).alloc (Nat.le_refl _) _).alloc (by simp) _).alloc (by simp; omega) _)
  rw [hW0]
  have hgr := great_any (w.heap.size + 1 + 1) [(na, sa), (nb, sb)] W0 hrow (by omega) (by simp) HSS.out
  rw [HG.out] at hgr
  have HGR := Lib.hid hgr
  have H0 := Lib.hid (And.intro z0 (And.intro b0 (And.intro ta (And.intro tb trivial))))
  clear hW0 z0 hrow b0 hgr ta tb
  refine HGR.out.mono ?_
  rintro e wG ⟨rfl, cG⟩
  have bG : Below w.heap.size w wG := H0.out.2.1.trans (cG.mono H0.out.2.1.size)
  have hsm := small_size HG.out
  have zx : Sz 60 (ival na sa) := Sz.ival na sa 60 (hsm (na, sa) (by simp))
  have px : sa.size ≤ 60 := hsm (na, sa) (by simp)
  obtain ⟨x, hx⟩ : ∃ x, ival na sa = x := ⟨_, rfl⟩
  have vx : Val na sa x := ⟨hx, Nat.le_trans px (by omega)⟩
  rw [hx] at zx
  have zy : Sz 60 (ival nb sb) := Sz.ival nb sb 60 (hsm (nb, sb) (by simp))
  have py : sb.size ≤ 60 := hsm (nb, sb) (by simp)
  obtain ⟨y, hy⟩ : ∃ y, ival nb sb = y := ⟨_, rfl⟩
  have vy : Val nb sb y := ⟨hy, Nat.le_trans py (by omega)⟩
  rw [hy] at zy
  have tA : Two (w.heap.size) (.bool na) (.string sa) wG := H0.out.2.2.1.below cG H0.out.2.2.1.lt
  have tB : Two (w.heap.size + 1) (.bool nb) (.string sb) wG := H0.out.2.2.2.1.below cG H0.out.2.2.2.1.lt
  obtain ⟨bN, sN, mN⟩ := nam_ex v
  obtain ⟨bM, sM, mM⟩ := nam_ex (-x)
  obtain ⟨vs, qs, hs1, hs2⟩ := small_both na sa
  obtain ⟨kc, hkc⟩ : ∃ k : Int, (if canB na sa then 0 else 1) = k := ⟨_, rfl⟩
  obtain ⟨kb, hkb⟩ : ∃ k : Nat, bl (beVal sa.data.toList) = k := ⟨_, rfl⟩
  obtain ⟨kz, hkz⟩ : ∃ k : Int, cmpZ x y = k := ⟨_, rfl⟩
  have hof := fun W => of_lit v bN sN mN.sign mN.mag HLv.out.1 HLv.out.2 W
  have hro := fun W => rof_any v W HLv.out.1 HLv.out.2
  rw [mN.sign, mN.mag] at hro
  have hck := fun W => check_any na sa W
  have hrc := fun W => rcheck_any na sa W
  rw [hkc] at hck hrc
  have hrn := fun W => rneg_any na sa W
  rw [hx, mM.sign, mM.mag] at hrn
  have hrz := fun W => rcomp_any na nb sa sb W
  rw [hx, hy, hkz] at hrz
  have hbi := fun W => bits_any na sa W (by omega)
  have hrb := fun W => rbits_any na sa W (by omega)
  rw [hkb] at hbi hrb
  have S1 := Lib.hid hs1
  have S2 := Lib.hid hs2
  have R1 := Lib.hid hof
  have R2 := Lib.hid hro
  have R3 := Lib.hid hck
  have R4 := Lib.hid hrc
  have R5 := Lib.hid (neg_val vx rfl mM)
  have R6 := Lib.hid hrn
  have R7 := Lib.hid (cmp_val vx vy kz hkz)
  have R8 := Lib.hid hrz
  have R9 := Lib.hid hbi
  have R10 := Lib.hid hrb
  have e1 := mN.eq
  have e2 := mM.eq
  have q1 := eql_int
  have q2 := guard_int
  have HBG := Lib.hid bG
  have HA := Lib.hid tA
  have HBB := Lib.hid tB
  have l1 := tA.lt
  have l2 := tB.lt
  have m1 := tA.1.1
  have m2 := tA.2.1
  clear hs1 hs2 hof hro hck hrc hrn hrz hbi hrb mN mM hkc hkb hkz cG bG hsm hx hy vx vy zx zy px py tA tB
  go_wp2_with fail
  refine (S1.out _).mono ?_
  rintro e w1 ⟨rfl, b1⟩
  have tA := HA.out.below b1 l1
  have tB := HBB.out.below b1 l2
  have f1 := HBG.out.trans (b1.mono HBG.out.size)
  have l3 := tA.lt
  have l4 := tB.lt
  have m3 := tA.1.1
  have m4 := tA.2.1
  have HA1 := Lib.hid tA
  have HB1 := Lib.hid tB
  have HF1 := Lib.hid f1
  clear b1 tA tB f1 m1 m2 l1 l2
  go_wp2_with fail
  refine (S2.out _).mono ?_
  rintro e w2 ⟨rfl, b2⟩
  have tA := HA1.out.below b2 l3
  have tB := HB1.out.below b2 l4
  have f2 := HF1.out.trans (b2.mono HF1.out.size)
  have l1 := tA.lt
  have l2 := tB.lt
  have m1 := tA.1.1
  have m2 := tA.2.1
  have m5 := tB.1.1
  have m6 := tB.2.1
  have HF2 := Lib.hid f2
  have HTV := Lib.hid (tab_below HT.out f2.drew)
  clear b2 tA tB f2 m3 m4 l3 l4
  go_wp2_with fail
  have tok1 : True := trivial
  have tok2 : True := trivial
  have tok3 : True := trivial
  have tok4 : True := trivial
  have tok5 : True := trivial
  have tok6 : True := trivial
  have tok7 : True := trivial
  have tok8 : True := trivial
  have tok9 : True := trivial
  have tok10 : True := trivial
  have tok11 : True := trivial
  go_region_held3 (fun w' => ∀ (a o : Nat), a < w2.heap.size → w'.cell? ⟨a, o, none⟩ = w2.cell? ⟨a, o, none⟩) (first | assumption | (intro _ _ _; rfl))
    (first | (go_at_call 18; have _t := tok1; clear tok1; refine (R1.out _).mono ?_; rintro e u1 ⟨rfl, d1⟩; have E1 := Lib.hid (d1); have kS1 : ∀ (a o : Nat), a < w2.heap.size → u1.cell? ⟨a, o, none⟩ = w2.cell? ⟨a, o, none⟩ := fun a o h => E1.out.cell (p := ⟨a, o, none⟩) h; have hz1 : w2.heap.size ≤ u1.heap.size := E1.out.size; clear d1) | (go_at_call 19; have _t := tok2; clear tok2; refine (R2.out _).mono ?_; rintro e u2 ⟨rfl, d2⟩; have E2 := Lib.hid (E1.out.trans (d2.mono E1.out.size)); have kS2 : ∀ (a o : Nat), a < w2.heap.size → u2.cell? ⟨a, o, none⟩ = w2.cell? ⟨a, o, none⟩ := fun a o h => E2.out.cell (p := ⟨a, o, none⟩) h; have hz2 : w2.heap.size ≤ u2.heap.size := E2.out.size; clear d2) | (go_at_call 20; have _t := tok3; clear tok3; refine (R3.out _).mono ?_; rintro e u3 ⟨rfl, d3⟩; have E3 := Lib.hid (E2.out.trans (d3.mono E2.out.size)); have kS3 : ∀ (a o : Nat), a < w2.heap.size → u3.cell? ⟨a, o, none⟩ = w2.cell? ⟨a, o, none⟩ := fun a o h => E3.out.cell (p := ⟨a, o, none⟩) h; have hz3 : w2.heap.size ≤ u3.heap.size := E3.out.size; clear d3) | (go_at_call 21; have _t := tok4; clear tok4; refine (R4.out _).mono ?_; rintro e u4 ⟨rfl, d4⟩; have E4 := Lib.hid (E3.out.trans (d4.mono E3.out.size)); have kS4 : ∀ (a o : Nat), a < w2.heap.size → u4.cell? ⟨a, o, none⟩ = w2.cell? ⟨a, o, none⟩ := fun a o h => E4.out.cell (p := ⟨a, o, none⟩) h; have hz4 : w2.heap.size ≤ u4.heap.size := E4.out.size; clear d4) | (go_at_call 22; have _t := tok5; clear tok5; refine (R5.out _).mono ?_; rintro e u5 ⟨rfl, d5⟩; have E5 := Lib.hid (E4.out.trans (d5.mono E4.out.size)); have kS5 : ∀ (a o : Nat), a < w2.heap.size → u5.cell? ⟨a, o, none⟩ = w2.cell? ⟨a, o, none⟩ := fun a o h => E5.out.cell (p := ⟨a, o, none⟩) h; have hz5 : w2.heap.size ≤ u5.heap.size := E5.out.size; clear d5) | (go_at_call 23; have _t := tok6; clear tok6; refine (R6.out _).mono ?_; rintro e u6 ⟨rfl, d6⟩; have E6 := Lib.hid (E5.out.trans (d6.mono E5.out.size)); have kS6 : ∀ (a o : Nat), a < w2.heap.size → u6.cell? ⟨a, o, none⟩ = w2.cell? ⟨a, o, none⟩ := fun a o h => E6.out.cell (p := ⟨a, o, none⟩) h; have hz6 : w2.heap.size ≤ u6.heap.size := E6.out.size; clear d6) | (go_at_call 24; have _t := tok7; clear tok7; refine (R7.out _).mono ?_; rintro e u7 ⟨rfl, d7⟩; have E7 := Lib.hid (E6.out.trans (d7.mono E6.out.size)); have kS7 : ∀ (a o : Nat), a < w2.heap.size → u7.cell? ⟨a, o, none⟩ = w2.cell? ⟨a, o, none⟩ := fun a o h => E7.out.cell (p := ⟨a, o, none⟩) h; have hz7 : w2.heap.size ≤ u7.heap.size := E7.out.size; clear d7) | (go_at_call 25; have _t := tok8; clear tok8; refine (R8.out _).mono ?_; rintro e u8 ⟨rfl, d8⟩; have E8 := Lib.hid (E7.out.trans (d8.mono E7.out.size)); have kS8 : ∀ (a o : Nat), a < w2.heap.size → u8.cell? ⟨a, o, none⟩ = w2.cell? ⟨a, o, none⟩ := fun a o h => E8.out.cell (p := ⟨a, o, none⟩) h; have hz8 : w2.heap.size ≤ u8.heap.size := E8.out.size; clear d8) | (go_at_call 26; have _t := tok9; clear tok9; refine (R9.out _).mono ?_; rintro e u9 ⟨rfl, d9⟩; have E9 := Lib.hid (E8.out.trans (d9.mono E8.out.size)); have kS9 : ∀ (a o : Nat), a < w2.heap.size → u9.cell? ⟨a, o, none⟩ = w2.cell? ⟨a, o, none⟩ := fun a o h => E9.out.cell (p := ⟨a, o, none⟩) h; have hz9 : w2.heap.size ≤ u9.heap.size := E9.out.size; clear d9) | (go_at_call 27; have _t := tok10; clear tok10; refine (R10.out _).mono ?_; rintro e u10 ⟨rfl, d10⟩; have E10 := Lib.hid (E9.out.trans (d10.mono E9.out.size)); have kS10 : ∀ (a o : Nat), a < w2.heap.size → u10.cell? ⟨a, o, none⟩ = w2.cell? ⟨a, o, none⟩ := fun a o h => E10.out.cell (p := ⟨a, o, none⟩) h; have hz10 : w2.heap.size ≤ u10.heap.size := E10.out.size; clear d10) | (go_at_call 15; have _t := tok11; clear tok11; refine (awake_any _ (tab_below HTV.out E10.out)).mono ?_; rintro e u11 ⟨rfl, d11⟩; have E11 := Lib.hid (E10.out.trans (d11.mono E10.out.size)); have kS11 : ∀ (a o : Nat), a < w2.heap.size → u11.cell? ⟨a, o, none⟩ = w2.cell? ⟨a, o, none⟩ := fun a o h => E11.out.cell (p := ⟨a, o, none⟩) h; have hz11 : w2.heap.size ≤ u11.heap.size := E11.out.size; clear d11))
  all_goals (go_wp2_with fail)
  go_ret
  exact ⟨rfl, HF2.out.trans ((((Below.refl w2.heap.size w2).drew).trans E11.out).mono HF2.out.size)⟩

theorem basics_any (na nb : Bool) (sa sb : ByteArray) (v : Int) (w : World) (htab : Tab w) (ha : sa.size ≤ maxLen) (hb : sb.size ≤ maxLen) (lv : -9223372036854775808 ≤ v) (gv : v ≤ 9223372036854775807) :
    Calls Tryz.prog 3 #[.int .i64 v, .agg #[.bool na, .string sa], .agg #[.bool nb, .string sb]] w fun e w' => e = .returned (.bool true) ∧ Below w.heap.size w w' := by
  cases hg : (([(na, sa), (nb, sb)] : List (Bool × ByteArray)).any fun p => decide ((60 : Int) < (p.2.size : Int)))
  · exact basics_small na nb sa sb v w htab ha hb lv gv hg
  · exact basics_great na nb sa sb v w htab ha hb lv gv hg
end Go.Proofs.YtmbnkokcpmkpgaaGreatDoor
