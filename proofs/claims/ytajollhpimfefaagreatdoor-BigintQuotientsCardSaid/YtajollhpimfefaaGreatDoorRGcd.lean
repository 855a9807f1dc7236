/- The contract of the reference's Gcd. -/
import Derived.Test.YtajollhpimfefaaGreatDoorRDivF
namespace Go.Proofs.YtajollhpimfefaaGreatDoor
open Go.RowKit Go.Shelf

def strNat : Value → Nat | .string s => beVal s.data.toList | _ => 0

set_option maxHeartbeats 4000000 in
set_option maxRecDepth 100000 in
theorem rgcd_any (na nb : Bool) (sa sb : ByteArray) (w : World) (ha : sa.size ≤ 40000) (hb : sb.size ≤ 40000) :
  Calls Tryz.prog 39 #[.agg #[.bool na, .string sa], .agg #[.bool nb, .string sb]] w fun e w' =>
   e = .returned (.agg #[.bool false, .string ⟨(be (Nat.gcd (beVal sa.data.toList) (beVal sb.data.toList))).toArray⟩]) ∧ Below w.heap.size w w' := by
 have la := beVal_lt sa.data.toList
 have lb := beVal_lt sb.data.toList
 rw [← Lib.size_eq] at la lb
 obtain ⟨M, hM⟩ : ∃ M, beVal sa.data.toList = M := ⟨_, rfl⟩
 obtain ⟨N, hN⟩ : ∃ N, beVal sb.data.toList = N := ⟨_, rfl⟩
 have hta := fun W => rtrim_any sa W
 have htb := fun W => rtrim_any sb W
 rw [strip_be, hM] at hta
 rw [strip_be, hN] at htb
 rw [hM] at la
 rw [hN] at lb
 have lM : (be M).length ≤ 40000 := Nat.le_trans (be_length_le _ _ la) ha
 have lN : (be N).length ≤ 40000 := Nat.le_trans (be_length_le _ _ lb) hb
 rw [hM, hN]
 obtain ⟨g, hg⟩ : ∃ g, Nat.gcd M N = g := ⟨_, rfl⟩
 rw [hg]
 have TA := Lib.hid hta
 have TB := Lib.hid htb
 have HG := Lib.hid (And.intro hg (And.intro lM lN))
 clear hta htb la lb hM hN lM lN hg
 go_enter Tryz.func39, Tryz.ntmps39
 go_upto_region 1 with fail
 obtain ⟨W0, hW0⟩ : ∃ W0, (((w.alloc (Obj.cells #[Value.bool na, Value.string sa] 23)).alloc (Obj.cells #[Value.bool nb, Value.string sb] 23)).alloc (Obj.cells #[Value.bool false, Value.string ⟨#[]⟩] 23)) = W0 := ⟨_, rfl⟩
 have tA : Two w.heap.size (.bool na) (.string sa) W0 := by
  rw [← hW0]
  exact (two_new w _ _ _).below (B0 := w.heap.size + 1) (((Below.refl _ _).alloc (by simp) _).alloc (by simp) _) (by omega)
 have tB : Two (w.heap.size + 1) (.bool nb) (.string sb) W0 := by
  rw [← hW0]
  have h := two_new (w.alloc (Obj.cells #[Value.bool na, Value.string sa] 23)) (.bool nb) (.string sb) 23
  rw [World.size_alloc] at h
  exact h.below (B0 := w.heap.size + 1 + 1) ((Below.refl _ _).alloc (by simp) _) (by omega)
 have tR : Two (w.heap.size + 1 + 1) (.bool false) (.string ⟨#[]⟩) W0 := by
  rw [← hW0]
  have h := two_new ((w.alloc (Obj.cells #[Value.bool na, Value.string sa] 23)).alloc (Obj.cells #[Value.bool nb, Value.string sb] 23)) (.bool false) (.string ⟨#[]⟩) 23
  rw [World.size_alloc, World.size_alloc] at h
  exact h
 have b0 : Below w.heap.size w W0 := by
  rw [← hW0]
  exact (((Below.refl _ _).alloc (Nat.le_refl _) _).alloc (by simp) _).alloc (by simp; omega) _
 rw [hW0]
 have kA := tA.2.1
 have kB := tB.2.1
 have kA' : W0.drew.cell? ⟨w.heap.size, 1, none⟩ = some (.string sa) := kA
 have kB' : W0.drew.cell? ⟨w.heap.size + 1, 1, none⟩ = some (.string sb) := kB
 have HR := Lib.hid (And.intro tR b0)
 clear tA tB tR b0 hW0
 have tok1 : True := trivial
 go_region_held3 (fun w' => w'.cell? ⟨w.heap.size, 1, none⟩ = some (.string sa) ∧ w'.cell? ⟨w.heap.size + 1, 1, none⟩ = some (.string sb)) (refine ⟨?_, ?_⟩ <;> assumption)
  (first | (go_at_call 57; have _t := tok1; clear tok1; refine (TA.out _).mono ?_; intro e u1 h1; obtain ⟨he, hb1⟩ := h1; subst he; subst hb1) | (go_at_call 57; refine (TB.out _).mono ?_; intro e u2 h2; obtain ⟨he, hb2⟩ := h2; subst he; subst hb2))
 clear kA kB kA' kB'
 go_wp2_with fail
 go_loopw [5, 6] (fun v5 v6 wr => ∃ m n : Nat, v5 = .string ⟨(be m).toArray⟩ ∧ v6 = .string ⟨(be n).toArray⟩ ∧ Nat.gcd m n = g ∧ (be m).length ≤ 40000 ∧ (be n).length ≤ 40000 ∧ Two (w.heap.size + 1 + 1) (.bool false) (.string ⟨#[]⟩) wr ∧ Below w.heap.size w wr) (fun _ v6 _ => strNat v6)
 case atStart => exact ⟨M, N, rfl, rfl, HG.out.1, HG.out.2.1, HG.out.2.2, HR.out.1, HR.out.2.drew⟩
 case round =>
  obtain ⟨m, n, rfl, rfl, hgm, lm, ln, tR, hb⟩ := hrel
  obtain ⟨SX, hSX⟩ : ∃ s : ByteArray, (⟨(be m).toArray⟩ : ByteArray) = s := ⟨_, rfl⟩
  obtain ⟨SY, hSY⟩ : ∃ s : ByteArray, (⟨(be n).toArray⟩ : ByteArray) = s := ⟨_, rfl⟩
  have nX : Nam false SX (m : Int) := by rw [← hSX]; exact nam_nat m
  have nY : Nam false SY (n : Int) := by rw [← hSY]; exact nam_nat n
  have eY := nam_empty nY
  have zX : SX.size = (be m).length := by rw [← hSX]; exact List.size_toArray
  have zY : SY.size = (be n).length := by rw [← hSY]; exact List.size_toArray
  have vX : beVal SX.data.toList = m := by rw [← hSX]; exact beVal_be m
  have vY : beVal SY.data.toList = n := by rw [← hSY]; exact beVal_be n
  have r1 := tR.1.1
  have r2 := tR.1.2
  have r3 := tR.2.1
  have r4 := tR.2.2
  have HS := Lib.hid (And.intro hgm (And.intro tR (And.intro hb (And.intro hSX (And.intro hSY (And.intro vX (And.intro vY (And.intro lm ln))))))))
  have sx5 : SX.size ≤ 40000 := by omega
  have sy5 : SY.size ≤ 40000 := by omega
  rw [hSX, hSY]
  clear hgm tR hb hSX hSY vX vY nX nY lm ln zX zY
  by_cases hn0 : n = 0
  ·rw [decide_eq_true (by omega)] at eY
   have hfin := two_set HS.out.2.1 (.bool false) (.string SX)
   have y0 := hfin.1.1
   have y1 := hfin.2.1
   clear hfin
   go_wp2_with fail
   refine bodyPost_ret (v := .agg #[.bool false, .string SX]) (by simp [results, Tryz.results39, go_sem, y0, y1]) rfl ⟨?_, (HS.out.2.2.1.setCell (by show w.heap.size ≤ w.heap.size + 1 + 1; omega) _).setCell (by show w.heap.size ≤ w.heap.size + 1 + 1; omega) _⟩
   have h1 := HS.out.1
   rw [hn0, Nat.gcd_zero_right] at h1
   rw [← h1, HS.out.2.2.2.1]
  ·rw [decide_eq_false (by omega)] at eY
   by_cases hbig : 7 < SX.size ∨ 7 < SY.size
   ·have hdm := fun W => divMag_any SX n W (by omega) (by omega) (by have := HS.out.2.2.2.2.2.2.2.2; omega)
    rw [HS.out.2.2.2.2.1, HS.out.2.2.2.2.2.1] at hdm
    have DM := Lib.hid hdm
    clear hdm
    rcases Decidable.em (7 < SX.size) with h7 | h7
    ·go_wp2_with fail
     refine (DM.out _).mono ?_
     rintro e u ⟨rfl, hu⟩
     have HU := Lib.hid hu
     clear hu
     go_wp2_with fail
     obtain ⟨hgm, tR, hb, hSX, hSY, vX, vY, lm, ln⟩ := HS.out
     have hlt : m % n < n := Nat.mod_lt _ (by omega)
     refine ⟨⟨n, m % n, by rw [hSY], rfl, ?_, ln, ?_, tR.below HU.out tR.lt, hb.trans (HU.out.mono hb.size)⟩, ?_⟩
     ·rw [Nat.gcd_comm, ← Nat.gcd_rec, Nat.gcd_comm]; exact hgm
     ·refine Nat.le_trans (be_length_le (be n).length (m % n) (Nat.lt_trans hlt ?_)) ln
      have h := beVal_lt (be n)
      rwa [beVal_be] at h
     ·show beVal (be (m % n)) < beVal SY.data.toList
      rw [beVal_be, vY]; exact hlt
    ·have h8 : 7 < SY.size := by omega
     go_wp2_with fail
     refine (DM.out _).mono ?_
     rintro e u ⟨rfl, hu⟩
     have HU := Lib.hid hu
     clear hu
     go_wp2_with fail
     obtain ⟨hgm, tR, hb, hSX, hSY, vX, vY, lm, ln⟩ := HS.out
     have hlt : m % n < n := Nat.mod_lt _ (by omega)
     refine ⟨⟨n, m % n, by rw [hSY], rfl, ?_, ln, ?_, tR.below HU.out tR.lt, hb.trans (HU.out.mono hb.size)⟩, ?_⟩
     ·rw [Nat.gcd_comm, ← Nat.gcd_rec, Nat.gcd_comm]; exact hgm
     ·refine Nat.le_trans (be_length_le (be n).length (m % n) (Nat.lt_trans hlt ?_)) ln
      have h := beVal_lt (be n)
      rwa [beVal_be] at h
     ·show beVal (be (m % n)) < beVal SY.data.toList
      rw [beVal_be, vY]; exact hlt
   ·have h7 : ¬ (7 < SX.size) := fun h => hbig (.inl h)
    have h8 : ¬ (7 < SY.size) := fun h => hbig (.inr h)
    have hm7 : m < 72057594037927936 := by
     have h1 := beVal_lt SX.data.toList
     rw [HS.out.2.2.2.2.2.1, ← Lib.size_eq] at h1
     exact Nat.lt_of_lt_of_le h1 (Nat.pow_le_pow_right (n := 256) (by omega) (show SX.size ≤ 7 by omega))
    have hn7 : n < 72057594037927936 := by
     have h1 := beVal_lt SY.data.toList
     rw [HS.out.2.2.2.2.2.2.1, ← Lib.size_eq] at h1
     exact Nat.lt_of_lt_of_le h1 (Nat.pow_le_pow_right (n := 256) (by omega) (show SY.size ≤ 7 by omega))
    have V1 := Lib.hid (fun W => rsmall_any SX W (by omega) (by rw [HS.out.2.2.2.2.2.1]; omega))
    have V2 := Lib.hid (fun W => rsmall_any SY W (by omega) (by rw [HS.out.2.2.2.2.2.2.1]; omega))
    clear hbig
    go_wp2_with fail
    refine (V1.out _).mono ?_
    rintro e u ⟨rfl, rfl⟩
    go_wp2_with fail
    refine (V2.out _).mono ?_
    rintro e u ⟨rfl, rfl⟩
    rename World => wL
    have hvX := HS.out.2.2.2.2.2.1
    have hvY := HS.out.2.2.2.2.2.2.1
    go_wp2_with fail
    go_loopw [9, 10] (fun a b wi => ∃ p q : Nat, a = .int .i64 (p : Int) ∧ b = .int .i64 (q : Int) ∧ p < 72057594037927936 ∧ q < 72057594037927936 ∧ Nat.gcd p q = g ∧ Two (w.heap.size + 1 + 1) (.bool false) (.string ⟨#[]⟩) wi ∧ Below w.heap.size w wi) (fun _ b _ => (intOf b).toNat)
    case atStart => exact ⟨m, n, rfl, rfl, hm7, hn7, HS.out.1, HS.out.2.1, HS.out.2.2.1⟩
    case round =>
     obtain ⟨p, q, rfl, rfl, hp, hq, hpq, tR, hb⟩ := hrel
     have HQ := Lib.hid (And.intro hpq (And.intro tR hb))
     clear hpq tR hb
     by_cases h0 : q = 0
     ·subst h0
      have O1 := Lib.hid (fun W => rof_val (by omega) (by omega) (nam_nat p) W)
      have lR := HQ.out.2.1.lt
      go_wp2_with fail
      refine (O1.out _).mono ?_
      rintro e u ⟨rfl, hu⟩
      have t := HQ.out.2.1.below hu lR
      have hf := two_set t (.bool false) (.string ⟨(be p).toArray⟩)
      have r1 := t.1.1
      have r2 := t.1.2
      have r3 := t.2.1
      have r4 := t.2.2
      have y0 := hf.1.1
      have y1 := hf.2.1
      have HU := Lib.hid hu
      clear t hf hu
      go_wp2_with fail
      refine bodyPost_ret (v := .agg #[.bool false, .string (⟨(be p).toArray⟩ : ByteArray)]) (by simp [results, Tryz.results39, go_sem, y0, y1]) rfl ⟨?_, ((HQ.out.2.2.trans (HU.out.mono HQ.out.2.2.size)).setCell (by show w.heap.size ≤ w.heap.size + 1 + 1; omega) _).setCell (by show w.heap.size ≤ w.heap.size + 1 + 1; omega) _⟩
      have h1 := HQ.out.1
      rw [Nat.gcd_zero_right] at h1
      rw [← h1]
     ·obtain ⟨r, hr⟩ : ∃ r, p % q = r := ⟨_, rfl⟩
      have hrq : r < q := by rw [← hr]; exact Nat.mod_lt _ (by omega)
      have N0 : ¬ ((q : Int) = 0) := by omega
      have N1 : (0 : Int) < (q : Int) := by omega
      have A3 : (p : Int) % (q : Int) = (r : Int) := by rw [← hr]; rfl
      have A4 : (p : Int).tmod (q : Int) = (r : Int) := by rw [Int.tmod_eq_emod_of_nonneg (by omega)]; exact A3
      have A6 : IntKind.i64.wrap (r : Int) = (r : Int) := by apply IntWalk.i64_in <;> omega
      have HRR := Lib.hid (And.intro hr hrq)
      clear hr
      go_wp2_with fail
      go_region
      all_goals go_wp2_with fail
      refine ⟨⟨q, r, rfl, rfl, hq, by omega, ?_, HQ.out.2.1, HQ.out.2.2.drew⟩, by simp [intOf]; omega⟩
      have h1 := HQ.out.1
      rw [← HRR.out.1, Nat.gcd_comm, ← Nat.gcd_rec, Nat.gcd_comm]
      exact h1
end Go.Proofs.YtajollhpimfefaaGreatDoor
