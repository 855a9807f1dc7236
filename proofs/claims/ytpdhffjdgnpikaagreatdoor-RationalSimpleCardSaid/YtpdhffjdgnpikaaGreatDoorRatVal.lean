/- The contracts of rational.Sub and Quo; those of layer 2's functions by the values of numbers. -/
import Derived.Test.YtpdhffjdgnpikaaGreatDoorRatMul
import Derived.Test.YtpdhffjdgnpikaaGreatDoorRatAdd
import Derived.Test.YtpdhffjdgnpikaaGreatDoorRatCmp
namespace Go.Proofs.YtpdhffjdgnpikaaGreatDoor
open Go.RowKit Go.Shelf

/-! ### By values -/
theorem i64_in (z : Int) (h1 : -9223372036854775808 ≤ z) (h2 : z ≤ 9223372036854775807) : IntKind.i64.wrap z = z := by rw [IntKind.wrap_i64]; omega
section
variable {b c b' : Bool} {s t u v s' t' : ByteArray} {p q z : Rat}
theorem RVal.valN (h : RVal b s t p) : Val b s (ival b s) := ⟨rfl, by have := h.num; omega⟩
theorem RVal.valD (h : RVal b s t p) : Val false (dvs t) (rden t : Int) := ⟨dvs_val t, dvs_size t 262144 (by have := h.den; omega) (by omega)⟩
theorem RVal.szN (_ : RVal b s t p) : Sz s.size (ival b s) := Sz.ival b s _ (Nat.le_refl _)
theorem RVal.szD (_ : RVal b s t p) : Sz (dvs t).size (rden t : Int) := by
  have h2 := Sz.ival false (dvs t) _ (Nat.le_refl _)
  rw [dvs_val] at h2; exact h2
theorem RVal.dsz (h : RVal b s t p) : (dvs t).size ≤ 4000 := dvs_size t 4000 h.den (by omega)
theorem add_q (hp : RVal b s t p) (hq : RVal c u v q) (he : p + q = z) (m : RNam b' s' t' z) (w : World) :
    Calls Tryz.prog 29 #[.agg #[.bool b, .string s, .string t], .agg #[.bool c, .string u, .string v]] w fun e w' => e = .returned (.agg #[.bool b', .string s', .string t']) ∧ Below w.heap.size w w' := by
  obtain ⟨n1, d1, a1, a2, a3, a4, hv1, C1⟩ := fractionOf_ex b s t
  obtain ⟨n2, d2, b1, b2, b3, b4, hv2, C2⟩ := fractionOf_ex c u v
  obtain ⟨o1, h1, F1⟩ := fits_ex n1 d2 a1 a2 (by omega) b4
  obtain ⟨o2, h2, F2⟩ := fits_ex n2 d1 b1 b2 (by omega) a4
  obtain ⟨o3, h3, F3⟩ := fits_ex d1 d2 (by omega) a4 (by omega) b4
  have hz : z = mkRat (ival b s * (rden v : Int) + ival c u * (rden t : Int)) (rden t * rden v) := by rw [← he, ← hp.val, ← hq.val]; exact Rat.mkRat_add_mkRat _ _ (by have := rden_pos t; omega) (by have := rden_pos v; omega)
  subst hz
  refine add_walk b c s t u v n1 d1 n2 d2 o1 o2 o3 b' s' t' C1 C2 F1 F2 F3 (fun e1 e2 e3 X Y W hX hY => ?_) (fun A B W hA hB => ?_) w
  · have k1 := h1 e1
    have k2 := h2 e2
    have k3 := h3 e3
    obtain ⟨rfl, rfl⟩ : n1 = ival b s ∧ d1 = (rden t : Int) := hv1.resolve_right (by omega)
    obtain ⟨rfl, rfl⟩ : n2 = ival c u ∧ d2 = (rden v : Int) := hv2.resolve_right (by omega)
    have e : (rden t : Int) * (rden v : Int) = ((rden t * rden v : Nat) : Int) := (Int.natCast_mul _ _).symm
    have hd : rden t * rden v < 4611686018427387904 := k3.1
    have g1 : (ival b s * (rden v : Int)).natAbs < 4611686018427387904 := by rw [Int.natAbs_mul]; exact k1.1
    have g2 : (ival c u * (rden t : Int)).natAbs < 4611686018427387904 := by rw [Int.natAbs_mul]; exact k2.1
    refine add1_any X Y _ _ _ _ (ival b s * (rden v : Int)) (ival c u * (rden t : Int)) (ival b s * (rden v : Int) + ival c u * (rden t : Int)) ((rden t * rden v : Nat) : Int) b' s' t' W hX hY (i64_in _ (by omega) (by omega)) (i64_in _ (by omega) (by omega)) (i64_in _ (by omega) (by omega)) (by rw [e]; exact i64_in _ (by omega) (by omega)) (fun W => ?_)
    exact fnumber_any _ _ (by omega) (by omega) (Nat.mul_pos (rden_pos t) (rden_pos v)) (by omega) m W
  · obtain ⟨x1, y1, m1⟩ := nam_ex (ival b s * (rden v : Int))
    obtain ⟨x2, y2, m2⟩ := nam_ex (ival c u * (rden t : Int))
    obtain ⟨x3, y3, m3⟩ := nam_ex (ival b s * (rden v : Int) + ival c u * (rden t : Int))
    obtain ⟨x4, y4, m4⟩ := nam_ex ((rden t : Int) * (rden v : Int))
    have b1 := hp.num
    have b2 := hq.num
    have b3 := hp.dsz
    have b4 := hq.dsz
    have z1 := hp.szN.mul hq.szD
    have z2 := hq.szN.mul hp.szD
    have v1 := m1.val z1 (by omega)
    have v2 := m2.val z2 (by omega)
    have v3 := m3.val ((z1.mono (Nat.le_add_right _ (u.size + (dvs t).size))).add (z2.mono (Nat.le_add_left _ (s.size + (dvs v).size)))) (by omega)
    have v4 := m4.val (hp.szD.mul hq.szD) (by omega)
    rw [← Int.natCast_mul] at v4
    exact add2_any A B b c s t u v (dvs t) (dvs v) x3 x4 y3 y4 b' s' t' W hA hB (fun W => quotientOf_any b s t W (by have := hp.den; omega)) (fun W => quotientOf_any c u v W (by have := hq.den; omega)) (fun W => plus_qt hp.valN hp.valD hq.valN hq.valD m1 m2 v1.small v2.small m3 m4 W) (fun W => number_qt v3 v4 (Nat.mul_pos (rden_pos t) (rden_pos v)) m W)
theorem cmp_q (hp : RVal b s t p) (hq : RVal c u v q) (n : Int) (he : cmpQ p q = n) (w : World) :
    Calls Tryz.prog 35 #[.agg #[.bool b, .string s, .string t], .agg #[.bool c, .string u, .string v]] w fun e w' => e = .returned (.int .i64 n) ∧ Below w.heap.size w w' := by
  obtain ⟨n1, d1, a1, a2, a3, a4, hv1, C1⟩ := fractionOf_ex b s t
  obtain ⟨n2, d2, b1, b2, b3, b4, hv2, C2⟩ := fractionOf_ex c u v
  obtain ⟨o1, h1, F1⟩ := fits_ex n1 d2 a1 a2 (by omega) b4
  obtain ⟨o2, h2, F2⟩ := fits_ex n2 d1 b1 b2 (by omega) a4
  have hz : n = cmpZ (ival b s * (rden v : Int)) (ival c u * (rden t : Int)) := by rw [← he, ← hp.val, ← hq.val]; exact (cmpZ_mk _ _ _ _ (rden_pos t) (rden_pos v)).symm
  subst hz
  refine compare_walk b c s t u v n1 d1 n2 d2 o1 o2 _ C1 C2 F1 F2 (fun e1 e2 X Y W hX hY => ?_) (fun A B W hA hB => ?_) w
  · have k1 := h1 e1
    have k2 := h2 e2
    obtain ⟨rfl, rfl⟩ : n1 = ival b s ∧ d1 = (rden t : Int) := hv1.resolve_right (by omega)
    obtain ⟨rfl, rfl⟩ : n2 = ival c u ∧ d2 = (rden v : Int) := hv2.resolve_right (by omega)
    have g1 : (ival b s * (rden v : Int)).natAbs < 4611686018427387904 := by rw [Int.natAbs_mul]; exact k1.1
    have g2 : (ival c u * (rden t : Int)).natAbs < 4611686018427387904 := by rw [Int.natAbs_mul]; exact k2.1
    refine compare1_any X Y _ _ _ _ (ival b s * (rden v : Int)) (ival c u * (rden t : Int)) _ W hX hY (i64_in _ (by omega) (by omega)) (i64_in _ (by omega) (by omega)) (fun W => ?_)
    refine (Tryz.cmp_Compare_int _ _ W).mono ?_
    rintro e w' ⟨rfl, rfl⟩
    refine ⟨?_, Below.refl _ _⟩
    rw [show Lib.compareInt (ival b s * (rden v : Int)) (ival c u * (rden t : Int)) = cmpZ (ival b s * (rden v : Int)) (ival c u * (rden t : Int)) from by unfold Lib.compareInt cmpZ; rfl]
  · obtain ⟨x1, y1, m1⟩ := nam_ex (ival b s * (rden v : Int))
    obtain ⟨x2, y2, m2⟩ := nam_ex (ival c u * (rden t : Int))
    have b1 := hp.num
    have b2 := hq.num
    have b3 := hp.dsz
    have b4 := hq.dsz
    have v1 := m1.val (hp.szN.mul hq.szD) (by omega)
    have v2 := m2.val (hq.szN.mul hp.szD) (by omega)
    exact compare2_any A B b c s t u v (dvs t) (dvs v) _ W hA hB (fun W => quotientOf_any b s t W (by have := hp.den; omega)) (fun W => quotientOf_any c u v W (by have := hq.den; omega)) (fun W => compare_qt hp.valN hp.valD hq.valN hq.valD m1 m2 v1.small v2.small W)
theorem RVal.neg (hq : RVal c u v q) : RVal (!c) u v (-q) := ⟨by
  rw [← hq.val]; unfold rval; rw [ival_not, Rat.neg_mkRat], hq.num, hq.den⟩
theorem neg_q (hq : RVal c u v q) (he : -q = z) (m : RNam b' s' t' z) (w : World) :
    Calls Tryz.prog 27 #[.agg #[.bool c, .string u, .string v]] w fun e w' => e = .returned (.agg #[.bool b', .string s', .string t']) ∧ Below w.heap.size w w' := by
  subst he
  refine neg_rat c u v b' s' t' (by have := hq.num; omega) (by have := hq.den; omega) (by rw [hq.neg.val]; exact m) w
theorem cmpQ_zero (n : Int) (d : Nat) (hd : 0 < d) : cmpQ (mkRat n d) 0 = cmpZ n 0 := by
  rw [show (0 : Rat) = mkRat 0 1 from rfl, ← cmpZ_mk n 0 d 1 hd (by omega)]
  simp
theorem sign_q (hq : RVal c u v q) (n : Int) (he : cmpQ q 0 = n) (w : World) :
    Calls Tryz.prog 37 #[.agg #[.bool c, .string u, .string v]] w fun e w' => e = .returned (.int .i64 n) ∧ Below w.heap.size w w' := by
  have h := sign_rat c u v (by have := hq.num; omega) (by have := hq.den; omega) w
  rw [← cmpQ_zero (ival c u) (rden v) (rden_pos v), show mkRat (ival c u) (rden v) = q from hq.val, he] at h
  exact h
end
end Go.Proofs.YtpdhffjdgnpikaaGreatDoor
