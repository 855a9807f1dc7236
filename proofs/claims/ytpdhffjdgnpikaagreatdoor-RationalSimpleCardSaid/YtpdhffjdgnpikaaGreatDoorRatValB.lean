/- The contracts of rational.Sub and Quo; those of Mul, Sub, Quo by the values of numbers. -/
import Derived.Test.YtpdhffjdgnpikaaGreatDoorRatMulF
import Derived.Test.YtpdhffjdgnpikaaGreatDoorRatVal
namespace Go.Proofs.YtpdhffjdgnpikaaGreatDoor
open Go.RowKit Go.Shelf

section
variable {b c b' : Bool} {s t u v s' t' : ByteArray} {p q z : Rat}
theorem mul_q (hp : RVal b s t p) (hq : RVal c u v q) (he : p * q = z) (m : RNam b' s' t' z) (w : World) :
    Calls Tryz.prog 33 #[.agg #[.bool b, .string s, .string t], .agg #[.bool c, .string u, .string v]] w fun e w' => e = .returned (.agg #[.bool b', .string s', .string t']) ∧ Below w.heap.size w w' := by
  obtain ⟨n1, d1, a1, a2, a3, a4, hv1, C1⟩ := fractionOf_ex b s t
  obtain ⟨n2, d2, b1, b2, b3, b4, hv2, C2⟩ := fractionOf_ex c u v
  obtain ⟨o1, h1, F1⟩ := fits_ex n1 n2 a1 a2 b1 b2
  obtain ⟨o2, h2, F2⟩ := fits_ex d1 d2 (by omega) a4 (by omega) b4
  have hz : z = mkRat (ival b s * ival c u) (rden t * rden v) := by rw [← he, ← hp.val, ← hq.val]; exact Rat.mkRat_mul_mkRat _ _ _ _
  subst hz
  refine mul_walk b c s t u v n1 d1 n2 d2 o1 o2 b' s' t' C1 C2 F1 F2 (fun e1 e2 X Y W hX hY => ?_) (fun A B W hA hB => ?_) w
  · have k1 := h1 e1
    have k2 := h2 e2
    obtain ⟨rfl, rfl⟩ : n1 = ival b s ∧ d1 = (rden t : Int) := hv1.resolve_right (by omega)
    obtain ⟨rfl, rfl⟩ : n2 = ival c u ∧ d2 = (rden v : Int) := hv2.resolve_right (by omega)
    have e : (rden t : Int) * (rden v : Int) = ((rden t * rden v : Nat) : Int) := (Int.natCast_mul _ _).symm
    have hd : rden t * rden v < 4611686018427387904 := k2.1
    have hn : (ival b s * ival c u).natAbs < 4611686018427387904 := by rw [Int.natAbs_mul]; exact k1.1
    refine mul1_any X Y _ _ _ _ (ival b s * ival c u) ((rden t * rden v : Nat) : Int) b' s' t' W hX hY (i64_in _ (by omega) (by omega)) (by rw [e]; exact i64_in _ (by omega) (by omega)) (fun W => ?_)
    exact fnumber_any _ _ (by omega) (by omega) (Nat.mul_pos (rden_pos t) (rden_pos v)) (by omega) m W
  · obtain ⟨x3, y3, m3⟩ := nam_ex (ival b s * ival c u)
    obtain ⟨x4, y4, m4⟩ := nam_ex ((rden t : Int) * (rden v : Int))
    have v3 := m3.val (hp.szN.mul hq.szN) (by have := hp.num; have := hq.num; omega)
    have v4 := m4.val (hp.szD.mul hq.szD) (by have := hp.dsz; have := hq.dsz; omega)
    rw [← Int.natCast_mul] at v4
    exact mul2_any A B b c s t u v (dvs t) (dvs v) x3 x4 y3 y4 b' s' t' W hA hB (fun W => quotientOf_any b s t W (by have := hp.den; omega)) (fun W => quotientOf_any c u v W (by have := hq.den; omega)) (fun W => times_qt hp.valN hp.valD hq.valN hq.valD m3 m4 W) (fun W => number_qt v3 v4 (Nat.mul_pos (rden_pos t) (rden_pos v)) m W)
end
end Go.Proofs.YtpdhffjdgnpikaaGreatDoor
