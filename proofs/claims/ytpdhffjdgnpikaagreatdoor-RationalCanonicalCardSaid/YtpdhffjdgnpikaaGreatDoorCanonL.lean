/- narrowslaw02.RationalCanonical returns true. -/
import Derived.Test.YtpdhffjdgnpikaaGreatDoorRatSv
import Derived.Test.YtpdhffjdgnpikaaGreatDoorRatValB
import Derived.Test.YtpdhffjdgnpikaaGreatDoorRatOpsB
import Derived.Test.YtpdhffjdgnpikaaGreatDoorCanon
namespace Go.Proofs.YtpdhffjdgnpikaaGreatDoor
open Go.RowKit Go.Shelf

theorem cmpQ_none (p q : Rat) : (cmpQ p q == 0) = decide (p = q) := by
 unfold cmpQ
 by_cases h1 : p < q
 ·rw [if_pos h1, decide_eq_false (by grind)]; rfl
 ·rw [if_neg h1]
  by_cases h2 : q < p
  ·rw [if_pos h2, decide_eq_false (by grind)]; rfl
  ·rw [if_neg h2, decide_eq_true (by grind)]; rfl
theorem eqR_nam {b b' : Bool} {s t s' t' : ByteArray} {p q : Rat} (h : RNam b s t p) (h' : RNam b' s' t' q) : eqR b s t b' s' t' = decide (p = q) := by
 rw [eqR_iff]
 apply decide_eq_decide.2
 constructor
 ·rintro ⟨rfl, rfl, rfl⟩
  rw [← h.value, ← h'.value]
 ·rintro rfl
  exact h.same h'
theorem check_nam {b : Bool} {s t : ByteArray} {p : Rat} (v : RVal b s t p) (m : RNam b s t p) (w : World) :
  Calls Tryz.prog 23 #[.agg #[.bool b, .string s, .string t]] w fun e w' => e = .returned (.int .i64 0) ∧ Below w.heap.size w w' := by
 have h := check_q v m w
 rw [if_pos (by rw [eqR_iff]; simp)] at h
 exact h
theorem canon_any (na nb : Bool) (sa ta sb tb : ByteArray) (w : World) (htab : Tab w) (ha : sa.size ≤ maxLen) (ga : ta.size ≤ maxLen) (hb : sb.size ≤ maxLen) (gb : tb.size ≤ maxLen) :
  Calls Tryz.prog 11 #[.agg #[.bool na, .string sa, .string ta], .agg #[.bool nb, .string sb, .string tb]] w fun e w' => e = .returned (.bool true) ∧ Below w.heap.size w w' := by
 unfold maxLen at ha ga hb gb
 have hsz : ∀ p ∈ ([(na, sa, ta), (nb, sb, tb)] : List (Bool × ByteArray × ByteArray)), p.2.1.size ≤ 9223372036854775807 ∧ p.2.2.size ≤ 9223372036854775807 := by
  intro p hp
  simp only [List.mem_cons, List.not_mem_nil, or_false] at hp
  rcases hp with rfl | rfl
  ·exact ⟨by show sa.size ≤ _; omega, by show ta.size ≤ _; omega⟩
  ·exact ⟨by show sb.size ≤ _; omega, by show tb.size ≤ _; omega⟩
 cases hg : ([(na, sa, ta), (nb, sb, tb)] : List (Bool × ByteArray × ByteArray)).any grt
 ·have ha2 : sa.size ≤ 60 ∧ ta.size ≤ 60 := grt_false hg (na, sa, ta) (by simp)
  have hb2 : sb.size ≤ 60 ∧ tb.size ≤ 60 := grt_false hg (nb, sb, tb) (by simp)
  obtain ⟨k, p, q, hk1, hk2, vp, vq, zp, zq, zi⟩ : ∃ (k : Nat) (p q : Rat), 1 ≤ k ∧ k ≤ 100 ∧ RVal na sa ta p ∧ RVal nb sb tb q ∧ RSz k p ∧ RSz k q ∧ (q ≠ 0 → RSz k q⁻¹) := by
   have vq : RVal nb sb tb (rval nb sb tb) := ⟨rfl, by omega, by omega⟩
   exact ⟨60, _, _, by omega, by omega, ⟨rfl, by omega, by omega⟩, vq, rsz_rval na sa ta 60 ha2.1 ha2.2 (by omega), rsz_rval nb sb tb 60 hb2.1 hb2.2 (by omega),
    fun h0 => by rw [← (vq.inv h0).val]; exact rsz_rval nb (dvs tb) sb 60 (dvs_size tb 60 hb2.2 (by omega)) hb2.1 (by omega)⟩
  have m0 : RNam false ⟨#[]⟩ ⟨#[]⟩ 0 := ⟨by decide +kernel, by decide +kernel, by decide +kernel⟩
  have v0 : RVal false ⟨#[]⟩ ⟨#[]⟩ 0 := ⟨m0.value, by show 0 ≤ 4000; omega, by show 0 ≤ 4000; omega⟩
  obtain ⟨nd, sd, td, md⟩ := rnam_ex (-p)
  obtain ⟨ne, se, te, me⟩ := rnam_ex (p + q)
  obtain ⟨nf, sf, tf, mf⟩ := rnam_ex (p - q)
  obtain ⟨ng, sg, tg, mg⟩ := rnam_ex (p * q)
  obtain ⟨nx, sx, tx, mx⟩ := rnam_ex p
  obtain ⟨ny, sy, ty, my⟩ := rnam_ex q
  have vd := md.toVal (rsz_neg zp) (by omega)
  have ve := me.toVal (rsz_add zp zq) (by omega)
  have vf := mf.toVal (show RSz (k + k + 1) (p - q) by rw [Rat.sub_eq_add_neg]; exact rsz_add zp (rsz_neg zq)) (by omega)
  have vg := mg.toVal (rsz_mul zp zq) (by omega)
  have sx1 := mx.sizes zp
  obtain ⟨nq, sq, tq, qe, z, mq, vz, cq⟩ : ∃ (nq : Bool) (sq tq : ByteArray) (qe : Int) (z : Rat), RNam nq sq tq z ∧ RVal nq sq tq z ∧ ∀ W : World, Calls Tryz.prog 25 #[.agg #[.bool na, .string sa, .string ta], .agg #[.bool nb, .string sb, .string tb]] W fun e w' => e = .returned (.tuple #[.agg #[.bool nq, .string sq, .string tq], .int .i64 qe]) ∧ Below W.heap.size W w' := by
   by_cases hq0 : q = 0
   ·exact ⟨false, ⟨#[]⟩, ⟨#[]⟩, 10, 0, m0, v0, fun W => quo_q0 vq hq0 W⟩
   ·obtain ⟨nq, sq, tq, mq⟩ := rnam_ex (p / q)
    exact ⟨nq, sq, tq, 0, _, mq, mq.toVal (show RSz (k + k) (p / q) by rw [Rat.div_def]; exact rsz_mul zp (zi hq0)) (by omega), fun W => quo_q vp vq hq0 rfl mq W⟩
  have hn : Val nx sx p.num := ⟨by obtain ⟨h1, h2⟩ := mx.nam; rw [← h1, ← h2]; exact ival_mg _, by omega⟩
  have hd : Val false (dvs tx) (p.den : Int) := ⟨by obtain ⟨h3, h4⟩ := mx.namD; rw [← h3, ← h4]; exact ival_mg _, dvs_size tx 262144 (by omega) (by omega)⟩
  have v1 : Val false ⟨#[1]⟩ 1 := ⟨rfl, by show 1 ≤ 262144; omega⟩
  have hdp := p.den_pos
  have hcmp : cmpZ (p.den : Int) 0 = 1 := by unfold cmpZ; rw [if_neg (by omega), if_pos (by omega)]
  refine canon_small na nb sa ta sb tb nd ne nf ng nq nx ny nx _ _ sd td se te sf tf sg tg sq tq sx tx sy ty sx (dvs tx) qe _ _ w htab hsz hg (fun W hW => awake_any W hW)
   (eqR_nam mx my) (cmpQ_none p q) rfl ?_ ?_ cq (fun W => neg_q vp rfl md W) (fun W => add_q vp vq rfl me W) (fun W => sub_q vp vq rfl mf W) (fun W => mul_q vp vq rfl mg W)
   (fun W => of_q (n := 0) (by omega) (by omega) rfl m0 W) (fun W => add_q vp v0 (Rat.add_zero p) mx W) (fun W => add_q vq v0 (Rat.add_zero q) my W) (fun W => parts_q vp mx (by omega) W)
   (fun W => new_q hn hd (by omega) (by show ((p.num : Int) : Rat) / ((p.den : Nat) : Rat) = p; rw [← Rat.mkRat_eq_div, Rat.mkRat_self]) mx W) (fun W => cmp_q vp vq _ rfl W) (fun W => check_q vp mx W)
   (fun W => ?_) (fun W => of_lit 1 false ⟨#[1]⟩ rfl rfl (by omega) (by omega) W) (fun W => cmp_val v1 v1 0 rfl W) (fun W => of_lit 0 false ⟨#[]⟩ rfl rfl (by omega) (by omega) W) (fun W => cmp_val hd (show Val false ⟨#[]⟩ 0 from ⟨rfl, by show 0 ≤ 262144; omega⟩) 1 hcmp W)
  ·by_cases h : eqR na sa ta nx sx tx = true
   ·rw [if_pos h, h]; rfl
   ·have h' : eqR na sa ta nx sx tx = false := by simpa using h
    rw [if_neg h, h']; rfl
  ·intro x hx W
   simp only [List.mem_cons, List.not_mem_nil, or_false] at hx
   rcases hx with rfl | rfl | rfl | rfl | rfl
   ·exact check_nam vd md W
   ·exact check_nam ve me W
   ·exact check_nam vf mf W
   ·exact check_nam vg mg W
   ·exact check_nam vz mq W
  ·have h := gcdInt_any nx false sx (dvs tx) W hn.small hd.small
   rw [hn.val, hd.val, Int.natAbs_natCast, show Nat.gcd p.num.natAbs p.den = 1 from p.reduced] at h
   exact h
 ·exact canon_great na nb sa ta sb tb w htab hsz hg (fun W hW => awake_any W hW)
end Go.Proofs.YtpdhffjdgnpikaaGreatDoor
