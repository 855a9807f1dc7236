/- narrowslaw02.RationalField returns true. -/
import Derived.Test.YtpdhffjdgnpikaaGreatDoorROrderL
import Derived.Test.YtpdhffjdgnpikaaGreatDoorField
namespace Go.Proofs.YtpdhffjdgnpikaaGreatDoor
open Go.RowKit Go.Shelf

theorem field_any (na nb nc : Bool) (sa ta sb tb sc tc : ByteArray) (w : World) (htab : Tab w) (ha : sa.size ≤ maxLen) (ga : ta.size ≤ maxLen) (hb : sb.size ≤ maxLen) (gb : tb.size ≤ maxLen) (hc : sc.size ≤ maxLen) (gc : tc.size ≤ maxLen) :
  Calls Tryz.prog 7 #[.agg #[.bool na, .string sa, .string ta], .agg #[.bool nb, .string sb, .string tb], .agg #[.bool nc, .string sc, .string tc]] w fun e w' => e = .returned (.bool true) ∧ Below w.heap.size w w' := by
 unfold maxLen at ha ga hb gb hc gc
 have hsz : ∀ p ∈ ([(na, sa, ta), (nb, sb, tb), (nc, sc, tc)] : List (Bool × ByteArray × ByteArray)), p.2.1.size ≤ 9223372036854775807 ∧ p.2.2.size ≤ 9223372036854775807 := by
  intro p hp
  simp only [List.mem_cons, List.not_mem_nil, or_false] at hp
  rcases hp with rfl | rfl | rfl
  ·exact ⟨by show sa.size ≤ _; omega, by show ta.size ≤ _; omega⟩
  ·exact ⟨by show sb.size ≤ _; omega, by show tb.size ≤ _; omega⟩
  ·exact ⟨by show sc.size ≤ _; omega, by show tc.size ≤ _; omega⟩
 cases hg : ([(na, sa, ta), (nb, sb, tb), (nc, sc, tc)] : List (Bool × ByteArray × ByteArray)).any grt
 ·obtain ⟨k, p, q, r, hk1, hk2, vp, vq, vr, zp, zq, zr⟩ := three_small hg
  have hb2 : sb.size ≤ 60 ∧ tb.size ≤ 60 := grt_false hg (nb, sb, tb) (by simp)
  obtain ⟨nd, sd, td, md⟩ := rnam_ex (p + q)
  obtain ⟨ne, se, te, me⟩ := rnam_ex (p * q)
  obtain ⟨nf, sf, tf, mf⟩ := rnam_ex (p + q + r)
  obtain ⟨ng, sg, tg, mg⟩ := rnam_ex (q + r)
  obtain ⟨nh, sh, th, mh⟩ := rnam_ex (p * q * r)
  obtain ⟨ni, si, ti, mi⟩ := rnam_ex (q * r)
  obtain ⟨nj, sj, tj, mj⟩ := rnam_ex (p * (q + r))
  obtain ⟨nk, sk, tk, mk⟩ := rnam_ex (p * r)
  obtain ⟨nm, sm, tm, mm⟩ := rnam_ex p
  obtain ⟨ny, sy, ty, my⟩ := rnam_ex (-p)
  have m0 : RNam false ⟨#[]⟩ ⟨#[]⟩ 0 := ⟨by decide +kernel, by decide +kernel, by decide +kernel⟩
  have v0 : RVal false ⟨#[]⟩ ⟨#[]⟩ 0 := ⟨m0.value, by show 0 ≤ 4000; omega, by show 0 ≤ 4000; omega⟩
  have m1 : RNam false ⟨#[1]⟩ ⟨#[]⟩ 1 := ⟨by decide +kernel, by decide +kernel, by decide +kernel⟩
  have v1 : RVal false ⟨#[1]⟩ ⟨#[]⟩ 1 := ⟨m1.value, by show 1 ≤ 4000; omega, by show 0 ≤ 4000; omega⟩
  have vd := md.toVal (rsz_add zp zq) (by omega)
  have ve := me.toVal (rsz_mul zp zq) (by omega)
  have vg := mg.toVal (rsz_add zq zr) (by omega)
  have vi := mi.toVal (rsz_mul zq zr) (by omega)
  have vk := mk.toVal (rsz_mul zp zr) (by omega)
  have vy := my.toVal (rsz_neg zp) (by omega)
  have e1 : p + q - q = p := by grind
  have e2 : p + -p = 0 := by grind
  by_cases hq0 : q = 0
  ·have hk0 : cmpQ q 0 = 0 := cmpQ_eq0.2 hq0
   exact field_none na nb nc sa ta sb tb sc tc nd ne nf ng nh ni nj nk nm ny sd td se te sf tf sg tg sh th si ti sj tj sk tk sm tm sy ty w htab hsz hg (fun W hW => awake_any W hW)
    (fun W => add_q vp vq rfl md W) (fun W => add_q vq vp (Rat.add_comm q p) md W) (fun W => mul_q vp vq rfl me W) (fun W => mul_q vq vp (Rat.mul_comm q p) me W) (fun W => add_q vd vr rfl mf W) (fun W => add_q vq vr rfl mg W) (fun W => add_q vp vg (Rat.add_assoc p q r).symm mf W)
    (fun W => mul_q ve vr rfl mh W) (fun W => mul_q vq vr rfl mi W) (fun W => mul_q vp vi (Rat.mul_assoc p q r).symm mh W) (fun W => mul_q vp vg rfl mj W) (fun W => mul_q vp vr rfl mk W) (fun W => add_q ve vk (Rat.mul_add p q r).symm mj W)
    (fun W => of_q (n := 0) (by omega) (by omega) rfl m0 W) (fun W => add_q vp v0 (Rat.add_zero p) mm W) (fun W => sub_q vd vq e1 mm W) (fun W => neg_q vp rfl my W) (fun W => add_q vp vy e2 m0 W) (fun W => of_q (n := 1) (by omega) (by omega) rfl m1 W) (fun W => mul_q vp v1 (Rat.mul_one p) mm W)
    (fun W => quo_q0 vq hq0 W) (fun W => sign_q vq 0 hk0 W)
  ·obtain ⟨nq, sq, tq, mq⟩ := rnam_ex (p / q)
   have hi := vq.inv hq0
   obtain ⟨j, hj1, hj2, zi⟩ : ∃ j, 1 ≤ j ∧ j ≤ 100 ∧ RSz j q⁻¹ := ⟨60, by omega, by omega, by rw [← hi.val]; exact rsz_rval nb (dvs tb) sb 60 (dvs_size tb 60 hb2.2 (by omega)) hb2.1 (by omega)⟩
   have vq' := mq.toVal (show RSz (k + j) (p / q) by rw [Rat.div_def]; exact rsz_mul zp zi) (by omega)
   exact field_quo na nb nc sa ta sb tb sc tc nd ne nf ng nh ni nj nk nm ny nq sd td se te sf tf sg tg sh th si ti sj tj sk tk sm tm sy ty sq tq (cmpQ q 0) (fun e => hq0 (cmpQ_eq0.1 e)) w htab hsz hg (fun W hW => awake_any W hW)
    (fun W => add_q vp vq rfl md W) (fun W => add_q vq vp (Rat.add_comm q p) md W) (fun W => mul_q vp vq rfl me W) (fun W => mul_q vq vp (Rat.mul_comm q p) me W) (fun W => add_q vd vr rfl mf W) (fun W => add_q vq vr rfl mg W) (fun W => add_q vp vg (Rat.add_assoc p q r).symm mf W)
    (fun W => mul_q ve vr rfl mh W) (fun W => mul_q vq vr rfl mi W) (fun W => mul_q vp vi (Rat.mul_assoc p q r).symm mh W) (fun W => mul_q vp vg rfl mj W) (fun W => mul_q vp vr rfl mk W) (fun W => add_q ve vk (Rat.mul_add p q r).symm mj W)
    (fun W => of_q (n := 0) (by omega) (by omega) rfl m0 W) (fun W => add_q vp v0 (Rat.add_zero p) mm W) (fun W => sub_q vd vq e1 mm W) (fun W => neg_q vp rfl my W) (fun W => add_q vp vy e2 m0 W) (fun W => of_q (n := 1) (by omega) (by omega) rfl m1 W) (fun W => mul_q vp v1 (Rat.mul_one p) mm W)
    (fun W => quo_q vp vq hq0 rfl mq W) (fun W => sign_q vq _ rfl W) (fun W => mul_q vq' vq (Rat.div_mul_cancel hq0) mm W)
 ·exact field_great na nb nc sa ta sb tb sc tc w htab hsz hg (fun W hW => awake_any W hW)
end Go.Proofs.YtpdhffjdgnpikaaGreatDoor
