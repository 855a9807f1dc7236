/- narrowslaw02.RationalOrder returns true. -/
import Derived.Test.YtpdhffjdgnpikaaGreatDoorRatSv
import Derived.Test.YtpdhffjdgnpikaaGreatDoorROrder
import Derived.Test.YtpdhffjdgnpikaaGreatDoorRatValB
namespace Go.Proofs.YtpdhffjdgnpikaaGreatDoor
open Go.RowKit Go.Shelf

theorem cmpQ_lt {p q : Rat} (h : p < q) : cmpQ p q = -1 := by unfold cmpQ; rw [if_pos h]
theorem cmpQ_gt {p q : Rat} (h : q < p) : cmpQ p q = 1 := by unfold cmpQ; rw [if_neg (by grind), if_pos h]
theorem cmpQ_eq {p q : Rat} (h : p = q) : cmpQ p q = 0 := by unfold cmpQ; rw [if_neg (by grind), if_neg (by grind)]
theorem cmpQ_cases (p q : Rat) : (p < q ∧ cmpQ p q = -1) ∨ (p = q ∧ cmpQ p q = 0) ∨ (q < p ∧ cmpQ p q = 1) := by
  by_cases h1 : p < q
  · exact .inl ⟨h1, cmpQ_lt h1⟩
  · by_cases h2 : q < p
    · exact .inr (.inr ⟨h2, cmpQ_gt h2⟩)
    · have : p = q := by grind
      exact .inr (.inl ⟨this, cmpQ_eq this⟩)
theorem cmpQ_swap (p q : Rat) : cmpQ q p = -cmpQ p q := by
  rcases cmpQ_cases p q with ⟨h, e⟩ | ⟨h, e⟩ | ⟨h, e⟩ <;> rw [e]
  · exact cmpQ_gt h
  · exact cmpQ_eq h.symm
  · exact cmpQ_lt h
theorem cmpQ_sub (p q : Rat) : cmpQ (p - q) 0 = cmpQ p q := by
  rcases cmpQ_cases p q with ⟨h, e⟩ | ⟨h, e⟩ | ⟨h, e⟩ <;> rw [e]
  · exact cmpQ_lt (by grind)
  · exact cmpQ_eq (by grind)
  · exact cmpQ_gt (by grind)
theorem cmpQ_add (p q r : Rat) : cmpQ (p + r) (q + r) = cmpQ p q := by
  rcases cmpQ_cases p q with ⟨h, e⟩ | ⟨h, e⟩ | ⟨h, e⟩ <;> rw [e]
  · exact cmpQ_lt (by grind)
  · exact cmpQ_eq (by grind)
  · exact cmpQ_gt (by grind)
theorem cmpQ_trans {p q r : Rat} (h : cmpQ p q = cmpQ q r) : cmpQ p r = cmpQ p q := by
  rcases cmpQ_cases p q with ⟨h1, e⟩ | ⟨h1, e⟩ | ⟨h1, e⟩ <;> rcases cmpQ_cases q r with ⟨h2, e2⟩ | ⟨h2, e2⟩ | ⟨h2, e2⟩ <;> rw [e] <;> rw [e, e2] at h <;> first | omega | skip
  · exact cmpQ_lt (by grind)
  · exact cmpQ_eq (by grind)
  · exact cmpQ_gt (by grind)
theorem cmpQ_mul (p q r : Rat) : cmpQ (p * r) (q * r) = cmpQ p q * cmpQ r 0 := by
  rcases cmpQ_cases r 0 with ⟨hr, er⟩ | ⟨hr, er⟩ | ⟨hr, er⟩ <;> rw [er]
  · have hn : 0 < -r := by grind
    have neg : ∀ x y : Rat, x < y → y * r < x * r := fun x y h => by
      have := Rat.mul_lt_mul_of_pos_right h hn
      grind
    rcases cmpQ_cases p q with ⟨h, e⟩ | ⟨h, e⟩ | ⟨h, e⟩ <;> rw [e]
    · exact cmpQ_gt (neg _ _ h)
    · exact cmpQ_eq (by rw [h])
    · exact cmpQ_lt (neg _ _ h)
  · subst hr
    rw [Int.mul_zero]
    exact cmpQ_eq (by grind)
  · rcases cmpQ_cases p q with ⟨h, e⟩ | ⟨h, e⟩ | ⟨h, e⟩ <;> rw [e]
    · exact cmpQ_lt (Rat.mul_lt_mul_of_pos_right h hr)
    · exact cmpQ_eq (by rw [h])
    · exact cmpQ_gt (Rat.mul_lt_mul_of_pos_right h hr)
theorem cmpQ_mul0 (p r : Rat) : cmpQ (p * r) 0 = cmpQ p 0 * cmpQ r 0 := by
  rw [← cmpQ_mul p 0 r, Rat.zero_mul]
theorem cmpQ_range (p q : Rat) : -1 ≤ cmpQ p q ∧ cmpQ p q ≤ 1 := by
  rcases cmpQ_cases p q with ⟨_, e⟩ | ⟨_, e⟩ | ⟨_, e⟩ <;> omega
theorem small_wrap {x y : Int} (hx : -1 ≤ x ∧ x ≤ 1) (hy : -1 ≤ y ∧ y ≤ 1) : IntKind.i64.wrap (x * y) = x * y := by
  have h : -1 ≤ x * y ∧ x * y ≤ 1 := by
    have hx' : x = -1 ∨ x = 0 ∨ x = 1 := by omega
    rcases hx' with rfl | rfl | rfl <;> omega
  exact i64_in _ (by omega) (by omega)
/-- Three numbers of a size that the laws examine. -/
theorem three_small {na nb nc : Bool} {sa ta sb tb sc tc : ByteArray} (hg : ([(na, sa, ta), (nb, sb, tb), (nc, sc, tc)] : List (Bool × ByteArray × ByteArray)).any grt = false) :
    ∃ (k : Nat) (p q r : Rat), 1 ≤ k ∧ k ≤ 100 ∧ RVal na sa ta p ∧ RVal nb sb tb q ∧ RVal nc sc tc r ∧ RSz k p ∧ RSz k q ∧ RSz k r := by
  have ha : sa.size ≤ 60 ∧ ta.size ≤ 60 := grt_false hg (na, sa, ta) (by simp)
  have hb : sb.size ≤ 60 ∧ tb.size ≤ 60 := grt_false hg (nb, sb, tb) (by simp)
  have hc : sc.size ≤ 60 ∧ tc.size ≤ 60 := grt_false hg (nc, sc, tc) (by simp)
  exact ⟨60, _, _, _, by omega, by omega, ⟨rfl, by omega, by omega⟩, ⟨rfl, by omega, by omega⟩, ⟨rfl, by omega, by omega⟩, rsz_rval na sa ta 60 ha.1 ha.2 (by omega), rsz_rval nb sb tb 60 hb.1 hb.2 (by omega), rsz_rval nc sc tc 60 hc.1 hc.2 (by omega)⟩
theorem order_any (na nb nc : Bool) (sa ta sb tb sc tc : ByteArray) (w : World) (htab : Tab w) (ha : sa.size ≤ maxLen) (ga : ta.size ≤ maxLen) (hb : sb.size ≤ maxLen) (gb : tb.size ≤ maxLen) (hc : sc.size ≤ maxLen) (gc : tc.size ≤ maxLen) :
    Calls Tryz.prog 8 #[.agg #[.bool na, .string sa, .string ta], .agg #[.bool nb, .string sb, .string tb], .agg #[.bool nc, .string sc, .string tc]] w fun e w' => e = .returned (.bool true) ∧ Below w.heap.size w w' := by
  unfold maxLen at ha ga hb gb hc gc
  have hsz : ∀ p ∈ ([(na, sa, ta), (nb, sb, tb), (nc, sc, tc)] : List (Bool × ByteArray × ByteArray)), p.2.1.size ≤ 9223372036854775807 ∧ p.2.2.size ≤ 9223372036854775807 := by
    intro p hp
    simp only [List.mem_cons, List.not_mem_nil, or_false] at hp
    rcases hp with rfl | rfl | rfl
    · exact ⟨by show sa.size ≤ _; omega, by show ta.size ≤ _; omega⟩
    · exact ⟨by show sb.size ≤ _; omega, by show tb.size ≤ _; omega⟩
    · exact ⟨by show sc.size ≤ _; omega, by show tc.size ≤ _; omega⟩
  cases hg : ([(na, sa, ta), (nb, sb, tb), (nc, sc, tc)] : List (Bool × ByteArray × ByteArray)).any grt
  · obtain ⟨k, p, q, r, hk1, hk2, vp, vq, vr, zp, zq, zr⟩ := three_small hg
    obtain ⟨nd, sd, td, md⟩ := rnam_ex (p - q)
    obtain ⟨ne, se, te, me⟩ := rnam_ex (p + r)
    obtain ⟨nf, sf, tf, mf⟩ := rnam_ex (q + r)
    obtain ⟨ng, sg, tg, mg⟩ := rnam_ex (p * r)
    obtain ⟨nh, sh, th, mh⟩ := rnam_ex (q * r)
    have vd := md.toVal (show RSz (k + k + 1) (p - q) by rw [Rat.sub_eq_add_neg]; exact rsz_add zp (rsz_neg zq)) (by omega)
    have ve := me.toVal (rsz_add zp zr) (by omega)
    have vf := mf.toVal (rsz_add zq zr) (by omega)
    have vg := mg.toVal (rsz_mul zp zr) (by omega)
    have vh := mh.toVal (rsz_mul zq zr) (by omega)
    have r1 := cmpQ_range p q
    have r2 := cmpQ_range r 0
    have r3 := cmpQ_range p 0
    have w3 : IntKind.i64.wrap (-cmpQ q p) = cmpQ p q := by rw [cmpQ_swap p q, Int.neg_neg]; exact i64_in _ (by omega) (by omega)
    by_cases hxy : cmpQ p q = cmpQ q r
    · exact order_same na nb nc sa ta sb tb sc tc nd ne nf ng nh sd td se te sf tf sg tg sh th (cmpQ p q) (cmpQ q p) (cmpQ r 0) _ _ (cmpQ p 0) w htab hsz hg (fun W hW => awake_any W hW) (by omega) (by omega) w3 (small_wrap r1 r2) (small_wrap r3 r2)
        (fun W => cmp_q vp vq _ rfl W) (fun W => cmp_q vq vr _ hxy.symm W) (fun W => cmp_q vp vr _ (cmpQ_trans hxy) W) (fun W => cmp_q vq vp _ rfl W) (fun W => sub_q vp vq rfl md W) (fun W => sign_q vd _ (cmpQ_sub p q) W) (fun W => sign_q vr _ rfl W)
        (fun W => add_q vp vr rfl me W) (fun W => add_q vq vr rfl mf W) (fun W => cmp_q ve vf _ (cmpQ_add p q r) W) (fun W => mul_q vp vr rfl mg W) (fun W => mul_q vq vr rfl mh W) (fun W => cmp_q vg vh _ (cmpQ_mul p q r) W) (fun W => sign_q vg _ (cmpQ_mul0 p r) W) (fun W => sign_q vp _ rfl W)
    · exact order_other na nb nc sa ta sb tb sc tc nd ne nf ng nh sd td se te sf tf sg tg sh th (cmpQ p q) (cmpQ q r) (cmpQ p r) (cmpQ q p) (cmpQ r 0) _ _ (cmpQ p 0) w htab hsz hg (fun W hW => awake_any W hW) (by omega) (by omega) w3 (small_wrap r1 r2) (small_wrap r3 r2) hxy
        (fun W => cmp_q vp vq _ rfl W) (fun W => cmp_q vq vr _ rfl W) (fun W => cmp_q vp vr _ rfl W) (fun W => cmp_q vq vp _ rfl W) (fun W => sub_q vp vq rfl md W) (fun W => sign_q vd _ (cmpQ_sub p q) W) (fun W => sign_q vr _ rfl W)
        (fun W => add_q vp vr rfl me W) (fun W => add_q vq vr rfl mf W) (fun W => cmp_q ve vf _ (cmpQ_add p q r) W) (fun W => mul_q vp vr rfl mg W) (fun W => mul_q vq vr rfl mh W) (fun W => cmp_q vg vh _ (cmpQ_mul p q r) W) (fun W => sign_q vg _ (cmpQ_mul0 p r) W) (fun W => sign_q vp _ rfl W)
  · exact order_great na nb nc sa ta sb tb sc tc w htab hsz hg (fun W hW => awake_any W hW)
end Go.Proofs.YtpdhffjdgnpikaaGreatDoor
