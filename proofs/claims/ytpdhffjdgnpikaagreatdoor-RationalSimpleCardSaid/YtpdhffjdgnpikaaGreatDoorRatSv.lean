/- Simplest by values (an interval of positive numbers), and law02's awake. -/
import Derived.Test.YtpdhffjdgnpikaaGreatDoorRatBtw
import Derived.Test.YtpdhffjdgnpikaaGreatDoorRatSmp
import Derived.Test.YtpdhffjdgnpikaaGreatDoorRatAwk
namespace Go.Proofs.YtpdhffjdgnpikaaGreatDoor
open Go.RowKit Go.Shelf

theorem mk_pos (n : Int) (d : Nat) (hd : 0 < d) : 0 < mkRat n d ↔ 0 < n := by
  rw [show (0 : Rat) = mkRat 0 1 from rfl, mk_lt 0 n 1 d (by omega) hd]
  omega
theorem mk_le_iff (n1 n2 : Int) (d1 d2 : Nat) (h1 : 0 < d1) (h2 : 0 < d2) : mkRat n1 d1 ≤ mkRat n2 d2 ↔ n1 * (d2 : Int) ≤ n2 * (d1 : Int) := by
  rw [← Rat.not_lt, mk_lt n2 n1 d2 d1 h2 h1]
  omega
section
variable {b c b' : Bool} {s t u v s' t' : ByteArray} {p q : Rat}
theorem simplest_qpos (hp : RVal b s t p) (hq : RVal c u v q) (h0 : 0 < p) (hle : p ≤ q) {P Q : Nat} (hS : Simple (ival b s).toNat (rden t) (ival c u).toNat (rden v) P Q) (m : RNam b' s' t' (mkRat (P : Int) Q)) (w : World) :
    Calls Tryz.prog 39 #[.agg #[.bool b, .string s, .string t], .agg #[.bool c, .string u, .string v]] w fun e w' => e = .returned (.tuple #[.agg #[.bool b', .string s', .string t'], .int .i64 0]) ∧ Below w.heap.size w w' := by
  have hn : ¬ 0 < cmpQ p q := by
    unfold cmpQ
    split
    · omega
    · rw [if_neg (Rat.not_lt.2 hle)]; omega
  have hk : 0 < cmpQ p 0 := by
    unfold cmpQ
    rw [if_neg (Rat.not_lt.2 (Rat.le_of_lt h0)), if_pos h0]; omega
  have p1 : 0 < ival b s := by
    rw [← mk_pos _ _ (rden_pos t)]
    have := hp.val
    unfold rval at this
    rw [this]; exact h0
  have l1 : ival b s * (rden v : Int) ≤ ival c u * (rden t : Int) := by
    rw [← mk_le_iff _ _ _ _ (rden_pos t) (rden_pos v)]
    have e1 := hp.val
    have e2 := hq.val
    unfold rval at e1 e2
    rw [e1, e2]; exact hle
  have p2 : 0 < ival c u := by
    have h1 : 0 < ival b s * (rden v : Int) := Int.mul_pos p1 (by have := rden_pos v; omega)
    have h2 : 0 < ival c u * (rden t : Int) := by omega
    refine Classical.byContradiction fun h3 => ?_
    have := Int.mul_nonneg (show 0 ≤ -ival c u by omega) (show (0 : Int) ≤ (rden t : Int) by omega)
    rw [Int.neg_mul] at this
    omega
  obtain ⟨n1, e1⟩ : ∃ n1 : Nat, ival b s = (n1 : Int) := ⟨(ival b s).toNat, by omega⟩
  obtain ⟨n2, e2⟩ : ∃ n2 : Nat, ival c u = (n2 : Int) := ⟨(ival c u).toNat, by omega⟩
  have va := hp.valN
  have vb := hp.valD
  have vc := hq.valN
  have vd := hq.valD
  have z1 := hp.szN
  have z2 := hp.szD
  have z3 := hq.szN
  have z4 := hq.szD
  rw [e1] at va z1 hS p1
  rw [e2] at vc z3 hS p2
  rw [e1, e2] at l1
  rw [Int.toNat_natCast, Int.toNat_natCast] at hS
  have d1 := rden_pos t
  have d2 := rden_pos v
  obtain ⟨j, hj⟩ : ∃ j, s.size + (dvs t).size + u.size + (dvs v).size = j := ⟨_, rfl⟩
  have hjb : j ≤ 16000 := by have := hp.num; have := hp.dsz; have := hq.num; have := hq.dsz; omega
  have zj : ∀ (k : Nat) (x : Nat), k ≤ j → Sz k (x : Int) → x < 256 ^ j := fun k x hk hz => by
    have h1 : ((x : Nat) : Int).natAbs < 256 ^ k := hz
    rw [Int.natAbs_natCast] at h1
    exact Nat.lt_of_lt_of_le h1 (Nat.pow_le_pow_right (by omega) hk)
  have y1 := zj _ n1 (by omega) z1
  have y2 := zj _ (rden t) (by omega) z2
  have y3 := zj _ n2 (by omega) z3
  have y4 := zj _ (rden v) (by omega) z4
  have hM : n1 + rden t + n2 + rden v < 256 ^ (j + 1) := by rw [Nat.pow_succ]; omega
  have hl : n1 * rden v ≤ n2 * rden t := by
    have : ((n1 * rden v : Nat) : Int) ≤ ((n2 * rden t : Nat) : Int) := by rw [Int.natCast_mul, Int.natCast_mul]; exact l1
    omega
  have hls := hS.least n1 (rden t) d1 (Nat.le_refl _) hl
  obtain ⟨nP, sP, mP⟩ := nam_ex (P : Int)
  obtain ⟨nQ, sQ, mQ⟩ := nam_ex (Q : Int)
  have hQ0 := hS.q0
  refine simplest_pos b c s t u v (dvs t) (dvs v) nP nQ sP sQ b' s' t' _ _ hn hk (fun W => cmp_q hp hq _ rfl W) (fun W => sign_q hp _ rfl W) (fun W => quotientOf_any b s t W (by have := hp.den; omega)) (fun W => quotientOf_any c u v W (by have := hq.den; omega))
    (fun W => between_qt (M := n1 + rden t + n2 + rden v) (m := j + 1) va vb vc vd d1 d2 (by omega) hl hS (by omega) (by omega) (by omega) (by omega) hM (by omega) mP mQ W)
    (fun W => number_qt (nam_of mP (by omega) hM (by omega)) (nam_of mQ (by omega) hM (by omega)) hQ0 m W) w
end
theorem awake_any (w : World) (htab : Tab w) :
    Calls Tryz.prog 14 #[] w fun e w' => e = .returned (.bool true) ∧ Below w.heap.size w w' := by
  have mR : RNam true ⟨#[3]⟩ ⟨#[2]⟩ (mkRat (-6) 4) := ⟨by decide +kernel, by decide +kernel, by decide +kernel⟩
  have mA : RNam false ⟨#[1]⟩ ⟨#[3]⟩ (mkRat 1 3) := ⟨by decide +kernel, by decide +kernel, by decide +kernel⟩
  have mB : RNam false ⟨#[2]⟩ ⟨#[5]⟩ (mkRat 2 5) := ⟨by decide +kernel, by decide +kernel, by decide +kernel⟩
  have mC : RNam false ⟨#[5]⟩ ⟨#[17]⟩ (mkRat 5 17) := ⟨by decide +kernel, by decide +kernel, by decide +kernel⟩
  have mD : RNam false ⟨#[6]⟩ ⟨#[17]⟩ (mkRat 6 17) := ⟨by decide +kernel, by decide +kernel, by decide +kernel⟩
  have vR : RVal true ⟨#[3]⟩ ⟨#[2]⟩ (mkRat (-6) 4) := ⟨mR.value, by show 1 ≤ 4000; omega, by show 1 ≤ 4000; omega⟩
  have vA : RVal false ⟨#[1]⟩ ⟨#[3]⟩ (mkRat 1 3) := ⟨mA.value, by show 1 ≤ 4000; omega, by show 1 ≤ 4000; omega⟩
  have vB : RVal false ⟨#[2]⟩ ⟨#[5]⟩ (mkRat 2 5) := ⟨mB.value, by show 1 ≤ 4000; omega, by show 1 ≤ 4000; omega⟩
  have vC : RVal false ⟨#[5]⟩ ⟨#[17]⟩ (mkRat 5 17) := ⟨mC.value, by show 1 ≤ 4000; omega, by show 1 ≤ 4000; omega⟩
  have vD : RVal false ⟨#[6]⟩ ⟨#[17]⟩ (mkRat 6 17) := ⟨mD.value, by show 1 ≤ 4000; omega, by show 1 ≤ 4000; omega⟩
  have hS1 : Simple 1 3 2 5 1 3 := ⟨by omega, by omega, by omega, by omega, fun x y h1 h2 h3 => by omega⟩
  have hS2 : Simple 5 17 6 17 1 3 := ⟨by omega, by omega, by omega, by omega, fun x y h1 h2 h3 => by
    have h4 : 1 ≤ x := by omega
    omega⟩
  have hF : (mkRat (-6) 4).floor = -2 := by rw [floor_mk _ _ (by omega)]; rfl
  have mF : Nam true ⟨#[2]⟩ (-2) := ⟨by decide +kernel, by decide +kernel⟩
  have hP : rtxt (mkRat 1 3) = ⟨#[49, 47, 51]⟩ := by decide +kernel
  have ratio : ∀ (n d : Int) (bn bd b' : Bool) (sn sd s' t' : ByteArray), ng n = bn → mg n = sn → ng d = bd → mg d = sd → (-1000 ≤ n ∧ n ≤ 1000) → (-1000 ≤ d ∧ d ≤ 1000) → sn.size ≤ 262144 → sd.size ≤ 262144 → beVal sd.data.toList ≠ 0 → RNam b' s' t' (rval (bn != bd) sn sd) →
      ∀ W : World, Calls Tryz.prog 15 #[.int .i64 n, .int .i64 d] W fun e w' => e = .returned (.tuple #[.agg #[.bool b', .string s', .string t'], .int .i64 0]) ∧ Below W.heap.size W w' :=
    fun n d bn bd b' sn sd s' t' e1 e2 e3 e4 h1 h2 z1 z2 h0 m W => ratio_rat n d bn bd sn sd b' s' t' (by omega) (by omega) (by omega) (by omega) e1 e2 e3 e4 z1 z2 h0 m W
  refine awake_walk
    (ratio 6 (-4) false true true ⟨#[6]⟩ ⟨#[4]⟩ ⟨#[3]⟩ ⟨#[2]⟩ (by decide +kernel) (by decide +kernel) (by decide +kernel) (by decide +kernel) (by omega) (by omega) (by show 1 ≤ 262144; omega) (by show 1 ≤ 262144; omega) (by decide +kernel) mR)
    (ratio 1 3 false false false ⟨#[1]⟩ ⟨#[3]⟩ ⟨#[1]⟩ ⟨#[3]⟩ (by decide +kernel) (by decide +kernel) (by decide +kernel) (by decide +kernel) (by omega) (by omega) (by show 1 ≤ 262144; omega) (by show 1 ≤ 262144; omega) (by decide +kernel) mA)
    (ratio 2 5 false false false ⟨#[2]⟩ ⟨#[5]⟩ ⟨#[2]⟩ ⟨#[5]⟩ (by decide +kernel) (by decide +kernel) (by decide +kernel) (by decide +kernel) (by omega) (by omega) (by show 1 ≤ 262144; omega) (by show 1 ≤ 262144; omega) (by decide +kernel) mB)
    (ratio 5 17 false false false ⟨#[5]⟩ ⟨#[17]⟩ ⟨#[5]⟩ ⟨#[17]⟩ (by decide +kernel) (by decide +kernel) (by decide +kernel) (by decide +kernel) (by omega) (by omega) (by show 1 ≤ 262144; omega) (by show 1 ≤ 262144; omega) (by decide +kernel) mC)
    (ratio 6 17 false false false ⟨#[6]⟩ ⟨#[17]⟩ ⟨#[6]⟩ ⟨#[17]⟩ (by decide +kernel) (by decide +kernel) (by decide +kernel) (by decide +kernel) (by omega) (by omega) (by show 1 ≤ 262144; omega) (by show 1 ≤ 262144; omega) (by decide +kernel) mD)
    (fun W => simplest_qpos vA vB ((mk_pos 1 3 (by omega)).2 (by omega)) ((mk_le_iff 1 2 3 5 (by omega) (by omega)).2 (by omega)) (P := 1) (Q := 3) hS1 mA W)
    (fun W => simplest_qpos vC vD ((mk_pos 5 17 (by omega)).2 (by omega)) ((mk_le_iff 5 6 17 17 (by omega) (by omega)).2 (by omega)) (P := 1) (Q := 3) hS2 mA W)
    (fun W => floor_q vR hF mF W)
    (fun W => ?_)
    (fun W hW => ?_) w htab
  · obtain ⟨k, o, h, hc⟩ := small_q (n := -2) (b := true) (s := ⟨#[2]⟩) ⟨rfl, by show 1 ≤ 262144; omega⟩
    rcases h with ⟨rfl, rfl, _⟩ | ⟨_, _, h⟩
    · exact hc W
    · omega
  · have h := print_q vA W hW
    rw [hP] at h
    exact h
end Go.Proofs.YtpdhffjdgnpikaaGreatDoor
