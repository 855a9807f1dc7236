/- The numbers of layer 2: what values they have, and which one is canonical. -/
import Derived.Test.YtpdhffjdgnpikaaGreatDoorLawKit
import Init.Data.Rat
namespace Go.Proofs.YtpdhffjdgnpikaaGreatDoor
open Go.RowKit Go.Shelf

/-- The denominator that digits stand for: nought counts as 1. -/
def rden (t : ByteArray) : Nat := if beVal t.data.toList = 0 then 1 else beVal t.data.toList
theorem rden_pos (t : ByteArray) : 0 < rden t := by
  unfold rden
  split <;> omega
def rval (b : Bool) (s t : ByteArray) : Rat := mkRat (ival b s) (rden t)
/-- The digits of the canonical denominator. -/
def rdn (q : Rat) : ByteArray := if q.den = 1 then ⟨#[]⟩ else ⟨(be q.den).toArray⟩
/-- What a number of layer 2 stands for, of a size that layer 1 is known to compute with. -/
structure RVal (b : Bool) (s t : ByteArray) (q : Rat) : Prop where
  val : rval b s t = q
  num : s.size ≤ 4000
  den : t.size ≤ 4000
/-- The canonical number of a value. -/
structure RNam (b : Bool) (s t : ByteArray) (q : Rat) : Prop where
  sign : ng q.num = b
  num : mg q.num = s
  den : rdn q = t
theorem rnam_ex (q : Rat) : ∃ b s t, RNam b s t q := ⟨_, _, _, rfl, rfl, rfl⟩
theorem rden_rdn (q : Rat) : rden (rdn q) = q.den := by
  unfold rdn
  by_cases h : q.den = 1
  · rw [if_pos h, h]; rfl
  · rw [if_neg h]
    unfold rden
    rw [show (⟨(be q.den).toArray⟩ : ByteArray).data.toList = be q.den from rfl, beVal_be, if_neg q.den_nz]
theorem RNam.value {b : Bool} {s t : ByteArray} {q : Rat} (h : RNam b s t q) : rval b s t = q := by
  obtain ⟨rfl, rfl, rfl⟩ := h
  unfold rval
  rw [rden_rdn, ival_mg, Rat.mkRat_self]
/-- Two canonical numbers with one value are the same. -/
theorem RNam.same {b b' : Bool} {s s' t t' : ByteArray} {q : Rat} (h : RNam b s t q) (h' : RNam b' s' t' q) : b = b' ∧ s = s' ∧ t = t' :=
  ⟨h.sign.symm.trans h'.sign, h.num.symm.trans h'.num, h.den.symm.trans h'.den⟩
/-- A bound of the sizes of the parts of a value. -/
def RSz (k : Nat) (q : Rat) : Prop := q.num.natAbs < 256 ^ k ∧ q.den < 256 ^ k
theorem RSz.mono {k m : Nat} {q : Rat} (h : RSz k q) (hm : k ≤ m) : RSz m q :=
  ⟨Nat.lt_of_lt_of_le h.1 (Nat.pow_le_pow_right (by omega) hm), Nat.lt_of_lt_of_le h.2 (Nat.pow_le_pow_right (by omega) hm)⟩
theorem mk_parts (n : Int) (d : Nat) (hd : 0 < d) : (mkRat n d).num.natAbs = n.natAbs / Nat.gcd n.natAbs d ∧ (mkRat n d).den = d / Nat.gcd n.natAbs d ∧ ((mkRat n d).num < 0 ↔ n < 0) := by
  have hd0 : d ≠ 0 := by omega
  have hg : 0 < Nat.gcd n.natAbs d := Nat.gcd_pos_of_pos_right _ hd
  have e : mkRat n d = Rat.normalize n d hd0 := by unfold mkRat; rw [dif_neg hd0]
  rw [e, Rat.normalize_eq]
  have hdv : ((Nat.gcd n.natAbs d : Nat) : Int) ∣ n := Int.ofNat_dvd_left.2 (Nat.gcd_dvd_left _ _)
  obtain ⟨k, hk⟩ := hdv
  show (n / ((Nat.gcd n.natAbs d : Nat) : Int)).natAbs = _ ∧ d / Nat.gcd n.natAbs d = _ ∧ (n / ((Nat.gcd n.natAbs d : Nat) : Int) < 0 ↔ _)
  generalize Nat.gcd n.natAbs d = g at *
  have h1 : n / (g : Int) = k := by rw [hk]; exact Int.mul_ediv_cancel_left _ (by omega)
  rw [h1]
  refine ⟨?_, rfl, ?_⟩
  · rw [hk, Int.natAbs_mul, Int.natAbs_natCast, Nat.mul_div_cancel_left _ hg]
  · rw [hk]
    constructor
    · intro h; exact Int.mul_neg_of_pos_of_neg (by omega) h
    · intro h
      refine Classical.byContradiction fun h2 => ?_
      have := Int.mul_nonneg (show (0 : Int) ≤ g by omega) (show 0 ≤ k by omega)
      omega
theorem mk_le (n : Int) (d : Nat) (hd : 0 < d) : (mkRat n d).num.natAbs ≤ n.natAbs ∧ (mkRat n d).den ≤ d := by
  have h := mk_parts n d hd
  rw [h.1, h.2.1]
  exact ⟨Nat.div_le_self _ _, Nat.div_le_self _ _⟩
theorem rsz_mk (n : Int) (d k : Nat) (hd : 0 < d) (hn : n.natAbs < 256 ^ k) (hk : d < 256 ^ k) : RSz k (mkRat n d) := by
  have h := mk_le n d hd
  exact ⟨by omega, by omega⟩
theorem rsz_rval (b : Bool) (s t : ByteArray) (k : Nat) (hs : s.size ≤ k) (ht : t.size ≤ k) (h0 : 0 < k) : RSz k (rval b s t) := by
  refine rsz_mk _ _ k (rden_pos t) ?_ ?_
  · rw [ival_abs]
    exact Nat.lt_of_lt_of_le (beVal_lt _) (Nat.pow_le_pow_right (by omega) (by rw [← Lib.size_eq]; exact hs))
  · unfold rden
    split
    · exact Nat.one_lt_pow (by omega) (by omega)
    · exact Nat.lt_of_lt_of_le (beVal_lt _) (Nat.pow_le_pow_right (by omega) (by rw [← Lib.size_eq]; exact ht))
theorem RNam.toVal {b : Bool} {s t : ByteArray} {q : Rat} {k : Nat} (h : RNam b s t q) (hq : RSz k q) (hk : k ≤ 4000) : RVal b s t q := by
  refine ⟨h.value, ?_, ?_⟩
  · rw [← h.num]; exact Nat.le_trans (mg_size _ k hq.1) hk
  · rw [← h.den]
    unfold rdn
    split
    · exact Nat.zero_le _
    · exact Nat.le_trans (show (be q.den).length ≤ k from be_length_le k _ hq.2) hk
theorem pow_two (j k m : Nat) (h : j + k + 1 ≤ m) : 2 * (256 ^ j * 256 ^ k) ≤ 256 ^ m := by
  rw [← Nat.pow_add]
  have : 256 ^ (j + k) * 256 ≤ 256 ^ m := by rw [← Nat.pow_succ]; exact Nat.pow_le_pow_right (by omega) h
  omega
theorem prod_lt {a b j k : Nat} (h1 : a < 256 ^ j) (h2 : b < 256 ^ k) : a * b < 256 ^ j * 256 ^ k := Nat.mul_lt_mul_of_lt_of_lt h1 h2
theorem rsz_mul {j k : Nat} {p q : Rat} (hp : RSz j p) (hq : RSz k q) : RSz (j + k) (p * q) := by
  rw [Rat.mul_def, Rat.normalize_eq_mkRat]
  refine rsz_mk _ _ _ (Nat.mul_pos p.den_pos q.den_pos) ?_ ?_
  · rw [Int.natAbs_mul, Nat.pow_add]; exact prod_lt hp.1 hq.1
  · rw [Nat.pow_add]; exact prod_lt hp.2 hq.2
theorem rsz_add {j k : Nat} {p q : Rat} (hp : RSz j p) (hq : RSz k q) : RSz (j + k + 1) (p + q) := by
  rw [Rat.add_def, Rat.normalize_eq_mkRat]
  have h2 := pow_two j k (j + k + 1) (Nat.le_refl _)
  refine rsz_mk _ _ _ (Nat.mul_pos p.den_pos q.den_pos) ?_ ?_
  · have a1 : (p.num * (q.den : Int)).natAbs < 256 ^ j * 256 ^ k := by rw [Int.natAbs_mul, Int.natAbs_natCast]; exact prod_lt hp.1 hq.2
    have a2 : (q.num * (p.den : Int)).natAbs < 256 ^ j * 256 ^ k := by rw [Int.natAbs_mul, Int.natAbs_natCast, Nat.mul_comm]; exact prod_lt hp.2 hq.1
    omega
  · have a3 : p.den * q.den < 256 ^ j * 256 ^ k := prod_lt hp.2 hq.2
    omega
theorem rsz_neg {k : Nat} {q : Rat} (h : RSz k q) : RSz k (-q) := by
  refine ⟨?_, h.2⟩
  show (-q.num).natAbs < _
  rw [Int.natAbs_neg]; exact h.1
end Go.Proofs.YtpdhffjdgnpikaaGreatDoor
