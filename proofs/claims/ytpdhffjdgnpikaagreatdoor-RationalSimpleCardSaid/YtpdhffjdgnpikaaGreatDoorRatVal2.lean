/- More contracts of layer 2's functions by the values of numbers: Floor, Ceil, Of, New, Parts, Small. -/
import Derived.Test.YtpdhffjdgnpikaaGreatDoorRatVal
namespace Go.Proofs.YtpdhffjdgnpikaaGreatDoor
open Go.RowKit Go.Shelf

theorem floor_mk (n : Int) (d : Nat) (hd : 0 < d) : (mkRat n d).floor = n / (d : Int) := by
  have key : ∀ x : Int, x ≤ (mkRat n d).floor ↔ x ≤ n / (d : Int) := fun x => by
    rw [Rat.le_floor_iff, Int.le_ediv_iff_mul_le (by omega), ← Rat.not_lt, ← Rat.mkRat_one x, mk_lt n x d 1 hd (by omega)]
    omega
  exact Int.le_antisymm ((key _).1 (Int.le_refl _)) ((key _).2 (Int.le_refl _))
theorem isDiv_floor (n : Int) (d : Nat) (hd : 0 < d) : IsDiv n (d : Int) (n / (d : Int)) (n % (d : Int)) :=
  ⟨(Int.mul_ediv_add_emod n d).symm, .inl ⟨Int.emod_nonneg _ (by omega), Int.emod_lt_of_pos _ (by omega)⟩⟩
section
variable {b c b' bq : Bool} {s t u v s' t' sq : ByteArray} {p q z : Rat} {f n d : Int}
theorem floor_q (hp : RVal b s t p) (he : p.floor = f) (m : Nam bq sq f) (w : World) :
    Calls Tryz.prog 41 #[.agg #[.bool b, .string s, .string t]] w fun e w' => e = .returned (.agg #[.bool bq, .string sq]) ∧ Below w.heap.size w w' := by
  have h := isDiv_floor (ival b s) (rden t) (rden_pos t)
  have hf : f = ival b s / (rden t : Int) := by rw [← he, ← hp.val]; exact floor_mk _ _ (rden_pos t)
  rw [← hf] at h
  obtain ⟨br, sr, mr⟩ := nam_ex (ival b s % (rden t : Int))
  exact floor_rat b s t (by have := hp.num; omega) (by have := hp.den; omega) _ _ bq br sq sr h m mr w
theorem ceil_q (hp : RVal b s t p) (he : -(-p).floor = f) (m : Nam bq sq f) (w : World) :
    Calls Tryz.prog 43 #[.agg #[.bool b, .string s, .string t]] w fun e w' => e = .returned (.agg #[.bool bq, .string sq]) ∧ Below w.heap.size w w' := by
  have h := isDiv_floor (ival (!b) s) (rden t) (rden_pos t)
  have hf : (-p).floor = ival (!b) s / (rden t : Int) := by rw [← hp.neg.val]; exact floor_mk _ _ (rden_pos t)
  rw [← hf] at h
  obtain ⟨br, sr, mr⟩ := nam_ex (ival (!b) s % (rden t : Int))
  obtain ⟨b1, s1, m1⟩ := nam_ex ((-p).floor)
  subst he
  refine ceil_rat b s t (by have := hp.num; omega) (by have := hp.den; omega) _ _ b1 br bq s1 sr sq h m1 mr m ?_ w
  have hz : Sz s.size (ival (!b) s / (rden t : Int)) := by
    have h1 := Sz.ival (!b) s _ (Nat.le_refl _)
    unfold Sz at *
    have h2 : (ival (!b) s / (rden t : Int)).natAbs ≤ (ival (!b) s).natAbs := Int.natAbs_ediv_le_natAbs _ _
    omega
  rw [← hf] at hz
  have h3 := (m1.val hz (by have := hp.num; omega)).small
  exact h3
theorem of_q (h1 : -9223372036854775808 ≤ n) (h2 : n ≤ 9223372036854775807) (he : (n : Rat) = z) (m : RNam b' s' t' z) (w : World) :
    Calls Tryz.prog 21 #[.int .i64 n] w fun e w' => e = .returned (.agg #[.bool b', .string s', .string t']) ∧ Below w.heap.size w w' :=
  of_rat n b' s' t' h1 h2 (by rw [Rat.mkRat_one, he]; exact m) w
theorem rval_div (h0 : beVal t.data.toList ≠ 0) : rval (b != c) s t = (ival b s : Rat) / (ival c t : Rat) := by
  have hr : (rden t : Int) = ival false t := by
    unfold rden ival
    rw [if_neg h0]; rfl
  have hr2 : ((rden t : Nat) : Rat) = ((ival false t : Int) : Rat) := by rw [← hr]; rfl
  have hn : ∀ x : ByteArray, ((ival true x : Int) : Rat) = -((ival false x : Int) : Rat) := fun x => by rw [show ival true x = -ival false x from ival_not false x, Rat.intCast_neg]
  have hv : rval (b != c) s t = (ival (b != c) s : Rat) / (rden t : Rat) := Rat.mkRat_eq_div _ _
  rw [hv, hr2]
  have hneg : ∀ x y : Rat, -x / y = x / -y := fun x y => by grind
  cases b <;> cases c
  · rfl
  · rw [show (false != true) = true from rfl, hn, hn, hneg]
  · rfl
  · rw [show (true != true) = false from rfl, hn, hn]
    have : ∀ x y : Rat, x / y = -x / -y := fun x y => by grind
    exact this _ _
theorem new_q (hn : Val b s n) (hd : Val c t d) (h0 : d ≠ 0) (he : (n : Rat) / (d : Rat) = z) (m : RNam b' s' t' z) (w : World) :
    Calls Tryz.prog 17 #[.agg #[.bool b, .string s], .agg #[.bool c, .string t]] w fun e w' => e = .returned (.tuple #[.agg #[.bool b', .string s', .string t'], .int .i64 0]) ∧ Below w.heap.size w w' := by
  have hb : beVal t.data.toList ≠ 0 := fun e => h0 (by have := ival_abs c t; rw [hd.val] at this; omega)
  refine new_rat b c s t b' s' t' hn.small hd.small hb ?_ w
  rw [rval_div hb, hn.val, hd.val, he]
  exact m
theorem RNam.nam (m : RNam b' s' t' p) : Nam b' s' p.num := ⟨m.sign, m.num⟩
theorem RNam.namD (m : RNam b' s' t' p) : Nam false (dvs t') (p.den : Int) := by
  obtain ⟨rfl, rfl, rfl⟩ := m
  refine ⟨by unfold ng; simp, ?_⟩
  unfold mg rdn dvs
  by_cases h : p.den = 1
  · rw [if_pos h, h]; rfl
  · rw [if_neg h]
    rw [show (⟨(be p.den).toArray⟩ : ByteArray).data.toList = be p.den from rfl, beVal_be, if_neg p.den_nz, Int.natAbs_natCast]
theorem parts_q (hp : RVal b s t p) (m : RNam b' s' t' p) (ht' : t'.size ≤ 262144) (w : World) :
    Calls Tryz.prog 19 #[.agg #[.bool b, .string s, .string t]] w fun e w' => e = .returned (.tuple #[.agg #[.bool b', .string s'], .agg #[.bool false, .string (dvs t')]]) ∧ Below w.heap.size w w' :=
  parts_rat b s t b' s' t' (by have := hp.num; omega) (by have := hp.den; omega) ht' (by rw [hp.val]; exact m) w
/-- Small: the machine integer with the value, or 0 and false. -/
theorem small_q (hn : Val b s n) : ∃ (k : Int) (o : Bool), ((o = true ∧ k = n ∧ -9223372036854775808 ≤ n ∧ n ≤ 9223372036854775807) ∨ (o = false ∧ k = 0 ∧ (n < -9223372036854775808 ∨ 9223372036854775807 < n))) ∧
    ∀ W : World, Calls Tryz.prog 50 #[.agg #[.bool b, .string s]] W fun e w' => e = .returned (.tuple #[.int .i64 k, .bool o]) ∧ Below W.heap.size W w' := by
  have hv := hn.val
  by_cases h : -9223372036854775808 ≤ n ∧ n ≤ 9223372036854775807
  · refine ⟨n, true, .inl ⟨rfl, rfl, h⟩, fun W => (small_any b s W).mono ?_⟩
    rintro e w' ⟨⟨_, _, rfl⟩ | ⟨h2, _⟩, hb⟩
    · rw [hv]; exact ⟨rfl, hb⟩
    · omega
  · refine ⟨0, false, .inr ⟨rfl, rfl, by omega⟩, fun W => (small_any b s W).mono ?_⟩
    rintro e w' ⟨⟨h2, h3, _⟩ | ⟨_, rfl⟩, hb⟩
    · omega
    · exact ⟨rfl, hb⟩
/-- Sizes of canonical numbers. -/
theorem RNam.sizes {k : Nat} (m : RNam b' s' t' p) (hz : RSz k p) : s'.size ≤ k ∧ t'.size ≤ k := by
  refine ⟨?_, ?_⟩
  · rw [← m.num]; exact mg_size _ k hz.1
  · rw [← m.den]
    unfold rdn
    split
    · exact Nat.zero_le _
    · exact be_length_le k _ hz.2
end
end Go.Proofs.YtpdhffjdgnpikaaGreatDoor
