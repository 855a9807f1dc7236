/- Plain mathematics of base-256 digits: no program is named here. -/
namespace Go.Proofs.YtmbnkokcpmkpgaaGreatDoor

/-- The bytes behind the leading zeros. -/
def strip (l : List UInt8) : List UInt8 := l.dropWhile (· == 0)

theorem strip_nil : strip [] = [] := rfl
theorem strip_zero (l : List UInt8) : strip (0 :: l) = strip l := by simp [strip]
theorem strip_other (c : UInt8) (l : List UInt8) (h : c ≠ 0) : strip (c :: l) = c :: l := by simp [strip, h]

/-- The number with base-256 digits, the most significant one first. -/
def beVal (l : List UInt8) : Nat := l.foldl (fun n c => n * 256 + c.toNat) 0
theorem beVal_nil : beVal [] = 0 := rfl
theorem beVal_snoc (l : List UInt8) (c : UInt8) : beVal (l ++ [c]) = beVal l * 256 + c.toNat := by simp [beVal, List.foldl_append]

def beF : Nat → Nat → List UInt8
  | 0, _ => []
  | k + 1, n => if n = 0 then [] else beF k (n / 256) ++ [UInt8.ofNat (n % 256)]
theorem beF_enough : ∀ (k k' n : Nat), n ≤ k → n ≤ k' → beF k n = beF k' n := by
  intro k
  induction k with
  | zero =>
    intro k' n h _
    have : n = 0 := by omega
    subst this
    cases k' <;> simp [beF]
  | succ k ih =>
    intro k' n h h'
    cases k' with
    | zero =>
      have : n = 0 := by omega
      subst this; simp [beF]
    | succ k' =>
      by_cases h0 : n = 0
      · simp [beF, h0]
      · simp only [beF, if_neg h0]
        rw [ih k' (n / 256) (by omega) (by omega)]
/-- The base-256 digits of a number. -/
def be (n : Nat) : List UInt8 := beF n n
theorem be_zero : be 0 = [] := rfl
theorem be_pos (n : Nat) (h : n ≠ 0) : be n = be (n / 256) ++ [UInt8.ofNat (n % 256)] := by
  unfold be
  obtain ⟨k, rfl⟩ : ∃ k, n = k + 1 := ⟨n - 1, by omega⟩
  rw [beF, if_neg (by omega), beF_enough k ((k + 1) / 256) _ (by omega) (Nat.le_refl _)]
theorem be_step (m c : Nat) (hc : c < 256) (h : m * 256 + c ≠ 0) : be (m * 256 + c) = be m ++ [UInt8.ofNat c] := by
  rw [be_pos _ h, show (m * 256 + c) / 256 = m by omega, show (m * 256 + c) % 256 = c by omega]
theorem be_eq_nil (n : Nat) : be n = [] ↔ n = 0 := by
  constructor
  · intro h
    by_cases h0 : n = 0
    · exact h0
    · rw [be_pos n h0] at h; simp at h
  · rintro rfl; rfl
theorem strip_snoc (l : List UInt8) (c : UInt8) : strip (l ++ [c]) = if strip l = [] then strip [c] else strip l ++ [c] := by
  induction l with
  | nil => simp [strip]
  | cons a l ih =>
    by_cases ha : a = 0
    · subst ha; rw [List.cons_append, strip_zero, strip_zero, ih]
    · rw [List.cons_append, strip_other _ _ ha, strip_other _ _ ha, if_neg (by simp)]; rfl
theorem snoc_ind {p : List UInt8 → Prop} (h0 : p []) (h1 : ∀ l c, p l → p (l ++ [c])) (l : List UInt8) : p l := by
  rw [← List.reverse_reverse l]
  induction l.reverse with
  | nil => exact h0
  | cons a r ih => rw [List.reverse_cons]; exact h1 _ _ ih
theorem strip_be (l : List UInt8) : strip l = be (beVal l) := by
  refine snoc_ind (p := fun l => strip l = be (beVal l)) rfl ?_ l
  intro l c ih
  have hc : c.toNat < 256 := c.toNat_lt
  rw [strip_snoc, beVal_snoc, ih]
  by_cases h0 : beVal l = 0
  · rw [if_pos ((be_eq_nil _).2 h0), h0]
    by_cases h1 : c = 0
    · subst h1; rfl
    · have : c.toNat ≠ 0 := fun h => h1 (UInt8.toNat_inj.1 (by simpa using h))
      rw [strip_other _ _ h1, be_step 0 _ hc (by omega), be_zero]
      simp
  · rw [if_neg (fun h => h0 ((be_eq_nil _).1 h)), be_step _ _ hc (by omega)]
    simp
theorem beVal_be (n : Nat) : beVal (be n) = n := by
  induction n using Nat.strongRecOn with
  | ind n ih =>
    by_cases h0 : n = 0
    · subst h0; rfl
    · rw [be_pos n h0, beVal_snoc, ih _ (by omega)]
      have : (UInt8.ofNat (n % 256)).toNat = n % 256 := by
        simp
      rw [this]; omega
theorem be_inj {m n : Nat} (h : be m = be n) : m = n := by rw [← beVal_be m, ← beVal_be n, h]
theorem beVal_strip (l : List UInt8) : beVal (strip l) = beVal l := by rw [strip_be, beVal_be]
theorem be_length_le (k n : Nat) (h : n < 256 ^ k) : (be n).length ≤ k := by
  induction k generalizing n with
  | zero => simp at h; subst h; simp [be_zero]
  | succ k ih =>
    by_cases h0 : n = 0
    · subst h0; simp [be_zero]
    · rw [be_pos n h0]
      have := ih (n / 256) (by rw [Nat.pow_succ] at h; omega)
      simp; omega
theorem beVal_lt (l : List UInt8) : beVal l < 256 ^ l.length := by
  refine snoc_ind (p := fun l => beVal l < 256 ^ l.length) (by simp [beVal]) ?_ l
  intro l c ih
  have hc : c.toNat < 256 := c.toNat_lt
  rw [beVal_snoc, List.length_append, List.length_singleton, Nat.pow_succ]; omega
theorem be_length_gt (k n : Nat) (h : 256 ^ k ≤ n) : k < (be n).length := by
  have h1 := beVal_lt (be n)
  rw [beVal_be] at h1
  by_cases hk : k < (be n).length
  · exact hk
  · exact absurd (Nat.lt_of_lt_of_le h1 (Nat.pow_le_pow_right (by omega) (by omega : (be n).length ≤ k))) (by omega)

/-- The integer that an api.Int stands for, and its canonical form. -/
def ival (n : Bool) (s : ByteArray) : Int := if n then -(beVal s.data.toList : Int) else beVal s.data.toList
def mg (z : Int) : ByteArray := ⟨(be z.natAbs).toArray⟩
def ng (z : Int) : Bool := decide (z < 0)
theorem mg_list (z : Int) : (mg z).data.toList = be z.natAbs := by simp [mg]
theorem ival_mg (z : Int) : ival (ng z) (mg z) = z := by
  unfold ival ng
  rw [mg_list, beVal_be]
  by_cases h : z < 0 <;> simp [h] <;> omega
theorem ival_abs (n : Bool) (s : ByteArray) : (ival n s).natAbs = beVal s.data.toList := by
  unfold ival; cases n <;> simp
theorem mg_strip (n : Bool) (s : ByteArray) : (⟨(strip s.data.toList).toArray⟩ : ByteArray) = mg (ival n s) := by
  unfold mg; rw [ival_abs, strip_be]
theorem ng_ival (n : Bool) (s : ByteArray) : ng (ival n s) = (n && !(strip s.data.toList).isEmpty) := by
  have h := be_eq_nil (beVal s.data.toList)
  rw [← strip_be] at h
  unfold ng ival
  cases n with
  | false => simp
  | true =>
    by_cases h0 : beVal s.data.toList = 0
    · rw [h.2 h0]; simp [h0]
    · have : (strip s.data.toList).isEmpty = false := by
        cases hs : strip s.data.toList with
        | nil => exact absurd (h.1 hs) h0
        | cons _ _ => rfl
      rw [this]; simp; omega
theorem mg_inj {y z : Int} (h1 : ng y = ng z) (h2 : mg y = mg z) : y = z := by
  rw [← ival_mg y, ← ival_mg z, h1, h2]
theorem ival_not (n : Bool) (s : ByteArray) : ival (!n) s = -ival n s := by
  unfold ival; cases n <;> simp
end Go.Proofs.YtmbnkokcpmkpgaaGreatDoor
