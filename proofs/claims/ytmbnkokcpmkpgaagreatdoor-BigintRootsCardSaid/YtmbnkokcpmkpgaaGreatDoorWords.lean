/- Plain mathematics of 64-bit words, the least significant one first: no program is named here. -/
import Derived.Test.YtmbnkokcpmkpgaaGreatDoorMath
namespace Go.Proofs.YtmbnkokcpmkpgaaGreatDoor

/-- The number with these digits to the base 2^64, the least significant one first. -/
def wv : List Nat → Nat
  | [] => 0
  | d :: l => d + 18446744073709551616 * wv l
def Ok (l : List Nat) : Prop := ∀ x ∈ l, x < 18446744073709551616
theorem Ok.nil : Ok [] := fun _ h => by cases h
theorem Ok.cons {d : Nat} {l : List Nat} (h : d < 18446744073709551616) (hl : Ok l) : Ok (d :: l) := fun x hx => by
  rcases List.mem_cons.1 hx with rfl | hx
  · exact h
  · exact hl x hx
theorem Ok.head {d : Nat} {l : List Nat} (h : Ok (d :: l)) : d < 18446744073709551616 := h d List.mem_cons_self
theorem Ok.tail {d : Nat} {l : List Nat} (h : Ok (d :: l)) : Ok l := fun x hx => h x (List.mem_cons_of_mem _ hx)
theorem Ok.append {a b : List Nat} (ha : Ok a) (hb : Ok b) : Ok (a ++ b) := fun x hx => by
  rcases List.mem_append.1 hx with h | h
  · exact ha x h
  · exact hb x h
theorem Ok.take {a : List Nat} (ha : Ok a) (k : Nat) : Ok (a.take k) := fun x hx => ha x (List.mem_of_mem_take hx)
theorem Ok.drop {a : List Nat} (ha : Ok a) (k : Nat) : Ok (a.drop k) := fun x hx => ha x (List.mem_of_mem_drop hx)
theorem Ok.getD {a : List Nat} (ha : Ok a) (k : Nat) : a.getD k 0 < 18446744073709551616 := by
  rw [List.getD_eq_getElem?_getD]
  by_cases h : k < a.length
  · rw [List.getElem?_eq_getElem h]; exact ha _ (List.getElem_mem h)
  · rw [List.getElem?_eq_none (by omega)]; decide
theorem wv_append (a b : List Nat) : wv (a ++ b) = wv a + 18446744073709551616 ^ a.length * wv b := by
  induction a with
  | nil => simp [wv]
  | cons d a ih => rw [List.cons_append, wv, ih, wv, List.length_cons, Nat.pow_succ, Nat.mul_add]; rw [Nat.mul_comm (18446744073709551616 ^ a.length) 18446744073709551616, Nat.mul_assoc]; omega
theorem wv_snoc (a : List Nat) (d : Nat) : wv (a ++ [d]) = wv a + 18446744073709551616 ^ a.length * d := by rw [wv_append]; simp [wv]
theorem wv_lt (a : List Nat) (h : Ok a) : wv a < 18446744073709551616 ^ a.length := by
  induction a with
  | nil => simp [wv]
  | cons d a ih =>
    have h1 := ih h.tail
    have h2 := h.head
    rw [wv, List.length_cons, Nat.pow_succ]
    generalize 18446744073709551616 ^ a.length = P at *
    omega
theorem wv_zeros (n : Nat) : wv (List.replicate n 0) = 0 := by
  induction n with
  | zero => rfl
  | succ n ih => rw [List.replicate_succ, wv, ih]

def nwF : Nat → Nat → List Nat
  | 0, _ => []
  | k + 1, n => if n = 0 then [] else (n % 18446744073709551616) :: nwF k (n / 18446744073709551616)
theorem nwF_enough : ∀ (k k' n : Nat), n ≤ k → n ≤ k' → nwF k n = nwF k' n := by
  intro k
  induction k with
  | zero =>
    intro k' n h _
    have : n = 0 := by omega
    subst this
    cases k' <;> simp [nwF]
  | succ k ih =>
    intro k' n h h'
    cases k' with
    | zero =>
      have : n = 0 := by omega
      subst this; simp [nwF]
    | succ k' =>
      by_cases h0 : n = 0
      · simp [nwF, h0]
      · simp only [nwF, if_neg h0]
        rw [ih k' (n / 18446744073709551616) (by omega) (by omega)]
/-- The words of a number. -/
def nw (n : Nat) : List Nat := nwF n n
theorem nw_zero : nw 0 = [] := rfl
theorem nw_pos (n : Nat) (h : n ≠ 0) : nw n = (n % 18446744073709551616) :: nw (n / 18446744073709551616) := by
  unfold nw
  obtain ⟨k, rfl⟩ : ∃ k, n = k + 1 := ⟨n - 1, by omega⟩
  rw [nwF, if_neg (by omega), nwF_enough k ((k + 1) / 18446744073709551616) _ (by omega) (Nat.le_refl _)]
theorem nw_step (d m : Nat) (hd : d < 18446744073709551616) (h : d + 18446744073709551616 * m ≠ 0) : nw (d + 18446744073709551616 * m) = d :: nw m := by
  rw [nw_pos _ h, show (d + 18446744073709551616 * m) % 18446744073709551616 = d by omega, show (d + 18446744073709551616 * m) / 18446744073709551616 = m by omega]
theorem nw_small (d : Nat) (hd : d < 18446744073709551616) (h : d ≠ 0) : nw d = [d] := by
  have := nw_step d 0 hd (by omega)
  simpa [nw_zero] using this
theorem wv_nw (n : Nat) : wv (nw n) = n := by
  induction n using Nat.strongRecOn with
  | ind n ih =>
    by_cases h0 : n = 0
    · subst h0; rfl
    · rw [nw_pos n h0, wv, ih _ (by omega)]; omega
theorem nw_inj {m n : Nat} (h : nw m = nw n) : m = n := by rw [← wv_nw m, ← wv_nw n, h]
theorem nw_ok (n : Nat) : Ok (nw n) := by
  induction n using Nat.strongRecOn with
  | ind n ih =>
    by_cases h0 : n = 0
    · subst h0; exact Ok.nil
    · rw [nw_pos n h0]; exact (ih _ (by omega)).cons (by omega)
theorem nw_eq_nil (n : Nat) : nw n = [] ↔ n = 0 := by
  constructor
  · intro h
    by_cases h0 : n = 0
    · exact h0
    · rw [nw_pos n h0] at h; simp at h
  · rintro rfl; rfl
/-- Words whose last one is not zero are those of their number. -/
theorem nw_wv (l : List Nat) (h : Ok l) (hl : l = [] ∨ l.getLast? ≠ some 0) : nw (wv l) = l := by
  induction l with
  | nil => rfl
  | cons d l ih =>
    have hl' : l = [] ∨ l.getLast? ≠ some 0 := by
      rcases hl with hl | hl
      · simp at hl
      · cases l with
        | nil => exact .inl rfl
        | cons e l => exact .inr (by simpa using hl)
    have hne : d + 18446744073709551616 * wv l ≠ 0 := by
      intro h0
      have hd : d = 0 := by omega
      have hv : wv l = 0 := by omega
      have h1 := ih h.tail hl'
      rw [hv, nw_zero] at h1
      subst h1; subst hd
      simp at hl
    rw [wv, nw_step d _ h.head hne, ih h.tail hl']

/-- How many words remain without the zeros at the end. -/
def trimW (xs : List Nat) : Nat := (xs.reverse.dropWhile (· == 0)).length
theorem trimW_nil : trimW [] = 0 := rfl
theorem trimW_zero (xs : List Nat) : trimW (xs ++ [0]) = trimW xs := by unfold trimW; simp
theorem trimW_other (xs : List Nat) (d : Nat) (h : d ≠ 0) : trimW (xs ++ [d]) = xs.length + 1 := by unfold trimW; simp [h]
theorem trimW_le (xs : List Nat) : trimW xs ≤ xs.length := by
  unfold trimW
  have := (List.dropWhile_sublist (· == 0) (l := xs.reverse)).length_le
  simpa using this
theorem snoc_indN {p : List Nat → Prop} (h0 : p []) (h1 : ∀ l c, p l → p (l ++ [c])) (l : List Nat) : p l := by
  rw [← List.reverse_reverse l]
  induction l.reverse with
  | nil => exact h0
  | cons a r ih => rw [List.reverse_cons]; exact h1 _ _ ih
theorem take_trimW (xs : List Nat) (h : Ok xs) : xs.take (trimW xs) = nw (wv xs) := by
  revert h
  refine snoc_indN (p := fun xs => Ok xs → xs.take (trimW xs) = nw (wv xs)) (fun _ => rfl) ?_ xs
  intro l d ih h
  have hl : Ok l := fun x hx => h x (List.mem_append_left _ hx)
  by_cases h0 : d = 0
  · subst h0
    rw [trimW_zero, wv_snoc, Nat.mul_zero, Nat.add_zero, ← ih hl, List.take_append_of_le_length (trimW_le l)]
  · rw [trimW_other l d h0, List.take_of_length_le (by simp), nw_wv _ h (.inr (by simp [h0]))]
theorem trimW_length (xs : List Nat) (h : Ok xs) : trimW xs = (nw (wv xs)).length := by
  rw [← take_trimW xs h, List.length_take]; have := trimW_le xs; omega
theorem take_snocW (xs : List Nat) (k : Nat) (h : k < xs.length) : xs.take (k + 1) = xs.take k ++ [xs.getD k 0] := by
  rw [List.take_succ_eq_append_getElem h, List.getD_eq_getElem?_getD, List.getElem?_eq_getElem h]; rfl
theorem trimW_go (xs : List Nat) (k : Nat) (h : k + 1 ≤ xs.length) (h0 : xs.getD k 0 = 0) (ht : trimW (xs.take (k + 1)) = trimW xs) : trimW (xs.take k) = trimW xs := by
  rw [← ht, take_snocW xs k (by omega), h0, trimW_zero]
theorem trimW_stop (xs : List Nat) (k : Nat) (h : k + 1 ≤ xs.length) (h0 : xs.getD k 0 ≠ 0) (ht : trimW (xs.take (k + 1)) = trimW xs) : k + 1 = trimW xs := by
  rw [← ht, take_snocW xs k (by omega), trimW_other _ _ h0, List.length_take]; omega
theorem nw_length_le (k n : Nat) (h : n < 18446744073709551616 ^ k) : (nw n).length ≤ k := by
  induction k generalizing n with
  | zero => simp at h; subst h; simp [nw_zero]
  | succ k ih =>
    by_cases h0 : n = 0
    · subst h0; simp [nw_zero]
    · rw [nw_pos n h0]
      have := ih (n / 18446744073709551616) (by rw [Nat.pow_succ] at h; omega)
      simp; omega

/-- The words of a number with base-256 digits, as bigint.load makes them: from the last eight bytes on. -/
def ldF : Nat → List UInt8 → List Nat
  | 0, _ => []
  | k + 1, l => if l = [] then [] else beVal (l.drop (l.length - 8)) :: ldF k (l.take (l.length - 8))
theorem ldF_enough : ∀ (k k' : Nat) (l : List UInt8), l.length ≤ k → l.length ≤ k' → ldF k l = ldF k' l := by
  intro k
  induction k with
  | zero =>
    intro k' l h _
    have : l = [] := List.eq_nil_of_length_eq_zero (by omega)
    subst this
    cases k' <;> simp [ldF]
  | succ k ih =>
    intro k' l h h'
    cases k' with
    | zero =>
      have : l = [] := List.eq_nil_of_length_eq_zero (by omega)
      subst this; simp [ldF]
    | succ k' =>
      by_cases h0 : l = []
      · simp [ldF, h0]
      · have hl : 0 < l.length := List.length_pos_iff.2 h0
        simp only [ldF, if_neg h0]
        rw [ih k' _ (by rw [List.length_take]; omega) (by rw [List.length_take]; omega)]
def ld (l : List UInt8) : List Nat := ldF l.length l
theorem ld_nil : ld [] = [] := rfl
theorem ld_step (l : List UInt8) (h : l ≠ []) : ld l = beVal (l.drop (l.length - 8)) :: ld (l.take (l.length - 8)) := by
  have hl : 0 < l.length := List.length_pos_iff.2 h
  unfold ld
  obtain ⟨k, hk⟩ : ∃ k, l.length = k + 1 := ⟨l.length - 1, by omega⟩
  have e : ldF l.length l = ldF (k + 1) l := by rw [hk]
  rw [e, ldF, if_neg h, ldF_enough k (l.take (l.length - 8)).length _ (by rw [List.length_take]; omega) (Nat.le_refl _)]
theorem beVal_append (a b : List UInt8) : beVal (a ++ b) = beVal a * 256 ^ b.length + beVal b := by
  refine snoc_ind (p := fun b => beVal (a ++ b) = beVal a * 256 ^ b.length + beVal b) (by simp [beVal]) ?_ b
  intro b c ih
  have ih' : beVal (a ++ b) = beVal a * 256 ^ b.length + beVal b := ih
  show beVal (a ++ (b ++ [c])) = _
  rw [← List.append_assoc, beVal_snoc, ih', beVal_snoc, List.length_append, List.length_singleton, Nat.pow_succ, Nat.add_mul, Nat.mul_assoc]; omega
theorem wv_ld (l : List UInt8) : wv (ld l) = beVal l ∧ Ok (ld l) ∧ (ld l).length = (l.length + 7) / 8 := by
  obtain ⟨k, hk⟩ : ∃ k, l.length ≤ k := ⟨_, Nat.le_refl _⟩
  induction k generalizing l with
  | zero =>
    have : l = [] := List.eq_nil_of_length_eq_zero (by omega)
    subst this; exact ⟨rfl, Ok.nil, rfl⟩
  | succ k ih =>
    by_cases h0 : l = []
    · subst h0; exact ⟨rfl, Ok.nil, rfl⟩
    · have hl : 0 < l.length := List.length_pos_iff.2 h0
      obtain ⟨h1, h2, h3⟩ := ih (l.take (l.length - 8)) (by rw [List.length_take]; omega)
      have hd : (l.drop (l.length - 8)).length ≤ 8 := by rw [List.length_drop]; omega
      have hlt : beVal (l.drop (l.length - 8)) < 18446744073709551616 :=
        Nat.lt_of_lt_of_le (beVal_lt _) (Nat.le_trans (Nat.pow_le_pow_right (by omega) hd) (by decide))
      rw [ld_step l h0]
      refine ⟨?_, h2.cons hlt, ?_⟩
      · rw [wv, h1]
        by_cases h8 : 8 ≤ l.length
        · have e := beVal_append (l.take (l.length - 8)) (l.drop (l.length - 8))
          rw [List.take_append_drop, List.length_drop, show l.length - (l.length - 8) = 8 by omega] at e
          rw [e, Nat.mul_comm]
          have : (256 : Nat) ^ 8 = 18446744073709551616 := by decide
          rw [this]; omega
        · have e : l.length - 8 = 0 := by omega
          rw [e]; simp [beVal_nil]
      · rw [List.length_cons, h3, List.length_take]; omega
end Go.Proofs.YtmbnkokcpmkpgaaGreatDoor
