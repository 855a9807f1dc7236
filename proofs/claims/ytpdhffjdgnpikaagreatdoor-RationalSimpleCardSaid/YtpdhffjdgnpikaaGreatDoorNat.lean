/- Plain mathematics of base-256 digits: no program is named here. Plain mathematics of 64-bit words, the least significant one first: no program is named here. The arithmetic of a division of two words by one: half a quotient at a time. The contracts of strings.TrimLeft at the cutset of the zero byte, and of bigint.significant: the bytes behind the leading zeros. Equality of two api.Int values, as the walk meets it. The contracts of the small functions of bigint: canonical, opposite, Neg, Check, the comparison of magnitudes. Rows of 64-bit words in memory, and the contract of bigint.trim. The contracts of bigint.word and bigint.wholeWord: up to eight bytes as a machine number. The contracts of slices.Grow at the two element types of bigint: there is room, or a new row is made. The contract of bigint.load: the words of the number with base-256 digits, in the memory that is passed or in a new row. The machine's operations on 64-bit words (math/bits), as the walks meet them, and the arithmetic of one word's step. What a function that writes into a row of words leaves as it was. Slices of words that are made: zeros. The contract of bigint.product. -/
import Derived.Test.YtpdhffjdgnpikaaGreatDoorRows
import Derived.WalkKit
import Derived.WalkSpells
import Derived.WalkLawsBesides
import Derived.Lib.Hide
import Derived.Lib.Strings
import Derived.Laws.StructEq
import Derived.Deep.QuietTactic
import Derived.BigQuiet
import Derived.Deep.RegionHeld3
import Derived.Laws.BitsAllLaws
import Derived.Lib.Walk
import Derived.Lib.SliceRun
import Derived.Lib.AppendZerosOnto
import Derived.Lib.JoinLaws
import Derived.OwnWalk
import Derived.Shelf.Bits.Mul64
import Derived.Shelf.Spec.BitsCarry
namespace Go.Proofs.YtpdhffjdgnpikaaGreatDoor

/-- The bytes behind the leading zeros. -/
def strip (l : List UInt8) : List UInt8 := l.dropWhile (· == 0)

theorem strip_nil : strip [] = [] := rfl
theorem strip_zero (l : List UInt8) : strip (0 :: l) = strip l := by simp [strip]
theorem strip_other (c : UInt8) (l : List UInt8) (h : c ≠ 0) : strip (c :: l) = c :: l := by simp [strip, h]

/-- The number with base-256 digits, the most significant one first. -/
def beVal (l : List UInt8) : Nat := l.foldl (fun n c => n * 256 + c.toNat) 0
theorem beVal_nil : beVal [] = 0 := rfl
theorem beVal_snoc (l : List UInt8) (c : UInt8) : beVal (l ++ [c]) = beVal l * 256 + c.toNat := by simp [beVal, List.foldl_append]

def beF : Nat → Nat → List UInt8
  | 0, _ => []
  | k + 1, n => if n = 0 then [] else beF k (n / 256) ++ [UInt8.ofNat (n % 256)]
theorem beF_enough : ∀ (k k' n : Nat), n ≤ k → n ≤ k' → beF k n = beF k' n := by
  intro k
  induction k with
  | zero =>
    intro k' n h _
    have : n = 0 := by omega
    subst this
    cases k' <;> simp [beF]
  | succ k ih =>
    intro k' n h h'
    cases k' with
    | zero =>
      have : n = 0 := by omega
      subst this; simp [beF]
    | succ k' =>
      by_cases h0 : n = 0
      · simp [beF, h0]
      · simp only [beF, if_neg h0]
        rw [ih k' (n / 256) (by omega) (by omega)]
/-- The base-256 digits of a number. -/
def be (n : Nat) : List UInt8 := beF n n
theorem be_zero : be 0 = [] := rfl
theorem be_pos (n : Nat) (h : n ≠ 0) : be n = be (n / 256) ++ [UInt8.ofNat (n % 256)] := by
  unfold be
  obtain ⟨k, rfl⟩ : ∃ k, n = k + 1 := ⟨n - 1, by omega⟩
  rw [beF, if_neg (by omega), beF_enough k ((k + 1) / 256) _ (by omega) (Nat.le_refl _)]
theorem be_step (m c : Nat) (hc : c < 256) (h : m * 256 + c ≠ 0) : be (m * 256 + c) = be m ++ [UInt8.ofNat c] := by
  rw [be_pos _ h, show (m * 256 + c) / 256 = m by omega, show (m * 256 + c) % 256 = c by omega]
theorem be_eq_nil (n : Nat) : be n = [] ↔ n = 0 := by
  constructor
  · intro h
    by_cases h0 : n = 0
    · exact h0
    · rw [be_pos n h0] at h; simp at h
  · rintro rfl; rfl
theorem strip_snoc (l : List UInt8) (c : UInt8) : strip (l ++ [c]) = if strip l = [] then strip [c] else strip l ++ [c] := by
  induction l with
  | nil => simp [strip]
  | cons a l ih =>
    by_cases ha : a = 0
    · subst ha; rw [List.cons_append, strip_zero, strip_zero, ih]
    · rw [List.cons_append, strip_other _ _ ha, strip_other _ _ ha, if_neg (by simp)]; rfl
theorem snoc_ind {p : List UInt8 → Prop} (h0 : p []) (h1 : ∀ l c, p l → p (l ++ [c])) (l : List UInt8) : p l := by
  rw [← List.reverse_reverse l]
  induction l.reverse with
  | nil => exact h0
  | cons a r ih => rw [List.reverse_cons]; exact h1 _ _ ih
theorem strip_be (l : List UInt8) : strip l = be (beVal l) := by
  refine snoc_ind (p := fun l => strip l = be (beVal l)) rfl ?_ l
  intro l c ih
  have hc : c.toNat < 256 := c.toNat_lt
  rw [strip_snoc, beVal_snoc, ih]
  by_cases h0 : beVal l = 0
  · rw [if_pos ((be_eq_nil _).2 h0), h0]
    by_cases h1 : c = 0
    · subst h1; rfl
    · have : c.toNat ≠ 0 := fun h => h1 (UInt8.toNat_inj.1 (by simpa using h))
      rw [strip_other _ _ h1, be_step 0 _ hc (by omega), be_zero]
      simp
  · rw [if_neg (fun h => h0 ((be_eq_nil _).1 h)), be_step _ _ hc (by omega)]
    simp
theorem beVal_be (n : Nat) : beVal (be n) = n := by
  induction n using Nat.strongRecOn with
  | ind n ih =>
    by_cases h0 : n = 0
    · subst h0; rfl
    · rw [be_pos n h0, beVal_snoc, ih _ (by omega)]
      have : (UInt8.ofNat (n % 256)).toNat = n % 256 := by
        simp
      rw [this]; omega
theorem be_inj {m n : Nat} (h : be m = be n) : m = n := by rw [← beVal_be m, ← beVal_be n, h]
theorem beVal_strip (l : List UInt8) : beVal (strip l) = beVal l := by rw [strip_be, beVal_be]
theorem be_length_le (k n : Nat) (h : n < 256 ^ k) : (be n).length ≤ k := by
  induction k generalizing n with
  | zero => simp at h; subst h; simp [be_zero]
  | succ k ih =>
    by_cases h0 : n = 0
    · subst h0; simp [be_zero]
    · rw [be_pos n h0]
      have := ih (n / 256) (by rw [Nat.pow_succ] at h; omega)
      simp; omega
theorem beVal_lt (l : List UInt8) : beVal l < 256 ^ l.length := by
  refine snoc_ind (p := fun l => beVal l < 256 ^ l.length) (by simp [beVal]) ?_ l
  intro l c ih
  have hc : c.toNat < 256 := c.toNat_lt
  rw [beVal_snoc, List.length_append, List.length_singleton, Nat.pow_succ]; omega
theorem be_length_gt (k n : Nat) (h : 256 ^ k ≤ n) : k < (be n).length := by
  have h1 := beVal_lt (be n)
  rw [beVal_be] at h1
  by_cases hk : k < (be n).length
  · exact hk
  · exact absurd (Nat.lt_of_lt_of_le h1 (Nat.pow_le_pow_right (by omega) (by omega : (be n).length ≤ k))) (by omega)

/-- The integer that an api.Int stands for, and its canonical form. -/
def ival (n : Bool) (s : ByteArray) : Int := if n then -(beVal s.data.toList : Int) else beVal s.data.toList
def mg (z : Int) : ByteArray := ⟨(be z.natAbs).toArray⟩
def ng (z : Int) : Bool := decide (z < 0)
theorem mg_list (z : Int) : (mg z).data.toList = be z.natAbs := by simp [mg]
theorem ival_mg (z : Int) : ival (ng z) (mg z) = z := by
  unfold ival ng
  rw [mg_list, beVal_be]
  by_cases h : z < 0 <;> simp [h] <;> omega
theorem ival_abs (n : Bool) (s : ByteArray) : (ival n s).natAbs = beVal s.data.toList := by
  unfold ival; cases n <;> simp
theorem mg_strip (n : Bool) (s : ByteArray) : (⟨(strip s.data.toList).toArray⟩ : ByteArray) = mg (ival n s) := by
  unfold mg; rw [ival_abs, strip_be]
theorem ng_ival (n : Bool) (s : ByteArray) : ng (ival n s) = (n && !(strip s.data.toList).isEmpty) := by
  have h := be_eq_nil (beVal s.data.toList)
  rw [← strip_be] at h
  unfold ng ival
  cases n with
  | false => simp
  | true =>
    by_cases h0 : beVal s.data.toList = 0
    · rw [h.2 h0]; simp [h0]
    · have : (strip s.data.toList).isEmpty = false := by
        cases hs : strip s.data.toList with
        | nil => exact absurd (h.1 hs) h0
        | cons _ _ => rfl
      rw [this]; simp; omega
theorem mg_inj {y z : Int} (h1 : ng y = ng z) (h2 : mg y = mg z) : y = z := by
  rw [← ival_mg y, ← ival_mg z, h1, h2]
theorem ival_not (n : Bool) (s : ByteArray) : ival (!n) s = -ival n s := by
  unfold ival; cases n <;> simp
end Go.Proofs.YtpdhffjdgnpikaaGreatDoor

namespace Go.Proofs.YtpdhffjdgnpikaaGreatDoor

/-- The number with these digits to the base 2^64, the least significant one first. -/
def wv : List Nat → Nat
  | [] => 0
  | d :: l => d + 18446744073709551616 * wv l
def Ok (l : List Nat) : Prop := ∀ x ∈ l, x < 18446744073709551616
theorem Ok.nil : Ok [] := fun _ h => by cases h
theorem Ok.cons {d : Nat} {l : List Nat} (h : d < 18446744073709551616) (hl : Ok l) : Ok (d :: l) := fun x hx => by
  rcases List.mem_cons.1 hx with rfl | hx
  · exact h
  · exact hl x hx
theorem Ok.head {d : Nat} {l : List Nat} (h : Ok (d :: l)) : d < 18446744073709551616 := h d List.mem_cons_self
theorem Ok.tail {d : Nat} {l : List Nat} (h : Ok (d :: l)) : Ok l := fun x hx => h x (List.mem_cons_of_mem _ hx)
theorem Ok.append {a b : List Nat} (ha : Ok a) (hb : Ok b) : Ok (a ++ b) := fun x hx => by
  rcases List.mem_append.1 hx with h | h
  · exact ha x h
  · exact hb x h
theorem Ok.take {a : List Nat} (ha : Ok a) (k : Nat) : Ok (a.take k) := fun x hx => ha x (List.mem_of_mem_take hx)
theorem Ok.drop {a : List Nat} (ha : Ok a) (k : Nat) : Ok (a.drop k) := fun x hx => ha x (List.mem_of_mem_drop hx)
theorem Ok.getD {a : List Nat} (ha : Ok a) (k : Nat) : a.getD k 0 < 18446744073709551616 := by
  rw [List.getD_eq_getElem?_getD]
  by_cases h : k < a.length
  · rw [List.getElem?_eq_getElem h]; exact ha _ (List.getElem_mem h)
  · rw [List.getElem?_eq_none (by omega)]; decide
theorem wv_append (a b : List Nat) : wv (a ++ b) = wv a + 18446744073709551616 ^ a.length * wv b := by
  induction a with
  | nil => simp [wv]
  | cons d a ih => rw [List.cons_append, wv, ih, wv, List.length_cons, Nat.pow_succ, Nat.mul_add]; rw [Nat.mul_comm (18446744073709551616 ^ a.length) 18446744073709551616, Nat.mul_assoc]; omega
theorem wv_snoc (a : List Nat) (d : Nat) : wv (a ++ [d]) = wv a + 18446744073709551616 ^ a.length * d := by rw [wv_append]; simp [wv]
theorem wv_lt (a : List Nat) (h : Ok a) : wv a < 18446744073709551616 ^ a.length := by
  induction a with
  | nil => simp [wv]
  | cons d a ih =>
    have h1 := ih h.tail
    have h2 := h.head
    rw [wv, List.length_cons, Nat.pow_succ]
    generalize 18446744073709551616 ^ a.length = P at *
    omega
theorem wv_zeros (n : Nat) : wv (List.replicate n 0) = 0 := by
  induction n with
  | zero => rfl
  | succ n ih => rw [List.replicate_succ, wv, ih]

def nwF : Nat → Nat → List Nat
  | 0, _ => []
  | k + 1, n => if n = 0 then [] else (n % 18446744073709551616) :: nwF k (n / 18446744073709551616)
theorem nwF_enough : ∀ (k k' n : Nat), n ≤ k → n ≤ k' → nwF k n = nwF k' n := by
  intro k
  induction k with
  | zero =>
    intro k' n h _
    have : n = 0 := by omega
    subst this
    cases k' <;> simp [nwF]
  | succ k ih =>
    intro k' n h h'
    cases k' with
    | zero =>
      have : n = 0 := by omega
      subst this; simp [nwF]
    | succ k' =>
      by_cases h0 : n = 0
      · simp [nwF, h0]
      · simp only [nwF, if_neg h0]
        rw [ih k' (n / 18446744073709551616) (by omega) (by omega)]
/-- The words of a number. -/
def nw (n : Nat) : List Nat := nwF n n
theorem nw_zero : nw 0 = [] := rfl
theorem nw_pos (n : Nat) (h : n ≠ 0) : nw n = (n % 18446744073709551616) :: nw (n / 18446744073709551616) := by
  unfold nw
  obtain ⟨k, rfl⟩ : ∃ k, n = k + 1 := ⟨n - 1, by omega⟩
  rw [nwF, if_neg (by omega), nwF_enough k ((k + 1) / 18446744073709551616) _ (by omega) (Nat.le_refl _)]
theorem nw_step (d m : Nat) (hd : d < 18446744073709551616) (h : d + 18446744073709551616 * m ≠ 0) : nw (d + 18446744073709551616 * m) = d :: nw m := by
  rw [nw_pos _ h, show (d + 18446744073709551616 * m) % 18446744073709551616 = d by omega, show (d + 18446744073709551616 * m) / 18446744073709551616 = m by omega]
theorem nw_small (d : Nat) (hd : d < 18446744073709551616) (h : d ≠ 0) : nw d = [d] := by
  have := nw_step d 0 hd (by omega)
  simpa [nw_zero] using this
theorem wv_nw (n : Nat) : wv (nw n) = n := by
  induction n using Nat.strongRecOn with
  | ind n ih =>
    by_cases h0 : n = 0
    · subst h0; rfl
    · rw [nw_pos n h0, wv, ih _ (by omega)]; omega
theorem nw_inj {m n : Nat} (h : nw m = nw n) : m = n := by rw [← wv_nw m, ← wv_nw n, h]
theorem nw_ok (n : Nat) : Ok (nw n) := by
  induction n using Nat.strongRecOn with
  | ind n ih =>
    by_cases h0 : n = 0
    · subst h0; exact Ok.nil
    · rw [nw_pos n h0]; exact (ih _ (by omega)).cons (by omega)
theorem nw_eq_nil (n : Nat) : nw n = [] ↔ n = 0 := by
  constructor
  · intro h
    by_cases h0 : n = 0
    · exact h0
    · rw [nw_pos n h0] at h; simp at h
  · rintro rfl; rfl
/-- Words whose last one is not zero are those of their number. -/
theorem nw_wv (l : List Nat) (h : Ok l) (hl : l = [] ∨ l.getLast? ≠ some 0) : nw (wv l) = l := by
  induction l with
  | nil => rfl
  | cons d l ih =>
    have hl' : l = [] ∨ l.getLast? ≠ some 0 := by
      rcases hl with hl | hl
      · simp at hl
      · cases l with
        | nil => exact .inl rfl
        | cons e l => exact .inr (by simpa using hl)
    have hne : d + 18446744073709551616 * wv l ≠ 0 := by
      intro h0
      have hd : d = 0 := by omega
      have hv : wv l = 0 := by omega
      have h1 := ih h.tail hl'
      rw [hv, nw_zero] at h1
      subst h1; subst hd
      simp at hl
    rw [wv, nw_step d _ h.head hne, ih h.tail hl']

/-- How many words remain without the zeros at the end. -/
def trimW (xs : List Nat) : Nat := (xs.reverse.dropWhile (· == 0)).length
theorem trimW_nil : trimW [] = 0 := rfl
theorem trimW_zero (xs : List Nat) : trimW (xs ++ [0]) = trimW xs := by unfold trimW; simp
theorem trimW_other (xs : List Nat) (d : Nat) (h : d ≠ 0) : trimW (xs ++ [d]) = xs.length + 1 := by unfold trimW; simp [h]
theorem trimW_le (xs : List Nat) : trimW xs ≤ xs.length := by
  unfold trimW
  have := (List.dropWhile_sublist (· == 0) (l := xs.reverse)).length_le
  simpa using this
theorem snoc_indN {p : List Nat → Prop} (h0 : p []) (h1 : ∀ l c, p l → p (l ++ [c])) (l : List Nat) : p l := by
  rw [← List.reverse_reverse l]
  induction l.reverse with
  | nil => exact h0
  | cons a r ih => rw [List.reverse_cons]; exact h1 _ _ ih
theorem take_trimW (xs : List Nat) (h : Ok xs) : xs.take (trimW xs) = nw (wv xs) := by
  revert h
  refine snoc_indN (p := fun xs => Ok xs → xs.take (trimW xs) = nw (wv xs)) (fun _ => rfl) ?_ xs
  intro l d ih h
  have hl : Ok l := fun x hx => h x (List.mem_append_left _ hx)
  by_cases h0 : d = 0
  · subst h0
    rw [trimW_zero, wv_snoc, Nat.mul_zero, Nat.add_zero, ← ih hl, List.take_append_of_le_length (trimW_le l)]
  · rw [trimW_other l d h0, List.take_of_length_le (by simp), nw_wv _ h (.inr (by simp [h0]))]
theorem trimW_length (xs : List Nat) (h : Ok xs) : trimW xs = (nw (wv xs)).length := by
  rw [← take_trimW xs h, List.length_take]; have := trimW_le xs; omega
theorem take_snocW (xs : List Nat) (k : Nat) (h : k < xs.length) : xs.take (k + 1) = xs.take k ++ [xs.getD k 0] := by
  rw [List.take_succ_eq_append_getElem h, List.getD_eq_getElem?_getD, List.getElem?_eq_getElem h]; rfl
theorem trimW_go (xs : List Nat) (k : Nat) (h : k + 1 ≤ xs.length) (h0 : xs.getD k 0 = 0) (ht : trimW (xs.take (k + 1)) = trimW xs) : trimW (xs.take k) = trimW xs := by
  rw [← ht, take_snocW xs k (by omega), h0, trimW_zero]
theorem trimW_stop (xs : List Nat) (k : Nat) (h : k + 1 ≤ xs.length) (h0 : xs.getD k 0 ≠ 0) (ht : trimW (xs.take (k + 1)) = trimW xs) : k + 1 = trimW xs := by
  rw [← ht, take_snocW xs k (by omega), trimW_other _ _ h0, List.length_take]; omega
theorem nw_length_le (k n : Nat) (h : n < 18446744073709551616 ^ k) : (nw n).length ≤ k := by
  induction k generalizing n with
  | zero => simp at h; subst h; simp [nw_zero]
  | succ k ih =>
    by_cases h0 : n = 0
    · subst h0; simp [nw_zero]
    · rw [nw_pos n h0]
      have := ih (n / 18446744073709551616) (by rw [Nat.pow_succ] at h; omega)
      simp; omega

/-- The words of a number with base-256 digits, as bigint.load makes them: from the last eight bytes on. -/
def ldF : Nat → List UInt8 → List Nat
  | 0, _ => []
  | k + 1, l => if l = [] then [] else beVal (l.drop (l.length - 8)) :: ldF k (l.take (l.length - 8))
theorem ldF_enough : ∀ (k k' : Nat) (l : List UInt8), l.length ≤ k → l.length ≤ k' → ldF k l = ldF k' l := by
  intro k
  induction k with
  | zero =>
    intro k' l h _
    have : l = [] := List.eq_nil_of_length_eq_zero (by omega)
    subst this
    cases k' <;> simp [ldF]
  | succ k ih =>
    intro k' l h h'
    cases k' with
    | zero =>
      have : l = [] := List.eq_nil_of_length_eq_zero (by omega)
      subst this; simp [ldF]
    | succ k' =>
      by_cases h0 : l = []
      · simp [ldF, h0]
      · have hl : 0 < l.length := List.length_pos_iff.2 h0
        simp only [ldF, if_neg h0]
        rw [ih k' _ (by rw [List.length_take]; omega) (by rw [List.length_take]; omega)]
def ld (l : List UInt8) : List Nat := ldF l.length l
theorem ld_nil : ld [] = [] := rfl
theorem ld_step (l : List UInt8) (h : l ≠ []) : ld l = beVal (l.drop (l.length - 8)) :: ld (l.take (l.length - 8)) := by
  have hl : 0 < l.length := List.length_pos_iff.2 h
  unfold ld
  obtain ⟨k, hk⟩ : ∃ k, l.length = k + 1 := ⟨l.length - 1, by omega⟩
  have e : ldF l.length l = ldF (k + 1) l := by rw [hk]
  rw [e, ldF, if_neg h, ldF_enough k (l.take (l.length - 8)).length _ (by rw [List.length_take]; omega) (Nat.le_refl _)]
theorem beVal_append (a b : List UInt8) : beVal (a ++ b) = beVal a * 256 ^ b.length + beVal b := by
  refine snoc_ind (p := fun b => beVal (a ++ b) = beVal a * 256 ^ b.length + beVal b) (by simp [beVal]) ?_ b
  intro b c ih
  have ih' : beVal (a ++ b) = beVal a * 256 ^ b.length + beVal b := ih
  show beVal (a ++ (b ++ [c])) = _
  rw [← List.append_assoc, beVal_snoc, ih', beVal_snoc, List.length_append, List.length_singleton, Nat.pow_succ, Nat.add_mul, Nat.mul_assoc]; omega
theorem wv_ld (l : List UInt8) : wv (ld l) = beVal l ∧ Ok (ld l) ∧ (ld l).length = (l.length + 7) / 8 := by
  obtain ⟨k, hk⟩ : ∃ k, l.length ≤ k := ⟨_, Nat.le_refl _⟩
  induction k generalizing l with
  | zero =>
    have : l = [] := List.eq_nil_of_length_eq_zero (by omega)
    subst this; exact ⟨rfl, Ok.nil, rfl⟩
  | succ k ih =>
    by_cases h0 : l = []
    · subst h0; exact ⟨rfl, Ok.nil, rfl⟩
    · have hl : 0 < l.length := List.length_pos_iff.2 h0
      obtain ⟨h1, h2, h3⟩ := ih (l.take (l.length - 8)) (by rw [List.length_take]; omega)
      have hd : (l.drop (l.length - 8)).length ≤ 8 := by rw [List.length_drop]; omega
      have hlt : beVal (l.drop (l.length - 8)) < 18446744073709551616 :=
        Nat.lt_of_lt_of_le (beVal_lt _) (Nat.le_trans (Nat.pow_le_pow_right (by omega) hd) (by decide))
      rw [ld_step l h0]
      refine ⟨?_, h2.cons hlt, ?_⟩
      · rw [wv, h1]
        by_cases h8 : 8 ≤ l.length
        · have e := beVal_append (l.take (l.length - 8)) (l.drop (l.length - 8))
          rw [List.take_append_drop, List.length_drop, show l.length - (l.length - 8) = 8 by omega] at e
          rw [e, Nat.mul_comm]
          have : (256 : Nat) ^ 8 = 18446744073709551616 := by decide
          rw [this]; omega
        · have e : l.length - 8 = 0 := by omega
          rw [e]; simp [beVal_nil]
      · rw [List.length_cons, h3, List.length_take]; omega
end Go.Proofs.YtpdhffjdgnpikaaGreatDoor

namespace Go.Proofs.YtpdhffjdgnpikaaGreatDoor

theorem prod_split (q y1 y0 r u D : Nat) (hD : D = y1 * 4294967296 + y0) (hq : q * y1 + r = u) : q * D + 4294967296 * r = u * 4294967296 + q * y0 := by
  subst hD; subst hq
  rw [Nat.mul_add, Nat.add_mul, ← Nat.mul_assoc]
  omega
/-- The estimate is not too small. -/
theorem half_ge (y1 y0 u d D : Nat) (hD : D = y1 * 4294967296 + y0) (h1 : 0 < y1) (hd : d < 4294967296) : (u * 4294967296 + d) / D ≤ u / y1 := by
  have hpos : 0 < D := by omega
  rw [Nat.le_div_iff_mul_le h1]
  have hQ := Nat.div_mul_le_self (u * 4294967296 + d) D
  generalize (u * 4294967296 + d) / D = Q at *
  rw [hD, Nat.mul_add, ← Nat.mul_assoc] at hQ
  omega
/-- .. and not much too great. -/
theorem half_le (y1 y0 u D : Nat) (hD : D = y1 * 4294967296 + y0) (h1 : 2147483648 ≤ y1) (h0 : y0 < 4294967296) (hu : u < D) : u / y1 ≤ 4294967297 := by
  have : u / y1 < 4294967298 := by
    rw [Nat.div_lt_iff_lt_mul (by omega)]
    omega
  omega
theorem half_lt_base (u d D : Nat) (hd : d < 4294967296) (hu : u < D) : (u * 4294967296 + d) / D < 4294967296 := by
  rw [Nat.div_lt_iff_lt_mul (by omega)]
  omega
/-- Where the loop goes on the estimate is too great. -/
theorem half_step (q r y1 y0 u d D : Nat) (hD : D = y1 * 4294967296 + y0) (hd : d < 4294967296) (hu : u < D) (hq : q * y1 + r = u) (hc : 4294967296 ≤ q ∨ 4294967296 * r + d < q * y0) : (u * 4294967296 + d) / D < q := by
  rcases hc with h | h
  · have := half_lt_base u d D hd hu; omega
  · rw [Nat.div_lt_iff_lt_mul (by omega)]
    have := prod_split q y1 y0 r u D hD hq
    omega
/-- Where it ends by its condition the estimate is right. -/
theorem half_done (q r y1 y0 u d D : Nat) (hD : D = y1 * 4294967296 + y0) (hu : u < D) (hq : q * y1 + r = u) (hc : q * y0 ≤ 4294967296 * r + d) (hge : (u * 4294967296 + d) / D ≤ q) : q = (u * 4294967296 + d) / D := by
  have hle : q ≤ (u * 4294967296 + d) / D := by
    rw [Nat.le_div_iff_mul_le (by omega)]
    have := prod_split q y1 y0 r u D hD hq
    omega
  omega
/-- .. and where it breaks off. -/
theorem half_break (q r y1 y0 u d D : Nat) (hD : D = y1 * 4294967296 + y0) (h0 : y0 < 4294967296) (hu : u < D) (hq : q * y1 + r = u) (hr : 4294967296 ≤ r) (hqB : q ≤ 4294967296) (hge : (u * 4294967296 + d) / D ≤ q) : q = (u * 4294967296 + d) / D := by
  apply half_done q r y1 y0 u d D hD hu hq _ hge
  have h1 : q * y0 ≤ 4294967296 * y0 := Nat.mul_le_mul_right _ hqB
  omega
/-- The remainder, reckoned in words. -/
theorem half_rest (u d D q : Nat) (hu : u < D) (hDW : D < 18446744073709551616) (hq : q = (u * 4294967296 + d) / D) :
    (((u * 4294967296 : Nat) : Int) % 18446744073709551616 + (d : Int) - ((q * D : Nat) : Int) % 18446744073709551616) % 18446744073709551616 = (((u * 4294967296 + d) % D : Nat) : Int) := by
  have h1 := Nat.div_add_mod (u * 4294967296 + d) D
  rw [← hq, Nat.mul_comm D] at h1
  have h2 := Nat.mod_lt (u * 4294967296 + d) (show D > 0 by omega)
  generalize (u * 4294967296 + d) % D = R at *
  generalize q * D = P at *
  omega
/-- Both halves together. -/
theorem halves (u d1 d0 D q1 r1 q0 r0 : Nat) (h1 : D * q1 + r1 = u * 4294967296 + d1) (h0 : D * q0 + r0 = r1 * 4294967296 + d0) (hr : r0 < D) :
    (u * 18446744073709551616 + (d1 * 4294967296 + d0)) / D = q1 * 4294967296 + q0 ∧ (u * 18446744073709551616 + (d1 * 4294967296 + d0)) % D = r0 := by
  have e : u * 18446744073709551616 + (d1 * 4294967296 + d0) = r0 + D * (q1 * 4294967296 + q0) := by
    rw [Nat.mul_add, ← Nat.mul_assoc]
    omega
  rw [e]
  constructor
  · rw [Nat.add_mul_div_left _ _ (by omega), Nat.div_eq_of_lt hr]; omega
  · rw [Nat.add_mul_mod_self_left, Nat.mod_eq_of_lt hr]
end Go.Proofs.YtpdhffjdgnpikaaGreatDoor

namespace Go.Proofs.YtpdhffjdgnpikaaGreatDoor
open Go.RowKit

theorem ret_str {a b : ByteArray} (h : a = b) : Ending.returned (.string a) = .returned (.string b) := by rw [h]
def strLen : Value → Nat | .string t => t.size | _ => 0

theorem ba_ext {a b : ByteArray} (h : a.data.toList = b.data.toList) : a = b := by
  rw [← Lib.mk_data a, ← Lib.mk_data b, h]
theorem ba_cons (t : ByteArray) (h : 0 < t.size) : t.data.toList = t[0] :: (t.extract 1 t.size).data.toList := by
  have h2 : 0 < t.data.toList.length := by rw [← Lib.size_eq]; exact h
  rw [Lib.extract_data, List.take_of_length_le (by rw [List.length_drop, ← Lib.size_eq]; omega)]
  have e := List.drop_eq_getElem_cons (l := t.data.toList) (i := 0) h2
  rw [List.drop_zero] at e
  exact e
theorem u8_zero (c : UInt8) (h : ((c.toNat : Int) == 0) = true) : c = 0 := by
  have : c.toNat = 0 := by simpa using h
  exact UInt8.toNat_inj.1 (by simpa using this)
theorem u8_nonzero (c : UInt8) (h : ((c.toNat : Int) == 0) = false) : c ≠ 0 := by
  rintro rfl; simp at h
theorem strip_step (s t : ByteArray) (h : 0 < t.size) (h0 : ((t[0].toNat : Int) == 0) = true) (hst : strip t.data.toList = strip s.data.toList) : strip (t.extract 1 t.size).data.toList = strip s.data.toList := by
  rw [← hst, ba_cons t h, u8_zero _ h0, strip_zero]
theorem strip_stop (s t : ByteArray) (h : 0 < t.size) (h0 : ((t[0].toNat : Int) == 0) = false) (hst : strip t.data.toList = strip s.data.toList) : t = ⟨(strip s.data.toList).toArray⟩ := by
  apply ba_ext
  rw [← hst, ba_cons t h, strip_other _ _ (u8_nonzero _ h0)]
theorem strip_end (s t : ByteArray) (h : ¬ 0 < t.size) (hst : strip t.data.toList = strip s.data.toList) : t = ⟨(strip s.data.toList).toArray⟩ := by
  apply ba_ext
  have : t.data.toList = [] := by
    apply List.eq_nil_of_length_eq_zero
    simp only [Array.length_toList]
    have : t.data.size = t.size := rfl
    omega
  rw [← hst, this, strip_nil]

set_option maxHeartbeats 400000 in
theorem trimByte_any (s : ByteArray) (w : World) :
    Calls Tryz.prog 145 #[.string s, .int .u8 0] w fun e w' => e = .returned (.string ⟨(strip s.data.toList).toArray⟩) ∧ w = w' := by
  go_enter Tryz.func145, Tryz.ntmps145
  go_wp2
  go_loop [0] (fun v => ∃ t : ByteArray, t.size ≤ s.size ∧ v = .string t ∧ strip t.data.toList = strip s.data.toList) (fun v => strLen v)
  case atStart => exact ⟨s, Nat.le_refl _, rfl, rfl⟩
  case round =>
    obtain ⟨t, ht, rfl, hst⟩ := hrel
    have HST := Lib.hid hst
    clear hst
    go_wp2
    · have h1 : 0 < t.size := by assumption
      have h2 : ((t[0].toNat : Int) == 0) = true := by assumption
      go_round
      case rel => exact ⟨t.extract 1 t.size, by simp; omega, rfl, strip_step s t h1 h2 HST.out⟩
      case measure => simp [strLen]; omega
    · have h1 : 0 < t.size := by assumption
      have h2 : ((t[0].toNat : Int) == 0) = false := by assumption
      go_ret
      exact ⟨ret_str (strip_stop s t h1 h2 HST.out), rfl⟩
    · have h1 : ¬ 0 < t.size := by assumption
      go_ret
      exact ⟨ret_str (strip_end s t h1 HST.out), rfl⟩

theorem strip_ne (s : ByteArray) : (s.data.toList.isEmpty = true) → s = ⟨(strip s.data.toList).toArray⟩ := by
  intro h
  have : s.data.toList = [] := by simpa using h
  apply ba_ext; rw [this]; rfl

set_option maxHeartbeats 400000 in
set_option maxRecDepth 100000 in
theorem trimLeft_any (s : ByteArray) (w : World) :
    Calls Tryz.prog 137 #[.string s, .string ⟨#[0]⟩] w fun e w' => e = .returned (.string ⟨(strip s.data.toList).toArray⟩) ∧ w = w' := by
  by_cases he : s.data.toList.isEmpty = true
  · have HE := Lib.hid (strip_ne s he)
    have h1 : s.toList.isEmpty = true := by rw [Lib.toList_data]; exact he
    clear he
    go_enter Tryz.func137, Tryz.ntmps137
    go_wp2_with fail
    all_goals go_ret
    all_goals exact ⟨ret_str HE.out, rfl⟩
  · have h1 : s.toList.isEmpty = false := by rw [Lib.toList_data]; simpa using he
    clear he
    go_enter Tryz.func137, Tryz.ntmps137
    go_wp2_with fail
    refine ((trimByte_any s _).mono ?_)
    rintro e w' ⟨rfl, rfl⟩
    go_wp2_with fail
    go_ret
    exact ⟨rfl, rfl⟩

set_option maxHeartbeats 400000 in
theorem significant_any (s : ByteArray) (w : World) :
    Calls Tryz.prog 97 #[.string s] w fun e w' => e = .returned (.string ⟨(strip s.data.toList).toArray⟩) ∧ w = w' := by
  go_enter Tryz.func97, Tryz.ntmps97
  go_wp2_with (go_at_call 137; refine (trimLeft_any s _).mono ?_; rintro e w' ⟨rfl, rfl⟩)
  go_ret
  exact ⟨rfl, rfl⟩

end Go.Proofs.YtpdhffjdgnpikaaGreatDoor

namespace Go.Proofs.YtpdhffjdgnpikaaGreatDoor
open Go.RowKit

theorem fact1 : Tryz.prog.stoodInHeld 23 = false := by kernel_rfl
theorem fact2 : Tryz.prog.eqGuardType Tryz.prog.depth 23 = false := by kernel_rfl
theorem fact3 : Tryz.prog.underlying 23 = some (.struct (Tryz.prog.fieldsOf 23)) := by kernel_rfl

theorem eqIn_int (n n' : Bool) (s s' : ByteArray) (w : World) :
    (Op.equalIn 10000 23 (.agg #[.bool n, .string s]) (.agg #[.bool n', .string s'])).run Tryz.prog w = .ok (n == n' && s.toList == s'.toList) w := by
  rw [show (10000 : Nat) = 9999 + 1 from rfl, run_equalIn_agg w 9999 23 _ _ fact3 fact1]
  simp [Program.fieldsOf, Tryz.underlying23, Op.eqFields, go_sem, Tryz.underlying4, Tryz.underlying9]
  by_cases h1 : n = n' <;> by_cases h2 : s.toList = s'.toList <;> simp [h1, h2]

/-- Whether two api.Int values are equal structs. -/
def eqI (n : Bool) (s : ByteArray) (n' : Bool) (s' : ByteArray) : Bool := n == n' && s.toList == s'.toList
theorem eqI_ints (y z : Int) : eqI (ng y) (mg y) (ng z) (mg z) = decide (y = z) := by
  unfold eqI
  rw [Lib.toList_data, Lib.toList_data]
  by_cases h : y = z
  · subst h; simp
  · have : ¬ (ng y = ng z ∧ (mg y).data.toList = (mg z).data.toList) := fun ⟨h1, h2⟩ => h (mg_inj h1 (ba_ext h2))
    rw [decide_eq_false h]
    rw [Bool.eq_false_iff]
    intro h3
    rw [Bool.and_eq_true, beq_iff_eq, beq_iff_eq] at h3
    exact this h3

theorem eql_int (n n' : Bool) (s s' : ByteArray) (w : World) :
    (binOp .eql 23 (.agg #[.bool n, .string s]) (.agg #[.bool n', .string s'])).run Tryz.prog w = .ok (.bool (eqI n s n' s')) w := by
  rw [run_eql_struct, eqIn_int]; rfl
theorem neq_int (n n' : Bool) (s s' : ByteArray) (w : World) :
    (binOp .neq 23 (.agg #[.bool n, .string s]) (.agg #[.bool n', .string s'])).run Tryz.prog w = .ok (.bool (!eqI n s n' s')) w := by
  rw [run_neq_struct, eqIn_int]; rfl
theorem guard_int (op : BinOp) (x y : Operand) (xs ys : Array Value) (w : World) :
    (eqGuard op 23 x y (.agg xs) (.agg ys)).run Tryz.prog w = .ok () w := run_eqGuard_agg w op _ x y xs ys fact2
end Go.Proofs.YtpdhffjdgnpikaaGreatDoor

namespace Go.Proofs.YtpdhffjdgnpikaaGreatDoor
open Go.RowKit

theorem ret_agg {a a' : Bool} {b b' : ByteArray} (h : a = a') (h' : b = b') : Ending.returned (.agg #[.bool a, .string b]) = .returned (.agg #[.bool a', .string b']) := by rw [h, h']

set_option maxHeartbeats 400000 in
theorem opposite_any (n : Bool) (s : ByteArray) (w : World) :
    Calls Tryz.prog 100 #[.agg #[.bool n, .string s]] w fun e w' => e = .returned (.agg #[.bool (!n), .string s]) ∧ Below w.heap.size w w' := by
  go_enter Tryz.func100, Tryz.ntmps100
  go_wp2
  refine bodyPost_ret (v := .agg #[.bool (!n), .string s]) (by simp [results, Tryz.results100, go_sem]) rfl ⟨rfl, ?_⟩
  repeat (first | exact Below.refl _ _ | refine Below.alloc ?_ (by simp) _)

theorem ng_true (s : ByteArray) : ng (ival true s) = !(strip s.data.toList).isEmpty := by simp [ng_ival]
theorem ng_false (s : ByteArray) : ng (ival false s) = false := by simp [ng_ival]

set_option maxHeartbeats 400000 in
theorem canonical_any (n : Bool) (s : ByteArray) (w : World) :
    Calls Tryz.prog 99 #[.agg #[.bool n, .string s]] w fun e w' => e = .returned (.agg #[.bool (ng (ival n s)), .string (mg (ival n s))]) ∧ Below w.heap.size w w' := by
  have h2 := Lib.hid (mg_strip n s)
  cases n
  · have h1 := Lib.hid (ng_false s)
    go_enter Tryz.func99, Tryz.ntmps99
    go_wp2_with (go_at_call 97; refine (significant_any s _).mono ?_; rintro e w' ⟨rfl, rfl⟩)
    rw [h1.out, ← h2.out]
    refine bodyPost_ret (v := .agg #[.bool false, .string ⟨(strip s.data.toList).toArray⟩]) (by simp [results, Tryz.results99, go_sem]) rfl ⟨rfl, ?_⟩
    repeat (first | exact Below.refl _ _ | refine Below.alloc ?_ (by simp) _)
  · have h1 := Lib.hid (ng_true s)
    go_enter Tryz.func99, Tryz.ntmps99
    go_wp2_with (go_at_call 97; refine (significant_any s _).mono ?_; rintro e w' ⟨rfl, rfl⟩)
    rw [h1.out, ← h2.out]
    refine bodyPost_ret (v := .agg #[.bool (!(strip s.data.toList).isEmpty), .string ⟨(strip s.data.toList).toArray⟩]) (by simp [results, Tryz.results99, go_sem]) rfl ⟨rfl, ?_⟩
    repeat (first | exact Below.refl _ _ | refine Below.alloc ?_ (by simp) _)

theorem bcell {W w1 : World} (hb : Below W.heap.size W w1) : (∀ b o, b < W.heap.size → w1.cell? ⟨b, o, none⟩ = W.cell? ⟨b, o, none⟩) ∧ (∀ b o, b < W.heap.size → w1.frozen? ⟨b, o, none⟩ = W.frozen? ⟨b, o, none⟩) :=
  ⟨fun b o h => hb.cell (p := ⟨b, o, none⟩) h, fun b o h => hb.frozen (p := ⟨b, o, none⟩) h⟩

set_option maxHeartbeats 400000 in
theorem neg_any (n : Bool) (s : ByteArray) (w : World) :
    Calls Tryz.prog 51 #[.agg #[.bool n, .string s]] w fun e w' => e = .returned (.agg #[.bool (ng (-ival n s)), .string (mg (-ival n s))]) ∧ Below w.heap.size w w' := by
  have h2 := Lib.hid (ival_not n s)
  go_enter Tryz.func51, Tryz.ntmps51
  go_wp2_with fail
  refine (opposite_any n s _).mono ?_
  rintro e w1 ⟨rfl, hb1⟩
  obtain ⟨hc1, hf1⟩ := bcell hb1
  have hz1 : w.heap.size + 1 < w1.heap.size := by have := hb1.size; simp at this; omega
  go_wp2_with fail
  refine (canonical_any (!n) s _).mono ?_
  rw [h2.out]
  rintro e w2 ⟨rfl, hb2⟩
  obtain ⟨hc2, hf2⟩ := bcell hb2
  have hz2 : w.heap.size + 1 < w2.heap.size := by have := hb2.size; omega
  go_wp2_with fail
  refine bodyPost_ret (v := .agg #[.bool (ng (-ival n s)), .string (mg (-ival n s))]) (by simp [results, Tryz.results51, go_sem, hc1, hc2, hz1]) rfl ⟨rfl, ?_⟩
  exact ((((((Below.refl _ _).alloc (Nat.le_refl _) _).alloc (by simp) _).trans (hb1.mono (by simp; omega))).trans (hb2.mono (by omega))).setCell (by simp) _).setCell (by simp) _

/-- Whether an integer is in its canonical form. -/
def canB (n : Bool) (s : ByteArray) : Bool := eqI n s (ng (ival n s)) (mg (ival n s))

end Go.Proofs.YtpdhffjdgnpikaaGreatDoor

namespace Go.Proofs.YtpdhffjdgnpikaaGreatDoor
open Go.RowKit

/-- The cells of a block from a place on hold these words, and are not frozen. -/
def Row (w : World) (b off : Nat) (xs : List Nat) : Prop :=
  ∀ j, j < xs.length → w.cell? ⟨b, off + j, none⟩ = some (.int .u64 (xs.getD j 0 : Nat)) ∧ w.frozen? ⟨b, off + j, none⟩ = false
/-- A slice's address leads to these words. -/
def Nt (w : World) (p : Option Addr) (xs : List Nat) : Prop := xs = [] ∨ ∃ b off, p = some ⟨b, off, none⟩ ∧ Row w b off xs

theorem Row.take {w : World} {b off : Nat} {xs : List Nat} (h : Row w b off xs) (k : Nat) : Row w b off (xs.take k) := by
  intro j hj
  rw [List.length_take] at hj
  have := h j (by omega)
  rw [List.getD_eq_getElem?_getD, List.getElem?_take_of_lt (by omega), ← List.getD_eq_getElem?_getD]
  exact this
theorem Nt.take {w : World} {p : Option Addr} {xs : List Nat} (h : Nt w p xs) (k : Nat) : Nt w p (xs.take k) := by
  rcases h with rfl | ⟨b, off, rfl, h⟩
  · exact .inl (by simp)
  · exact .inr ⟨b, off, rfl, h.take k⟩
theorem Row.lt {w : World} {b off : Nat} {xs : List Nat} (h : Row w b off xs) (h0 : 0 < xs.length) : b < w.heap.size :=
  World.block_lt_of_cell? w _ (h 0 h0).1
theorem Row.below {w w' : World} {b off B : Nat} {xs : List Nat} (h : Row w b off xs) (hb : Below B w w') (hB : b < B) : Row w' b off xs := fun j hj =>
  ⟨(hb.cell (p := ⟨b, off + j, none⟩) hB).trans (h j hj).1, (hb.frozen (p := ⟨b, off + j, none⟩) hB).trans (h j hj).2⟩
theorem Nt.below {w w' : World} {p : Option Addr} {xs : List Nat} (h : Nt w p xs) (hb : Below w.heap.size w w') : Nt w' p xs := by
  rcases h with rfl | ⟨b, off, rfl, h⟩
  · exact .inl rfl
  · by_cases h0 : 0 < xs.length
    · exact .inr ⟨b, off, rfl, h.below hb (h.lt h0)⟩
    · exact .inl (List.eq_nil_of_length_eq_zero (by omega))

theorem slice_eq {p : Option Addr} {c a b : Nat} (h : a = b) : Ending.returned (.slice p a c) = .returned (.slice p b c) := by rw [h]
def sliceLen : Value → Nat | .slice _ n _ => n | _ => 0

set_option maxHeartbeats 400000 in
theorem trim_any (p : Option Addr) (xs : List Nat) (cap : Nat) (w : World) (hx : Nt w p xs) (hn : xs.length ≤ 1048576) (hc : xs.length ≤ cap) (hc' : cap ≤ maxLen) :
    Calls Tryz.prog 143 #[.slice p xs.length cap] w fun e w' => e = .returned (.slice p (trimW xs) cap) ∧ w = w' := by
  unfold maxLen at hc'
  go_enter Tryz.func143, Tryz.ntmps143
  go_wp2
  go_loop [0] (fun v => ∃ k : Nat, k ≤ xs.length ∧ v = .slice p k cap ∧ trimW (xs.take k) = trimW xs) (fun v => sliceLen v)
  case atStart => exact ⟨xs.length, Nat.le_refl _, rfl, by simp⟩
  case round =>
    obtain ⟨k, hk, rfl, ht⟩ := hrel
    have HT := Lib.hid ht
    clear ht
    rcases hx with rfl | ⟨b, off, rfl, hrow⟩
    · simp at hk
      subst hk
      go_wp2
      go_ret
      exact ⟨slice_eq rfl, rfl⟩
    · cases k with
      | zero =>
        go_wp2
        go_ret
        exact ⟨slice_eq (by rw [← HT.out]; rfl), rfl⟩
      | succ k =>
        have hcell := (hrow k (by omega)).1
        have e1 : ((k + 1 : Nat) : Int) - 1 = (k : Int) := by omega
        go_wp2
        · have h0 : ((xs[k]?.getD 0 : Nat) : Int) == 0 := by assumption
          have h1 : xs.getD k 0 = 0 := by rw [List.getD_eq_getElem?_getD]; simpa using h0
          go_round
          case rel => exact ⟨k, by omega, rfl, trimW_go xs k hk h1 HT.out⟩
          case measure => simp [sliceLen]
        · have h0 : (((xs[k]?.getD 0 : Nat) : Int) == 0) = false := by assumption
          have h1 : xs.getD k 0 ≠ 0 := by rw [List.getD_eq_getElem?_getD]; intro h; rw [h] at h0; simp at h0
          go_ret
          exact ⟨slice_eq (trimW_stop xs k hk h1 HT.out), rfl⟩
end Go.Proofs.YtpdhffjdgnpikaaGreatDoor

namespace Go.Proofs.YtpdhffjdgnpikaaGreatDoor
open Go.RowKit

theorem wrapU (n : Nat) (h : n < 18446744073709551616) : IntKind.u64.wrap (n : Int) = (n : Int) := by
  rw [IntKind.wrap_u64]; omega
theorem wrapU_mul (a b n : Nat) (e : a * b = n) (h : n < 18446744073709551616) : IntKind.u64.wrap ((a : Int) * (b : Int)) = (n : Int) := by
  rw [← Int.natCast_mul, e]; exact wrapU n h
theorem orU (i a b : Nat) (ha : a % 2 ^ i = 0) (hb : b < 2 ^ i) (ha' : a < 18446744073709551616) (hb' : b < 18446744073709551616) :
    bits .or .u64 (a : Int) (b : Int) = ((a + b : Nat) : Int) := by
  rw [u64_or_nat a b ha' hb', nat_join i a b ha hb]
theorem word8 (c0 c1 c2 c3 c4 c5 c6 c7 : Nat) (h0 : c0 < 256) (h1 : c1 < 256) (h2 : c2 < 256) (h3 : c3 < 256) (h4 : c4 < 256) (h5 : c5 < 256) (h6 : c6 < 256) (h7 : c7 < 256) :
    bits .or .u64 (bits .or .u64 (bits .or .u64 (bits .or .u64 (bits .or .u64 (bits .or .u64 (bits .or .u64 (IntKind.u64.wrap (IntKind.u64.wrap (c0 : Int) * 72057594037927936)) (IntKind.u64.wrap (IntKind.u64.wrap (c1 : Int) * 281474976710656)))
      (IntKind.u64.wrap (IntKind.u64.wrap (c2 : Int) * 1099511627776))) (IntKind.u64.wrap (IntKind.u64.wrap (c3 : Int) * 4294967296))) (IntKind.u64.wrap (IntKind.u64.wrap (c4 : Int) * 16777216)))
      (IntKind.u64.wrap (IntKind.u64.wrap (c5 : Int) * 65536))) (IntKind.u64.wrap (IntKind.u64.wrap (c6 : Int) * 256))) (IntKind.u64.wrap (c7 : Int)) =
    ((((((((c0 * 256 + c1) * 256 + c2) * 256 + c3) * 256 + c4) * 256 + c5) * 256 + c6) * 256 + c7 : Nat) : Int) := by
  have hw : ∀ c : Nat, c < 256 → IntKind.u64.wrap (c : Int) = (c : Int) := fun c hc => wrapU c (by omega)
  rw [hw c0 h0, hw c1 h1, hw c2 h2, hw c3 h3, hw c4 h4, hw c5 h5, hw c6 h6, hw c7 h7]
  have e0 : IntKind.u64.wrap ((c0 : Int) * 72057594037927936) = ((c0 * 72057594037927936 : Nat) : Int) := wrapU_mul c0 72057594037927936 _ rfl (by omega)
  have e1 : IntKind.u64.wrap ((c1 : Int) * 281474976710656) = ((c1 * 281474976710656 : Nat) : Int) := wrapU_mul c1 281474976710656 _ rfl (by omega)
  have e2 : IntKind.u64.wrap ((c2 : Int) * 1099511627776) = ((c2 * 1099511627776 : Nat) : Int) := wrapU_mul c2 1099511627776 _ rfl (by omega)
  have e3 : IntKind.u64.wrap ((c3 : Int) * 4294967296) = ((c3 * 4294967296 : Nat) : Int) := wrapU_mul c3 4294967296 _ rfl (by omega)
  have e4 : IntKind.u64.wrap ((c4 : Int) * 16777216) = ((c4 * 16777216 : Nat) : Int) := wrapU_mul c4 16777216 _ rfl (by omega)
  have e5 : IntKind.u64.wrap ((c5 : Int) * 65536) = ((c5 * 65536 : Nat) : Int) := wrapU_mul c5 65536 _ rfl (by omega)
  have e6 : IntKind.u64.wrap ((c6 : Int) * 256) = ((c6 * 256 : Nat) : Int) := wrapU_mul c6 256 _ rfl (by omega)
  rw [e0, e1, e2, e3, e4, e5, e6]
  rw [orU 56 _ _ (by omega) (by omega) (by omega) (by omega)]
  rw [orU 48 _ _ (by omega) (by omega) (by omega) (by omega)]
  rw [orU 40 _ _ (by omega) (by omega) (by omega) (by omega)]
  rw [orU 32 _ _ (by omega) (by omega) (by omega) (by omega)]
  rw [orU 24 _ _ (by omega) (by omega) (by omega) (by omega)]
  rw [orU 16 _ _ (by omega) (by omega) (by omega) (by omega)]
  rw [orU 8 _ _ (by omega) (by omega) (by omega) (by omega)]
  exact congrArg (fun n : Nat => (n : Int)) (by omega)
theorem list8 (l : List UInt8) (h : l.length = 8) : l = [l[0], l[1], l[2], l[3], l[4], l[5], l[6], l[7]] := by
  match l, h with
  | [_, _, _, _, _, _, _, _], _ => rfl
theorem beVal_cons (c : UInt8) (l : List UInt8) : beVal (c :: l) = c.toNat * 256 ^ l.length + beVal l := by
  refine snoc_ind (p := fun l => beVal (c :: l) = c.toNat * 256 ^ l.length + beVal l) (by simp [beVal]) ?_ l
  intro l d ih
  have ih' : beVal (c :: l) = c.toNat * 256 ^ l.length + beVal l := ih
  show beVal (c :: (l ++ [d])) = _
  rw [← List.cons_append, beVal_snoc, beVal_snoc, ih', List.length_append, List.length_singleton, Nat.pow_succ, Nat.add_mul, Nat.mul_assoc]; omega
theorem u64_eq {a b : Int} (h : a = b) : Ending.returned (.int .u64 a) = .returned (.int .u64 b) := by rw [h]

/-- Some draws, and nothing else. -/
def Drawn (w w' : World) : Prop := ∃ n, w' = w.drewN n

set_option maxHeartbeats 1000000 in
set_option maxRecDepth 100000 in
theorem wholeWord_any (s : ByteArray) (w : World) (hs : s.size = 8) :
    Calls Tryz.prog 138 #[.string s] w fun e w' => e = .returned (.int .u64 (beVal s.data.toList : Nat)) ∧ Drawn w w' := by
  have h0 : 0 < s.size := by omega
  have h1 : (1 : Int) < (s.size : Int) := by omega
  have h2 : (2 : Int) < (s.size : Int) := by omega
  have h3 : (3 : Int) < (s.size : Int) := by omega
  have h4 : (4 : Int) < (s.size : Int) := by omega
  have h5 : (5 : Int) < (s.size : Int) := by omega
  have h6 : (6 : Int) < (s.size : Int) := by omega
  have h7 : (7 : Int) < (s.size : Int) := by omega
  have H := Lib.hid hs
  clear hs
  go_enter Tryz.func138, Tryz.ntmps138
  go_wp2_with fail
  go_quiet (fail)
  go_wp2
  go_ret
  refine ⟨u64_eq ?_, ⟨_, rfl⟩⟩
  rw [word8 _ _ _ _ _ _ _ _ (UInt8.toNat_lt _) (UInt8.toNat_lt _) (UInt8.toNat_lt _) (UInt8.toNat_lt _) (UInt8.toNat_lt _) (UInt8.toNat_lt _) (UInt8.toNat_lt _) (UInt8.toNat_lt _)]
  have hl : s.data.toList = [s[0], s[1], s[2], s[3], s[4], s[5], s[6], s[7]] := by
    exact list8 _ (by rw [← Lib.size_eq]; exact H.out)
  rw [hl]
  simp [beVal]

theorem shl8 (m : Nat) (c : UInt8) (h : m < 72057594037927936) :
    bits .or .u64 (IntKind.u64.wrap ((m : Int) * 256)) (IntKind.u64.wrap (c.toNat : Int)) = ((m * 256 + c.toNat : Nat) : Int) := by
  have hc : c.toNat < 256 := c.toNat_lt
  rw [wrapU c.toNat (by omega)]
  have e : IntKind.u64.wrap ((m : Int) * 256) = ((m * 256 : Nat) : Int) := wrapU_mul m 256 _ rfl (by omega)
  rw [e, orU 8 _ _ (by omega) (by omega) (by omega) (by omega)]
theorem take_snocB (s : ByteArray) (k : Nat) (h : k < s.size) : s.data.toList.take (k + 1) = s.data.toList.take k ++ [s[k]] := by
  rw [List.take_succ_eq_append_getElem (by rw [← Lib.size_eq]; exact h)]; rfl
theorem beVal_take_lt (s : ByteArray) (k : Nat) (h : k ≤ 7) : beVal (s.data.toList.take k) < 72057594037927936 := by
  have h1 := beVal_lt (s.data.toList.take k)
  have h2 : (s.data.toList.take k).length ≤ 7 := by rw [List.length_take]; omega
  exact Nat.lt_of_lt_of_le h1 (Nat.le_trans (Nat.pow_le_pow_right (by omega) h2) (by decide))

set_option maxHeartbeats 400000 in
theorem word_any (s : ByteArray) (w : World) (hs : s.size ≤ 8) :
    Calls Tryz.prog 98 #[.string s] w fun e w' => e = .returned (.int .u64 (beVal s.data.toList : Nat)) ∧ Drawn w w' := by
  by_cases h8 : s.size = 8
  · have H := Lib.hid h8
    have t1 : ((s.size : Int) == 8) = true := by simp [h8]
    clear h8
    go_enter Tryz.func98, Tryz.ntmps98
    go_wp2_with (go_at_call 138; refine (wholeWord_any s _ H.out).mono ?_; rintro e w' ⟨rfl, nq, rfl⟩)
    go_ret
    exact ⟨rfl, ⟨nq, rfl⟩⟩
  · have t1 : ((s.size : Int) == 8) = false := by rw [beq_eq_false_iff_ne]; omega
    have h7 : s.size ≤ 7 := by omega
    clear h8
    go_enter Tryz.func98, Tryz.ntmps98
    go_wp2
    go_loop [3, 12] (fun v i => ∃ k : Nat, k ≤ s.size ∧ i = .int .i64 k ∧ v = .int .u64 (beVal (s.data.toList.take k) : Nat)) (fun _ i => s.size - (intOf i).toNat)
    case atStart => exact ⟨0, Nat.zero_le _, rfl, rfl⟩
    case round =>
      obtain ⟨k, hk, rfl, rfl⟩ := hrel
      by_cases hlt : k < s.size
      · have h1 := Lib.hid (shl8 (beVal (s.data.toList.take k)) s[k] (beVal_take_lt s k (by omega)))
        have h2 := Lib.hid (take_snocB s k hlt)
        go_wp2
        go_round
        case rel => exact ⟨k + 1, by omega, by go_num, by rw [h2.out, beVal_snoc, ← h1.out]⟩
        case measure => simp [intOf]; omega
      · go_wp2
        go_ret
        exact ⟨u64_eq (by rw [List.take_of_length_le (by rw [← Lib.size_eq]; omega)]), ⟨0, rfl⟩⟩
end Go.Proofs.YtpdhffjdgnpikaaGreatDoor

namespace Go.Proofs.YtpdhffjdgnpikaaGreatDoor
open Go.RowKit

/-- The cells of a block up to a capacity are there, and are not frozen. -/
def Room (w : World) (b cap : Nat) : Prop := ∀ j, j < cap → (w.cell? ⟨b, j, none⟩).isSome = true ∧ w.frozen? ⟨b, j, none⟩ = false

theorem infoU : (Tryz.prog.info? 85).map (fun i => (i.zero, i.size, i.bytes)) = some (some (.int .u64 0), 1, 8) := by kernel_rfl
theorem infoB : (Tryz.prog.info? 5).map (fun i => (i.zero, i.size, i.bytes)) = some (some (.int .u8 0), 1, 1) := by kernel_rfl


/-- A new row of at least k cells behind one draw. -/
def NewRow (w : World) (T : TypeId) (k : Nat) (e : Ending) (w' : World) : Prop :=
  ∃ (cap : Nat) (arr : Array Value), e = .returned (.slice (some ⟨w.heap.size, 0, none⟩) 0 cap) ∧ k ≤ cap ∧ cap ≤ maxLen ∧ arr.size = cap ∧ w' = w.drew.alloc (.cells arr T)

theorem cells_of (w : World) (b c : Nat) (h : ∀ j, j < c → (w.cell? ⟨b, j, none⟩).isSome = true) : ∃ cs : List Value, cs.length = c ∧ ∀ j v, cs[j]? = some v → w.cell? ⟨b, j, none⟩ = some v := by
  refine ⟨(List.range c).map fun j => (w.cell? ⟨b, j, none⟩).getD undef, by simp, fun j v hv => ?_⟩
  rw [List.getElem?_map] at hv
  by_cases hj : j < c
  · rw [List.getElem?_range hj] at hv
    have h1 := h j hj
    cases hw : w.cell? ⟨b, j, none⟩ with
    | none => rw [hw] at h1; cases h1
    | some x => rw [Option.map_some, hw] at hv; simpa using hv
  · rw [List.getElem?_eq_none (by simp; omega)] at hv; simp at hv

set_option maxHeartbeats 1000000 in
set_option maxRecDepth 100000 in
theorem growU_room (p : Option Addr) (c k : Nat) (w : World) (hc : c ≤ 1048576) (hk : k ≤ c) :
    Calls Tryz.prog 142 #[.slice p 0 c, .int .i64 k] w fun e w' => e = .returned (.slice p 0 c) ∧ w = w' := by
  have h1 : ¬ ((k : Int) < 0) := by omega
  have h3 : wrap64 ((k : Int) - (c : Int)) = (k : Int) - (c : Int) := by unfold wrap64; omega
  have h4 : ¬ ((k : Int) - (c : Int) > 0) := by omega
  go_enter Tryz.func142, Tryz.ntmps142
  go_wp2
  go_ret
  exact ⟨rfl, rfl⟩

set_option maxHeartbeats 1000000 in
set_option maxRecDepth 100000 in
theorem growU_grow (b c k : Nat) (w : World) (hc : c ≤ 1048576) (hk : c < k) (hk' : k ≤ 1048576) (hcs : ∀ j, j < c → (w.cell? ⟨b, j, none⟩).isSome = true) :
    Calls Tryz.prog 142 #[.slice (some ⟨b, 0, none⟩) 0 c, .int .i64 k] w (NewRow w 85 k) := by
  obtain ⟨i0, hi0, hz0, hz1, hz2⟩ := info_parts infoU
  have h1 : ¬ ((k : Int) < 0) := by omega
  have h3 : wrap64 ((k : Int) - (c : Int)) = (k : Int) - (c : Int) := by unfold wrap64; omega
  have h4 : (k : Int) - (c : Int) > 0 := by omega
  obtain ⟨cs, hcl, hcell⟩ := cells_of w b c hcs
  have hold : (Builtin.firstCells i0.size c (.slice (some ⟨b, 0, none⟩) c c)).run Tryz.prog w.drew = .ok cs.toArray w.drew :=
    run_firstCells_some w.drew i0.size c ⟨b, 0, none⟩ c c cs (by rw [hcl, hz1]; omega) (fun j v hj => by
      have := hcell j v hj
      rw [Addr.add_lit, Nat.zero_add]; exact this)
  have hrz : ∀ ty, (Builtin.append_ #[89, 3] ty #[.slice (some ⟨b, 0, none⟩) c c, .int .i64 ((k : Int) - (c : Int))]).run Tryz.prog w =
      .ok (.slice (some ⟨w.heap.size, 0, none⟩) k (grownCap w k c 85)) (w.drew.alloc (.cells (cs.toArray ++ Builtin.zeroCells (.int .u64 0 : Value).cells (k - c) ++ Builtin.zeroCells (.int .u64 0 : Value).cells (grownCap w k c 85 - k)) 85)) := fun ty => by
    have h := Lib.run_append_grow_zeros w 89 3 ty 85 i0 (.int .u64 0) .i64 .i64 Tryz.underlying89 Tryz.underlying3 hi0 hz0 (some ⟨b, 0, none⟩) c c cs hold (k - c) (by omega) (by omega) (by omega) (by omega)
      (by rw [hz2]; omega) (by rw [show c + (k - c) = k by omega, hz2]; exact growslice_fits hk (by omega))
    rw [show c + (k - c) = k by omega] at h
    rw [show (k : Int) - (c : Int) = ((k - c : Nat) : Int) by omega]
    exact h
  have hGn : k ≤ grownCap w k c 85 := grownCap_ge w _ _ _
  have hG63 := grownCap_le_maxLen w k c 85 (by unfold maxLen; omega)
  obtain ⟨G, hG⟩ : ∃ G, G = grownCap w k c 85 := ⟨_, rfl⟩
  rw [← hG] at hrz hGn hG63
  obtain ⟨arr, harr⟩ : ∃ arr, arr = (cs.toArray ++ Builtin.zeroCells (.int .u64 0 : Value).cells (k - c) ++ Builtin.zeroCells (.int .u64 0 : Value).cells (G - k)) := ⟨_, rfl⟩
  have hsz : arr.size = G := by
    rw [harr]
    simp only [Array.size_append, size_zeroCells, List.size_toArray, hcl, Value.cells]
    simp; omega
  rw [← harr] at hrz
  have HS := Lib.hid hsz
  have HM := Lib.hid hG63
  clear hold hG hcell hsz harr hG63 hcl hcs hi0 hz0 hz1 hz2
  go_enter Tryz.func142, Tryz.ntmps142
  go_wp2_with (at_builtin; refine Lib.wpList_append_run _ rfl _ _ _ _ rfl _ _ rfl rfl _ _ (hrz _) ?_)
  go_ret
  exact ⟨G, arr, rfl, hGn, HM.out, HS.out, rfl⟩

set_option maxHeartbeats 1000000 in
set_option maxRecDepth 100000 in
theorem growB_room (p : Option Addr) (c k : Nat) (w : World) (hc : c ≤ 1048576) (hk : k ≤ c) :
    Calls Tryz.prog 169 #[.slice p 0 c, .int .i64 k] w fun e w' => e = .returned (.slice p 0 c) ∧ w = w' := by
  have h1 : ¬ ((k : Int) < 0) := by omega
  have h3 : wrap64 ((k : Int) - (c : Int)) = (k : Int) - (c : Int) := by unfold wrap64; omega
  have h4 : ¬ ((k : Int) - (c : Int) > 0) := by omega
  go_enter Tryz.func169, Tryz.ntmps169
  go_wp2
  go_ret
  exact ⟨rfl, rfl⟩

set_option maxHeartbeats 1000000 in
set_option maxRecDepth 100000 in
theorem growB_grow (b c k : Nat) (w : World) (hc : c ≤ 1048576) (hk : c < k) (hk' : k ≤ 1048576) (hcs : ∀ j, j < c → (w.cell? ⟨b, j, none⟩).isSome = true) :
    Calls Tryz.prog 169 #[.slice (some ⟨b, 0, none⟩) 0 c, .int .i64 k] w (NewRow w 5 k) := by
  obtain ⟨i0, hi0, hz0, hz1, hz2⟩ := info_parts infoB
  have h1 : ¬ ((k : Int) < 0) := by omega
  have h3 : wrap64 ((k : Int) - (c : Int)) = (k : Int) - (c : Int) := by unfold wrap64; omega
  have h4 : (k : Int) - (c : Int) > 0 := by omega
  obtain ⟨cs, hcl, hcell⟩ := cells_of w b c hcs
  have hold : (Builtin.firstCells i0.size c (.slice (some ⟨b, 0, none⟩) c c)).run Tryz.prog w.drew = .ok cs.toArray w.drew :=
    run_firstCells_some w.drew i0.size c ⟨b, 0, none⟩ c c cs (by rw [hcl, hz1]; omega) (fun j v hj => by
      have := hcell j v hj
      rw [Addr.add_lit, Nat.zero_add]; exact this)
  have hrz : ∀ ty, (Builtin.append_ #[110, 3] ty #[.slice (some ⟨b, 0, none⟩) c c, .int .i64 ((k : Int) - (c : Int))]).run Tryz.prog w =
      .ok (.slice (some ⟨w.heap.size, 0, none⟩) k (grownCap w k c 5)) (w.drew.alloc (.cells (cs.toArray ++ Builtin.zeroCells (.int .u8 0 : Value).cells (k - c) ++ Builtin.zeroCells (.int .u8 0 : Value).cells (grownCap w k c 5 - k)) 5)) := fun ty => by
    have h := Lib.run_append_grow_zeros w 110 3 ty 5 i0 (.int .u8 0) .i64 .i64 Tryz.underlying110 Tryz.underlying3 hi0 hz0 (some ⟨b, 0, none⟩) c c cs hold (k - c) (by omega) (by omega) (by omega) (by omega)
      (by rw [hz2]; omega) (by rw [show c + (k - c) = k by omega, hz2]; exact growslice_fits hk (by omega))
    rw [show c + (k - c) = k by omega] at h
    rw [show (k : Int) - (c : Int) = ((k - c : Nat) : Int) by omega]
    exact h
  have hGn : k ≤ grownCap w k c 5 := grownCap_ge w _ _ _
  have hG63 := grownCap_le_maxLen w k c 5 (by unfold maxLen; omega)
  obtain ⟨G, hG⟩ : ∃ G, G = grownCap w k c 5 := ⟨_, rfl⟩
  rw [← hG] at hrz hGn hG63
  obtain ⟨arr, harr⟩ : ∃ arr, arr = (cs.toArray ++ Builtin.zeroCells (.int .u8 0 : Value).cells (k - c) ++ Builtin.zeroCells (.int .u8 0 : Value).cells (G - k)) := ⟨_, rfl⟩
  have hsz : arr.size = G := by
    rw [harr]
    simp only [Array.size_append, size_zeroCells, List.size_toArray, hcl, Value.cells]
    simp; omega
  rw [← harr] at hrz
  have HS := Lib.hid hsz
  have HM := Lib.hid hG63
  clear hold hG hcell hsz harr hG63 hcl hcs hi0 hz0 hz1 hz2
  go_enter Tryz.func169, Tryz.ntmps169
  go_wp2_with (at_builtin; refine Lib.wpList_append_run _ rfl _ _ _ _ rfl _ _ rfl rfl _ _ (hrz _) ?_)
  go_ret
  exact ⟨G, arr, rfl, hGn, HM.out, HS.out, rfl⟩

/-- Room for k cells, in block b or in a new one. -/
def Made (w : World) (b k : Nat) (e : Ending) (w' : World) : Prop :=
  ∃ g cap, e = .returned (.slice (some ⟨g, 0, none⟩) 0 cap) ∧ k ≤ cap ∧ cap ≤ maxLen ∧ Room w' g cap ∧ (g = b ∨ w.heap.size ≤ g) ∧ Below w.heap.size w w'

theorem made_of_new {w w' : World} {T : TypeId} {b k : Nat} {e : Ending} (h : NewRow w T k e w') : Made w b k e w' := by
  obtain ⟨cap, arr, rfl, h1, h2, h3, rfl⟩ := h
  refine ⟨w.heap.size, cap, rfl, h1, h2, fun j hj => ?_, .inr (Nat.le_refl _), (Below.refl _ _).drew.alloc (Nat.le_refl _) _⟩
  have hh := heap_alloc_new w.drew (.cells arr T)
  have hsz : w.drew.heap.size = w.heap.size := rfl
  rw [hsz] at hh
  constructor
  · simp only [World.cell?, hh]
    simp; omega
  · simp only [World.frozen?, hh]
    simp

theorem growU_mem (b c k : Nat) (w : World) (hc : c ≤ 1048576) (hk' : k ≤ 1048576) (hr : Room w b c) :
    Calls Tryz.prog 142 #[.slice (some ⟨b, 0, none⟩) 0 c, .int .i64 k] w (Made w b k) := by
  by_cases hk : k ≤ c
  · refine (growU_room (some ⟨b, 0, none⟩) c k w hc hk).mono ?_
    rintro e w' ⟨rfl, rfl⟩
    exact ⟨b, c, rfl, hk, by unfold maxLen; omega, hr, .inl rfl, Below.refl _ _⟩
  · refine (growU_grow b c k w hc (by omega) hk' (fun j hj => (hr j hj).1)).mono ?_
    intro e w' h
    exact made_of_new h
theorem growB_mem (b c k : Nat) (w : World) (hc : c ≤ 1048576) (hk' : k ≤ 1048576) (hr : Room w b c) :
    Calls Tryz.prog 169 #[.slice (some ⟨b, 0, none⟩) 0 c, .int .i64 k] w (Made w b k) := by
  by_cases hk : k ≤ c
  · refine (growB_room (some ⟨b, 0, none⟩) c k w hc hk).mono ?_
    rintro e w' ⟨rfl, rfl⟩
    exact ⟨b, c, rfl, hk, by unfold maxLen; omega, hr, .inl rfl, Below.refl _ _⟩
  · refine (growB_grow b c k w hc (by omega) hk' (fun j hj => (hr j hj).1)).mono ?_
    intro e w' h
    exact made_of_new h
end Go.Proofs.YtpdhffjdgnpikaaGreatDoor

namespace Go.Proofs.YtpdhffjdgnpikaaGreatDoor
open Go.RowKit

/-- A slice over the words of a number, in block b or a new one; no other block has turned. -/
def Loaded (w : World) (b n : Nat) (e : Ending) (w' : World) : Prop :=
  ∃ g cap, e = .returned (.slice (some ⟨g, 0, none⟩) (nw n).length cap) ∧ (nw n).length ≤ cap ∧ cap ≤ maxLen ∧ Row w' g 0 (nw n) ∧ (g = b ∨ w.heap.size ≤ g) ∧ w.grownBy w' (some b)

theorem grown_set (W : World) (g o : Nat) (v : Value) : W.grownBy (W.setCell ⟨g, o, none⟩ v) (some g) :=
  ⟨rfl, rfl, rfl, by simp [World.setCell], fun k _ hne => Below.heap_setCell _ _ _ _ (fun e => hne (by rw [e]))⟩
theorem grown_draws (W : World) (n : Nat) (r : Option Nat) : W.grownBy (W.drewN n) r := ⟨rfl, rfl, rfl, Nat.le_refl _, fun _ _ _ => rfl⟩
theorem grown_trans {a b c : World} {r : Option Nat} (h : a.grownBy b r) (k : b.grownBy c r) : a.grownBy c r :=
  ⟨k.os.trans h.os, k.tape.trans h.tape, k.output.trans h.output, Nat.le_trans h.size k.size, fun i hi hr => (k.block i (Nat.lt_of_lt_of_le hi h.size) hr).trans (h.block i hi hr)⟩
theorem room_lt {w : World} {g cap : Nat} (h : Room w g cap) (h0 : 0 < cap) : g < w.heap.size := by
  have h1 := (h 0 h0).1
  cases hc : w.cell? ⟨g, 0, none⟩ with
  | none => rw [hc] at h1; cases h1
  | some x => exact World.block_lt_of_cell? w _ hc
theorem Room.below {w w' : World} {g cap B : Nat} (h : Room w g cap) (hb : Below B w w') (hB : g < B) : Room w' g cap := fun j hj => by
  rw [hb.cell (p := ⟨g, j, none⟩) hB, hb.frozen (p := ⟨g, j, none⟩) hB]; exact h j hj
theorem Room.set {w : World} {g cap o : Nat} {v : Value} (h : Room w g cap) (_ho : o < cap) : Room (w.setCell ⟨g, o, none⟩ v) g cap := fun j hj => by
  rw [World.frozen?_setCell]
  refine ⟨?_, (h j hj).2⟩
  by_cases hjo : o = j
  · subst hjo
    rw [World.cell?_setCell_same' _ _ _ (h o hj).1]; rfl
  · rw [World.cell?_setCell_other _ _ _ _ (by intro e; cases e; exact hjo rfl)]; exact (h j hj).1
theorem Row.push {w : World} {g cap : Nat} {ws : List Nat} (h : Row w g 0 ws) (hr : Room w g cap) (hlt : ws.length < cap) (v : Nat) : Row (w.setCell ⟨g, ws.length, none⟩ (.int .u64 v)) g 0 (ws ++ [v]) := by
  intro j hj
  rw [World.frozen?_setCell, Nat.zero_add]
  rw [List.length_append, List.length_singleton] at hj
  by_cases hjo : j < ws.length
  · rw [World.cell?_setCell_other _ _ _ _ (by intro e; have := congrArg Addr.off e; simp at this; omega)]
    rw [List.getD_eq_getElem?_getD, List.getElem?_append_left hjo, ← List.getD_eq_getElem?_getD]
    have := h j hjo
    rw [Nat.zero_add] at this
    exact this
  · have hj' : j = ws.length := by omega
    subst hj'
    rw [World.cell?_setCell_same' _ _ _ (hr ws.length hlt).1]
    exact ⟨by simp, (hr ws.length hlt).2⟩
theorem below_draws (w : World) (n B : Nat) : Below B w (w.drewN n) := ⟨rfl, rfl, rfl, Nat.le_refl _, fun _ _ => rfl⟩
/-- One word more, appended within the capacity. -/
theorem push_all {w1 wr W : World} {g cap : Nat} {ws : List Nat} (hrow : Row wr g 0 ws) (hrm : Room wr g cap) (hlt : ws.length < cap) (hgr : w1.grownBy wr (some g)) (hb : Below wr.heap.size wr W) (v : Nat) :
    Row (W.setCell ⟨g, ws.length, none⟩ (.int .u64 v)) g 0 (ws ++ [v]) ∧ Room (W.setCell ⟨g, ws.length, none⟩ (.int .u64 v)) g cap ∧ w1.grownBy (W.setCell ⟨g, ws.length, none⟩ (.int .u64 v)) (some g) := by
  have hg := room_lt hrm (by omega)
  exact ⟨(hrow.below hb hg).push (hrm.below hb hg) hlt v, (hrm.below hb hg).set hlt,
    grown_trans hgr (grown_trans ⟨hb.os, hb.tape, hb.output, hb.size, fun k hk _ => hb.block k hk⟩ (grown_set _ _ _ _))⟩

theorem loaded_of {w w1 wr : World} {b g cap : Nat} {s : ByteArray} {ws : List Nat} (hws : ws = ld s.data.toList) (hld : wv (ld s.data.toList) = beVal s.data.toList ∧ Ok (ld s.data.toList) ∧ (ld s.data.toList).length = (s.data.toList.length + 7) / 8)
    (hrow : Row wr g 0 ws) (hlen : ws.length ≤ cap) (hmax : cap ≤ maxLen) (hb : Below w.heap.size w w1) (hg : g = b ∨ w.heap.size ≤ g) (hgr : w1.grownBy wr (some g)) :
    Loaded w b (beVal s.data.toList) (.returned (.slice (some ⟨g, 0, none⟩) (trimW ws) cap)) wr := by
  have hok : Ok ws := by rw [hws]; exact hld.2.1
  have e : nw (beVal s.data.toList) = ws.take (trimW ws) := by rw [take_trimW ws hok, hws, hld.1]
  have hl : (nw (beVal s.data.toList)).length = trimW ws := by rw [e, List.length_take]; have := trimW_le ws; omega
  refine ⟨g, cap, by rw [hl], by rw [hl]; have := trimW_le ws; omega, hmax, by rw [e]; exact hrow.take _, hg, ?_⟩
  exact ⟨hgr.os.trans hb.os, hgr.tape.trans hb.tape, hgr.output.trans hb.output, Nat.le_trans hb.size hgr.size, fun k hk hne =>
    (hgr.block k (Nat.lt_of_lt_of_le hk hb.size) (fun e => by
      have e' : k = g := Option.some.inj e
      rcases hg with h | h
      · exact hne (by rw [e', h])
      · omega)).trans (hb.block k hk)⟩

set_option maxHeartbeats 1000000 in
set_option maxRecDepth 100000 in
theorem load_any (b : Nat) (s : ByteArray) (w : World) (hs : s.size ≤ 1048576) (hroom : Room w b 16) :
    Calls Tryz.prog 104 #[.pointer (some ⟨b, 0, none⟩), .string s] w (Loaded w b (beVal s.data.toList)) := by
  have HR := Lib.hid hroom
  clear hroom
  go_enter Tryz.func104, Tryz.ntmps104
  go_wp2_with fail
  rw [show ((s.size : Int) + 8 - 1) / 8 = (((s.size + 7) / 8 : Nat) : Int) by omega]
  refine (growU_mem b 16 ((s.size + 7) / 8) w (by omega) (by omega) HR.out).mono ?_
  rintro e w1 ⟨g, cap, rfl, hcap, hmax, hroom1, hg, hbel⟩
  have HB := Lib.hid hbel
  have HG := Lib.hid hg
  have HR1 := Lib.hid hroom1
  clear hbel hg hroom1
  unfold maxLen at hmax
  go_wp2_with fail
  go_loopw [1, 5] (fun a x wr => ∃ (t : ByteArray) (ws : List Nat), a = .string t ∧ t.size ≤ s.size ∧ x = .slice (some ⟨g, 0, none⟩) ws.length cap ∧ ws ++ ld t.data.toList = ld s.data.toList ∧ Row wr g 0 ws ∧ Room wr g cap ∧ w1.grownBy wr (some g)) (fun a _ _ => strLen a)
  case atStart => exact ⟨s, [], rfl, Nat.le_refl _, rfl, rfl, fun j hj => by simp at hj, HR1.out, World.grownBy.refl _ _⟩
  case round =>
    obtain ⟨t, ws, rfl, hts, rfl, hws, hrow, hrm, hgr⟩ := hrel
    have HW := Lib.hid hws
    have HROW := Lib.hid hrow
    have HRM := Lib.hid hrm
    have HGR := Lib.hid hgr
    clear hws hrow hrm hgr
    by_cases h0 : t.size = 0
    · have hnil : t.data.toList = [] := List.eq_nil_of_length_eq_zero (by rw [← Lib.size_eq]; exact h0)
      have hemp : t.toList.isEmpty = true := by rw [Lib.toList_data, hnil]; rfl
      clear h0
      have hws : ws = ld s.data.toList := by rw [← HW.out, hnil, ld_nil, List.append_nil]
      have hld := wv_ld s.data.toList
      have hlen : ws.length ≤ cap := by rw [hws, hld.2.2, ← Lib.size_eq]; exact hcap
      have hlen2 : ws.length ≤ 1048576 := by rw [hws, hld.2.2, ← Lib.size_eq]; omega
      have HH := Lib.hid hws
      have HL := Lib.hid hld
      clear hws hld hnil
      go_wp2_with fail
      refine (trim_any (some ⟨g, 0, none⟩) ws cap wr (.inr ⟨g, 0, rfl, HROW.out⟩) hlen2 hlen (by unfold maxLen; exact hmax)).mono ?_
      rintro e w2 ⟨rfl, rfl⟩
      go_wp2_with fail
      go_ret
      exact loaded_of HH.out HL.out HROW.out (by omega) (by unfold maxLen; exact hmax) HB.out HG.out HGR.out
    · have hemp : t.toList.isEmpty = false := by
        rw [Lib.toList_data]
        cases hl : t.data.toList with
        | nil => exact absurd (by rw [Lib.size_eq, hl]; rfl) h0
        | cons _ _ => rfl
      have hpos : 0 < t.size := by omega
      clear h0
      obtain ⟨cut, hcut⟩ : ∃ cut, cut = t.size - 8 := ⟨_, rfl⟩
      have hc1 : cut < t.size := by omega
      have hc2 : t.size ≤ cut + 8 := by omega
      have HC := Lib.hid hcut
      go_wp2_with fail
      rw [show max ((t.size : Int) - 8) 0 = (cut : Int) by omega]
      simp only [Int.toNat_natCast]
      clear hcut
      have hwd := word_any (t.extract cut t.size) wr (by simp; omega)
      obtain ⟨v, hv⟩ : ∃ v, v = beVal (t.extract cut t.size).data.toList := ⟨_, rfl⟩
      rw [← hv] at hwd
      have HV := Lib.hid hv
      clear hv
      refine hwd.mono ?_
      clear hwd
      rintro e w2 ⟨rfl, nq, rfl⟩
      have hlt : ws.length < cap := by
        have h1 := (wv_ld s.data.toList).2.2
        have h2 : (ld t.data.toList).length = (t.size + 7) / 8 := by rw [(wv_ld t.data.toList).2.2, ← Lib.size_eq]
        have h3 := congrArg List.length HW.out
        rw [List.length_append, h1, h2, ← Lib.size_eq] at h3
        omega
      have HP := Lib.hid hlt
      have HRW : ∀ O, Room ((wr.drewN nq).alloc O) g cap := fun O => (HRM.out).below (B := wr.heap.size) (((Below.refl _ wr).trans (below_draws wr nq _)).alloc (Nat.le_refl _) O) (room_lt HRM.out (by omega))
      have HPA := fun O => push_all HROW.out HRM.out hlt HGR.out (W := (wr.drewN nq).alloc O) (((Below.refl _ wr).trans (below_draws wr nq _)).alloc (Nat.le_refl _) O) v
      have HQ := Lib.hid HPA
      have HRWh := Lib.hid HRW
      clear HPA HRW
      go_wp2_with (at_builtin; refine wpList_append_room1 _ rfl _ _ 89 89 rfl 85 _ 8 Tryz.underlying89 infoU g 0 ws.length cap rfl _ rfl 1 [.int .u64 v] ?src ?room ?cc ?ff ?_)
      case src => exact Src.ofSlice _ Tryz.underlying89 ⟨wr.heap.size, 0, none⟩ 1 1 _ rfl (cell_one_new _ _ _) (by simp [Value.oneCell'])
      case room => omega
      case cc => (intro j hj; obtain rfl : j = 0 := by simpa using hj); rw [Nat.zero_add, Nat.add_zero]; exact (HRWh.out _ ws.length HP.out).1
      case ff => (intro j hj; obtain rfl : j = 0 := by simpa using hj); rw [Nat.zero_add, Nat.add_zero]; exact (HRWh.out _ ws.length HP.out).2
      go_roundw
      case rel =>
        refine ⟨t.extract 0 cut, ws ++ [v], rfl, by simp; omega, by simp, ?_, (HQ.out _).1, (HQ.out _).2.1, (HQ.out _).2.2⟩
        have hne : t.data.toList ≠ [] := fun h => by rw [Lib.size_eq, h] at hpos; simp at hpos
        rw [← HW.out, ld_step t.data.toList hne, HV.out, Lib.extract_data, Lib.extract_data, ← Lib.size_eq, HC.out, List.drop_zero, Nat.sub_zero, List.append_assoc, List.take_of_length_le (by rw [List.length_drop, ← Lib.size_eq]; exact Nat.le_refl _)]
        rfl
      case measure => simp [strLen]; omega
end Go.Proofs.YtpdhffjdgnpikaaGreatDoor

namespace Go.Proofs.YtpdhffjdgnpikaaGreatDoor
open Go.RowKit

/-- 2^64. -/
def WW : Nat := 18446744073709551616
theorem WW_eq : WW = 18446744073709551616 := rfl

set_option maxHeartbeats 1000000 in
theorem mul64_any (x y : Nat) (hx : x < 18446744073709551616) (hy : y < 18446744073709551616) (w : World) :
    Calls Tryz.prog 213 #[.int .u64 x, .int .u64 y] w fun e w' => e = .returned (.tuple #[.int .u64 ((x * y / 18446744073709551616 : Nat) : Int), .int .u64 ((x * y % 18446744073709551616 : Nat) : Int)]) ∧ w = w' := by
  obtain ⟨bd, bt, bw, hhi⟩ := Lib.mul64_hi x y hx hy
  have ba := Lib.half_mul_le (a := x / 4294967296) (b := y / 4294967296) (by omega) (by omega)
  have bb := Lib.half_mul_le (a := x / 4294967296) (b := y % 4294967296) (by omega) (by omega)
  have bc := Lib.half_mul_le (a := x % 4294967296) (b := y / 4294967296) (by omega) (by omega)
  have ba' : x / 4294967296 * (y / 4294967296) < 18446744073709551616 := by omega
  have bb' : x / 4294967296 * (y % 4294967296) < 18446744073709551616 := by omega
  have bc' : x % 4294967296 * (y / 4294967296) < 18446744073709551616 := by omega
  have bh1 : x / 4294967296 * (y / 4294967296) + (x / 4294967296 * (y % 4294967296) + x % 4294967296 * (y % 4294967296) / 4294967296) / 4294967296 < 18446744073709551616 := by omega
  have bh : x / 4294967296 * (y / 4294967296) + (x / 4294967296 * (y % 4294967296) + x % 4294967296 * (y % 4294967296) / 4294967296) / 4294967296 + ((x / 4294967296 * (y % 4294967296) + x % 4294967296 * (y % 4294967296) / 4294967296) % 4294967296 + x % 4294967296 * (y / 4294967296)) / 4294967296 < 18446744073709551616 := by omega
  go_enter Tryz.func213, Tryz.ntmps213
  go_wp2
  simp only [Mul64.maskN x hx, Mul64.maskN y hy, Mul64.divN, Mul64.mulN, Mul64.addN, Mul64.wrapN _ bd, Mul64.wrapN _ bb', Mul64.wrapN _ bt, Mul64.maskN _ bt, Mul64.wrapN _ bc', Mul64.wrapN _ bw, Mul64.wrapN _ ba', Mul64.wrapN _ bh1, Mul64.wrapN _ bh, Mul64.wrapM (x * y)]
  rw [hhi]
  go_ret2
  exact ⟨rfl, rfl⟩

/-- A product in two words. -/
theorem mul64_ex (x y : Nat) (hx : x < 18446744073709551616) (hy : y < 18446744073709551616) :
    ∃ hi lo : Nat, x * y = lo + 18446744073709551616 * hi ∧ lo < 18446744073709551616 ∧ ∀ w : World,
      Calls Tryz.prog 213 #[.int .u64 x, .int .u64 y] w fun e w' => e = .returned (.tuple #[.int .u64 hi, .int .u64 lo]) ∧ w = w' :=
  ⟨x * y / 18446744073709551616, x * y % 18446744073709551616, by omega, by omega, fun w => mul64_any x y hx hy w⟩

theorem add64_run (x y c : Nat) (hc : c ≤ 1) (w : World) :
    (callFunc 185 #[.int .u64 x, .int .u64 y, .int .u64 c]).run Tryz.prog w =
      .ok (.value (.tuple #[.int .u64 (((x + y + c) % 18446744073709551616 : Nat) : Int), .int .u64 (((x + y + c) / 18446744073709551616 : Nat) : Int)])) w := by
  rw [run_callFunc_extern Tryz.func185 (by kernel_rfl) (by kernel_rfl) (by kernel_rfl) (e := add64Entry) (by kernel_rfl), run_add64 x y c (by omega) (by omega) (by omega) (by omega)]
  simp only [Result.andThen]
  congr 5 <;> omega
theorem sub64_run (x y b : Nat) (hb : b ≤ 1) (w : World) :
    (callFunc 186 #[.int .u64 x, .int .u64 y, .int .u64 b]).run Tryz.prog w =
      .ok (.value (.tuple #[.int .u64 (((x + 18446744073709551616 - y - b) % 18446744073709551616 : Nat) : Int), .int .u64 ((if x < y + b then 1 else 0 : Nat) : Int)])) w := by
  rw [run_callFunc_extern Tryz.func186 (by kernel_rfl) (by kernel_rfl) (by kernel_rfl) (e := sub64Entry) (by kernel_rfl), run_sub64 x y b hb]
  rfl
/-- A sum in two words. -/
theorem add64_ex (x y c : Nat) (hx : x < 18446744073709551616) (hy : y < 18446744073709551616) (hc : c ≤ 1) :
    ∃ s k : Nat, x + y + c = s + 18446744073709551616 * k ∧ s < 18446744073709551616 ∧ k ≤ 1 ∧ ∀ w : World,
      (callFunc 185 #[.int .u64 x, .int .u64 y, .int .u64 c]).run Tryz.prog w = .ok (.value (.tuple #[.int .u64 s, .int .u64 k])) w :=
  ⟨(x + y + c) % 18446744073709551616, (x + y + c) / 18446744073709551616, by omega, by omega, by omega, fun w => add64_run x y c hc w⟩
theorem add64_ex0 (x y : Nat) (hx : x < 18446744073709551616) (hy : y < 18446744073709551616) :
    ∃ s k : Nat, x + y = s + 18446744073709551616 * k ∧ s < 18446744073709551616 ∧ k ≤ 1 ∧ ∀ w : World,
      (callFunc 185 #[.int .u64 x, .int .u64 y, .int .u64 0]).run Tryz.prog w = .ok (.value (.tuple #[.int .u64 s, .int .u64 k])) w := add64_ex x y 0 hx hy (by omega)
/-- A difference in two words. -/
theorem sub64_ex (x y c : Nat) (hx : x < 18446744073709551616) (hy : y < 18446744073709551616) (hc : c ≤ 1) :
    ∃ s k : Nat, x + 18446744073709551616 * k = s + y + c ∧ s < 18446744073709551616 ∧ k ≤ 1 ∧ ∀ w : World,
      (callFunc 186 #[.int .u64 x, .int .u64 y, .int .u64 c]).run Tryz.prog w = .ok (.value (.tuple #[.int .u64 s, .int .u64 k])) w := by
  refine ⟨(x + 18446744073709551616 - y - c) % 18446744073709551616, if x < y + c then 1 else 0, ?_, by omega, by split <;> omega, fun w => sub64_run x y c hc w⟩
  split <;> omega
theorem sub64_ex0 (x y : Nat) (hx : x < 18446744073709551616) (hy : y < 18446744073709551616) :
    ∃ s k : Nat, x + 18446744073709551616 * k = s + y ∧ s < 18446744073709551616 ∧ k ≤ 1 ∧ ∀ w : World,
      (callFunc 186 #[.int .u64 x, .int .u64 y, .int .u64 0]).run Tryz.prog w = .ok (.value (.tuple #[.int .u64 s, .int .u64 k])) w := sub64_ex x y 0 hx hy (by omega)
/-- A sum that fits. -/
theorem addW_ex (x y : Nat) (h : x + y < 18446744073709551616) : ∃ s : Nat, s = x + y ∧ IntKind.u64.wrap ((x : Int) + (y : Int)) = (s : Int) :=
  ⟨x + y, rfl, by rw [← Int.natCast_add]; exact wrapU _ h⟩

/-- One word's step of a multiplication that adds. -/
theorem hi_fits (d q hi lo c1 : Nat) (hd : d < 18446744073709551616) (hq : q < 18446744073709551616) (h : d * q = lo + 18446744073709551616 * hi) (hc : c1 ≤ 1) : hi + c1 < 18446744073709551616 := by
  have h1 : d * q ≤ 18446744073709551615 * 18446744073709551615 := Nat.mul_le_mul (by omega) (by omega)
  omega
theorem step_fits (d q hi lo cy s1 c1 t s2 c2 : Nat) (hd : d < 18446744073709551616) (hq : q < 18446744073709551616) (hcy : cy < 18446744073709551616) (ht : t < 18446744073709551616)
    (h : d * q = lo + 18446744073709551616 * hi) (h1 : lo + cy = s1 + 18446744073709551616 * c1) (h2 : s1 + t = s2 + 18446744073709551616 * c2) : hi + c1 + c2 < 18446744073709551616 := by
  have h3 : d * q ≤ 18446744073709551615 * 18446744073709551615 := Nat.mul_le_mul (by omega) (by omega)
  omega
theorem step_sum (P d q hi lo cy s1 c1 t s2 c2 a b e : Nat)
    (h : d * q = lo + 18446744073709551616 * hi) (h1 : lo + cy = s1 + 18446744073709551616 * c1) (h2 : s1 + t = s2 + 18446744073709551616 * c2) (he : a + P * cy = b + q * e) :
    (a + P * s2) + P * 18446744073709551616 * (hi + c1 + c2) = (b + P * t) + q * (e + P * d) := by
  have e1 : s2 + 18446744073709551616 * (hi + c1 + c2) = t + d * q + cy := by omega
  have e2 := congrArg (P * ·) e1
  simp only [Nat.mul_add, ← Nat.mul_assoc] at e2 ⊢
  have e3 : P * d * q = q * P * d := by rw [Nat.mul_comm (P * d) q, Nat.mul_assoc]
  omega
end Go.Proofs.YtpdhffjdgnpikaaGreatDoor

namespace Go.Proofs.YtpdhffjdgnpikaaGreatDoor
open Go.RowKit

/-- Only cells from off to off + n of block b may have turned; new blocks may have been made. -/
structure Touch (w w' : World) (b off n : Nat) : Prop where
  grown : w.grownBy w' (some b)
  cell : ∀ o, o < off ∨ off + n ≤ o → w'.cell? ⟨b, o, none⟩ = w.cell? ⟨b, o, none⟩
  frozen : ∀ o, w'.frozen? ⟨b, o, none⟩ = w.frozen? ⟨b, o, none⟩

theorem Touch.refl (w : World) (b off n : Nat) : Touch w w b off n := ⟨World.grownBy.refl _ _, fun _ _ => rfl, fun _ => rfl⟩
theorem Touch.trans {a b' c : World} {b off n : Nat} (h : Touch a b' b off n) (k : Touch b' c b off n) : Touch a c b off n :=
  ⟨grown_trans h.grown k.grown, fun o ho => (k.cell o ho).trans (h.cell o ho), fun o => (k.frozen o).trans (h.frozen o)⟩
theorem Touch.wider {w w' : World} {b off n off' n' : Nat} (h : Touch w w' b off n) (h1 : off' ≤ off) (h2 : off + n ≤ off' + n') : Touch w w' b off' n' :=
  ⟨h.grown, fun o ho => h.cell o (by omega), h.frozen⟩
theorem Touch.set {w w' : World} {b off n o : Nat} (h : Touch w w' b off n) (h1 : off ≤ o) (h2 : o < off + n) (v : Value) : Touch w (w'.setCell ⟨b, o, none⟩ v) b off n :=
  ⟨grown_trans h.grown (grown_set _ _ _ _), fun o' ho' => by
    rw [World.cell?_setCell_other _ _ _ _ (by intro e; have := congrArg Addr.off e; simp at this; omega)]; exact h.cell o' ho',
   fun o' => by rw [World.frozen?_setCell]; exact h.frozen o'⟩
theorem Touch.below {w w' w2 : World} {b off n : Nat} (h : Touch w w' b off n) (hb : Below w'.heap.size w' w2) (hlt : b < w.heap.size) : Touch w w2 b off n :=
  ⟨grown_trans h.grown ⟨hb.os, hb.tape, hb.output, hb.size, fun k hk _ => hb.block k hk⟩,
   fun o ho => (hb.cell (p := ⟨b, o, none⟩) (Nat.lt_of_lt_of_le hlt h.grown.size)).trans (h.cell o ho),
   fun o => (hb.frozen (p := ⟨b, o, none⟩) (Nat.lt_of_lt_of_le hlt h.grown.size)).trans (h.frozen o)⟩
/-- A row of another block. -/
theorem Row.touch {w w' : World} {b off n b' off' : Nat} {xs : List Nat} (h : Row w b' off' xs) (ht : Touch w w' b off n) (hne : b' ≠ b) : Row w' b' off' xs := fun j hj => by
  have hlt := h.lt (by omega)
  have hb := ht.grown.block b' hlt (fun e => hne (Option.some.inj e))
  rw [World.cell?_of_block (w := w) (a := ⟨b', off' + j, none⟩) hb, World.frozen?_of_block (w := w) (a := ⟨b', off' + j, none⟩) hb]
  exact h j hj
theorem Nt.touch {w w' : World} {b off n : Nat} {p : Option Addr} {xs : List Nat} (h : Nt w p xs) (ht : Touch w w' b off n) (hne : ∀ a, p = some a → a.block ≠ b) : Nt w' p xs := by
  rcases h with rfl | ⟨b', off', rfl, h⟩
  · exact .inl rfl
  · exact .inr ⟨b', off', rfl, h.touch ht (hne _ rfl)⟩
/-- A row of the same block, apart from what was touched. -/
theorem Row.apart {w w' : World} {b off n off' : Nat} {xs : List Nat} (h : Row w b off' xs) (ht : Touch w w' b off n) (hne : off' + xs.length ≤ off ∨ off + n ≤ off') : Row w' b off' xs := fun j hj => by
  rw [ht.cell _ (by omega), ht.frozen]; exact h j hj
theorem Row.set {w : World} {b off : Nat} {xs : List Nat} (h : Row w b off xs) (k v : Nat) (_hk : k < xs.length) : Row (w.setCell ⟨b, off + k, none⟩ (.int .u64 v)) b off (xs.set k v) := by
  intro j hj
  rw [List.length_set] at hj
  rw [World.frozen?_setCell]
  by_cases hjk : k = j
  · subst hjk
    rw [World.cell?_setCell_same' _ _ _ (by rw [(h k hj).1]; rfl)]
    refine ⟨?_, (h k hj).2⟩
    rw [List.getD_eq_getElem?_getD, List.getElem?_set_self hj]; rfl
  · rw [World.cell?_setCell_other _ _ _ _ (by intro e; have := congrArg Addr.off e; simp at this; omega)]
    rw [List.getD_eq_getElem?_getD, List.getElem?_set_ne hjk, ← List.getD_eq_getElem?_getD]
    exact h j hj
theorem Row.append {w : World} {b off : Nat} {xs ys : List Nat} (h : Row w b off xs) (h' : Row w b (off + xs.length) ys) : Row w b off (xs ++ ys) := by
  intro j hj
  rw [List.length_append] at hj
  by_cases hjx : j < xs.length
  · rw [List.getD_eq_getElem?_getD, List.getElem?_append_left hjx, ← List.getD_eq_getElem?_getD]; exact h j hjx
  · have := h' (j - xs.length) (by omega)
    rw [show off + xs.length + (j - xs.length) = off + j by omega] at this
    rw [List.getD_eq_getElem?_getD, List.getElem?_append_right (by omega), ← List.getD_eq_getElem?_getD]; exact this
theorem Row.left {w : World} {b off : Nat} {xs ys : List Nat} (h : Row w b off (xs ++ ys)) : Row w b off xs := by
  intro j hj
  have := h j (by rw [List.length_append]; omega)
  rwa [List.getD_eq_getElem?_getD, List.getElem?_append_left hj, ← List.getD_eq_getElem?_getD] at this
theorem Row.right {w : World} {b off : Nat} {xs ys : List Nat} (h : Row w b off (xs ++ ys)) : Row w b (off + xs.length) ys := by
  intro j hj
  have := h (xs.length + j) (by rw [List.length_append]; omega)
  rwa [List.getD_eq_getElem?_getD, List.getElem?_append_right (by omega), Nat.add_sub_cancel_left, ← List.getD_eq_getElem?_getD, ← Nat.add_assoc] at this
theorem Row.drop {w : World} {b off : Nat} {xs : List Nat} (h : Row w b off xs) (k : Nat) (hk : k ≤ xs.length) : Row w b (off + k) (xs.drop k) := by
  rw [← List.take_append_drop k xs] at h
  have := h.right
  rwa [List.length_take, Nat.min_eq_left hk] at this

theorem set_mid (ys ts : List Nat) (k v : Nat) (hy : ys.length = k) (hk : k < ts.length) : (ys ++ ts.drop k).set k v = (ys ++ [v]) ++ ts.drop (k + 1) := by
  rw [List.set_append_right _ _ (by omega), hy, Nat.sub_self, List.drop_eq_getElem_cons hk, List.set_cons_zero, List.append_assoc]; rfl
theorem mid_getD (ys ts : List Nat) (k : Nat) (hy : ys.length = k) (hk : k < ts.length) : (ys ++ ts.drop k).getD k 0 = ts.getD k 0 := by
  rw [List.getD_eq_getElem?_getD, List.getElem?_append_right (by omega), hy, Nat.sub_self, List.drop_eq_getElem_cons hk, List.getD_eq_getElem?_getD, List.getElem?_eq_getElem hk]; rfl
theorem wv_take_succ (xs : List Nat) (k : Nat) (h : k < xs.length) : wv (xs.take (k + 1)) = wv (xs.take k) + 18446744073709551616 ^ k * xs.getD k 0 := by
  rw [take_snocW xs k h, wv_snoc, List.length_take, Nat.min_eq_left (by omega)]

/-- What addProduct does to its row. -/
def AddedProduct (w : World) (b off : Nat) (ts xs : List Nat) (q : Nat) (e : Ending) (w' : World) : Prop :=
  ∃ (ys : List Nat) (c : Nat), e = .returned (.int .u64 c) ∧ c < 18446744073709551616 ∧ ys.length = ts.length ∧ Ok ys ∧ wv ys + 18446744073709551616 ^ ts.length * c = wv ts + q * wv xs ∧ Row w' b off ys ∧ Touch w w' b off ts.length

set_option maxHeartbeats 1000000 in
set_option maxRecDepth 100000 in
theorem addProduct_any (b off ct : Nat) (p : Option Addr) (cx : Nat) (ts xs : List Nat) (q : Nat) (w : World) (hr : Row w b off ts) (hx : Nt w p xs) (hne : xs ≠ [] → ∀ a, p = some a → a.block ≠ b)
    (hl : xs.length = ts.length) (hn : ts.length ≤ 1048576) (hts : Ok ts) (hxs : Ok xs) (hq : q < 18446744073709551616) :
    Calls Tryz.prog 179 #[.slice (some ⟨b, off, none⟩) ts.length ct, .slice p xs.length cx, .int .u64 q] w (AddedProduct w b off ts xs q) := by
  have HQ := Lib.hid hq
  have HL := Lib.hid hl
  have HRW := Lib.hid hr
  have hl2 : xs.length ≤ ts.length := by omega
  have hl3 : ts.length ≤ xs.length := by omega
  clear hq hr hl
  go_enter Tryz.func179, Tryz.ntmps179
  go_wp2_with fail
  go_loopw [7, 15] (fun c i wr => ∃ (k cy : Nat) (ys : List Nat), k ≤ ts.length ∧ i = .int .i64 k ∧ c = .int .u64 cy ∧ cy < 18446744073709551616 ∧ ys.length = k ∧ Ok ys ∧ wv ys + 18446744073709551616 ^ k * cy = wv (ts.take k) + q * wv (xs.take k) ∧ Row wr b off (ys ++ ts.drop k) ∧ Touch w wr b off ts.length) (fun _ i _ => ts.length - (intOf i).toNat)
  case atStart => exact ⟨0, 0, [], Nat.zero_le _, rfl, rfl, by decide, rfl, Ok.nil, by simp [wv], HRW.out, Touch.refl _ _ _ _⟩
  case round =>
    obtain ⟨k, cy, ys, hk, rfl, rfl, hcy, hy, hok, heq, hrow, ht⟩ := hrel
    have HCY := Lib.hid hcy
    have HY := Lib.hid hy
    have HE := Lib.hid heq
    have HROW := Lib.hid hrow
    have HT := Lib.hid ht
    clear hcy hy heq hrow ht
    by_cases hlt : k < ts.length
    · rcases hx with hx0 | ⟨bx, ox, rfl, hxr⟩
      · exfalso; have := HL.out; rw [hx0] at this; simp at this; omega
      · have hltx : k < xs.length := by rw [HL.out]; exact hlt
        have hbne : bx ≠ b := hne (fun h => by rw [h] at hltx; simp at hltx) _ rfl
        obtain ⟨d, hd⟩ : ∃ d, d = xs.getD k 0 := ⟨_, rfl⟩
        obtain ⟨t, htk⟩ : ∃ t, t = ts.getD k 0 := ⟨_, rfl⟩
        have hcx : wr.cell? ⟨bx, ox + k, none⟩ = some (.int .u64 (d : Nat)) := by rw [hd]; exact ((hxr.touch HT.out hbne) k hltx).1
        have hmid := HROW.out k (by rw [List.length_append, List.length_drop, HY.out]; omega)
        have hct : wr.cell? ⟨b, off + k, none⟩ = some (.int .u64 (t : Nat)) := by rw [htk, ← mid_getD ys ts k HY.out hlt]; exact hmid.1
        have hfr : wr.frozen? ⟨b, off + k, none⟩ = false := hmid.2
        have hdb : d < 18446744073709551616 := by rw [hd]; exact hxs.getD k
        have htb : t < 18446744073709551616 := by rw [htk]; exact hts.getD k
        obtain ⟨hi, lo, e1, l1, hmul⟩ := mul64_ex d q hdb HQ.out
        obtain ⟨s1, c1, e2, l2, k2, hadd1⟩ := add64_ex0 lo cy l1 HCY.out
        obtain ⟨s2, c2, e3, l3, k3, hadd2⟩ := add64_ex0 s1 t l2 htb
        obtain ⟨h1, e4, hw1⟩ := addW_ex hi c1 (hi_fits d q hi lo c1 hdb HQ.out e1 k2)
        obtain ⟨h2, e5, hw2⟩ := addW_ex h1 c2 (by rw [e4]; exact step_fits d q hi lo cy s1 c1 t s2 c2 hdb HQ.out HCY.out htb e1 e2 e3)
        have hb5 : h2 < 18446744073709551616 := by rw [e5, e4]; exact step_fits d q hi lo cy s1 c1 t s2 c2 hdb HQ.out HCY.out htb e1 e2 e3
        have HH := Lib.hid (And.intro hd (And.intro htk (And.intro hdb (And.intro htb (And.intro e1 (And.intro e2 (And.intro e3 (And.intro e4 (And.intro e5 (And.intro l3 hb5))))))))))
        have HM := Lib.hid hmul
        have HXR := Lib.hid hxr
        clear hd htk hdb htb e1 e2 e3 e4 e5 l1 l2 l3 k2 k3 hb5 hmid hmul hxr hts hxs
        go_wp2_with (go_at_call 213; refine (HM.out _).mono ?_; rintro e w' ⟨rfl, rfl⟩)
        go_roundw
        case rel =>
          obtain ⟨hd, htk, hdb, htb, e1, e2, e3, e4, e5, l3, hb5⟩ := HH.out
          refine ⟨k + 1, h2, ys ++ [s2], by omega, by go_num, rfl, hb5, by rw [List.length_append, HY.out]; rfl, hok.append (Ok.nil.cons l3), ?_, ?_, ?_⟩
          · rw [wv_snoc, HY.out, Nat.pow_succ, wv_take_succ ts k hlt, wv_take_succ xs k hltx, ← hd, ← htk, e5, e4]
            exact step_sum _ d q hi lo cy s1 c1 t s2 c2 _ _ _ e1 e2 e3 HE.out
          · have h := HROW.out.set k s2 (by rw [List.length_append, List.length_drop, HY.out]; omega)
            rw [set_mid ys ts k s2 HY.out hlt] at h
            exact h
          · exact HT.out.set (by omega) (by omega) _
        case measure => simp [intOf]; omega
    · have hkn : k = ts.length := by omega
      have HKN := Lib.hid hkn
      clear hkn
      go_wp2_with fail
      go_ret
      have hy := HY.out
      have hkn := HKN.out
      refine ⟨ys, cy, rfl, HCY.out, by rw [hy, hkn], hok, ?_, ?_, HT.out⟩
      · have := HE.out
        rw [hkn, List.take_of_length_le (Nat.le_refl _), List.take_of_length_le (by rw [HL.out]; exact Nat.le_refl _)] at this
        exact this
      · have := HROW.out
        rw [hkn, List.drop_length, List.append_nil] at this
        exact this
end Go.Proofs.YtpdhffjdgnpikaaGreatDoor

namespace Go.Proofs.YtpdhffjdgnpikaaGreatDoor
open Go.RowKit

/-- n cells of zeros. -/
def zerosU (n : Nat) : Array Value := madeCells (Value.int .u64 0).cells n
theorem zerosU_size (n : Nat) : (zerosU n).size = n := size_madeCells _ _
theorem zerosU_get (n j : Nat) (h : j < n) : (zerosU n)[j]? = some (.int .u64 0) := by
  unfold zerosU madeCells
  rw [Array.getElem?_map, Array.getElem?_eq_getElem (by simpa using h)]
  simp [Value.cells, Nat.mod_one]

theorem row_zeros (w : World) (n : Nat) (T : TypeId) : Row (w.alloc (.cells (zerosU n) T)) w.heap.size 0 (List.replicate n 0) := by
  intro j hj
  rw [List.length_replicate] at hj
  have hh := heap_alloc_new w (.cells (zerosU n) T)
  constructor
  · simp only [World.cell?, hh]
    simp [zerosU_get n j hj, hj]
  · simp only [World.frozen?, hh]
    simp
theorem room_zeros (w : World) (n : Nat) (T : TypeId) : Room (w.alloc (.cells (zerosU n) T)) w.heap.size n := by
  intro j hj
  have hh := heap_alloc_new w (.cells (zerosU n) T)
  constructor
  · simp only [World.cell?, hh]
    simp [zerosU_get n j hj]
  · simp only [World.frozen?, hh]
    simp

/-- 'make(natural, n)', and 'make(natural, 0, n)'. -/
theorem make_full (n : Nat) (hn : n ≤ 4194304) (w : World) :
    (Instr.makeSlice 90 (.int .i64 n) (.int .i64 n)).run Tryz.prog w = .ok (.slice (some ⟨w.heap.size, 0, none⟩) n n) (w.alloc (.cells (zerosU n) 85)) := by
  obtain ⟨i0, hi0, hz0, hz1, hz2⟩ := info_parts infoU
  have h := run_make w 90 85 i0 (.int .u64 0) Tryz.underlying90 hi0 hz0 .i64 .i64 (n : Int) (n : Int) (by omega) (by omega) (by rw [hz2]; omega) (by omega)
  rw [hz1] at h
  simpa [zerosU] using h
theorem make_cap (n : Nat) (hn : n ≤ 4194304) (w : World) :
    (Instr.makeSlice 90 (.int .i64 0) (.int .i64 n)).run Tryz.prog w = .ok (.slice (some ⟨w.heap.size, 0, none⟩) 0 n) (w.alloc (.cells (zerosU n) 85)) := by
  obtain ⟨i0, hi0, hz0, hz1, hz2⟩ := info_parts infoU
  have h := run_make w 90 85 i0 (.int .u64 0) Tryz.underlying90 hi0 hz0 .i64 .i64 0 (n : Int) (by omega) (by omega) (by rw [hz2]; omega) (by omega)
  rw [hz1] at h
  simpa [zerosU] using h
end Go.Proofs.YtpdhffjdgnpikaaGreatDoor

namespace Go.Proofs.YtpdhffjdgnpikaaGreatDoor
open Go.RowKit

/-- A slice over the words of a number, in a new block; nothing that was there has turned. -/
def NatRes (w : World) (n : Nat) (e : Ending) (w' : World) : Prop :=
  ∃ g cap, e = .returned (.slice (some ⟨g, 0, none⟩) (nw n).length cap) ∧ (nw n).length ≤ cap ∧ cap ≤ maxLen ∧ Row w' g 0 (nw n) ∧ w.heap.size ≤ g ∧ Below w.heap.size w w'

theorem natRes_trim {w wr : World} {g cap : Nat} {rs : List Nat} (hok : Ok rs) (hrow : Row wr g 0 rs) (hlen : rs.length ≤ cap) (hmax : cap ≤ maxLen) (hg : w.heap.size ≤ g) (hb : Below w.heap.size w wr) :
    NatRes w (wv rs) (.returned (.slice (some ⟨g, 0, none⟩) (trimW rs) cap)) wr := by
  have e := take_trimW rs hok
  have hl : (nw (wv rs)).length = trimW rs := by rw [← e, List.length_take]; have := trimW_le rs; omega
  exact ⟨g, cap, by rw [hl], by rw [hl]; have := trimW_le rs; omega, hmax, by rw [← e]; exact hrow.take _, hg, hb⟩

theorem replicate_succ_left (n : Nat) (h : 0 < n) : List.replicate n (0 : Nat) = 0 :: List.replicate (n - 1) 0 := by
  obtain ⟨k, rfl⟩ : ∃ k, n = k + 1 := ⟨n - 1, by omega⟩
  rfl
theorem touch_below {w w' w2 : World} {b off n B : Nat} (h : Below B w w') (ht : Touch w' w2 b off n) (hB : B ≤ w'.heap.size) (hb : B ≤ b) : Below B w w2 :=
  h.grown ht.grown hB (fun k e => by cases e; exact hb)

/-- The row of a product behind one more round. -/
theorem product_round {wr w2 : World} {g k n m d c : Nat} {zs ys' xs : List Nat} (hrow : Row wr g 0 (zs ++ List.replicate (m - k) 0)) (hz : zs.length = n + k) (hk : k < m) (hy : ys'.length = n)
    (hr2 : Row w2 g (0 + k) ys') (ht : Touch wr w2 g (0 + k) n) (hzok : Ok zs) (hyok : Ok ys') (hc : c < 18446744073709551616)
    (hval : wv ys' + 18446744073709551616 ^ n * c = wv (zs.drop k) + d * wv xs) :
    Row (w2.setCell ⟨g, k + n, none⟩ (.int .u64 c)) g 0 ((zs.take k ++ ys' ++ [c]) ++ List.replicate (m - (k + 1)) 0) ∧ (zs.take k ++ ys' ++ [c]).length = n + (k + 1) ∧ Ok (zs.take k ++ ys' ++ [c]) ∧
      wv (zs.take k ++ ys' ++ [c]) = wv zs + 18446744073709551616 ^ k * (d * wv xs) := by
  have hlt : (zs.take k).length = k := by rw [List.length_take]; omega
  refine ⟨?_, ?_, ?_, ?_⟩
  · have h1 : Row w2 g 0 (zs.take k) := (hrow.left.take k).apart ht (by rw [hlt]; omega)
    have h2 : Row w2 g 0 (zs.take k ++ ys') := h1.append (by rw [hlt]; exact hr2)
    have h3 : Row w2 g (0 + zs.length) (List.replicate (m - k) 0) := hrow.right.apart ht (by rw [hz]; omega)
    have h4 : Row w2 g 0 ((zs.take k ++ ys') ++ List.replicate (m - k) 0) := h2.append (by rw [List.length_append, hlt, hy]; rw [hz] at h3; rwa [show 0 + (k + n) = 0 + (n + k) by omega])
    have h5 := h4.set (k + n) c (by simp only [List.length_append, List.length_replicate, hlt, hy]; omega)
    rw [Nat.zero_add, replicate_succ_left (m - k) (by omega), List.set_append_right _ _ (by rw [List.length_append, hlt, hy]; omega), List.length_append, hlt, hy, Nat.sub_self, List.set_cons_zero] at h5
    rw [show m - (k + 1) = m - k - 1 by omega, List.append_assoc (zs.take k ++ ys')]
    exact h5
  · simp only [List.length_append, hlt, hy, List.length_singleton]; omega
  · exact ((hzok.take k).append hyok).append (Ok.nil.cons hc)
  · rw [wv_append, wv_append, List.length_append, hlt, hy]
    have e := wv_append (zs.take k) (zs.drop k)
    rw [List.take_append_drop, hlt] at e
    rw [e, Nat.pow_add]
    have e2 := congrArg (18446744073709551616 ^ k * ·) hval
    simp only [Nat.mul_add] at e2
    have e3 : wv [c] = c := by simp [wv]
    rw [e3, Nat.mul_assoc]
    omega

set_option maxHeartbeats 1000000 in
set_option maxRecDepth 100000 in
theorem product_any (p q : Option Addr) (cx cy : Nat) (xs ys : List Nat) (w : World) (hx : Nt w p xs) (hy : Nt w q ys) (hnx : xs.length ≤ 524288) (hny : ys.length ≤ 524288) (hox : Ok xs) (hoy : Ok ys) :
    Calls Tryz.prog 153 #[.slice p xs.length cx, .slice q ys.length cy] w (NatRes w (wv xs * wv ys)) := by
  have hmk := make_full (xs.length + ys.length) (by omega)
  rw [Int.natCast_add] at hmk
  have HX := Lib.hid hx
  have HY := Lib.hid hy
  clear hx hy
  go_enter Tryz.func153, Tryz.ntmps153
  go_wp2_with fail
  go_loopw [16] (fun i wr => ∃ (k : Nat) (zs : List Nat), k ≤ ys.length ∧ i = .int .i64 k ∧ zs.length = xs.length + k ∧ Ok zs ∧ wv zs = wv xs * wv (ys.take k) ∧ Row wr w.heap.size 0 (zs ++ List.replicate (ys.length - k) 0) ∧ Below w.heap.size w wr ∧ w.heap.size < wr.heap.size) (fun i _ => ys.length - (intOf i).toNat)
  case atStart =>
    refine ⟨0, List.replicate xs.length 0, Nat.zero_le _, rfl, by simp, ?_, by rw [wv_zeros]; simp [wv], ?_, (Below.refl _ _).alloc (Nat.le_refl _) _, by simp⟩
    · intro x hx; rw [List.eq_of_mem_replicate hx]; decide
    · rw [List.replicate_append_replicate, Nat.sub_zero]; exact row_zeros _ _ _
  case round =>
    obtain ⟨k, zs, hk, rfl, hz, hzok, hval, hrow, hbel, hsz⟩ := hrel
    have HZ := Lib.hid hz
    have HV := Lib.hid hval
    have HROW := Lib.hid hrow
    have HB := Lib.hid hbel
    clear hz hval hrow hbel
    by_cases hlt : k < ys.length
    · rcases HY.out with hy0 | ⟨by', oy, rfl, hyr⟩
      · exfalso; rw [hy0] at hlt; simp at hlt
      · have hbb : by' < w.heap.size := hyr.lt (by omega)
        obtain ⟨d, hd⟩ : ∃ d, d = ys.getD k 0 := ⟨_, rfl⟩
        have hcy : wr.cell? ⟨by', oy + k, none⟩ = some (.int .u64 (d : Nat)) := by rw [hd]; exact ((hyr.below HB.out hbb) k hlt).1
        have HD := Lib.hid hd
        clear hd hyr
        have hdl : (zs.drop k).length = xs.length := by rw [List.length_drop, HZ.out]; omega
        have hts : Row wr w.heap.size (0 + k) (zs.drop k) := HROW.out.left.drop k (by rw [HZ.out]; omega)
        have hap := addProduct_any w.heap.size (0 + k) (xs.length + ys.length - k) p cx (zs.drop k) xs d wr hts (HX.out.below HB.out)
          (fun hne a ha => by
            rcases HX.out with h0 | ⟨bx, ox, rfl, hxr⟩
            · exact absurd h0 hne
            · cases ha
              have := hxr.lt (List.length_pos_iff.2 hne)
              show bx ≠ w.heap.size
              omega) hdl.symm (by rw [hdl]; omega) (hzok.drop k) hox (by rw [HD.out]; exact hoy.getD k)
        rw [hdl] at hap
        have HAP := Lib.hid hap
        have HDL := Lib.hid hdl
        clear hap hdl hts
        go_wp2_with fail
        have hap := HAP.out
        rw [Nat.zero_add] at hap
        refine hap.mono ?_
        clear hap
        rintro e w2 ⟨ys', c, rfl, hc, hyl, hyok, heq, hr2, ht⟩
        rw [HDL.out] at heq hyl ht
        have hm0 := HROW.out
        have hcell : w2.cell? ⟨w.heap.size, k + xs.length, none⟩ = some (.int .u64 0) := by
          have h1 := (hm0.right.apart ht (by rw [HZ.out]; omega) : Row w2 w.heap.size _ (List.replicate (ys.length - k) 0)) 0 (by rw [List.length_replicate]; omega)
          rw [HZ.out] at h1
          have h2 := h1.1
          rw [show 0 + (xs.length + k) + 0 = k + xs.length by omega] at h2
          rw [h2]
          congr 2
          rw [List.getD_eq_getElem?_getD, List.getElem?_replicate]
          split <;> rfl
        have hfz : w2.frozen? ⟨w.heap.size, k + xs.length, none⟩ = false := by
          have h1 := (hm0.right.apart ht (by rw [HZ.out]; omega) : Row w2 w.heap.size _ (List.replicate (ys.length - k) 0)) 0 (by rw [List.length_replicate]; omega)
          rw [HZ.out] at h1
          have h2 := h1.2
          rw [show 0 + (xs.length + k) + 0 = k + xs.length by omega] at h2
          exact h2
        have HPR := Lib.hid (product_round (c := c) (d := d) (xs := xs) hm0 HZ.out hlt hyl (by rw [Nat.zero_add]; exact hr2) (by rw [Nat.zero_add]; exact ht) hzok hyok hc heq)
        have HT := Lib.hid ht
        clear hc hyl hyok heq hr2 ht hm0
        go_wp2_with fail
        go_roundw
        case rel =>
          obtain ⟨h1, h2, h3, h4⟩ := HPR.out
          refine ⟨k + 1, zs.take k ++ ys' ++ [c], by omega, by go_num, h2, h3, ?_, h1, ?_, ?_⟩
          · rw [h4, HV.out, wv_take_succ ys k hlt, ← HD.out, Nat.mul_add, Nat.mul_comm d, ← Nat.mul_assoc, ← Nat.mul_assoc, Nat.mul_comm (18446744073709551616 ^ k)]
          · exact (touch_below HB.out HT.out (by omega) (Nat.le_refl _)).setCell (Nat.le_refl _) _
          · have := HT.out.grown.size
            simp [World.setCell]; omega
        case measure => simp [intOf]; omega
    · have hkn : k = ys.length := by omega
      have HK := Lib.hid hkn
      have hzl : zs.length ≤ 1048576 := by rw [HZ.out]; omega
      have hzc : zs.length ≤ xs.length + ys.length := by rw [HZ.out]; omega
      have hzl2 : zs.length = xs.length + ys.length := by rw [HZ.out, hkn]
      clear hkn
      have hrz : Row wr w.heap.size 0 zs := HROW.out.left
      have htr := trim_any (some ⟨w.heap.size, 0, none⟩) zs (xs.length + ys.length) wr (.inr ⟨_, _, rfl, hrz⟩) hzl hzc (by unfold maxLen; omega)
      rw [hzl2] at htr
      have HTR := Lib.hid htr
      have HRZ := Lib.hid hrz
      clear htr hzl2 hrz
      go_wp2_with fail
      refine HTR.out.mono ?_
      rintro e w2 ⟨rfl, rfl⟩
      go_wp2_with fail
      go_ret
      have h := natRes_trim (w := w) hzok HRZ.out hzc (by unfold maxLen; omega) (Nat.le_refl _) HB.out
      rw [HV.out, HK.out, List.take_of_length_le (Nat.le_refl _)] at h
      exact h
end Go.Proofs.YtpdhffjdgnpikaaGreatDoor
