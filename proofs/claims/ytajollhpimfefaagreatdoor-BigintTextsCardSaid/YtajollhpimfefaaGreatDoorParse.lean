/- The contract of bigint.Parse: the texts that it takes are those that strconv.Itoa's rule writes. -/
import Derived.Test.YtajollhpimfefaaGreatDoorTry
namespace Go.Proofs.YtajollhpimfefaaGreatDoor
open Go.RowKit Go.Shelf

theorem decDigits_more (n : Nat) (h : 10 ≤ n) : Lib.decDigits n = Lib.decDigits (n / 10) ++ [UInt8.ofNat (48 + n % 10)] := by
  rw [Lib.decDigits, dif_neg (by omega)]
theorem digit_nat (d : Nat) (h : d < 10) : (UInt8.ofNat (48 + d)).toNat = 48 + d := by
  rw [UInt8.toNat_ofNat']
  omega
theorem digit_back (c : UInt8) (h : 48 ≤ c.toNat ∧ c.toNat ≤ 57) : UInt8.ofNat (48 + (c.toNat - 48)) = c := by
  rw [show 48 + (c.toNat - 48) = c.toNat by omega]
  exact UInt8.ofNat_toNat
theorem decDigits_ne (n : Nat) : Lib.decDigits n ≠ [] := by
  rw [Lib.decDigits]
  split <;> simp
theorem dv_decDigits (n : Nat) : dv (Lib.decDigits n) = n := by
  induction n using Nat.strongRecOn with
  | ind n ih =>
    by_cases h : n < 10
    · rw [Lib.decDigits_one h]
      have := digit_nat n h
      show 10 * 0 + ((UInt8.ofNat (48 + n)).toNat - 48) = n
      omega
    · rw [decDigits_more n (by omega), dv_snoc, ih (n / 10) (by omega), digit_nat _ (by omega)]
      omega
theorem digs_decDigits (n : Nat) : Digs (Lib.decDigits n) := by
  induction n using Nat.strongRecOn with
  | ind n ih =>
    by_cases h : n < 10
    · rw [Lib.decDigits_one h]
      intro c hc
      rw [List.mem_singleton] at hc
      rw [hc, digit_nat n h]
      omega
    · rw [decDigits_more n (by omega)]
      intro c hc
      rcases List.mem_append.1 hc with hc | hc
      · exact ih (n / 10) (by omega) c hc
      · rw [List.mem_singleton] at hc
        rw [hc, digit_nat _ (by omega)]
        omega
theorem head_append (a b : List UInt8) (h : a ≠ []) : (a ++ b).getD 0 0 = a.getD 0 0 := by
  cases a with
  | nil => exact absurd rfl h
  | cons x a => rfl
theorem head_decDigits (n : Nat) (h : 1 ≤ n) : ((Lib.decDigits n).getD 0 0).toNat ≠ 48 := by
  induction n using Nat.strongRecOn with
  | ind n ih =>
    by_cases h10 : n < 10
    · rw [Lib.decDigits_one h10]
      show (UInt8.ofNat (48 + n)).toNat ≠ 48
      rw [digit_nat n h10]
      omega
    · rw [decDigits_more n (by omega), head_append _ _ (decDigits_ne _)]
      exact ih (n / 10) (by omega) (by omega)
theorem digits_back : ∀ (k : Nat) (l : List UInt8), l.length = k → l ≠ [] → Digs l → (l.getD 0 0).toNat ≠ 48 → Lib.decDigits (dv l) = l ∧ 1 ≤ dv l := by
  intro k
  induction k with
  | zero => intro l h1 h2; exact absurd (List.length_eq_zero_iff.1 h1) h2
  | succ k ih =>
    intro l h1 h2 h3 h4
    obtain ⟨a, c, rfl⟩ : ∃ a c, l = a ++ [c] := ⟨l.dropLast, l.getLast h2, (List.dropLast_concat_getLast h2).symm⟩
    have hc := h3 c (by simp)
    rw [dv_snoc]
    by_cases ha : a = []
    · subst ha
      have h5 : c.toNat ≠ 48 := h4
      refine ⟨?_, by omega⟩
      rw [show 10 * dv [] + (c.toNat - 48) = c.toNat - 48 by simp [dv], Lib.decDigits_one (by omega), digit_back c hc]
      rfl
    · rw [head_append a _ ha] at h4
      have h6 := ih a (by simp at h1; omega) ha (fun x hx => h3 x (List.mem_append_left _ hx)) h4
      refine ⟨?_, by omega⟩
      rw [decDigits_more _ (by omega), show (10 * dv a + (c.toNat - 48)) / 10 = dv a by omega, h6.1, show (10 * dv a + (c.toNat - 48)) % 10 = c.toNat - 48 by omega, digit_back c hc]
theorem digs_at {D : ByteArray} (h : Digs D.data.toList) (j : Nat) (hj : j < D.size) : DigitAt D j := by
  unfold DigitAt
  have hl : j < D.data.toList.length := by rw [← Lib.size_eq]; exact hj
  rw [List.getD_eq_getElem?_getD, List.getElem?_eq_getElem hl, Option.getD_some]
  exact h _ (List.getElem_mem hl)
/-- The first byte that is no digit. -/
theorem first_wrong (D : ByteArray) (h : ¬ Digs D.data.toList) : ∃ q, q < D.size ∧ (∀ j, j < q → DigitAt D j) ∧ ¬ DigitAt D q := by
  have h1 : ¬ ∀ j, j < D.size → DigitAt D j := by
    intro h2
    apply h
    intro c hc
    obtain ⟨j, hj, rfl⟩ := List.getElem_of_mem hc
    have := h2 j (by rw [Lib.size_eq]; exact hj)
    unfold DigitAt at this
    rw [List.getD_eq_getElem?_getD, List.getElem?_eq_getElem hj, Option.getD_some] at this
    exact this
  have h2 : ∃ n, n ≤ D.size ∧ ¬ ∀ j, j < n → DigitAt D j := ⟨D.size, Nat.le_refl _, h1⟩
  suffices hs : ∀ n, n ≤ D.size → (¬ ∀ j, j < n → DigitAt D j) → ∃ q, q < D.size ∧ (∀ j, j < q → DigitAt D j) ∧ ¬ DigitAt D q from hs D.size (Nat.le_refl _) h1
  intro n
  induction n with
  | zero => intro _ h; exact absurd (fun j hj => by omega) h
  | succ n ih =>
    intro hn h
    by_cases ha : ∀ j, j < n → DigitAt D j
    · refine ⟨n, by omega, ha, fun hd => h (fun j hj => ?_)⟩
      by_cases e : j = n
      · rw [e]; exact hd
      · exact ha j (by omega)
    · exact ih (by omega) ha

theorem parse_some (s : ByteArray) (z : Int) (w : World) (hs : s.size ≤ 65536) (h : s = txt z) :
    Calls Tryz.prog 40 #[.string s] w fun e w' => e = .returned (.tuple #[.agg #[.bool (ng z), .string (mg z)], .int .i64 0]) ∧ Below w.heap.size w w' := by
  have hl : s.data.toList = Lib.itoa z := by rw [h]; rfl
  refine parse_of s (ng z) (mg z) 0 w hs (fun W => tryRead_good s z W (fun W2 => ?_))
  by_cases hz : z < 0
  · obtain ⟨n, rfl⟩ : ∃ n : Nat, z = -(n : Int) := ⟨z.natAbs, by omega⟩
    rw [Lib.itoa_neg n (by omega)] at hl
    have hD : Lib.trimPrefix s.data.toList [45] = (⟨(Lib.decDigits n).toArray⟩ : ByteArray).data.toList := by
      rw [hl]; simp [Lib.trimPrefix, Lib.hasPrefix]
    have hn : Lib.hasPrefix s.data.toList [45] = true := by rw [hl]; simp [Lib.hasPrefix]
    have hsz : (⟨(Lib.decDigits n).toArray⟩ : ByteArray).size ≤ 65536 := by
      have := Lib.size_eq s
      rw [hl] at this
      simp at this
      show (Lib.decDigits n).length ≤ 65536
      omega
    have hr := read_good s ⟨(Lib.decDigits n).toArray⟩ true W2 hD hn (List.length_pos_iff.2 (decDigits_ne n)) (fun e => absurd e (head_decDigits n (by omega))) (fun j hj => digs_at (digs_decDigits n) j hj) hsz
    rw [show dv (⟨(Lib.decDigits n).toArray⟩ : ByteArray).data.toList = n from dv_decDigits n] at hr
    exact hr
  · obtain ⟨n, rfl⟩ : ∃ n : Nat, z = (n : Int) := ⟨z.toNat, by omega⟩
    rw [Lib.itoa_nonneg n] at hl
    have h45 : ((Lib.decDigits n).getD 0 0).toNat ≠ 45 := by
      have h1 := List.length_pos_iff.2 (decDigits_ne n)
      have h2 := digs_decDigits n _ (List.getElem_mem h1)
      rw [List.getD_eq_getElem?_getD, List.getElem?_eq_getElem h1, Option.getD_some]
      omega
    have hn : Lib.hasPrefix s.data.toList [45] = false := by
      rw [hl]
      cases hd : Lib.decDigits n with
      | nil => rfl
      | cons x l =>
        rw [hd] at h45
        have h46 : x.toNat ≠ 45 := h45
        show ((45 : UInt8) == x && [].isPrefixOf l) = false
        rw [show ((45 : UInt8) == x) = false from beq_eq_false_iff_ne.2 (fun e => h46 (by rw [← e]; rfl))]
        rfl
    have hD : Lib.trimPrefix s.data.toList [45] = s.data.toList := by
      unfold Lib.trimPrefix
      rw [hn]
      rfl
    have hr := read_good s s false W2 hD hn (by rw [Lib.size_eq, hl]; exact List.length_pos_iff.2 (decDigits_ne n)) (fun e => ?_) (fun j hj => digs_at (by rw [hl]; exact digs_decDigits n) j hj) hs
    · rw [hl, dv_decDigits n] at hr
      exact hr
    · rw [hl] at e ⊢
      by_cases h0 : n = 0
      · rw [h0, Lib.decDigits_one (by omega)]; rfl
      · exact absurd e (head_decDigits n (by omega))

theorem parse_none (s : ByteArray) (w : World) (hs : s.size ≤ 65536) (h : ∀ z, s ≠ txt z) :
    Calls Tryz.prog 40 #[.string s] w fun e w' => e = .returned (.tuple #[.agg #[.bool false, .string ⟨#[]⟩], .int .i64 3]) ∧ Below w.heap.size w w' := by
  have hl : ∀ z, s.data.toList ≠ Lib.itoa z := fun z e => h z (ba_ext e)
  refine parse_of s false ⟨#[]⟩ 3 w hs (fun W => tryRead_bad s W (fun W2 => ?_))
  obtain ⟨D, hD⟩ : ∃ D : ByteArray, Lib.trimPrefix s.data.toList [45] = D.data.toList := ⟨⟨(Lib.trimPrefix s.data.toList [45]).toArray⟩, rfl⟩
  by_cases he : D.size = 0
  · refine read_empty s W2 ?_
    rw [hD]
    exact List.length_eq_zero_iff.1 (by rw [← Lib.size_eq]; exact he)
  have hne : D.data.toList ≠ [] := fun e => he (by rw [Lib.size_eq, e]; rfl)
  have hpre : Lib.hasPrefix s.data.toList [45] = true → s.data.toList = 45 :: D.data.toList := by
    intro hp
    rw [← hD]
    unfold Lib.trimPrefix
    rw [hp]
    cases hsl : s.data.toList with
    | nil => rw [hsl] at hp; simp [Lib.hasPrefix] at hp
    | cons x l =>
      rw [hsl] at hp
      simp [Lib.hasPrefix] at hp
      rw [← hp]
      rfl
  have hno : Lib.hasPrefix s.data.toList [45] = false → s.data.toList = D.data.toList := by
    intro hp
    rw [← hD]
    unfold Lib.trimPrefix
    rw [hp]
    rfl
  have hDs : D.size ≤ s.size := by
    rw [Lib.size_eq, Lib.size_eq]
    cases hp : Lib.hasPrefix s.data.toList [45] with
    | true => rw [hpre hp]; simp
    | false => rw [hno hp]; exact Nat.le_refl _
  by_cases h0 : (D.data.toList.getD 0 0).toNat = 48
  · refine read_zero s D W2 hD (by omega) h0 (fun e => ?_)
    refine hl 0 ?_
    rw [e, show Lib.itoa (0 : Int) = Lib.decDigits 0 from Lib.itoa_nonneg 0, Lib.decDigits_one (by omega)]
    rfl
  · by_cases hd : Digs D.data.toList
    · exfalso
      have h1 := digits_back _ _ rfl hne hd h0
      cases hp : Lib.hasPrefix s.data.toList [45] with
      | true => exact hl (-(dv D.data.toList : Int)) (by rw [Lib.itoa_neg _ h1.2, h1.1]; exact hpre hp)
      | false => exact hl (dv D.data.toList : Int) (by rw [Lib.itoa_nonneg, h1.1]; exact hno hp)
    · obtain ⟨q, h1, h2, h3⟩ := first_wrong D hd
      exact read_byte s D _ W2 q hD rfl (by omega) h0 h1 h2 h3 (by omega)
end Go.Proofs.YtajollhpimfefaaGreatDoor
