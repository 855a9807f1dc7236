/- The contract of bigint.read. -/
import Derived.Test.YtajollhpimfefaaGreatDoorChunk
namespace Go.Proofs.YtajollhpimfefaaGreatDoor
open Go.RowKit Go.Shelf

def DigitAt (s : ByteArray) (j : Nat) : Prop := 48 ≤ (s.data.toList.getD j 0).toNat ∧ (s.data.toList.getD j 0).toNat ≤ 57
theorem dv_foldl (l : List UInt8) (n : Nat) : l.foldl (fun n c => 10 * n + (c.toNat - 48)) n = 10 ^ l.length * n + dv l := by
  induction l generalizing n with
  | nil => simp [dv]
  | cons c l ih =>
    unfold dv
    rw [List.foldl_cons, List.foldl_cons, ih, ih (10 * 0 + _), List.length_cons, Nat.pow_succ]
    grind
theorem dv_append (a b : List UInt8) : dv (a ++ b) = 10 ^ b.length * dv a + dv b := by
  rw [← dv_foldl b (dv a)]; unfold dv; rw [List.foldl_append]
theorem chunk_cut (n : Nat) (h : 0 < n) : ∃ r c : Nat, ((n : Int) - 1).tmod 19 = (r : Int) ∧ r + 1 = c ∧ c ≤ 19 ∧ 0 < c ∧ c ≤ n := by
  refine ⟨(n - 1) % 19, (n - 1) % 19 + 1, ?_, rfl, by omega, by omega, by omega⟩
  rw [Int.tmod_eq_emod_of_nonneg (by omega)]
  omega

theorem own_slice {w : World} {B n : Nat} {T : TypeId} {v : Value} {xs : List Nat} (h : w.ownsRow B T 1 v n (u64s xs)) : ∃ p c, v = .slice p n c ∧ Nt w p xs := by
  have hl := own_len h
  rcases h.2 with ⟨rfl, h0⟩ | ⟨g, cap, cur, rfl, _⟩
  · subst h0
    exact ⟨none, 0, rfl, .inl (List.length_eq_zero_iff.1 hl)⟩
  · exact ⟨some ⟨g, 0, none⟩, cap, rfl, own_nt h⟩
theorem dv_words (l : List UInt8) (h : ∀ j, j < l.length → 48 ≤ (l.getD j 0).toNat ∧ (l.getD j 0).toNat ≤ 57) (hl : l.length ≤ 65536) : (nw (dv l)).length ≤ 65536 := by
  have h1 : ∀ k, k ≤ l.length → dv (l.take k) < 10 ^ k := by
    intro k
    induction k with
    | zero => intro _; simp [dv]
    | succ k ih =>
      intro hk
      rw [dv_take l k (by omega), Nat.pow_succ]
      have := ih (by omega)
      have := h k (by omega)
      omega
  have h2 := h1 l.length (Nat.le_refl _)
  rw [List.take_length] at h2
  have h3 : 10 ^ l.length ≤ 18446744073709551616 ^ l.length := Nat.pow_le_pow_left (by omega) _
  have := nw_length_le l.length (dv l) (by omega)
  omega
/-- What stands before a chunk is read. -/
def ReadingAt (D : ByteArray) (w : World) (k : Nat) (d x : Value) (wr : World) : Prop :=
  ∃ (t : ByteArray) (v : Value), k ≤ D.size ∧ d = .string t ∧ v = x ∧ t.data.toList = D.data.toList.drop k ∧ (∀ j, j < k → DigitAt D j) ∧
    wr.ownsRow (w.heap.size + 1) 51 1 v (nw (dv (D.data.toList.take k))).length (u64s (nw (dv (D.data.toList.take k)))) ∧ Two w.heap.size (.bool false) (.string ⟨#[]⟩) wr ∧ Below w.heap.size w wr ∧ w.heap.size + 1 ≤ wr.heap.size
def Reading (D : ByteArray) (w : World) (d x : Value) (wr : World) : Prop := ∃ k, ReadingAt D w k d x wr
theorem take_words (D : ByteArray) (k : Nat) (hk : k ≤ D.size) (hd : ∀ j, j < k → DigitAt D j) (hs : D.size ≤ 65536) : (nw (dv (D.data.toList.take k))).length ≤ 65536 := by
  have hl : (D.data.toList.take k).length = k := by rw [List.length_take, ← Lib.size_eq]; omega
  apply dv_words
  · intro j hj
    rw [hl] at hj
    have := hd j hj
    unfold DigitAt at this
    rw [List.getD_eq_getElem?_getD, List.getElem?_take_of_lt hj, ← List.getD_eq_getElem?_getD]
    exact this
  · omega
theorem cut_at (D t : ByteArray) (k c j : Nat) (ht : t.data.toList = D.data.toList.drop k) (hc : j < c) : ((t.extract 0 c).data.toList.getD j 0) = D.data.toList.getD (k + j) 0 := by
  have : (t.extract 0 c).data.toList = (D.data.toList.drop k).take c := by
    rw [← ht]; simp [ByteArray.data_extract]
  rw [this, List.getD_eq_getElem?_getD, List.getElem?_take_of_lt hc, List.getElem?_drop, ← List.getD_eq_getElem?_getD]
theorem cut_value (D t : ByteArray) (k c : Nat) (ht : t.data.toList = D.data.toList.drop k) (_hc : k + c ≤ D.size) : dv (D.data.toList.take (k + c)) = 10 ^ (t.extract 0 c).size * dv (D.data.toList.take k) + dv (t.extract 0 c).data.toList := by
  have h1 : (t.extract 0 c).data.toList = (D.data.toList.drop k).take c := by
    rw [← ht]; simp [ByteArray.data_extract]
  rw [Lib.size_eq, h1, ← dv_append, List.take_add]
theorem cut_rest (D t : ByteArray) (k c : Nat) (ht : t.data.toList = D.data.toList.drop k) : (t.extract c t.size).data.toList = D.data.toList.drop (k + c) := by
  rw [← List.drop_drop, ← ht]
  simp only [ByteArray.data_extract, Array.toList_extract, List.extract_eq_take_drop]
  rw [List.take_of_length_le]
  rw [List.length_drop, ← Lib.size_eq]
  exact Nat.le_refl _

theorem not_empty (D : ByteArray) (h : 0 < D.size) : D.toList.isEmpty = false := by
  rw [Lib.toList_data, List.isEmpty_eq_false_iff]
  intro e
  have := Lib.size_eq D
  rw [e] at this
  rw [this] at h
  exact absurd h (by simp)

set_option maxHeartbeats 2000000 in
set_option maxRecDepth 100000 in
theorem read_good (s D : ByteArray) (neg : Bool) (w : World) (hD : Lib.trimPrefix s.data.toList [45] = D.data.toList) (hn : Lib.hasPrefix s.data.toList [45] = neg) (hne : 0 < D.size) (h0 : (D.data.toList.getD 0 0).toNat = 48 → s.data.toList = [48])
    (hdig : ∀ j, j < D.size → DigitAt D j) (hsz : D.size ≤ 65536) :
    Calls Tryz.prog 97 #[.string s] w (IntRes w (if neg then -(dv D.data.toList : Int) else dv D.data.toList)) := by
  obtain ⟨z, hz⟩ : ∃ z : Int, (if neg then -(dv D.data.toList : Int) else dv D.data.toList) = z := ⟨_, rfl⟩
  rw [hz]
  have HZ := Lib.hid hz
  clear hz
  have HCP := Lib.hid (fun W => Tryz.strings_CutPrefix s ⟨#[45]⟩ W)
  rw [show (⟨(Lib.trimPrefix s.data.toList (⟨#[45]⟩ : ByteArray).data.toList).toArray⟩ : ByteArray) = D from ba_ext (by show Lib.trimPrefix s.data.toList [45] = _; exact hD), show Lib.hasPrefix s.data.toList (⟨#[45]⟩ : ByteArray).data.toList = neg from hn] at HCP
  have HH := Lib.hid (And.intro hdig hsz)
  have h1 : D.toList.isEmpty = false := not_empty D hne
  obtain ⟨c0, hc0⟩ : ∃ c, (D.data.toList.getD 0 0).toNat = c := ⟨_, rfl⟩
  have va : D[0].toNat = c0 := by rw [digit_at D 0 hne]; exact hc0
  clear hdig hsz hD hn
  have hcase : (((c0 : Int) == 48) = true ∧ (s.toList == [48]) = true) ∨ ((c0 : Int) == 48) = false := by
    by_cases h : c0 = 48
    · exact .inl ⟨by simp [h], by rw [Lib.toList_data, h0 (by rw [hc0]; exact h)]; rfl⟩
    · exact .inr (by simp; omega)
  clear h0 hc0
  rcases hcase with ⟨k1, k2⟩ | k1
  all_goals
    go_enter Tryz.func97, Tryz.ntmps97
    go_wp2_with (go_at_call 121; refine (HCP.out _).mono ?_; rintro e w1 ⟨rfl, rfl⟩)
    clear h1 va k1
    go_loopw [3, 5] (fun d x wr => Reading D w d x wr) (fun d _ _ => strLen d)
    case atStart => exact ⟨0, D, .slice none 0 0, Nat.zero_le _, rfl, rfl, by rw [List.drop_zero], fun j hj => by omega, by rw [List.take_zero]; exact World.ownsRow_nil _ _ _ _, two_new _ _ _ _, (Below.refl _ _).alloc (Nat.le_refl _) _, by simp⟩
    case round =>
      obtain ⟨k, t, v, hk, rfl, rfl, ht, hdk, hown, htwo, hbel, hsz⟩ := hrel
      have hts : t.size = D.size - k := by rw [Lib.size_eq, ht, List.length_drop, ← Lib.size_eq]
      by_cases hlt : k < D.size
      · obtain ⟨r, c, e1, e2, c19, c0', cn⟩ := chunk_cut t.size (by omega)
        have hp : (0 : Int) < (t.size : Int) := by omega
        have hci : (r : Int) + 1 = (c : Int) := by omega
        have b1 : (c : Int) ≤ (t.size : Int) := by omega
        have b2 : t.size ≤ 65536 := by have := HH.out.2; omega
        have b3 : r ≤ 18 := by omega
        have HR := Lib.hid (And.intro ht (And.intro hdk (And.intro hown (And.intro htwo (And.intro hbel (And.intro hsz hts))))))
        have hcs : (t.extract 0 c).size = c := by rw [ByteArray.size_extract]; omega
        have hch := chunk_good (w.heap.size + 1) (dv (D.data.toList.take k)) v (t.extract 0 c) wr hown hsz (Nat.le_trans (take_words D k hk hdk HH.out.2) (by omega)) (by omega) (fun j hj => by rw [cut_at D t k c j ht (by omega)]; exact HH.out.1 (k + j) (by omega)) (dv (D.data.toList.take (k + c))) (cut_value D t k c ht (by omega))
        have HC := Lib.hid hch
        clear ht hdk hown htwo hbel hsz hts e2 c0' hcs hch
        go_wp2_with (go_at_call 122; refine HC.out.mono ?_; rintro e w2 ⟨v', rfl, hown2, hb2⟩; have H2 := Lib.hid (And.intro hown2 hb2); clear hown2 hb2)
        have h1 := HR.out
        have h2 := H2.out
        refine ⟨⟨k + c, t.extract c t.size, v', by omega, rfl, rfl, cut_rest D t k c h1.1, fun j hj => HH.out.1 j (by omega), h2.1, h1.2.2.2.1.below h2.2 (by omega), h1.2.2.2.2.1.trans (h2.2.mono (by omega)), Nat.le_trans h1.2.2.2.2.2.1 h2.2.size⟩, ?_⟩
        simp [strLen]
        omega
      · have hp : ¬ (0 : Int) < (t.size : Int) := by omega
        have hkn : k = D.size := by omega
        have hw := take_words D k hk hdk HH.out.2
        rw [show D.data.toList.take k = D.data.toList by rw [hkn, Lib.size_eq, List.take_length]] at hown hw
        obtain ⟨p, cp, rfl, hnt⟩ := own_slice hown
        have hsg := signed_nat neg p (dv D.data.toList) cp wr hnt (by omega)
        rw [HZ.out] at hsg
        have HS := Lib.hid hsg
        have HB := Lib.hid (And.intro htwo hbel)
        clear hsg hnt hw hown htwo hbel hdk ht
        go_wp2_with (go_at_call 50; refine HS.out.mono ?_; rintro e w3 ⟨rfl, b3⟩; have t3 := HB.out.1.below b3 HB.out.1.lt; have r0 := t3.1.1; have r1 := t3.1.2; have r2 := t3.2.1; have r3 := t3.2.2; have H3 := Lib.hid b3; clear b3 t3)
        refine bodyPost_ret (v := .agg #[.bool (ng z), .string (mg z)]) (by simp [results, Tryz.results97, go_sem, r0, r2]) rfl ?_
        refine ⟨rfl, ?_⟩
        have h3 := (HB.out.2.trans (H3.out.mono (HB.out.2.size)))
        exact (h3.setCell (Nat.le_refl _) _).setCell (Nat.le_refl _) _
set_option maxHeartbeats 1000000 in
set_option maxRecDepth 100000 in
theorem read_empty (s : ByteArray) (w : World) (hD : Lib.trimPrefix s.data.toList [45] = []) :
    Calls Tryz.prog 97 #[.string s] w fun e w' => e = .panicked wrongByte ∧ Below w.heap.size w w' := by
  have HCP := Lib.hid (fun W => Tryz.strings_CutPrefix s ⟨#[45]⟩ W)
  obtain ⟨neg, hn⟩ : ∃ b, Lib.hasPrefix s.data.toList (⟨#[45]⟩ : ByteArray).data.toList = b := ⟨_, rfl⟩
  rw [show (⟨(Lib.trimPrefix s.data.toList (⟨#[45]⟩ : ByteArray).data.toList).toArray⟩ : ByteArray) = ⟨#[]⟩ from ba_ext (by show Lib.trimPrefix s.data.toList [45] = _; exact hD), hn] at HCP
  clear hD hn
  go_enter Tryz.func97, Tryz.ntmps97
  go_wp2_with (go_at_call 121; refine (HCP.out _).mono ?_; rintro e w1 ⟨rfl, rfl⟩)
  exact ⟨rfl, rfl, (Below.refl _ _).alloc (Nat.le_refl _) _⟩

set_option maxHeartbeats 1000000 in
set_option maxRecDepth 100000 in
theorem read_zero (s D : ByteArray) (w : World) (hD : Lib.trimPrefix s.data.toList [45] = D.data.toList) (hne : 0 < D.size) (h0 : (D.data.toList.getD 0 0).toNat = 48) (hs : s.data.toList ≠ [48]) :
    Calls Tryz.prog 97 #[.string s] w fun e w' => e = .panicked wrongByte ∧ Below w.heap.size w w' := by
  have HCP := Lib.hid (fun W => Tryz.strings_CutPrefix s ⟨#[45]⟩ W)
  obtain ⟨neg, hn⟩ : ∃ b, Lib.hasPrefix s.data.toList (⟨#[45]⟩ : ByteArray).data.toList = b := ⟨_, rfl⟩
  rw [show (⟨(Lib.trimPrefix s.data.toList (⟨#[45]⟩ : ByteArray).data.toList).toArray⟩ : ByteArray) = D from ba_ext (by show Lib.trimPrefix s.data.toList [45] = _; exact hD), hn] at HCP
  have h1 : D.toList.isEmpty = false := not_empty D hne
  obtain ⟨c0, hc0⟩ : ∃ c, (D.data.toList.getD 0 0).toNat = c := ⟨_, rfl⟩
  have va : D[0].toNat = c0 := by rw [digit_at D 0 hne]; exact hc0
  have k1 : ((c0 : Int) == 48) = true := by simp; omega
  have k2 : (s.toList == [48]) = false := by rw [Lib.toList_data]; simpa using hs
  clear hD hn h0 hs hc0
  go_enter Tryz.func97, Tryz.ntmps97
  go_wp2_with (go_at_call 121; refine (HCP.out _).mono ?_; rintro e w1 ⟨rfl, rfl⟩)
  exact ⟨rfl, rfl, (Below.refl _ _).alloc (Nat.le_refl _) _⟩

set_option maxHeartbeats 2000000 in
set_option maxRecDepth 100000 in
theorem read_byte (s D : ByteArray) (neg : Bool) (w : World) (q : Nat) (hD : Lib.trimPrefix s.data.toList [45] = D.data.toList) (hn : Lib.hasPrefix s.data.toList [45] = neg) (hne : 0 < D.size) (h0 : (D.data.toList.getD 0 0).toNat ≠ 48)
    (hq : q < D.size) (hg : ∀ j, j < q → DigitAt D j) (hb : ¬ DigitAt D q) (hsz : D.size ≤ 65536) :
    Calls Tryz.prog 97 #[.string s] w fun e w' => e = .panicked wrongByte ∧ Below w.heap.size w w' := by
  have HCP := Lib.hid (fun W => Tryz.strings_CutPrefix s ⟨#[45]⟩ W)
  rw [show (⟨(Lib.trimPrefix s.data.toList (⟨#[45]⟩ : ByteArray).data.toList).toArray⟩ : ByteArray) = D from ba_ext (by show Lib.trimPrefix s.data.toList [45] = _; exact hD), show Lib.hasPrefix s.data.toList (⟨#[45]⟩ : ByteArray).data.toList = neg from hn] at HCP
  have HH := Lib.hid (And.intro hg (And.intro hsz hb))
  have h1 : D.toList.isEmpty = false := not_empty D hne
  obtain ⟨c0, hc0⟩ : ∃ c, (D.data.toList.getD 0 0).toNat = c := ⟨_, rfl⟩
  have va : D[0].toNat = c0 := by rw [digit_at D 0 hne]; exact hc0
  clear hg hsz hD hn hb
  have k1 : ((c0 : Int) == 48) = false := by simp; omega
  clear h0 hc0
  all_goals
    go_enter Tryz.func97, Tryz.ntmps97
    go_wp2_with (go_at_call 121; refine (HCP.out _).mono ?_; rintro e w1 ⟨rfl, rfl⟩)
    clear h1 va k1
    go_loopw [3, 5] (fun d x wr => ∃ k, k ≤ q ∧ ReadingAt D w k d x wr) (fun d _ _ => strLen d)
    case atStart => exact ⟨0, Nat.zero_le _, D, .slice none 0 0, Nat.zero_le _, rfl, rfl, by rw [List.drop_zero], fun j hj => by omega, by rw [List.take_zero]; exact World.ownsRow_nil _ _ _ _, two_new _ _ _ _, (Below.refl _ _).alloc (Nat.le_refl _) _, by simp⟩
    case round =>
      obtain ⟨k, hkq, t, v, hk, rfl, rfl, ht, hdk, hown, htwo, hbel, hsz⟩ := hrel
      have hts : t.size = D.size - k := by rw [Lib.size_eq, ht, List.length_drop, ← Lib.size_eq]
      have hlt : k < D.size := by omega
      obtain ⟨r, c, e1, e2, c19, c0', cn⟩ := chunk_cut t.size (by omega)
      have hp : (0 : Int) < (t.size : Int) := by omega
      have hci : (r : Int) + 1 = (c : Int) := by omega
      have b1 : (c : Int) ≤ (t.size : Int) := by omega
      have b2 : t.size ≤ 65536 := by have := HH.out.2.1; omega
      have b3 : r ≤ 18 := by omega
      have hcs : (t.extract 0 c).size = c := by rw [ByteArray.size_extract]; omega
      have HR := Lib.hid (And.intro ht (And.intro hdk (And.intro hown (And.intro htwo (And.intro hbel (And.intro hsz hts))))))
      by_cases hin : q < k + c
      · have hch := chunk_bad v (t.extract 0 c) wr (q - k) (by omega) (by omega) (fun j hj => by rw [cut_at D t k c j ht (by omega)]; exact HH.out.1 (k + j) (by omega)) (by rw [cut_at D t k c (q - k) ht (by omega), show k + (q - k) = q by omega]; exact HH.out.2.2)
        have HC := Lib.hid hch
        clear ht hdk hown htwo hbel hsz hts e2 c0' hcs hch
        go_wp2_with (go_at_call 122; refine HC.out.mono ?_; rintro e w2 ⟨rfl, rfl⟩)
        exact ⟨rfl, rfl, HR.out.2.2.2.2.1⟩
      · have hch := chunk_good (w.heap.size + 1) (dv (D.data.toList.take k)) v (t.extract 0 c) wr hown hsz (Nat.le_trans (take_words D k hk hdk HH.out.2.1) (by omega)) (by omega) (fun j hj => by rw [cut_at D t k c j ht (by omega)]; exact HH.out.1 (k + j) (by omega)) (dv (D.data.toList.take (k + c))) (cut_value D t k c ht (by omega))
        have HC := Lib.hid hch
        clear ht hdk hown htwo hbel hsz hts e2 c0' hcs hch
        go_wp2_with (go_at_call 122; refine HC.out.mono ?_; rintro e w2 ⟨v', rfl, hown2, hb2⟩; have H2 := Lib.hid (And.intro hown2 hb2); clear hown2 hb2)
        have h1 := HR.out
        have h2 := H2.out
        refine ⟨⟨k + c, by omega, t.extract c t.size, v', by omega, rfl, rfl, cut_rest D t k c h1.1, fun j hj => HH.out.1 j (by omega), h2.1, h1.2.2.2.1.below h2.2 (by omega), h1.2.2.2.2.1.trans (h2.2.mono (by omega)), Nat.le_trans h1.2.2.2.2.2.1 h2.2.size⟩, ?_⟩
        simp [strLen]
        omega
end Go.Proofs.YtajollhpimfefaaGreatDoor
