/- The contract of the reference's Parse: what it refuses. -/
import Derived.Test.YtajollhpimfefaaGreatDoorRParse
namespace Go.Proofs.YtajollhpimfefaaGreatDoor
open Go.RowKit Go.Shelf

set_option maxHeartbeats 1000000 in
set_option maxRecDepth 100000 in
/-- No digits behind a sign, or none at all. -/
theorem rparse_none1 (s D : ByteArray) (w : World) (hs : s.size ≤ 200) (hcase : (s.data.toList = 45 :: D.data.toList) ∨ (s = D ∧ (D.data.toList.getD 0 0).toNat ≠ 45)) (h0 : D.size = 0) :
    Calls Tryz.prog 41 #[.string s] w fun e w' => e = .returned (.tuple #[.agg #[.bool false, .string ⟨#[]⟩], .int .i64 3]) ∧ Below w.heap.size w w' := by
  have hl : ¬ (65536 : Int) < (s.size : Int) := by omega
  have hem : D.toList.isEmpty = true := by
    rw [Lib.toList_data]
    cases e : D.data.toList with
    | nil => rfl
    | cons a l => rw [Lib.size_eq, e] at h0; simp at h0
  rcases hcase with h | ⟨rfl, h⟩
  · obtain ⟨hx, hsz⟩ := tail_of s D 45 h
    have hsp : 0 < s.size := by omega
    have hsp1 : (0 : Int) < (s.size : Int) := by omega
    have hc : s[0].toNat = 45 := by rw [first_of s hsp, h]; rfl
    clear hsz h
    go_enter Tryz.func41, Tryz.ntmps41
    go_wp2_with fail
    refine bodyPost_ret (v := .tuple #[.agg #[.bool false, .string ⟨#[]⟩], .int .i64 3]) (by simp [results, Tryz.results41, go_sem]) rfl ⟨rfl, ?_⟩
    exact ((Below.refl _ _).alloc (Nat.le_refl _) _)
  · have hs0 : ¬ (0 : Int) < (s.size : Int) := by omega
    clear h0
    go_enter Tryz.func41, Tryz.ntmps41
    go_wp2_with fail
    refine bodyPost_ret (v := .tuple #[.agg #[.bool false, .string ⟨#[]⟩], .int .i64 3]) (by simp [results, Tryz.results41, go_sem]) rfl ⟨rfl, ?_⟩
    exact ((Below.refl _ _).alloc (Nat.le_refl _) _)

set_option maxHeartbeats 1000000 in
set_option maxRecDepth 100000 in
/-- A nought ahead of other digits. -/
theorem rparse_none2 (s D : ByteArray) (w : World) (hs : s.size ≤ 200) (hcase : (s.data.toList = 45 :: D.data.toList) ∨ (s = D ∧ (D.data.toList.getD 0 0).toNat ≠ 45)) (h0 : 0 < D.size) (h48 : (D.data.toList.getD 0 0).toNat = 48) (h1 : 1 < s.size) :
    Calls Tryz.prog 41 #[.string s] w fun e w' => e = .returned (.tuple #[.agg #[.bool false, .string ⟨#[]⟩], .int .i64 3]) ∧ Below w.heap.size w w' := by
  have hl : ¬ (65536 : Int) < (s.size : Int) := by omega
  have hem := nonempty_of D h0
  have hcd : D[0].toNat = 48 := by rw [first_of D h0, h48]
  have hq1 : (1 : Int) < (s.size : Int) := by omega
  have hsp : 0 < s.size := by omega
  have hsp1 : (0 : Int) < (s.size : Int) := by omega
  rcases hcase with h | ⟨rfl, h⟩
  · obtain ⟨hx, hsz⟩ := tail_of s D 45 h
    have hc : s[0].toNat = 45 := by rw [first_of s hsp, h]; rfl
    clear hsz h
    go_enter Tryz.func41, Tryz.ntmps41
    go_wp2_with fail
    refine bodyPost_ret (v := .tuple #[.agg #[.bool false, .string ⟨#[]⟩], .int .i64 3]) (by simp [results, Tryz.results41, go_sem]) rfl ⟨rfl, ?_⟩
    exact ((Below.refl _ _).alloc (Nat.le_refl _) _)
  · clear h h48
    go_enter Tryz.func41, Tryz.ntmps41
    go_wp2_with fail
    refine bodyPost_ret (v := .tuple #[.agg #[.bool false, .string ⟨#[]⟩], .int .i64 3]) (by simp [results, Tryz.results41, go_sem]) rfl ⟨rfl, ?_⟩
    exact ((Below.refl _ _).alloc (Nat.le_refl _) _)

set_option maxHeartbeats 2000000 in
set_option maxRecDepth 100000 in
/-- A byte that is no digit. -/
theorem rparse_none3 (s D : ByteArray) (w : World) (hs : s.size ≤ 200) (hcase : (s.data.toList = 45 :: D.data.toList) ∨ (s = D ∧ (D.data.toList.getD 0 0).toNat ≠ 45)) (h0 : 0 < D.size) (h48 : (D.data.toList.getD 0 0).toNat ≠ 48) (q : Nat) (hq : q < D.size) (hg : ∀ j, j < q → DigitAt D j) (hb : ¬ DigitAt D q) :
    Calls Tryz.prog 41 #[.string s] w fun e w' => e = .returned (.tuple #[.agg #[.bool false, .string ⟨#[]⟩], .int .i64 3]) ∧ Below w.heap.size w w' := by
  have hl : ¬ (65536 : Int) < (s.size : Int) := by omega
  have hem := nonempty_of D h0
  obtain ⟨c0, hc0⟩ : ∃ c, (D.data.toList.getD 0 0).toNat = c := ⟨_, rfl⟩
  have hcd : D[0].toNat = c0 := by rw [first_of D h0, hc0]
  rw [hc0] at h48 hcase
  have hcn : ¬ c0 = 48 := h48
  have HD := Lib.hid (And.intro hg hb)
  clear hg hb hc0 h48
  rcases hcase with h | ⟨rfl, h⟩
  · obtain ⟨hx, hsz⟩ := tail_of s D 45 h
    have hsp : 0 < s.size := by omega
    have hsp1 : (0 : Int) < (s.size : Int) := by omega
    have hc : s[0].toNat = 45 := by rw [first_of s hsp, h]; rfl
    have hD200 : D.size ≤ 200 := by omega
    clear hsz h
    go_enter Tryz.func41, Tryz.ntmps41
    go_wp2_with fail
    obtain ⟨W1, hW1⟩ : ∃ V, w.alloc (Obj.cells #[Value.bool false, Value.string ⟨#[]⟩] 23) = V := ⟨_, rfl⟩
    have tA : Two w.heap.size (.bool false) (.string ⟨#[]⟩) W1 := by rw [← hW1]; exact two_new _ _ _ _
    have hb1 : Below w.heap.size w W1 := by rw [← hW1]; exact (Below.refl _ _).alloc (Nat.le_refl _) _
    have H1 := Lib.hid (And.intro hb1 tA)
    rw [hW1]
    clear hW1 tA hb1
    go_loopw [3, 5] (fun e i wx => ∃ k : Nat, e = .int .i64 0 ∧ i = .int .i64 k ∧ k ≤ q ∧ wx = W1) (fun _ i _ => D.size - (intOf i).toNat)
    case atStart => exact ⟨0, rfl, rfl, Nat.zero_le _, rfl⟩
    case round =>
      obtain ⟨k, rfl, rfl, hk, rfl⟩ := hrel
      have hltD : k < D.size := by omega
      obtain ⟨c, hc⟩ : ∃ c, (D.data.toList.getD k 0).toNat = c := ⟨_, rfl⟩
      have va : D[k].toNat = c := by rw [digit_at D k hltD]; exact hc
      by_cases hlt : k < q
      · have hgg : 48 ≤ c ∧ c ≤ 57 := by have h := HD.out.1 k hlt; unfold DigitAt at h; rw [hc] at h; exact h
        have g1 : ¬ (c : Int) < 48 := by omega
        have g2 : ¬ (57 : Int) < (c : Int) := by omega
        clear hc
        go_wp2_with fail
        exact ⟨⟨k + 1, rfl, by go_num, by omega, trivial⟩, by simp [intOf]; omega⟩
      · have hkq : k = q := by omega
        subst hkq
        have hgg : ¬ (48 ≤ c ∧ c ≤ 57) := by have h := HD.out.2; unfold DigitAt at h; rw [hc] at h; exact h
        have tA := H1.out.2
        have m1 := tA.1.1
        have m2 := tA.2.1
        have m3 := tA.1.2
        have m4 := tA.2.2
        have tB := two_set tA (.bool false) (.string ⟨#[]⟩)
        have y0 := tB.1.1
        have y1 := tB.2.1
        have hE : Below w.heap.size w ((wr.setCell ⟨w.heap.size, 0, none⟩ (.bool false)).setCell ⟨w.heap.size, 1, none⟩ (.string ⟨#[]⟩)) := (H1.out.1.setCell (Nat.le_refl _) _).setCell (Nat.le_refl _) _
        have HE := Lib.hid hE
        clear hc tA tB hE
        by_cases g1 : (c : Int) < 48
        · go_wp2_with fail
          refine bodyPost_ret (v := .tuple #[.agg #[.bool false, .string ⟨#[]⟩], .int .i64 3]) (by simp [results, Tryz.results41, go_sem, y0, y1]) rfl ⟨rfl, ?_⟩
          exact HE.out
        · have g2 : (57 : Int) < (c : Int) := by omega
          go_wp2_with fail
          refine bodyPost_ret (v := .tuple #[.agg #[.bool false, .string ⟨#[]⟩], .int .i64 3]) (by simp [results, Tryz.results41, go_sem, y0, y1]) rfl ⟨rfl, ?_⟩
          exact HE.out
  · have hsp1 : (0 : Int) < (s.size : Int) := by omega
    have hq1 : ¬ (c0 : Int) = 45 := by omega
    have hq2 : ¬ (c0 : Int) = 48 := by omega
    clear h
    go_enter Tryz.func41, Tryz.ntmps41
    go_wp2_with fail
    obtain ⟨W1, hW1⟩ : ∃ V, w.alloc (Obj.cells #[Value.bool false, Value.string ⟨#[]⟩] 23) = V := ⟨_, rfl⟩
    have tA : Two w.heap.size (.bool false) (.string ⟨#[]⟩) W1 := by rw [← hW1]; exact two_new _ _ _ _
    have hb1 : Below w.heap.size w W1 := by rw [← hW1]; exact (Below.refl _ _).alloc (Nat.le_refl _) _
    have H1 := Lib.hid (And.intro hb1 tA)
    rw [hW1]
    clear hW1 tA hb1
    go_loopw [3, 5] (fun e i wx => ∃ k : Nat, e = .int .i64 0 ∧ i = .int .i64 k ∧ k ≤ q ∧ wx = W1) (fun _ i _ => s.size - (intOf i).toNat)
    case atStart => exact ⟨0, rfl, rfl, Nat.zero_le _, rfl⟩
    case round =>
      obtain ⟨k, rfl, rfl, hk, rfl⟩ := hrel
      have hltD : k < s.size := by omega
      obtain ⟨c, hc⟩ : ∃ c, (s.data.toList.getD k 0).toNat = c := ⟨_, rfl⟩
      have va : s[k].toNat = c := by rw [digit_at s k hltD]; exact hc
      by_cases hlt : k < q
      · have hgg : 48 ≤ c ∧ c ≤ 57 := by have h := HD.out.1 k hlt; unfold DigitAt at h; rw [hc] at h; exact h
        have g1 : ¬ (c : Int) < 48 := by omega
        have g2 : ¬ (57 : Int) < (c : Int) := by omega
        clear hc
        go_wp2_with fail
        exact ⟨⟨k + 1, rfl, by go_num, by omega, trivial⟩, by simp [intOf]; omega⟩
      · have hkq : k = q := by omega
        subst hkq
        have hgg : ¬ (48 ≤ c ∧ c ≤ 57) := by have h := HD.out.2; unfold DigitAt at h; rw [hc] at h; exact h
        have tA := H1.out.2
        have m1 := tA.1.1
        have m2 := tA.2.1
        have m3 := tA.1.2
        have m4 := tA.2.2
        have tB := two_set tA (.bool false) (.string ⟨#[]⟩)
        have y0 := tB.1.1
        have y1 := tB.2.1
        have hE : Below w.heap.size w ((wr.setCell ⟨w.heap.size, 0, none⟩ (.bool false)).setCell ⟨w.heap.size, 1, none⟩ (.string ⟨#[]⟩)) := (H1.out.1.setCell (Nat.le_refl _) _).setCell (Nat.le_refl _) _
        have HE := Lib.hid hE
        clear hc tA tB hE
        by_cases g1 : (c : Int) < 48
        · go_wp2_with fail
          refine bodyPost_ret (v := .tuple #[.agg #[.bool false, .string ⟨#[]⟩], .int .i64 3]) (by simp [results, Tryz.results41, go_sem, y0, y1]) rfl ⟨rfl, ?_⟩
          exact HE.out
        · have g2 : (57 : Int) < (c : Int) := by omega
          go_wp2_with fail
          refine bodyPost_ret (v := .tuple #[.agg #[.bool false, .string ⟨#[]⟩], .int .i64 3]) (by simp [results, Tryz.results41, go_sem, y0, y1]) rfl ⟨rfl, ?_⟩
          exact HE.out

theorem rparse_some (s : ByteArray) (z : Int) (w : World) (hs : s.size ≤ 200) (h : s = txt z) :
    Calls Tryz.prog 41 #[.string s] w fun e w' => e = .returned (.tuple #[.agg #[.bool (ng z), .string (mg z)], .int .i64 0]) ∧ Below w.heap.size w w' := by
  have hl : s.data.toList = Lib.itoa z := by rw [h]; rfl
  by_cases hz : z < 0
  · obtain ⟨n, rfl⟩ : ∃ n : Nat, z = -(n : Int) := ⟨z.natAbs, by omega⟩
    rw [Lib.itoa_neg n (by omega)] at hl
    have hl2 : s.data.toList = 45 :: (⟨(Lib.decDigits n).toArray⟩ : ByteArray).data.toList := by rw [hl]
    obtain ⟨hx, hsz⟩ := tail_of s ⟨(Lib.decDigits n).toArray⟩ 45 hl2
    have h0 : 0 < (⟨(Lib.decDigits n).toArray⟩ : ByteArray).size := List.length_pos_iff.2 (decDigits_ne n)
    have hsp : 0 < s.size := by omega
    exact rparse_1 s ⟨(Lib.decDigits n).toArray⟩ w _ _ hs h0 hsp hx (by rw [first_of s hsp, hl2]; rfl) (by rw [first_of _ h0]; exact head_decDigits n (by omega)) (by omega) rfl (fun j hj => digs_at (digs_decDigits n) j hj) (by rw [show dv (⟨(Lib.decDigits n).toArray⟩ : ByteArray).data.toList = n from dv_decDigits n]; rfl)
  · obtain ⟨n, rfl⟩ : ∃ n : Nat, z = (n : Int) := ⟨z.toNat, by omega⟩
    rw [Lib.itoa_nonneg n] at hl
    have h0 : 0 < s.size := by rw [Lib.size_eq, hl]; exact List.length_pos_iff.2 (decDigits_ne n)
    have hdg : Digs s.data.toList := by rw [hl]; exact digs_decDigits n
    have hda := fun j (hj : j < s.size) => digs_at hdg j hj
    have hzz : sgn false (dv s.data.toList) = (n : Int) := by rw [hl, dv_decDigits n]; rfl
    by_cases hn : n = 0
    · subst hn
      rw [Lib.decDigits_one (by omega)] at hl
      exact rparse_3 s w _ _ hs h0 h0 (by rw [first_of s h0, hl]; rfl) (by rw [Lib.size_eq, hl]; rfl) rfl hda hzz
    · exact rparse_2 s w _ _ hs h0 h0 (by have h := hda 0 h0; unfold DigitAt at h; rw [first_of s h0]; omega) (by rw [first_of s h0, hl]; exact head_decDigits n (by omega)) rfl hda hzz

theorem rparse_none (s : ByteArray) (w : World) (hs : s.size ≤ 200) (h : ∀ z, s ≠ txt z) :
    Calls Tryz.prog 41 #[.string s] w fun e w' => e = .returned (.tuple #[.agg #[.bool false, .string ⟨#[]⟩], .int .i64 3]) ∧ Below w.heap.size w w' := by
  have hl : ∀ z, s.data.toList ≠ Lib.itoa z := fun z e => h z (ba_ext e)
  obtain ⟨D, hcase⟩ : ∃ D : ByteArray, (s.data.toList = 45 :: D.data.toList) ∨ (s = D ∧ (D.data.toList.getD 0 0).toNat ≠ 45) := by
    by_cases h45 : (s.data.toList.getD 0 0).toNat = 45
    · cases e : s.data.toList with
      | nil => rw [e] at h45; exact absurd h45 (by decide)
      | cons c l =>
        rw [e] at h45
        have hc : c = 45 := UInt8.toNat_inj.1 h45
        exact ⟨⟨l.toArray⟩, .inl (by rw [hc])⟩
    · exact ⟨s, .inr ⟨rfl, h45⟩⟩
  by_cases he : D.size = 0
  · exact rparse_none1 s D w hs hcase he
  have h0 : 0 < D.size := by omega
  have hne : D.data.toList ≠ [] := fun e => he (by rw [Lib.size_eq, e]; rfl)
  by_cases h48 : (D.data.toList.getD 0 0).toNat = 48
  · refine rparse_none2 s D w hs hcase h0 h48 ?_
    rcases hcase with e | ⟨rfl, _⟩
    · have := (tail_of s D 45 e).2; omega
    · refine Classical.byContradiction fun h1 => hl 0 ?_
      rw [itoa_zero]
      cases e : s.data.toList with
      | nil => exact absurd e hne
      | cons c l =>
        have hl0 : l = [] := by
          have h2 := Lib.size_eq s
          rw [e] at h2
          simp at h2
          exact List.length_eq_zero_iff.1 (by omega)
        rw [e] at h48
        rw [hl0, show c = 48 from UInt8.toNat_inj.1 h48]
  · by_cases hd : Digs D.data.toList
    · exfalso
      have h1 := digits_back _ _ rfl hne hd h48
      rcases hcase with e | ⟨rfl, _⟩
      · exact hl (-(dv D.data.toList : Int)) (by rw [Lib.itoa_neg _ h1.2, h1.1]; exact e)
      · exact hl (dv s.data.toList : Int) (by rw [Lib.itoa_nonneg, h1.1])
    · obtain ⟨q, h1, h2, h3⟩ := first_wrong D hd
      exact rparse_none3 s D w hs hcase h0 h48 q h1 h2 h3
end Go.Proofs.YtajollhpimfefaaGreatDoor
