/- The contract of bigint.appendChunk. -/
import Derived.Test.YtajollhpimfefaaGreatDoorMulWord
namespace Go.Proofs.YtajollhpimfefaaGreatDoor
open Go.RowKit Go.Shelf

/-- The value of decimal digits. -/
def dv (l : List UInt8) : Nat := l.foldl (fun n c => 10 * n + (c.toNat - 48)) 0
def Digs (l : List UInt8) : Prop := ∀ c ∈ l, 48 ≤ c.toNat ∧ c.toNat ≤ 57
theorem dv_snoc (l : List UInt8) (c : UInt8) : dv (l ++ [c]) = 10 * dv l + (c.toNat - 48) := by simp [dv]
theorem dv_take (l : List UInt8) (k : Nat) (h : k < l.length) : dv (l.take (k + 1)) = 10 * dv (l.take k) + ((l.getD k 0).toNat - 48) := by
  rw [List.take_succ_eq_append_getElem h, dv_snoc, List.getD_eq_getElem?_getD, List.getElem?_eq_getElem h]; rfl
theorem ten_le (k : Nat) (h : k ≤ 18) : 10 ^ k ≤ 1000000000000000000 := Nat.pow_le_pow_right (n := 10) (by omega) h
theorem digit_at (s : ByteArray) (k : Nat) (h : k < s.size) : s[k].toNat = (s.data.toList.getD k 0).toNat := by
  have hl : s.size = s.data.toList.length := Lib.size_eq s
  rw [List.getD_eq_getElem?_getD, List.getElem?_eq_getElem (by omega), Option.getD_some]
  rfl

/-- The panic at a byte that is no digit. -/
def wrongByte : List PanicEntry := [{ v := .iface 29 (.int .i64 3), recovered := false }]

set_option maxHeartbeats 1000000 in
set_option maxRecDepth 100000 in
theorem chunk_bad (v : Value) (s : ByteArray) (w : World) (q : Nat) (hq : q < s.size) (hn : s.size ≤ 19) (hg : ∀ j, j < q → 48 ≤ (s.data.toList.getD j 0).toNat ∧ (s.data.toList.getD j 0).toNat ≤ 57) (hb : ¬ (48 ≤ (s.data.toList.getD q 0).toNat ∧ (s.data.toList.getD q 0).toNat ≤ 57)) :
    Calls Tryz.prog 122 #[v, .string s] w fun e w' => e = .panicked wrongByte ∧ w = w' := by
  have HG := Lib.hid hg
  have HB := Lib.hid hb
  clear hg hb
  go_enter Tryz.func122, Tryz.ntmps122
  go_wp2_with fail
  go_loopw [5, 6, 10] (fun x b i wr => ∃ (k m t : Nat), k ≤ q ∧ i = .int .i64 k ∧ x = .int .u64 m ∧ b = .int .u64 t ∧ m < 10 ^ k ∧ t = 10 ^ k ∧ w = wr) (fun _ _ i _ => s.size - (intOf i).toNat)
  case atStart => exact ⟨0, 0, 1, Nat.zero_le _, rfl, rfl, rfl, by simp, by simp, rfl⟩
  case round =>
    obtain ⟨k, m, t, hk, rfl, rfl, rfl, hm, ht, rfl⟩ := hrel
    have HM := Lib.hid (And.intro hm ht)
    have hks : k < s.size := by omega
    obtain ⟨c, hc⟩ : ∃ c, (s.data.toList.getD k 0).toNat = c := ⟨_, rfl⟩
    have va : s[k].toNat = c := by rw [digit_at s k hks]; exact hc
    have hc256 : c < 256 := by rw [← hc]; exact UInt8.toNat_lt _
    by_cases hkq : k = q
    · subst hkq
      have hbb : ¬ (48 ≤ c ∧ c ≤ 57) := by rw [← hc]; exact HB.out
      clear hm ht hc
      by_cases h48 : (c : Int) < 48
      · go_wp2_with fail
        exact ⟨rfl, rfl, rfl⟩
      · have h57 : (57 : Int) < (c : Int) := by omega
        go_wp2_with fail
        exact ⟨rfl, rfl, rfl⟩
    · have hgg : 48 ≤ c ∧ c ≤ 57 := by rw [← hc]; exact HG.out k (by omega)
      have h48 : ¬ (c : Int) < 48 := by omega
      have h57 : ¬ (57 : Int) < (c : Int) := by omega
      have hten := ten_le k (by omega)
      obtain ⟨d, hd⟩ : ∃ d : Nat, (c : Int) - 48 = (d : Int) := ⟨c - 48, by omega⟩
      have hd9 : d ≤ 9 := by omega
      obtain ⟨M, hM⟩ : ∃ M : Nat, 10 * m = M := ⟨_, rfl⟩
      obtain ⟨S, hS⟩ : ∃ S : Nat, M + d = S := ⟨_, rfl⟩
      obtain ⟨T, hT⟩ : ∃ T : Nat, 10 * t = T := ⟨_, rfl⟩
      have e1 : IntKind.u64.wrap ((10 : Int) * (m : Int)) = (M : Int) := wrapU_mul 10 m _ hM (by omega)
      have e2 : IntKind.u64.wrap ((M : Int) + (d : Int)) = (S : Int) := by rw [← Int.natCast_add, hS]; exact wrapU _ (by omega)
      have e3 : IntKind.u64.wrap ((10 : Int) * (t : Int)) = (T : Int) := wrapU_mul 10 t _ hT (by omega)
      have HF := Lib.hid (And.intro hM (And.intro hS hT))
      have hkq2 : k < q := by omega
      clear hm ht hc hM hS hT hgg hd9 hten hkq
      go_wp2_with fail
      refine ⟨⟨k + 1, S, T, by omega, by go_num, rfl, rfl, ?_, ?_, trivial⟩, by simp [intOf]; omega⟩
      · have h1 := HM.out
        have h2 := HF.out
        rw [Nat.pow_succ]
        omega
      · have h1 := HM.out
        have h2 := HF.out
        rw [Nat.pow_succ]
        omega


theorem dv_all (s : ByteArray) : dv (s.data.toList.take s.size) = dv s.data.toList := by
  rw [List.take_of_length_le (by rw [← Lib.size_eq]; exact Nat.le_refl _)]
theorem own_caps {w : World} {B g c n : Nat} {T : TypeId} {xs : List Value} (h : w.ownsRow B T 1 (.slice (some ⟨g, 0, none⟩) n c) n xs) : n ≤ c ∧ c ≤ maxLen := by
  rcases h.2 with ⟨h', _⟩ | ⟨g', cap, cur, hv, hB, hg, h1, h2, _⟩
  · cases h'
  · injection hv with _ _ e3
    subst e3
    exact ⟨h1, h2⟩
theorem own_nt {w : World} {B g c n : Nat} {T : TypeId} {xs : List Nat} (h : w.ownsRow B T 1 (.slice (some ⟨g, 0, none⟩) n c) n (u64s xs)) : Nt w (some ⟨g, 0, none⟩) xs :=
  .inr ⟨g, 0, rfl, fun j hj => by rw [Nat.zero_add]; exact ⟨own_cell h j hj, own_unfrozen h j⟩⟩
theorem own_len {w : World} {B n : Nat} {T : TypeId} {v : Value} {xs : List Nat} (h : w.ownsRow B T 1 v n (u64s xs)) : xs.length = n := by
  have := h.1
  rw [u64s_length] at this
  omega
/-- The number that trim leaves of a row of our own. -/
theorem own_norm {w : World} {B g c n : Nat} {T : TypeId} {xs : List Nat} (h : w.ownsRow B T 1 (.slice (some ⟨g, 0, none⟩) n c) n (u64s xs)) (hok : Ok xs) (N : Nat) (hN : wv xs = N) :
    w.ownsRow B T 1 (.slice (some ⟨g, 0, none⟩) (trimW xs) c) (nw N).length (u64s (nw N)) := by
  have h1 := own_trim h (m := trimW xs) (by rw [← own_len h]; exact trimW_le xs)
  rw [show (u64s xs).take (trimW xs) = u64s (nw N) by unfold u64s; rw [← List.map_take, take_trimW xs hok, hN]] at h1
  have h2 := trimW_length xs hok
  rw [hN] at h2
  rw [← h2]
  exact h1
theorem own_below {w w' : World} {B : Nat} {row : Option Nat} (hg : w.grownBy w' row) (hB : B ≤ w.heap.size) (hr : ∀ k, row = some k → B ≤ k) : Below B w w' :=
  ⟨hg.os, hg.tape, hg.output, hg.size, fun k hk => hg.block k (by omega) (fun e => by have := hr k e.symm; omega)⟩

set_option maxHeartbeats 1000000 in
set_option maxRecDepth 100000 in
theorem chunk_good (B n : Nat) (v : Value) (s : ByteArray) (w : World) (hown : w.ownsRow B 51 1 v (nw n).length (u64s (nw n))) (hB : B ≤ w.heap.size) (hl : (nw n).length ≤ 100000) (hn : s.size ≤ 19)
    (hg : ∀ j, j < s.size → 48 ≤ (s.data.toList.getD j 0).toNat ∧ (s.data.toList.getD j 0).toNat ≤ 57) (N : Nat) (hN : N = 10 ^ s.size * n + dv s.data.toList) :
    Calls Tryz.prog 122 #[v, .string s] w fun e w' => ∃ v', e = .returned v' ∧ w'.ownsRow B 51 1 v' (nw N).length (u64s (nw N)) ∧ Below B w w' := by
  have HG := Lib.hid hg
  have HO := Lib.hid (And.intro hown (And.intro hB (And.intro hl hN)))
  have hlen : s.data.toList.length = s.size := (Lib.size_eq s).symm
  clear hg hown hB hl hN
  go_enter Tryz.func122, Tryz.ntmps122
  go_wp2_with fail
  go_loopw [5, 6, 10] (fun x b i wr => ∃ (k m t : Nat), k ≤ s.size ∧ i = .int .i64 k ∧ x = .int .u64 m ∧ b = .int .u64 t ∧ (m < 10 ^ k ∧ m = dv (s.data.toList.take k)) ∧ t = 10 ^ k ∧ w = wr) (fun _ _ i _ => s.size - (intOf i).toNat)
  case atStart => exact ⟨0, 0, 1, Nat.zero_le _, rfl, rfl, rfl, ⟨by simp, rfl⟩, by simp, rfl⟩
  case round =>
    obtain ⟨k, m, t, hk, rfl, rfl, rfl, ⟨hm, hmd⟩, ht, rfl⟩ := hrel
    have HM := Lib.hid (And.intro hm (And.intro ht hmd))
    by_cases hkq : k < s.size
    · obtain ⟨c, hc⟩ : ∃ c, (s.data.toList.getD k 0).toNat = c := ⟨_, rfl⟩
      have va : s[k].toNat = c := by rw [digit_at s k hkq]; exact hc
      have hc256 : c < 256 := by rw [← hc]; exact UInt8.toNat_lt _
      have hgg : 48 ≤ c ∧ c ≤ 57 := by rw [← hc]; exact HG.out k (by omega)
      have h48 : ¬ (c : Int) < 48 := by omega
      have h57 : ¬ (57 : Int) < (c : Int) := by omega
      have hten := ten_le k (by omega)
      obtain ⟨d, hd⟩ : ∃ d : Nat, (c : Int) - 48 = (d : Int) := ⟨c - 48, by omega⟩
      have hd9 : d ≤ 9 := by omega
      obtain ⟨M, hM⟩ : ∃ M : Nat, 10 * m = M := ⟨_, rfl⟩
      obtain ⟨S, hS⟩ : ∃ S : Nat, M + d = S := ⟨_, rfl⟩
      obtain ⟨T, hT⟩ : ∃ T : Nat, 10 * t = T := ⟨_, rfl⟩
      have e1 : IntKind.u64.wrap ((10 : Int) * (m : Int)) = (M : Int) := wrapU_mul 10 m _ hM (by omega)
      have e2 : IntKind.u64.wrap ((M : Int) + (d : Int)) = (S : Int) := by rw [← Int.natCast_add, hS]; exact wrapU _ (by omega)
      have e3 : IntKind.u64.wrap ((10 : Int) * (t : Int)) = (T : Int) := wrapU_mul 10 t _ hT (by omega)
      have HF := Lib.hid (And.intro hM (And.intro hS (And.intro hT (And.intro hd hc))))
      clear hm ht hmd hc hM hS hT hgg hd9 hten
      go_wp2_with fail
      have h1 := HM.out
      have h2 := HF.out
      refine ⟨⟨k + 1, S, T, by omega, by go_num, rfl, rfl, ⟨?_, ?_⟩, ?_, trivial⟩, by simp [intOf]; omega⟩
      · rw [Nat.pow_succ]
        have := HG.out k hkq
        omega
      · rw [dv_take _ k (by omega), ← h1.2.2, h2.2.2.2.2]
        omega
      · rw [Nat.pow_succ]
        omega
    · have hkn : k = s.size := by omega
      subst hkn
      have hm1 : m < 18446744073709551616 := by
        have := Nat.pow_le_pow_right (n := 10) (by omega) hn
        omega
      have ht1 : t < 18446744073709551616 := by
        have := Nat.pow_le_pow_right (n := 10) (by omega) hn
        omega
      have HMT := Lib.hid (And.intro hm1 ht1)
      obtain ⟨i0, hi0, hz0, hz1, hz2⟩ := info_parts infoU
      have HI := Lib.hid (And.intro hi0 (And.intro hz0 (And.intro hz1 hz2)))
      clear hm ht hmd hm1 ht1 hi0 hz0 hz1 hz2
      have ho := HO.out
      rcases ho.1.2 with ⟨rfl, h0⟩ | ⟨g, cap, cur, rfl, _⟩
      · have hn0 : nw n = [] := List.length_eq_zero_iff.1 h0
        have HN := Lib.hid ((nw_eq_nil n).1 hn0)
        have HMW := Lib.hid (mulWord_nil 0 none t m)
        clear ho h0 hn0
        go_wp2_with (first
          | (go_at_call 142; refine (HMW.out _).mono ?_; rintro e w1 ⟨rfl, rfl⟩)
          | (at_builtin; refine wpList_append_own _ rfl (.tmp 35) (.tmp 40) 55 rfl B 51 i0 (.int .u64 0) 1 8 Tryz.underlying55 HI.out.1 HI.out.2.1 HI.out.2.2.1 HI.out.2.2.2 rfl (by omega) (.slice none 0 0) 0 [] rfl (World.ownsRow_nil _ _ _ _) ⟨w.heap.size, 0, none⟩ 1 1 [.int .u64 (m : Nat)] rfl rfl (one_cells w m 51) (fun u hu => by simp at hu; subst hu; rfl) (by unfold maxLen; omega) (by omega) (by have := HO.out.2.1; simp; omega) ?_; intro v' w3 hown3 hgr3 _; obtain ⟨g', c', rfl⟩ := own_shape hown3 (by omega); have htr := trim_any (some ⟨g', 0, none⟩) [m] c' w3 (own_nt (xs := [m]) hown3) (by simp) (own_caps hown3).1 (own_caps hown3).2; have HT := Lib.hid htr; have H3 := Lib.hid (And.intro hown3 hgr3); clear hown3 hgr3 htr)
          | (go_at_call 81; refine HT.out.mono ?_; rintro e w4 ⟨rfl, rfl⟩))
        go_ret
        have q3 := H3.out
        have q0 := HO.out
        have qm := HM.out
        refine ⟨_, rfl, own_norm (xs := [m]) q3.1 (Ok.nil.cons HMT.out.1) N ?_, ?_⟩
        · rw [q0.2.2.2, HN.out, qm.2.2, dv_all]; simp [wv]
        · have hb2 := (Below.refl B w).alloc q0.2.1 (Obj.cells #[Value.int .u64 (m : Nat)] 51)
          exact hb2.trans (own_below q3.2 (Nat.le_trans q0.2.1 hb2.size) (fun k e => by simp [Value.ownBlock] at e))
      · have HMW := Lib.hid (fun W (h : W.ownsRow B 51 1 (.slice (some ⟨g, 0, none⟩) (nw n).length cap) (nw n).length (u64s (nw n))) => mulWord_own B g cap (nw n) t m W h (by omega) (nw_ok n) HMT.out.2 HMT.out.1)
        clear ho
        go_wp2_with (first
          | (go_at_call 142; refine (HMW.out _ HO.out.1).mono ?_; rintro e w1 ⟨ys, cy, rfl, hcy, hyl, hyok, hyv, hown1, hgr1⟩; have HQ := Lib.hid (And.intro hcy (And.intro hyl (And.intro hyok (And.intro hyv (And.intro hown1 hgr1))))); clear hcy hyl hyok hyv hown1 hgr1)
          | (at_builtin; refine wpList_append_own _ rfl (.tmp 35) (.tmp 40) 55 rfl B 51 i0 (.int .u64 0) 1 8 Tryz.underlying55 HI.out.1 HI.out.2.1 HI.out.2.2.1 HI.out.2.2.2 rfl (by omega) (.slice (some ⟨g, 0, none⟩) (nw n).length cap) (nw n).length (u64s ys) rfl (HQ.out.2.2.2.2.1.alloc _) ⟨w1.heap.size, 0, none⟩ 1 1 [.int .u64 (cy : Nat)] rfl rfl (one_cells w1 cy 51) (fun u hu => by simp at hu; subst hu; rfl) (by have := HO.out.2.2.1; unfold maxLen; omega) (by have := HO.out.2.2.1; omega) (by have := HO.out.2.1; have := HQ.out.2.2.2.2.2.size; simp; omega) ?_; intro v' w3 hown3 hgr3 _; obtain ⟨g', c', rfl⟩ := own_shape hown3 (by omega); rw [u64s_snoc] at hown3; have htr := trim_any (some ⟨g', 0, none⟩) (ys ++ [cy]) c' w3 (own_nt hown3) (by have := own_len hown3; have := HO.out.2.2.1; omega) (by have := own_len hown3; have := (own_caps hown3).1; omega) (own_caps hown3).2; rw [own_len hown3] at htr; have HT := Lib.hid htr; have H3 := Lib.hid (And.intro hown3 hgr3); clear hown3 hgr3 htr)
          | (go_at_call 81; refine HT.out.mono ?_; rintro e w4 ⟨rfl, rfl⟩))
        go_ret
        have q1 := HQ.out
        have q3 := H3.out
        have q0 := HO.out
        have qm := HM.out
        refine ⟨_, rfl, own_norm q3.1 (q1.2.2.1.append (Ok.nil.cons q1.1)) N ?_, ?_⟩
        · rw [wv_snoc, q1.2.1, q1.2.2.2.1, wv_nw, q0.2.2.2, qm.2.1, qm.2.2, dv_all]
        · have hb1 := own_below q1.2.2.2.2.2 q0.2.1 (fun k e => (q0.1.lt k e).1)
          have hb2 := hb1.alloc (Nat.le_trans q0.2.1 hb1.size) (Obj.cells #[Value.int .u64 (cy : Nat)] 51)
          exact hb2.trans (own_below q3.2 (Nat.le_trans q0.2.1 hb2.size) (fun k e => (q0.1.lt k e).1))
end Go.Proofs.YtajollhpimfefaaGreatDoor
