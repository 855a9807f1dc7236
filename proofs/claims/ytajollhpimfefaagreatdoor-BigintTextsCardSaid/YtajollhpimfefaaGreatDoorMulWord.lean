/- The contract of bigint.multiplyWord. -/
import Derived.Test.YtajollhpimfefaaGreatDoorLawKit
namespace Go.Proofs.YtajollhpimfefaaGreatDoor
open Go.RowKit Go.Shelf

theorem own_set {w : World} {B g c n k : Nat} {T : TypeId} {xs : List Value} (h : w.ownsRow B T 1 (.slice (some ⟨g, 0, none⟩) n c) n xs) (_hk : k < n) (u : Value) :
    (w.setCell ⟨g, k, none⟩ u).ownsRow B T 1 (.slice (some ⟨g, 0, none⟩) n c) n (xs.set k u) := by
  refine ⟨by rw [List.length_set]; exact h.1, ?_⟩
  rcases h.2 with ⟨h', _⟩ | ⟨g', cap, cur, hv, hB, hg, h1, h2, h3, h4⟩
  · cases h'
  · injection hv with e1 _ e3
    injection e1 with e1
    injection e1 with e1
    subst e1; subst e3
    refine .inr ⟨g, c, cur.setIfInBounds k u, rfl, hB, heap_setCell_same w g k cur T u hg, h1, h2, by simpa using h3, ?_⟩
    rw [Array.toList_setIfInBounds, Nat.mul_one, List.take_set, ← h4, Nat.mul_one]

theorem own_trim {w : World} {B g c n m : Nat} {T : TypeId} {xs : List Value} (h : w.ownsRow B T 1 (.slice (some ⟨g, 0, none⟩) n c) n xs) (hm : m ≤ n) :
    w.ownsRow B T 1 (.slice (some ⟨g, 0, none⟩) m c) m (xs.take m) := by
  have hl := h.1
  refine ⟨by rw [List.length_take]; omega, ?_⟩
  rcases h.2 with ⟨h', _⟩ | ⟨g', cap, cur, hv, hB, hg, h1, h2, h3, h4⟩
  · cases h'
  · injection hv with e1 _ e3
    injection e1 with e1
    injection e1 with e1
    subst e1; subst e3
    refine .inr ⟨g, c, cur, rfl, hB, hg, by omega, h2, h3, ?_⟩
    rw [← h4, List.take_take, Nat.mul_one, Nat.mul_one, Nat.min_eq_left hm]

theorem own_cell {w : World} {B g c n : Nat} {T : TypeId} {xs : List Nat} (h : w.ownsRow B T 1 (.slice (some ⟨g, 0, none⟩) n c) n (u64s xs)) (k : Nat) (hk : k < xs.length) :
    w.cell? ⟨g, k, none⟩ = some (.int .u64 (xs.getD k 0 : Nat)) := by
  have h2 := h.cells (g := g) rfl k (.int .u64 (xs.getD k 0 : Nat)) (by unfold u64s; rw [List.getElem?_map, List.getElem?_eq_getElem hk, List.getD_eq_getElem?_getD, List.getElem?_eq_getElem hk]; rfl)
  rw [Lib.add_plain, Nat.zero_add] at h2
  exact h2
theorem own_unfrozen {w : World} {B g c n : Nat} {T : TypeId} {xs : List Value} (h : w.ownsRow B T 1 (.slice (some ⟨g, 0, none⟩) n c) n xs) (k : Nat) : w.frozen? ⟨g, k, none⟩ = false := by
  rcases h.2 with ⟨h', _⟩ | ⟨g', cap, cur, hv, hB, hg, _⟩
  · cases h'
  · injection hv with e1 _ _
    injection e1 with e1
    injection e1 with e1
    subst e1
    simp only [World.frozen?, hg]
    simp
theorem u64s_set (L : List Nat) (k s : Nat) : (u64s L).set k (.int .u64 (s : Nat)) = u64s (L.set k s) := by unfold u64s; rw [List.map_set]

/-- What multiplyWord leaves: the digits of the row times a factor, and a summand. -/
def MulOwned (w : World) (B g cx : Nat) (xs : List Nat) (f s : Nat) (e : Ending) (w' : World) : Prop :=
  ∃ (ys : List Nat) (c : Nat), e = .returned (.int .u64 c) ∧ c < 18446744073709551616 ∧ ys.length = xs.length ∧ Ok ys ∧ wv ys + 18446744073709551616 ^ xs.length * c = f * wv xs + s ∧ w'.ownsRow B 51 1 (.slice (some ⟨g, 0, none⟩) xs.length cx) xs.length (u64s ys) ∧ w.grownBy w' (some g)

set_option maxHeartbeats 1000000 in
set_option maxRecDepth 100000 in
theorem mulWord_own (B g cx : Nat) (xs : List Nat) (f s : Nat) (w : World) (hr : w.ownsRow B 51 1 (.slice (some ⟨g, 0, none⟩) xs.length cx) xs.length (u64s xs)) (hn : xs.length ≤ 1048576) (hxs : Ok xs) (hf : f < 18446744073709551616) (hs : s < 18446744073709551616) :
    Calls Tryz.prog 142 #[.slice (some ⟨g, 0, none⟩) xs.length cx, .int .u64 (f : Nat), .int .u64 (s : Nat)] w (MulOwned w B g cx xs f s) := by
  have HQ := Lib.hid (And.intro hf hs)
  have HRW := Lib.hid hr
  clear hf hr hs
  go_enter Tryz.func142, Tryz.ntmps142
  go_wp2_with fail
  go_loopw [2, 14] (fun c i wr => ∃ (k cy : Nat) (ys : List Nat), k ≤ xs.length ∧ i = .int .i64 k ∧ c = .int .u64 cy ∧ cy < 18446744073709551616 ∧ ys.length = k ∧ Ok ys ∧ wv ys + 18446744073709551616 ^ k * cy = f * wv (xs.take k) + s ∧ wr.ownsRow B 51 1 (.slice (some ⟨g, 0, none⟩) xs.length cx) xs.length (u64s (ys ++ xs.drop k)) ∧ w.grownBy wr (some g)) (fun _ i _ => xs.length - (intOf i).toNat)
  case atStart => exact ⟨0, s, [], Nat.zero_le _, rfl, rfl, HQ.out.2, rfl, Ok.nil, by simp [wv], HRW.out, World.grownBy.refl _ _⟩
  case round =>
    obtain ⟨k, cy, ys, hk, rfl, rfl, hcy, hy, hok, heq, hrow, ht⟩ := hrel
    have HCY := Lib.hid hcy
    have HY := Lib.hid hy
    have HE := Lib.hid heq
    have HROW := Lib.hid hrow
    have HT := Lib.hid ht
    clear hcy hy heq hrow ht
    by_cases hlt : k < xs.length
    · obtain ⟨d, hd⟩ : ∃ d, d = xs.getD k 0 := ⟨_, rfl⟩
      have hct : wr.cell? ⟨g, k, none⟩ = some (.int .u64 (d : Nat)) := by
        have h := own_cell HROW.out k (by rw [List.length_append, List.length_drop, HY.out]; omega)
        rw [mid_getD ys xs k HY.out hlt, ← hd] at h
        exact h
      have hfr : wr.frozen? ⟨g, k, none⟩ = false := own_unfrozen HROW.out k
      have hdb : d < 18446744073709551616 := by rw [hd]; exact hxs.getD k
      obtain ⟨hi, lo, e1, l1, hmul⟩ := mul64_ex d f hdb HQ.out.1
      obtain ⟨s1, c1, e2, l2, k2, hadd1⟩ := add64_ex0 lo cy l1 HCY.out
      obtain ⟨h1, e4, hw1⟩ := addW_ex hi c1 (hi_fits d f hi lo c1 hdb HQ.out.1 e1 k2)
      have hb5 : h1 < 18446744073709551616 := by rw [e4]; exact hi_fits d f hi lo c1 hdb HQ.out.1 e1 k2
      have HH := Lib.hid (And.intro hd (And.intro e1 (And.intro e2 (And.intro e4 (And.intro l2 hb5)))))
      have HM := Lib.hid hmul
      clear hd hdb e1 e2 e4 l1 l2 k2 hb5 hmul
      go_wp2_with (go_at_call 115; refine (HM.out _).mono ?_; rintro e w' ⟨rfl, rfl⟩)
      go_roundw
      case rel =>
        obtain ⟨hd, e1, e2, e4, l2, hb5⟩ := HH.out
        refine ⟨k + 1, h1, ys ++ [s1], by omega, by go_num, rfl, hb5, by rw [List.length_append, HY.out]; rfl, hok.append (Ok.nil.cons l2), ?_, ?_, ?_⟩
        · rw [wv_snoc, HY.out, Nat.pow_succ, wv_take_succ xs k hlt, ← hd, e4]
          have h := HE.out
          have h1 : 18446744073709551616 ^ k * (lo + cy) = 18446744073709551616 ^ k * (s1 + 18446744073709551616 * c1) := by rw [e2]
          have h2 : 18446744073709551616 ^ k * (d * f) = 18446744073709551616 ^ k * (lo + 18446744073709551616 * hi) := by rw [e1]
          generalize 18446744073709551616 ^ k = P at *
          grind
        · have h := own_set HROW.out hlt (.int .u64 (s1 : Nat))
          rw [u64s_set, set_mid ys xs k s1 HY.out hlt] at h
          exact h
        · exact grown_trans HT.out (grown_set _ _ _ _)
      case measure => simp [intOf]; omega
    · have hkn : k = xs.length := by omega
      have HKN := Lib.hid hkn
      clear hkn
      go_wp2_with fail
      go_ret
      have hy := HY.out
      have hkn := HKN.out
      refine ⟨ys, cy, rfl, HCY.out, by rw [hy, hkn], hok, ?_, ?_, HT.out⟩
      · have := HE.out
        rw [hkn, List.take_of_length_le (Nat.le_refl _)] at this
        exact this
      · have := HROW.out
        rw [hkn, List.drop_length, List.append_nil] at this
        exact this

/-- .. at no digits. -/
theorem mulWord_nil (cx : Nat) (p : Option Addr) (f s : Nat) (w : World) :
    Calls Tryz.prog 142 #[.slice p 0 cx, .int .u64 (f : Nat), .int .u64 (s : Nat)] w fun e w' => e = .returned (.int .u64 (s : Nat)) ∧ w = w' := by
  go_enter Tryz.func142, Tryz.ntmps142
  go_wp2_with fail
  go_loopw [2, 14] (fun c i wr => c = .int .u64 (s : Nat) ∧ i = .int .i64 0 ∧ w = wr) (fun _ _ _ => 0)
  case atStart => exact ⟨rfl, rfl, rfl⟩
  case round =>
    obtain ⟨rfl, rfl, rfl⟩ := hrel
    go_wp2_with fail
    go_ret
    exact ⟨rfl, rfl⟩
end Go.Proofs.YtajollhpimfefaaGreatDoor
