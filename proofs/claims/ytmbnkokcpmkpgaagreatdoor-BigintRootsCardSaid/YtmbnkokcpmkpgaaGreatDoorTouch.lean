/- What a function that writes into a row of words leaves as it was. -/
import Derived.Test.YtmbnkokcpmkpgaaGreatDoorArith
namespace Go.Proofs.YtmbnkokcpmkpgaaGreatDoor
open Go.RowKit

/-- Only cells from off to off + n of block b may have turned; new blocks may have been made. -/
structure Touch (w w' : World) (b off n : Nat) : Prop where
  grown : w.grownBy w' (some b)
  cell : ∀ o, o < off ∨ off + n ≤ o → w'.cell? ⟨b, o, none⟩ = w.cell? ⟨b, o, none⟩
  frozen : ∀ o, w'.frozen? ⟨b, o, none⟩ = w.frozen? ⟨b, o, none⟩

theorem Touch.refl (w : World) (b off n : Nat) : Touch w w b off n := ⟨World.grownBy.refl _ _, fun _ _ => rfl, fun _ => rfl⟩
theorem Touch.trans {a b' c : World} {b off n : Nat} (h : Touch a b' b off n) (k : Touch b' c b off n) : Touch a c b off n :=
  ⟨grown_trans h.grown k.grown, fun o ho => (k.cell o ho).trans (h.cell o ho), fun o => (k.frozen o).trans (h.frozen o)⟩
theorem Touch.wider {w w' : World} {b off n off' n' : Nat} (h : Touch w w' b off n) (h1 : off' ≤ off) (h2 : off + n ≤ off' + n') : Touch w w' b off' n' :=
  ⟨h.grown, fun o ho => h.cell o (by omega), h.frozen⟩
theorem Touch.set {w w' : World} {b off n o : Nat} (h : Touch w w' b off n) (h1 : off ≤ o) (h2 : o < off + n) (v : Value) : Touch w (w'.setCell ⟨b, o, none⟩ v) b off n :=
  ⟨grown_trans h.grown (grown_set _ _ _ _), fun o' ho' => by
    rw [World.cell?_setCell_other _ _ _ _ (by intro e; have := congrArg Addr.off e; simp at this; omega)]; exact h.cell o' ho',
   fun o' => by rw [World.frozen?_setCell]; exact h.frozen o'⟩
theorem Touch.below {w w' w2 : World} {b off n : Nat} (h : Touch w w' b off n) (hb : Below w'.heap.size w' w2) (hlt : b < w.heap.size) : Touch w w2 b off n :=
  ⟨grown_trans h.grown ⟨hb.os, hb.tape, hb.output, hb.size, fun k hk _ => hb.block k hk⟩,
   fun o ho => (hb.cell (p := ⟨b, o, none⟩) (Nat.lt_of_lt_of_le hlt h.grown.size)).trans (h.cell o ho),
   fun o => (hb.frozen (p := ⟨b, o, none⟩) (Nat.lt_of_lt_of_le hlt h.grown.size)).trans (h.frozen o)⟩
/-- A row of another block. -/
theorem Row.touch {w w' : World} {b off n b' off' : Nat} {xs : List Nat} (h : Row w b' off' xs) (ht : Touch w w' b off n) (hne : b' ≠ b) : Row w' b' off' xs := fun j hj => by
  have hlt := h.lt (by omega)
  have hb := ht.grown.block b' hlt (fun e => hne (Option.some.inj e))
  rw [World.cell?_of_block (w := w) (a := ⟨b', off' + j, none⟩) hb, World.frozen?_of_block (w := w) (a := ⟨b', off' + j, none⟩) hb]
  exact h j hj
theorem Nt.touch {w w' : World} {b off n : Nat} {p : Option Addr} {xs : List Nat} (h : Nt w p xs) (ht : Touch w w' b off n) (hne : ∀ a, p = some a → a.block ≠ b) : Nt w' p xs := by
  rcases h with rfl | ⟨b', off', rfl, h⟩
  · exact .inl rfl
  · exact .inr ⟨b', off', rfl, h.touch ht (hne _ rfl)⟩
/-- A row of the same block, apart from what was touched. -/
theorem Row.apart {w w' : World} {b off n off' : Nat} {xs : List Nat} (h : Row w b off' xs) (ht : Touch w w' b off n) (hne : off' + xs.length ≤ off ∨ off + n ≤ off') : Row w' b off' xs := fun j hj => by
  rw [ht.cell _ (by omega), ht.frozen]; exact h j hj
theorem Row.set {w : World} {b off : Nat} {xs : List Nat} (h : Row w b off xs) (k v : Nat) (_hk : k < xs.length) : Row (w.setCell ⟨b, off + k, none⟩ (.int .u64 v)) b off (xs.set k v) := by
  intro j hj
  rw [List.length_set] at hj
  rw [World.frozen?_setCell]
  by_cases hjk : k = j
  · subst hjk
    rw [World.cell?_setCell_same' _ _ _ (by rw [(h k hj).1]; rfl)]
    refine ⟨?_, (h k hj).2⟩
    rw [List.getD_eq_getElem?_getD, List.getElem?_set_self hj]; rfl
  · rw [World.cell?_setCell_other _ _ _ _ (by intro e; have := congrArg Addr.off e; simp at this; omega)]
    rw [List.getD_eq_getElem?_getD, List.getElem?_set_ne hjk, ← List.getD_eq_getElem?_getD]
    exact h j hj
theorem Row.append {w : World} {b off : Nat} {xs ys : List Nat} (h : Row w b off xs) (h' : Row w b (off + xs.length) ys) : Row w b off (xs ++ ys) := by
  intro j hj
  rw [List.length_append] at hj
  by_cases hjx : j < xs.length
  · rw [List.getD_eq_getElem?_getD, List.getElem?_append_left hjx, ← List.getD_eq_getElem?_getD]; exact h j hjx
  · have := h' (j - xs.length) (by omega)
    rw [show off + xs.length + (j - xs.length) = off + j by omega] at this
    rw [List.getD_eq_getElem?_getD, List.getElem?_append_right (by omega), ← List.getD_eq_getElem?_getD]; exact this
theorem Row.left {w : World} {b off : Nat} {xs ys : List Nat} (h : Row w b off (xs ++ ys)) : Row w b off xs := by
  intro j hj
  have := h j (by rw [List.length_append]; omega)
  rwa [List.getD_eq_getElem?_getD, List.getElem?_append_left hj, ← List.getD_eq_getElem?_getD] at this
theorem Row.right {w : World} {b off : Nat} {xs ys : List Nat} (h : Row w b off (xs ++ ys)) : Row w b (off + xs.length) ys := by
  intro j hj
  have := h (xs.length + j) (by rw [List.length_append]; omega)
  rwa [List.getD_eq_getElem?_getD, List.getElem?_append_right (by omega), Nat.add_sub_cancel_left, ← List.getD_eq_getElem?_getD, ← Nat.add_assoc] at this
theorem Row.drop {w : World} {b off : Nat} {xs : List Nat} (h : Row w b off xs) (k : Nat) (hk : k ≤ xs.length) : Row w b (off + k) (xs.drop k) := by
  rw [← List.take_append_drop k xs] at h
  have := h.right
  rwa [List.length_take, Nat.min_eq_left hk] at this

theorem set_mid (ys ts : List Nat) (k v : Nat) (hy : ys.length = k) (hk : k < ts.length) : (ys ++ ts.drop k).set k v = (ys ++ [v]) ++ ts.drop (k + 1) := by
  rw [List.set_append_right _ _ (by omega), hy, Nat.sub_self, List.drop_eq_getElem_cons hk, List.set_cons_zero, List.append_assoc]; rfl
theorem mid_getD (ys ts : List Nat) (k : Nat) (hy : ys.length = k) (hk : k < ts.length) : (ys ++ ts.drop k).getD k 0 = ts.getD k 0 := by
  rw [List.getD_eq_getElem?_getD, List.getElem?_append_right (by omega), hy, Nat.sub_self, List.drop_eq_getElem_cons hk, List.getD_eq_getElem?_getD, List.getElem?_eq_getElem hk]; rfl
theorem wv_take_succ (xs : List Nat) (k : Nat) (h : k < xs.length) : wv (xs.take (k + 1)) = wv (xs.take k) + 18446744073709551616 ^ k * xs.getD k 0 := by
  rw [take_snocW xs k h, wv_snoc, List.length_take, Nat.min_eq_left (by omega)]

/-- What addProduct does to its row. -/
def AddedProduct (w : World) (b off : Nat) (ts xs : List Nat) (q : Nat) (e : Ending) (w' : World) : Prop :=
  ∃ (ys : List Nat) (c : Nat), e = .returned (.int .u64 c) ∧ c < 18446744073709551616 ∧ ys.length = ts.length ∧ Ok ys ∧ wv ys + 18446744073709551616 ^ ts.length * c = wv ts + q * wv xs ∧ Row w' b off ys ∧ Touch w w' b off ts.length

set_option maxHeartbeats 1000000 in
set_option maxRecDepth 100000 in
theorem addProduct_any (b off ct : Nat) (p : Option Addr) (cx : Nat) (ts xs : List Nat) (q : Nat) (w : World) (hr : Row w b off ts) (hx : Nt w p xs) (hne : xs ≠ [] → ∀ a, p = some a → a.block ≠ b)
    (hl : xs.length = ts.length) (hn : ts.length ≤ 1048576) (hts : Ok ts) (hxs : Ok xs) (hq : q < 18446744073709551616) :
    Calls Tryz.prog 87 #[.slice (some ⟨b, off, none⟩) ts.length ct, .slice p xs.length cx, .int .u64 q] w (AddedProduct w b off ts xs q) := by
  have HQ := Lib.hid hq
  have HL := Lib.hid hl
  have HRW := Lib.hid hr
  have hl2 : xs.length ≤ ts.length := by omega
  have hl3 : ts.length ≤ xs.length := by omega
  clear hq hr hl
  go_enter Tryz.func87, Tryz.ntmps87
  go_wp2_with fail
  go_loopw [7, 15] (fun c i wr => ∃ (k cy : Nat) (ys : List Nat), k ≤ ts.length ∧ i = .int .i64 k ∧ c = .int .u64 cy ∧ cy < 18446744073709551616 ∧ ys.length = k ∧ Ok ys ∧ wv ys + 18446744073709551616 ^ k * cy = wv (ts.take k) + q * wv (xs.take k) ∧ Row wr b off (ys ++ ts.drop k) ∧ Touch w wr b off ts.length) (fun _ i _ => ts.length - (intOf i).toNat)
  case atStart => exact ⟨0, 0, [], Nat.zero_le _, rfl, rfl, by decide, rfl, Ok.nil, by simp [wv], HRW.out, Touch.refl _ _ _ _⟩
  case round =>
    obtain ⟨k, cy, ys, hk, rfl, rfl, hcy, hy, hok, heq, hrow, ht⟩ := hrel
    have HCY := Lib.hid hcy
    have HY := Lib.hid hy
    have HE := Lib.hid heq
    have HROW := Lib.hid hrow
    have HT := Lib.hid ht
    clear hcy hy heq hrow ht
    by_cases hlt : k < ts.length
    · rcases hx with hx0 | ⟨bx, ox, rfl, hxr⟩
      · exfalso; have := HL.out; rw [hx0] at this; simp at this; omega
      · have hltx : k < xs.length := by rw [HL.out]; exact hlt
        have hbne : bx ≠ b := hne (fun h => by rw [h] at hltx; simp at hltx) _ rfl
        obtain ⟨d, hd⟩ : ∃ d, d = xs.getD k 0 := ⟨_, rfl⟩
        obtain ⟨t, htk⟩ : ∃ t, t = ts.getD k 0 := ⟨_, rfl⟩
        have hcx : wr.cell? ⟨bx, ox + k, none⟩ = some (.int .u64 (d : Nat)) := by rw [hd]; exact ((hxr.touch HT.out hbne) k hltx).1
        have hmid := HROW.out k (by rw [List.length_append, List.length_drop, HY.out]; omega)
        have hct : wr.cell? ⟨b, off + k, none⟩ = some (.int .u64 (t : Nat)) := by rw [htk, ← mid_getD ys ts k HY.out hlt]; exact hmid.1
        have hfr : wr.frozen? ⟨b, off + k, none⟩ = false := hmid.2
        have hdb : d < 18446744073709551616 := by rw [hd]; exact hxs.getD k
        have htb : t < 18446744073709551616 := by rw [htk]; exact hts.getD k
        obtain ⟨hi, lo, e1, l1, hmul⟩ := mul64_ex d q hdb HQ.out
        obtain ⟨s1, c1, e2, l2, k2, hadd1⟩ := add64_ex0 lo cy l1 HCY.out
        obtain ⟨s2, c2, e3, l3, k3, hadd2⟩ := add64_ex0 s1 t l2 htb
        obtain ⟨h1, e4, hw1⟩ := addW_ex hi c1 (hi_fits d q hi lo c1 hdb HQ.out e1 k2)
        obtain ⟨h2, e5, hw2⟩ := addW_ex h1 c2 (by rw [e4]; exact step_fits d q hi lo cy s1 c1 t s2 c2 hdb HQ.out HCY.out htb e1 e2 e3)
        have hb5 : h2 < 18446744073709551616 := by rw [e5, e4]; exact step_fits d q hi lo cy s1 c1 t s2 c2 hdb HQ.out HCY.out htb e1 e2 e3
        have HH := Lib.hid (And.intro hd (And.intro htk (And.intro hdb (And.intro htb (And.intro e1 (And.intro e2 (And.intro e3 (And.intro e4 (And.intro e5 (And.intro l3 hb5))))))))))
        have HM := Lib.hid hmul
        have HXR := Lib.hid hxr
        clear hd htk hdb htb e1 e2 e3 e4 e5 l1 l2 l3 k2 k3 hb5 hmid hmul hxr hts hxs
        go_wp2_with (go_at_call 115; refine (HM.out _).mono ?_; rintro e w' ⟨rfl, rfl⟩)
        go_roundw
        case rel =>
          obtain ⟨hd, htk, hdb, htb, e1, e2, e3, e4, e5, l3, hb5⟩ := HH.out
          refine ⟨k + 1, h2, ys ++ [s2], by omega, by go_num, rfl, hb5, by rw [List.length_append, HY.out]; rfl, hok.append (Ok.nil.cons l3), ?_, ?_, ?_⟩
          · rw [wv_snoc, HY.out, Nat.pow_succ, wv_take_succ ts k hlt, wv_take_succ xs k hltx, ← hd, ← htk, e5, e4]
            exact step_sum _ d q hi lo cy s1 c1 t s2 c2 _ _ _ e1 e2 e3 HE.out
          · have h := HROW.out.set k s2 (by rw [List.length_append, List.length_drop, HY.out]; omega)
            rw [set_mid ys ts k s2 HY.out hlt] at h
            exact h
          · exact HT.out.set (by omega) (by omega) _
        case measure => simp [intOf]; omega
    · have hkn : k = ts.length := by omega
      have HKN := Lib.hid hkn
      clear hkn
      go_wp2_with fail
      go_ret
      have hy := HY.out
      have hkn := HKN.out
      refine ⟨ys, cy, rfl, HCY.out, by rw [hy, hkn], hok, ?_, ?_, HT.out⟩
      · have := HE.out
        rw [hkn, List.take_of_length_le (Nat.le_refl _), List.take_of_length_le (by rw [HL.out]; exact Nat.le_refl _)] at this
        exact this
      · have := HROW.out
        rw [hkn, List.drop_length, List.append_nil] at this
        exact this
end Go.Proofs.YtmbnkokcpmkpgaaGreatDoor
