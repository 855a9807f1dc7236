/- The contract of bigint.compareMagnitudes. The contract of bigint.Compare. The contract of bigint.Bits. The contract of bigint.Small. -/
import Derived.Test.YtpdhffjdgnpikaaGreatDoorMul
import Derived.Test.YtpdhffjdgnpikaaGreatDoorNat
import Derived.Lib.Bytealg
import Derived.Laws.Externs
import Derived.Deep.RegionLaw
import Derived.Deep.CutRange
import Derived.Lib.BitFns
import Derived.Test.YtpdhffjdgnpikaaGreatDoorShelf
import Derived.Shelf.Small.Bits
namespace Go.Proofs.YtpdhffjdgnpikaaGreatDoor
open Go.RowKit

theorem foldl_val (l : List UInt8) : ∀ n, l.foldl (fun n c => n * 256 + c.toNat) n = n * 256 ^ l.length + beVal l := by
  induction l with
  | nil => intro n; simp [beVal]
  | cons a l ih =>
    intro n
    rw [List.foldl_cons, ih, List.length_cons]
    have : beVal (a :: l) = a.toNat * 256 ^ l.length + beVal l := by
      show (a :: l).foldl _ 0 = _
      rw [List.foldl_cons, ih]; simp
    rw [this, Nat.pow_succ, Nat.add_mul, Nat.mul_assoc, Nat.mul_comm 256, Nat.add_assoc]
theorem beVal_head (a : UInt8) (l : List UInt8) : beVal (a :: l) = a.toNat * 256 ^ l.length + beVal l := by
  show (a :: l).foldl _ 0 = _
  rw [List.foldl_cons, foldl_val]; simp
theorem cmpZ_nat (a b : Nat) : cmpZ (a : Int) (b : Int) = if a < b then -1 else if b < a then 1 else 0 := by
  unfold cmpZ
  simp
theorem compareBytes_val : ∀ l m : List UInt8, l.length = m.length → Lib.compareBytes l m = cmpZ (beVal l) (beVal m)
  | [], [], _ => by simp [Lib.compareBytes, cmpZ, beVal]
  | [], _ :: _, h => by simp at h
  | _ :: _, [], h => by simp at h
  | a :: l, b :: m, h => by
    have hl : l.length = m.length := by simpa using h
    have h1 := beVal_lt l
    have h2 := beVal_lt m
    rw [hl] at h1
    rw [beVal_head, beVal_head, hl]
    unfold Lib.compareBytes
    by_cases hab : a < b
    · rw [if_pos hab]
      have hn : a.toNat + 1 ≤ b.toNat := UInt8.lt_iff_toNat_lt.1 hab
      have := Nat.mul_le_mul_right (256 ^ m.length) hn
      rw [Nat.add_mul] at this
      exact (cmpZ_lt (by omega)).symm
    · rw [if_neg hab]
      by_cases hba : b < a
      · rw [if_pos hba]
        have hn : b.toNat + 1 ≤ a.toNat := UInt8.lt_iff_toNat_lt.1 hba
        have := Nat.mul_le_mul_right (256 ^ m.length) hn
        rw [Nat.add_mul] at this
        exact (cmpZ_gt (by omega)).symm
      · rw [if_neg hba, compareBytes_val l m hl]
        have e : a = b := by
          apply UInt8.toNat_inj.1
          have h3 : ¬ a.toNat < b.toNat := fun h => hab (UInt8.lt_iff_toNat_lt.2 h)
          have h4 : ¬ b.toNat < a.toNat := fun h => hba (UInt8.lt_iff_toNat_lt.2 h)
          omega
        rw [e, cmpZ_nat, cmpZ_nat]
        simp
theorem be_length_lt {m n : Nat} (h : (be m).length < (be n).length) : m < n := by
  by_cases hc : m < n
  · exact hc
  · exfalso
    have h1 := beVal_lt (be m)
    rw [beVal_be] at h1
    have := be_length_le (be m).length n (by omega)
    omega

set_option maxHeartbeats 1000000 in
set_option maxRecDepth 100000 in
theorem cmpStr_any (a b : ByteArray) (w : World) :
    Calls Tryz.prog 139 #[.string a, .string b] w fun e w' => e = .returned (.int .i64 (Lib.compareBytes a.data.toList b.data.toList)) ∧ w = w' := by
  have e1 : ∀ w : World, (callFunc 200 #[.string a, .string b]).run Tryz.prog w = .ok (.value (.int .i64 (Lib.compareBytes a.data.toList b.data.toList))) w := fun w => by
    rw [run_callFunc_extern Tryz.func200 (by kernel_rfl) (by kernel_rfl) (by kernel_rfl) (e := Extern.BytealgCompare.compare) (by kernel_rfl), Lib.run_compareString]
    rfl
  have h : ∀ w : World, Calls Tryz.prog 168 #[.string a, .string b] w fun e w' => e = .returned (.int .i64 (Lib.compareBytes a.data.toList b.data.toList)) ∧ w = w' := fun w => by
    go_enter Tryz.func168, Tryz.ntmps168
    go_wp2_with fail
    go_ret
    exact ⟨rfl, rfl⟩
  have H := Lib.hid h
  clear h e1
  go_enter Tryz.func139, Tryz.ntmps139
  go_wp2_with (go_at_call 168; refine (H.out _).mono ?_; rintro e w' ⟨rfl, rfl⟩)
  go_ret
  exact ⟨rfl, rfl⟩

set_option maxHeartbeats 1000000 in
set_option maxRecDepth 100000 in
theorem cmpMag_any (m n : Nat) (w : World) :
    Calls Tryz.prog 101 #[.string ⟨(be m).toArray⟩, .string ⟨(be n).toArray⟩] w fun e w' => e = .returned (.int .i64 (cmpZ m n)) ∧ w = w' := by
  by_cases hl : (be m).length = (be n).length
  · have h1 := compareBytes_val (be m) (be n) hl
    rw [beVal_be, beVal_be] at h1
    have hc := cmpStr_any ⟨(be m).toArray⟩ ⟨(be n).toArray⟩ w
    rw [List.toList_toArray, List.toList_toArray, h1] at hc
    have HC := Lib.hid hc
    clear hc h1
    go_enter Tryz.func101, Tryz.ntmps101
    go_wp2_with (go_at_call 139; refine HC.out.mono ?_; rintro e w' ⟨rfl, rfl⟩)
    go_ret
    exact ⟨rfl, rfl⟩
  · have hc : cmpZ ((be m).length : Int) ((be n).length : Int) = cmpZ m n := by
      rcases Nat.lt_or_gt_of_ne hl with h | h
      · rw [cmpZ_lt (by omega), cmpZ_lt (by have := be_length_lt h; omega)]
      · rw [cmpZ_gt (by omega), cmpZ_gt (by have := be_length_lt h; omega)]
    have hh := cmpInt_any ((be m).length : Int) ((be n).length : Int) w
    rw [hc] at hh
    have HC := Lib.hid hh
    have hne : ¬ ((be m).length : Int) = ((be n).length : Int) := by omega
    have s1 : (⟨(be m).toArray⟩ : ByteArray).size = (be m).length := rfl
    have s2 : (⟨(be n).toArray⟩ : ByteArray).size = (be n).length := rfl
    clear hh hc
    go_enter Tryz.func101, Tryz.ntmps101
    go_wp2_with (go_at_call 83; refine HC.out.mono ?_; rintro e w' ⟨rfl, rfl⟩)
    go_ret
    exact ⟨rfl, rfl⟩
end Go.Proofs.YtpdhffjdgnpikaaGreatDoor

namespace Go.Proofs.YtpdhffjdgnpikaaGreatDoor
open Go.RowKit

theorem two_set {B : Nat} {x y : Value} {W : World} (h : Two B x y W) (u v : Value) : Two B u v ((W.setCell ⟨B, 0, none⟩ u).setCell ⟨B, 1, none⟩ v) := by
  refine ⟨⟨?_, ?_⟩, ⟨?_, ?_⟩⟩
  · rw [World.cell?_setCell_other _ _ _ _ (by intro e; have := congrArg Addr.off e; simp at this), World.cell?_setCell_same' _ _ _ (by rw [h.1.1]; rfl)]
  · rw [World.frozen?_setCell, World.frozen?_setCell]; exact h.1.2
  · rw [World.cell?_setCell_same' _ _ _ (by rw [World.cell?_setCell_other _ _ _ _ (by intro e; have := congrArg Addr.off e; simp at this), h.2.1]; rfl)]
  · rw [World.frozen?_setCell, World.frozen?_setCell]; exact h.2.2
theorem Two.other {B B' o : Nat} {x y u : Value} {W : World} (h : Two B x y W) (hne : B ≠ B') : Two B x y (W.setCell ⟨B', o, none⟩ u) := by
  refine ⟨⟨?_, ?_⟩, ⟨?_, ?_⟩⟩
  · rw [World.cell?_setCell_other _ _ _ _ (by intro e; have := congrArg Addr.block e; simp at this; omega)]; exact h.1.1
  · rw [World.frozen?_setCell]; exact h.1.2
  · rw [World.cell?_setCell_other _ _ _ _ (by intro e; have := congrArg Addr.block e; simp at this; omega)]; exact h.2.1
  · rw [World.frozen?_setCell]; exact h.2.2
theorem cmpZ_neg {x y : Int} (hx : x < 0) (hy : y < 0) : cmpZ (y.natAbs : Int) (x.natAbs : Int) = cmpZ x y := by
  rcases Int.lt_trichotomy x y with h | h | h
  · rw [cmpZ_lt h, cmpZ_lt (by omega)]
  · rw [cmpZ_eq h, cmpZ_eq (by omega)]
  · rw [cmpZ_gt h, cmpZ_gt (by omega)]
theorem cmpZ_pos {x y : Int} (hx : ¬ x < 0) (hy : ¬ y < 0) : cmpZ (x.natAbs : Int) (y.natAbs : Int) = cmpZ x y := by
  rcases Int.lt_trichotomy x y with h | h | h
  · rw [cmpZ_lt h, cmpZ_lt (by omega)]
  · rw [cmpZ_eq h, cmpZ_eq (by omega)]
  · rw [cmpZ_gt h, cmpZ_gt (by omega)]

set_option maxHeartbeats 1000000 in
set_option maxRecDepth 100000 in
theorem comp_any (na nb : Bool) (sa sb : ByteArray) (w : World) :
    Calls Tryz.prog 52 #[.agg #[.bool na, .string sa], .agg #[.bool nb, .string sb]] w fun e w' => e = .returned (.int .i64 (cmpZ (ival na sa) (ival nb sb))) ∧ Below w.heap.size w w' := by
  obtain ⟨x, hx⟩ : ∃ x, x = ival na sa := ⟨_, rfl⟩
  obtain ⟨y, hy⟩ : ∃ y, y = ival nb sb := ⟨_, rfl⟩
  have ca := fun W => canonical_any na sa W
  have cb := fun W => canonical_any nb sb W
  rw [← hx] at ca
  rw [← hy] at cb
  rw [← hx, ← hy]
  have CA := Lib.hid ca
  have CB := Lib.hid cb
  clear ca cb hx hy
  go_enter Tryz.func52, Tryz.ntmps52
  go_upto_region 1 with fail
  obtain ⟨W0, hW0⟩ : ∃ W0, ((w.alloc (Obj.cells #[Value.bool na, Value.string sa] 23)).alloc (Obj.cells #[Value.bool nb, Value.string sb] 23)) = W0 := ⟨_, rfl⟩
  have hs0 : W0.heap.size = w.heap.size + 1 + 1 := by rw [← hW0]; simp
  have tA : Two w.heap.size (.bool na) (.string sa) W0 := by
    rw [← hW0]
    exact (two_new w _ _ _).below (B0 := w.heap.size + 1) ((Below.refl _ _).alloc (by simp) _) (by omega)
  have tB : Two (w.heap.size + 1) (.bool nb) (.string sb) W0 := by
    rw [← hW0]
    have h := two_new (w.alloc (Obj.cells #[Value.bool na, Value.string sa] 23)) (.bool nb) (.string sb) 23
    rw [World.size_alloc] at h
    exact h
  have b0 : Below w.heap.size w W0 := by
    rw [← hW0]
    exact ((Below.refl _ _).alloc (Nat.le_refl _) _).alloc (by simp) _
  rw [hW0]
  have q1 : Two w.heap.size (.bool na) (.string sa) W0.drew := tA
  have q2 : Two (w.heap.size + 1) (.bool nb) (.string sb) W0.drew := tB
  have q5 : w.heap.size + 1 + 1 ≤ W0.drew.heap.size := by show _ ≤ W0.heap.size; omega
  have HQ := Lib.hid (And.intro q1 (And.intro q2 (And.intro b0.drew q5)))
  obtain ⟨⟨a1, a2⟩, a3, a4⟩ := q1
  obtain ⟨⟨b1, b2⟩, b3, b4⟩ := q2
  clear tA tB b0 hs0 hW0 q5
  go_cut [] from 5 to 8 (fun wc => Two w.heap.size (.bool (ng x)) (.string (mg x)) wc ∧ Two (w.heap.size + 1) (.bool (ng y)) (.string (mg y)) wc ∧ Below w.heap.size w wc)
  case first =>
    have tok1 : True := trivial
    go_region_with (first
      | (go_at_call 99; have _t := tok1; clear tok1; refine (CA.out _).mono ?_; intro e w1 h1; obtain ⟨he, hb1⟩ := h1; subst he; have H1 := Lib.hid hb1; have k1 := HQ.out.1.below hb1 (by have := HQ.out.2.2.2; omega); have k2 := HQ.out.2.1.below hb1 (by have := HQ.out.2.2.2; omega); obtain ⟨⟨k11, k12⟩, k13, k14⟩ := k1; obtain ⟨⟨k21, k22⟩, k23, k24⟩ := k2; clear hb1)
      | (go_at_call 99; refine (CB.out _).mono ?_; intro e w2 h2; obtain ⟨he, hb2⟩ := h2; subst he; have H2 := Lib.hid hb2; have l1 := (HQ.out.1.below H1.out (by have := HQ.out.2.2.2; omega)).below hb2 (by have := HQ.out.2.2.2; have := H1.out.size; omega); have l2 := (HQ.out.2.1.below H1.out (by have := HQ.out.2.2.2; omega)).below hb2 (by have := HQ.out.2.2.2; have := H1.out.size; omega); obtain ⟨⟨l11, l12⟩, l13, l14⟩ := l1; obtain ⟨⟨l21, l22⟩, l23, l24⟩ := l2; clear hb2))
    all_goals (go_wp2_with fail; go_meet)
    all_goals
      have m1 : Two w.heap.size (.bool na) (.string sa) w2 := ⟨⟨l11, l12⟩, l13, l14⟩
      have m2 : Two (w.heap.size + 1) (.bool nb) (.string sb) w2 := ⟨⟨l21, l22⟩, l23, l24⟩
      refine ⟨Two.other (Two.other (two_set m1 _ _) (by omega)) (by omega), two_set (Two.other (Two.other m2 (by omega)) (by omega)) _ _, ?_⟩
      have s1 := HQ.out.2.2.2
      have s2 := H1.out.size
      exact ((((((HQ.out.2.2.1.trans (H1.out.mono (by omega))).trans (H2.out.mono (by omega))).setCell (by simp) _).setCell (by simp) _).setCell (by simp) _).setCell (by simp) _)
  case rest =>
    obtain ⟨t1, t2, hb⟩ := hcut
    obtain ⟨⟨c11, c12⟩, c13, c14⟩ := t1
    obtain ⟨⟨c21, c22⟩, c23, c24⟩ := t2
    have HB := Lib.hid hb
    clear hb
    by_cases hx : x < 0
    · have ex : ng x = true := by simp [ng, hx]
      rw [ex] at c11
      by_cases hy : y < 0
      · have ey : ng y = true := by simp [ng, hy]
        rw [ey] at c21
        have hc : Calls Tryz.prog 101 #[.string (mg y), .string (mg x)] wc fun e w' => e = .returned (.int .i64 (cmpZ (y.natAbs : Nat) (x.natAbs : Nat))) ∧ wc = w' := cmpMag_any _ _ wc
        rw [cmpZ_neg hx hy] at hc
        have HC := Lib.hid hc
        clear hc ex ey hx hy
        go_wp2_with fail
        refine HC.out.mono ?_
        rintro e w' ⟨rfl, rfl⟩
        go_wp2_with fail
        go_ret
        exact ⟨rfl, HB.out⟩
      · have ey : ng y = false := by simp [ng]; omega
        rw [ey] at c21
        have hc : cmpZ x y = -1 := cmpZ_lt (by omega)
        have HC := Lib.hid hc
        clear hc ex ey hx hy
        go_wp2_with fail
        go_ret
        rw [HC.out]
        exact ⟨rfl, HB.out⟩
    · have ex : ng x = false := by simp [ng]; omega
      rw [ex] at c11
      by_cases hy : y < 0
      · have ey : ng y = true := by simp [ng, hy]
        rw [ey] at c21
        have hc : cmpZ x y = 1 := cmpZ_gt (by omega)
        have HC := Lib.hid hc
        clear hc ex ey hx hy
        go_wp2_with fail
        go_ret
        rw [HC.out]
        exact ⟨rfl, HB.out⟩
      · have ey : ng y = false := by simp [ng]; omega
        rw [ey] at c21
        have hc : Calls Tryz.prog 101 #[.string (mg x), .string (mg y)] wc fun e w' => e = .returned (.int .i64 (cmpZ (x.natAbs : Nat) (y.natAbs : Nat))) ∧ wc = w' := cmpMag_any _ _ wc
        rw [cmpZ_pos hx hy] at hc
        have HC := Lib.hid hc
        clear hc ex ey hx hy
        go_wp2_with fail
        refine HC.out.mono ?_
        rintro e w' ⟨rfl, rfl⟩
        go_wp2_with fail
        go_ret
        exact ⟨rfl, HB.out⟩
end Go.Proofs.YtpdhffjdgnpikaaGreatDoor

namespace Go.Proofs.YtpdhffjdgnpikaaGreatDoor
open Go.RowKit Go.Shelf

/-- The length of a number in bits. -/
def bl (n : Nat) : Nat := if n = 0 then 0 else Nat.log2 n + 1

theorem bitLen_bounds : ∀ n : Fin 256, n.val ≠ 0 → 0 < Lib.bitLen n.val ∧ 2 ^ (Lib.bitLen n.val - 1) ≤ n.val ∧ n.val < 2 ^ Lib.bitLen n.val := by decide +kernel
theorem bl_of (c : UInt8) (r : List UInt8) (h : c ≠ 0) : bl (beVal (c :: r)) = 8 * r.length + Lib.bitLen c.toNat := by
  have hc : c.toNat ≠ 0 := fun e => h (UInt8.toNat_inj.1 e)
  obtain ⟨h0, h1, h2⟩ := bitLen_bounds ⟨c.toNat, c.toNat_lt⟩ hc
  simp only at h0 h1 h2
  have hr := beVal_lt r
  rw [show (256 : Nat) = 2 ^ 8 from rfl, ← Nat.pow_mul] at hr
  have hv := beVal_head c r
  rw [show (256 : Nat) = 2 ^ 8 from rfl, ← Nat.pow_mul] at hv
  generalize Lib.bitLen c.toNat = k at *
  generalize beVal (c :: r) = n at *
  generalize beVal r = x at *
  have hp : 0 < 2 ^ (8 * r.length) := Nat.two_pow_pos _
  have l1 : 2 ^ (8 * r.length + (k - 1)) ≤ n := by
    rw [Nat.pow_add, hv]
    have := Nat.mul_le_mul_left (2 ^ (8 * r.length)) h1
    rw [Nat.mul_comm c.toNat]
    omega
  have l2 : n < 2 ^ (8 * r.length + k) := by
    rw [Nat.pow_add, hv]
    have := Nat.mul_le_mul_left (2 ^ (8 * r.length)) (show c.toNat + 1 ≤ 2 ^ k by omega)
    rw [Nat.mul_add, Nat.mul_one, Nat.mul_comm _ c.toNat] at this
    omega
  have hn : n ≠ 0 := by have := Nat.two_pow_pos (8 * r.length + (k - 1)); omega
  unfold bl
  rw [if_neg hn]
  have e1 : 8 * r.length + (k - 1) ≤ Nat.log2 n := (Nat.le_log2 hn).2 l1
  have e2 : Nat.log2 n < 8 * r.length + k := (Nat.log2_lt hn).2 l2
  omega


theorem len8_any (x : Int) (w : World) (h0 : 0 ≤ x) (h1 : x ≤ 255) :
    Calls Tryz.prog 106 #[.int .u8 x] w fun e w' => e = .returned (.int .i64 (Lib.bitLen x.toNat)) ∧ w = w' := by
  refine (Any.bits_Len8 Tryz.lays126 x w h0 h1).mono ?_
  rintro e w' ⟨rfl, rfl⟩
  exact ⟨rfl, rfl⟩

theorem strip_head : ∀ {l r : List UInt8} {c : UInt8}, strip l = c :: r → c ≠ 0
  | [], _, _, h => by cases h
  | a :: l, r, c, h => by
    by_cases ha : a = 0
    · subst ha; rw [strip_zero] at h; exact strip_head h
    · rw [strip_other a l ha] at h; cases h; exact ha

set_option maxHeartbeats 1000000 in
set_option maxRecDepth 100000 in
theorem bits_any (n : Bool) (s : ByteArray) (w : World) (hs : s.size ≤ 1048576) :
    Calls Tryz.prog 57 #[.agg #[.bool n, .string s]] w fun e w' => e = .returned (.int .i64 (bl (beVal s.data.toList))) ∧ Below w.heap.size w w' := by
  have hl : (strip s.data.toList).length ≤ s.size := by
    rw [Lib.size_eq]; exact (List.dropWhile_sublist _).length_le
  have hb := beVal_strip s.data.toList
  cases hq : strip s.data.toList with
  | nil =>
    have h0 : beVal s.data.toList = 0 := by rw [← hb, hq]; rfl
    have hsg := fun W => significant_any s W
    rw [hq] at hsg
    have HS := Lib.hid hsg
    rw [h0]
    clear hb hq h0 hsg hl
    go_enter Tryz.func57, Tryz.ntmps57
    go_wp2_with (go_at_call 97; refine (HS.out _).mono ?_; rintro e w' ⟨rfl, rfl⟩)
    go_ret
    exact ⟨rfl, (Below.refl _ _).alloc (Nat.le_refl _) _⟩
  | cons c r =>
    have hc : c ≠ 0 := strip_head hq
    have h0 : bl (beVal s.data.toList) = 8 * r.length + Lib.bitLen c.toNat := by rw [← hb, hq]; exact bl_of c r hc
    have hsg := fun W => significant_any s W
    rw [hq] at hsg hl
    have HS := Lib.hid hsg
    have hlen : r.length + 1 ≤ 1048576 := by rw [List.length_cons] at hl; omega
    have H0 := Lib.hid h0
    have hk : Lib.bitLen c.toNat ≤ 8 := Lib.bitLen_le8 ⟨c.toNat, c.toNat_lt⟩
    have hl8 := fun W => len8_any (c.toNat : Int) W (by omega) (by have := c.toNat_lt; omega)
    rw [Int.toNat_natCast] at hl8
    have HL := Lib.hid hl8
    obtain ⟨k, hkk⟩ : ∃ k, Lib.bitLen c.toNat = k := ⟨_, rfl⟩
    clear hb hq h0 hsg hl hl8
    go_enter Tryz.func57, Tryz.ntmps57
    go_wp2_with (first | (go_at_call 97; refine (HS.out _).mono ?_; rintro e w' ⟨rfl, rfl⟩) | (go_at_call 106; refine (HL.out _).mono ?_; rintro e w' ⟨rfl, rfl⟩))
    go_ret
    rw [H0.out, hkk]
    exact ⟨rfl, (Below.refl _ _).alloc (Nat.le_refl _) _⟩
end Go.Proofs.YtpdhffjdgnpikaaGreatDoor

namespace Go.Proofs.YtpdhffjdgnpikaaGreatDoor
open Go.RowKit

/-- What Small gives: the number, if it is an int. -/
def SmallRes (w : World) (z : Int) (e : Ending) (w' : World) : Prop :=
  ((-9223372036854775808 ≤ z ∧ z ≤ 9223372036854775807 ∧ e = .returned (.tuple #[.int .i64 z, .bool true])) ∨
    ((z < -9223372036854775808 ∨ 9223372036854775807 < z) ∧ e = .returned (.tuple #[.int .i64 0, .bool false]))) ∧ Below w.heap.size w w'

theorem strip_len (s : ByteArray) : (⟨(strip s.data.toList).toArray⟩ : ByteArray).size = (strip s.data.toList).length := rfl

set_option maxHeartbeats 1000000 in
set_option maxRecDepth 100000 in
theorem small_any (n : Bool) (s : ByteArray) (w : World) :
    Calls Tryz.prog 50 #[.agg #[.bool n, .string s]] w (SmallRes w (ival n s)) := by
  obtain ⟨m, hm⟩ : ∃ m, beVal s.data.toList = m := ⟨_, rfl⟩
  obtain ⟨z, hz⟩ : ∃ z, ival n s = z := ⟨_, rfl⟩
  have hzm : z = if n = true then -(m : Int) else m := by rw [← hz, ← hm]; rfl
  obtain ⟨t, ht⟩ : ∃ t : ByteArray, t = ⟨(strip s.data.toList).toArray⟩ := ⟨_, rfl⟩
  have htv : beVal t.data.toList = m := by rw [ht, ← hm]; exact beVal_strip _
  have htl : t.size ≤ s.size := by rw [ht, strip_len, Lib.size_eq]; exact (List.dropWhile_sublist _).length_le
  have htb : t.data.toList = be m := by rw [ht, ← hm, ← strip_be]
  have hsz : t.size = (be m).length := by rw [Lib.size_eq, htb]
  have hsg := fun W => significant_any s W
  rw [← ht] at hsg
  have HSG := Lib.hid hsg
  rw [hz]
  clear hz hm ht hsg
  by_cases h8 : t.size ≤ 8
  · have hm64 : m < 18446744073709551616 := by
      have := beVal_lt t.data.toList
      rw [htv, ← Lib.size_eq] at this
      have h2 : 256 ^ t.size ≤ 256 ^ 8 := Nat.pow_le_pow_right (by omega) h8
      omega
    have hw := fun W => word_any t W h8
    rw [htv] at hw
    have HW := Lib.hid hw
    have h8i : ¬ (8 : Int) < (t.size : Int) := by omega
    clear h8 htl
    cases n
    · have hz2 : z = (m : Int) := by rw [hzm]; rfl
      subst hz2
      clear hzm htv htb hsz hw
      by_cases hc : m < 9223372036854775808
      · have HC := Lib.hid hc
        clear hc hm64
        go_enter Tryz.func50, Tryz.ntmps50
        go_upto_region 7 with (first | (go_at_call 97; refine (HSG.out _).mono ?_; rintro e w' ⟨rfl, rfl⟩) | (go_at_call 98; refine (HW.out _).mono ?_; rintro e w' ⟨rfl, nq, rfl⟩))
        have c1 : (m : Int) < 9223372036854775808 := by have := HC.out; omega
        go_wp2_with fail
        go_ret2
        exact ⟨Or.inl ⟨by omega, by omega, rfl⟩, ((Below.refl _ _).alloc (Nat.le_refl _) _).trans (below_draws _ _ _)⟩
      · have HC := Lib.hid hc
        clear hc hm64
        go_enter Tryz.func50, Tryz.ntmps50
        go_upto_region 7 with (first | (go_at_call 97; refine (HSG.out _).mono ?_; rintro e w' ⟨rfl, rfl⟩) | (go_at_call 98; refine (HW.out _).mono ?_; rintro e w' ⟨rfl, nq, rfl⟩))
        have c1 : ¬ (m : Int) < 9223372036854775808 := by have := HC.out; omega
        go_wp2_with fail
        go_ret2
        exact ⟨Or.inr ⟨Or.inr (by omega), rfl⟩, ((Below.refl _ _).alloc (Nat.le_refl _) _).trans (below_draws _ _ _)⟩
    · have hz2 : z = -(m : Int) := by rw [hzm]; rfl
      subst hz2
      clear hzm htv htb hsz hw
      obtain ⟨v, hv⟩ : ∃ v : Nat, IntKind.u64.wrap (-(m : Int)) = (v : Int) := ⟨(IntKind.u64.wrap (-(m : Int))).toNat, by rw [IntKind.wrap_u64]; omega⟩
      by_cases hc : m ≤ 9223372036854775808
      · have hv2 : IntKind.i64.wrap (v : Int) = -(m : Int) := by rw [← hv, IntKind.wrap_u64, IntKind.wrap_i64]; omega
        have HC := Lib.hid hc
        have HV := Lib.hid (And.intro hv hv2)
        clear hc hm64 hv hv2
        go_enter Tryz.func50, Tryz.ntmps50
        go_upto_region 5 with (first | (go_at_call 97; refine (HSG.out _).mono ?_; rintro e w' ⟨rfl, rfl⟩) | (go_at_call 98; refine (HW.out _).mono ?_; rintro e w' ⟨rfl, nq, rfl⟩))
        have c1 : (m : Int) ≤ 9223372036854775808 := by have := HC.out; omega
        obtain ⟨v1, v2⟩ := HV.out
        go_wp2_with fail
        go_ret2
        exact ⟨Or.inl ⟨by omega, by omega, rfl⟩, ((Below.refl _ _).alloc (Nat.le_refl _) _).trans (below_draws _ _ _)⟩
      · have HC := Lib.hid hc
        clear hc hm64 hv
        go_enter Tryz.func50, Tryz.ntmps50
        go_upto_region 5 with (first | (go_at_call 97; refine (HSG.out _).mono ?_; rintro e w' ⟨rfl, rfl⟩) | (go_at_call 98; refine (HW.out _).mono ?_; rintro e w' ⟨rfl, nq, rfl⟩))
        have c1 : ¬ (m : Int) ≤ 9223372036854775808 := by have := HC.out; omega
        go_wp2_with fail
        go_ret2
        exact ⟨Or.inr ⟨Or.inl (by omega), rfl⟩, ((Below.refl _ _).alloc (Nat.le_refl _) _).trans (below_draws _ _ _)⟩
  · have hm64 : 18446744073709551616 ≤ m := by
      by_cases hc : m < 18446744073709551616
      · have := be_length_le 8 m (by omega)
        omega
      · omega
    have hout : z < -9223372036854775808 ∨ 9223372036854775807 < z := by
      rw [hzm]
      cases n <;> simp <;> omega
    have HO := Lib.hid hout
    have h8i : (8 : Int) < (t.size : Int) := by omega
    clear hm64 hzm htv htb hsz h8 htl hout
    go_enter Tryz.func50, Tryz.ntmps50
    go_wp2_with (go_at_call 97; refine (HSG.out _).mono ?_; rintro e w' ⟨rfl, rfl⟩)
    go_ret2
    exact ⟨Or.inr ⟨HO.out, rfl⟩, (Below.refl _ _).alloc (Nat.le_refl _) _⟩
end Go.Proofs.YtpdhffjdgnpikaaGreatDoor
