/- The contracts of the reference's small functions: trim, Canonical, small, value, compareMag, Check, Neg. The contracts of the reference's Neg, compareMag, Compare and Bits. The contracts of the reference's Compare and Bits. The contracts of the reference's mag, Of and Small. The contracts of the reference's Of and Small. -/
import Derived.Test.YtajollhpimfefaaGreatDoorCmp
import Derived.Deep.RegionLaw
import Derived.Deep.CutRange
import Derived.Test.YtajollhpimfefaaGreatDoorMul
namespace Go.Proofs.YtajollhpimfefaaGreatDoor
open Go.RowKit Go.Shelf

set_option maxHeartbeats 400000 in
theorem rtrim_any (s : ByteArray) (w : World) :
    Calls Tryz.prog 57 #[.string s] w fun e w' => e = .returned (.string ⟨(strip s.data.toList).toArray⟩) ∧ w = w' := by
  go_enter Tryz.func57, Tryz.ntmps57
  go_wp2
  go_loop [0] (fun v => ∃ t : ByteArray, t.size ≤ s.size ∧ v = .string t ∧ strip t.data.toList = strip s.data.toList) (fun v => strLen v)
  case atStart => exact ⟨s, Nat.le_refl _, rfl, rfl⟩
  case round =>
    obtain ⟨t, ht, rfl, hst⟩ := hrel
    have HST := Lib.hid hst
    clear hst
    go_wp2
    · have h1 : 0 < t.size := by assumption
      have h2 : ((t[0].toNat : Int) == 0) = true := by assumption
      go_round
      case rel => exact ⟨t.extract 1 t.size, by simp; omega, rfl, strip_step s t h1 h2 HST.out⟩
      case measure => simp [strLen]; omega
    · have h1 : 0 < t.size := by assumption
      have h2 : ((t[0].toNat : Int) == 0) = false := by assumption
      go_ret
      exact ⟨ret_str (strip_stop s t h1 h2 HST.out), rfl⟩
    · have h1 : ¬ 0 < t.size := by assumption
      go_ret
      exact ⟨ret_str (strip_end s t h1 HST.out), rfl⟩

theorem or_i64 (i a b : Nat) (ha : a % 2 ^ i = 0) (hb : b < 2 ^ i) (ha' : a < 9223372036854775808) (hb' : b < 9223372036854775808) :
    bits .or .i64 (a : Int) (b : Int) = ((a + b : Nat) : Int) := by
  have hx : a ||| b < 2 ^ 63 := Nat.or_lt_two_pow (by omega) (by omega)
  rw [← nat_join i a b ha hb]
  show IntKind.i64.wrap ((BitVec.ofInt 64 (a : Int) ||| BitVec.ofInt 64 (b : Int)).toNat : Int) = _
  rw [BitVec.toNat_or, ofInt_u64 a (by omega), ofInt_u64 b (by omega), IntKind.wrap_i64]
  omega
theorem shl8i (m : Nat) (c : UInt8) (h : m < 36028797018963968) :
    bits .or .i64 (wrap64 ((m : Int) * 256)) (wrap64 (c.toNat : Int)) = ((m * 256 + c.toNat : Nat) : Int) := by
  have hc : c.toNat < 256 := c.toNat_lt
  rw [IntWalk.wrap64_in (c.toNat : Int) (by omega), IntWalk.wrap64_in ((m : Int) * 256) (by omega), show (m : Int) * 256 = ((m * 256 : Nat) : Int) by omega]
  exact or_i64 8 _ _ (by omega) (by omega) (by omega) (by omega)
theorem beVal_take_mul (l : List UInt8) (k : Nat) (h : k < l.length) : beVal (l.take k) * 256 ≤ beVal l := by
  have e : beVal l = beVal (l.take k ++ l.drop k) := by rw [List.take_append_drop]
  rw [beVal_append] at e
  have h1 : 256 ^ 1 ≤ 256 ^ (l.drop k).length := Nat.pow_le_pow_right (by omega) (by rw [List.length_drop]; omega)
  have := Nat.mul_le_mul_left (beVal (l.take k)) h1
  omega

set_option maxHeartbeats 400000 in
theorem rsmall_any (s : ByteArray) (w : World) (hs : s.size ≤ 8) (hv : beVal s.data.toList < 9223372036854775808) :
    Calls Tryz.prog 67 #[.string s] w fun e w' => e = .returned (.int .i64 (beVal s.data.toList : Nat)) ∧ w = w' := by
  have hk : ∀ k, k < s.size → beVal (s.data.toList.take k) < 36028797018963968 := by
    intro k hk
    have := beVal_take_mul s.data.toList k (by rw [← Lib.size_eq]; exact hk)
    omega
  have HK := Lib.hid hk
  clear hk hv
  go_enter Tryz.func67, Tryz.ntmps67
  go_wp2
  go_loop [3, 4] (fun v i => ∃ k : Nat, k ≤ s.size ∧ i = .int .i64 k ∧ v = .int .i64 (beVal (s.data.toList.take k) : Nat)) (fun _ i => s.size - (intOf i).toNat)
  case atStart => exact ⟨0, Nat.zero_le _, rfl, rfl⟩
  case round =>
    obtain ⟨k, hk, rfl, rfl⟩ := hrel
    by_cases hlt : k < s.size
    · have h1 := Lib.hid (shl8i (beVal (s.data.toList.take k)) s[k] (HK.out k hlt))
      have h2 := Lib.hid (take_snocB s k hlt)
      go_wp2
      go_round
      case rel => exact ⟨k + 1, by omega, by go_num, by rw [h2.out, beVal_snoc]; exact congrArg (Value.int .i64) h1.out⟩
      case measure => simp [intOf]; omega
    · go_wp2
      go_ret
      exact ⟨i64_eq (by rw [List.take_of_length_le (by rw [← Lib.size_eq]; omega)]), rfl⟩

theorem strip_head_ne (s : ByteArray) (h : 0 < s.size) (h0 : ((s[0].toNat : Int) == 0) = false) : s = ⟨(strip s.data.toList).toArray⟩ := strip_stop s s h h0 rfl

set_option maxHeartbeats 400000 in
theorem rcanonical_any (n : Bool) (s : ByteArray) (w : World) :
    Calls Tryz.prog 48 #[.agg #[.bool n, .string s]] w fun e w' => e = .returned (.agg #[.bool (ng (ival n s)), .string (mg (ival n s))]) ∧ Below w.heap.size w w' := by
  have h2 := Lib.hid (mg_strip n s)
  by_cases h0 : 0 < s.size
  · cases hb : ((s[0].toNat : Int) == 0)
    · have hs := strip_head_ne s h0 hb
      have hn : ng (ival n s) = n := by
        rw [ng_ival]
        have : (strip s.data.toList).isEmpty = false := by
          cases hq : strip s.data.toList with
          | nil => rw [hq] at hs; have e : s.size = 0 := (congrArg ByteArray.size hs).trans rfl; omega
          | cons _ _ => rfl
        rw [this]; cases n <;> rfl
      have hm : mg (ival n s) = s := by rw [← h2.out]; exact hs.symm
      have HM := Lib.hid (And.intro hn hm)
      have h1 : ((s[0].toNat : Int) != 0) = true := by rw [bne, hb]; rfl
      clear hs hn hm
      go_enter Tryz.func48, Tryz.ntmps48
      go_wp2_with fail
      rw [HM.out.1, HM.out.2]
      refine bodyPost_ret (v := .agg #[.bool n, .string s]) (by simp [results, Tryz.results48, go_sem]) rfl ⟨rfl, ?_⟩
      repeat (first | exact Below.refl _ _ | refine Below.alloc ?_ (by simp) _)
    · have h1 : ((s[0].toNat : Int) != 0) = false := by rw [bne, hb]; rfl
      cases n
      · have h3 := Lib.hid (ng_false s)
        go_enter Tryz.func48, Tryz.ntmps48
        go_wp2_with (go_at_call 57; refine (rtrim_any s _).mono ?_; rintro e w' ⟨rfl, rfl⟩)
        rw [h3.out, ← h2.out]
        refine bodyPost_ret (v := .agg #[.bool false, .string ⟨(strip s.data.toList).toArray⟩]) (by simp [results, Tryz.results48, go_sem]) rfl ⟨rfl, ?_⟩
        repeat (first | exact Below.refl _ _ | refine Below.alloc ?_ (by simp) _)
      · have h3 := Lib.hid (ng_true s)
        go_enter Tryz.func48, Tryz.ntmps48
        go_wp2_with (go_at_call 57; refine (rtrim_any s _).mono ?_; rintro e w' ⟨rfl, rfl⟩)
        rw [h3.out, ← h2.out]
        refine bodyPost_ret (v := .agg #[.bool (!(strip s.data.toList).isEmpty), .string ⟨(strip s.data.toList).toArray⟩]) (by simp [results, Tryz.results48, go_sem]) rfl ⟨rfl, ?_⟩
        repeat (first | exact Below.refl _ _ | refine Below.alloc ?_ (by simp) _)
  · cases n
    · have h3 := Lib.hid (ng_false s)
      go_enter Tryz.func48, Tryz.ntmps48
      go_wp2_with (go_at_call 57; refine (rtrim_any s _).mono ?_; rintro e w' ⟨rfl, rfl⟩)
      rw [h3.out, ← h2.out]
      refine bodyPost_ret (v := .agg #[.bool false, .string ⟨(strip s.data.toList).toArray⟩]) (by simp [results, Tryz.results48, go_sem]) rfl ⟨rfl, ?_⟩
      repeat (first | exact Below.refl _ _ | refine Below.alloc ?_ (by simp) _)
    · have h3 := Lib.hid (ng_true s)
      go_enter Tryz.func48, Tryz.ntmps48
      go_wp2_with (go_at_call 57; refine (rtrim_any s _).mono ?_; rintro e w' ⟨rfl, rfl⟩)
      rw [h3.out, ← h2.out]
      refine bodyPost_ret (v := .agg #[.bool (!(strip s.data.toList).isEmpty), .string ⟨(strip s.data.toList).toArray⟩]) (by simp [results, Tryz.results48, go_sem]) rfl ⟨rfl, ?_⟩
      repeat (first | exact Below.refl _ _ | refine Below.alloc ?_ (by simp) _)

set_option maxHeartbeats 400000 in
theorem rvalue_any (n : Bool) (s : ByteArray) (w : World) (hs : s.size ≤ 8) (hv : beVal s.data.toList < 9223372036854775808) :
    Calls Tryz.prog 49 #[.agg #[.bool n, .string s]] w fun e w' => e = .returned (.int .i64 (ival n s)) ∧ Below w.heap.size w w' := by
  have hsm := fun W => rsmall_any s W hs hv
  obtain ⟨m, hm⟩ : ∃ m, beVal s.data.toList = m := ⟨_, rfl⟩
  have hi : ival n s = if n then -(m : Int) else m := by rw [← hm]; rfl
  rw [hm] at hsm hv
  have HS := Lib.hid hsm
  rw [hi]
  clear hsm hi hm hs
  cases n
  · go_enter Tryz.func49, Tryz.ntmps49
    go_wp2_with (go_at_call 67; refine (HS.out _).mono ?_; rintro e w' ⟨rfl, rfl⟩)
    go_ret
    exact ⟨rfl, (Below.refl _ _).alloc (Nat.le_refl _) _⟩
  · go_enter Tryz.func49, Tryz.ntmps49
    go_wp2_with (go_at_call 67; refine (HS.out _).mono ?_; rintro e w' ⟨rfl, rfl⟩)
    go_ret
    exact ⟨rfl, (Below.refl _ _).alloc (Nat.le_refl _) _⟩

set_option maxHeartbeats 400000 in
theorem rcheck_any (n : Bool) (s : ByteArray) (w : World) :
    Calls Tryz.prog 21 #[.agg #[.bool n, .string s]] w fun e w' => e = .returned (.int .i64 (if canB n s then 0 else 1)) ∧ Below w.heap.size w w' := by
  have q1 := neq_int
  have q2 := guard_int
  cases hb : eqI n s (ng (ival n s)) (mg (ival n s)) with
  | true =>
    rw [if_pos (show canB n s = true from hb)]
    go_enter Tryz.func21, Tryz.ntmps21
    go_wp2_with fail
    go_region_held3 (fun w' => w'.cell? ⟨w.heap.size, 0, none⟩ = some (.bool n) ∧ w'.cell? ⟨w.heap.size, 1, none⟩ = some (.string s)) (go_keep)
      (first | (go_at_call 48; refine (rcanonical_any n s _).mono ?_; rintro e w1 ⟨rfl, hb1⟩; have hc1 := (bcell hb1).1))
    go_wp2_with fail
    go_ret
    exact ⟨rfl, ((Below.refl _ _).alloc (Nat.le_refl _) _).drew.trans (hb1.mono (by simp))⟩
  | false =>
    rw [if_neg (show ¬ canB n s = true by rw [canB, hb]; decide)]
    go_enter Tryz.func21, Tryz.ntmps21
    go_wp2_with fail
    go_region_held3 (fun w' => w'.cell? ⟨w.heap.size, 0, none⟩ = some (.bool n) ∧ w'.cell? ⟨w.heap.size, 1, none⟩ = some (.string s)) (go_keep)
      (first | (go_at_call 48; refine (rcanonical_any n s _).mono ?_; rintro e w1 ⟨rfl, hb1⟩; have hc1 := (bcell hb1).1))
    go_wp2_with fail
    go_ret
    exact ⟨rfl, ((Below.refl _ _).alloc (Nat.le_refl _) _).drew.trans (hb1.mono (by simp))⟩

theorem mg_neg (z : Int) : mg (-z) = mg z := by unfold mg; rw [Int.natAbs_neg]
theorem mg_empty (z : Int) : (mg z).toList.isEmpty = decide (z = 0) := by
  rw [Lib.toList_data, mg_list]
  by_cases h : z = 0
  · subst h; rfl
  · rw [decide_eq_false h]
    cases hq : be z.natAbs with
    | nil => exact absurd ((be_eq_nil _).1 hq) (by omega)
    | cons _ _ => rfl
end Go.Proofs.YtajollhpimfefaaGreatDoor

namespace Go.Proofs.YtajollhpimfefaaGreatDoor
open Go.RowKit Go.Shelf

theorem neg_parts (z : Int) (b : Bool) (t : ByteArray) (hb : ng z = b) (ht : mg z = t) : ng (-z) = (!b && !t.toList.isEmpty) ∧ mg (-z) = t := by
  refine ⟨?_, by rw [mg_neg]; exact ht⟩
  rw [← ht, mg_empty, ← hb]
  unfold ng
  rcases Int.lt_trichotomy z 0 with h | h | h
  · rw [decide_eq_false (by omega), decide_eq_true h]; rfl
  · subst h; rfl
  · rw [decide_eq_true (by omega), decide_eq_false (show ¬ z < 0 by omega), decide_eq_false (show ¬ z = 0 by omega)]; rfl

set_option maxHeartbeats 400000 in
theorem rneg_any (n : Bool) (s : ByteArray) (w : World) :
    Calls Tryz.prog 23 #[.agg #[.bool n, .string s]] w fun e w' => e = .returned (.agg #[.bool (ng (-ival n s)), .string (mg (-ival n s))]) ∧ Below w.heap.size w w' := by
  obtain ⟨z, hz⟩ : ∃ z, ival n s = z := ⟨_, rfl⟩
  have hc := fun W => rcanonical_any n s W
  rw [hz] at hc
  rw [hz]
  obtain ⟨b, hb⟩ : ∃ b, ng z = b := ⟨_, rfl⟩
  obtain ⟨t, ht⟩ : ∃ t, mg z = t := ⟨_, rfl⟩
  obtain ⟨r1, r2⟩ := neg_parts z b t hb ht
  rw [hb, ht] at hc
  rw [r1, r2]
  have HC := Lib.hid hc
  clear hc hb ht hz r1 r2
  obtain ⟨q, hq⟩ : ∃ q, t.toList.isEmpty = q := ⟨_, rfl⟩
  rw [hq]
  go_enter Tryz.func23, Tryz.ntmps23
  go_wp2_with fail
  obtain ⟨W0, hW0⟩ : ∃ W0, ((w.alloc (Obj.cells #[Value.bool n, Value.string s] 23)).alloc (Obj.cells #[Value.bool false, Value.string ⟨#[]⟩] 23)) = W0 := ⟨_, rfl⟩
  have tA : Two w.heap.size (.bool n) (.string s) W0 := by
    rw [← hW0]
    exact (two_new w _ _ _).below (B0 := w.heap.size + 1) ((Below.refl _ _).alloc (by simp) _) (by omega)
  have tR : Two (w.heap.size + 1) (.bool false) (.string ⟨#[]⟩) W0 := by
    rw [← hW0]
    have h := two_new (w.alloc (Obj.cells #[Value.bool n, Value.string s] 23)) (.bool false) (.string ⟨#[]⟩) 23
    rw [World.size_alloc] at h
    exact h
  have b0 : Below w.heap.size w W0 := by
    rw [← hW0]
    exact ((Below.refl _ _).alloc (Nat.le_refl _) _).alloc (by simp) _
  have hs0 : W0.heap.size = w.heap.size + 1 + 1 := by rw [← hW0]; simp
  rw [hW0]
  refine (HC.out _).mono ?_
  rintro e w1 ⟨rfl, hb1⟩
  have b1 : Below w.heap.size w w1 := b0.trans (hb1.mono (by omega))
  have t1 := tA.below hb1 (by omega)
  have t2 := tR.below hb1 (by omega)
  have t3 := two_set t1 (.bool b) (.string t)
  have t4 := (t2.other (B' := w.heap.size) (o := 0) (u := .bool b) (by omega)).other (B' := w.heap.size) (o := 1) (u := .string t) (by omega)
  have b3 := (b1.setCell (p := ⟨w.heap.size, 0, none⟩) (Nat.le_refl _) (.bool b)).setCell (p := ⟨w.heap.size, 1, none⟩) (Nat.le_refl _) (.string t)
  obtain ⟨⟨c1, c2⟩, c3, c4⟩ := t1
  have HB3 := Lib.hid (And.intro b3 (And.intro t3 t4))
  clear tA tR b0 hs0 hW0 hb1 b1 t2 b3 t3 t4
  go_upto_region 2 with fail
  obtain ⟨W3, hW3⟩ : ∃ V, (w1.setCell ⟨w.heap.size, 0, none⟩ (.bool b)).setCell ⟨w.heap.size, 1, none⟩ (.string t) = V := ⟨_, rfl⟩
  have HB4 := HB3.out
  rw [hW3] at HB4
  rw [hW3]
  obtain ⟨b3, ⟨⟨e1, e2⟩, e3, e4⟩, ⟨f1, f2⟩, f3, f4⟩ := HB4
  have HB5 := Lib.hid b3
  clear hW3 b3 c1 c2 c3 c4
  cases b <;> cases q
  · go_wp2_with fail
    refine bodyPost_ret (v := .agg #[.bool true, .string t]) (by simp [results, Tryz.results23, go_sem, f1, f3]) rfl ⟨rfl, ?_⟩
    exact (HB5.out.setCell (by simp) _).setCell (by simp) _
  · go_wp2_with fail
    refine bodyPost_ret (v := .agg #[.bool false, .string t]) (by simp [results, Tryz.results23, go_sem, f1, f3]) rfl ⟨rfl, ?_⟩
    exact (HB5.out.setCell (by simp) _).setCell (by simp) _
  · go_wp2_with fail
    refine bodyPost_ret (v := .agg #[.bool false, .string t]) (by simp [results, Tryz.results23, go_sem, f1, f3]) rfl ⟨rfl, ?_⟩
    exact (HB5.out.setCell (by simp) _).setCell (by simp) _
  · go_wp2_with fail
    refine bodyPost_ret (v := .agg #[.bool false, .string t]) (by simp [results, Tryz.results23, go_sem, f1, f3]) rfl ⟨rfl, ?_⟩
    exact (HB5.out.setCell (by simp) _).setCell (by simp) _

theorem bytesLess_val : ∀ l m : List UInt8, l.length = m.length → Op.bytesLess l m = decide (beVal l < beVal m)
  | [], [], _ => by simp [Op.bytesLess, beVal]
  | [], _ :: _, h => by simp at h
  | _ :: _, [], h => by simp at h
  | a :: l, b :: m, h => by
    have hl : l.length = m.length := by simpa using h
    have h1 := beVal_lt l
    have h2 := beVal_lt m
    rw [hl] at h1
    rw [beVal_head, beVal_head, hl]
    unfold Op.bytesLess
    by_cases hab : a < b
    · have hn : a.toNat + 1 ≤ b.toNat := UInt8.lt_iff_toNat_lt.1 hab
      have := Nat.mul_le_mul_right (256 ^ m.length) hn
      rw [Nat.add_mul] at this
      have h3 : a.toNat * 256 ^ m.length + beVal l < b.toNat * 256 ^ m.length + beVal m := by omega
      simp [hab, h3]
    · by_cases hba : b < a
      · have hn : b.toNat + 1 ≤ a.toNat := UInt8.lt_iff_toNat_lt.1 hba
        have := Nat.mul_le_mul_right (256 ^ m.length) hn
        rw [Nat.add_mul] at this
        have h3 : ¬ a.toNat * 256 ^ m.length + beVal l < b.toNat * 256 ^ m.length + beVal m := by omega
        have h4 : ¬ a = b := fun e => by subst e; exact hab hba
        simp [hab, h3, h4]
      · have e : a = b := by
          apply UInt8.toNat_inj.1
          have h3 : ¬ a.toNat < b.toNat := fun h => hab (UInt8.lt_iff_toNat_lt.2 h)
          have h4 : ¬ b.toNat < a.toNat := fun h => hba (UInt8.lt_iff_toNat_lt.2 h)
          omega
        subst e
        rw [bytesLess_val l m hl]
        simp

set_option maxHeartbeats 400000 in
theorem rcmpMag_any (m n : Nat) (w : World) :
    Calls Tryz.prog 55 #[.string ⟨(be m).toArray⟩, .string ⟨(be n).toArray⟩] w fun e w' => e = .returned (.int .i64 (cmpZ m n)) ∧ w = w' := by
  obtain ⟨a, ha⟩ : ∃ a : ByteArray, ⟨(be m).toArray⟩ = a := ⟨_, rfl⟩
  obtain ⟨b, hb⟩ : ∃ a : ByteArray, ⟨(be n).toArray⟩ = a := ⟨_, rfl⟩
  have sa : a.size = (be m).length := by rw [← ha]; rfl
  have sb : b.size = (be n).length := by rw [← hb]; rfl
  rw [ha, hb]
  by_cases hl : (be m).length < (be n).length
  · have hc := Lib.hid (cmpZ_lt (show (m : Int) < n by have := be_length_lt hl; omega))
    have h1 : ¬ (a.size : Int) = (b.size : Int) := by omega
    have h2 : (a.size : Int) < (b.size : Int) := by omega
    clear ha hb sa sb hl
    go_enter Tryz.func55, Tryz.ntmps55
    go_wp2_with fail
    go_ret
    exact ⟨i64_eq hc.out.symm, rfl⟩
  · by_cases hl2 : (be n).length < (be m).length
    · have hc := Lib.hid (cmpZ_gt (show (n : Int) < m by have := be_length_lt hl2; omega))
      have h1 : ¬ (a.size : Int) = (b.size : Int) := by omega
      have h2 : ¬ (a.size : Int) < (b.size : Int) := by omega
      clear ha hb sa sb hl hl2
      go_enter Tryz.func55, Tryz.ntmps55
      go_wp2_with fail
      go_ret
      exact ⟨i64_eq hc.out.symm, rfl⟩
    · have hle : (be m).length = (be n).length := by omega
      have k1 : Op.bytesLess a.toList b.toList = decide (m < n) := by
        rw [Lib.toList_data, Lib.toList_data, ← ha, ← hb, bytesLess_val _ _ (by simpa using hle)]
        simp [beVal_be]
      have k2 : (a.toList == b.toList) = decide (m = n) := by
        rw [Lib.toList_data, Lib.toList_data, ← ha, ← hb]
        by_cases h : m = n
        · subst h; simp
        · have : ¬ be m = be n := fun e => h (be_inj e)
          simp [h, this]
      have h1 : (a.size : Int) = (b.size : Int) := by omega
      rcases Nat.lt_trichotomy m n with h | h | h
      · have hc := Lib.hid (cmpZ_lt (show (m : Int) < n by omega))
        rw [decide_eq_true h] at k1
        clear ha hb sa sb hl hl2 h k2 hle
        go_enter Tryz.func55, Tryz.ntmps55
        go_wp2_with fail
        go_ret
        exact ⟨i64_eq hc.out.symm, rfl⟩
      · have hc := Lib.hid (cmpZ_eq (show (m : Int) = n by omega))
        rw [decide_eq_false (by omega)] at k1
        rw [decide_eq_true h] at k2
        clear ha hb sa sb hl hl2 h hle
        go_enter Tryz.func55, Tryz.ntmps55
        go_wp2_with fail
        go_ret
        exact ⟨i64_eq hc.out.symm, rfl⟩
      · have hc := Lib.hid (cmpZ_gt (show (n : Int) < m by omega))
        rw [decide_eq_false (by omega)] at k1
        rw [decide_eq_false (by omega)] at k2
        clear ha hb sa sb hl hl2 h hle
        go_enter Tryz.func55, Tryz.ntmps55
        go_wp2_with fail
        go_ret
        exact ⟨i64_eq hc.out.symm, rfl⟩
end Go.Proofs.YtajollhpimfefaaGreatDoor

namespace Go.Proofs.YtajollhpimfefaaGreatDoor
open Go.RowKit Go.Shelf

set_option maxHeartbeats 1000000 in
set_option maxRecDepth 100000 in
theorem rcomp_any (na nb : Bool) (sa sb : ByteArray) (w : World) :
    Calls Tryz.prog 25 #[.agg #[.bool na, .string sa], .agg #[.bool nb, .string sb]] w fun e w' => e = .returned (.int .i64 (cmpZ (ival na sa) (ival nb sb))) ∧ Below w.heap.size w w' := by
  obtain ⟨x, hx⟩ : ∃ x, x = ival na sa := ⟨_, rfl⟩
  obtain ⟨y, hy⟩ : ∃ y, y = ival nb sb := ⟨_, rfl⟩
  have ca := fun W => rcanonical_any na sa W
  have cb := fun W => rcanonical_any nb sb W
  rw [← hx] at ca
  rw [← hy] at cb
  rw [← hx, ← hy]
  have CA := Lib.hid ca
  have CB := Lib.hid cb
  clear ca cb hx hy
  go_enter Tryz.func25, Tryz.ntmps25
  go_upto_region 1 with fail
  obtain ⟨W0, hW0⟩ : ∃ W0, ((w.alloc (Obj.cells #[Value.bool na, Value.string sa] 23)).alloc (Obj.cells #[Value.bool nb, Value.string sb] 23)) = W0 := ⟨_, rfl⟩
  have hs0 : W0.heap.size = w.heap.size + 1 + 1 := by rw [← hW0]; simp
  have tA : Two w.heap.size (.bool na) (.string sa) W0 := by
    rw [← hW0]
    exact (two_new w _ _ _).below (B0 := w.heap.size + 1) ((Below.refl _ _).alloc (by simp) _) (by omega)
  have tB : Two (w.heap.size + 1) (.bool nb) (.string sb) W0 := by
    rw [← hW0]
    have h := two_new (w.alloc (Obj.cells #[Value.bool na, Value.string sa] 23)) (.bool nb) (.string sb) 23
    rw [World.size_alloc] at h
    exact h
  have b0 : Below w.heap.size w W0 := by
    rw [← hW0]
    exact ((Below.refl _ _).alloc (Nat.le_refl _) _).alloc (by simp) _
  rw [hW0]
  have q1 : Two w.heap.size (.bool na) (.string sa) W0.drew := tA
  have q2 : Two (w.heap.size + 1) (.bool nb) (.string sb) W0.drew := tB
  have q5 : w.heap.size + 1 + 1 ≤ W0.drew.heap.size := by show _ ≤ W0.heap.size; omega
  have HQ := Lib.hid (And.intro q1 (And.intro q2 (And.intro b0.drew q5)))
  obtain ⟨⟨a1, a2⟩, a3, a4⟩ := q1
  obtain ⟨⟨b1, b2⟩, b3, b4⟩ := q2
  clear tA tB b0 hs0 hW0 q5
  go_cut [] from 5 to 8 (fun wc => Two w.heap.size (.bool (ng x)) (.string (mg x)) wc ∧ Two (w.heap.size + 1) (.bool (ng y)) (.string (mg y)) wc ∧ Below w.heap.size w wc)
  case first =>
    have tok1 : True := trivial
    go_region_with (first
      | (go_at_call 48; have _t := tok1; clear tok1; refine (CA.out _).mono ?_; intro e w1 h1; obtain ⟨he, hb1⟩ := h1; subst he; have H1 := Lib.hid hb1; have k1 := HQ.out.1.below hb1 (by have := HQ.out.2.2.2; omega); have k2 := HQ.out.2.1.below hb1 (by have := HQ.out.2.2.2; omega); obtain ⟨⟨k11, k12⟩, k13, k14⟩ := k1; obtain ⟨⟨k21, k22⟩, k23, k24⟩ := k2; clear hb1)
      | (go_at_call 48; refine (CB.out _).mono ?_; intro e w2 h2; obtain ⟨he, hb2⟩ := h2; subst he; have H2 := Lib.hid hb2; have l1 := (HQ.out.1.below H1.out (by have := HQ.out.2.2.2; omega)).below hb2 (by have := HQ.out.2.2.2; have := H1.out.size; omega); have l2 := (HQ.out.2.1.below H1.out (by have := HQ.out.2.2.2; omega)).below hb2 (by have := HQ.out.2.2.2; have := H1.out.size; omega); obtain ⟨⟨l11, l12⟩, l13, l14⟩ := l1; obtain ⟨⟨l21, l22⟩, l23, l24⟩ := l2; clear hb2))
    all_goals (go_wp2_with fail; go_meet)
    all_goals
      have m1 : Two w.heap.size (.bool na) (.string sa) w2 := ⟨⟨l11, l12⟩, l13, l14⟩
      have m2 : Two (w.heap.size + 1) (.bool nb) (.string sb) w2 := ⟨⟨l21, l22⟩, l23, l24⟩
      refine ⟨Two.other (Two.other (two_set m1 _ _) (by omega)) (by omega), two_set (Two.other (Two.other m2 (by omega)) (by omega)) _ _, ?_⟩
      have s1 := HQ.out.2.2.2
      have s2 := H1.out.size
      exact ((((((HQ.out.2.2.1.trans (H1.out.mono (by omega))).trans (H2.out.mono (by omega))).setCell (by simp) _).setCell (by simp) _).setCell (by simp) _).setCell (by simp) _)
  case rest =>
    obtain ⟨t1, t2, hb⟩ := hcut
    obtain ⟨⟨c11, c12⟩, c13, c14⟩ := t1
    obtain ⟨⟨c21, c22⟩, c23, c24⟩ := t2
    have HB := Lib.hid hb
    clear hb
    by_cases hx : x < 0
    · have ex : ng x = true := by simp [ng, hx]
      rw [ex] at c11
      by_cases hy : y < 0
      · have ey : ng y = true := by simp [ng, hy]
        rw [ey] at c21
        have hc : Calls Tryz.prog 55 #[.string (mg y), .string (mg x)] wc fun e w' => e = .returned (.int .i64 (cmpZ (y.natAbs : Nat) (x.natAbs : Nat))) ∧ wc = w' := rcmpMag_any _ _ wc
        rw [cmpZ_neg hx hy] at hc
        have HC := Lib.hid hc
        clear hc ex ey hx hy
        go_wp2_with fail
        refine HC.out.mono ?_
        rintro e w' ⟨rfl, rfl⟩
        go_wp2_with fail
        go_ret
        exact ⟨rfl, HB.out⟩
      · have ey : ng y = false := by simp [ng]; omega
        rw [ey] at c21
        have hc : cmpZ x y = -1 := cmpZ_lt (by omega)
        have HC := Lib.hid hc
        clear hc ex ey hx hy
        go_wp2_with fail
        go_ret
        rw [HC.out]
        exact ⟨rfl, HB.out⟩
    · have ex : ng x = false := by simp [ng]; omega
      rw [ex] at c11
      by_cases hy : y < 0
      · have ey : ng y = true := by simp [ng, hy]
        rw [ey] at c21
        have hc : cmpZ x y = 1 := cmpZ_gt (by omega)
        have HC := Lib.hid hc
        clear hc ex ey hx hy
        go_wp2_with fail
        go_ret
        rw [HC.out]
        exact ⟨rfl, HB.out⟩
      · have ey : ng y = false := by simp [ng]; omega
        rw [ey] at c21
        have hc : Calls Tryz.prog 55 #[.string (mg x), .string (mg y)] wc fun e w' => e = .returned (.int .i64 (cmpZ (x.natAbs : Nat) (y.natAbs : Nat))) ∧ wc = w' := rcmpMag_any _ _ wc
        rw [cmpZ_pos hx hy] at hc
        have HC := Lib.hid hc
        clear hc ex ey hx hy
        go_wp2_with fail
        refine HC.out.mono ?_
        rintro e w' ⟨rfl, rfl⟩
        go_wp2_with fail
        go_ret
        exact ⟨rfl, HB.out⟩

theorem bitLen_half : ∀ n : Fin 256, n.val ≠ 0 → Lib.bitLen n.val = Lib.bitLen (n.val / 2) + 1 := by decide +kernel
theorem bitLen_zero : Lib.bitLen 0 = 0 := by decide +kernel

set_option maxHeartbeats 1000000 in
set_option maxRecDepth 100000 in
theorem rbits_any (n : Bool) (s : ByteArray) (w : World) (hs : s.size ≤ 1048576) :
    Calls Tryz.prog 27 #[.agg #[.bool n, .string s]] w fun e w' => e = .returned (.int .i64 (bl (beVal s.data.toList))) ∧ Below w.heap.size w w' := by
  have hl : (strip s.data.toList).length ≤ s.size := by
    rw [Lib.size_eq]; exact (List.dropWhile_sublist _).length_le
  have hb := beVal_strip s.data.toList
  cases hq : strip s.data.toList with
  | nil =>
    have h0 : beVal s.data.toList = 0 := by rw [← hb, hq]; rfl
    have hsg := fun W => rtrim_any s W
    rw [hq] at hsg
    have HS := Lib.hid hsg
    rw [h0]
    clear hb hq h0 hsg hl
    go_enter Tryz.func27, Tryz.ntmps27
    go_wp2_with (go_at_call 57; refine (HS.out _).mono ?_; rintro e w' ⟨rfl, rfl⟩)
    go_ret
    exact ⟨rfl, (Below.refl _ _).alloc (Nat.le_refl _) _⟩
  | cons c r =>
    have hc : c ≠ 0 := strip_head hq
    have h0 : bl (beVal s.data.toList) = 8 * r.length + Lib.bitLen c.toNat := by rw [← hb, hq]; exact bl_of c r hc
    have hsg := fun W => rtrim_any s W
    rw [hq] at hsg hl
    have HS := Lib.hid hsg
    have hlen : r.length + 1 ≤ 1048576 := by rw [List.length_cons] at hl; omega
    have H0 := Lib.hid h0
    have hk : Lib.bitLen c.toNat ≤ 8 := Lib.bitLen_le8 ⟨c.toNat, c.toNat_lt⟩
    clear hb hq h0 hsg hl
    go_enter Tryz.func27, Tryz.ntmps27
    go_wp2_with (go_at_call 57; refine (HS.out _).mono ?_; rintro e w' ⟨rfl, rfl⟩)
    go_loop [4, 5] (fun a d => ∃ D K : Nat, D ≤ 255 ∧ K ≤ 8388608 ∧ d = .int .i64 D ∧ a = .int .i64 K ∧ K + Lib.bitLen D = 8 * r.length + Lib.bitLen c.toNat) (fun _ d => (intOf d).toNat)
    case atStart => exact ⟨c.toNat, 8 * r.length, by have := c.toNat_lt; omega, by omega, congrArg (Value.int .i64) (IntWalk.wrap64_in (c.toNat : Int) (by have := c.toNat_lt; omega)), by go_num, rfl⟩
    case round =>
      obtain ⟨D, K, hD, hK, rfl, rfl, hsum⟩ := hrel
      have HSUM := Lib.hid hsum
      clear hsum
      by_cases hd : 0 < D
      · have hbd := bitLen_half ⟨D, by omega⟩ (by show D ≠ 0; omega)
        have HBD := Lib.hid hbd
        clear hbd
        go_wp2
        go_round
        case rel => exact ⟨D / 2, K + 1, by omega, by have h1 := HSUM.out; have h2 := HBD.out; simp only at h2; omega, by go_num, by go_num, by have h1 := HSUM.out; have h2 := HBD.out; simp only at h2; omega⟩
        case measure => simp [intOf]; omega
      · obtain rfl : D = 0 := by omega
        go_wp2
        go_ret
        have h1 := HSUM.out
        rw [bitLen_zero] at h1
        rw [H0.out]
        exact ⟨i64_eq (by omega), (Below.refl _ _).alloc (Nat.le_refl _) _⟩
end Go.Proofs.YtajollhpimfefaaGreatDoor

namespace Go.Proofs.YtajollhpimfefaaGreatDoor
open Go.RowKit Go.Shelf

theorem rowB_front {w : World} {b k n : Nat} {l : List UInt8} (h : RowB w b (k + 1) l) (hr : Room w b n) (hk : k < n) (c : UInt8) (v : Int) (hv : v = ((c.toNat : Nat) : Int)) : RowB (w.setCell ⟨b, k, none⟩ (.int .u8 v)) b k (c :: l) := by
  subst hv
  intro j hj
  rw [World.frozen?_setCell]
  rcases j with _ | j
  · rw [Nat.add_zero, World.cell?_setCell_same' _ _ _ (hr k hk).1]
    exact ⟨rfl, (hr k hk).2⟩
  · rw [World.cell?_setCell_other _ _ _ _ (by intro e; have := congrArg Addr.off e; simp at this)]
    have := h j (by simpa using hj)
    rw [show k + (j + 1) = k + 1 + j by omega]
    exact this
/-- Bytes in memory, as a string. -/
theorem conv_bytes {W : World} {b k cap : Nat} {l : List UInt8} (h : RowB W b k l) :
    (convert 72 9 (.slice (some ⟨b, k, none⟩) l.length cap)).run Tryz.prog W = .ok (.string ⟨l.toArray⟩) W :=
  run_convert_bytes_back (P := Tryz.prog) W 72 9 5 ⟨b, k, none⟩ cap l Tryz.underlying72 Tryz.underlying5 Tryz.underlying9
    (fun i hi => by
      rw [Addr.add_lit, (h i hi).1, List.getD_eq_getElem?_getD, List.getElem?_eq_getElem hi]; rfl)
theorem rowB_one (w : World) (c : UInt8) (v : Int) (hv : v = ((c.toNat : Nat) : Int)) (T : TypeId) : RowB (w.alloc (.cells #[.int .u8 v] T)) w.heap.size 0 [c] := by
  subst hv
  intro j hj
  obtain rfl : j = 0 := by simpa using hj
  have hh := heap_alloc_new w (.cells #[.int .u8 ((c.toNat : Nat) : Int)] T)
  simp only [World.cell?, World.frozen?, hh]
  simp
theorem be_one (m : Nat) (h0 : ¬ m = 0) (h1 : m < 256) : be m = [UInt8.ofNat m] := by
  rw [be_pos m h0, Nat.div_eq_of_lt h1, Nat.mod_eq_of_lt h1]; rfl
theorem toNat_ofNat (m : Nat) : (UInt8.ofNat m).toNat = m % 256 := by simp

set_option maxHeartbeats 1000000 in
set_option maxRecDepth 100000 in
theorem rmag_any (m : Nat) (w : World) (hm : m < 9223372036854775808) :
    Calls Tryz.prog 51 #[.int .i64 m] w fun e w' => e = .returned (.string ⟨(be m).toArray⟩) ∧ Below w.heap.size w w' := by
  have HM := Lib.hid hm
  clear hm
  by_cases h0 : m = 0
  · subst h0
    go_enter Tryz.func51, Tryz.ntmps51
    go_wp2_with fail
    go_ret
    exact ⟨rfl, Below.refl _ _⟩
  · by_cases h1 : m < 256
    · have hrow := rowB_one w (UInt8.ofNat m) (m : Int) (by rw [toNat_ofNat, Nat.mod_eq_of_lt h1]) 5
      have hcv := conv_bytes (cap := 1) hrow
      simp only [List.length_cons, List.length_nil, Nat.zero_add] at hcv
      have HBE := Lib.hid (be_one m h0 h1)
      clear hrow
      go_enter Tryz.func51, Tryz.ntmps51
      go_wp2_with fail
      go_ret
      rw [HBE.out]
      exact ⟨rfl, (Below.refl _ _).alloc (Nat.le_refl _) _⟩
    · go_enter Tryz.func51, Tryz.ntmps51
      go_wp2_with fail
      obtain ⟨w1, hw1⟩ : ∃ V, w.alloc (Obj.cells #[Value.int IntKind.u8 0, Value.int IntKind.u8 0, Value.int IntKind.u8 0, Value.int IntKind.u8 0, Value.int IntKind.u8 0, Value.int IntKind.u8 0, Value.int IntKind.u8 0, Value.int IntKind.u8 0] 75) = V := ⟨_, rfl⟩
      have hroom : Room w1 w.heap.size 8 := by rw [← hw1]; exact room_alloc _ _ _ 8 rfl
      have hbel : Below w.heap.size w w1 := by rw [← hw1]; exact (Below.refl _ _).alloc (Nat.le_refl _) _
      have HR := Lib.hid hroom
      have HB := Lib.hid hbel
      rw [hw1]
      clear hw1 hroom hbel
      have hlen : (be m).length ≤ 8 := be_length_le 8 m (by have := HM.out; omega)
      have HL := Lib.hid hlen
      clear hlen
      go_loopw [0, 4] (fun v i wr => ∃ (n k : Nat) (L : List UInt8), n ≤ m ∧ v = .int .i64 n ∧ i = .int .i64 k ∧ k + L.length = 8 ∧ be m = be n ++ L ∧ RowB wr w.heap.size k L ∧ Room wr w.heap.size 8 ∧ Below w.heap.size w wr) (fun v _ _ => (intOf v).toNat)
      case atStart => exact ⟨m, 8, [], Nat.le_refl _, rfl, rfl, rfl, by simp, fun j hj => by simp at hj, HR.out, HB.out⟩
      case round =>
        obtain ⟨n, k, L, hn, rfl, rfl, hk, hbe, hrow, hrm, hb⟩ := hrel
        have HBE := Lib.hid hbe
        have HROW := Lib.hid hrow
        have HRM := Lib.hid hrm
        have HBB := Lib.hid hb
        clear hbe hrow hrm hb
        by_cases hp : 0 < n
        · have hL : L.length < 8 := by
            have h1 := congrArg List.length HBE.out
            have h2 := HL.out
            have h3 := be_length_gt 0 n (by simp; omega)
            rw [List.length_append] at h1
            omega
          obtain ⟨q, rfl⟩ : ∃ q, k = q + 1 := ⟨k - 1, by omega⟩
          have hq : q < 8 := by omega
          obtain ⟨v0, c1⟩ := Option.isSome_iff_exists.1 (HRM.out q hq).1
          have c2 := (HRM.out q hq).2
          go_wp2_with fail
          go_round
          case rel =>
            refine ⟨n / 256, q, UInt8.ofNat (n % 256) :: L, by omega, by go_num, rfl, by simp; omega, ?_, rowB_front HROW.out HRM.out hq _ _ (by rw [toNat_ofNat]; omega), HRM.out.set hq, HBB.out.setCell (Nat.le_refl _) _⟩
            rw [HBE.out, be_pos n (by omega), List.append_assoc]; rfl
          case measure => simp [intOf]; omega
        · obtain rfl : n = 0 := by omega
          have hL : be m = L := by rw [HBE.out, be_zero]; rfl
          have hpos : 0 < L.length := by rw [← hL]; exact be_length_gt 0 m (by simp; omega)
          have hk8 : ¬ 8 = k := by omega
          have hcv := conv_bytes (cap := L.length) HROW.out
          obtain ⟨s, hs⟩ : ∃ s : ByteArray, ⟨L.toArray⟩ = s := ⟨_, rfl⟩
          obtain ⟨ln, hln⟩ : ∃ n, L.length = n := ⟨_, rfl⟩
          rw [hs, hln] at hcv
          have HS := Lib.hid (show s = ⟨(be m).toArray⟩ by rw [hL, hs])
          have hal : Tryz.prog.arrayLen 75 = 8 := by simp [Program.arrayLen, Tryz.underlying75]
          have hsl : (Instr.sliceAt 75 (.pointer (some ⟨w.heap.size, 0, none⟩)) (some (.int .i64 (k : Int))) none none).run Tryz.prog wr = .ok (.slice (some ⟨w.heap.size, k, none⟩) ln ln) wr := by
            rw [run_sliceAt_array_l wr 75 ⟨w.heap.size, 0, none⟩ (by simp [Program.arrayLen, Program.elem, Tryz.underlying75]) .i64 (k : Int) (by omega) (by rw [hal]; omega)]
            go_simp
            rw [show ln = 8 - k by omega]
          clear hs hL hpos hln hal hk
          go_wp2_with fail
          go_ret
          exact ⟨ret_str HS.out, HBB.out⟩
end Go.Proofs.YtajollhpimfefaaGreatDoor

namespace Go.Proofs.YtajollhpimfefaaGreatDoor
open Go.RowKit Go.Shelf

theorem ng_pos (m : Nat) : ng (m : Int) = false := by unfold ng; exact decide_eq_false (by omega)
theorem mg_pos (m : Nat) : mg (m : Int) = ⟨(be m).toArray⟩ := by unfold mg; rw [Int.natAbs_natCast]
theorem ng_minus (m : Nat) (h : 0 < m) : ng (-(m : Int)) = true := by unfold ng; exact decide_eq_true (by omega)
theorem mg_minus (m : Nat) : mg (-(m : Int)) = ⟨(be m).toArray⟩ := by unfold mg; rw [Int.natAbs_neg, Int.natAbs_natCast]

set_option maxHeartbeats 1000000 in
set_option maxRecDepth 100000 in
theorem rof_any (n : Int) (w : World) (h1 : -9223372036854775808 ≤ n) (h2 : n ≤ 9223372036854775807) :
    Calls Tryz.prog 19 #[.int .i64 n] w fun e w' => e = .returned (.agg #[.bool (ng n), .string (mg n)]) ∧ Below w.heap.size w w' := by
  by_cases hp : 0 ≤ n
  · obtain ⟨m, rfl⟩ := Int.eq_ofNat_of_zero_le hp
    have hmg := fun W => rmag_any m W (by omega)
    rw [ng_pos, mg_pos]
    obtain ⟨t, ht⟩ : ∃ t : ByteArray, ⟨(be m).toArray⟩ = t := ⟨_, rfl⟩
    rw [ht] at hmg
    rw [ht]
    have HMG := Lib.hid hmg
    clear h1 h2 hp hmg ht
    go_enter Tryz.func19, Tryz.ntmps19
    go_wp2_with fail
    refine (HMG.out _).mono ?_
    rintro e w' ⟨rfl, hb⟩
    have tR := (two_new w (.bool false) (.string ⟨#[]⟩) 23).below hb (by simp)
    have hz1 : w.heap.size < w'.heap.size := tR.lt
    obtain ⟨⟨k1, k2⟩, k3, k4⟩ := tR
    have HB := Lib.hid hb
    clear hb
    go_wp2_with fail
    refine bodyPost_ret (v := .agg #[.bool false, .string t]) (by simp [results, Tryz.results19, go_sem, k1, k3]) rfl ⟨rfl, ?_⟩
    exact ((((Below.refl _ _).alloc (Nat.le_refl _) _).trans (HB.out.mono (by simp))).setCell (by simp) _).setCell (by simp) _
  · by_cases hl : n = -9223372036854775808
    · subst hl
      have e1 : ng (-9223372036854775808) = true := by decide
      have e2 : mg (-9223372036854775808) = ⟨#[128, 0, 0, 0, 0, 0, 0, 0]⟩ := by decide +kernel
      rw [e1, e2]
      have hw : wrap64 9223372036854775808 = -9223372036854775808 := by rw [← IntWalk.i64_left, IntKind.wrap_i64]; decide
      clear h1 h2 hp e1 e2
      go_enter Tryz.func19, Tryz.ntmps19
      go_wp2_with fail
      refine bodyPost_ret (v := .agg #[.bool true, .string ⟨#[128, 0, 0, 0, 0, 0, 0, 0]⟩]) (by simp [results, Tryz.results19, go_sem]) rfl ⟨rfl, ?_⟩
      repeat (first | exact Below.refl _ _ | refine Below.alloc ?_ (by simp) _)
    · obtain ⟨m, hm⟩ : ∃ m : Nat, n = -(m : Int) := ⟨n.natAbs, by omega⟩
      have hm0 : 0 < m := by omega
      have hmg := fun W => rmag_any m W (by omega)
      have e1 : ng n = true := by rw [hm]; exact ng_minus m hm0
      have e2 : mg n = ⟨(be m).toArray⟩ := by rw [hm]; exact mg_minus m
      obtain ⟨t, ht⟩ : ∃ t : ByteArray, ⟨(be m).toArray⟩ = t := ⟨_, rfl⟩
      rw [ht] at hmg e2
      rw [e1, e2]
      have HMG := Lib.hid hmg
      obtain ⟨p, hpp⟩ : ∃ p : Int, (m : Int) = p := ⟨_, rfl⟩
      rw [hpp] at hmg
      have HMG := Lib.hid hmg
      have hw : wrap64 (-n) = p := by rw [hm, Int.neg_neg, ← hpp]; exact IntWalk.wrap64_in _ (by omega)
      have hne : (n == p) = false := by rw [beq_eq_false_iff_ne]; omega
      have hn0 : ¬ (0 : Int) ≤ n := hp
      clear h1 h2 hp hmg ht hl hm hm0 e1 e2 hpp
      go_enter Tryz.func19, Tryz.ntmps19
      go_wp2_with fail
      refine (HMG.out _).mono ?_
      rintro e w' ⟨rfl, hb⟩
      have tR := (two_new w (.bool false) (.string ⟨#[]⟩) 23).below hb (by simp)
      have hz1 : w.heap.size < w'.heap.size := tR.lt
      obtain ⟨⟨k1, k2⟩, k3, k4⟩ := tR
      have HB := Lib.hid hb
      clear hb
      go_wp2_with fail
      refine bodyPost_ret (v := .agg #[.bool true, .string t]) (by simp [results, Tryz.results19, go_sem, k1, k3]) rfl ⟨rfl, ?_⟩
      exact ((((Below.refl _ _).alloc (Nat.le_refl _) _).trans (HB.out.mono (by simp))).setCell (by simp) _).setCell (by simp) _

theorem mg_val (z : Int) : beVal (mg z).data.toList = z.natAbs := by rw [mg_list, beVal_be]
theorem mg_len (z : Int) : (mg z).size = (be z.natAbs).length := by rw [Lib.size_eq, mg_list]
theorem first_byte (t : ByteArray) (h : t.size = 8) : (t[0].toNat < 128 ↔ beVal t.data.toList < 9223372036854775808) := by
  have e := ba_cons t (by omega)
  have hl : (t.extract 1 t.size).data.toList.length = 7 := by rw [← Lib.size_eq]; simp; omega
  rw [e, beVal_cons, hl]
  have := beVal_lt (t.extract 1 t.size).data.toList
  rw [hl] at this
  omega

/-- The walk of Small behind its first statement: the canonical digits stand in the box. -/
theorem small_cases (z : Int) (t : ByteArray) (ht : mg z = t) : (t.size < 8 ∧ z.natAbs < 9223372036854775808) ∨ (8 < t.size ∧ (z < -9223372036854775808 ∨ 9223372036854775807 < z)) ∨ (t.size = 8 ∧ z.natAbs < 9223372036854775808) ∨ (t.size = 8 ∧ ¬ z.natAbs < 9223372036854775808) := by
  have hs : t.size = (be z.natAbs).length := by rw [← ht]; exact mg_len z
  by_cases h8 : t.size < 8
  · left
    refine ⟨h8, ?_⟩
    by_cases hc : z.natAbs < 256 ^ 7
    · omega
    · have := be_length_gt 7 z.natAbs (by omega); omega
  · by_cases h9 : 8 < t.size
    · right; left
      refine ⟨h9, ?_⟩
      by_cases hc : z.natAbs < 256 ^ 8
      · have := be_length_le 8 z.natAbs hc; omega
      · omega
    · right; right
      by_cases hc : z.natAbs < 9223372036854775808
      · exact .inl ⟨by omega, hc⟩
      · exact .inr ⟨by omega, hc⟩

set_option maxHeartbeats 1000000 in
set_option maxRecDepth 100000 in
theorem rsmallF_any (n : Bool) (s : ByteArray) (w : World) :
    Calls Tryz.prog 17 #[.agg #[.bool n, .string s]] w (SmallRes w (ival n s)) := by
  obtain ⟨z, hz⟩ : ∃ z, ival n s = z := ⟨_, rfl⟩
  have hc := fun W => rcanonical_any n s W
  rw [hz] at hc
  rw [hz]
  obtain ⟨b, hb⟩ : ∃ b, ng z = b := ⟨_, rfl⟩
  obtain ⟨t, ht⟩ : ∃ t, mg z = t := ⟨_, rfl⟩
  have hcs := small_cases z t ht
  have hiv : ival b t = z := by rw [← hb, ← ht]; exact ival_mg z
  have hbv : beVal t.data.toList = z.natAbs := by rw [← ht]; exact mg_val z
  rw [hb, ht] at hc
  have HC := Lib.hid hc
  have HV := Lib.hid (And.intro hiv (And.intro hbv (And.intro hb ht)))
  have HCS := Lib.hid hcs
  clear hc hb ht hz hiv hbv hcs
  go_enter Tryz.func17, Tryz.ntmps17
  go_wp2_with fail
  refine (HC.out _).mono ?_
  rintro e w1 ⟨rfl, hb1⟩
  have tA := (two_new w (.bool n) (.string s) 23).below hb1 (by simp)
  have b1 : Below w.heap.size w w1 := ((Below.refl _ _).alloc (Nat.le_refl _) _).trans (hb1.mono (by simp))
  have t3 := two_set tA (.bool b) (.string t)
  have b3 := (b1.setCell (p := ⟨w.heap.size, 0, none⟩) (Nat.le_refl _) (.bool b)).setCell (p := ⟨w.heap.size, 1, none⟩) (Nat.le_refl _) (.string t)
  obtain ⟨⟨c1, c2⟩, c3, c4⟩ := tA
  have HB3 := Lib.hid (And.intro b3 t3)
  clear hb1 b1 t3 b3
  go_upto_region 2 with fail
  obtain ⟨W3, hW3⟩ : ∃ V, (w1.setCell ⟨w.heap.size, 0, none⟩ (.bool b)).setCell ⟨w.heap.size, 1, none⟩ (.string t) = V := ⟨_, rfl⟩
  have HB4 := HB3.out
  rw [hW3] at HB4
  rw [hW3]
  obtain ⟨b3, t3⟩ := HB4
  have l3 := t3.lt
  obtain ⟨⟨e1, e2⟩, e3, e4⟩ := t3
  have HB5 := Lib.hid b3
  have HT3 := Lib.hid (show Two w.heap.size (.bool b) (.string t) W3 from ⟨⟨e1, e2⟩, e3, e4⟩)
  clear hW3 b3 c1 c2 c3 c4
  rcases HCS.out with ⟨h8, hn⟩ | ⟨h8, hn⟩ | ⟨h8, hn⟩ | ⟨h8, hn⟩
  · have hvl := fun W => rvalue_any b t W (by omega) (by rw [HV.out.2.1]; exact hn)
    rw [HV.out.1] at hvl
    have HVL := Lib.hid hvl
    have HN := Lib.hid (show -9223372036854775808 ≤ z ∧ z ≤ 9223372036854775807 by omega)
    have k8 : (t.size : Int) < 8 := by omega
    clear hvl hn h8
    go_wp2_with fail
    refine (HVL.out _).mono ?_
    rintro e w4 ⟨rfl, b4⟩
    go_wp2_with fail
    go_ret2
    exact ⟨.inl ⟨HN.out.1, HN.out.2, rfl⟩, HB5.out.trans (b4.mono HB5.out.size)⟩
  · have HN := Lib.hid hn
    have k8 : ¬ (t.size : Int) < 8 := by omega
    have k9 : (8 : Int) < (t.size : Int) := by omega
    clear hn h8
    go_wp2_with fail
    go_ret2
    exact ⟨.inr ⟨HN.out, rfl⟩, HB5.out⟩
  · have hvl := fun W => rvalue_any b t W (by omega) (by rw [HV.out.2.1]; exact hn)
    rw [HV.out.1] at hvl
    have HVL := Lib.hid hvl
    have HN := Lib.hid (show -9223372036854775808 ≤ z ∧ z ≤ 9223372036854775807 by omega)
    have k8 : ¬ (t.size : Int) < 8 := by omega
    have k9 : ¬ (8 : Int) < (t.size : Int) := by omega
    have k0 : 0 < t.size := by omega
    have k1 : (t[0].toNat : Int) < 128 := by have := (first_byte t h8).2 (by rw [HV.out.2.1]; exact hn); omega
    clear hvl hn h8
    go_wp2_with fail
    refine (HVL.out _).mono ?_
    rintro e w4 ⟨rfl, b4⟩
    go_wp2_with fail
    go_ret2
    exact ⟨.inl ⟨HN.out.1, HN.out.2, rfl⟩, HB5.out.trans (b4.mono HB5.out.size)⟩
  · have k8 : ¬ (t.size : Int) < 8 := by omega
    have k9 : ¬ (8 : Int) < (t.size : Int) := by omega
    have k0 : 0 < t.size := by omega
    have k1 : ¬ (t[0].toNat : Int) < 128 := by have := mt (first_byte t h8).1 (by rw [HV.out.2.1]; exact hn); omega
    have hof := fun W => rof_any (-9223372036854775808) W (by omega) (by omega)
    obtain ⟨bl, hbl⟩ : ∃ x, ng (-9223372036854775808) = x := ⟨_, rfl⟩
    obtain ⟨tl, htl⟩ : ∃ x, mg (-9223372036854775808) = x := ⟨_, rfl⟩
    have heq : eqI b t bl tl = decide (z = -9223372036854775808) := by rw [← HV.out.2.2.1, ← HV.out.2.2.2, ← hbl, ← htl, eqI_ints]
    rw [hbl, htl] at hof
    have HOF := Lib.hid hof
    have q1 := eql_int
    have q2 := guard_int
    have HN := Lib.hid (And.intro hn heq)
    clear hof hbl htl hn h8 heq
    go_wp2_with fail
    refine (HOF.out _).mono ?_
    rintro e w4 ⟨rfl, b4⟩
    have t4 := HT3.out.below b4 l3
    have f4 := HB5.out.trans (b4.mono HB5.out.size)
    have l4 := t4.lt
    obtain ⟨⟨g1, g2⟩, g3, g4⟩ := t4
    have HF4 := Lib.hid f4
    clear b4 f4
    by_cases hzl : z = -9223372036854775808
    · have he : eqI b t bl tl = true := by rw [HN.out.2, decide_eq_true hzl]
      subst hzl
      go_wp2_with fail
      go_ret2
      exact ⟨.inl ⟨by omega, by omega, rfl⟩, HF4.out.alloc HF4.out.size _⟩
    · have he : eqI b t bl tl = false := by rw [HN.out.2, decide_eq_false hzl]
      have HZ := Lib.hid (show z < -9223372036854775808 ∨ 9223372036854775807 < z by have := HN.out.1; omega)
      clear hzl
      go_wp2_with fail
      go_ret2
      exact ⟨.inr ⟨HZ.out, rfl⟩, HF4.out.alloc HF4.out.size _⟩
end Go.Proofs.YtajollhpimfefaaGreatDoor
