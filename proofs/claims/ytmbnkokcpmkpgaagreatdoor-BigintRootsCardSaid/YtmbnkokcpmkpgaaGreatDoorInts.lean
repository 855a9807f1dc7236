/- The contracts of the small functions of bigint: canonical, opposite, Neg, Check, the comparison of magnitudes. -/
import Derived.Test.YtmbnkokcpmkpgaaGreatDoorEq
import Derived.Deep.QuietTactic
import Derived.BigQuiet
import Derived.Deep.RegionHeld3
namespace Go.Proofs.YtmbnkokcpmkpgaaGreatDoor
open Go.RowKit

theorem ret_agg {a a' : Bool} {b b' : ByteArray} (h : a = a') (h' : b = b') : Ending.returned (.agg #[.bool a, .string b]) = .returned (.agg #[.bool a', .string b']) := by rw [h, h']

set_option maxHeartbeats 400000 in
theorem opposite_any (n : Bool) (s : ByteArray) (w : World) :
    Calls Tryz.prog 53 #[.agg #[.bool n, .string s]] w fun e w' => e = .returned (.agg #[.bool (!n), .string s]) ∧ Below w.heap.size w w' := by
  go_enter Tryz.func53, Tryz.ntmps53
  go_wp2
  refine bodyPost_ret (v := .agg #[.bool (!n), .string s]) (by simp [results, Tryz.results53, go_sem]) rfl ⟨rfl, ?_⟩
  repeat (first | exact Below.refl _ _ | refine Below.alloc ?_ (by simp) _)

theorem ng_true (s : ByteArray) : ng (ival true s) = !(strip s.data.toList).isEmpty := by simp [ng_ival]
theorem ng_false (s : ByteArray) : ng (ival false s) = false := by simp [ng_ival]

set_option maxHeartbeats 400000 in
theorem canonical_any (n : Bool) (s : ByteArray) (w : World) :
    Calls Tryz.prog 52 #[.agg #[.bool n, .string s]] w fun e w' => e = .returned (.agg #[.bool (ng (ival n s)), .string (mg (ival n s))]) ∧ Below w.heap.size w w' := by
  have h2 := Lib.hid (mg_strip n s)
  cases n
  · have h1 := Lib.hid (ng_false s)
    go_enter Tryz.func52, Tryz.ntmps52
    go_wp2_with (go_at_call 46; refine (significant_any s _).mono ?_; rintro e w' ⟨rfl, rfl⟩)
    rw [h1.out, ← h2.out]
    refine bodyPost_ret (v := .agg #[.bool false, .string ⟨(strip s.data.toList).toArray⟩]) (by simp [results, Tryz.results52, go_sem]) rfl ⟨rfl, ?_⟩
    repeat (first | exact Below.refl _ _ | refine Below.alloc ?_ (by simp) _)
  · have h1 := Lib.hid (ng_true s)
    go_enter Tryz.func52, Tryz.ntmps52
    go_wp2_with (go_at_call 46; refine (significant_any s _).mono ?_; rintro e w' ⟨rfl, rfl⟩)
    rw [h1.out, ← h2.out]
    refine bodyPost_ret (v := .agg #[.bool (!(strip s.data.toList).isEmpty), .string ⟨(strip s.data.toList).toArray⟩]) (by simp [results, Tryz.results52, go_sem]) rfl ⟨rfl, ?_⟩
    repeat (first | exact Below.refl _ _ | refine Below.alloc ?_ (by simp) _)

theorem bcell {W w1 : World} (hb : Below W.heap.size W w1) : (∀ b o, b < W.heap.size → w1.cell? ⟨b, o, none⟩ = W.cell? ⟨b, o, none⟩) ∧ (∀ b o, b < W.heap.size → w1.frozen? ⟨b, o, none⟩ = W.frozen? ⟨b, o, none⟩) :=
  ⟨fun b o h => hb.cell (p := ⟨b, o, none⟩) h, fun b o h => hb.frozen (p := ⟨b, o, none⟩) h⟩

set_option maxHeartbeats 400000 in
theorem neg_any (n : Bool) (s : ByteArray) (w : World) :
    Calls Tryz.prog 22 #[.agg #[.bool n, .string s]] w fun e w' => e = .returned (.agg #[.bool (ng (-ival n s)), .string (mg (-ival n s))]) ∧ Below w.heap.size w w' := by
  have h2 := Lib.hid (ival_not n s)
  go_enter Tryz.func22, Tryz.ntmps22
  go_wp2_with fail
  refine (opposite_any n s _).mono ?_
  rintro e w1 ⟨rfl, hb1⟩
  obtain ⟨hc1, hf1⟩ := bcell hb1
  have hz1 : w.heap.size + 1 < w1.heap.size := by have := hb1.size; simp at this; omega
  go_wp2_with fail
  refine (canonical_any (!n) s _).mono ?_
  rw [h2.out]
  rintro e w2 ⟨rfl, hb2⟩
  obtain ⟨hc2, hf2⟩ := bcell hb2
  have hz2 : w.heap.size + 1 < w2.heap.size := by have := hb2.size; omega
  go_wp2_with fail
  refine bodyPost_ret (v := .agg #[.bool (ng (-ival n s)), .string (mg (-ival n s))]) (by simp [results, Tryz.results22, go_sem, hc1, hc2, hz1]) rfl ⟨rfl, ?_⟩
  exact ((((((Below.refl _ _).alloc (Nat.le_refl _) _).alloc (by simp) _).trans (hb1.mono (by simp; omega))).trans (hb2.mono (by omega))).setCell (by simp) _).setCell (by simp) _

/-- Whether an integer is in its canonical form. -/
def canB (n : Bool) (s : ByteArray) : Bool := eqI n s (ng (ival n s)) (mg (ival n s))

set_option maxHeartbeats 400000 in
theorem check_yes (n : Bool) (s : ByteArray) (w : World) (hb : eqI n s (ng (ival n s)) (mg (ival n s)) = true) :
    Calls Tryz.prog 20 #[.agg #[.bool n, .string s]] w fun e w' => e = .returned (.int .i64 0) ∧ Below w.heap.size w w' := by
  have q1 := neq_int
  have q2 := guard_int
  go_enter Tryz.func20, Tryz.ntmps20
  go_wp2_with fail
  go_region_held3 (fun w' => w'.cell? ⟨w.heap.size, 0, none⟩ = some (.bool n) ∧ w'.cell? ⟨w.heap.size, 1, none⟩ = some (.string s)) (go_keep)
    (first | (go_at_call 52; refine (canonical_any n s _).mono ?_; rintro e w1 ⟨rfl, hb1⟩; have hc1 := (bcell hb1).1))
  go_wp2_with fail
  go_ret
  exact ⟨rfl, ((Below.refl _ _).alloc (Nat.le_refl _) _).drew.trans (hb1.mono (by simp))⟩
set_option maxHeartbeats 400000 in
theorem check_no (n : Bool) (s : ByteArray) (w : World) (hb : eqI n s (ng (ival n s)) (mg (ival n s)) = false) :
    Calls Tryz.prog 20 #[.agg #[.bool n, .string s]] w fun e w' => e = .returned (.int .i64 1) ∧ Below w.heap.size w w' := by
  have q1 := neq_int
  have q2 := guard_int
  go_enter Tryz.func20, Tryz.ntmps20
  go_wp2_with fail
  go_region_held3 (fun w' => w'.cell? ⟨w.heap.size, 0, none⟩ = some (.bool n) ∧ w'.cell? ⟨w.heap.size, 1, none⟩ = some (.string s)) (go_keep)
    (first | (go_at_call 52; refine (canonical_any n s _).mono ?_; rintro e w1 ⟨rfl, hb1⟩; have hc1 := (bcell hb1).1))
  go_wp2_with fail
  go_ret
  exact ⟨rfl, ((Below.refl _ _).alloc (Nat.le_refl _) _).drew.trans (hb1.mono (by simp))⟩
theorem check_any (n : Bool) (s : ByteArray) (w : World) :
    Calls Tryz.prog 20 #[.agg #[.bool n, .string s]] w fun e w' => e = .returned (.int .i64 (if canB n s then 0 else 1)) ∧ Below w.heap.size w w' := by
  cases hb : eqI n s (ng (ival n s)) (mg (ival n s)) with
  | true => rw [if_pos (show canB n s = true from hb)]; exact check_yes n s w hb
  | false => rw [if_neg (show ¬ canB n s = true by rw [canB, hb]; decide)]; exact check_no n s w hb
end Go.Proofs.YtmbnkokcpmkpgaaGreatDoor
