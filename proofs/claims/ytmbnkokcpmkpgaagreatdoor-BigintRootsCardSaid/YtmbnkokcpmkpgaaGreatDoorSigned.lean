/- The contracts of bigint.signed and bigint.Of. -/
import Derived.Test.YtmbnkokcpmkpgaaGreatDoorStore
namespace Go.Proofs.YtmbnkokcpmkpgaaGreatDoor
open Go.RowKit

/-- A new block of two cells. -/
def Two (B : Nat) (x y : Value) (W : World) : Prop := (W.cell? ⟨B, 0, none⟩ = some x ∧ W.frozen? ⟨B, 0, none⟩ = false) ∧ (W.cell? ⟨B, 1, none⟩ = some y ∧ W.frozen? ⟨B, 1, none⟩ = false)
theorem two_new (w : World) (x y : Value) (T : TypeId) : Two w.heap.size x y (w.alloc (.cells #[x, y] T)) := by
  have hh := heap_alloc_new w (.cells #[x, y] T)
  refine ⟨⟨?_, ?_⟩, ⟨?_, ?_⟩⟩
  · simp only [World.cell?, hh]; simp
  · simp only [World.frozen?, hh]; simp
  · simp only [World.cell?, hh]; simp
  · simp only [World.frozen?, hh]; simp
theorem Two.below {W W' : World} {B0 B : Nat} {x y : Value} (h : Two B x y W) (hb : Below B0 W W') (hB : B < B0) : Two B x y W' :=
  ⟨⟨(hb.cell (p := ⟨B, 0, none⟩) hB).trans h.1.1, (hb.frozen (p := ⟨B, 0, none⟩) hB).trans h.1.2⟩, ⟨(hb.cell (p := ⟨B, 1, none⟩) hB).trans h.2.1, (hb.frozen (p := ⟨B, 1, none⟩) hB).trans h.2.2⟩⟩
theorem Two.lt {W : World} {B : Nat} {x y : Value} (h : Two B x y W) : B < W.heap.size := World.block_lt_of_cell? W _ h.1.1

/-- The canonical api.Int of an integer; nothing that was there has turned. -/
def IntRes (w : World) (z : Int) (e : Ending) (w' : World) : Prop := e = .returned (.agg #[.bool (ng z), .string (mg z)]) ∧ Below w.heap.size w w'

set_option maxHeartbeats 400000 in
theorem signed_gen (neg : Bool) (p : Option Addr) (xs : List Nat) (cap : Nat) (w : World) (hx : Nt w p xs) (hok : Ok xs) (hn : xs.length ≤ 131072) :
    Calls Tryz.prog 50 #[.bool neg, .slice p xs.length cap] w fun e w' => e = .returned (.agg #[.bool (neg && decide (0 < xs.length)), .string ⟨(be (wv xs)).toArray⟩]) ∧ Below w.heap.size w w' := by
  have hst := store_any p xs cap (w.alloc (.cells #[.bool false, .string ⟨#[]⟩] 23)) (hx.below ((Below.refl _ _).alloc (Nat.le_refl _) _)) hok hn
  have HS := Lib.hid hst
  clear hst hx
  obtain ⟨s, hs⟩ : ∃ s : ByteArray, s = ⟨(be (wv xs)).toArray⟩ := ⟨_, rfl⟩
  rw [← hs]
  have hS := HS.out
  rw [← hs] at hS
  have HS' := Lib.hid hS
  clear hS HS hs
  cases neg
  · go_enter Tryz.func50, Tryz.ntmps50
    go_wp2_with fail
    refine HS'.out.mono ?_
    rintro e w1 ⟨rfl, hb1⟩
    obtain ⟨hc1, hf1⟩ := bcell hb1
    go_wp2_with fail
    refine bodyPost_ret (v := .agg #[.bool false, .string s]) (by simp [results, Tryz.results50, go_sem, hc1]) rfl ⟨by simp, ?_⟩
    exact ((((Below.refl _ _).alloc (Nat.le_refl _) _).trans (hb1.mono (by simp))).setCell (by simp) _).setCell (by simp) _
  · obtain ⟨d, hd⟩ : ∃ d, d = decide (0 < xs.length) := ⟨_, rfl⟩
    have hd1 : decide (0 < xs.length) = d := hd.symm
    have hd2 : decide ((0 : Int) < (xs.length : Int)) = d := by rw [hd]; simp
    rw [← hd]
    clear hd
    go_enter Tryz.func50, Tryz.ntmps50
    go_wp2_with fail
    refine HS'.out.mono ?_
    rintro e w1 ⟨rfl, hb1⟩
    obtain ⟨hc1, hf1⟩ := bcell hb1
    go_wp2_with fail
    refine bodyPost_ret (v := .agg #[.bool d, .string s]) (by simp [results, Tryz.results50, go_sem, hc1]) rfl ⟨by simp, ?_⟩
    exact ((((Below.refl _ _).alloc (Nat.le_refl _) _).trans (hb1.mono (by simp))).setCell (by simp) _).setCell (by simp) _

theorem int_agg (neg : Bool) (n : Nat) : (.agg #[.bool (neg && decide (0 < (nw n).length)), .string ⟨(be (wv (nw n))).toArray⟩] : Value) = .agg #[.bool (ng (if neg then -(n : Int) else n)), .string (mg (if neg then -(n : Int) else n))] := by
  have h1 : (neg && decide (0 < (nw n).length)) = ng (if neg then -(n : Int) else n) := by
    unfold ng
    have h0 : (0 < (nw n).length) ↔ n ≠ 0 := by rw [List.length_pos_iff, ne_eq, nw_eq_nil]
    cases neg
    · simp
    · simp only [Bool.true_and, if_true]
      rw [decide_eq_decide, h0]; omega
  have h2 : (⟨(be (wv (nw n))).toArray⟩ : ByteArray) = mg (if neg then -(n : Int) else n) := by
    unfold mg
    rw [wv_nw]
    cases neg <;> simp
  rw [h1, h2]
theorem signed_nat (neg : Bool) (p : Option Addr) (n cap : Nat) (w : World) (hx : Nt w p (nw n)) (hn : (nw n).length ≤ 131072) :
    Calls Tryz.prog 50 #[.bool neg, .slice p (nw n).length cap] w (IntRes w (if neg then -(n : Int) else n)) := by
  refine (signed_gen neg p (nw n) cap w hx (nw_ok n) hn).mono ?_
  rintro e w' ⟨rfl, hb⟩
  exact ⟨by rw [int_agg], hb⟩
theorem signed_word (neg : Bool) (v : Nat) (hv : v < 18446744073709551616) (hz : neg = true → v ≠ 0) (w : World) (g : Nat) (hr : Row w g 0 [v]) :
    Calls Tryz.prog 50 #[.bool neg, .slice (some ⟨g, 0, none⟩) 1 1] w (IntRes w (if neg then -(v : Int) else v)) := by
  refine (signed_gen neg (some ⟨g, 0, none⟩) [v] 1 w (.inr ⟨g, 0, rfl, hr⟩) (Ok.nil.cons hv) (by simp)).mono ?_
  rintro e w' ⟨rfl, hb⟩
  refine ⟨?_, hb⟩
  have e1 : wv [v] = v := by simp [wv]
  rw [e1]
  cases neg
  · simp [ng, mg]
  · have := hz rfl
    have e2 : ng (-(v : Int)) = true := by simp [ng]; omega
    simp [e2, mg]
theorem row_one (w : World) (v : Nat) (T : TypeId) : Row (w.alloc (.cells #[.int .u64 (v : Nat)] T)) w.heap.size 0 [v] := fun j hj => by
  obtain rfl : j = 0 := by simpa using hj
  exact ⟨(box_new w _ _).1, (box_new w _ _).2⟩
theorem wrap_of_neg (n : Int) (h1 : n < 0) (h2 : -9223372036854775808 ≤ n) : IntKind.u64.wrap (-(IntKind.u64.wrap n)) = ((n.natAbs : Nat) : Int) := by
  rw [IntKind.wrap_u64, IntKind.wrap_u64]; omega
theorem wrap_of_pos (n : Int) (h1 : ¬ n < 0) (h2 : n ≤ 9223372036854775807) : IntKind.u64.wrap n = ((n.natAbs : Nat) : Int) := by
  rw [IntKind.wrap_u64]; omega

set_option maxHeartbeats 400000 in
theorem of_any (n : Int) (w : World) (h1 : -9223372036854775808 ≤ n) (h2 : n ≤ 9223372036854775807) :
    Calls Tryz.prog 18 #[.int .i64 n] w (IntRes w n) := by
  obtain ⟨v, hv⟩ : ∃ v, v = n.natAbs := ⟨_, rfl⟩
  by_cases hn : n < 0
  · have hw := wrap_of_neg n hn h1
    rw [← hv] at hw
    have HV := Lib.hid (And.intro hv (And.intro h1 h2))
    clear hv h1 h2
    go_enter Tryz.func18, Tryz.ntmps18
    go_wp2_with fail
    have hrow := row_one (w.alloc (Obj.cells #[Value.bool false, Value.string ⟨#[]⟩] 23)) v 51
    rw [World.size_alloc] at hrow
    refine (signed_word true v (by have := HV.out; omega) (fun _ => by have := HV.out; omega) _ _ hrow).mono ?_
    rintro e w1 ⟨he, hb1⟩
    rw [show (if true = true then -(v : Int) else (v : Int)) = n by have := HV.out; simp; omega] at he
    subst he
    obtain ⟨⟨k1, k2⟩, k3, k4⟩ := ((two_new w (.bool false) (.string ⟨#[]⟩) 23).below (B0 := w.heap.size + 1) ((Below.refl _ _).alloc (by simp) (Obj.cells #[Value.int IntKind.u64 (v : Nat)] 51)) (by omega)).below hb1 (by simp; omega)
    clear hrow
    go_wp2_with fail
    refine bodyPost_ret (v := .agg #[.bool (ng n), .string (mg n)]) (by simp [results, Tryz.results18, go_sem, k1, k3]) rfl ⟨rfl, ?_⟩
    exact (((((Below.refl _ _).alloc (Nat.le_refl _) _).alloc (by simp) _).trans (hb1.mono (by simp; omega))).setCell (by simp) _).setCell (by simp) _
  · have hw := wrap_of_pos n hn h2
    rw [← hv] at hw
    have HV := Lib.hid (And.intro hv (And.intro h1 h2))
    clear hv h1 h2
    go_enter Tryz.func18, Tryz.ntmps18
    go_wp2_with fail
    have hrow := row_one (w.alloc (Obj.cells #[Value.bool false, Value.string ⟨#[]⟩] 23)) v 51
    rw [World.size_alloc] at hrow
    refine (signed_word false v (by have := HV.out; omega) (fun h => by cases h) _ _ hrow).mono ?_
    rintro e w1 ⟨he, hb1⟩
    rw [show (if false = true then -(v : Int) else (v : Int)) = n by have := HV.out; simp; omega] at he
    subst he
    obtain ⟨⟨k1, k2⟩, k3, k4⟩ := ((two_new w (.bool false) (.string ⟨#[]⟩) 23).below (B0 := w.heap.size + 1) ((Below.refl _ _).alloc (by simp) (Obj.cells #[Value.int IntKind.u64 (v : Nat)] 51)) (by omega)).below hb1 (by simp; omega)
    clear hrow
    go_wp2_with fail
    refine bodyPost_ret (v := .agg #[.bool (ng n), .string (mg n)]) (by simp [results, Tryz.results18, go_sem, k1, k3]) rfl ⟨rfl, ?_⟩
    exact (((((Below.refl _ _).alloc (Nat.le_refl _) _).alloc (by simp) _).trans (hb1.mono (by simp; omega))).setCell (by simp) _).setCell (by simp) _
end Go.Proofs.YtmbnkokcpmkpgaaGreatDoor
