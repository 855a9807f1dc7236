/- The contracts of slices.Backward at bigint's two slice types. -/
import Derived.Test.YtmbnkokcpmkpgaaGreatDoorBack
namespace Go.Proofs.YtmbnkokcpmkpgaaGreatDoor
open Go.RowKit Go.Shelf
attribute [local go_sem] Oper.semAt_some

/-- The iterator's captured slice, in its box. -/
def InBox (B : Nat) (p : Option Addr) (N cap : Nat) (W : World) : Prop := W.cell? ⟨B, 0, none⟩ = some (.slice p N cap)
/-- What the iterator reads at index j. -/
def ReadAt (B : Nat) (p : Option Addr) (N cap : Nat) (xv : Nat → Nat) (j : Nat) (W : World) : Prop :=
  W.cell? ⟨B, 0, none⟩ = some (.slice p N cap) ∧ ∃ b off, p = some ⟨b, off, none⟩ ∧ W.cell? ⟨b, off + j, none⟩ = some (.int .u64 (xv j : Nat))

set_option maxHeartbeats 1000000 in
set_option maxRecDepth 100000 in
theorem backN_seq (m B : Nat) (p : Option Addr) (N cap : Nat) (xv : Nat → Nat) (hN : N ≤ 4194304) :
    BackSeq Tryz.prog m 112 #[.pointer (some ⟨B, 0, none⟩)] N xv (ReadAt B p N cap xv) (InBox B p N cap) := by
  intro l J Jx W hst hRd hY h0
  refine callsIn_of_wp Tryz.func112 rfl trivial ?_ rfl
  simp only [Tryz.ntmps112, List.size_toArray, List.length_cons, List.length_nil, Nat.reduceAdd, Nat.reduceSub, Array.replicate_succ, Array.replicate_zero, List.push_toArray, List.append_toArray, List.nil_append, List.cons_append]
  have hbox : W.cell? ⟨B, 0, none⟩ = some (.slice p N cap) := hst
  gi_wp2
  gi_loopw [3] (fun i wr => ∃ j : Nat, j ≤ N ∧ i = .int .i64 ((j : Int) - 1) ∧ J j wr) (fun i _ => (intOf i + 1).toNat)
  case atStart => exact ⟨N, Nat.le_refl _, rfl, h0⟩
  case round =>
    obtain ⟨j, hj, rfl, hJ⟩ := hrel
    cases j with
    | zero =>
      have e1 : ((0 : Nat) : Int) - 1 = -1 := by omega
      gi_wp2
      go_end0
      exact ⟨⟨_, rfl⟩, .inl hJ⟩
    | succ j =>
      obtain ⟨hb2, b, off, rfl, hc⟩ := hRd j wr (by omega) hJ
      obtain ⟨fn, tmps, assign, body, hy, hR⟩ := hY j wr (by omega) hJ
      have e1 : ((j + 1 : Nat) : Int) - 1 = (j : Int) := by omega
      gi_wp2
      refine hR.mono ?_
      rintro e W3 (⟨rfl, hJ3⟩ | ⟨rfl, hx3⟩)
      · gi_wp2
        go_roundw
        case rel => exact ⟨j, by omega, rfl, hJ3⟩
        case measure => simp [intOf]
      · gi_wp2
        refine bodyPost_ret (results_none rfl _ _ _) rfl ?_
        exact ⟨⟨_, rfl⟩, .inr hx3⟩

set_option maxHeartbeats 1000000 in
set_option maxRecDepth 100000 in
theorem backU_seq (m B : Nat) (p : Option Addr) (N cap : Nat) (xv : Nat → Nat) (hN : N ≤ 4194304) :
    BackSeq Tryz.prog m 123 #[.pointer (some ⟨B, 0, none⟩)] N xv (ReadAt B p N cap xv) (InBox B p N cap) := by
  intro l J Jx W hst hRd hY h0
  refine callsIn_of_wp Tryz.func123 rfl trivial ?_ rfl
  simp only [Tryz.ntmps123, List.size_toArray, List.length_cons, List.length_nil, Nat.reduceAdd, Nat.reduceSub, Array.replicate_succ, Array.replicate_zero, List.push_toArray, List.append_toArray, List.nil_append, List.cons_append]
  have hbox : W.cell? ⟨B, 0, none⟩ = some (.slice p N cap) := hst
  gi_wp2
  gi_loopw [3] (fun i wr => ∃ j : Nat, j ≤ N ∧ i = .int .i64 ((j : Int) - 1) ∧ J j wr) (fun i _ => (intOf i + 1).toNat)
  case atStart => exact ⟨N, Nat.le_refl _, rfl, h0⟩
  case round =>
    obtain ⟨j, hj, rfl, hJ⟩ := hrel
    cases j with
    | zero =>
      have e1 : ((0 : Nat) : Int) - 1 = -1 := by omega
      gi_wp2
      go_end0
      exact ⟨⟨_, rfl⟩, .inl hJ⟩
    | succ j =>
      obtain ⟨hb2, b, off, rfl, hc⟩ := hRd j wr (by omega) hJ
      obtain ⟨fn, tmps, assign, body, hy, hR⟩ := hY j wr (by omega) hJ
      have e1 : ((j + 1 : Nat) : Int) - 1 = (j : Int) := by omega
      gi_wp2
      refine hR.mono ?_
      rintro e W3 (⟨rfl, hJ3⟩ | ⟨rfl, hx3⟩)
      · gi_wp2
        go_roundw
        case rel => exact ⟨j, by omega, rfl, hJ3⟩
        case measure => simp [intOf]
      · gi_wp2
        refine bodyPost_ret (results_none rfl _ _ _) rfl ?_
        exact ⟨⟨_, rfl⟩, .inr hx3⟩


/-- slices.Backward(s): the function that is ranged over. -/
theorem backN_make (p : Option Addr) (n c : Nat) (w : World) :
    Calls Tryz.prog 84 #[.slice p n c] w fun e w' => e = .returned (.func (.func 112) #[] #[.pointer (some ⟨w.heap.size, 0, none⟩)]) ∧ w.alloc (.cells #[.slice p n c] 55) = w' := by
  go_enter Tryz.func84, Tryz.ntmps84
  go_wp2
  go_ret
  exact ⟨rfl, rfl⟩
theorem backU_make (p : Option Addr) (n c : Nat) (w : World) :
    Calls Tryz.prog 98 #[.slice p n c] w fun e w' => e = .returned (.func (.func 123) #[] #[.pointer (some ⟨w.heap.size, 0, none⟩)]) ∧ w.alloc (.cells #[.slice p n c] 54) = w' := by
  go_enter Tryz.func98, Tryz.ntmps98
  go_wp2
  go_ret
  exact ⟨rfl, rfl⟩
end Go.Proofs.YtmbnkokcpmkpgaaGreatDoor
