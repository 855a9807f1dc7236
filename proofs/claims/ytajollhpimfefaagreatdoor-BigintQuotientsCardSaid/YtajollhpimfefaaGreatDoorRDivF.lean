/- The contract of the reference's Div. -/
import Derived.Test.YtajollhpimfefaaGreatDoorRDiv
import Derived.Test.YtajollhpimfefaaGreatDoorRArithT
import Derived.Test.YtajollhpimfefaaGreatDoorLawKit
namespace Go.Proofs.YtajollhpimfefaaGreatDoor
open Go.RowKit Go.Shelf

theorem cell_setO {W : World} {b B o k : Nat} {u : Value} (h : b ≠ B) : (W.setCell ⟨B, k, none⟩ u).cell? ⟨b, o, none⟩ = W.cell? ⟨b, o, none⟩ :=
 World.cell?_setCell_other _ _ _ _ (fun e => h (congrArg Addr.block e).symm)
theorem cell_drewD (W : World) (a : Addr) : W.drew.cell? a = W.cell? a := rfl
theorem sgn_true {x : Int} {M : Nat} (h : ng x = true) (hM : x.natAbs = M) : x = sgn true M := by
 have h1 : x < 0 := by unfold ng at h; exact of_decide_eq_true h
 have h2 : sgn true M = -(M : Int) := rfl
 omega
theorem sgn_false {x : Int} {M : Nat} (h : ng x = false) (hM : x.natAbs = M) : x = sgn false M := by
 have h1 : ¬ x < 0 := by unfold ng at h; exact of_decide_eq_false h
 have h2 : sgn false M = (M : Int) := rfl
 omega
theorem rneg_val {x z : Int} {bx bz : Bool} {sx sz : ByteArray} (hx : ival bx sx = x) (he : -x = z) (hz : Nam bz sz z) (W : World) :
  Calls Tryz.prog 23 #[.agg #[.bool bx, .string sx]] W fun e w' => e = .returned (.agg #[.bool bz, .string sz]) ∧ Below W.heap.size W w' := by
 have h := rneg_any bx sx W
 rw [hx, he] at h
 obtain ⟨rfl, rfl⟩ := hz
 exact h
theorem rsub_val {x y z : Int} {bx by' bz : Bool} {sx sy sz : ByteArray} (hx : ival bx sx = x) (hy : ival by' sy = y) (lx : sx.size ≤ 100000) (ly : sy.size ≤ 100000) (he : x - y = z) (hz : Nam bz sz z) (W : World) :
  Calls Tryz.prog 31 #[.agg #[.bool bx, .string sx], .agg #[.bool by', .string sy]] W fun e w' => e = .returned (.agg #[.bool bz, .string sz]) ∧ Below W.heap.size W w' := by
 have h := rsub_any bx by' sx sy W lx ly
 rw [hx, hy, he] at h
 obtain ⟨rfl, rfl⟩ := hz
 exact h
theorem radd_val {x y z : Int} {bx by' bz : Bool} {sx sy sz : ByteArray} (hx : ival bx sx = x) (hy : ival by' sy = y) (lx : sx.size ≤ 100000) (ly : sy.size ≤ 100000) (he : x + y = z) (hz : Nam bz sz z) (W : World) :
  Calls Tryz.prog 29 #[.agg #[.bool bx, .string sx], .agg #[.bool by', .string sy]] W fun e w' => e = .returned (.agg #[.bool bz, .string sz]) ∧ Below W.heap.size W w' := by
 have h := radd_any bx by' sx sy W lx ly
 rw [hx, hy, he] at h
 obtain ⟨rfl, rfl⟩ := hz
 exact h
theorem rof_val {z : Int} {bz : Bool} {sz : ByteArray} (h1 : -9223372036854775808 ≤ z) (h2 : z ≤ 9223372036854775807) (hz : Nam bz sz z) (W : World) :
  Calls Tryz.prog 19 #[.int .i64 z] W fun e w' => e = .returned (.agg #[.bool bz, .string sz]) ∧ Below W.heap.size W w' := by
 have h := rof_any z W h1 h2
 obtain ⟨rfl, rfl⟩ := hz
 exact h
theorem rcan_val {x : Int} {bx bz : Bool} {sx sz : ByteArray} (hx : ival bx sx = x) (hz : Nam bz sz x) (W : World) :
  Calls Tryz.prog 48 #[.agg #[.bool bx, .string sx]] W fun e w' => e = .returned (.agg #[.bool bz, .string sz]) ∧ Below W.heap.size W w' := by
 have h := rcanonical_any bx sx W
 rw [hx] at h
 obtain ⟨rfl, rfl⟩ := hz
 exact h
theorem nam_ival {b : Bool} {s : ByteArray} {z : Int} (h : Nam b s z) : ival b s = z := by obtain ⟨rfl, rfl⟩ := h; exact ival_mg z
theorem nam_nat (n : Nat) : Nam false ⟨(be n).toArray⟩ (n : Int) := ⟨ng_pos n, mg_pos n⟩
theorem nam_size {b : Bool} {s : ByteArray} {z : Int} (h : Nam b s z) {k : Nat} (hz : z.natAbs < 256 ^ k) : s.size ≤ k := by
 obtain ⟨_, rfl⟩ := h; exact mg_size z k hz
theorem nam_empty {b : Bool} {s : ByteArray} {z : Int} (h : Nam b s z) : s.toList.isEmpty = decide (z = 0) := by
 obtain ⟨_, rfl⟩ := h; exact mg_empty z
theorem ival_lt (n : Bool) (s : ByteArray) (k : Nat) (h : s.size ≤ k) : (ival n s).natAbs < 256 ^ k := by
 rw [ival_abs]
 have h1 := beVal_lt s.data.toList
 rw [← Lib.size_eq] at h1
 exact Nat.lt_of_lt_of_le h1 (Nat.pow_le_pow_right (by omega) h)

end Go.Proofs.YtajollhpimfefaaGreatDoor
