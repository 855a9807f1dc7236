/- What the walks of the laws of layer 1 share. -/
import Derived.Test.YtpdhffjdgnpikaaGreatDoorSum
import Derived.Test.YtpdhffjdgnpikaaGreatDoorMul
import Derived.Outline
import Derived.Test.YtpdhffjdgnpikaaGreatDoorAwake
import Derived.Test.YtpdhffjdgnpikaaGreatDoorCmp
import Derived.Test.YtpdhffjdgnpikaaGreatDoorNat
namespace Go.Proofs.YtpdhffjdgnpikaaGreatDoor
open Go.RowKit

end Go.Proofs.YtpdhffjdgnpikaaGreatDoor

namespace Go.Proofs.YtpdhffjdgnpikaaGreatDoor
open Go.RowKit Go.Shelf

/-- The cells of a row of api.Int values. -/
def RowI (w : World) (b : Nat) (l : List (Bool × ByteArray)) : Prop :=
  ∀ j, j < l.length → w.cell? ⟨b, j * 2, none⟩ = some (.bool (l.getD j (false, ⟨#[]⟩)).1) ∧ w.cell? ⟨b, j * 2 + 1, none⟩ = some (.string (l.getD j (false, ⟨#[]⟩)).2)

end Go.Proofs.YtpdhffjdgnpikaaGreatDoor

namespace Go.Proofs.YtpdhffjdgnpikaaGreatDoor
open Go.RowKit Go.Shelf

/-- Rows of api.Int values in a new block. -/
theorem rowI_3 (w : World) (na nb nc : Bool) (sa sb sc : ByteArray) (T : TypeId) : RowI (w.alloc (.cells #[.bool na, .string sa, .bool nb, .string sb, .bool nc, .string sc] T)) w.heap.size [(na, sa), (nb, sb), (nc, sc)] := by
  have hh := heap_alloc_new w (.cells #[.bool na, .string sa, .bool nb, .string sb, .bool nc, .string sc] T)
  intro j hj
  have hj3 : j < 3 := hj
  simp only [World.cell?, hh]
  rcases j with _ | _ | _ | j
  · simp
  · simp
  · simp
  · omega
theorem rowI_2 (w : World) (na nb : Bool) (sa sb : ByteArray) (T : TypeId) : RowI (w.alloc (.cells #[.bool na, .string sa, .bool nb, .string sb] T)) w.heap.size [(na, sa), (nb, sb)] := by
  have hh := heap_alloc_new w (.cells #[.bool na, .string sa, .bool nb, .string sb] T)
  intro j hj
  have hj3 : j < 2 := hj
  simp only [World.cell?, hh]
  rcases j with _ | _ | j
  · simp
  · simp
  · omega
theorem rowI_1 (w : World) (na : Bool) (sa : ByteArray) (T : TypeId) : RowI (w.alloc (.cells #[.bool na, .string sa] T)) w.heap.size [(na, sa)] := by
  have hh := heap_alloc_new w (.cells #[.bool na, .string sa] T)
  intro j hj
  have hj3 : j < 1 := hj
  simp only [World.cell?, hh]
  rcases j with _ | j
  · simp
  · omega
theorem rowI_5 (w : World) (n1 n2 n3 n4 n5 : Bool) (s1 s2 s3 s4 s5 : ByteArray) (T : TypeId) : RowI (w.alloc (.cells #[.bool n1, .string s1, .bool n2, .string s2, .bool n3, .string s3, .bool n4, .string s4, .bool n5, .string s5] T)) w.heap.size [(n1, s1), (n2, s2), (n3, s3), (n4, s4), (n5, s5)] := by
  have hh := heap_alloc_new w (.cells #[.bool n1, .string s1, .bool n2, .string s2, .bool n3, .string s3, .bool n4, .string s4, .bool n5, .string s5] T)
  intro j hj
  have hj3 : j < 5 := hj
  simp only [World.cell?, hh]
  rcases j with _ | _ | _ | _ | _ | j
  · simp
  · simp
  · simp
  · simp
  · simp
  · omega
theorem small_size {l : List (Bool × ByteArray)} (h : (l.any fun p => decide ((60 : Int) < (p.2.size : Int))) = false) : ∀ p ∈ l, p.2.size ≤ 60 := fun p hp => by
  have h1 := List.any_eq_false.1 h p hp
  simp at h1
  omega
/-- Integers of so many bytes. -/
def Sz (k : Nat) (z : Int) : Prop := z.natAbs < 256 ^ k
theorem Sz.ival (n : Bool) (s : ByteArray) (k : Nat) (h : s.size ≤ k) : Sz k (ival n s) := by
  unfold Sz
  rw [ival_abs]
  refine Nat.lt_of_lt_of_le (beVal_lt _) (Nat.pow_le_pow_right (by omega) ?_)
  rw [← Lib.size_eq]; exact h
theorem Sz.mono {k j : Nat} {z : Int} (h : Sz k z) (hk : k ≤ j) : Sz j z := Nat.lt_of_lt_of_le h (Nat.pow_le_pow_right (by omega) hk)
theorem Sz.add {k : Nat} {y z : Int} (h : Sz k y) (h' : Sz k z) : Sz (k + 1) (y + z) := by
  unfold Sz at *
  rw [Nat.pow_succ]
  have := Int.natAbs_add_le y z
  omega
theorem Sz.neg {k : Nat} {z : Int} (h : Sz k z) : Sz k (-z) := by unfold Sz at *; rwa [Int.natAbs_neg]
theorem Sz.sub {k : Nat} {y z : Int} (h : Sz k y) (h' : Sz k z) : Sz (k + 1) (y - z) := by rw [Int.sub_eq_add_neg]; exact h.add h'.neg
theorem Sz.mul {i k : Nat} {y z : Int} (h : Sz i y) (h' : Sz k z) : Sz (i + k) (y * z) := by
  unfold Sz at *
  rw [Int.natAbs_mul, Nat.pow_add]
  exact Nat.mul_lt_mul'' h h'
theorem Sz.size {k : Nat} {z : Int} (h : Sz k z) : (mg z).size ≤ k := mg_size z k h
/-- The parts of an api.Int with this value. -/
structure Val (b : Bool) (s : ByteArray) (z : Int) : Prop where
  val : ival b s = z
  small : s.size ≤ 262144
/-- .. and of the canonical one. -/
structure Nam (b : Bool) (s : ByteArray) (z : Int) : Prop where
  sign : ng z = b
  mag : mg z = s
theorem nam_ex (z : Int) : ∃ b s, Nam b s z := ⟨_, _, rfl, rfl⟩
theorem Nam.val {b : Bool} {s : ByteArray} {z : Int} (h : Nam b s z) {k : Nat} (hz : Sz k z) (hk : k ≤ 262144) : Val b s z := by
  obtain ⟨rfl, rfl⟩ := h
  exact ⟨ival_mg z, Nat.le_trans hz.size hk⟩
theorem Nam.eq {b : Bool} {s : ByteArray} {z : Int} (h : Nam b s z) : eqI b s b s = true := by
  obtain ⟨rfl, rfl⟩ := h; rw [eqI_ints]; simp
theorem Nam.zero {b : Bool} {s : ByteArray} (h : Nam b s 0) : b = false ∧ s = ⟨#[]⟩ := by
  obtain ⟨rfl, rfl⟩ := h; exact ⟨rfl, rfl⟩
section
variable {bx by' bz : Bool} {sx sy sz : ByteArray} {x y z : Int}
theorem add_val (hx : Val bx sx x) (hy : Val by' sy y) (he : x + y = z) (hz : Nam bz sz z) (W : World) :
    Calls Tryz.prog 117 #[.agg #[.bool bx, .string sx], .agg #[.bool by', .string sy]] W fun e w' => e = .returned (.agg #[.bool bz, .string sz]) ∧ Below W.heap.size W w' := by
  have h := add_any bx by' sx sy W hx.small hy.small
  rw [hx.val, hy.val, he] at h
  obtain ⟨rfl, rfl⟩ := hz
  exact h
theorem mul_val (hx : Val bx sx x) (hy : Val by' sy y) (he : x * y = z) (hz : Nam bz sz z) (W : World) :
    Calls Tryz.prog 118 #[.agg #[.bool bx, .string sx], .agg #[.bool by', .string sy]] W fun e w' => e = .returned (.agg #[.bool bz, .string sz]) ∧ Below W.heap.size W w' := by
  have h := mul_any bx by' sx sy W hx.small hy.small
  rw [hx.val, hy.val, he] at h
  obtain ⟨rfl, rfl⟩ := hz
  exact h
theorem neg_val (hx : Val bx sx x) (he : -x = z) (hz : Nam bz sz z) (W : World) :
    Calls Tryz.prog 51 #[.agg #[.bool bx, .string sx]] W fun e w' => e = .returned (.agg #[.bool bz, .string sz]) ∧ Below W.heap.size W w' := by
  have h := neg_any bx sx W
  rw [hx.val, he] at h
  obtain ⟨rfl, rfl⟩ := hz
  exact h
theorem cmp_val (hx : Val bx sx x) (hy : Val by' sy y) (n : Int) (he : cmpZ x y = n) (W : World) :
    Calls Tryz.prog 52 #[.agg #[.bool bx, .string sx], .agg #[.bool by', .string sy]] W fun e w' => e = .returned (.int .i64 n) ∧ Below W.heap.size W w' := by
  have h := comp_any bx by' sx sy W
  rw [hx.val, hy.val, he] at h
  exact h
end
theorem keepS_alloc {V u : World} {X : Obj} (h : ∀ (a o : Nat), a < V.heap.size → u.cell? ⟨a, o, none⟩ = V.cell? ⟨a, o, none⟩) (hs : V.heap.size ≤ u.heap.size) : ∀ (a o : Nat), a < V.heap.size → (u.alloc X).cell? ⟨a, o, none⟩ = V.cell? ⟨a, o, none⟩ := fun a o ha =>
  (World.cell?_alloc_lt _ _ _ (Nat.lt_of_lt_of_le ha hs)).trans (h a o ha)
theorem carry_two {W u : World} (d : Below W.heap.size W u) (b : Nat) (h : b < W.heap.size) :
    (u.cell? ⟨b, 0, none⟩ = W.cell? ⟨b, 0, none⟩ ∧ u.cell? ⟨b, 1, none⟩ = W.cell? ⟨b, 1, none⟩) ∧ (u.frozen? ⟨b, 0, none⟩ = W.frozen? ⟨b, 0, none⟩ ∧ u.frozen? ⟨b, 1, none⟩ = W.frozen? ⟨b, 1, none⟩) ∧ b < u.heap.size ∧ b ≠ u.heap.size ∧ u.heap.size ≠ b :=
  ⟨⟨d.cell (p := ⟨b, 0, none⟩) h, d.cell (p := ⟨b, 1, none⟩) h⟩, ⟨d.frozen (p := ⟨b, 0, none⟩) h, d.frozen (p := ⟨b, 1, none⟩) h⟩, Nat.lt_of_lt_of_le h d.size, Nat.ne_of_lt (Nat.lt_of_lt_of_le h d.size), fun e => Nat.ne_of_lt (Nat.lt_of_lt_of_le h d.size) e.symm⟩
theorem keepS_refl (V : World) : ∀ (a o : Nat), a < V.heap.size → V.cell? ⟨a, o, none⟩ = V.cell? ⟨a, o, none⟩ := fun _ _ _ => rfl
theorem keepS_drew {V u : World} (h : ∀ (a o : Nat), a < V.heap.size → u.cell? ⟨a, o, none⟩ = V.cell? ⟨a, o, none⟩) : ∀ (a o : Nat), a < V.heap.size → u.drew.cell? ⟨a, o, none⟩ = V.cell? ⟨a, o, none⟩ := h
theorem keepS_set {V u : World} {b k : Nat} {v : Value} (h : ∀ (a o : Nat), a < V.heap.size → u.cell? ⟨a, o, none⟩ = V.cell? ⟨a, o, none⟩) (hs : V.heap.size ≤ b) : ∀ (a o : Nat), a < V.heap.size → (u.setCell ⟨b, k, none⟩ v).cell? ⟨a, o, none⟩ = V.cell? ⟨a, o, none⟩ := fun a o ha =>
  (World.cell?_setCell_other _ _ _ _ (fun e => by have : b = a := congrArg Addr.block e; omega)).trans (h a o ha)
theorem tab_of {w w' : World} (h : Tab w) (hb : Below w.heap.size w w') : Tab w' := tab_below h hb
end Go.Proofs.YtpdhffjdgnpikaaGreatDoor
