/- What the loop of bigint.divideWord keeps. -/
import Derived.Deep.RegionHeld3
import Derived.OrdersIn
import Derived.RangeFuncCalls
import Derived.RangeFuncNested
import Derived.Test.YtmbnkokcpmkpgaaGreatDoorCmpNat
import Derived.Test.YtmbnkokcpmkpgaaGreatDoorDiv64
import Derived.Stop.RegionWithIn
namespace Go.Proofs.YtmbnkokcpmkpgaaGreatDoor
open Go.RowKit

/-- Does the operation defer a call? -/
def defersOp (o : Oper) : Bool := match o.op with | .defer _ => true | _ => false

section
variable {P : Program} {ops : Array Oper} {Q : Exit → Act → World → Prop} {md : Region.Mode}

theorem sem_round {o : Oper} (h : defersOp o = false) (ro : Option Nat) (ρ : Operand → Value) : o.semAt ro ρ = execOp ρ o :=
  Oper.semAt_eq ro ρ o fun c hc => by simp [defersOp, hc] at h

theorem wpOp_round {i : Nat} {K : Act → World → Prop} {a : Act} {w : World} (l n : Nat) (hd : ops.all (fun o => !defersOp o) = true) (hQ : ¬ LetsOut Q)
    (h : wpOp P ops Q i K a w) : wpOpIn (Fence.wide.inRound l) n P ops Q i K a w := by
  unfold wpOp at h
  unfold wpOpIn
  cases ho : ops[i]? with
  | none => rw [ho] at h; exact h
  | some o =>
    rw [ho] at h
    dsimp only at h ⊢
    have hdo : defersOp o = false := by
      obtain ⟨hi, rfl⟩ := Array.getElem?_eq_some_iff.1 ho
      have := (Array.all_eq_true.1 hd) i hi
      simpa using this
    by_cases hw : Region.wanted o (yielded ops a.tmps) = true
    · rw [if_pos hw] at h ⊢
      rcases h with h | h
      · refine ⟨fun _ _ => trivial, ?_⟩
        rw [sem_round hdo]
        unfold Oper.wp at h
        generalize (execOp a.eval o).run P w = r at h ⊢
        cases r with
        | ok x w' =>
          cases x with
          | enter f args => exact ⟨fun h0 => by simp [Fence.wide] at h0, (CallsIn.inRound l (callsIn_wide.2 h)).mono (fun e w'' he => by cases e <;> exact he)⟩
          | row row args => exact ⟨fun h0 => by simp [Fence.wide] at h0, fun c cs _ => let ⟨v, w2, r, s⟩ := h c cs; ⟨v, w2, r, stepsIn_wide.2 s⟩⟩
          | value v => exact h
          | skip => exact h
          | defer d => exact h
          | _ => exact h.elim
        | halt x w' => cases x <;> exact h
      · exact absurd h.2 hQ
    · rw [if_neg hw] at h ⊢
      exact ⟨fun _ _ => trivial, h⟩

theorem wpAny_round (l n : Nat) (hd : ops.all (fun o => !defersOp o) = true) (hQ : ¬ LetsOut Q) : ∀ (fuel : Nat) (listed : Array Bool) (a : Act) (w : World),
    wpAny P md ops Q fuel listed a w → wpAnyIn (Fence.wide.inRound l) n P md ops Q fuel listed a w
  | 0, _, _, _, h => h
  | fuel + 1, _, _, _, h => ⟨h.1, fun i hi => wpOpIn_mono (fun a' w' h' => wpAny_round l n hd hQ fuel _ a' w' h') (wpOp_round l n hd hQ (h.2 i hi))⟩

/-- The beginning: S holds behind the draw, and behind every operation that is carried out. -/
theorem region_round {id : Nat} {a : Act} {w : World} (l n : Nat) (S : World → Prop) (hm : P.follows .mixedOrders = true) (hd : ops.all (fun o => !defersOp o) = true) (hQ : ¬ LetsOut Q) (hS : S w.drew)
    (h : S w.drew → wpAnyH P .any ops Q S ops.size (Array.replicate ops.size false) a w.drew) : (Code.region id ops true).wpIn (Fence.wide.inRound l) n P Q a w :=
  wpIn_region_any hm (wpAny_round l n hd hQ _ _ _ _ (wpAny_of_held _ _ _ _ (h hS)))
end
end Go.Proofs.YtmbnkokcpmkpgaaGreatDoor

namespace Go.Proofs.YtmbnkokcpmkpgaaGreatDoor
open Go.RowKit Go.Shelf
attribute [local go_sem] Oper.semAt_some

theorem div64_any (hi lo y : Nat) (w : World) (hlo : lo < 18446744073709551616) (hy : hi < y) (hyw : y < 18446744073709551616) :
    Calls Tryz.prog 116 #[.int .u64 hi, .int .u64 lo, .int .u64 y] w fun e w' => e = .returned (.tuple #[.int .u64 (((hi * 18446744073709551616 + lo) / y : Nat) : Int), .int .u64 (((hi * 18446744073709551616 + lo) % y : Nat) : Int)]) ∧ Below w.heap.size w w' := by
  by_cases h0 : hi = 0
  · subst h0
    have h := div64_zero lo y w hlo (by omega)
    rw [Nat.zero_mul, Nat.zero_add]
    exact h
  · exact div64_more hi lo y w hlo h0 hy hyw

theorem touch_kept {w W W' : World} {g n B : Nat} {row : Option Nat} (h : Touch w W g 0 n) (hgB : g < B) (hw : w.heap.size ≤ B) (hB : B ≤ W.heap.size) (hg : W.grownBy W' row) (hr : ∀ r, row = some r → B ≤ r) : Touch w W' g 0 n := by
  have hb := hg.block g (by omega) (fun e => by have := hr g e.symm; omega)
  refine ⟨⟨hg.os.trans h.grown.os, hg.tape.trans h.grown.tape, hg.output.trans h.grown.output, Nat.le_trans h.grown.size hg.size, fun k hk hk2 => (hg.block k (by omega) (fun e => by have := hr k e.symm; omega)).trans (h.grown.block k hk hk2)⟩, fun o ho => ?_, fun o => ?_⟩
  · exact (World.cell?_of_block (w := W) (a := ⟨g, o, none⟩) hb).trans (h.cell o ho)
  · exact (World.frozen?_of_block (w := W) (a := ⟨g, o, none⟩) hb).trans (h.frozen o)
theorem touch_set {w W : World} {g n b o : Nat} {v : Value} (h : Touch w W g 0 n) (hb : w.heap.size ≤ b) (hgb : g < w.heap.size) : Touch w (W.setCell ⟨b, o, none⟩ v) g 0 n := by
  have k : Below b W (W.setCell ⟨b, o, none⟩ v) := (Below.refl _ _).setCell (p := ⟨b, o, none⟩) (Nat.le_refl _) _
  refine ⟨⟨k.os.trans h.grown.os, k.tape.trans h.grown.tape, k.output.trans h.grown.output, Nat.le_trans h.grown.size k.size, fun j hj hj2 => (k.block j (by omega)).trans (h.grown.block j hj hj2)⟩, fun o' ho => ?_, fun o' => ?_⟩
  · exact (k.cell (p := ⟨g, o', none⟩) (show g < b by omega)).trans (h.cell o' ho)
  · exact (k.frozen (p := ⟨g, o', none⟩) (show g < b by omega)).trans (h.frozen o')

/-- One digit of a division by a word. -/
theorem word_step (d r c : Nat) (hr : r < d) (hc : c < 18446744073709551616) (V q : Nat) (hv : V = d * q + r) :
    c + 18446744073709551616 * V = d * ((r * 18446744073709551616 + c) / d + 18446744073709551616 * q) + (r * 18446744073709551616 + c) % d ∧ (r * 18446744073709551616 + c) / d < 18446744073709551616 := by
  have h := Nat.div_add_mod (r * 18446744073709551616 + c) d
  refine ⟨?_, ?_⟩
  · rw [hv, Nat.mul_add, Nat.mul_add, Nat.mul_left_comm d 18446744073709551616 q]
    omega
  · rw [Nat.div_lt_iff_lt_mul (by omega)]
    omega
theorem take_mid (xs qs : List Nat) (j v : Nat) (hj : j < xs.length) : (xs.take (j + 1) ++ qs).set j v = xs.take j ++ (v :: qs) := by
  have hl : (xs.take j).length = j := by rw [List.length_take]; omega
  rw [List.take_succ_eq_append_getElem hj, List.append_assoc, List.set_append_right _ _ (by omega), hl, Nat.sub_self]
  rfl
theorem mid_at (xs qs : List Nat) (j : Nat) (hj : j < xs.length) : (xs.take (j + 1) ++ qs).getD j 0 = wat xs j := by
  rw [List.getD_eq_getElem?_getD, List.getElem?_append_left (by rw [List.length_take]; omega), List.getElem?_take_of_lt (by omega), ← List.getD_eq_getElem?_getD]; rfl
theorem wv_drop (xs : List Nat) (j : Nat) (hj : j < xs.length) : wv (xs.drop j) = wat xs j + 18446744073709551616 * wv (xs.drop (j + 1)) := by
  rw [List.drop_eq_getElem_cons hj, wv]
  unfold wat
  rw [List.getD_eq_getElem?_getD, List.getElem?_eq_getElem hj]; rfl

/-- What the loop of divideWord keeps. -/
structure WordInv (w W0 W : World) (g d j : Nat) (xs qs : List Nat) (r : Nat) : Prop where
  row : Row W g 0 (xs.take j ++ qs)
  len : j + qs.length = xs.length
  ok : Ok qs
  lt : r < d
  val : wv (xs.drop j) = d * wv qs + r
  touch : Touch w W g 0 xs.length
  size : W0.heap.size ≤ W.heap.size

theorem word_round {w W0 W w2 : World} {g d j B2 : Nat} {xs qs : List Nat} {r q m : Nat} (h : WordInv w W0 W g d (j + 1) xs qs r) (hb : Below W.drew.heap.size W.drew w2) (hg : g < w.heap.size) (hB : w.heap.size ≤ B2) (hj : j < xs.length) (hm : m < d)
    (hst : wat xs j + 18446744073709551616 * wv (xs.drop (j + 1)) = d * (q + 18446744073709551616 * wv qs) + m ∧ q < 18446744073709551616) :
    WordInv w W0 ((w2.setCell ⟨g, j, none⟩ (.int .u64 (q : Nat))).setCell ⟨B2, 0, none⟩ (.int .u64 (m : Nat))) g d j xs (q :: qs) m := by
  have hb' : Below W.heap.size W w2 := ((Below.refl W.heap.size W).drew).trans hb
  have hgW : g < W.heap.size := by have := h.touch.grown.size; omega
  have hrow := (h.row.below hb' hgW).set j q (by have := h.len; rw [List.length_append, List.length_take]; omega)
  rw [take_mid xs qs j q hj, Nat.zero_add] at hrow
  refine ⟨hrow.other (by omega), by have := h.len; rw [List.length_cons]; omega, Ok.cons hst.2 h.ok, hm, ?_, touch_set ((h.touch.below hb' hg).set (Nat.zero_le _) (by omega) _) hB hg, ?_⟩
  · rw [wv_drop xs j hj, hst.1]; rfl
  · have h1 := h.size
    have h2 := hb'.size
    simp [World.setCell]; omega
theorem keepsFrom_below {B : Nat} {X Y : World} (h : Below X.heap.size X Y) : KeepsFrom B X Y := ⟨h.size, fun k _ _ hi _ => (h.block k (Array.getElem?_eq_some_iff.1 hi).1).trans hi⟩

end Go.Proofs.YtmbnkokcpmkpgaaGreatDoor
