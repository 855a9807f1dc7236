/- A region that draws its order, by an invariant of what has come up: a goal an operation, not a goal an order. -/
import Derived.Deep.RegionHeld
namespace Go.Proofs.YtpdhffjdgnpikaaGreatDoor
open Go

section
variable {P : Program} {ops : Array Oper} {Q : Exit → Act → World → Prop} {md : Region.Mode}

/-- Each of these operations keeps the invariant, whatever has come up before it. -/
def InvSteps (P : Program) (md : Region.Mode) (ops : Array Oper) (Q : Exit → Act → World → Prop) (I : Array Bool → Act → World → Prop) (l : List Nat) : Prop :=
  ∀ i ∈ l, ∀ listed a w, listed.size = ops.size → listed.getD i true = false →
    (∀ o, ops[i]? = some o → ∀ e ∈ o.after, Region.binds md e = true → listed.getD e.on false = true) → I listed a w →
    wpOp P ops Q i (fun a' w' => I (listed.setIfInBounds i true) a' w') a w
theorem InvSteps.nil {I : Array Bool → Act → World → Prop} : InvSteps P md ops Q I [] := fun _ h => by cases h
theorem InvSteps.cons {I : Array Bool → Act → World → Prop} {i : Nat} {o : Oper} {rs : List Nat} (ho : ops[i]? = some o)
    (h : ∀ (listed : Array Bool) (a : Act) (w : World) (K' : Act → World → Prop), i < listed.size → listed.getD i false = false →
      (∀ e ∈ o.after, Region.binds md e = true → listed.getD e.on false = true) → I listed a w →
      Shut (∀ a w, I (listed.setIfInBounds i true) a w → K' a w) → if Region.wanted o (yielded ops a.tmps) = true then Oper.wp P o a w K' Q else K' (a.put o.dst undef) w)
    (hs : InvSteps P md ops Q I rs) : InvSteps P md ops Q I (i :: rs) := fun j hj => by
  rcases List.mem_cons.1 hj with rfl | hj
  · intro listed a w hsz hu hd hI
    have hlt : j < listed.size := by rw [hsz]; exact (Array.getElem?_eq_some_iff.1 ho).1
    have hf : listed.getD j false = false := by
      have e2 : listed[j]? = some listed[j] := Array.getElem?_eq_getElem hlt
      simp only [Array.getD_eq_getD_getElem?, e2, Option.getD_some] at hu ⊢
      exact hu
    exact wpOp_step ho (fun K' hK => h listed a w K' hlt hf (hd o ho) hI (fun a w h => hK a w h))
  · exact hs j hj

/-- No operation waits for one that stands behind it. -/
def inOrder (md : Region.Mode) (ops : Array Oper) : Bool :=
  (List.range ops.size).all fun i => match ops[i]? with
    | none => true
    | some o => o.after.all fun e => !Region.binds md e || decide (e.on < i)
theorem inOrder_spec (h : inOrder md ops = true) {i : Nat} {o : Oper} (ho : ops[i]? = some o) : ∀ e ∈ o.after, Region.binds md e = true → e.on < i := by
  intro e he hb
  have hlt : i < ops.size := (Array.getElem?_eq_some_iff.1 ho).1
  have h1 := List.all_eq_true.1 h i (List.mem_range.2 hlt)
  rw [ho] at h1
  have h2 := Array.all_eq_true_iff_forall_mem.1 h1 e he
  rw [hb] at h2
  simpa using h2
theorem ready_nil (hord : inOrder md ops = true) {listed : Array Bool} (h0 : Region.ready md ops listed = []) (hsz : listed.size = ops.size) :
    ∀ i, i < ops.size → listed.getD i false = true := by
  intro i
  induction i using Nat.strongRecOn with
  | _ i ih =>
    intro hi
    refine Classical.byContradiction fun hn => ?_
    have ho : ops[i]? = some ops[i] := Array.getElem?_eq_getElem hi
    have hf : listed.getD i true = false := by
      have e : listed[i]? = some listed[i] := Array.getElem?_eq_getElem (by omega)
      simp only [Array.getD_eq_getD_getElem?, e, Option.getD_some] at hn ⊢
      simpa using hn
    have hm : i ∈ Region.ready md ops listed := mem_ready.2 ⟨hf, _, ho, fun e he hb => by
      have hl := inOrder_spec hord ho e he hb
      exact ih e.on hl (by omega)⟩
    rw [h0] at hm
    cases hm
theorem getD_set (listed : Array Bool) (i k : Nat) (hi : i < listed.size) : (listed.setIfInBounds i true).getD k false = (decide (i = k) || listed.getD k false) := by
  by_cases h : i = k
  · subst h
    simp [hi]
  · rw [getD_set_ne false h]
    simp [h]
theorem getD_ne {listed : Array Bool} {i k : Nat} (h : (listed.setIfInBounds i true).getD k false = true) (hne : i ≠ k) : listed.getD k false = true := by
  rw [getD_set_ne false hne] at h; exact h
theorem getD_self {listed : Array Bool} {i : Nat} (hi : i < listed.size) : (listed.setIfInBounds i true).getD i false = true := by rw [getD_set _ _ _ hi]; simp
theorem getD_rep {n k : Nat} {p : Prop} (h : (Array.replicate n false).getD k false = true) : p := by
  exfalso
  simp only [Array.getD_eq_getD_getElem?, Array.getElem?_replicate] at h
  split at h <;> simp at h
def left (listed : Array Bool) : Nat := listed.toList.countP (fun b => !b)
theorem left_set {listed : Array Bool} {i : Nat} (h : listed.getD i true = false) : left (listed.setIfInBounds i true) + 1 = left listed := by
  have hi : i < listed.size := by
    rcases Nat.lt_or_ge i listed.size with h' | h'
    · exact h'
    · simp [Array.getElem?_eq_none h'] at h
  have e : listed.toList[i]'(by simpa using hi) = false := by
    have e2 : listed[i]? = some listed[i] := Array.getElem?_eq_getElem hi
    simp only [Array.getD_eq_getD_getElem?, e2, Option.getD_some] at h
    simpa using h
  unfold left
  rw [Array.toList_setIfInBounds, List.countP_set (by simpa using hi)]
  have hp : 0 < listed.toList.countP (fun b => !b) := List.countP_pos_iff.2 ⟨_, List.getElem_mem (by simpa using hi), by rw [e]; rfl⟩
  rw [e]
  simp only [Bool.not_false, Bool.not_true, if_true, Bool.false_eq_true, if_false, Nat.add_zero]
  omega
theorem wpAny_inv {I : Array Bool → Act → World → Prop} (hord : inOrder md ops = true) (hs : InvSteps P md ops Q I (List.range ops.size))
    (hd : ∀ listed a w, (∀ i, i < ops.size → listed.getD i false = true) → I listed a w → Q .normal a w) :
    ∀ (fuel : Nat) (listed : Array Bool) (a : Act) (w : World), listed.size = ops.size → left listed ≤ fuel → I listed a w → wpAny P md ops Q fuel listed a w
  | 0, listed, a, w, hsz, hl, hI => by
    have h0 : Region.ready md ops listed = [] := by
      refine List.eq_nil_iff_forall_not_mem.2 fun i hi => ?_
      have := left_set (mem_ready.1 hi).1
      omega
    exact ⟨h0, hd listed a w (ready_nil hord h0 hsz) hI⟩
  | fuel + 1, listed, a, w, hsz, hl, hI => by
    refine ⟨fun h0 => hd listed a w (ready_nil hord h0 hsz) hI, fun i hi => ?_⟩
    obtain ⟨h1, o, ho, hall⟩ := mem_ready.1 hi
    have hlt : i < ops.size := (Array.getElem?_eq_some_iff.1 ho).1
    refine wpOp_mono (fun a' w' h => ?_) (hs i (List.mem_range.2 hlt) listed a w hsz h1 (fun o' ho' => by rw [ho] at ho'; cases ho'; exact hall) hI)
    exact wpAny_inv hord hs hd fuel _ a' w' (by simp [hsz]) (by have := left_set h1; omega) h
/-- **THE BEGINNING**: the invariant holds where nothing has come up; each operation keeps it; where all have come up it gives what is wanted. -/
theorem wp_region_inv {id : Nat} {a : Act} {w : World} (I : Array Bool → Act → World → Prop) (hm : P.follows .mixedOrders = true) (hord : inOrder .any ops = true)
    (h0 : I (Array.replicate ops.size false) a w.drew) (hs : InvSteps P .any ops Q I (List.range ops.size))
    (hd : ∀ listed a w, (∀ i, i < ops.size → listed.getD i false = true) → I listed a w → Q .normal a w) : (Code.region id ops true).wp P Q a w :=
  wp_region_any hm (wpAny_inv hord hs hd _ _ _ _ (by simp) (by unfold left; rw [show (Array.replicate ops.size false).toList = List.replicate ops.size false by simp, List.countP_replicate]; simp) h0)
/-- A frame in which some slots hold other values. -/
def puts (a : Act) (l : List (Nat × Value)) : Act := l.foldl (fun a p => a.put (some p.1) p.2) a
theorem puts_nil (a : Act) : puts a [] = a := rfl
theorem puts_cons (a : Act) (k : Nat) (v : Value) (l : List (Nat × Value)) : puts a ((k, v) :: l) = puts (a.put (some k) v) l := rfl
/-- **THE BEGINNING**, the invariant speaking of the frame in which the region begins. -/
theorem wp_region_invA {id : Nat} {a : Act} {w : World} (I : Act → Array Bool → Act → World → Prop) (hm : P.follows .mixedOrders = true) (hord : inOrder .any ops = true)
    (h0 : I a (Array.replicate ops.size false) a w.drew) (hs : InvSteps P .any ops Q (I a) (List.range ops.size))
    (hd : ∀ listed a' w, (∀ i, i < ops.size → listed.getD i false = true) → I a listed a' w → Q .normal a' w) : (Code.region id ops true).wp P Q a w :=
  wp_region_inv (I a) hm hord h0 hs hd
end
end Go.Proofs.YtpdhffjdgnpikaaGreatDoor
