/- The contracts of bigint.tryRead and bigint.Parse. -/
import Derived.Test.YtajollhpimfefaaGreatDoorRead
import Derived.Defers
import Derived.Recover
namespace Go.Proofs.YtajollhpimfefaaGreatDoor
open Go.RowKit Go.Shelf

set_option maxHeartbeats 1000000 in
set_option maxRecDepth 100000 in
theorem catch_panicking (b c : Nat) (x y v3 : Value) (u : TypeId) (pv : Value) (older : List PanicEntry) (w : World) (hb : Two b x y w) (hc : w.cell? ⟨c, 0, none⟩ = some v3 ∧ w.frozen? ⟨c, 0, none⟩ = false) (hne : b ≠ c) :
    CallsD Tryz.prog 96 #[.pointer (some ⟨b, 0, none⟩), .pointer (some ⟨c, 0, none⟩)] (.panicking ({ v := .iface u pv, recovered := false } :: older)) w fun e u' w' =>
      e = .returned (.tuple #[]) ∧ u' = .panicking ({ v := .iface u pv, recovered := true } :: older) ∧ w' = ((w.setCell ⟨b, 0, none⟩ (.bool false)).setCell ⟨b, 1, none⟩ (.string ⟨#[]⟩)).setCell ⟨c, 0, none⟩ (.int .i64 3) := by
  obtain ⟨⟨b1, b2⟩, b3, b4⟩ := hb
  obtain ⟨c1, c2⟩ := hc
  have hne' : ¬ c = b := fun e => hne e.symm
  refine callsD_of_wpS Tryz.func96 rfl fun c₀ cs hu => ?_
  apply wpS_seq
  apply wpS_region
  simp [wpOpsS, go_sem, recoverD, hu, Tryz.ntmps96, Exit.thenS]
  refine wpS_cond (t := true) (by simp [Act.eval, Array.replicate]) ?_
  simp only [if_true]
  apply wpS_region
  simp [wpOpsS, go_sem, b1, b2, b3, b4, c1, c2, bodyPostS, results, Tryz.results96]

theorem catch_idle (p q : Addr) (w : World) :
    CallsD Tryz.prog 96 #[.pointer (some p), .pointer (some q)] .returning w fun e u' w' => e = .returned (.tuple #[]) ∧ u' = .returning ∧ w' = w := by
  refine callsD_of_wpS Tryz.func96 rfl fun c₀ cs hu => ?_
  apply wpS_seq
  apply wpS_region
  simp [wpOpsS, go_sem, recoverD, hu, Tryz.ntmps96, Exit.thenS]
  refine wpS_cond (t := false) (by simp [Act.eval, Array.replicate]) ?_
  simp only [Bool.false_eq_true, if_false]
  refine wpS_of_wp (wp_skip ?_)
  cases c₀
  simp_all [bodyPostS, results, Tryz.results96]

/-- The world in which tryRead reads: two variables more. -/
def TryW (w : World) : World := (w.alloc (.cells #[.bool false, .string ⟨#[]⟩] 23)).alloc (.cells #[.int .i64 0] 29)
theorem tryW_facts (w : World) : Two w.heap.size (.bool false) (.string ⟨#[]⟩) (TryW w) ∧ Box (w.heap.size + 1) (.int .i64 0) (TryW w) ∧ Below w.heap.size w (TryW w) ∧ (TryW w).heap.size = w.heap.size + 1 + 1 := by
  refine ⟨(two_new w _ _ _).below (B0 := w.heap.size + 1) ((Below.refl _ _).alloc (by simp) _) (by omega), ?_, ((Below.refl _ _).alloc (Nat.le_refl _) _).alloc (by simp) _, by simp [TryW]⟩
  have h := box_new (w.alloc (.cells #[.bool false, .string ⟨#[]⟩] 23)) (.int .i64 0) 29
  rw [World.size_alloc] at h
  exact h

/-- What read answers, at whatever world. -/
def ReadOk (s : ByteArray) (z : Int) : Prop := ∀ W, Calls Tryz.prog 97 #[.string s] W (IntRes W z)
def ReadBad (s : ByteArray) : Prop := ∀ W, Calls Tryz.prog 97 #[.string s] W fun e w' => e = .panicked wrongByte ∧ Below W.heap.size W w'

set_option maxHeartbeats 1000000 in
set_option maxRecDepth 100000 in
theorem tryRead_good (s : ByteArray) (z : Int) (w : World) (hrd : ReadOk s z) :
    Calls Tryz.prog 72 #[.string s] w fun e w' => e = .returned (.tuple #[.agg #[.bool (ng z), .string (mg z)], .int .i64 0]) ∧ Below w.heap.size w w' := by
  have hmf : ∀ (fn : Fn) (first cap : Array Value) (w : World), (Instr.makeFunc fn first cap).run Tryz.prog w = .ok (.func fn first cap) w := fun _ _ _ _ => rfl
  have HF := Lib.hid (tryW_facts w)
  have HR := Lib.hid hrd
  clear hrd
  go_enter_defers Tryz.func72, Tryz.ntmps72
  have hne : ¬ (w.heap.size + 1 = w.heap.size) := by omega
  have hne2 : ¬ (w.heap.size = w.heap.size + 1) := by omega
  go_wp2_with (go_at_call 97; refine (HR.out (TryW w)).mono ?_; rintro e w1 ⟨rfl, hb⟩; have t1 := HF.out.1.below hb HF.out.1.lt; have q1 := HF.out.2.1.below hb HF.out.2.1.lt; have r0 := t1.1.1; have r1 := t1.1.2; have r2 := t1.2.1; have r3 := t1.2.2; have r4 := q1.1; have r5 := q1.2; have HB := Lib.hid hb; clear hb t1 q1)
  refine leaves_cons (f := 96) (args := #[.pointer (some ⟨w.heap.size, 0, none⟩), .pointer (some ⟨w.heap.size + 1, 0, none⟩)]) (by simp) (by simp [go_sem]) ?_
  refine (catch_idle ⟨w.heap.size, 0, none⟩ ⟨w.heap.size + 1, 0, none⟩ _).mono ?_
  rintro e u' w'' ⟨rfl, rfl, rfl⟩
  simp [Leaves, settle, results, Tryz.results72, go_sem, r0, r2, r4]
  have hb := HF.out.2.2.1.trans (HB.out.mono HF.out.2.2.1.size)
  exact ((hb.setCell (Nat.le_refl _) _).setCell (Nat.le_refl _) _).setCell (by show w.heap.size ≤ w.heap.size + 1; omega) _

set_option maxHeartbeats 1000000 in
set_option maxRecDepth 100000 in
theorem tryRead_bad (s : ByteArray) (w : World) (hrd : ReadBad s) :
    Calls Tryz.prog 72 #[.string s] w fun e w' => e = .returned (.tuple #[.agg #[.bool false, .string ⟨#[]⟩], .int .i64 3]) ∧ Below w.heap.size w w' := by
  have hmf : ∀ (fn : Fn) (first cap : Array Value) (w : World), (Instr.makeFunc fn first cap).run Tryz.prog w = .ok (.func fn first cap) w := fun _ _ _ _ => rfl
  have HF := Lib.hid (tryW_facts w)
  have HR := Lib.hid hrd
  clear hrd
  go_enter_defers Tryz.func72, Tryz.ntmps72
  have hne : ¬ (w.heap.size + 1 = w.heap.size) := by omega
  have hne2 : ¬ (w.heap.size = w.heap.size + 1) := by omega
  go_wp2_with (go_at_call 97; refine (HR.out (TryW w)).mono ?_; rintro e w1 ⟨rfl, hb⟩; have t1 := HF.out.1.below hb HF.out.1.lt; have q1 := HF.out.2.1.below hb HF.out.2.1.lt; have HB := Lib.hid (And.intro hb (And.intro t1 q1)); clear hb t1 q1)
  refine leaves_cons (f := 96) (args := #[.pointer (some ⟨w.heap.size, 0, none⟩), .pointer (some ⟨w.heap.size + 1, 0, none⟩)]) (by simp) (by simp [go_sem]) ?_
  refine (catch_panicking w.heap.size (w.heap.size + 1) _ _ _ _ _ [] _ HB.out.2.1 HB.out.2.2 (by omega)).mono ?_
  rintro e u' w'' ⟨rfl, rfl, rfl⟩
  have r0 := HB.out.2.1.1.1
  have r2 := HB.out.2.1.2.1
  have r4 := HB.out.2.2.1
  simp [Leaves, settle, results, Tryz.results72, go_sem, r0, r2, r4]
  have hb := HF.out.2.2.1.trans (HB.out.1.mono HF.out.2.2.1.size)
  exact ((hb.setCell (Nat.le_refl _) _).setCell (Nat.le_refl _) _).setCell (by show w.heap.size ≤ w.heap.size + 1; omega) _

set_option maxHeartbeats 1000000 in
set_option maxRecDepth 100000 in
theorem parse_of (s : ByteArray) (a : Bool) (b : ByteArray) (er : Nat) (w : World) (hs : s.size ≤ 65536) (htr : ∀ W, Calls Tryz.prog 72 #[.string s] W fun e w' => e = .returned (.tuple #[.agg #[.bool a, .string b], .int .i64 er]) ∧ Below W.heap.size W w') :
    Calls Tryz.prog 40 #[.string s] w fun e w' => e = .returned (.tuple #[.agg #[.bool a, .string b], .int .i64 er]) ∧ Below w.heap.size w w' := by
  have HT := Lib.hid htr
  clear htr
  have h1 : ¬ ((65536 : Int) < (s.size : Int)) := by omega
  go_enter Tryz.func40, Tryz.ntmps40
  go_wp2_with (go_at_call 72; refine (HT.out _).mono ?_; rintro e w1 ⟨rfl, hb⟩; have t1 := (two_new w (.bool false) (.string ⟨#[]⟩) 23).below hb (by simp); have r0 := t1.1.1; have r1 := t1.1.2; have r2 := t1.2.1; have r3 := t1.2.2; have HB := Lib.hid hb; clear hb t1)
  refine bodyPost_ret (v := .tuple #[.agg #[.bool a, .string b], .int .i64 er]) (by simp [results, Tryz.results40, go_sem, r0, r2]) rfl ⟨rfl, ?_⟩
  have hb := ((Below.refl w.heap.size w).alloc (Nat.le_refl _) (.cells #[.bool false, .string ⟨#[]⟩] 23)).trans (HB.out.mono (by simp))
  exact (hb.setCell (Nat.le_refl _) _).setCell (Nat.le_refl _) _

set_option maxHeartbeats 1000000 in
set_option maxRecDepth 100000 in
theorem parse_long (s : ByteArray) (w : World) (hs : 65536 < s.size) :
    Calls Tryz.prog 40 #[.string s] w fun e w' => e = .returned (.tuple #[.agg #[.bool false, .string ⟨#[]⟩], .int .i64 4]) ∧ Below w.heap.size w w' := by
  have h1 : ((65536 : Int) < (s.size : Int)) := by omega
  go_enter Tryz.func40, Tryz.ntmps40
  go_wp2_with fail
  refine bodyPost_ret (v := .tuple #[.agg #[.bool false, .string ⟨#[]⟩], .int .i64 4]) (by simp [results, Tryz.results40, go_sem]) rfl ⟨rfl, ?_⟩
  exact (Below.refl w.heap.size w).alloc (Nat.le_refl _) _
end Go.Proofs.YtajollhpimfefaaGreatDoor
