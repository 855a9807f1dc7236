/- The contract of rational.canonical. -/
import Derived.Test.YtpdhffjdgnpikaaGreatDoorRatFnum
import Derived.Outline
import Derived.Handy
namespace Go.Proofs.YtpdhffjdgnpikaaGreatDoor
open Go.RowKit Go.Shelf

set_option maxHeartbeats 2000000 in
set_option maxRecDepth 100000 in
theorem can1_any (B : Nat) (n d : Int) (b' : Bool) (s' t' : ByteArray) (w : World) (hk : Cells B [.int .i64 n, .int .i64 d] w)
    (c : ∀ W : World, Calls Tryz.prog 64 #[.agg #[.int .i64 n, .int .i64 d]] W fun e w' => e = .returned (.agg #[.bool b', .string s', .string t']) ∧ Below W.heap.size W w') :
    Calls Tryz.prog 107 #[.pointer (some ⟨B, 0, none⟩)] w fun e w' => e = .returned (.agg #[.bool b', .string s', .string t']) ∧ Below w.heap.size w w' := by
  have R1 := Lib.hid c
  have lb := hk.lt
  have mb0 := (hk 0 _ rfl).1
  have mb1 := (hk 1 _ rfl).1
  clear hk c
  go_enter Tryz.func107, Tryz.ntmps107
  go_wp2_with fail
  clear mb0 mb1 lb
  obtain ⟨W0, hW0⟩ : ∃ V, (w.alloc (Obj.cells #[Value.bool false, Value.string ⟨#[]⟩, Value.string ⟨#[]⟩] 25)) = V := ⟨_, rfl⟩
  have sW0 : W0.heap.size = w.heap.size + 1 := by rw [← hW0]; simp
  have k0 : Cells (w.heap.size) [.bool false, .string ⟨#[]⟩, .string ⟨#[]⟩] W0 := by
    rw [← hW0]
    have h := cells_new w #[.bool false, .string ⟨#[]⟩, .string ⟨#[]⟩] 25
    exact h
  have bW0 : Below w.heap.size w W0 := by
    rw [← hW0]
    exact ((Below.refl _ _).alloc (Nat.le_refl _) _)
  rw [hW0]
  clear hW0
  have HS0 := Lib.hid (And.intro bW0 k0)
  clear bW0 k0
  refine (R1.out _).mono ?_
  rintro e w1 ⟨rfl, c⟩
  have f := HS0.out.1.trans (c.mono HS0.out.1.size)
  have t0 := (HS0.out.2).below c (HS0.out.2).lt
  have HS1 := Lib.hid (And.intro f t0)
  clear c f t0
  have l0 := (HS1.out.2).lt
  have m00 := (HS1.out.2 0 _ rfl).1
  have z00 := (HS1.out.2 0 _ rfl).2
  have m01 := (HS1.out.2 1 _ rfl).1
  have z01 := (HS1.out.2 1 _ rfl).2
  have m02 := (HS1.out.2 2 _ rfl).1
  have z02 := (HS1.out.2 2 _ rfl).2
  go_wp2_with fail
  clear l0 m00 z00 m01 z01 m02 z02
  obtain ⟨w2, hw2⟩ : ∃ V, (((w1.setCell ⟨w.heap.size, 0, none⟩ (Value.bool b')).setCell ⟨w.heap.size, 1, none⟩ (Value.string s')).setCell ⟨w.heap.size, 2, none⟩ (Value.string t')) = V := ⟨_, rfl⟩
  have f : Below w.heap.size w w2 := by rw [← hw2]; exact (below_sets (below_sets (below_sets HS1.out.1 (by first | assumption | exact Nat.le_refl _ | omega) 0 (Value.bool b')) (by first | assumption | exact Nat.le_refl _ | omega) 1 (Value.string s')) (by first | assumption | exact Nat.le_refl _ | omega) 2 (Value.string t'))
  have t0 : Cells (w.heap.size) [.bool b', .string s', .string t'] w2 := by rw [← hw2]; exact ((((((HS1.out.2).set (k := 0) (Value.bool b') _ rfl)).set (k := 1) (Value.string s') _ rfl)).set (k := 2) (Value.string t') _ rfl)
  have HS2 := Lib.hid (And.intro f t0)
  rw [hw2]
  clear hw2 f t0
  have y0 := (HS2.out.2 0 _ rfl).1
  have y1 := (HS2.out.2 1 _ rfl).1
  have y2 := (HS2.out.2 2 _ rfl).1
  refine bodyPost_ret (v := .agg #[.bool b', .string s', .string t']) (by simp [results, Tryz.results107, go_sem, y0, y1, y2]) rfl ⟨rfl, HS2.out.1⟩

set_option maxHeartbeats 2000000 in
set_option maxRecDepth 100000 in
theorem can2_any (B : Nat) (b : Bool) (s t q : ByteArray) (b' : Bool) (s' t' : ByteArray) (w : World) (hk : Cells B [.bool b, .string s, .string t] w)
    (c : ∀ W : World, Calls Tryz.prog 61 #[.agg #[.bool b, .string s, .string t]] W fun e w' => e = .returned (.agg #[.bool b, .string s, .bool false, .string q]) ∧ Below W.heap.size W w')
    (c2 : ∀ W : World, Calls Tryz.prog 73 #[.agg #[.bool b, .string s, .bool false, .string q]] W fun e w' => e = .returned (.agg #[.bool b', .string s', .string t']) ∧ Below W.heap.size W w') :
    Calls Tryz.prog 108 #[.pointer (some ⟨B, 0, none⟩)] w fun e w' => e = .returned (.agg #[.bool b', .string s', .string t']) ∧ Below w.heap.size w w' := by
  have R1 := Lib.hid c
  have R2 := Lib.hid c2
  have lb := hk.lt
  have mb0 := (hk 0 _ rfl).1
  have mb1 := (hk 1 _ rfl).1
  have mb2 := (hk 2 _ rfl).1
  clear hk c c2
  go_enter Tryz.func108, Tryz.ntmps108
  go_wp2_with fail
  clear mb0 mb1 mb2 lb
  obtain ⟨W0, hW0⟩ : ∃ V, (w.alloc (Obj.cells #[Value.bool false, Value.string ⟨#[]⟩, Value.string ⟨#[]⟩] 25)) = V := ⟨_, rfl⟩
  have sW0 : W0.heap.size = w.heap.size + 1 := by rw [← hW0]; simp
  have k0 : Cells (w.heap.size) [.bool false, .string ⟨#[]⟩, .string ⟨#[]⟩] W0 := by
    rw [← hW0]
    have h := cells_new w #[.bool false, .string ⟨#[]⟩, .string ⟨#[]⟩] 25
    exact h
  have bW0 : Below w.heap.size w W0 := by
    rw [← hW0]
    exact ((Below.refl _ _).alloc (Nat.le_refl _) _)
  rw [hW0]
  clear hW0
  have HS0 := Lib.hid (And.intro bW0 k0)
  clear bW0 k0
  refine (R1.out _).mono ?_
  rintro e w1 ⟨rfl, c⟩
  have f := HS0.out.1.trans (c.mono HS0.out.1.size)
  have t0 := (HS0.out.2).below c (HS0.out.2).lt
  have HS1 := Lib.hid (And.intro f t0)
  clear c f t0
  go_wp2_with fail
  refine (R2.out _).mono ?_
  rintro e w2 ⟨rfl, c⟩
  have f := HS1.out.1.trans (c.mono HS1.out.1.size)
  have t0 := (HS1.out.2).below c (HS1.out.2).lt
  have HS2 := Lib.hid (And.intro f t0)
  clear c f t0
  have l0 := (HS2.out.2).lt
  have m00 := (HS2.out.2 0 _ rfl).1
  have z00 := (HS2.out.2 0 _ rfl).2
  have m01 := (HS2.out.2 1 _ rfl).1
  have z01 := (HS2.out.2 1 _ rfl).2
  have m02 := (HS2.out.2 2 _ rfl).1
  have z02 := (HS2.out.2 2 _ rfl).2
  go_wp2_with fail
  clear l0 m00 z00 m01 z01 m02 z02
  obtain ⟨w3, hw3⟩ : ∃ V, (((w2.setCell ⟨w.heap.size, 0, none⟩ (Value.bool b')).setCell ⟨w.heap.size, 1, none⟩ (Value.string s')).setCell ⟨w.heap.size, 2, none⟩ (Value.string t')) = V := ⟨_, rfl⟩
  have f : Below w.heap.size w w3 := by rw [← hw3]; exact (below_sets (below_sets (below_sets HS2.out.1 (by first | assumption | exact Nat.le_refl _ | omega) 0 (Value.bool b')) (by first | assumption | exact Nat.le_refl _ | omega) 1 (Value.string s')) (by first | assumption | exact Nat.le_refl _ | omega) 2 (Value.string t'))
  have t0 : Cells (w.heap.size) [.bool b', .string s', .string t'] w3 := by rw [← hw3]; exact ((((((HS2.out.2).set (k := 0) (Value.bool b') _ rfl)).set (k := 1) (Value.string s') _ rfl)).set (k := 2) (Value.string t') _ rfl)
  have HS3 := Lib.hid (And.intro f t0)
  rw [hw3]
  clear hw3 f t0
  have y0 := (HS3.out.2 0 _ rfl).1
  have y1 := (HS3.out.2 1 _ rfl).1
  have y2 := (HS3.out.2 2 _ rfl).1
  refine bodyPost_ret (v := .agg #[.bool b', .string s', .string t']) (by simp [results, Tryz.results108, go_sem, y0, y1, y2]) rfl ⟨rfl, HS3.out.1⟩

set_option maxHeartbeats 2000000 in
set_option maxRecDepth 100000 in
theorem either_can (B C : Nat) (w : World) (o : Bool) (b' : Bool) (s' t' : ByteArray)
    (c1 : o = true → ∀ W : World, Below w.heap.size w W → Calls Tryz.prog 107 #[.pointer (some ⟨B, 0, none⟩)] W fun e w' => e = .returned (.agg #[.bool b', .string s', .string t']) ∧ Below W.heap.size W w')
    (c2 : o = false → ∀ W : World, Below w.heap.size w W → Calls Tryz.prog 108 #[.pointer (some ⟨C, 0, none⟩)] W fun e w' => e = .returned (.agg #[.bool b', .string s', .string t']) ∧ Below W.heap.size W w') :
    Calls Tryz.prog 68 #[.bool o, .func (Fn.func 107) #[] #[.pointer (some ⟨B, 0, none⟩)], .func (Fn.func 108) #[] #[.pointer (some ⟨C, 0, none⟩)]] w fun e w' => e = .returned (.agg #[.bool b', .string s', .string t']) ∧ Below w.heap.size w w' := by
  cases o
  · have RR := Lib.hid (c2 rfl)
    clear c1 c2
    go_enter Tryz.func68, Tryz.ntmps68
    go_wp2_with fail
    obtain ⟨W0, hW0⟩ : ∃ V, (w.alloc (Obj.cells #[Value.bool false, Value.string ⟨#[]⟩, Value.string ⟨#[]⟩] 25)) = V := ⟨_, rfl⟩
    have sW0 : W0.heap.size = w.heap.size + 1 := by rw [← hW0]; simp
    have k0 : Cells (w.heap.size) [.bool false, .string ⟨#[]⟩, .string ⟨#[]⟩] W0 := by
      rw [← hW0]
      have h := cells_new w #[.bool false, .string ⟨#[]⟩, .string ⟨#[]⟩] 25
      exact h
    have bW0 : Below w.heap.size w W0 := by
      rw [← hW0]
      exact ((Below.refl _ _).alloc (Nat.le_refl _) _)
    rw [hW0]
    clear hW0
    have HS0 := Lib.hid (And.intro bW0 k0)
    clear bW0 k0
    refine (RR.out _ HS0.out.1).mono ?_
    rintro e w1 ⟨rfl, c⟩
    have f := HS0.out.1.trans (c.mono HS0.out.1.size)
    have t0 := (HS0.out.2).below c (HS0.out.2).lt
    have HS1 := Lib.hid (And.intro f t0)
    clear c f t0
    have l0 := (HS1.out.2).lt
    have m00 := (HS1.out.2 0 _ rfl).1
    have z00 := (HS1.out.2 0 _ rfl).2
    have m01 := (HS1.out.2 1 _ rfl).1
    have z01 := (HS1.out.2 1 _ rfl).2
    have m02 := (HS1.out.2 2 _ rfl).1
    have z02 := (HS1.out.2 2 _ rfl).2
    go_wp2_with fail
    clear l0 m00 z00 m01 z01 m02 z02
    obtain ⟨w2, hw2⟩ : ∃ V, (((w1.setCell ⟨w.heap.size, 0, none⟩ (Value.bool b')).setCell ⟨w.heap.size, 1, none⟩ (Value.string s')).setCell ⟨w.heap.size, 2, none⟩ (Value.string t')) = V := ⟨_, rfl⟩
    have f : Below w.heap.size w w2 := by rw [← hw2]; exact (below_sets (below_sets (below_sets HS1.out.1 (by first | assumption | exact Nat.le_refl _ | omega) 0 (Value.bool b')) (by first | assumption | exact Nat.le_refl _ | omega) 1 (Value.string s')) (by first | assumption | exact Nat.le_refl _ | omega) 2 (Value.string t'))
    have t0 : Cells (w.heap.size) [.bool b', .string s', .string t'] w2 := by rw [← hw2]; exact ((((((HS1.out.2).set (k := 0) (Value.bool b') _ rfl)).set (k := 1) (Value.string s') _ rfl)).set (k := 2) (Value.string t') _ rfl)
    have HS2 := Lib.hid (And.intro f t0)
    rw [hw2]
    clear hw2 f t0
    have y0 := (HS2.out.2 0 _ rfl).1
    have y1 := (HS2.out.2 1 _ rfl).1
    have y2 := (HS2.out.2 2 _ rfl).1
    refine bodyPost_ret (v := .agg #[.bool b', .string s', .string t']) (by simp [results, Tryz.results68, go_sem, y0, y1, y2]) rfl ⟨rfl, HS2.out.1⟩
  · have RR := Lib.hid (c1 rfl)
    clear c1 c2
    go_enter Tryz.func68, Tryz.ntmps68
    go_wp2_with fail
    obtain ⟨W0, hW0⟩ : ∃ V, (w.alloc (Obj.cells #[Value.bool false, Value.string ⟨#[]⟩, Value.string ⟨#[]⟩] 25)) = V := ⟨_, rfl⟩
    have sW0 : W0.heap.size = w.heap.size + 1 := by rw [← hW0]; simp
    have k0 : Cells (w.heap.size) [.bool false, .string ⟨#[]⟩, .string ⟨#[]⟩] W0 := by
      rw [← hW0]
      have h := cells_new w #[.bool false, .string ⟨#[]⟩, .string ⟨#[]⟩] 25
      exact h
    have bW0 : Below w.heap.size w W0 := by
      rw [← hW0]
      exact ((Below.refl _ _).alloc (Nat.le_refl _) _)
    rw [hW0]
    clear hW0
    have HS0 := Lib.hid (And.intro bW0 k0)
    clear bW0 k0
    refine (RR.out _ HS0.out.1).mono ?_
    rintro e w1 ⟨rfl, c⟩
    have f := HS0.out.1.trans (c.mono HS0.out.1.size)
    have t0 := (HS0.out.2).below c (HS0.out.2).lt
    have HS1 := Lib.hid (And.intro f t0)
    clear c f t0
    have l0 := (HS1.out.2).lt
    have m00 := (HS1.out.2 0 _ rfl).1
    have z00 := (HS1.out.2 0 _ rfl).2
    have m01 := (HS1.out.2 1 _ rfl).1
    have z01 := (HS1.out.2 1 _ rfl).2
    have m02 := (HS1.out.2 2 _ rfl).1
    have z02 := (HS1.out.2 2 _ rfl).2
    go_wp2_with fail
    clear l0 m00 z00 m01 z01 m02 z02
    obtain ⟨w2, hw2⟩ : ∃ V, (((w1.setCell ⟨w.heap.size, 0, none⟩ (Value.bool b')).setCell ⟨w.heap.size, 1, none⟩ (Value.string s')).setCell ⟨w.heap.size, 2, none⟩ (Value.string t')) = V := ⟨_, rfl⟩
    have f : Below w.heap.size w w2 := by rw [← hw2]; exact (below_sets (below_sets (below_sets HS1.out.1 (by first | assumption | exact Nat.le_refl _ | omega) 0 (Value.bool b')) (by first | assumption | exact Nat.le_refl _ | omega) 1 (Value.string s')) (by first | assumption | exact Nat.le_refl _ | omega) 2 (Value.string t'))
    have t0 : Cells (w.heap.size) [.bool b', .string s', .string t'] w2 := by rw [← hw2]; exact ((((((HS1.out.2).set (k := 0) (Value.bool b') _ rfl)).set (k := 1) (Value.string s') _ rfl)).set (k := 2) (Value.string t') _ rfl)
    have HS2 := Lib.hid (And.intro f t0)
    rw [hw2]
    clear hw2 f t0
    have y0 := (HS2.out.2 0 _ rfl).1
    have y1 := (HS2.out.2 1 _ rfl).1
    have y2 := (HS2.out.2 2 _ rfl).1
    refine bodyPost_ret (v := .agg #[.bool b', .string s', .string t']) (by simp [results, Tryz.results68, go_sem, y0, y1, y2]) rfl ⟨rfl, HS2.out.1⟩

set_option maxHeartbeats 2000000 in
set_option maxRecDepth 100000 in
theorem canonical_walk (b : Bool) (s t q : ByteArray) (n d : Int) (o1 o2 : Bool) (b' : Bool) (s' t' : ByteArray)
    (c1 : ∀ W : World, Calls Tryz.prog 67 #[.agg #[.bool b, .string s, .string t]] W fun e w' => e = .returned (.agg #[.int .i64 n, .int .i64 d]) ∧ Below W.heap.size W w')
    (c2 : ∀ W : World, Calls Tryz.prog 69 #[.int .i64 n, .int .i64 1] W fun e w' => e = .returned (.bool o1) ∧ Below W.heap.size W w')
    (c3 : ∀ W : World, Calls Tryz.prog 69 #[.int .i64 d, .int .i64 1] W fun e w' => e = .returned (.bool o2) ∧ Below W.heap.size W w')
    (cn : o1 = true → o2 = true → ∀ W : World, Calls Tryz.prog 64 #[.agg #[.int .i64 n, .int .i64 d]] W fun e w' => e = .returned (.agg #[.bool b', .string s', .string t']) ∧ Below W.heap.size W w')
    (cq : ∀ W : World, Calls Tryz.prog 61 #[.agg #[.bool b, .string s, .string t]] W fun e w' => e = .returned (.agg #[.bool b, .string s, .bool false, .string q]) ∧ Below W.heap.size W w')
    (cm : ∀ W : World, Calls Tryz.prog 73 #[.agg #[.bool b, .string s, .bool false, .string q]] W fun e w' => e = .returned (.agg #[.bool b', .string s', .string t']) ∧ Below W.heap.size W w')
    (w : World) : Calls Tryz.prog 58 #[.agg #[.bool b, .string s, .string t]] w fun e w' => e = .returned (.agg #[.bool b', .string s', .string t']) ∧ Below w.heap.size w w' := by
  have R1 := Lib.hid c1
  have R2 := Lib.hid c2
  have R3 := Lib.hid c3
  have RN := Lib.hid cn
  have RQ := Lib.hid (And.intro cq cm)
  clear c1 c2 c3 cn cq cm
  go_enter Tryz.func58, Tryz.ntmps58
  go_wp2_with fail
  obtain ⟨W0, hW0⟩ : ∃ V, ((w.alloc (Obj.cells #[Value.bool b, Value.string s, Value.string t] 25)).alloc (Obj.cells #[Value.bool false, Value.string ⟨#[]⟩, Value.string ⟨#[]⟩] 25)) = V := ⟨_, rfl⟩
  have sW0 : W0.heap.size = w.heap.size + 1 + 1 := by rw [← hW0]; simp
  have k0 : Cells (w.heap.size) [.bool b, .string s, .string t] W0 := by
    rw [← hW0]
    have h := cells_new w #[.bool b, .string s, .string t] 25
    exact (h.alloc (by simp; try omega) _)
  have k1 : Cells (w.heap.size + 1) [.bool false, .string ⟨#[]⟩, .string ⟨#[]⟩] W0 := by
    rw [← hW0]
    have h := cells_new (w.alloc (Obj.cells #[Value.bool b, Value.string s, Value.string t] 25)) #[.bool false, .string ⟨#[]⟩, .string ⟨#[]⟩] 25
    simp only [World.size_alloc] at h
    exact h
  have bW0 : Below w.heap.size w W0 := by
    rw [← hW0]
    exact (((Below.refl _ _).alloc (Nat.le_refl _) _).alloc (by simp; try omega) _)
  rw [hW0]
  clear hW0
  have HS0 := Lib.hid (And.intro bW0 (And.intro k0 k1))
  clear bW0 k0 k1
  refine (R1.out _).mono ?_
  rintro e w1 ⟨rfl, c⟩
  have f := HS0.out.1.trans (c.mono HS0.out.1.size)
  have t0 := (HS0.out.2.1).below c (HS0.out.2.1).lt
  have t1 := (HS0.out.2.2).below c (HS0.out.2.2).lt
  have HS1 := Lib.hid (And.intro f (And.intro t0 t1))
  clear c f t0 t1
  have l0 := (HS1.out.2.1).lt
  have m00 := (HS1.out.2.1 0 _ rfl).1
  have m01 := (HS1.out.2.1 1 _ rfl).1
  have m02 := (HS1.out.2.1 2 _ rfl).1
  have l1 := (HS1.out.2.2).lt
  go_wp2_with fail
  clear l0 m00 m01 m02 l1
  obtain ⟨w2, hw2⟩ : ∃ V, (w1.alloc (Obj.cells #[Value.int .i64 n, Value.int .i64 d] 63)) = V := ⟨_, rfl⟩
  obtain ⟨B2, hB2⟩ : ∃ B, w1.heap.size = B := ⟨_, rfl⟩
  have f : Below w.heap.size w w2 := by rw [← hw2]; exact (HS1.out.1.alloc (by have := HS1.out.1.size; simp; try omega) _)
  have t0 : Cells (w.heap.size) [.bool b, .string s, .string t] w2 := by rw [← hw2]; exact ((HS1.out.2.1).alloc (by have := (HS1.out.2.1).lt; simp; try omega) _)
  have t1 : Cells (w.heap.size + 1) [.bool false, .string ⟨#[]⟩, .string ⟨#[]⟩] w2 := by rw [← hw2]; exact ((HS1.out.2.2).alloc (by have := (HS1.out.2.2).lt; simp; try omega) _)
  have t2 : Cells B2 [.int .i64 n, .int .i64 d] w2 := by
    rw [← hw2, ← hB2]
    have h := cells_new w1 #[.int .i64 n, .int .i64 d] 63
    (try simp only at h)
    exact h
  have xB20 : ¬ (w.heap.size) = B2 := by have := (HS1.out.2.1).lt; omega
  have xB21 : ¬ (w.heap.size + 1) = B2 := by have := (HS1.out.2.2).lt; omega
  have gB2 : w.heap.size ≤ B2 := by have := HS1.out.1.size; omega
  have HS2 := Lib.hid (And.intro f (And.intro t0 (And.intro t1 t2)))
  rw [hw2]
  (try rw [hB2])
  clear hw2 hB2 f t0 t1 t2
  refine (R2.out _).mono ?_
  rintro e w3 ⟨rfl, c⟩
  have f := HS2.out.1.trans (c.mono HS2.out.1.size)
  have t0 := (HS2.out.2.1).below c (HS2.out.2.1).lt
  have t1 := (HS2.out.2.2.1).below c (HS2.out.2.2.1).lt
  have t2 := (HS2.out.2.2.2).below c (HS2.out.2.2.2).lt
  have HS3 := Lib.hid (And.intro f (And.intro t0 (And.intro t1 t2)))
  clear c f t0 t1 t2
  cases o1
  · have l0 := (HS3.out.2.1).lt
    have m00 := (HS3.out.2.1 0 _ rfl).1
    have m01 := (HS3.out.2.1 1 _ rfl).1
    have m02 := (HS3.out.2.1 2 _ rfl).1
    have l1 := (HS3.out.2.2.1).lt
    have l2 := (HS3.out.2.2.2).lt
    have m20 := (HS3.out.2.2.2 0 _ rfl).1
    have m21 := (HS3.out.2.2.2 1 _ rfl).1
    go_wp2_with fail
    clear l0 m00 m01 m02 l1 l2 m20 m21
    refine (either_can B2 w.heap.size w3 false b' s' t' (fun h => by cases h) (fun _ W hW => can2_any w.heap.size b s t q b' s' t' W ((HS3.out.2.1).below hW (HS3.out.2.1).lt) RQ.out.1 RQ.out.2)).mono ?_
    rintro e wE ⟨rfl, c⟩
    have f := HS3.out.1.trans (c.mono HS3.out.1.size)
    have t0 := (HS3.out.2.1).below c (HS3.out.2.1).lt
    have t1 := (HS3.out.2.2.1).below c (HS3.out.2.2.1).lt
    have t2 := (HS3.out.2.2.2).below c (HS3.out.2.2.2).lt
    have HSE := Lib.hid (And.intro f (And.intro t0 (And.intro t1 t2)))
    clear c f t0 t1 t2
    have l0 := (HSE.out.2.1).lt
    have l1 := (HSE.out.2.2.1).lt
    have m10 := (HSE.out.2.2.1 0 _ rfl).1
    have z10 := (HSE.out.2.2.1 0 _ rfl).2
    have m11 := (HSE.out.2.2.1 1 _ rfl).1
    have z11 := (HSE.out.2.2.1 1 _ rfl).2
    have m12 := (HSE.out.2.2.1 2 _ rfl).1
    have z12 := (HSE.out.2.2.1 2 _ rfl).2
    have l2 := (HSE.out.2.2.2).lt
    go_wp2_with fail
    clear l0 l1 m10 z10 m11 z11 m12 z12 l2
    obtain ⟨wF, hwF⟩ : ∃ V, (((wE.setCell ⟨w.heap.size + 1, 0, none⟩ (Value.bool b')).setCell ⟨w.heap.size + 1, 1, none⟩ (Value.string s')).setCell ⟨w.heap.size + 1, 2, none⟩ (Value.string t')) = V := ⟨_, rfl⟩
    have f : Below w.heap.size w wF := by rw [← hwF]; exact (below_sets (below_sets (below_sets HSE.out.1 (by first | assumption | exact Nat.le_refl _ | omega) 0 (Value.bool b')) (by first | assumption | exact Nat.le_refl _ | omega) 1 (Value.string s')) (by first | assumption | exact Nat.le_refl _ | omega) 2 (Value.string t'))
    have t0 : Cells (w.heap.size) [.bool b, .string s, .string t] wF := by rw [← hwF]; exact ((((((HSE.out.2.1).other (by omega))).other (by omega))).other (by omega))
    have t1 : Cells (w.heap.size + 1) [.bool b', .string s', .string t'] wF := by rw [← hwF]; exact ((((((HSE.out.2.2.1).set (k := 0) (Value.bool b') _ rfl)).set (k := 1) (Value.string s') _ rfl)).set (k := 2) (Value.string t') _ rfl)
    have t2 : Cells (B2) [.int .i64 n, .int .i64 d] wF := by rw [← hwF]; exact ((((((HSE.out.2.2.2).other (by omega))).other (by omega))).other (by omega))
    have HSF := Lib.hid (And.intro f (And.intro t0 (And.intro t1 t2)))
    rw [hwF]
    clear hwF f t0 t1 t2
    have y0 := (HSF.out.2.2.1 0 _ rfl).1
    have y1 := (HSF.out.2.2.1 1 _ rfl).1
    have y2 := (HSF.out.2.2.1 2 _ rfl).1
    refine bodyPost_ret (v := .agg #[.bool b', .string s', .string t']) (by simp [results, Tryz.results58, go_sem, y0, y1, y2]) rfl ⟨rfl, HSF.out.1⟩
  · have l0 := (HS3.out.2.1).lt
    have m00 := (HS3.out.2.1 0 _ rfl).1
    have m01 := (HS3.out.2.1 1 _ rfl).1
    have m02 := (HS3.out.2.1 2 _ rfl).1
    have l1 := (HS3.out.2.2.1).lt
    have l2 := (HS3.out.2.2.2).lt
    have m20 := (HS3.out.2.2.2 0 _ rfl).1
    have m21 := (HS3.out.2.2.2 1 _ rfl).1
    go_wp2_with fail
    clear l0 m00 m01 m02 l1 l2 m20 m21
    refine (R3.out _).mono ?_
    rintro e w4 ⟨rfl, c⟩
    have f := HS3.out.1.trans (c.mono HS3.out.1.size)
    have t0 := (HS3.out.2.1).below c (HS3.out.2.1).lt
    have t1 := (HS3.out.2.2.1).below c (HS3.out.2.2.1).lt
    have t2 := (HS3.out.2.2.2).below c (HS3.out.2.2.2).lt
    have HS4 := Lib.hid (And.intro f (And.intro t0 (And.intro t1 t2)))
    clear c f t0 t1 t2
    have l0 := (HS4.out.2.1).lt
    have m00 := (HS4.out.2.1 0 _ rfl).1
    have m01 := (HS4.out.2.1 1 _ rfl).1
    have m02 := (HS4.out.2.1 2 _ rfl).1
    have l1 := (HS4.out.2.2.1).lt
    have l2 := (HS4.out.2.2.2).lt
    have m20 := (HS4.out.2.2.2 0 _ rfl).1
    have m21 := (HS4.out.2.2.2 1 _ rfl).1
    go_wp2_with fail
    clear l0 m00 m01 m02 l1 l2 m20 m21
    refine (either_can B2 w.heap.size w4 o2 b' s' t' (fun h W hW => can1_any B2 n d b' s' t' W ((HS4.out.2.2.2).below hW (HS4.out.2.2.2).lt) (by first | exact RN.out rfl h | exact RN.out trivial h | exact RN.out h | exact RN.out)) (fun _ W hW => can2_any w.heap.size b s t q b' s' t' W ((HS4.out.2.1).below hW (HS4.out.2.1).lt) RQ.out.1 RQ.out.2)).mono ?_
    rintro e wE ⟨rfl, c⟩
    have f := HS4.out.1.trans (c.mono HS4.out.1.size)
    have t0 := (HS4.out.2.1).below c (HS4.out.2.1).lt
    have t1 := (HS4.out.2.2.1).below c (HS4.out.2.2.1).lt
    have t2 := (HS4.out.2.2.2).below c (HS4.out.2.2.2).lt
    have HSE := Lib.hid (And.intro f (And.intro t0 (And.intro t1 t2)))
    clear c f t0 t1 t2
    have l0 := (HSE.out.2.1).lt
    have l1 := (HSE.out.2.2.1).lt
    have m10 := (HSE.out.2.2.1 0 _ rfl).1
    have z10 := (HSE.out.2.2.1 0 _ rfl).2
    have m11 := (HSE.out.2.2.1 1 _ rfl).1
    have z11 := (HSE.out.2.2.1 1 _ rfl).2
    have m12 := (HSE.out.2.2.1 2 _ rfl).1
    have z12 := (HSE.out.2.2.1 2 _ rfl).2
    have l2 := (HSE.out.2.2.2).lt
    go_wp2_with fail
    clear l0 l1 m10 z10 m11 z11 m12 z12 l2
    obtain ⟨wF, hwF⟩ : ∃ V, (((wE.setCell ⟨w.heap.size + 1, 0, none⟩ (Value.bool b')).setCell ⟨w.heap.size + 1, 1, none⟩ (Value.string s')).setCell ⟨w.heap.size + 1, 2, none⟩ (Value.string t')) = V := ⟨_, rfl⟩
    have f : Below w.heap.size w wF := by rw [← hwF]; exact (below_sets (below_sets (below_sets HSE.out.1 (by first | assumption | exact Nat.le_refl _ | omega) 0 (Value.bool b')) (by first | assumption | exact Nat.le_refl _ | omega) 1 (Value.string s')) (by first | assumption | exact Nat.le_refl _ | omega) 2 (Value.string t'))
    have t0 : Cells (w.heap.size) [.bool b, .string s, .string t] wF := by rw [← hwF]; exact ((((((HSE.out.2.1).other (by omega))).other (by omega))).other (by omega))
    have t1 : Cells (w.heap.size + 1) [.bool b', .string s', .string t'] wF := by rw [← hwF]; exact ((((((HSE.out.2.2.1).set (k := 0) (Value.bool b') _ rfl)).set (k := 1) (Value.string s') _ rfl)).set (k := 2) (Value.string t') _ rfl)
    have t2 : Cells (B2) [.int .i64 n, .int .i64 d] wF := by rw [← hwF]; exact ((((((HSE.out.2.2.2).other (by omega))).other (by omega))).other (by omega))
    have HSF := Lib.hid (And.intro f (And.intro t0 (And.intro t1 t2)))
    rw [hwF]
    clear hwF f t0 t1 t2
    have y0 := (HSF.out.2.2.1 0 _ rfl).1
    have y1 := (HSF.out.2.2.1 1 _ rfl).1
    have y2 := (HSF.out.2.2.1 2 _ rfl).1
    refine bodyPost_ret (v := .agg #[.bool b', .string s', .string t']) (by simp [results, Tryz.results58, go_sem, y0, y1, y2]) rfl ⟨rfl, HSF.out.1⟩

theorem ratcan_any (b : Bool) (s t : ByteArray) (b' : Bool) (s' t' : ByteArray) (hs : s.size ≤ 262144) (ht : t.size ≤ 262144) (m : RNam b' s' t' (rval b s t)) (w : World) :
    Calls Tryz.prog 58 #[.agg #[.bool b, .string s, .string t]] w fun e w' => e = .returned (.agg #[.bool b', .string s', .string t']) ∧ Below w.heap.size w w' := by
  obtain ⟨n, d, n1, n2, d1, d2, hv, c1⟩ := fractionOf_ex b s t
  obtain ⟨o1, _, c2⟩ := fits_ex n 1 n1 n2 (by omega) (by omega)
  obtain ⟨o2, h2, c3⟩ := fits_ex d 1 (by omega) d2 (by omega) (by omega)
  have hq : Val false (dvs t) (rden t : Int) := ⟨dvs_val t, dvs_size t 262144 ht (by omega)⟩
  refine canonical_walk b s t (dvs t) n d o1 o2 b' s' t' c1 c2 c3 (fun _ e2 W => ?_) (fun W => quotientOf_any b s t W (by omega)) (fun W => number_qt ⟨rfl, hs⟩ hq (rden_pos t) m W) w
  have h3 := h2 e2
  rcases hv with ⟨rfl, rfl⟩ | h
  · exact fnumber_any _ _ n1 n2 (rden_pos t) (by omega) m W
  · omega
end Go.Proofs.YtpdhffjdgnpikaaGreatDoor
