/- The walk of law02's awake, over the contracts that it wants. -/
import Derived.Test.YtpdhffjdgnpikaaGreatDoorRatLaw
namespace Go.Proofs.YtpdhffjdgnpikaaGreatDoor
open Go.RowKit Go.Shelf

set_option maxHeartbeats 8000000 in
set_option maxRecDepth 100000 in
theorem awake_walk
    (c1 : ∀ W : World, Calls Tryz.prog 15 #[.int .i64 6, .int .i64 (-4)] W fun e w' => e = .returned (.tuple #[.agg #[.bool true, .string ⟨#[3]⟩, .string ⟨#[2]⟩], .int .i64 0]) ∧ Below W.heap.size W w')
    (c2 : ∀ W : World, Calls Tryz.prog 15 #[.int .i64 1, .int .i64 3] W fun e w' => e = .returned (.tuple #[.agg #[.bool false, .string ⟨#[1]⟩, .string ⟨#[3]⟩], .int .i64 0]) ∧ Below W.heap.size W w')
    (c3 : ∀ W : World, Calls Tryz.prog 15 #[.int .i64 2, .int .i64 5] W fun e w' => e = .returned (.tuple #[.agg #[.bool false, .string ⟨#[2]⟩, .string ⟨#[5]⟩], .int .i64 0]) ∧ Below W.heap.size W w')
    (c4 : ∀ W : World, Calls Tryz.prog 15 #[.int .i64 5, .int .i64 17] W fun e w' => e = .returned (.tuple #[.agg #[.bool false, .string ⟨#[5]⟩, .string ⟨#[17]⟩], .int .i64 0]) ∧ Below W.heap.size W w')
    (c5 : ∀ W : World, Calls Tryz.prog 15 #[.int .i64 6, .int .i64 17] W fun e w' => e = .returned (.tuple #[.agg #[.bool false, .string ⟨#[6]⟩, .string ⟨#[17]⟩], .int .i64 0]) ∧ Below W.heap.size W w')
    (c6 : ∀ W : World, Calls Tryz.prog 39 #[.agg #[.bool false, .string ⟨#[1]⟩, .string ⟨#[3]⟩], .agg #[.bool false, .string ⟨#[2]⟩, .string ⟨#[5]⟩]] W fun e w' => e = .returned (.tuple #[.agg #[.bool false, .string ⟨#[1]⟩, .string ⟨#[3]⟩], .int .i64 0]) ∧ Below W.heap.size W w')
    (c7 : ∀ W : World, Calls Tryz.prog 39 #[.agg #[.bool false, .string ⟨#[5]⟩, .string ⟨#[17]⟩], .agg #[.bool false, .string ⟨#[6]⟩, .string ⟨#[17]⟩]] W fun e w' => e = .returned (.tuple #[.agg #[.bool false, .string ⟨#[1]⟩, .string ⟨#[3]⟩], .int .i64 0]) ∧ Below W.heap.size W w')
    (c8 : ∀ W : World, Calls Tryz.prog 41 #[.agg #[.bool true, .string ⟨#[3]⟩, .string ⟨#[2]⟩]] W fun e w' => e = .returned (.agg #[.bool true, .string ⟨#[2]⟩]) ∧ Below W.heap.size W w')
    (c9 : ∀ W : World, Calls Tryz.prog 50 #[.agg #[.bool true, .string ⟨#[2]⟩]] W fun e w' => e = .returned (.tuple #[.int .i64 (-2), .bool true]) ∧ Below W.heap.size W w')
    (c10 : ∀ W : World, Tab W → Calls Tryz.prog 47 #[.agg #[.bool false, .string ⟨#[1]⟩, .string ⟨#[3]⟩]] W fun e w' => e = .returned (.string ⟨#[49, 47, 51]⟩) ∧ Below W.heap.size W w')
    (w : World) (htab : Tab w) : Calls Tryz.prog 14 #[] w fun e w' => e = .returned (.bool true) ∧ Below w.heap.size w w' := by
  have R1 := Lib.hid c1
  have R2 := Lib.hid c2
  have R3 := Lib.hid c3
  have R4 := Lib.hid c4
  have R5 := Lib.hid c5
  have R6 := Lib.hid c6
  have R7 := Lib.hid c7
  have R8 := Lib.hid c8
  have R9 := Lib.hid c9
  have R10 := Lib.hid c10
  have HT := Lib.hid htab
  clear htab c1 c2 c3 c4 c5 c6 c7 c8 c9 c10
  go_enter Tryz.func14, Tryz.ntmps14
  go_wp2_with fail
  refine (R1.out _).mono ?_
  rintro e w1 ⟨rfl, c⟩
  go_wp2_with fail
  obtain ⟨w2, hw2⟩ : ∃ V, (w1.alloc (Obj.cells #[Value.bool true, Value.string ⟨#[3]⟩, Value.string ⟨#[2]⟩] 25)) = V := ⟨_, rfl⟩
  obtain ⟨B1, hB1⟩ : ∃ B, w1.heap.size = B := ⟨_, rfl⟩
  have f : Below w.heap.size w w2 := by rw [← hw2]; exact c.alloc c.size _
  have t0 : Cells B1 [.bool true, .string ⟨#[3]⟩, .string ⟨#[2]⟩] w2 := by rw [← hw2, ← hB1]; exact cells_new w1 #[Value.bool true, Value.string ⟨#[3]⟩, Value.string ⟨#[2]⟩] 25
  have gB1 : w.heap.size ≤ B1 := by have := c.size; omega
  have HS1 := Lib.hid (And.intro f t0)
  rw [hw2]
  (try rw [hB1])
  clear hw2 hB1 f t0 c
  refine (R2.out _).mono ?_
  rintro e w3 ⟨rfl, c⟩
  have f := HS1.out.1.trans (c.mono HS1.out.1.size)
  have t0 := (HS1.out.2).below c (HS1.out.2).lt
  have HS2 := Lib.hid (And.intro f t0)
  clear c f t0
  have l0 := (HS2.out.2).lt
  go_wp2_with fail
  clear l0
  obtain ⟨w4, hw4⟩ : ∃ V, (w3.alloc (Obj.cells #[Value.bool false, Value.string ⟨#[1]⟩, Value.string ⟨#[3]⟩] 25)) = V := ⟨_, rfl⟩
  obtain ⟨B2, hB2⟩ : ∃ B, w3.heap.size = B := ⟨_, rfl⟩
  have f : Below w.heap.size w w4 := by rw [← hw4]; exact (HS2.out.1.alloc (by have := HS2.out.1.size; simp; try omega) _)
  have t0 : Cells (B1) [.bool true, .string ⟨#[3]⟩, .string ⟨#[2]⟩] w4 := by rw [← hw4]; exact ((HS2.out.2).alloc (by have := (HS2.out.2).lt; simp; try omega) _)
  have t1 : Cells B2 [.bool false, .string ⟨#[1]⟩, .string ⟨#[3]⟩] w4 := by
    rw [← hw4, ← hB2]
    have h := cells_new w3 #[.bool false, .string ⟨#[1]⟩, .string ⟨#[3]⟩] 25
    (try simp only at h)
    exact h
  have xB20 : ¬ (B1) = B2 := by have := (HS2.out.2).lt; omega
  have gB2 : w.heap.size ≤ B2 := by have := HS2.out.1.size; omega
  have HS3 := Lib.hid (And.intro f (And.intro t0 t1))
  rw [hw4]
  (try rw [hB2])
  clear hw4 hB2 f t0 t1
  refine (R3.out _).mono ?_
  rintro e w5 ⟨rfl, c⟩
  have f := HS3.out.1.trans (c.mono HS3.out.1.size)
  have t0 := (HS3.out.2.1).below c (HS3.out.2.1).lt
  have t1 := (HS3.out.2.2).below c (HS3.out.2.2).lt
  have HS4 := Lib.hid (And.intro f (And.intro t0 t1))
  clear c f t0 t1
  have l0 := (HS4.out.2.1).lt
  have l1 := (HS4.out.2.2).lt
  go_wp2_with fail
  clear l0 l1
  obtain ⟨w6, hw6⟩ : ∃ V, (w5.alloc (Obj.cells #[Value.bool false, Value.string ⟨#[2]⟩, Value.string ⟨#[5]⟩] 25)) = V := ⟨_, rfl⟩
  obtain ⟨B3, hB3⟩ : ∃ B, w5.heap.size = B := ⟨_, rfl⟩
  have f : Below w.heap.size w w6 := by rw [← hw6]; exact (HS4.out.1.alloc (by have := HS4.out.1.size; simp; try omega) _)
  have t0 : Cells (B1) [.bool true, .string ⟨#[3]⟩, .string ⟨#[2]⟩] w6 := by rw [← hw6]; exact ((HS4.out.2.1).alloc (by have := (HS4.out.2.1).lt; simp; try omega) _)
  have t1 : Cells (B2) [.bool false, .string ⟨#[1]⟩, .string ⟨#[3]⟩] w6 := by rw [← hw6]; exact ((HS4.out.2.2).alloc (by have := (HS4.out.2.2).lt; simp; try omega) _)
  have t2 : Cells B3 [.bool false, .string ⟨#[2]⟩, .string ⟨#[5]⟩] w6 := by
    rw [← hw6, ← hB3]
    have h := cells_new w5 #[.bool false, .string ⟨#[2]⟩, .string ⟨#[5]⟩] 25
    (try simp only at h)
    exact h
  have xB30 : ¬ (B1) = B3 := by have := (HS4.out.2.1).lt; omega
  have xB31 : ¬ (B2) = B3 := by have := (HS4.out.2.2).lt; omega
  have gB3 : w.heap.size ≤ B3 := by have := HS4.out.1.size; omega
  have HS5 := Lib.hid (And.intro f (And.intro t0 (And.intro t1 t2)))
  rw [hw6]
  (try rw [hB3])
  clear hw6 hB3 f t0 t1 t2
  refine (R4.out _).mono ?_
  rintro e w7 ⟨rfl, c⟩
  have f := HS5.out.1.trans (c.mono HS5.out.1.size)
  have t0 := (HS5.out.2.1).below c (HS5.out.2.1).lt
  have t1 := (HS5.out.2.2.1).below c (HS5.out.2.2.1).lt
  have t2 := (HS5.out.2.2.2).below c (HS5.out.2.2.2).lt
  have HS6 := Lib.hid (And.intro f (And.intro t0 (And.intro t1 t2)))
  clear c f t0 t1 t2
  have l0 := (HS6.out.2.1).lt
  have l1 := (HS6.out.2.2.1).lt
  have l2 := (HS6.out.2.2.2).lt
  go_wp2_with fail
  clear l0 l1 l2
  obtain ⟨w8, hw8⟩ : ∃ V, (w7.alloc (Obj.cells #[Value.bool false, Value.string ⟨#[5]⟩, Value.string ⟨#[17]⟩] 25)) = V := ⟨_, rfl⟩
  obtain ⟨B4, hB4⟩ : ∃ B, w7.heap.size = B := ⟨_, rfl⟩
  have f : Below w.heap.size w w8 := by rw [← hw8]; exact (HS6.out.1.alloc (by have := HS6.out.1.size; simp; try omega) _)
  have t0 : Cells (B1) [.bool true, .string ⟨#[3]⟩, .string ⟨#[2]⟩] w8 := by rw [← hw8]; exact ((HS6.out.2.1).alloc (by have := (HS6.out.2.1).lt; simp; try omega) _)
  have t1 : Cells (B2) [.bool false, .string ⟨#[1]⟩, .string ⟨#[3]⟩] w8 := by rw [← hw8]; exact ((HS6.out.2.2.1).alloc (by have := (HS6.out.2.2.1).lt; simp; try omega) _)
  have t2 : Cells (B3) [.bool false, .string ⟨#[2]⟩, .string ⟨#[5]⟩] w8 := by rw [← hw8]; exact ((HS6.out.2.2.2).alloc (by have := (HS6.out.2.2.2).lt; simp; try omega) _)
  have t3 : Cells B4 [.bool false, .string ⟨#[5]⟩, .string ⟨#[17]⟩] w8 := by
    rw [← hw8, ← hB4]
    have h := cells_new w7 #[.bool false, .string ⟨#[5]⟩, .string ⟨#[17]⟩] 25
    (try simp only at h)
    exact h
  have xB40 : ¬ (B1) = B4 := by have := (HS6.out.2.1).lt; omega
  have xB41 : ¬ (B2) = B4 := by have := (HS6.out.2.2.1).lt; omega
  have xB42 : ¬ (B3) = B4 := by have := (HS6.out.2.2.2).lt; omega
  have gB4 : w.heap.size ≤ B4 := by have := HS6.out.1.size; omega
  have HS7 := Lib.hid (And.intro f (And.intro t0 (And.intro t1 (And.intro t2 t3))))
  rw [hw8]
  (try rw [hB4])
  clear hw8 hB4 f t0 t1 t2 t3
  refine (R5.out _).mono ?_
  rintro e w9 ⟨rfl, c⟩
  have f := HS7.out.1.trans (c.mono HS7.out.1.size)
  have t0 := (HS7.out.2.1).below c (HS7.out.2.1).lt
  have t1 := (HS7.out.2.2.1).below c (HS7.out.2.2.1).lt
  have t2 := (HS7.out.2.2.2.1).below c (HS7.out.2.2.2.1).lt
  have t3 := (HS7.out.2.2.2.2).below c (HS7.out.2.2.2.2).lt
  have HS8 := Lib.hid (And.intro f (And.intro t0 (And.intro t1 (And.intro t2 t3))))
  clear c f t0 t1 t2 t3
  have l0 := (HS8.out.2.1).lt
  have l1 := (HS8.out.2.2.1).lt
  have m10 := (HS8.out.2.2.1 0 _ rfl).1
  have m11 := (HS8.out.2.2.1 1 _ rfl).1
  have m12 := (HS8.out.2.2.1 2 _ rfl).1
  have l2 := (HS8.out.2.2.2.1).lt
  have m20 := (HS8.out.2.2.2.1 0 _ rfl).1
  have m21 := (HS8.out.2.2.2.1 1 _ rfl).1
  have m22 := (HS8.out.2.2.2.1 2 _ rfl).1
  have l3 := (HS8.out.2.2.2.2).lt
  go_wp2_with fail
  clear l0 l1 m10 m11 m12 l2 m20 m21 m22 l3
  obtain ⟨w10, hw10⟩ : ∃ V, (w9.alloc (Obj.cells #[Value.bool false, Value.string ⟨#[6]⟩, Value.string ⟨#[17]⟩] 25)) = V := ⟨_, rfl⟩
  obtain ⟨B5, hB5⟩ : ∃ B, w9.heap.size = B := ⟨_, rfl⟩
  have f : Below w.heap.size w w10 := by rw [← hw10]; exact (HS8.out.1.alloc (by have := HS8.out.1.size; simp; try omega) _)
  have t0 : Cells (B1) [.bool true, .string ⟨#[3]⟩, .string ⟨#[2]⟩] w10 := by rw [← hw10]; exact ((HS8.out.2.1).alloc (by have := (HS8.out.2.1).lt; simp; try omega) _)
  have t1 : Cells (B2) [.bool false, .string ⟨#[1]⟩, .string ⟨#[3]⟩] w10 := by rw [← hw10]; exact ((HS8.out.2.2.1).alloc (by have := (HS8.out.2.2.1).lt; simp; try omega) _)
  have t2 : Cells (B3) [.bool false, .string ⟨#[2]⟩, .string ⟨#[5]⟩] w10 := by rw [← hw10]; exact ((HS8.out.2.2.2.1).alloc (by have := (HS8.out.2.2.2.1).lt; simp; try omega) _)
  have t3 : Cells (B4) [.bool false, .string ⟨#[5]⟩, .string ⟨#[17]⟩] w10 := by rw [← hw10]; exact ((HS8.out.2.2.2.2).alloc (by have := (HS8.out.2.2.2.2).lt; simp; try omega) _)
  have t4 : Cells B5 [.bool false, .string ⟨#[6]⟩, .string ⟨#[17]⟩] w10 := by
    rw [← hw10, ← hB5]
    have h := cells_new w9 #[.bool false, .string ⟨#[6]⟩, .string ⟨#[17]⟩] 25
    (try simp only at h)
    exact h
  have xB50 : ¬ (B1) = B5 := by have := (HS8.out.2.1).lt; omega
  have xB51 : ¬ (B2) = B5 := by have := (HS8.out.2.2.1).lt; omega
  have xB52 : ¬ (B3) = B5 := by have := (HS8.out.2.2.2.1).lt; omega
  have xB53 : ¬ (B4) = B5 := by have := (HS8.out.2.2.2.2).lt; omega
  have gB5 : w.heap.size ≤ B5 := by have := HS8.out.1.size; omega
  have HS9 := Lib.hid (And.intro f (And.intro t0 (And.intro t1 (And.intro t2 (And.intro t3 t4)))))
  rw [hw10]
  (try rw [hB5])
  clear hw10 hB5 f t0 t1 t2 t3 t4
  refine (R6.out _).mono ?_
  rintro e w11 ⟨rfl, c⟩
  have f := HS9.out.1.trans (c.mono HS9.out.1.size)
  have t0 := (HS9.out.2.1).below c (HS9.out.2.1).lt
  have t1 := (HS9.out.2.2.1).below c (HS9.out.2.2.1).lt
  have t2 := (HS9.out.2.2.2.1).below c (HS9.out.2.2.2.1).lt
  have t3 := (HS9.out.2.2.2.2.1).below c (HS9.out.2.2.2.2.1).lt
  have t4 := (HS9.out.2.2.2.2.2).below c (HS9.out.2.2.2.2.2).lt
  have HS10 := Lib.hid (And.intro f (And.intro t0 (And.intro t1 (And.intro t2 (And.intro t3 t4)))))
  clear c f t0 t1 t2 t3 t4
  have l0 := (HS10.out.2.1).lt
  have l1 := (HS10.out.2.2.1).lt
  have l2 := (HS10.out.2.2.2.1).lt
  have l3 := (HS10.out.2.2.2.2.1).lt
  have m30 := (HS10.out.2.2.2.2.1 0 _ rfl).1
  have m31 := (HS10.out.2.2.2.2.1 1 _ rfl).1
  have m32 := (HS10.out.2.2.2.2.1 2 _ rfl).1
  have l4 := (HS10.out.2.2.2.2.2).lt
  have m40 := (HS10.out.2.2.2.2.2 0 _ rfl).1
  have m41 := (HS10.out.2.2.2.2.2 1 _ rfl).1
  have m42 := (HS10.out.2.2.2.2.2 2 _ rfl).1
  go_wp2_with fail
  clear l0 l1 l2 l3 m30 m31 m32 l4 m40 m41 m42
  obtain ⟨w12, hw12⟩ : ∃ V, (w11.alloc (Obj.cells #[Value.bool false, Value.string ⟨#[1]⟩, Value.string ⟨#[3]⟩] 25)) = V := ⟨_, rfl⟩
  obtain ⟨B6, hB6⟩ : ∃ B, w11.heap.size = B := ⟨_, rfl⟩
  have f : Below w.heap.size w w12 := by rw [← hw12]; exact (HS10.out.1.alloc (by have := HS10.out.1.size; simp; try omega) _)
  have t0 : Cells (B1) [.bool true, .string ⟨#[3]⟩, .string ⟨#[2]⟩] w12 := by rw [← hw12]; exact ((HS10.out.2.1).alloc (by have := (HS10.out.2.1).lt; simp; try omega) _)
  have t1 : Cells (B2) [.bool false, .string ⟨#[1]⟩, .string ⟨#[3]⟩] w12 := by rw [← hw12]; exact ((HS10.out.2.2.1).alloc (by have := (HS10.out.2.2.1).lt; simp; try omega) _)
  have t2 : Cells (B3) [.bool false, .string ⟨#[2]⟩, .string ⟨#[5]⟩] w12 := by rw [← hw12]; exact ((HS10.out.2.2.2.1).alloc (by have := (HS10.out.2.2.2.1).lt; simp; try omega) _)
  have t3 : Cells (B4) [.bool false, .string ⟨#[5]⟩, .string ⟨#[17]⟩] w12 := by rw [← hw12]; exact ((HS10.out.2.2.2.2.1).alloc (by have := (HS10.out.2.2.2.2.1).lt; simp; try omega) _)
  have t4 : Cells (B5) [.bool false, .string ⟨#[6]⟩, .string ⟨#[17]⟩] w12 := by rw [← hw12]; exact ((HS10.out.2.2.2.2.2).alloc (by have := (HS10.out.2.2.2.2.2).lt; simp; try omega) _)
  have t5 : Cells B6 [.bool false, .string ⟨#[1]⟩, .string ⟨#[3]⟩] w12 := by
    rw [← hw12, ← hB6]
    have h := cells_new w11 #[.bool false, .string ⟨#[1]⟩, .string ⟨#[3]⟩] 25
    (try simp only at h)
    exact h
  have xB60 : ¬ (B1) = B6 := by have := (HS10.out.2.1).lt; omega
  have xB61 : ¬ (B2) = B6 := by have := (HS10.out.2.2.1).lt; omega
  have xB62 : ¬ (B3) = B6 := by have := (HS10.out.2.2.2.1).lt; omega
  have xB63 : ¬ (B4) = B6 := by have := (HS10.out.2.2.2.2.1).lt; omega
  have xB64 : ¬ (B5) = B6 := by have := (HS10.out.2.2.2.2.2).lt; omega
  have gB6 : w.heap.size ≤ B6 := by have := HS10.out.1.size; omega
  have HS11 := Lib.hid (And.intro f (And.intro t0 (And.intro t1 (And.intro t2 (And.intro t3 (And.intro t4 t5))))))
  rw [hw12]
  (try rw [hB6])
  clear hw12 hB6 f t0 t1 t2 t3 t4 t5
  refine (R7.out _).mono ?_
  rintro e w13 ⟨rfl, c⟩
  have f := HS11.out.1.trans (c.mono HS11.out.1.size)
  have t0 := (HS11.out.2.1).below c (HS11.out.2.1).lt
  have t1 := (HS11.out.2.2.1).below c (HS11.out.2.2.1).lt
  have t2 := (HS11.out.2.2.2.1).below c (HS11.out.2.2.2.1).lt
  have t3 := (HS11.out.2.2.2.2.1).below c (HS11.out.2.2.2.2.1).lt
  have t4 := (HS11.out.2.2.2.2.2.1).below c (HS11.out.2.2.2.2.2.1).lt
  have t5 := (HS11.out.2.2.2.2.2.2).below c (HS11.out.2.2.2.2.2.2).lt
  have HS12 := Lib.hid (And.intro f (And.intro t0 (And.intro t1 (And.intro t2 (And.intro t3 (And.intro t4 t5))))))
  clear c f t0 t1 t2 t3 t4 t5
  have l0 := (HS12.out.2.1).lt
  have m00 := (HS12.out.2.1 0 _ rfl).1
  have m01 := (HS12.out.2.1 1 _ rfl).1
  have m02 := (HS12.out.2.1 2 _ rfl).1
  have l1 := (HS12.out.2.2.1).lt
  have l2 := (HS12.out.2.2.2.1).lt
  have l3 := (HS12.out.2.2.2.2.1).lt
  have l4 := (HS12.out.2.2.2.2.2.1).lt
  have l5 := (HS12.out.2.2.2.2.2.2).lt
  go_wp2_with fail
  clear l0 m00 m01 m02 l1 l2 l3 l4 l5
  obtain ⟨w14, hw14⟩ : ∃ V, (w13.alloc (Obj.cells #[Value.bool false, Value.string ⟨#[1]⟩, Value.string ⟨#[3]⟩] 25)) = V := ⟨_, rfl⟩
  obtain ⟨B7, hB7⟩ : ∃ B, w13.heap.size = B := ⟨_, rfl⟩
  have f : Below w.heap.size w w14 := by rw [← hw14]; exact (HS12.out.1.alloc (by have := HS12.out.1.size; simp; try omega) _)
  have t0 : Cells (B1) [.bool true, .string ⟨#[3]⟩, .string ⟨#[2]⟩] w14 := by rw [← hw14]; exact ((HS12.out.2.1).alloc (by have := (HS12.out.2.1).lt; simp; try omega) _)
  have t1 : Cells (B2) [.bool false, .string ⟨#[1]⟩, .string ⟨#[3]⟩] w14 := by rw [← hw14]; exact ((HS12.out.2.2.1).alloc (by have := (HS12.out.2.2.1).lt; simp; try omega) _)
  have t2 : Cells (B3) [.bool false, .string ⟨#[2]⟩, .string ⟨#[5]⟩] w14 := by rw [← hw14]; exact ((HS12.out.2.2.2.1).alloc (by have := (HS12.out.2.2.2.1).lt; simp; try omega) _)
  have t3 : Cells (B4) [.bool false, .string ⟨#[5]⟩, .string ⟨#[17]⟩] w14 := by rw [← hw14]; exact ((HS12.out.2.2.2.2.1).alloc (by have := (HS12.out.2.2.2.2.1).lt; simp; try omega) _)
  have t4 : Cells (B5) [.bool false, .string ⟨#[6]⟩, .string ⟨#[17]⟩] w14 := by rw [← hw14]; exact ((HS12.out.2.2.2.2.2.1).alloc (by have := (HS12.out.2.2.2.2.2.1).lt; simp; try omega) _)
  have t5 : Cells (B6) [.bool false, .string ⟨#[1]⟩, .string ⟨#[3]⟩] w14 := by rw [← hw14]; exact ((HS12.out.2.2.2.2.2.2).alloc (by have := (HS12.out.2.2.2.2.2.2).lt; simp; try omega) _)
  have t6 : Cells B7 [.bool false, .string ⟨#[1]⟩, .string ⟨#[3]⟩] w14 := by
    rw [← hw14, ← hB7]
    have h := cells_new w13 #[.bool false, .string ⟨#[1]⟩, .string ⟨#[3]⟩] 25
    (try simp only at h)
    exact h
  have xB70 : ¬ (B1) = B7 := by have := (HS12.out.2.1).lt; omega
  have xB71 : ¬ (B2) = B7 := by have := (HS12.out.2.2.1).lt; omega
  have xB72 : ¬ (B3) = B7 := by have := (HS12.out.2.2.2.1).lt; omega
  have xB73 : ¬ (B4) = B7 := by have := (HS12.out.2.2.2.2.1).lt; omega
  have xB74 : ¬ (B5) = B7 := by have := (HS12.out.2.2.2.2.2.1).lt; omega
  have xB75 : ¬ (B6) = B7 := by have := (HS12.out.2.2.2.2.2.2).lt; omega
  have gB7 : w.heap.size ≤ B7 := by have := HS12.out.1.size; omega
  have HS13 := Lib.hid (And.intro f (And.intro t0 (And.intro t1 (And.intro t2 (And.intro t3 (And.intro t4 (And.intro t5 t6)))))))
  rw [hw14]
  (try rw [hB7])
  clear hw14 hB7 f t0 t1 t2 t3 t4 t5 t6
  refine (R8.out _).mono ?_
  rintro e wf ⟨rfl, c⟩
  have f := HS13.out.1.trans (c.mono HS13.out.1.size)
  have t0 := (HS13.out.2.1).below c (HS13.out.2.1).lt
  have t1 := (HS13.out.2.2.1).below c (HS13.out.2.2.1).lt
  have t2 := (HS13.out.2.2.2.1).below c (HS13.out.2.2.2.1).lt
  have t3 := (HS13.out.2.2.2.2.1).below c (HS13.out.2.2.2.2.1).lt
  have t4 := (HS13.out.2.2.2.2.2.1).below c (HS13.out.2.2.2.2.2.1).lt
  have t5 := (HS13.out.2.2.2.2.2.2.1).below c (HS13.out.2.2.2.2.2.2.1).lt
  have t6 := (HS13.out.2.2.2.2.2.2.2).below c (HS13.out.2.2.2.2.2.2.2).lt
  have HSF := Lib.hid (And.intro f (And.intro t0 (And.intro t1 (And.intro t2 (And.intro t3 (And.intro t4 (And.intro t5 t6)))))))
  clear c f t0 t1 t2 t3 t4 t5 t6
  go_wp2_with fail
  refine (R9.out _).mono ?_
  rintro e wg ⟨rfl, c⟩
  have f := HSF.out.1.trans (c.mono HSF.out.1.size)
  have t0 := (HSF.out.2.1).below c (HSF.out.2.1).lt
  have t1 := (HSF.out.2.2.1).below c (HSF.out.2.2.1).lt
  have t2 := (HSF.out.2.2.2.1).below c (HSF.out.2.2.2.1).lt
  have t3 := (HSF.out.2.2.2.2.1).below c (HSF.out.2.2.2.2.1).lt
  have t4 := (HSF.out.2.2.2.2.2.1).below c (HSF.out.2.2.2.2.2.1).lt
  have t5 := (HSF.out.2.2.2.2.2.2.1).below c (HSF.out.2.2.2.2.2.2.1).lt
  have t6 := (HSF.out.2.2.2.2.2.2.2).below c (HSF.out.2.2.2.2.2.2.2).lt
  have HSG := Lib.hid (And.intro f (And.intro t0 (And.intro t1 (And.intro t2 (And.intro t3 (And.intro t4 (And.intro t5 t6)))))))
  clear c f t0 t1 t2 t3 t4 t5 t6
  have l0 := (HSG.out.2.1).lt
  have m00 := (HSG.out.2.1 0 _ rfl).1
  have m01 := (HSG.out.2.1 1 _ rfl).1
  have m02 := (HSG.out.2.1 2 _ rfl).1
  have l1 := (HSG.out.2.2.1).lt
  have l2 := (HSG.out.2.2.2.1).lt
  have l3 := (HSG.out.2.2.2.2.1).lt
  have l4 := (HSG.out.2.2.2.2.2.1).lt
  have l5 := (HSG.out.2.2.2.2.2.2.1).lt
  have m50 := (HSG.out.2.2.2.2.2.2.1 0 _ rfl).1
  have m51 := (HSG.out.2.2.2.2.2.2.1 1 _ rfl).1
  have m52 := (HSG.out.2.2.2.2.2.2.1 2 _ rfl).1
  have l6 := (HSG.out.2.2.2.2.2.2.2).lt
  have m60 := (HSG.out.2.2.2.2.2.2.2 0 _ rfl).1
  have m61 := (HSG.out.2.2.2.2.2.2.2 1 _ rfl).1
  have m62 := (HSG.out.2.2.2.2.2.2.2 2 _ rfl).1
  have q1 := eql_rat
  have q3 := guard_rat
  have e1 : eqR true ⟨#[3]⟩ ⟨#[2]⟩ true ⟨#[3]⟩ ⟨#[2]⟩ = true := by rw [eqR_iff]; simp
  have e2 : eqR false ⟨#[1]⟩ ⟨#[3]⟩ false ⟨#[1]⟩ ⟨#[3]⟩ = true := by rw [eqR_iff]; simp
  go_wp2_with fail
  refine (R10.out _ (tab_of HT.out HSG.out.1)).mono ?_
  rintro e wh ⟨rfl, c⟩
  have HF := Lib.hid (HSG.out.1.trans (c.mono HSG.out.1.size))
  have n60 := ((HSG.out.2.2.2.2.2.2.2).below c (HSG.out.2.2.2.2.2.2.2).lt 0 _ rfl).1
  have n50 := ((HSG.out.2.2.2.2.2.2.1).below c (HSG.out.2.2.2.2.2.2.1).lt 0 _ rfl).1
  have n61 := ((HSG.out.2.2.2.2.2.2.2).below c (HSG.out.2.2.2.2.2.2.2).lt 1 _ rfl).1
  have n51 := ((HSG.out.2.2.2.2.2.2.1).below c (HSG.out.2.2.2.2.2.2.1).lt 1 _ rfl).1
  have n62 := ((HSG.out.2.2.2.2.2.2.2).below c (HSG.out.2.2.2.2.2.2.2).lt 2 _ rfl).1
  have n52 := ((HSG.out.2.2.2.2.2.2.1).below c (HSG.out.2.2.2.2.2.2.1).lt 2 _ rfl).1
  clear c
  go_wp2_with fail
  go_ret
  exact ⟨rfl, HF.out⟩

end Go.Proofs.YtpdhffjdgnpikaaGreatDoor
