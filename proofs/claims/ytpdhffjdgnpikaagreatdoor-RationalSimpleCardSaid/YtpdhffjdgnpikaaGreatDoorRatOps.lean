/- The contracts of rational.opposite, Neg, Of, Sign, Floor. -/
import Derived.Test.YtpdhffjdgnpikaaGreatDoorRatCan
import Derived.Test.YtpdhffjdgnpikaaGreatDoorRatEq
namespace Go.Proofs.YtpdhffjdgnpikaaGreatDoor
open Go.RowKit Go.Shelf

theorem field_num (b c : Bool) (s d : ByteArray) (W : World) : (Instr.field 60 (.agg #[.bool b, .string s, .bool c, .string d]) 0).run Tryz.prog W = .ok (.agg #[.bool b, .string s]) W := by
  simp [Instr.field, run_underlying Tryz.underlying60, part, asAgg, go_sem]

set_option maxHeartbeats 2000000 in
set_option maxRecDepth 100000 in
theorem opposite_rat (b : Bool) (s t : ByteArray) (w : World) :
    Calls Tryz.prog 66 #[.agg #[.bool b, .string s, .string t]] w fun e w' => e = .returned (.agg #[.bool (!b), .string s, .string t]) ∧ Below w.heap.size w w' := by
  go_enter Tryz.func66, Tryz.ntmps66
  go_wp2_with fail
  obtain ⟨W0, hW0⟩ : ∃ V, ((w.alloc (Obj.cells #[Value.bool b, Value.string s, Value.string t] 25)).alloc (Obj.cells #[Value.bool (!b), Value.string s, Value.string t] 25)) = V := ⟨_, rfl⟩
  have sW0 : W0.heap.size = w.heap.size + 1 + 1 := by rw [← hW0]; simp
  have k0 : Cells (w.heap.size) [.bool b, .string s, .string t] W0 := by
    rw [← hW0]
    have h := cells_new w #[.bool b, .string s, .string t] 25
    exact (h.alloc (by simp; try omega) _)
  have k1 : Cells (w.heap.size + 1) [.bool (!b), .string s, .string t] W0 := by
    rw [← hW0]
    have h := cells_new (w.alloc (Obj.cells #[Value.bool b, Value.string s, Value.string t] 25)) #[.bool (!b), .string s, .string t] 25
    simp only [World.size_alloc] at h
    exact h
  have bW0 : Below w.heap.size w W0 := by
    rw [← hW0]
    exact (((Below.refl _ _).alloc (Nat.le_refl _) _).alloc (by simp; try omega) _)
  rw [hW0]
  clear hW0
  have HS0 := Lib.hid (And.intro bW0 (And.intro k0 k1))
  clear bW0 k0 k1
  have y0 := (HS0.out.2.2 0 _ rfl).1
  have y1 := (HS0.out.2.2 1 _ rfl).1
  have y2 := (HS0.out.2.2 2 _ rfl).1
  refine bodyPost_ret (v := .agg #[.bool (!b), .string s, .string t]) (by simp [results, Tryz.results66, go_sem, y0, y1, y2]) rfl ⟨rfl, HS0.out.1⟩

set_option maxHeartbeats 2000000 in
set_option maxRecDepth 100000 in
theorem of_rat (n : Int) (b' : Bool) (s' t' : ByteArray) (h1 : -9223372036854775808 ≤ n) (h2 : n ≤ 9223372036854775807) (m : RNam b' s' t' (mkRat n 1)) (w : World) :
    Calls Tryz.prog 21 #[.int .i64 n] w fun e w' => e = .returned (.agg #[.bool b', .string s', .string t']) ∧ Below w.heap.size w w' := by
  have R1 := Lib.hid (fun W => fnumber_any n 1 h1 h2 (by omega) (by omega) m W)
  clear m
  go_enter Tryz.func21, Tryz.ntmps21
  go_wp2_with fail
  obtain ⟨W0, hW0⟩ : ∃ V, (w.alloc (Obj.cells #[Value.bool false, Value.string ⟨#[]⟩, Value.string ⟨#[]⟩] 25)) = V := ⟨_, rfl⟩
  have sW0 : W0.heap.size = w.heap.size + 1 := by rw [← hW0]; simp
  have k0 : Cells (w.heap.size) [.bool false, .string ⟨#[]⟩, .string ⟨#[]⟩] W0 := by
    rw [← hW0]
    have h := cells_new w #[.bool false, .string ⟨#[]⟩, .string ⟨#[]⟩] 25
    exact h
  have bW0 : Below w.heap.size w W0 := by
    rw [← hW0]
    exact ((Below.refl _ _).alloc (Nat.le_refl _) _)
  rw [hW0]
  clear hW0
  have HS0 := Lib.hid (And.intro bW0 k0)
  clear bW0 k0
  refine (R1.out _).mono ?_
  rintro e w1 ⟨rfl, c⟩
  have f := HS0.out.1.trans (c.mono HS0.out.1.size)
  have t0 := (HS0.out.2).below c (HS0.out.2).lt
  have HS1 := Lib.hid (And.intro f t0)
  clear c f t0
  have l0 := (HS1.out.2).lt
  have m00 := (HS1.out.2 0 _ rfl).1
  have z00 := (HS1.out.2 0 _ rfl).2
  have m01 := (HS1.out.2 1 _ rfl).1
  have z01 := (HS1.out.2 1 _ rfl).2
  have m02 := (HS1.out.2 2 _ rfl).1
  have z02 := (HS1.out.2 2 _ rfl).2
  go_wp2_with fail
  clear l0 m00 z00 m01 z01 m02 z02
  obtain ⟨w2, hw2⟩ : ∃ V, (((w1.setCell ⟨w.heap.size, 0, none⟩ (Value.bool b')).setCell ⟨w.heap.size, 1, none⟩ (Value.string s')).setCell ⟨w.heap.size, 2, none⟩ (Value.string t')) = V := ⟨_, rfl⟩
  have f : Below w.heap.size w w2 := by rw [← hw2]; exact (below_sets (below_sets (below_sets HS1.out.1 (by first | assumption | exact Nat.le_refl _ | omega) 0 (Value.bool b')) (by first | assumption | exact Nat.le_refl _ | omega) 1 (Value.string s')) (by first | assumption | exact Nat.le_refl _ | omega) 2 (Value.string t'))
  have t0 : Cells (w.heap.size) [.bool b', .string s', .string t'] w2 := by rw [← hw2]; exact ((((((HS1.out.2).set (k := 0) (Value.bool b') _ rfl)).set (k := 1) (Value.string s') _ rfl)).set (k := 2) (Value.string t') _ rfl)
  have HS2 := Lib.hid (And.intro f t0)
  rw [hw2]
  clear hw2 f t0
  have y0 := (HS2.out.2 0 _ rfl).1
  have y1 := (HS2.out.2 1 _ rfl).1
  have y2 := (HS2.out.2 2 _ rfl).1
  refine bodyPost_ret (v := .agg #[.bool b', .string s', .string t']) (by simp [results, Tryz.results21, go_sem, y0, y1, y2]) rfl ⟨rfl, HS2.out.1⟩

set_option maxHeartbeats 2000000 in
set_option maxRecDepth 100000 in
theorem neg_rat (b : Bool) (s t : ByteArray) (b' : Bool) (s' t' : ByteArray) (hs : s.size ≤ 262144) (ht : t.size ≤ 262144) (m : RNam b' s' t' (rval (!b) s t)) (w : World) :
    Calls Tryz.prog 27 #[.agg #[.bool b, .string s, .string t]] w fun e w' => e = .returned (.agg #[.bool b', .string s', .string t']) ∧ Below w.heap.size w w' := by
  have R1 := Lib.hid (fun W => opposite_rat b s t W)
  have R2 := Lib.hid (fun W => ratcan_any (!b) s t b' s' t' hs ht m W)
  clear m
  go_enter Tryz.func27, Tryz.ntmps27
  go_wp2_with fail
  obtain ⟨W0, hW0⟩ : ∃ V, ((w.alloc (Obj.cells #[Value.bool b, Value.string s, Value.string t] 25)).alloc (Obj.cells #[Value.bool false, Value.string ⟨#[]⟩, Value.string ⟨#[]⟩] 25)) = V := ⟨_, rfl⟩
  have sW0 : W0.heap.size = w.heap.size + 1 + 1 := by rw [← hW0]; simp
  have k0 : Cells (w.heap.size) [.bool b, .string s, .string t] W0 := by
    rw [← hW0]
    have h := cells_new w #[.bool b, .string s, .string t] 25
    exact (h.alloc (by simp; try omega) _)
  have k1 : Cells (w.heap.size + 1) [.bool false, .string ⟨#[]⟩, .string ⟨#[]⟩] W0 := by
    rw [← hW0]
    have h := cells_new (w.alloc (Obj.cells #[Value.bool b, Value.string s, Value.string t] 25)) #[.bool false, .string ⟨#[]⟩, .string ⟨#[]⟩] 25
    simp only [World.size_alloc] at h
    exact h
  have bW0 : Below w.heap.size w W0 := by
    rw [← hW0]
    exact (((Below.refl _ _).alloc (Nat.le_refl _) _).alloc (by simp; try omega) _)
  rw [hW0]
  clear hW0
  have HS0 := Lib.hid (And.intro bW0 (And.intro k0 k1))
  clear bW0 k0 k1
  refine (R1.out _).mono ?_
  rintro e w1 ⟨rfl, c⟩
  have f := HS0.out.1.trans (c.mono HS0.out.1.size)
  have t0 := (HS0.out.2.1).below c (HS0.out.2.1).lt
  have t1 := (HS0.out.2.2).below c (HS0.out.2.2).lt
  have HS1 := Lib.hid (And.intro f (And.intro t0 t1))
  clear c f t0 t1
  go_wp2_with fail
  refine (R2.out _).mono ?_
  rintro e w2 ⟨rfl, c⟩
  have f := HS1.out.1.trans (c.mono HS1.out.1.size)
  have t0 := (HS1.out.2.1).below c (HS1.out.2.1).lt
  have t1 := (HS1.out.2.2).below c (HS1.out.2.2).lt
  have HS2 := Lib.hid (And.intro f (And.intro t0 t1))
  clear c f t0 t1
  have l0 := (HS2.out.2.1).lt
  have l1 := (HS2.out.2.2).lt
  have m10 := (HS2.out.2.2 0 _ rfl).1
  have z10 := (HS2.out.2.2 0 _ rfl).2
  have m11 := (HS2.out.2.2 1 _ rfl).1
  have z11 := (HS2.out.2.2 1 _ rfl).2
  have m12 := (HS2.out.2.2 2 _ rfl).1
  have z12 := (HS2.out.2.2 2 _ rfl).2
  go_wp2_with fail
  clear l0 l1 m10 z10 m11 z11 m12 z12
  obtain ⟨w3, hw3⟩ : ∃ V, (((w2.setCell ⟨w.heap.size + 1, 0, none⟩ (Value.bool b')).setCell ⟨w.heap.size + 1, 1, none⟩ (Value.string s')).setCell ⟨w.heap.size + 1, 2, none⟩ (Value.string t')) = V := ⟨_, rfl⟩
  have f : Below w.heap.size w w3 := by rw [← hw3]; exact (below_sets (below_sets (below_sets HS2.out.1 (by first | assumption | exact Nat.le_refl _ | omega) 0 (Value.bool b')) (by first | assumption | exact Nat.le_refl _ | omega) 1 (Value.string s')) (by first | assumption | exact Nat.le_refl _ | omega) 2 (Value.string t'))
  have t0 : Cells (w.heap.size) [.bool b, .string s, .string t] w3 := by rw [← hw3]; exact ((((((HS2.out.2.1).other (by omega))).other (by omega))).other (by omega))
  have t1 : Cells (w.heap.size + 1) [.bool b', .string s', .string t'] w3 := by rw [← hw3]; exact ((((((HS2.out.2.2).set (k := 0) (Value.bool b') _ rfl)).set (k := 1) (Value.string s') _ rfl)).set (k := 2) (Value.string t') _ rfl)
  have HS3 := Lib.hid (And.intro f (And.intro t0 t1))
  rw [hw3]
  clear hw3 f t0 t1
  have y0 := (HS3.out.2.2 0 _ rfl).1
  have y1 := (HS3.out.2.2 1 _ rfl).1
  have y2 := (HS3.out.2.2 2 _ rfl).1
  refine bodyPost_ret (v := .agg #[.bool b', .string s', .string t']) (by simp [results, Tryz.results27, go_sem, y0, y1, y2]) rfl ⟨rfl, HS3.out.1⟩

set_option maxHeartbeats 2000000 in
set_option maxRecDepth 100000 in
theorem sign_rat (b : Bool) (s t : ByteArray) (hs : s.size ≤ 262144) (ht : t.size ≤ 262144) (w : World) :
    Calls Tryz.prog 37 #[.agg #[.bool b, .string s, .string t]] w fun e w' => e = .returned (.int .i64 (cmpZ (ival b s) 0)) ∧ Below w.heap.size w w' := by
  have R1 := Lib.hid (fun W => quotientOf_any b s t W (by omega))
  have R2 := Lib.hid (fun W => cmp_val (show Val b s (ival b s) from ⟨rfl, hs⟩) (show Val false ⟨#[]⟩ 0 from ⟨rfl, Nat.zero_le _⟩) _ rfl W)
  go_enter Tryz.func37, Tryz.ntmps37
  go_wp2_with fail
  obtain ⟨W0, hW0⟩ : ∃ V, (w.alloc (Obj.cells #[Value.bool b, Value.string s, Value.string t] 25)) = V := ⟨_, rfl⟩
  have sW0 : W0.heap.size = w.heap.size + 1 := by rw [← hW0]; simp
  have k0 : Cells (w.heap.size) [.bool b, .string s, .string t] W0 := by
    rw [← hW0]
    have h := cells_new w #[.bool b, .string s, .string t] 25
    exact h
  have bW0 : Below w.heap.size w W0 := by
    rw [← hW0]
    exact ((Below.refl _ _).alloc (Nat.le_refl _) _)
  rw [hW0]
  clear hW0
  have HS0 := Lib.hid (And.intro bW0 k0)
  clear bW0 k0
  refine (R1.out _).mono ?_
  rintro e w1 ⟨rfl, c⟩
  have f := HS0.out.1.trans (c.mono HS0.out.1.size)
  have t0 := (HS0.out.2).below c (HS0.out.2).lt
  have HS1 := Lib.hid (And.intro f t0)
  clear c f t0
  have hfn := fun W => field_num b false s (dvs t) W
  go_wp2_with fail
  refine (R2.out _).mono ?_
  rintro e w2 ⟨rfl, c⟩
  have f := HS1.out.1.trans (c.mono HS1.out.1.size)
  have t0 := (HS1.out.2).below c (HS1.out.2).lt
  have HS2 := Lib.hid (And.intro f t0)
  clear c f t0
  go_wp2_with fail
  go_ret
  exact ⟨rfl, HS2.out.1⟩

set_option maxHeartbeats 2000000 in
set_option maxRecDepth 100000 in
theorem floor_rat (b : Bool) (s t : ByteArray) (hs : s.size ≤ 262144) (ht : t.size ≤ 262144) (q r : Int) (bq br : Bool) (sq sr : ByteArray) (hd : IsDiv (ival b s) (rden t : Int) q r) (nq : Nam bq sq q) (nr : Nam br sr r) (w : World) :
    Calls Tryz.prog 41 #[.agg #[.bool b, .string s, .string t]] w fun e w' => e = .returned (.agg #[.bool bq, .string sq]) ∧ Below w.heap.size w w' := by
  have R1 := Lib.hid (fun W => quotientOf_any b s t W (by omega))
  have R2 := Lib.hid (fun W => divAll_val (show Val b s (ival b s) from ⟨rfl, hs⟩) (show Val false (dvs t) (rden t : Int) from ⟨dvs_val t, dvs_size t 262144 ht (by omega)⟩) (by have := rden_pos t; omega) hd nq nr W)
  go_enter Tryz.func41, Tryz.ntmps41
  go_wp2_with fail
  obtain ⟨W0, hW0⟩ : ∃ V, ((w.alloc (Obj.cells #[Value.bool b, Value.string s, Value.string t] 25)).alloc (Obj.cells #[Value.bool false, Value.string ⟨#[]⟩] 23)) = V := ⟨_, rfl⟩
  have sW0 : W0.heap.size = w.heap.size + 1 + 1 := by rw [← hW0]; simp
  have k0 : Cells (w.heap.size) [.bool b, .string s, .string t] W0 := by
    rw [← hW0]
    have h := cells_new w #[.bool b, .string s, .string t] 25
    exact (h.alloc (by simp; try omega) _)
  have k1 : Cells (w.heap.size + 1) [.bool false, .string ⟨#[]⟩] W0 := by
    rw [← hW0]
    have h := cells_new (w.alloc (Obj.cells #[Value.bool b, Value.string s, Value.string t] 25)) #[.bool false, .string ⟨#[]⟩] 23
    simp only [World.size_alloc] at h
    exact h
  have bW0 : Below w.heap.size w W0 := by
    rw [← hW0]
    exact (((Below.refl _ _).alloc (Nat.le_refl _) _).alloc (by simp; try omega) _)
  rw [hW0]
  clear hW0
  have HS0 := Lib.hid (And.intro bW0 (And.intro k0 k1))
  clear bW0 k0 k1
  refine (R1.out _).mono ?_
  rintro e w1 ⟨rfl, c⟩
  have f := HS0.out.1.trans (c.mono HS0.out.1.size)
  have t0 := (HS0.out.2.1).below c (HS0.out.2.1).lt
  have t1 := (HS0.out.2.2).below c (HS0.out.2.2).lt
  have HS1 := Lib.hid (And.intro f (And.intro t0 t1))
  clear c f t0 t1
  have l0 := (HS1.out.2.1).lt
  have l1 := (HS1.out.2.2).lt
  go_wp2_with fail
  clear l0 l1
  obtain ⟨w2, hw2⟩ : ∃ V, (w1.alloc (Obj.cells #[Value.bool b, Value.string s, Value.bool false, Value.string (dvs t)] 60)) = V := ⟨_, rfl⟩
  obtain ⟨B2, hB2⟩ : ∃ B, w1.heap.size = B := ⟨_, rfl⟩
  have f : Below w.heap.size w w2 := by rw [← hw2]; exact (HS1.out.1.alloc (by have := HS1.out.1.size; simp; try omega) _)
  have t0 : Cells (w.heap.size) [.bool b, .string s, .string t] w2 := by rw [← hw2]; exact ((HS1.out.2.1).alloc (by have := (HS1.out.2.1).lt; simp; try omega) _)
  have t1 : Cells (w.heap.size + 1) [.bool false, .string ⟨#[]⟩] w2 := by rw [← hw2]; exact ((HS1.out.2.2).alloc (by have := (HS1.out.2.2).lt; simp; try omega) _)
  have t2 : Cells B2 [.bool b, .string s, .bool false, .string (dvs t)] w2 := by
    rw [← hw2, ← hB2]
    have h := cells_new w1 #[.bool b, .string s, .bool false, .string (dvs t)] 60
    (try simp only at h)
    exact h
  have xB20 : ¬ (w.heap.size) = B2 := by have := (HS1.out.2.1).lt; omega
  have xB21 : ¬ (w.heap.size + 1) = B2 := by have := (HS1.out.2.2).lt; omega
  have gB2 : w.heap.size ≤ B2 := by have := HS1.out.1.size; omega
  have HS2 := Lib.hid (And.intro f (And.intro t0 (And.intro t1 t2)))
  rw [hw2]
  (try rw [hB2])
  clear hw2 hB2 f t0 t1 t2
  refine (R2.out _).mono ?_
  rintro e w3 ⟨rfl, c⟩
  have f := HS2.out.1.trans (c.mono HS2.out.1.size)
  have t0 := (HS2.out.2.1).below c (HS2.out.2.1).lt
  have t1 := (HS2.out.2.2.1).below c (HS2.out.2.2.1).lt
  have t2 := (HS2.out.2.2.2).below c (HS2.out.2.2.2).lt
  have HS3 := Lib.hid (And.intro f (And.intro t0 (And.intro t1 t2)))
  clear c f t0 t1 t2
  have l0 := (HS3.out.2.1).lt
  have l1 := (HS3.out.2.2.1).lt
  have m10 := (HS3.out.2.2.1 0 _ rfl).1
  have z10 := (HS3.out.2.2.1 0 _ rfl).2
  have m11 := (HS3.out.2.2.1 1 _ rfl).1
  have z11 := (HS3.out.2.2.1 1 _ rfl).2
  have l2 := (HS3.out.2.2.2).lt
  have m20 := (HS3.out.2.2.2 0 _ rfl).1
  have m21 := (HS3.out.2.2.2 1 _ rfl).1
  have m22 := (HS3.out.2.2.2 2 _ rfl).1
  have m23 := (HS3.out.2.2.2 3 _ rfl).1
  go_wp2_with fail
  clear l0 l1 m10 z10 m11 z11 l2 m20 m21 m22 m23
  obtain ⟨w4, hw4⟩ : ∃ V, ((w3.setCell ⟨w.heap.size + 1, 0, none⟩ (Value.bool bq)).setCell ⟨w.heap.size + 1, 1, none⟩ (Value.string sq)) = V := ⟨_, rfl⟩
  have f : Below w.heap.size w w4 := by rw [← hw4]; exact (below_sets (below_sets HS3.out.1 (by first | assumption | exact Nat.le_refl _ | omega) 0 (Value.bool bq)) (by first | assumption | exact Nat.le_refl _ | omega) 1 (Value.string sq))
  have t0 : Cells (w.heap.size) [.bool b, .string s, .string t] w4 := by rw [← hw4]; exact ((((HS3.out.2.1).other (by omega))).other (by omega))
  have t1 : Cells (w.heap.size + 1) [.bool bq, .string sq] w4 := by rw [← hw4]; exact ((((HS3.out.2.2.1).set (k := 0) (Value.bool bq) _ rfl)).set (k := 1) (Value.string sq) _ rfl)
  have t2 : Cells (B2) [.bool b, .string s, .bool false, .string (dvs t)] w4 := by rw [← hw4]; exact ((((HS3.out.2.2.2).other (by omega))).other (by omega))
  have HS4 := Lib.hid (And.intro f (And.intro t0 (And.intro t1 t2)))
  rw [hw4]
  clear hw4 f t0 t1 t2
  obtain ⟨w5, hw5⟩ : ∃ V, ((w4.alloc (Obj.cells #[Value.bool bq, Value.string sq] 23)).alloc (Obj.cells #[Value.bool br, Value.string sr] 23)) = V := ⟨_, rfl⟩
  obtain ⟨B8, hB8⟩ : ∃ B, w4.heap.size = B := ⟨_, rfl⟩
  obtain ⟨B9, hB9⟩ : ∃ B, B8 + 1 = B := ⟨_, rfl⟩
  have f : Below w.heap.size w w5 := by rw [← hw5]; exact ((HS4.out.1.alloc (by have := HS4.out.1.size; simp; try omega) _).alloc (by have := HS4.out.1.size; simp; try omega) _)
  have t0 : Cells (w.heap.size) [.bool b, .string s, .string t] w5 := by rw [← hw5]; exact ((((HS4.out.2.1).alloc (by have := (HS4.out.2.1).lt; simp; try omega) _)).alloc (by have := (HS4.out.2.1).lt; simp; try omega) _)
  have t1 : Cells (w.heap.size + 1) [.bool bq, .string sq] w5 := by rw [← hw5]; exact ((((HS4.out.2.2.1).alloc (by have := (HS4.out.2.2.1).lt; simp; try omega) _)).alloc (by have := (HS4.out.2.2.1).lt; simp; try omega) _)
  have t2 : Cells (B2) [.bool b, .string s, .bool false, .string (dvs t)] w5 := by rw [← hw5]; exact ((((HS4.out.2.2.2).alloc (by have := (HS4.out.2.2.2).lt; simp; try omega) _)).alloc (by have := (HS4.out.2.2.2).lt; simp; try omega) _)
  have t3 : Cells B8 [.bool bq, .string sq] w5 := by
    rw [← hw5, ← hB8]
    have h := cells_new w4 #[.bool bq, .string sq] 23
    (try simp only at h)
    exact (h.alloc (by simp; try omega) _)
  have t4 : Cells B9 [.bool br, .string sr] w5 := by
    rw [← hw5, ← hB9, ← hB8]
    have h := cells_new (w4.alloc (Obj.cells #[Value.bool bq, Value.string sq] 23)) #[.bool br, .string sr] 23
    (try simp only [World.size_alloc] at h)
    exact h
  have xB80 : ¬ (w.heap.size) = B8 := by have := (HS4.out.2.1).lt; omega
  have xB81 : ¬ (w.heap.size + 1) = B8 := by have := (HS4.out.2.2.1).lt; omega
  have xB82 : ¬ (B2) = B8 := by have := (HS4.out.2.2.2).lt; omega
  have gB8 : w.heap.size ≤ B8 := by have := HS4.out.1.size; omega
  have xB90 : ¬ (w.heap.size) = B9 := by have := (HS4.out.2.1).lt; omega
  have xB91 : ¬ (w.heap.size + 1) = B9 := by have := (HS4.out.2.2.1).lt; omega
  have xB92 : ¬ (B2) = B9 := by have := (HS4.out.2.2.2).lt; omega
  have xB93 : ¬ B8 = B9 := by omega
  have gB9 : w.heap.size ≤ B9 := by have := HS4.out.1.size; omega
  have HS5 := Lib.hid (And.intro f (And.intro t0 (And.intro t1 (And.intro t2 (And.intro t3 t4)))))
  rw [hw5]
  (try rw [hB8, hB9])
  clear hw5 hB9 hB8 f t0 t1 t2 t3 t4
  have y0 := (HS5.out.2.2.1 0 _ rfl).1
  have y1 := (HS5.out.2.2.1 1 _ rfl).1
  refine bodyPost_ret (v := .agg #[.bool bq, .string sq]) (by simp [results, Tryz.results41, go_sem, y0, y1]) rfl ⟨rfl, HS5.out.1⟩

set_option maxHeartbeats 2000000 in
set_option maxRecDepth 100000 in
theorem ceil_rat (b : Bool) (s t : ByteArray) (hs : s.size ≤ 262144) (ht : t.size ≤ 262144) (q r : Int) (bq br bz : Bool) (sq sr sz : ByteArray) (hd : IsDiv (ival (!b) s) (rden t : Int) q r) (nq : Nam bq sq q) (nr : Nam br sr r) (nz : Nam bz sz (-q)) (hq : sq.size ≤ 262144) (w : World) :
    Calls Tryz.prog 43 #[.agg #[.bool b, .string s, .string t]] w fun e w' => e = .returned (.agg #[.bool bz, .string sz]) ∧ Below w.heap.size w w' := by
  have R1 := Lib.hid (fun W => opposite_rat b s t W)
  have R2 := Lib.hid (fun W => floor_rat (!b) s t hs ht q r bq br sq sr hd nq nr W)
  have R3 := Lib.hid (fun W => neg_val (nam_val nq hq) rfl nz W)
  clear hd nq nr nz
  go_enter Tryz.func43, Tryz.ntmps43
  go_wp2_with fail
  obtain ⟨W0, hW0⟩ : ∃ V, ((w.alloc (Obj.cells #[Value.bool b, Value.string s, Value.string t] 25)).alloc (Obj.cells #[Value.bool false, Value.string ⟨#[]⟩] 23)) = V := ⟨_, rfl⟩
  have sW0 : W0.heap.size = w.heap.size + 1 + 1 := by rw [← hW0]; simp
  have k0 : Cells (w.heap.size) [.bool b, .string s, .string t] W0 := by
    rw [← hW0]
    have h := cells_new w #[.bool b, .string s, .string t] 25
    exact (h.alloc (by simp; try omega) _)
  have k1 : Cells (w.heap.size + 1) [.bool false, .string ⟨#[]⟩] W0 := by
    rw [← hW0]
    have h := cells_new (w.alloc (Obj.cells #[Value.bool b, Value.string s, Value.string t] 25)) #[.bool false, .string ⟨#[]⟩] 23
    simp only [World.size_alloc] at h
    exact h
  have bW0 : Below w.heap.size w W0 := by
    rw [← hW0]
    exact (((Below.refl _ _).alloc (Nat.le_refl _) _).alloc (by simp; try omega) _)
  rw [hW0]
  clear hW0
  have HS0 := Lib.hid (And.intro bW0 (And.intro k0 k1))
  clear bW0 k0 k1
  refine (R1.out _).mono ?_
  rintro e w1 ⟨rfl, c⟩
  have f := HS0.out.1.trans (c.mono HS0.out.1.size)
  have t0 := (HS0.out.2.1).below c (HS0.out.2.1).lt
  have t1 := (HS0.out.2.2).below c (HS0.out.2.2).lt
  have HS1 := Lib.hid (And.intro f (And.intro t0 t1))
  clear c f t0 t1
  go_wp2_with fail
  refine (R2.out _).mono ?_
  rintro e w2 ⟨rfl, c⟩
  have f := HS1.out.1.trans (c.mono HS1.out.1.size)
  have t0 := (HS1.out.2.1).below c (HS1.out.2.1).lt
  have t1 := (HS1.out.2.2).below c (HS1.out.2.2).lt
  have HS2 := Lib.hid (And.intro f (And.intro t0 t1))
  clear c f t0 t1
  go_wp2_with fail
  refine (R3.out _).mono ?_
  rintro e w3 ⟨rfl, c⟩
  have f := HS2.out.1.trans (c.mono HS2.out.1.size)
  have t0 := (HS2.out.2.1).below c (HS2.out.2.1).lt
  have t1 := (HS2.out.2.2).below c (HS2.out.2.2).lt
  have HS3 := Lib.hid (And.intro f (And.intro t0 t1))
  clear c f t0 t1
  have l0 := (HS3.out.2.1).lt
  have l1 := (HS3.out.2.2).lt
  have m10 := (HS3.out.2.2 0 _ rfl).1
  have z10 := (HS3.out.2.2 0 _ rfl).2
  have m11 := (HS3.out.2.2 1 _ rfl).1
  have z11 := (HS3.out.2.2 1 _ rfl).2
  go_wp2_with fail
  clear l0 l1 m10 z10 m11 z11
  obtain ⟨w4, hw4⟩ : ∃ V, ((w3.setCell ⟨w.heap.size + 1, 0, none⟩ (Value.bool bz)).setCell ⟨w.heap.size + 1, 1, none⟩ (Value.string sz)) = V := ⟨_, rfl⟩
  have f : Below w.heap.size w w4 := by rw [← hw4]; exact (below_sets (below_sets HS3.out.1 (by first | assumption | exact Nat.le_refl _ | omega) 0 (Value.bool bz)) (by first | assumption | exact Nat.le_refl _ | omega) 1 (Value.string sz))
  have t0 : Cells (w.heap.size) [.bool b, .string s, .string t] w4 := by rw [← hw4]; exact ((((HS3.out.2.1).other (by omega))).other (by omega))
  have t1 : Cells (w.heap.size + 1) [.bool bz, .string sz] w4 := by rw [← hw4]; exact ((((HS3.out.2.2).set (k := 0) (Value.bool bz) _ rfl)).set (k := 1) (Value.string sz) _ rfl)
  have HS4 := Lib.hid (And.intro f (And.intro t0 t1))
  rw [hw4]
  clear hw4 f t0 t1
  have y0 := (HS4.out.2.2 0 _ rfl).1
  have y1 := (HS4.out.2.2 1 _ rfl).1
  refine bodyPost_ret (v := .agg #[.bool bz, .string sz]) (by simp [results, Tryz.results43, go_sem, y0, y1]) rfl ⟨rfl, HS4.out.1⟩

set_option maxHeartbeats 2000000 in
set_option maxRecDepth 100000 in
theorem new_rat (b c : Bool) (s t : ByteArray) (b' : Bool) (s' t' : ByteArray) (hs : s.size ≤ 262144) (ht : t.size ≤ 262144) (h0 : beVal t.data.toList ≠ 0) (m : RNam b' s' t' (rval (b != c) s t)) (w : World) :
    Calls Tryz.prog 17 #[.agg #[.bool b, .string s], .agg #[.bool c, .string t]] w fun e w' => e = .returned (.tuple #[.agg #[.bool b', .string s', .string t'], .int .i64 0]) ∧ Below w.heap.size w w' := by
  have R1 := Lib.hid (fun W => bits_any c t W (by omega))
  have R2 := Lib.hid (fun W => ratcan_any (!(b == c)) s t b' s' t' hs ht m W)
  obtain ⟨k, hk⟩ : ∃ k, bl (beVal t.data.toList) = k := ⟨_, rfl⟩
  have hk0 : ¬ (k : Int) = 0 := by
    rw [← hk]
    unfold bl
    rw [if_neg h0]
    omega
  rw [hk] at R1
  clear m hk
  go_enter Tryz.func17, Tryz.ntmps17
  go_wp2_with fail
  obtain ⟨W0, hW0⟩ : ∃ V, (((w.alloc (Obj.cells #[Value.bool b, Value.string s] 23)).alloc (Obj.cells #[Value.bool c, Value.string t] 23)).alloc (Obj.cells #[Value.bool false, Value.string ⟨#[]⟩, Value.string ⟨#[]⟩] 25)) = V := ⟨_, rfl⟩
  have sW0 : W0.heap.size = w.heap.size + 1 + 1 + 1 := by rw [← hW0]; simp
  have k0 : Cells (w.heap.size) [.bool b, .string s] W0 := by
    rw [← hW0]
    have h := cells_new w #[.bool b, .string s] 23
    exact ((h.alloc (by simp; try omega) _).alloc (by simp; try omega) _)
  have k1 : Cells (w.heap.size + 1) [.bool c, .string t] W0 := by
    rw [← hW0]
    have h := cells_new (w.alloc (Obj.cells #[Value.bool b, Value.string s] 23)) #[.bool c, .string t] 23
    simp only [World.size_alloc] at h
    exact (h.alloc (by simp; try omega) _)
  have k2 : Cells (w.heap.size + 1 + 1) [.bool false, .string ⟨#[]⟩, .string ⟨#[]⟩] W0 := by
    rw [← hW0]
    have h := cells_new ((w.alloc (Obj.cells #[Value.bool b, Value.string s] 23)).alloc (Obj.cells #[Value.bool c, Value.string t] 23)) #[.bool false, .string ⟨#[]⟩, .string ⟨#[]⟩] 25
    simp only [World.size_alloc] at h
    exact h
  have bW0 : Below w.heap.size w W0 := by
    rw [← hW0]
    exact ((((Below.refl _ _).alloc (Nat.le_refl _) _).alloc (by simp; try omega) _).alloc (by simp; try omega) _)
  rw [hW0]
  clear hW0
  have HS0 := Lib.hid (And.intro bW0 (And.intro k0 (And.intro k1 k2)))
  clear bW0 k0 k1 k2
  refine (R1.out _).mono ?_
  rintro e w1 ⟨rfl, c⟩
  have f := HS0.out.1.trans (c.mono HS0.out.1.size)
  have t0 := (HS0.out.2.1).below c (HS0.out.2.1).lt
  have t1 := (HS0.out.2.2.1).below c (HS0.out.2.2.1).lt
  have t2 := (HS0.out.2.2.2).below c (HS0.out.2.2.2).lt
  have HS1 := Lib.hid (And.intro f (And.intro t0 (And.intro t1 t2)))
  clear c f t0 t1 t2
  have l0 := (HS1.out.2.1).lt
  have m00 := (HS1.out.2.1 0 _ rfl).1
  have m01 := (HS1.out.2.1 1 _ rfl).1
  have l1 := (HS1.out.2.2.1).lt
  have m10 := (HS1.out.2.2.1 0 _ rfl).1
  have m11 := (HS1.out.2.2.1 1 _ rfl).1
  have l2 := (HS1.out.2.2.2).lt
  go_wp2_with fail
  clear l0 m00 m01 l1 m10 m11 l2
  refine (R2.out _).mono ?_
  rintro e w2 ⟨rfl, c⟩
  have f := HS1.out.1.trans (c.mono HS1.out.1.size)
  have t0 := (HS1.out.2.1).below c (HS1.out.2.1).lt
  have t1 := (HS1.out.2.2.1).below c (HS1.out.2.2.1).lt
  have t2 := (HS1.out.2.2.2).below c (HS1.out.2.2.2).lt
  have HS2 := Lib.hid (And.intro f (And.intro t0 (And.intro t1 t2)))
  clear c f t0 t1 t2
  have l0 := (HS2.out.2.1).lt
  have l1 := (HS2.out.2.2.1).lt
  have l2 := (HS2.out.2.2.2).lt
  have m20 := (HS2.out.2.2.2 0 _ rfl).1
  have z20 := (HS2.out.2.2.2 0 _ rfl).2
  have m21 := (HS2.out.2.2.2 1 _ rfl).1
  have z21 := (HS2.out.2.2.2 1 _ rfl).2
  have m22 := (HS2.out.2.2.2 2 _ rfl).1
  have z22 := (HS2.out.2.2.2 2 _ rfl).2
  go_wp2_with fail
  clear l0 l1 l2 m20 z20 m21 z21 m22 z22
  obtain ⟨w3, hw3⟩ : ∃ V, (((w2.setCell ⟨w.heap.size + 1 + 1, 0, none⟩ (Value.bool b')).setCell ⟨w.heap.size + 1 + 1, 1, none⟩ (Value.string s')).setCell ⟨w.heap.size + 1 + 1, 2, none⟩ (Value.string t')) = V := ⟨_, rfl⟩
  have f : Below w.heap.size w w3 := by rw [← hw3]; exact (below_sets (below_sets (below_sets HS2.out.1 (by first | assumption | exact Nat.le_refl _ | omega) 0 (Value.bool b')) (by first | assumption | exact Nat.le_refl _ | omega) 1 (Value.string s')) (by first | assumption | exact Nat.le_refl _ | omega) 2 (Value.string t'))
  have t0 : Cells (w.heap.size) [.bool b, .string s] w3 := by rw [← hw3]; exact ((((((HS2.out.2.1).other (by omega))).other (by omega))).other (by omega))
  have t1 : Cells (w.heap.size + 1) [.bool c, .string t] w3 := by rw [← hw3]; exact ((((((HS2.out.2.2.1).other (by omega))).other (by omega))).other (by omega))
  have t2 : Cells (w.heap.size + 1 + 1) [.bool b', .string s', .string t'] w3 := by rw [← hw3]; exact ((((((HS2.out.2.2.2).set (k := 0) (Value.bool b') _ rfl)).set (k := 1) (Value.string s') _ rfl)).set (k := 2) (Value.string t') _ rfl)
  have HS3 := Lib.hid (And.intro f (And.intro t0 (And.intro t1 t2)))
  rw [hw3]
  clear hw3 f t0 t1 t2
  have y0 := (HS3.out.2.2.2 0 _ rfl).1
  have y1 := (HS3.out.2.2.2 1 _ rfl).1
  have y2 := (HS3.out.2.2.2 2 _ rfl).1
  refine bodyPost_ret (v := .tuple #[.agg #[.bool b', .string s', .string t'], .int .i64 0]) (by simp [results, Tryz.results17, go_sem, y0, y1, y2]) rfl ⟨rfl, HS3.out.1⟩

set_option maxHeartbeats 2000000 in
set_option maxRecDepth 100000 in
theorem parts_rat (b : Bool) (s t : ByteArray) (b' : Bool) (s' t' : ByteArray) (hs : s.size ≤ 262144) (ht : t.size ≤ 262144) (ht' : t'.size ≤ 262144) (m : RNam b' s' t' (rval b s t)) (w : World) :
    Calls Tryz.prog 19 #[.agg #[.bool b, .string s, .string t]] w fun e w' => e = .returned (.tuple #[.agg #[.bool b', .string s'], .agg #[.bool false, .string (dvs t')]]) ∧ Below w.heap.size w w' := by
  have R1 := Lib.hid (fun W => ratcan_any b s t b' s' t' hs ht m W)
  have R2 := Lib.hid (fun W => quotientOf_any b' s' t' W (by omega))
  clear m
  go_enter Tryz.func19, Tryz.ntmps19
  go_wp2_with fail
  obtain ⟨W0, hW0⟩ : ∃ V, (((w.alloc (Obj.cells #[Value.bool b, Value.string s, Value.string t] 25)).alloc (Obj.cells #[Value.bool false, Value.string ⟨#[]⟩] 23)).alloc (Obj.cells #[Value.bool false, Value.string ⟨#[]⟩] 23)) = V := ⟨_, rfl⟩
  have sW0 : W0.heap.size = w.heap.size + 1 + 1 + 1 := by rw [← hW0]; simp
  have k0 : Cells (w.heap.size) [.bool b, .string s, .string t] W0 := by
    rw [← hW0]
    have h := cells_new w #[.bool b, .string s, .string t] 25
    exact ((h.alloc (by simp; try omega) _).alloc (by simp; try omega) _)
  have k1 : Cells (w.heap.size + 1) [.bool false, .string ⟨#[]⟩] W0 := by
    rw [← hW0]
    have h := cells_new (w.alloc (Obj.cells #[Value.bool b, Value.string s, Value.string t] 25)) #[.bool false, .string ⟨#[]⟩] 23
    simp only [World.size_alloc] at h
    exact (h.alloc (by simp; try omega) _)
  have k2 : Cells (w.heap.size + 1 + 1) [.bool false, .string ⟨#[]⟩] W0 := by
    rw [← hW0]
    have h := cells_new ((w.alloc (Obj.cells #[Value.bool b, Value.string s, Value.string t] 25)).alloc (Obj.cells #[Value.bool false, Value.string ⟨#[]⟩] 23)) #[.bool false, .string ⟨#[]⟩] 23
    simp only [World.size_alloc] at h
    exact h
  have bW0 : Below w.heap.size w W0 := by
    rw [← hW0]
    exact ((((Below.refl _ _).alloc (Nat.le_refl _) _).alloc (by simp; try omega) _).alloc (by simp; try omega) _)
  rw [hW0]
  clear hW0
  have HS0 := Lib.hid (And.intro bW0 (And.intro k0 (And.intro k1 k2)))
  clear bW0 k0 k1 k2
  refine (R1.out _).mono ?_
  rintro e w1 ⟨rfl, c⟩
  have f := HS0.out.1.trans (c.mono HS0.out.1.size)
  have t0 := (HS0.out.2.1).below c (HS0.out.2.1).lt
  have t1 := (HS0.out.2.2.1).below c (HS0.out.2.2.1).lt
  have t2 := (HS0.out.2.2.2).below c (HS0.out.2.2.2).lt
  have HS1 := Lib.hid (And.intro f (And.intro t0 (And.intro t1 t2)))
  clear c f t0 t1 t2
  go_wp2_with fail
  refine (R2.out _).mono ?_
  rintro e w2 ⟨rfl, c⟩
  have f := HS1.out.1.trans (c.mono HS1.out.1.size)
  have t0 := (HS1.out.2.1).below c (HS1.out.2.1).lt
  have t1 := (HS1.out.2.2.1).below c (HS1.out.2.2.1).lt
  have t2 := (HS1.out.2.2.2).below c (HS1.out.2.2.2).lt
  have HS2 := Lib.hid (And.intro f (And.intro t0 (And.intro t1 t2)))
  clear c f t0 t1 t2
  go_wp2_with fail
  obtain ⟨w3, hw3⟩ : ∃ V, (w2.alloc (Obj.cells #[Value.bool b', Value.string s', Value.bool false, Value.string (dvs t')] 60)) = V := ⟨_, rfl⟩
  obtain ⟨B3, hB3⟩ : ∃ B, w2.heap.size = B := ⟨_, rfl⟩
  have f : Below w.heap.size w w3 := by rw [← hw3]; exact (HS2.out.1.alloc (by have := HS2.out.1.size; simp; try omega) _)
  have t0 : Cells (w.heap.size) [.bool b, .string s, .string t] w3 := by rw [← hw3]; exact ((HS2.out.2.1).alloc (by have := (HS2.out.2.1).lt; simp; try omega) _)
  have t1 : Cells (w.heap.size + 1) [.bool false, .string ⟨#[]⟩] w3 := by rw [← hw3]; exact ((HS2.out.2.2.1).alloc (by have := (HS2.out.2.2.1).lt; simp; try omega) _)
  have t2 : Cells (w.heap.size + 1 + 1) [.bool false, .string ⟨#[]⟩] w3 := by rw [← hw3]; exact ((HS2.out.2.2.2).alloc (by have := (HS2.out.2.2.2).lt; simp; try omega) _)
  have t3 : Cells B3 [.bool b', .string s', .bool false, .string (dvs t')] w3 := by
    rw [← hw3, ← hB3]
    have h := cells_new w2 #[.bool b', .string s', .bool false, .string (dvs t')] 60
    (try simp only at h)
    exact h
  have xB30 : ¬ (w.heap.size) = B3 := by have := (HS2.out.2.1).lt; omega
  have xB31 : ¬ (w.heap.size + 1) = B3 := by have := (HS2.out.2.2.1).lt; omega
  have xB32 : ¬ (w.heap.size + 1 + 1) = B3 := by have := (HS2.out.2.2.2).lt; omega
  have gB3 : w.heap.size ≤ B3 := by have := HS2.out.1.size; omega
  have HS3 := Lib.hid (And.intro f (And.intro t0 (And.intro t1 (And.intro t2 t3))))
  rw [hw3]
  (try rw [hB3])
  clear hw3 hB3 f t0 t1 t2 t3
  have l0 := (HS3.out.2.1).lt
  have l1 := (HS3.out.2.2.1).lt
  have m10 := (HS3.out.2.2.1 0 _ rfl).1
  have z10 := (HS3.out.2.2.1 0 _ rfl).2
  have m11 := (HS3.out.2.2.1 1 _ rfl).1
  have z11 := (HS3.out.2.2.1 1 _ rfl).2
  have l2 := (HS3.out.2.2.2.1).lt
  have m20 := (HS3.out.2.2.2.1 0 _ rfl).1
  have z20 := (HS3.out.2.2.2.1 0 _ rfl).2
  have m21 := (HS3.out.2.2.2.1 1 _ rfl).1
  have z21 := (HS3.out.2.2.2.1 1 _ rfl).2
  have l3 := (HS3.out.2.2.2.2).lt
  have m30 := (HS3.out.2.2.2.2 0 _ rfl).1
  have m31 := (HS3.out.2.2.2.2 1 _ rfl).1
  have m32 := (HS3.out.2.2.2.2 2 _ rfl).1
  have m33 := (HS3.out.2.2.2.2 3 _ rfl).1
  go_region
  go_wp2_with fail
  clear l0 l1 m10 z10 m11 z11 l2 m20 z20 m21 z21 l3 m30 m31 m32 m33
  obtain ⟨w4, hw4⟩ : ∃ V, ((w3.setCell ⟨w.heap.size + 1, 0, none⟩ (Value.bool b')).setCell ⟨w.heap.size + 1, 1, none⟩ (Value.string s')) = V := ⟨_, rfl⟩
  have f : Below w.heap.size w w4 := by rw [← hw4]; exact (below_sets (below_sets HS3.out.1 (by first | assumption | exact Nat.le_refl _ | omega) 0 (Value.bool b')) (by first | assumption | exact Nat.le_refl _ | omega) 1 (Value.string s'))
  have t0 : Cells (w.heap.size) [.bool b, .string s, .string t] w4 := by rw [← hw4]; exact ((((HS3.out.2.1).other (by omega))).other (by omega))
  have t1 : Cells (w.heap.size + 1) [.bool b', .string s'] w4 := by rw [← hw4]; exact ((((HS3.out.2.2.1).set (k := 0) (Value.bool b') _ rfl)).set (k := 1) (Value.string s') _ rfl)
  have t2 : Cells (w.heap.size + 1 + 1) [.bool false, .string ⟨#[]⟩] w4 := by rw [← hw4]; exact ((((HS3.out.2.2.2.1).other (by omega))).other (by omega))
  have t3 : Cells (B3) [.bool b', .string s', .bool false, .string (dvs t')] w4 := by rw [← hw4]; exact ((((HS3.out.2.2.2.2).other (by omega))).other (by omega))
  have HS4 := Lib.hid (And.intro f (And.intro t0 (And.intro t1 (And.intro t2 t3))))
  rw [hw4]
  clear hw4 f t0 t1 t2 t3
  obtain ⟨w5, hw5⟩ : ∃ V, ((w4.setCell ⟨w.heap.size + 1 + 1, 0, none⟩ (Value.bool false)).setCell ⟨w.heap.size + 1 + 1, 1, none⟩ (Value.string (dvs t'))) = V := ⟨_, rfl⟩
  have f : Below w.heap.size w w5 := by rw [← hw5]; exact (below_sets (below_sets HS4.out.1 (by first | assumption | exact Nat.le_refl _ | omega) 0 (Value.bool false)) (by first | assumption | exact Nat.le_refl _ | omega) 1 (Value.string (dvs t')))
  have t0 : Cells (w.heap.size) [.bool b, .string s, .string t] w5 := by rw [← hw5]; exact ((((HS4.out.2.1).other (by omega))).other (by omega))
  have t1 : Cells (w.heap.size + 1) [.bool b', .string s'] w5 := by rw [← hw5]; exact ((((HS4.out.2.2.1).other (by omega))).other (by omega))
  have t2 : Cells (w.heap.size + 1 + 1) [.bool false, .string (dvs t')] w5 := by rw [← hw5]; exact ((((HS4.out.2.2.2.1).set (k := 0) (Value.bool false) _ rfl)).set (k := 1) (Value.string (dvs t')) _ rfl)
  have t3 : Cells (B3) [.bool b', .string s', .bool false, .string (dvs t')] w5 := by rw [← hw5]; exact ((((HS4.out.2.2.2.2).other (by omega))).other (by omega))
  have HS5 := Lib.hid (And.intro f (And.intro t0 (And.intro t1 (And.intro t2 t3))))
  rw [hw5]
  clear hw5 f t0 t1 t2 t3
  have y0 := (show Cells (w.heap.size + 1) [.bool b', .string s'] w5.drew from HS5.out.2.2.1) 0 _ rfl |>.1
  have y1 := (show Cells (w.heap.size + 1) [.bool b', .string s'] w5.drew from HS5.out.2.2.1) 1 _ rfl |>.1
  have y2 := (show Cells (w.heap.size + 1 + 1) [.bool false, .string (dvs t')] w5.drew from HS5.out.2.2.2.1) 0 _ rfl |>.1
  have y3 := (show Cells (w.heap.size + 1 + 1) [.bool false, .string (dvs t')] w5.drew from HS5.out.2.2.2.1) 1 _ rfl |>.1
  refine bodyPost_ret (v := .tuple #[.agg #[.bool b', .string s'], .agg #[.bool false, .string (dvs t')]]) (by simp [results, Tryz.results19, go_sem, y0, y1, y2, y3]) rfl ⟨rfl, HS5.out.1.drew⟩

set_option maxHeartbeats 2000000 in
set_option maxRecDepth 100000 in
theorem ratio_rat (n d : Int) (bn bd : Bool) (sn sd : ByteArray) (b' : Bool) (s' t' : ByteArray) (n1 : -9223372036854775808 ≤ n) (n2 : n ≤ 9223372036854775807) (d1 : -9223372036854775808 ≤ d) (d2 : d ≤ 9223372036854775807) (e1 : ng n = bn) (e2 : mg n = sn) (e3 : ng d = bd) (e4 : mg d = sd) (z1 : sn.size ≤ 262144) (z2 : sd.size ≤ 262144) (h0 : beVal sd.data.toList ≠ 0) (m : RNam b' s' t' (rval (bn != bd) sn sd)) (w : World) :
    Calls Tryz.prog 15 #[.int .i64 n, .int .i64 d] w fun e w' => e = .returned (.tuple #[.agg #[.bool b', .string s', .string t'], .int .i64 0]) ∧ Below w.heap.size w w' := by
  have R1 := Lib.hid (fun W => of_lit n bn sn e1 e2 n1 n2 W)
  have R2 := Lib.hid (fun W => of_lit d bd sd e3 e4 d1 d2 W)
  have R3 := Lib.hid (fun W => new_rat bn bd sn sd b' s' t' z1 z2 h0 m W)
  clear m e1 e2 e3 e4 h0
  go_enter Tryz.func15, Tryz.ntmps15
  go_wp2_with fail
  obtain ⟨W0, hW0⟩ : ∃ V, (w.alloc (Obj.cells #[Value.bool false, Value.string ⟨#[]⟩, Value.string ⟨#[]⟩] 25)) = V := ⟨_, rfl⟩
  have sW0 : W0.heap.size = w.heap.size + 1 := by rw [← hW0]; simp
  have k0 : Cells (w.heap.size) [.bool false, .string ⟨#[]⟩, .string ⟨#[]⟩] W0 := by
    rw [← hW0]
    have h := cells_new w #[.bool false, .string ⟨#[]⟩, .string ⟨#[]⟩] 25
    exact h
  have bW0 : Below w.heap.size w W0 := by
    rw [← hW0]
    exact ((Below.refl _ _).alloc (Nat.le_refl _) _)
  rw [hW0]
  clear hW0
  have HS0 := Lib.hid (And.intro bW0 k0)
  clear bW0 k0
  refine (R1.out _).mono ?_
  rintro e w1 ⟨rfl, c⟩
  have f := HS0.out.1.trans (c.mono HS0.out.1.size)
  have t0 := (HS0.out.2).below c (HS0.out.2).lt
  have HS1 := Lib.hid (And.intro f t0)
  clear c f t0
  go_wp2_with fail
  refine (R2.out _).mono ?_
  rintro e w2 ⟨rfl, c⟩
  have f := HS1.out.1.trans (c.mono HS1.out.1.size)
  have t0 := (HS1.out.2).below c (HS1.out.2).lt
  have HS2 := Lib.hid (And.intro f t0)
  clear c f t0
  go_wp2_with fail
  refine (R3.out _).mono ?_
  rintro e w3 ⟨rfl, c⟩
  have f := HS2.out.1.trans (c.mono HS2.out.1.size)
  have t0 := (HS2.out.2).below c (HS2.out.2).lt
  have HS3 := Lib.hid (And.intro f t0)
  clear c f t0
  have l0 := (HS3.out.2).lt
  have m00 := (HS3.out.2 0 _ rfl).1
  have z00 := (HS3.out.2 0 _ rfl).2
  have m01 := (HS3.out.2 1 _ rfl).1
  have z01 := (HS3.out.2 1 _ rfl).2
  have m02 := (HS3.out.2 2 _ rfl).1
  have z02 := (HS3.out.2 2 _ rfl).2
  go_wp2_with fail
  clear l0 m00 z00 m01 z01 m02 z02
  obtain ⟨w4, hw4⟩ : ∃ V, (((w3.setCell ⟨w.heap.size, 0, none⟩ (Value.bool b')).setCell ⟨w.heap.size, 1, none⟩ (Value.string s')).setCell ⟨w.heap.size, 2, none⟩ (Value.string t')) = V := ⟨_, rfl⟩
  have f : Below w.heap.size w w4 := by rw [← hw4]; exact (below_sets (below_sets (below_sets HS3.out.1 (by first | assumption | exact Nat.le_refl _ | omega) 0 (Value.bool b')) (by first | assumption | exact Nat.le_refl _ | omega) 1 (Value.string s')) (by first | assumption | exact Nat.le_refl _ | omega) 2 (Value.string t'))
  have t0 : Cells (w.heap.size) [.bool b', .string s', .string t'] w4 := by rw [← hw4]; exact ((((((HS3.out.2).set (k := 0) (Value.bool b') _ rfl)).set (k := 1) (Value.string s') _ rfl)).set (k := 2) (Value.string t') _ rfl)
  have HS4 := Lib.hid (And.intro f t0)
  rw [hw4]
  clear hw4 f t0
  have y0 := (HS4.out.2 0 _ rfl).1
  have y1 := (HS4.out.2 1 _ rfl).1
  have y2 := (HS4.out.2 2 _ rfl).1
  refine bodyPost_ret (v := .tuple #[.agg #[.bool b', .string s', .string t'], .int .i64 0]) (by simp [results, Tryz.results15, go_sem, y0, y1, y2]) rfl ⟨rfl, HS4.out.1⟩

end Go.Proofs.YtpdhffjdgnpikaaGreatDoor
