/- The contracts of rational.fits, fractionOf and of the fractions' method number. -/
import Derived.Test.YtpdhffjdgnpikaaGreatDoorRatFrac
namespace Go.Proofs.YtpdhffjdgnpikaaGreatDoor
open Go.RowKit Go.Shelf

theorem two_pows (j k : Nat) (x y : Nat) (hx : x < 2 ^ j) (hy : y < 2 ^ k) (h : j + k ≤ 62) : x * y < 4611686018427387904 ∧ x < 4611686018427387904 ∧ y < 4611686018427387904 := by
  have h1 : x * y < 2 ^ j * 2 ^ k := Nat.mul_lt_mul_of_lt_of_lt hx hy
  rw [← Nat.pow_add] at h1
  have h2 : (2 : Nat) ^ (j + k) ≤ 2 ^ 62 := Nat.pow_le_pow_right (by omega) h
  have h3 : (2 : Nat) ^ j ≤ 2 ^ 62 := Nat.pow_le_pow_right (by omega) (by omega)
  have h4 : (2 : Nat) ^ k ≤ 2 ^ 62 := Nat.pow_le_pow_right (by omega) (by omega)
  have h5 : (2 : Nat) ^ 62 = 4611686018427387904 := by decide
  omega
set_option maxHeartbeats 1000000 in
set_option maxRecDepth 100000 in
theorem fits_ex (x y : Int) (hx1 : -9223372036854775808 ≤ x) (hx2 : x ≤ 9223372036854775807) (hy1 : -9223372036854775808 ≤ y) (hy2 : y ≤ 9223372036854775807) : ∃ b : Bool,
    (b = true → x.natAbs * y.natAbs < 4611686018427387904 ∧ x.natAbs < 4611686018427387904 ∧ y.natAbs < 4611686018427387904) ∧
    ∀ w : World, Calls Tryz.prog 69 #[.int .i64 x, .int .i64 y] w fun e w' => e = .returned (.bool b) ∧ Below w.heap.size w w' := by
  obtain ⟨m, hm⟩ : ∃ m, x.natAbs = m := ⟨_, rfl⟩
  obtain ⟨n, hn⟩ : ∃ m, y.natAbs = m := ⟨_, rfl⟩
  obtain ⟨j, hj, hmj, L1⟩ := len64_ex m (by omega)
  obtain ⟨k, hk, hnk, L2⟩ := len64_ex n (by omega)
  have S1 := fun W => fsize_any x W hx1 hx2
  have S2 := fun W => fsize_any y W hy1 hy2
  rw [hm] at S1
  rw [hn] at S2
  refine ⟨decide (j + k < 63), fun h => ?_, fun w => ?_⟩
  · rw [hm, hn]
    have := of_decide_eq_true h
    exact two_pows j k m n hmj hnk (by omega)
  · have R1 := Lib.hid S1
    have R2 := Lib.hid L1
    have R3 := Lib.hid S2
    have R4 := Lib.hid L2
    have hb : decide ((j : Int) + (k : Int) < 63) = decide (j + k < 63) := by
      rw [decide_eq_decide]; omega
    obtain ⟨bb, hbb⟩ : ∃ b, decide (j + k < 63) = b := ⟨_, rfl⟩
    rw [hbb] at hb ⊢
    clear S1 S2 L1 L2 hmj hnk hm hn hbb
    go_enter Tryz.func69, Tryz.ntmps69
    go_wp2_with fail
    refine (R1.out _).mono ?_
    rintro e w1 ⟨rfl, rfl⟩
    go_wp2_with fail
    refine (R2.out _).mono ?_
    rintro e w2 ⟨rfl, rfl⟩
    go_wp2_with fail
    refine (R3.out _).mono ?_
    rintro e w3 ⟨rfl, rfl⟩
    go_wp2_with fail
    refine (R4.out _).mono ?_
    rintro e w4 ⟨rfl, rfl⟩
    go_wp2_with fail
    go_ret
    exact ⟨rfl, Below.refl _ _⟩

set_option maxHeartbeats 1000000 in
set_option maxRecDepth 100000 in
theorem fractionOf_walk (b : Bool) (s t : ByteArray) (v1 v2 : Int) (o1 o2 : Bool) (n d : Int) (_h2 : -9223372036854775808 ≤ v2 ∧ v2 ≤ 9223372036854775807)
    (c1 : ∀ W : World, Calls Tryz.prog 50 #[.agg #[.bool b, .string s]] W fun e w' => e = .returned (.tuple #[.int .i64 v1, .bool o1]) ∧ Below W.heap.size W w')
    (c2 : ∀ W : World, Calls Tryz.prog 50 #[.agg #[.bool false, .string t]] W fun e w' => e = .returned (.tuple #[.int .i64 v2, .bool o2]) ∧ Below W.heap.size W w')
    (hr : (o1 = true ∧ o2 = true ∧ n = v1 ∧ d = max v2 1) ∨ ((o1 = false ∨ (o1 = true ∧ o2 = false)) ∧ n = 0 ∧ d = 9223372036854775807)) (w : World) :
    Calls Tryz.prog 67 #[.agg #[.bool b, .string s, .string t]] w fun e w' => e = .returned (.agg #[.int .i64 n, .int .i64 d]) ∧ Below w.heap.size w w' := by
  have R1 := Lib.hid c1
  have R2 := Lib.hid c2
  have HR := Lib.hid hr
  clear c1 c2 hr
  go_enter Tryz.func67, Tryz.ntmps67
  go_wp2_with fail
  obtain ⟨W0, hW0⟩ : ∃ V, ((w.alloc (Obj.cells #[Value.bool b, Value.string s, Value.string t] 25)).alloc (Obj.cells #[Value.int .i64 0, Value.int .i64 0] 63)) = V := ⟨_, rfl⟩
  have sW0 : W0.heap.size = w.heap.size + 1 + 1 := by rw [← hW0]; simp
  have k0 : Cells (w.heap.size) [.bool b, .string s, .string t] W0 := by
    rw [← hW0]
    have h := cells_new w #[.bool b, .string s, .string t] 25
    exact (h.alloc (by simp; try omega) _)
  have k1 : Cells (w.heap.size + 1) [.int .i64 0, .int .i64 0] W0 := by
    rw [← hW0]
    have h := cells_new (w.alloc (Obj.cells #[Value.bool b, Value.string s, Value.string t] 25)) #[.int .i64 0, .int .i64 0] 63
    simp only [World.size_alloc] at h
    exact h
  have bW0 : Below w.heap.size w W0 := by
    rw [← hW0]
    exact (((Below.refl _ _).alloc (Nat.le_refl _) _).alloc (by simp; try omega) _)
  rw [hW0]
  clear hW0
  have HS0 := Lib.hid (And.intro bW0 (And.intro k0 k1))
  clear bW0 k0 k1
  refine (R1.out _).mono ?_
  rintro e w1 ⟨rfl, c⟩
  have f := HS0.out.1.trans (c.mono HS0.out.1.size)
  have t0 := (HS0.out.2.1).below c (HS0.out.2.1).lt
  have t1 := (HS0.out.2.2).below c (HS0.out.2.2).lt
  have HS1 := Lib.hid (And.intro f (And.intro t0 t1))
  clear c f t0 t1
  have l0 := (HS1.out.2.1).lt
  have m00 := (HS1.out.2.1 0 _ rfl).1
  have m01 := (HS1.out.2.1 1 _ rfl).1
  have m02 := (HS1.out.2.1 2 _ rfl).1
  have l1 := (HS1.out.2.2).lt
  go_wp2_with fail
  clear l0 m00 m01 m02 l1
  refine (R2.out _).mono ?_
  rintro e w2 ⟨rfl, c⟩
  have f := HS1.out.1.trans (c.mono HS1.out.1.size)
  have t0 := (HS1.out.2.1).below c (HS1.out.2.1).lt
  have t1 := (HS1.out.2.2).below c (HS1.out.2.2).lt
  have HS2 := Lib.hid (And.intro f (And.intro t0 t1))
  clear c f t0 t1
  rcases HR.out with ⟨rfl, rfl, rfl, rfl⟩ | ⟨rfl | ⟨rfl, rfl⟩, rfl, rfl⟩
  · have l0 := (HS2.out.2.1).lt
    have l1 := (HS2.out.2.2).lt
    have m10 := (HS2.out.2.2 0 _ rfl).1
    have z10 := (HS2.out.2.2 0 _ rfl).2
    have m11 := (HS2.out.2.2 1 _ rfl).1
    have z11 := (HS2.out.2.2 1 _ rfl).2
    go_wp2_with fail
    clear l0 l1 m10 z10 m11 z11
    obtain ⟨w3, hw3⟩ : ∃ V, ((w2.setCell ⟨w.heap.size + 1, 0, none⟩ (Value.int .i64 n)).setCell ⟨w.heap.size + 1, 1, none⟩ (Value.int .i64 (max v2 1))) = V := ⟨_, rfl⟩
    have f : Below w.heap.size w w3 := by rw [← hw3]; exact (below_sets (below_sets HS2.out.1 (by first | assumption | exact Nat.le_refl _ | omega) 0 (Value.int .i64 n)) (by first | assumption | exact Nat.le_refl _ | omega) 1 (Value.int .i64 (max v2 1)))
    have t0 : Cells (w.heap.size) [.bool b, .string s, .string t] w3 := by rw [← hw3]; exact ((((HS2.out.2.1).other (by omega))).other (by omega))
    have t1 : Cells (w.heap.size + 1) [.int .i64 n, .int .i64 (max v2 1)] w3 := by rw [← hw3]; exact ((((HS2.out.2.2).set (k := 0) (Value.int .i64 n) _ rfl)).set (k := 1) (Value.int .i64 (max v2 1)) _ rfl)
    have HS3 := Lib.hid (And.intro f (And.intro t0 t1))
    rw [hw3]
    clear hw3 f t0 t1
    have y0 := (HS3.out.2.2 0 _ rfl).1
    have y1 := (HS3.out.2.2 1 _ rfl).1
    refine bodyPost_ret (v := .agg #[.int .i64 n, .int .i64 (max v2 1)]) (by simp [results, Tryz.results67, go_sem, y0, y1]) rfl ⟨rfl, HS3.out.1⟩
  · have l0 := (HS2.out.2.1).lt
    have l1 := (HS2.out.2.2).lt
    have m10 := (HS2.out.2.2 0 _ rfl).1
    have z10 := (HS2.out.2.2 0 _ rfl).2
    have m11 := (HS2.out.2.2 1 _ rfl).1
    have z11 := (HS2.out.2.2 1 _ rfl).2
    go_wp2_with fail
    clear l0 l1 m10 z10 m11 z11
    obtain ⟨w3, hw3⟩ : ∃ V, ((w2.setCell ⟨w.heap.size + 1, 0, none⟩ (Value.int .i64 0)).setCell ⟨w.heap.size + 1, 1, none⟩ (Value.int .i64 9223372036854775807)) = V := ⟨_, rfl⟩
    have f : Below w.heap.size w w3 := by rw [← hw3]; exact (below_sets (below_sets HS2.out.1 (by first | assumption | exact Nat.le_refl _ | omega) 0 (Value.int .i64 0)) (by first | assumption | exact Nat.le_refl _ | omega) 1 (Value.int .i64 9223372036854775807))
    have t0 : Cells (w.heap.size) [.bool b, .string s, .string t] w3 := by rw [← hw3]; exact ((((HS2.out.2.1).other (by omega))).other (by omega))
    have t1 : Cells (w.heap.size + 1) [.int .i64 0, .int .i64 9223372036854775807] w3 := by rw [← hw3]; exact ((((HS2.out.2.2).set (k := 0) (Value.int .i64 0) _ rfl)).set (k := 1) (Value.int .i64 9223372036854775807) _ rfl)
    have HS3 := Lib.hid (And.intro f (And.intro t0 t1))
    rw [hw3]
    clear hw3 f t0 t1
    have y0 := (HS3.out.2.2 0 _ rfl).1
    have y1 := (HS3.out.2.2 1 _ rfl).1
    refine bodyPost_ret (v := .agg #[.int .i64 0, .int .i64 9223372036854775807]) (by simp [results, Tryz.results67, go_sem, y0, y1]) rfl ⟨rfl, HS3.out.1⟩
  · have l0 := (HS2.out.2.1).lt
    have l1 := (HS2.out.2.2).lt
    have m10 := (HS2.out.2.2 0 _ rfl).1
    have z10 := (HS2.out.2.2 0 _ rfl).2
    have m11 := (HS2.out.2.2 1 _ rfl).1
    have z11 := (HS2.out.2.2 1 _ rfl).2
    go_wp2_with fail
    clear l0 l1 m10 z10 m11 z11
    obtain ⟨w3, hw3⟩ : ∃ V, ((w2.setCell ⟨w.heap.size + 1, 0, none⟩ (Value.int .i64 0)).setCell ⟨w.heap.size + 1, 1, none⟩ (Value.int .i64 9223372036854775807)) = V := ⟨_, rfl⟩
    have f : Below w.heap.size w w3 := by rw [← hw3]; exact (below_sets (below_sets HS2.out.1 (by first | assumption | exact Nat.le_refl _ | omega) 0 (Value.int .i64 0)) (by first | assumption | exact Nat.le_refl _ | omega) 1 (Value.int .i64 9223372036854775807))
    have t0 : Cells (w.heap.size) [.bool b, .string s, .string t] w3 := by rw [← hw3]; exact ((((HS2.out.2.1).other (by omega))).other (by omega))
    have t1 : Cells (w.heap.size + 1) [.int .i64 0, .int .i64 9223372036854775807] w3 := by rw [← hw3]; exact ((((HS2.out.2.2).set (k := 0) (Value.int .i64 0) _ rfl)).set (k := 1) (Value.int .i64 9223372036854775807) _ rfl)
    have HS3 := Lib.hid (And.intro f (And.intro t0 t1))
    rw [hw3]
    clear hw3 f t0 t1
    have y0 := (HS3.out.2.2 0 _ rfl).1
    have y1 := (HS3.out.2.2 1 _ rfl).1
    refine bodyPost_ret (v := .agg #[.int .i64 0, .int .i64 9223372036854775807]) (by simp [results, Tryz.results67, go_sem, y0, y1]) rfl ⟨rfl, HS3.out.1⟩

theorem fractionOf_ex (b : Bool) (s t : ByteArray) : ∃ n d : Int, -9223372036854775808 ≤ n ∧ n ≤ 9223372036854775807 ∧ 1 ≤ d ∧ d ≤ 9223372036854775807 ∧ ((n = ival b s ∧ d = (rden t : Int)) ∨ d = 9223372036854775807) ∧
    ∀ w : World, Calls Tryz.prog 67 #[.agg #[.bool b, .string s, .string t]] w fun e w' => e = .returned (.agg #[.int .i64 n, .int .i64 d]) ∧ Below w.heap.size w w' := by
  have hd : ival false t = (beVal t.data.toList : Int) := rfl
  have hr : (rden t : Int) = max (ival false t) 1 := by
    rw [hd]; unfold rden; split <;> omega
  have sm : ∀ (b : Bool) (s : ByteArray), ∃ (v : Int) (o : Bool), ((o = true ∧ v = ival b s ∧ -9223372036854775808 ≤ v ∧ v ≤ 9223372036854775807) ∨ (o = false ∧ v = 0)) ∧ ∀ W : World, Calls Tryz.prog 50 #[.agg #[.bool b, .string s]] W fun e w' => e = .returned (.tuple #[.int .i64 v, .bool o]) ∧ Below W.heap.size W w' := by
    intro b s
    by_cases h : -9223372036854775808 ≤ ival b s ∧ ival b s ≤ 9223372036854775807
    · refine ⟨ival b s, true, .inl ⟨rfl, rfl, h⟩, fun W => (small_any b s W).mono ?_⟩
      rintro e w' ⟨⟨_, _, rfl⟩ | ⟨h2, _⟩, hb⟩
      · exact ⟨rfl, hb⟩
      · omega
    · refine ⟨0, false, .inr ⟨rfl, rfl⟩, fun W => (small_any b s W).mono ?_⟩
      rintro e w' ⟨⟨h2, h3, _⟩ | ⟨_, rfl⟩, hb⟩
      · exact absurd ⟨h2, h3⟩ h
      · exact ⟨rfl, hb⟩
  obtain ⟨v1, o1, h1, c1⟩ := sm b s
  obtain ⟨v2, o2, h2, c2⟩ := sm false t
  have hv2 : -9223372036854775808 ≤ v2 ∧ v2 ≤ 9223372036854775807 := by rcases h2 with h | h <;> omega
  by_cases hoo : o1 = true ∧ o2 = true
  · have e1 := h1.resolve_right (fun h => by rw [hoo.1] at h; cases h.1)
    have e2 := h2.resolve_right (fun h => by rw [hoo.2] at h; cases h.1)
    refine ⟨v1, max v2 1, e1.2.2.1, e1.2.2.2, by omega, by omega, .inl ⟨e1.2.1, by rw [hr, e2.2.1]⟩, fun w => fractionOf_walk b s t v1 v2 o1 o2 _ _ hv2 c1 c2 (.inl ⟨hoo.1, hoo.2, rfl, rfl⟩) w⟩
  · refine ⟨0, 9223372036854775807, by omega, by omega, by omega, by omega, .inr rfl, fun w => fractionOf_walk b s t v1 v2 o1 o2 _ _ hv2 c1 c2 (.inr ⟨?_, rfl, rfl⟩) w⟩
    cases o1
    · exact .inl rfl
    · cases o2
      · exact .inr ⟨rfl, rfl⟩
      · exact absurd ⟨rfl, rfl⟩ hoo

end Go.Proofs.YtpdhffjdgnpikaaGreatDoor
