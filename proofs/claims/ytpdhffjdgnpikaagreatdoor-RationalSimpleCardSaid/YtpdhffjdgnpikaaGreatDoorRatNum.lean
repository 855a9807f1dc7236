/- The contract of the quotients' method number. -/
import Derived.Test.YtpdhffjdgnpikaaGreatDoorRatQuot
import Derived.Test.YtpdhffjdgnpikaaGreatDoorGcd
namespace Go.Proofs.YtpdhffjdgnpikaaGreatDoor
open Go.RowKit Go.Shelf

theorem gcd_nam {x y : Int} {bx by' bz : Bool} {sx sy sz : ByteArray} (hx : Val bx sx x) (hy : Val by' sy y) (hz : Nam bz sz ((Nat.gcd x.natAbs y.natAbs : Nat) : Int)) (W : World) :
    Calls Tryz.prog 54 #[.agg #[.bool bx, .string sx], .agg #[.bool by', .string sy]] W fun e w' => e = .returned (.agg #[.bool bz, .string sz]) ∧ Below W.heap.size W w' := by
  have h := gcdInt_any bx by' sx sy W hx.small hy.small
  rw [hx.val, hy.val] at h
  obtain ⟨rfl, rfl⟩ := hz
  exact h
theorem mg_one (p : Nat) (_h : 0 < p) : ((mg (p : Int)).data.toList == [1]) = decide (p = 1) := by
  rw [mg_list]
  show (be p == [1]) = _
  by_cases h1 : p = 1
  · rw [decide_eq_true h1, h1]; rfl
  · rw [decide_eq_false h1]
    refine beq_eq_false_iff_ne.2 (fun e => h1 ?_)
    rw [← beVal_be p, e]; rfl
theorem num_parts (n : Int) (D : Nat) (hD : 0 < D) : ∃ (k : Int) (p g : Nat), Nat.gcd n.natAbs D = g ∧ 0 < g ∧ 0 < p ∧ IsDiv n g k 0 ∧ IsDiv D g p 0 ∧ ng (mkRat n D).num = ng k ∧ mg (mkRat n D).num = mg k ∧ (mkRat n D).den = p := by
  have hg : 0 < Nat.gcd n.natAbs D := Nat.gcd_pos_of_pos_right _ hD
  obtain ⟨h1, h2, h3⟩ := mk_parts n D hD
  have d1 : ((Nat.gcd n.natAbs D : Nat) : Int) ∣ n := Int.ofNat_dvd_left.2 (Nat.gcd_dvd_left _ _)
  obtain ⟨k, hk⟩ := d1
  obtain ⟨p, hp⟩ := Nat.gcd_dvd_right n.natAbs D
  generalize hge : Nat.gcd n.natAbs D = g at *
  have hp0 : 0 < p := Nat.pos_of_ne_zero (fun e => by rw [e, Nat.mul_zero] at hp; omega)
  have hk2 : n.natAbs / g = k.natAbs := by rw [hk, Int.natAbs_mul, Int.natAbs_natCast, Nat.mul_div_cancel_left _ hg]
  have hp2 : D / g = p := by rw [hp, Nat.mul_div_cancel_left _ hg]
  have hs : k < 0 ↔ n < 0 := by
    rw [hk]
    constructor
    · intro h; exact Int.mul_neg_of_pos_of_neg (by omega) h
    · intro h
      refine Classical.byContradiction fun h2 => ?_
      have := Int.mul_nonneg (show (0 : Int) ≤ g by omega) (show 0 ≤ k by omega)
      omega
  refine ⟨k, p, g, rfl, hg, hp0, ⟨by omega, .inl (by omega)⟩, ⟨by rw [hp, Int.natCast_mul]; omega, .inl (by omega)⟩, ?_, ?_, by rw [h2, hp2]⟩
  · unfold ng
    rw [decide_eq_decide, h3, hs]
  · unfold mg
    rw [h1, hk2]

set_option maxHeartbeats 1000000 in
set_option maxRecDepth 100000 in
theorem number_qt {b bd b' : Bool} {s t s' t' : ByteArray} {n : Int} {D : Nat} (h1 : Val b s n) (h2 : Val bd t (D : Int)) (hD : 0 < D) (m : RNam b' s' t' (mkRat n D)) (w : World) :
    Calls Tryz.prog 73 #[.agg #[.bool b, .string s, .bool bd, .string t]] w fun e w' => e = .returned (.agg #[.bool b', .string s', .string t']) ∧ Below w.heap.size w w' := by
  obtain ⟨k, p, g, hg, hg0, hp0, hdk, hdp, e1, e2, e3⟩ := num_parts n D hD
  obtain ⟨bg, sg, ng'⟩ := nam_ex (g : Int)
  obtain ⟨bk, sk, nk⟩ := nam_ex k
  obtain ⟨bp, sp, np⟩ := nam_ex (p : Int)
  obtain ⟨bz, sz, nz⟩ := nam_ex (0 : Int)
  have hgs : sg.size ≤ 262144 := by
    rw [← ng'.mag]
    refine Nat.le_trans (mg_size (g : Int) t.size ?_) h2.small
    have h3 := ival_abs bd t
    rw [h2.val, Int.natAbs_natCast] at h3
    have h4 := beVal_lt t.data.toList
    rw [← h3, ← Lib.size_eq] at h4
    rw [Int.natAbs_natCast, ← hg]
    exact Nat.lt_of_le_of_lt (Nat.le_of_dvd hD (Nat.gcd_dvd_right _ _)) h4
  have hb : b' = bk := by rw [← m.sign, e1]; exact nk.sign
  have hs : s' = sk := by rw [← m.num, e2]; exact nk.mag
  have ht : t' = if p = 1 then ⟨#[]⟩ else sp := by
    rw [← m.den]
    unfold rdn
    rw [e3]
    by_cases h : p = 1
    · rw [if_pos h, if_pos h]
    · rw [if_neg h, if_neg h, ← np.mag]; rfl
  have hon : (sp.data.toList == [1]) = decide (p = 1) := by rw [← np.mag]; exact mg_one p hp0
  have R1 := Lib.hid (fun W => gcd_nam (bz := bg) (sz := sg) h1 h2 (by rw [Int.natAbs_natCast, hg]; exact ng') W)
  have R2 := Lib.hid (fun W => divAll_val h1 (nam_val ng' hgs) (by omega) hdk nk nz W)
  have R3 := Lib.hid (fun W => divAll_val h2 (nam_val ng' hgs) (by omega) hdp np nz W)
  subst hb
  subst hs
  have HT := Lib.hid ht
  clear h1 h2 m hdk hdp e1 e2 e3 ng' nk np nz hg hgs ht
  go_enter Tryz.func73, Tryz.ntmps73
  go_wp2_with fail
  obtain ⟨W0, hW0⟩ : ∃ V, ((w.alloc (Obj.cells #[Value.bool b, Value.string s, Value.bool bd, Value.string t] 60)).alloc (Obj.cells #[Value.bool false, Value.string ⟨#[]⟩, Value.string ⟨#[]⟩] 25)) = V := ⟨_, rfl⟩
  have sW0 : W0.heap.size = w.heap.size + 1 + 1 := by rw [← hW0]; simp
  have k0 : Cells (w.heap.size) [.bool b, .string s, .bool bd, .string t] W0 := by
    rw [← hW0]
    have h := cells_new w #[.bool b, .string s, .bool bd, .string t] 60
    exact (h.alloc (by simp; try omega) _)
  have k1 : Cells (w.heap.size + 1) [.bool false, .string ⟨#[]⟩, .string ⟨#[]⟩] W0 := by
    rw [← hW0]
    have h := cells_new (w.alloc (Obj.cells #[Value.bool b, Value.string s, Value.bool bd, Value.string t] 60)) #[.bool false, .string ⟨#[]⟩, .string ⟨#[]⟩] 25
    simp only [World.size_alloc] at h
    exact h
  have bW0 : Below w.heap.size w W0 := by
    rw [← hW0]
    exact (((Below.refl _ _).alloc (Nat.le_refl _) _).alloc (by simp; try omega) _)
  rw [hW0]
  clear hW0
  have HS0 := Lib.hid (And.intro bW0 (And.intro k0 k1))
  clear bW0 k0 k1
  have l0 := (HS0.out.2.1).lt
  have m00 := (HS0.out.2.1 0 _ rfl).1
  have m01 := (HS0.out.2.1 1 _ rfl).1
  have m02 := (HS0.out.2.1 2 _ rfl).1
  have m03 := (HS0.out.2.1 3 _ rfl).1
  have l1 := (HS0.out.2.2).lt
  refine (R1.out _).mono ?_
  rintro e w1 ⟨rfl, c⟩
  have f := HS0.out.1.trans (c.mono HS0.out.1.size)
  have t0 := (HS0.out.2.1).below c (HS0.out.2.1).lt
  have t1 := (HS0.out.2.2).below c (HS0.out.2.2).lt
  have HS1 := Lib.hid (And.intro f (And.intro t0 t1))
  clear c f t0 t1
  clear l0 m00 m01 m02 m03 l1
  have l0 := (HS1.out.2.1).lt
  have m00 := (HS1.out.2.1 0 _ rfl).1
  have m01 := (HS1.out.2.1 1 _ rfl).1
  have m02 := (HS1.out.2.1 2 _ rfl).1
  have m03 := (HS1.out.2.1 3 _ rfl).1
  have l1 := (HS1.out.2.2).lt
  go_wp2_with fail
  clear l0 m00 m01 m02 m03 l1
  obtain ⟨w2, hw2⟩ : ∃ V, (w1.alloc (Obj.cells #[Value.bool bg, Value.string sg] 23)) = V := ⟨_, rfl⟩
  obtain ⟨B2, hB2⟩ : ∃ B, w1.heap.size = B := ⟨_, rfl⟩
  have f : Below w.heap.size w w2 := by rw [← hw2]; exact (HS1.out.1.alloc (by have := HS1.out.1.size; simp; try omega) _)
  have t0 : Cells (w.heap.size) [.bool b, .string s, .bool bd, .string t] w2 := by rw [← hw2]; exact ((HS1.out.2.1).alloc (by have := (HS1.out.2.1).lt; simp; try omega) _)
  have t1 : Cells (w.heap.size + 1) [.bool false, .string ⟨#[]⟩, .string ⟨#[]⟩] w2 := by rw [← hw2]; exact ((HS1.out.2.2).alloc (by have := (HS1.out.2.2).lt; simp; try omega) _)
  have t2 : Cells B2 [.bool bg, .string sg] w2 := by
    rw [← hw2, ← hB2]
    have h := cells_new w1 #[.bool bg, .string sg] 23
    (try simp only at h)
    exact h
  have xB20 : ¬ (w.heap.size) = B2 := by have := (HS1.out.2.1).lt; omega
  have xB21 : ¬ (w.heap.size + 1) = B2 := by have := (HS1.out.2.2).lt; omega
  have gB2 : w.heap.size ≤ B2 := by have := HS1.out.1.size; omega
  have HS2 := Lib.hid (And.intro f (And.intro t0 (And.intro t1 t2)))
  rw [hw2]
  (try rw [hB2])
  clear hw2 hB2 f t0 t1 t2
  refine (R2.out _).mono ?_
  rintro e w3 ⟨rfl, c⟩
  have f := HS2.out.1.trans (c.mono HS2.out.1.size)
  have t0 := (HS2.out.2.1).below c (HS2.out.2.1).lt
  have t1 := (HS2.out.2.2.1).below c (HS2.out.2.2.1).lt
  have t2 := (HS2.out.2.2.2).below c (HS2.out.2.2.2).lt
  have HS3 := Lib.hid (And.intro f (And.intro t0 (And.intro t1 t2)))
  clear c f t0 t1 t2
  have l0 := (HS3.out.2.1).lt
  have m00 := (HS3.out.2.1 0 _ rfl).1
  have m01 := (HS3.out.2.1 1 _ rfl).1
  have m02 := (HS3.out.2.1 2 _ rfl).1
  have m03 := (HS3.out.2.1 3 _ rfl).1
  have l1 := (HS3.out.2.2.1).lt
  have l2 := (HS3.out.2.2.2).lt
  have m20 := (HS3.out.2.2.2 0 _ rfl).1
  have m21 := (HS3.out.2.2.2 1 _ rfl).1
  go_wp2_with fail
  clear l0 m00 m01 m02 m03 l1 l2 m20 m21
  obtain ⟨w4, hw4⟩ : ∃ V, ((w3.alloc (Obj.cells #[Value.bool b', Value.string s'] 23)).alloc (Obj.cells #[Value.bool bz, Value.string sz] 23)) = V := ⟨_, rfl⟩
  obtain ⟨B4, hB4⟩ : ∃ B, w3.heap.size = B := ⟨_, rfl⟩
  obtain ⟨B5, hB5⟩ : ∃ B, B4 + 1 = B := ⟨_, rfl⟩
  have f : Below w.heap.size w w4 := by rw [← hw4]; exact ((HS3.out.1.alloc (by have := HS3.out.1.size; simp; try omega) _).alloc (by have := HS3.out.1.size; simp; try omega) _)
  have t0 : Cells (w.heap.size) [.bool b, .string s, .bool bd, .string t] w4 := by rw [← hw4]; exact ((((HS3.out.2.1).alloc (by have := (HS3.out.2.1).lt; simp; try omega) _)).alloc (by have := (HS3.out.2.1).lt; simp; try omega) _)
  have t1 : Cells (w.heap.size + 1) [.bool false, .string ⟨#[]⟩, .string ⟨#[]⟩] w4 := by rw [← hw4]; exact ((((HS3.out.2.2.1).alloc (by have := (HS3.out.2.2.1).lt; simp; try omega) _)).alloc (by have := (HS3.out.2.2.1).lt; simp; try omega) _)
  have t2 : Cells (B2) [.bool bg, .string sg] w4 := by rw [← hw4]; exact ((((HS3.out.2.2.2).alloc (by have := (HS3.out.2.2.2).lt; simp; try omega) _)).alloc (by have := (HS3.out.2.2.2).lt; simp; try omega) _)
  have t3 : Cells B4 [.bool b', .string s'] w4 := by
    rw [← hw4, ← hB4]
    have h := cells_new w3 #[.bool b', .string s'] 23
    (try simp only at h)
    exact (h.alloc (by simp; try omega) _)
  have t4 : Cells B5 [.bool bz, .string sz] w4 := by
    rw [← hw4, ← hB5, ← hB4]
    have h := cells_new (w3.alloc (Obj.cells #[Value.bool b', Value.string s'] 23)) #[.bool bz, .string sz] 23
    (try simp only [World.size_alloc] at h)
    exact h
  have xB40 : ¬ (w.heap.size) = B4 := by have := (HS3.out.2.1).lt; omega
  have xB41 : ¬ (w.heap.size + 1) = B4 := by have := (HS3.out.2.2.1).lt; omega
  have xB42 : ¬ (B2) = B4 := by have := (HS3.out.2.2.2).lt; omega
  have gB4 : w.heap.size ≤ B4 := by have := HS3.out.1.size; omega
  have xB50 : ¬ (w.heap.size) = B5 := by have := (HS3.out.2.1).lt; omega
  have xB51 : ¬ (w.heap.size + 1) = B5 := by have := (HS3.out.2.2.1).lt; omega
  have xB52 : ¬ (B2) = B5 := by have := (HS3.out.2.2.2).lt; omega
  have xB53 : ¬ B4 = B5 := by omega
  have gB5 : w.heap.size ≤ B5 := by have := HS3.out.1.size; omega
  have HS4 := Lib.hid (And.intro f (And.intro t0 (And.intro t1 (And.intro t2 (And.intro t3 t4)))))
  rw [hw4]
  (try rw [hB4, hB5])
  clear hw4 hB5 hB4 f t0 t1 t2 t3 t4
  refine (R3.out _).mono ?_
  rintro e w5 ⟨rfl, c⟩
  have f := HS4.out.1.trans (c.mono HS4.out.1.size)
  have t0 := (HS4.out.2.1).below c (HS4.out.2.1).lt
  have t1 := (HS4.out.2.2.1).below c (HS4.out.2.2.1).lt
  have t2 := (HS4.out.2.2.2.1).below c (HS4.out.2.2.2.1).lt
  have t3 := (HS4.out.2.2.2.2.1).below c (HS4.out.2.2.2.2.1).lt
  have t4 := (HS4.out.2.2.2.2.2).below c (HS4.out.2.2.2.2.2).lt
  have HS5 := Lib.hid (And.intro f (And.intro t0 (And.intro t1 (And.intro t2 (And.intro t3 t4)))))
  clear c f t0 t1 t2 t3 t4
  by_cases hp1 : p = 1
  · have hon1 : (sp.toList == [1]) = true := by rw [Lib.toList_data, hon, decide_eq_true hp1]
    clear hon
    have l0 := (HS5.out.2.1).lt
    have m00 := (HS5.out.2.1 0 _ rfl).1
    have m01 := (HS5.out.2.1 1 _ rfl).1
    have m02 := (HS5.out.2.1 2 _ rfl).1
    have m03 := (HS5.out.2.1 3 _ rfl).1
    have l1 := (HS5.out.2.2.1).lt
    have m10 := (HS5.out.2.2.1 0 _ rfl).1
    have z10 := (HS5.out.2.2.1 0 _ rfl).2
    have m11 := (HS5.out.2.2.1 1 _ rfl).1
    have z11 := (HS5.out.2.2.1 1 _ rfl).2
    have m12 := (HS5.out.2.2.1 2 _ rfl).1
    have z12 := (HS5.out.2.2.1 2 _ rfl).2
    have l2 := (HS5.out.2.2.2.1).lt
    have l3 := (HS5.out.2.2.2.2.1).lt
    have m30 := (HS5.out.2.2.2.2.1 0 _ rfl).1
    have m31 := (HS5.out.2.2.2.2.1 1 _ rfl).1
    have l4 := (HS5.out.2.2.2.2.2).lt
    go_wp2_with fail
    clear l0 m00 m01 m02 m03 l1 m10 z10 m11 z11 m12 z12 l2 l3 m30 m31 l4
    have hte : t' = ⟨#[]⟩ := by rw [HT.out, if_pos hp1]
    rw [hte]
    obtain ⟨w6, hw6⟩ : ∃ V, (((w5.setCell ⟨w.heap.size + 1, 0, none⟩ (Value.bool b')).setCell ⟨w.heap.size + 1, 1, none⟩ (Value.string s')).setCell ⟨w.heap.size + 1, 2, none⟩ (Value.string ⟨#[]⟩)) = V := ⟨_, rfl⟩
    have f : Below w.heap.size w w6 := by rw [← hw6]; exact (below_sets (below_sets (below_sets HS5.out.1 (by first | assumption | exact Nat.le_refl _ | omega) 0 (Value.bool b')) (by first | assumption | exact Nat.le_refl _ | omega) 1 (Value.string s')) (by first | assumption | exact Nat.le_refl _ | omega) 2 (Value.string ⟨#[]⟩))
    have t0 : Cells (w.heap.size) [.bool b, .string s, .bool bd, .string t] w6 := by rw [← hw6]; exact ((((((HS5.out.2.1).other (by omega))).other (by omega))).other (by omega))
    have t1 : Cells (w.heap.size + 1) [.bool b', .string s', .string ⟨#[]⟩] w6 := by rw [← hw6]; exact ((((((HS5.out.2.2.1).set (k := 0) (Value.bool b') _ rfl)).set (k := 1) (Value.string s') _ rfl)).set (k := 2) (Value.string ⟨#[]⟩) _ rfl)
    have t2 : Cells (B2) [.bool bg, .string sg] w6 := by rw [← hw6]; exact ((((((HS5.out.2.2.2.1).other (by omega))).other (by omega))).other (by omega))
    have t3 : Cells (B4) [.bool b', .string s'] w6 := by rw [← hw6]; exact ((((((HS5.out.2.2.2.2.1).other (by omega))).other (by omega))).other (by omega))
    have t4 : Cells (B5) [.bool bz, .string sz] w6 := by rw [← hw6]; exact ((((((HS5.out.2.2.2.2.2).other (by omega))).other (by omega))).other (by omega))
    have HS6 := Lib.hid (And.intro f (And.intro t0 (And.intro t1 (And.intro t2 (And.intro t3 t4)))))
    rw [hw6]
    clear hw6 f t0 t1 t2 t3 t4
    obtain ⟨w7, hw7⟩ : ∃ V, ((w6.alloc (Obj.cells #[Value.bool bp, Value.string ⟨#[]⟩] 23)).alloc (Obj.cells #[Value.bool bz, Value.string sz] 23)) = V := ⟨_, rfl⟩
    obtain ⟨B8, hB8⟩ : ∃ B, w6.heap.size = B := ⟨_, rfl⟩
    obtain ⟨B9, hB9⟩ : ∃ B, B8 + 1 = B := ⟨_, rfl⟩
    have f : Below w.heap.size w w7 := by rw [← hw7]; exact ((HS6.out.1.alloc (by have := HS6.out.1.size; simp; try omega) _).alloc (by have := HS6.out.1.size; simp; try omega) _)
    have t0 : Cells (w.heap.size) [.bool b, .string s, .bool bd, .string t] w7 := by rw [← hw7]; exact ((((HS6.out.2.1).alloc (by have := (HS6.out.2.1).lt; simp; try omega) _)).alloc (by have := (HS6.out.2.1).lt; simp; try omega) _)
    have t1 : Cells (w.heap.size + 1) [.bool b', .string s', .string ⟨#[]⟩] w7 := by rw [← hw7]; exact ((((HS6.out.2.2.1).alloc (by have := (HS6.out.2.2.1).lt; simp; try omega) _)).alloc (by have := (HS6.out.2.2.1).lt; simp; try omega) _)
    have t2 : Cells (B2) [.bool bg, .string sg] w7 := by rw [← hw7]; exact ((((HS6.out.2.2.2.1).alloc (by have := (HS6.out.2.2.2.1).lt; simp; try omega) _)).alloc (by have := (HS6.out.2.2.2.1).lt; simp; try omega) _)
    have t3 : Cells (B4) [.bool b', .string s'] w7 := by rw [← hw7]; exact ((((HS6.out.2.2.2.2.1).alloc (by have := (HS6.out.2.2.2.2.1).lt; simp; try omega) _)).alloc (by have := (HS6.out.2.2.2.2.1).lt; simp; try omega) _)
    have t4 : Cells (B5) [.bool bz, .string sz] w7 := by rw [← hw7]; exact ((((HS6.out.2.2.2.2.2).alloc (by have := (HS6.out.2.2.2.2.2).lt; simp; try omega) _)).alloc (by have := (HS6.out.2.2.2.2.2).lt; simp; try omega) _)
    have t5 : Cells B8 [.bool bp, .string ⟨#[]⟩] w7 := by
      rw [← hw7, ← hB8]
      have h := cells_new w6 #[.bool bp, .string ⟨#[]⟩] 23
      (try simp only at h)
      exact (h.alloc (by simp; try omega) _)
    have t6 : Cells B9 [.bool bz, .string sz] w7 := by
      rw [← hw7, ← hB9, ← hB8]
      have h := cells_new (w6.alloc (Obj.cells #[Value.bool bp, Value.string ⟨#[]⟩] 23)) #[.bool bz, .string sz] 23
      (try simp only [World.size_alloc] at h)
      exact h
    have xB80 : ¬ (w.heap.size) = B8 := by have := (HS6.out.2.1).lt; omega
    have xB81 : ¬ (w.heap.size + 1) = B8 := by have := (HS6.out.2.2.1).lt; omega
    have xB82 : ¬ (B2) = B8 := by have := (HS6.out.2.2.2.1).lt; omega
    have xB83 : ¬ (B4) = B8 := by have := (HS6.out.2.2.2.2.1).lt; omega
    have xB84 : ¬ (B5) = B8 := by have := (HS6.out.2.2.2.2.2).lt; omega
    have gB8 : w.heap.size ≤ B8 := by have := HS6.out.1.size; omega
    have xB90 : ¬ (w.heap.size) = B9 := by have := (HS6.out.2.1).lt; omega
    have xB91 : ¬ (w.heap.size + 1) = B9 := by have := (HS6.out.2.2.1).lt; omega
    have xB92 : ¬ (B2) = B9 := by have := (HS6.out.2.2.2.1).lt; omega
    have xB93 : ¬ (B4) = B9 := by have := (HS6.out.2.2.2.2.1).lt; omega
    have xB94 : ¬ (B5) = B9 := by have := (HS6.out.2.2.2.2.2).lt; omega
    have xB95 : ¬ B8 = B9 := by omega
    have gB9 : w.heap.size ≤ B9 := by have := HS6.out.1.size; omega
    have HS7 := Lib.hid (And.intro f (And.intro t0 (And.intro t1 (And.intro t2 (And.intro t3 (And.intro t4 (And.intro t5 t6)))))))
    rw [hw7]
    (try rw [hB8, hB9])
    clear hw7 hB9 hB8 f t0 t1 t2 t3 t4 t5 t6
    have y0 := (HS7.out.2.2.1 0 _ rfl).1
    have y1 := (HS7.out.2.2.1 1 _ rfl).1
    have y2 := (HS7.out.2.2.1 2 _ rfl).1
    refine bodyPost_ret (v := .agg #[.bool b', .string s', .string ⟨#[]⟩]) (by simp [results, Tryz.results73, go_sem, y0, y1, y2]) rfl ⟨rfl, HS7.out.1⟩
  · have hon1 : (sp.toList == [1]) = false := by rw [Lib.toList_data, hon, decide_eq_false hp1]
    clear hon
    have l0 := (HS5.out.2.1).lt
    have m00 := (HS5.out.2.1 0 _ rfl).1
    have m01 := (HS5.out.2.1 1 _ rfl).1
    have m02 := (HS5.out.2.1 2 _ rfl).1
    have m03 := (HS5.out.2.1 3 _ rfl).1
    have l1 := (HS5.out.2.2.1).lt
    have m10 := (HS5.out.2.2.1 0 _ rfl).1
    have z10 := (HS5.out.2.2.1 0 _ rfl).2
    have m11 := (HS5.out.2.2.1 1 _ rfl).1
    have z11 := (HS5.out.2.2.1 1 _ rfl).2
    have m12 := (HS5.out.2.2.1 2 _ rfl).1
    have z12 := (HS5.out.2.2.1 2 _ rfl).2
    have l2 := (HS5.out.2.2.2.1).lt
    have l3 := (HS5.out.2.2.2.2.1).lt
    have m30 := (HS5.out.2.2.2.2.1 0 _ rfl).1
    have m31 := (HS5.out.2.2.2.2.1 1 _ rfl).1
    have l4 := (HS5.out.2.2.2.2.2).lt
    go_wp2_with fail
    clear l0 m00 m01 m02 m03 l1 m10 z10 m11 z11 m12 z12 l2 l3 m30 m31 l4
    have hte : t' = sp := by rw [HT.out, if_neg hp1]
    obtain ⟨w6, hw6⟩ : ∃ V, (((w5.setCell ⟨w.heap.size + 1, 0, none⟩ (Value.bool b')).setCell ⟨w.heap.size + 1, 1, none⟩ (Value.string s')).setCell ⟨w.heap.size + 1, 2, none⟩ (Value.string sp)) = V := ⟨_, rfl⟩
    have f : Below w.heap.size w w6 := by rw [← hw6]; exact (below_sets (below_sets (below_sets HS5.out.1 (by first | assumption | exact Nat.le_refl _ | omega) 0 (Value.bool b')) (by first | assumption | exact Nat.le_refl _ | omega) 1 (Value.string s')) (by first | assumption | exact Nat.le_refl _ | omega) 2 (Value.string sp))
    have t0 : Cells (w.heap.size) [.bool b, .string s, .bool bd, .string t] w6 := by rw [← hw6]; exact ((((((HS5.out.2.1).other (by omega))).other (by omega))).other (by omega))
    have t1 : Cells (w.heap.size + 1) [.bool b', .string s', .string sp] w6 := by rw [← hw6]; exact ((((((HS5.out.2.2.1).set (k := 0) (Value.bool b') _ rfl)).set (k := 1) (Value.string s') _ rfl)).set (k := 2) (Value.string sp) _ rfl)
    have t2 : Cells (B2) [.bool bg, .string sg] w6 := by rw [← hw6]; exact ((((((HS5.out.2.2.2.1).other (by omega))).other (by omega))).other (by omega))
    have t3 : Cells (B4) [.bool b', .string s'] w6 := by rw [← hw6]; exact ((((((HS5.out.2.2.2.2.1).other (by omega))).other (by omega))).other (by omega))
    have t4 : Cells (B5) [.bool bz, .string sz] w6 := by rw [← hw6]; exact ((((((HS5.out.2.2.2.2.2).other (by omega))).other (by omega))).other (by omega))
    have HS6 := Lib.hid (And.intro f (And.intro t0 (And.intro t1 (And.intro t2 (And.intro t3 t4)))))
    rw [hw6]
    clear hw6 f t0 t1 t2 t3 t4
    obtain ⟨w7, hw7⟩ : ∃ V, ((w6.alloc (Obj.cells #[Value.bool bp, Value.string sp] 23)).alloc (Obj.cells #[Value.bool bz, Value.string sz] 23)) = V := ⟨_, rfl⟩
    obtain ⟨B8, hB8⟩ : ∃ B, w6.heap.size = B := ⟨_, rfl⟩
    obtain ⟨B9, hB9⟩ : ∃ B, B8 + 1 = B := ⟨_, rfl⟩
    have f : Below w.heap.size w w7 := by rw [← hw7]; exact ((HS6.out.1.alloc (by have := HS6.out.1.size; simp; try omega) _).alloc (by have := HS6.out.1.size; simp; try omega) _)
    have t0 : Cells (w.heap.size) [.bool b, .string s, .bool bd, .string t] w7 := by rw [← hw7]; exact ((((HS6.out.2.1).alloc (by have := (HS6.out.2.1).lt; simp; try omega) _)).alloc (by have := (HS6.out.2.1).lt; simp; try omega) _)
    have t1 : Cells (w.heap.size + 1) [.bool b', .string s', .string sp] w7 := by rw [← hw7]; exact ((((HS6.out.2.2.1).alloc (by have := (HS6.out.2.2.1).lt; simp; try omega) _)).alloc (by have := (HS6.out.2.2.1).lt; simp; try omega) _)
    have t2 : Cells (B2) [.bool bg, .string sg] w7 := by rw [← hw7]; exact ((((HS6.out.2.2.2.1).alloc (by have := (HS6.out.2.2.2.1).lt; simp; try omega) _)).alloc (by have := (HS6.out.2.2.2.1).lt; simp; try omega) _)
    have t3 : Cells (B4) [.bool b', .string s'] w7 := by rw [← hw7]; exact ((((HS6.out.2.2.2.2.1).alloc (by have := (HS6.out.2.2.2.2.1).lt; simp; try omega) _)).alloc (by have := (HS6.out.2.2.2.2.1).lt; simp; try omega) _)
    have t4 : Cells (B5) [.bool bz, .string sz] w7 := by rw [← hw7]; exact ((((HS6.out.2.2.2.2.2).alloc (by have := (HS6.out.2.2.2.2.2).lt; simp; try omega) _)).alloc (by have := (HS6.out.2.2.2.2.2).lt; simp; try omega) _)
    have t5 : Cells B8 [.bool bp, .string sp] w7 := by
      rw [← hw7, ← hB8]
      have h := cells_new w6 #[.bool bp, .string sp] 23
      (try simp only at h)
      exact (h.alloc (by simp; try omega) _)
    have t6 : Cells B9 [.bool bz, .string sz] w7 := by
      rw [← hw7, ← hB9, ← hB8]
      have h := cells_new (w6.alloc (Obj.cells #[Value.bool bp, Value.string sp] 23)) #[.bool bz, .string sz] 23
      (try simp only [World.size_alloc] at h)
      exact h
    have xB80 : ¬ (w.heap.size) = B8 := by have := (HS6.out.2.1).lt; omega
    have xB81 : ¬ (w.heap.size + 1) = B8 := by have := (HS6.out.2.2.1).lt; omega
    have xB82 : ¬ (B2) = B8 := by have := (HS6.out.2.2.2.1).lt; omega
    have xB83 : ¬ (B4) = B8 := by have := (HS6.out.2.2.2.2.1).lt; omega
    have xB84 : ¬ (B5) = B8 := by have := (HS6.out.2.2.2.2.2).lt; omega
    have gB8 : w.heap.size ≤ B8 := by have := HS6.out.1.size; omega
    have xB90 : ¬ (w.heap.size) = B9 := by have := (HS6.out.2.1).lt; omega
    have xB91 : ¬ (w.heap.size + 1) = B9 := by have := (HS6.out.2.2.1).lt; omega
    have xB92 : ¬ (B2) = B9 := by have := (HS6.out.2.2.2.1).lt; omega
    have xB93 : ¬ (B4) = B9 := by have := (HS6.out.2.2.2.2.1).lt; omega
    have xB94 : ¬ (B5) = B9 := by have := (HS6.out.2.2.2.2.2).lt; omega
    have xB95 : ¬ B8 = B9 := by omega
    have gB9 : w.heap.size ≤ B9 := by have := HS6.out.1.size; omega
    have HS7 := Lib.hid (And.intro f (And.intro t0 (And.intro t1 (And.intro t2 (And.intro t3 (And.intro t4 (And.intro t5 t6)))))))
    rw [hw7]
    (try rw [hB8, hB9])
    clear hw7 hB9 hB8 f t0 t1 t2 t3 t4 t5 t6
    rw [hte]
    have y0 := (HS7.out.2.2.1 0 _ rfl).1
    have y1 := (HS7.out.2.2.1 1 _ rfl).1
    have y2 := (HS7.out.2.2.1 2 _ rfl).1
    refine bodyPost_ret (v := .agg #[.bool b', .string s', .string sp]) (by simp [results, Tryz.results73, go_sem, y0, y1, y2]) rfl ⟨rfl, HS7.out.1⟩
end Go.Proofs.YtpdhffjdgnpikaaGreatDoor
