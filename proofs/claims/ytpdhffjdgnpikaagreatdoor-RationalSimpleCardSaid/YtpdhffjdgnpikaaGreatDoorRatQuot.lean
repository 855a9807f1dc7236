/- The contracts of rational.divisor, quotientOf and of the quotients' methods. -/
import Derived.Test.YtpdhffjdgnpikaaGreatDoorRatCells
import Derived.Test.YtpdhffjdgnpikaaGreatDoorLawKit
import Derived.Test.YtpdhffjdgnpikaaGreatDoorShelfTrim
import Derived.Outline
import Derived.Handy
namespace Go.Proofs.YtpdhffjdgnpikaaGreatDoor
open Go.RowKit Go.Shelf

theorem takeWhile_all (p : UInt8 → Bool) : ∀ (l : List UInt8) (x : UInt8), x ∈ l.takeWhile p → p x = true
  | [], x, h => by simp at h
  | a :: l, x, h => by
    rw [List.takeWhile_cons] at h
    split at h
    · rename_i ha
      rcases List.mem_cons.1 h with rfl | h2
      · exact ha
      · exact takeWhile_all p l x h2
    · simp at h
theorem trim_right (l : List UInt8) : ∃ k, l = Lib.trimRightB l 0 ++ List.replicate k 0 := by
  have h := List.takeWhile_append_dropWhile (p := fun x : UInt8 => x == 0) (l := l.reverse)
  refine ⟨(l.reverse.takeWhile (fun x : UInt8 => x == 0)).length, ?_⟩
  have h2 := congrArg List.reverse h
  rw [List.reverse_append, List.reverse_reverse] at h2
  unfold Lib.trimRightB
  have h3 : l.reverse.takeWhile (fun x : UInt8 => x == 0) = List.replicate (l.reverse.takeWhile (fun x : UInt8 => x == 0)).length 0 := by
    refine List.eq_replicate_iff.2 ⟨rfl, fun x hx => ?_⟩
    simpa using takeWhile_all _ _ x hx
  rw [h3, List.reverse_replicate] at h2
  exact h2.symm
theorem beVal_shift (l : List UInt8) (k : Nat) : beVal (l ++ List.replicate k 0) = beVal l * 256 ^ k := by
  rw [beVal_append, List.length_replicate]
  have : beVal (List.replicate k 0) = 0 := by
    induction k with
    | zero => rfl
    | succ k ih => rw [List.replicate_succ', beVal_snoc, ih]; rfl
  omega
theorem trim_empty (l : List UInt8) : (Lib.trimB l 0).isEmpty = decide (beVal l = 0) := by
  have e : Lib.trimB l 0 = be (beVal (Lib.trimRightB l 0)) := by
    rw [← strip_be]; rfl
  obtain ⟨k, hk⟩ := trim_right l
  have hp : 0 < 256 ^ k := Nat.pow_pos (by omega)
  have h1 : beVal l = beVal (Lib.trimRightB l 0) * 256 ^ k := by
    have := congrArg beVal hk
    rw [beVal_shift] at this
    exact this
  rw [e]
  by_cases h : beVal l = 0
  · rw [decide_eq_true h]
    have h2 : beVal (Lib.trimRightB l 0) = 0 := by
      rcases Nat.mul_eq_zero.1 (h1.symm.trans h) with h3 | h3
      · exact h3
      · omega
    rw [h2]; rfl
  · rw [decide_eq_false h]
    have h2 : beVal (Lib.trimRightB l 0) ≠ 0 := fun h3 => h (by rw [h1, h3, Nat.zero_mul])
    rw [be_pos _ h2]
    simp
theorem nam_val {b : Bool} {s : ByteArray} {z : Int} (h : Nam b s z) (hs : s.size ≤ 262144) : Val b s z := ⟨by obtain ⟨rfl, rfl⟩ := h; exact ival_mg z, hs⟩
/-- The digits of the denominator, that of 1 in the place of none. -/
def dvs (t : ByteArray) : ByteArray := if beVal t.data.toList = 0 then ⟨#[1]⟩ else t
theorem dvs_val (t : ByteArray) : ival false (dvs t) = (rden t : Int) := by
  unfold dvs rden ival
  by_cases h : beVal t.data.toList = 0
  · rw [if_pos h, if_pos h]; rfl
  · rw [if_neg h, if_neg h]; rfl
theorem dvs_size (t : ByteArray) (k : Nat) (h : t.size ≤ k) (hk : 1 ≤ k) : (dvs t).size ≤ k := by
  unfold dvs
  split
  · exact hk
  · exact h

set_option maxHeartbeats 1000000 in
set_option maxRecDepth 100000 in
theorem divisor_any (b : Bool) (s t : ByteArray) (w : World) (ht : t.size ≤ 9223372036854775807) :
    Calls Tryz.prog 65 #[.agg #[.bool b, .string s, .string t]] w fun e w' => e = .returned (.string (dvs t)) ∧ Below w.heap.size w w' := by
  have htr := fun W => Tryz.strings_Trim_one t 0 (by decide) W ht
  obtain ⟨u, hu⟩ : ∃ u : ByteArray, (⟨(Lib.trimB t.data.toList 0).toArray⟩ : ByteArray) = u := ⟨_, rfl⟩
  have hue : u.toList.isEmpty = decide (beVal t.data.toList = 0) := by
    rw [Lib.toList_data, ← hu]; exact trim_empty _
  rw [hu] at htr
  have HTR := Lib.hid htr
  clear hu htr
  unfold dvs
  by_cases h : beVal t.data.toList = 0
  · rw [decide_eq_true h] at hue
    rw [if_pos h]
    clear h
    go_enter Tryz.func65, Tryz.ntmps65
    go_wp2_with fail
    refine (HTR.out _).mono ?_
    rintro e w' ⟨rfl, rfl | rfl⟩
    · go_wp2_with fail
      go_ret
      exact ⟨rfl, (Below.refl _ _).alloc (Nat.le_refl _) _⟩
    · go_wp2_with fail
      go_ret
      exact ⟨rfl, ((Below.refl _ _).alloc (Nat.le_refl _) _).drew⟩
  · rw [decide_eq_false h] at hue
    rw [if_neg h]
    clear h
    go_enter Tryz.func65, Tryz.ntmps65
    go_wp2_with fail
    refine (HTR.out _).mono ?_
    rintro e w' ⟨rfl, rfl | rfl⟩
    · go_wp2_with fail
      go_ret
      exact ⟨rfl, (Below.refl _ _).alloc (Nat.le_refl _) _⟩
    · go_wp2_with fail
      go_ret
      exact ⟨rfl, ((Below.refl _ _).alloc (Nat.le_refl _) _).drew⟩

set_option maxHeartbeats 1000000 in
set_option maxRecDepth 100000 in
theorem quotientOf_any (b : Bool) (s t : ByteArray) (w : World) (ht : t.size ≤ 9223372036854775807) :
    Calls Tryz.prog 61 #[.agg #[.bool b, .string s, .string t]] w fun e w' => e = .returned (.agg #[.bool b, .string s, .bool false, .string (dvs t)]) ∧ Below w.heap.size w w' := by
  obtain ⟨d, hd⟩ : ∃ d, dvs t = d := ⟨_, rfl⟩
  have hdv := fun W => divisor_any b s t W ht
  rw [hd] at hdv ⊢
  have R1 := Lib.hid hdv
  clear hdv hd
  go_enter Tryz.func61, Tryz.ntmps61
  go_wp2_with fail
  obtain ⟨W0, hW0⟩ : ∃ V, ((w.alloc (Obj.cells #[Value.bool b, Value.string s, Value.string t] 25)).alloc (Obj.cells #[Value.bool false, Value.string ⟨#[]⟩, Value.bool false, Value.string ⟨#[]⟩] 60)) = V := ⟨_, rfl⟩
  have sW0 : W0.heap.size = w.heap.size + 1 + 1 := by rw [← hW0]; simp
  have k0 : Cells (w.heap.size) [.bool b, .string s, .string t] W0 := by
    rw [← hW0]
    have h := cells_new w #[.bool b, .string s, .string t] 25
    exact (h.alloc (by simp; try omega) _)
  have k1 : Cells (w.heap.size + 1) [.bool false, .string ⟨#[]⟩, .bool false, .string ⟨#[]⟩] W0 := by
    rw [← hW0]
    have h := cells_new (w.alloc (Obj.cells #[Value.bool b, Value.string s, Value.string t] 25)) #[.bool false, .string ⟨#[]⟩, .bool false, .string ⟨#[]⟩] 60
    simp only [World.size_alloc] at h
    exact h
  have bW0 : Below w.heap.size w W0 := by
    rw [← hW0]
    exact (((Below.refl _ _).alloc (Nat.le_refl _) _).alloc (by simp; try omega) _)
  rw [hW0]
  clear hW0
  have l0 := k0.lt
  have m00 := (k0 0 _ rfl).1
  have m01 := (k0 1 _ rfl).1
  have m02 := (k0 2 _ rfl).1
  have l1 := k1.lt
  have HQ := Lib.hid (And.intro bW0 (And.intro k0 k1))
  clear bW0 sW0 k0 k1
  have tok1 : True := trivial
  have hRb : w.heap.size + 1 ≤ W0.heap.size := by omega
  go_region_held3 (fun w' => ∀ (a o : Nat), a < w.heap.size + 1 → w'.cell? ⟨a, o, none⟩ = W0.cell? ⟨a, o, none⟩) (first | with_reducible assumption | (intro _ _ _; rfl) | (repeat' (first | with_reducible assumption | with_reducible (refine keepN_set ?_ ?_) | with_reducible (refine keepN_alloc ?_ ?_) | exact Nat.le_refl _ | omega | (intro _ _ _; rfl))))
    (first | (go_at_call 65; have _t := tok1; clear tok1; refine (R1.out _).mono ?_; rintro e u1 ⟨rfl, d1⟩; have E1 := Lib.hid (d1); have kS1 : ∀ (a o : Nat), a < w.heap.size + 1 → u1.cell? ⟨a, o, none⟩ = W0.cell? ⟨a, o, none⟩ := fun a o h => E1.out.cell (p := ⟨a, o, none⟩) (Nat.lt_of_lt_of_le h hRb); have hz1 : W0.heap.size ≤ u1.heap.size := E1.out.size; clear d1; have kR := (show Cells _ _ W0.drew from HQ.out.2.2).below E1.out l1; obtain ⟨r00, r01⟩ := kR 0 _ rfl; obtain ⟨r10, r11⟩ := kR 1 _ rfl; obtain ⟨r20, r21⟩ := kR 2 _ rfl; obtain ⟨r30, r31⟩ := kR 3 _ rfl; clear kR))
  have kF0 := (show Cells _ _ W0.drew from HQ.out.2.2).below E1.out l1
  have kF1 := kF0.set (k := 0) (Value.bool b) _ rfl
  have kF2 := kF1.set (k := 1) (Value.string s) _ rfl
  have kF3 := kF2.set (k := 2) (Value.bool false) _ rfl
  have kF4 := kF3.set (k := 3) (Value.string d) _ rfl
  have y0 := (kF4 0 _ rfl).1
  have y1 := (kF4 1 _ rfl).1
  have y2 := (kF4 2 _ rfl).1
  have y3 := (kF4 3 _ rfl).1
  have hbf := HQ.out.1.trans ((((Below.refl W0.heap.size W0).drew).trans E1.out).mono HQ.out.1.size)
  have hbg := (below_sets (below_sets (below_sets (below_sets hbf (show w.heap.size ≤ w.heap.size + 1 by omega) 0 (Value.bool b)) (show w.heap.size ≤ w.heap.size + 1 by omega) 1 (Value.string s)) (show w.heap.size ≤ w.heap.size + 1 by omega) 2 (Value.bool false)) (show w.heap.size ≤ w.heap.size + 1 by omega) 3 (Value.string d))
  have HBG := Lib.hid hbg
  clear hbg hbf kF0 kF1 kF2 kF3 kF4
  go_wp2_with fail
  refine bodyPost_ret (v := .agg #[.bool b, .string s, .bool false, .string d]) (by simp [results, Tryz.results61, go_sem, y0, y1, y2, y3]) rfl ⟨rfl, HBG.out⟩

set_option maxHeartbeats 1000000 in
set_option maxRecDepth 100000 in
theorem times_qt {bx bd by' be' : Bool} {sx tx sy ty : ByteArray} {n1 d1 n2 d2 : Int} (h1 : Val bx sx n1) (h2 : Val bd tx d1) (h3 : Val by' sy n2) (h4 : Val be' ty d2) {b1 b2 : Bool} {s1 s2 : ByteArray} (m1 : Nam b1 s1 (n1 * n2)) (m2 : Nam b2 s2 (d1 * d2)) (w : World) :
    Calls Tryz.prog 80 #[.agg #[.bool bx, .string sx, .bool bd, .string tx], .agg #[.bool by', .string sy, .bool be', .string ty]] w fun e w' => e = .returned (.agg #[.bool b1, .string s1, .bool b2, .string s2]) ∧ Below w.heap.size w w' := by
  have R1 := Lib.hid (mul_val h1 h3 rfl m1)
  have R2 := Lib.hid (mul_val h2 h4 rfl m2)
  go_enter Tryz.func80, Tryz.ntmps80
  go_wp2_with fail
  obtain ⟨W0, hW0⟩ : ∃ V, (((w.alloc (Obj.cells #[Value.bool bx, Value.string sx, Value.bool bd, Value.string tx] 60)).alloc (Obj.cells #[Value.bool by', Value.string sy, Value.bool be', Value.string ty] 60)).alloc (Obj.cells #[Value.bool false, Value.string ⟨#[]⟩, Value.bool false, Value.string ⟨#[]⟩] 60)) = V := ⟨_, rfl⟩
  have sW0 : W0.heap.size = w.heap.size + 1 + 1 + 1 := by rw [← hW0]; simp
  have k0 : Cells (w.heap.size) [.bool bx, .string sx, .bool bd, .string tx] W0 := by
    rw [← hW0]
    have h := cells_new w #[.bool bx, .string sx, .bool bd, .string tx] 60
    exact ((h.alloc (by simp; try omega) _).alloc (by simp; try omega) _)
  have k1 : Cells (w.heap.size + 1) [.bool by', .string sy, .bool be', .string ty] W0 := by
    rw [← hW0]
    have h := cells_new (w.alloc (Obj.cells #[Value.bool bx, Value.string sx, Value.bool bd, Value.string tx] 60)) #[.bool by', .string sy, .bool be', .string ty] 60
    simp only [World.size_alloc] at h
    exact (h.alloc (by simp; try omega) _)
  have k2 : Cells (w.heap.size + 1 + 1) [.bool false, .string ⟨#[]⟩, .bool false, .string ⟨#[]⟩] W0 := by
    rw [← hW0]
    have h := cells_new ((w.alloc (Obj.cells #[Value.bool bx, Value.string sx, Value.bool bd, Value.string tx] 60)).alloc (Obj.cells #[Value.bool by', Value.string sy, Value.bool be', Value.string ty] 60)) #[.bool false, .string ⟨#[]⟩, .bool false, .string ⟨#[]⟩] 60
    simp only [World.size_alloc] at h
    exact h
  have bW0 : Below w.heap.size w W0 := by
    rw [← hW0]
    exact ((((Below.refl _ _).alloc (Nat.le_refl _) _).alloc (by simp; try omega) _).alloc (by simp; try omega) _)
  rw [hW0]
  clear hW0
  have l0 := k0.lt
  have m00 := (k0 0 _ rfl).1
  have m01 := (k0 1 _ rfl).1
  have m02 := (k0 2 _ rfl).1
  have m03 := (k0 3 _ rfl).1
  have l1 := k1.lt
  have m10 := (k1 0 _ rfl).1
  have m11 := (k1 1 _ rfl).1
  have m12 := (k1 2 _ rfl).1
  have m13 := (k1 3 _ rfl).1
  have l2 := k2.lt
  clear h1 h2 h3 h4 m1 m2
  have HQ := Lib.hid (And.intro bW0 (And.intro k0 (And.intro k1 k2)))
  clear bW0 sW0 k0 k1 k2
  have tok1 : True := trivial
  have tok2 : True := trivial
  have hRb : w.heap.size + 1 + 1 ≤ W0.heap.size := by omega
  go_region_held3 (fun w' => ∀ (a o : Nat), a < w.heap.size + 1 + 1 → w'.cell? ⟨a, o, none⟩ = W0.cell? ⟨a, o, none⟩) (first | with_reducible assumption | (intro _ _ _; rfl) | (repeat' (first | with_reducible assumption | with_reducible (refine keepN_set ?_ ?_) | with_reducible (refine keepN_alloc ?_ ?_) | exact Nat.le_refl _ | omega | (intro _ _ _; rfl))))
    (first | (go_at_call 118; have _t := tok1; clear tok1; refine (R1.out _).mono ?_; rintro e u1 ⟨rfl, d1⟩; have E1 := Lib.hid (d1); have kS1 : ∀ (a o : Nat), a < w.heap.size + 1 + 1 → u1.cell? ⟨a, o, none⟩ = W0.cell? ⟨a, o, none⟩ := fun a o h => E1.out.cell (p := ⟨a, o, none⟩) (Nat.lt_of_lt_of_le h hRb); have hz1 : W0.heap.size ≤ u1.heap.size := E1.out.size; clear d1) | (go_at_call 118; have _t := tok2; clear tok2; refine (R2.out _).mono ?_; rintro e u2 ⟨rfl, d2⟩; have E2 := Lib.hid (E1.out.trans (d2.mono E1.out.size)); have kS2 : ∀ (a o : Nat), a < w.heap.size + 1 + 1 → u2.cell? ⟨a, o, none⟩ = W0.cell? ⟨a, o, none⟩ := fun a o h => E2.out.cell (p := ⟨a, o, none⟩) (Nat.lt_of_lt_of_le h hRb); have hz2 : W0.heap.size ≤ u2.heap.size := E2.out.size; clear d2; have kR := (show Cells _ _ W0.drew from HQ.out.2.2.2).below E2.out l2; obtain ⟨r00, r01⟩ := kR 0 _ rfl; obtain ⟨r10, r11⟩ := kR 1 _ rfl; obtain ⟨r20, r21⟩ := kR 2 _ rfl; obtain ⟨r30, r31⟩ := kR 3 _ rfl; clear kR))
  have kF0 := (show Cells _ _ W0.drew from HQ.out.2.2.2).below E2.out l2
  have kF1 := kF0.set (k := 0) (Value.bool b1) _ rfl
  have kF2 := kF1.set (k := 1) (Value.string s1) _ rfl
  have kF3 := kF2.set (k := 2) (Value.bool b2) _ rfl
  have kF4 := kF3.set (k := 3) (Value.string s2) _ rfl
  have y0 := (kF4 0 _ rfl).1
  have y1 := (kF4 1 _ rfl).1
  have y2 := (kF4 2 _ rfl).1
  have y3 := (kF4 3 _ rfl).1
  have hbf := HQ.out.1.trans ((((Below.refl W0.heap.size W0).drew).trans E2.out).mono HQ.out.1.size)
  have hbg := (below_sets (below_sets (below_sets (below_sets hbf (show w.heap.size ≤ w.heap.size + 1 + 1 by omega) 0 (Value.bool b1)) (show w.heap.size ≤ w.heap.size + 1 + 1 by omega) 1 (Value.string s1)) (show w.heap.size ≤ w.heap.size + 1 + 1 by omega) 2 (Value.bool b2)) (show w.heap.size ≤ w.heap.size + 1 + 1 by omega) 3 (Value.string s2))
  have HBG := Lib.hid hbg
  clear hbg hbf kF0 kF1 kF2 kF3 kF4
  go_wp2_with fail
  refine bodyPost_ret (v := .agg #[.bool b1, .string s1, .bool b2, .string s2]) (by simp [results, Tryz.results80, go_sem, y0, y1, y2, y3]) rfl ⟨rfl, HBG.out⟩

set_option maxHeartbeats 1000000 in
set_option maxRecDepth 100000 in
theorem plus_qt {bx bd by' be' : Bool} {sx tx sy ty : ByteArray} {n1 d1 n2 d2 : Int} (h1 : Val bx sx n1) (h2 : Val bd tx d1) (h3 : Val by' sy n2) (h4 : Val be' ty d2) {b1 b2 b3 b4 : Bool} {s1 s2 s3 s4 : ByteArray} (m1 : Nam b3 s3 (n1 * d2)) (m2 : Nam b4 s4 (n2 * d1)) (z1 : s3.size ≤ 262144) (z2 : s4.size ≤ 262144) (m3 : Nam b1 s1 (n1 * d2 + n2 * d1)) (m4 : Nam b2 s2 (d1 * d2)) (w : World) :
    Calls Tryz.prog 72 #[.agg #[.bool bx, .string sx, .bool bd, .string tx], .agg #[.bool by', .string sy, .bool be', .string ty]] w fun e w' => e = .returned (.agg #[.bool b1, .string s1, .bool b2, .string s2]) ∧ Below w.heap.size w w' := by
  have R1 := Lib.hid (mul_val h1 h4 rfl m1)
  have R2 := Lib.hid (mul_val h3 h2 rfl m2)
  have R3 := Lib.hid (add_val (nam_val m1 z1) (nam_val m2 z2) rfl m3)
  have R4 := Lib.hid (mul_val h2 h4 rfl m4)
  go_enter Tryz.func72, Tryz.ntmps72
  go_wp2_with fail
  obtain ⟨W0, hW0⟩ : ∃ V, (((w.alloc (Obj.cells #[Value.bool bx, Value.string sx, Value.bool bd, Value.string tx] 60)).alloc (Obj.cells #[Value.bool by', Value.string sy, Value.bool be', Value.string ty] 60)).alloc (Obj.cells #[Value.bool false, Value.string ⟨#[]⟩, Value.bool false, Value.string ⟨#[]⟩] 60)) = V := ⟨_, rfl⟩
  have sW0 : W0.heap.size = w.heap.size + 1 + 1 + 1 := by rw [← hW0]; simp
  have k0 : Cells (w.heap.size) [.bool bx, .string sx, .bool bd, .string tx] W0 := by
    rw [← hW0]
    have h := cells_new w #[.bool bx, .string sx, .bool bd, .string tx] 60
    exact ((h.alloc (by simp; try omega) _).alloc (by simp; try omega) _)
  have k1 : Cells (w.heap.size + 1) [.bool by', .string sy, .bool be', .string ty] W0 := by
    rw [← hW0]
    have h := cells_new (w.alloc (Obj.cells #[Value.bool bx, Value.string sx, Value.bool bd, Value.string tx] 60)) #[.bool by', .string sy, .bool be', .string ty] 60
    simp only [World.size_alloc] at h
    exact (h.alloc (by simp; try omega) _)
  have k2 : Cells (w.heap.size + 1 + 1) [.bool false, .string ⟨#[]⟩, .bool false, .string ⟨#[]⟩] W0 := by
    rw [← hW0]
    have h := cells_new ((w.alloc (Obj.cells #[Value.bool bx, Value.string sx, Value.bool bd, Value.string tx] 60)).alloc (Obj.cells #[Value.bool by', Value.string sy, Value.bool be', Value.string ty] 60)) #[.bool false, .string ⟨#[]⟩, .bool false, .string ⟨#[]⟩] 60
    simp only [World.size_alloc] at h
    exact h
  have bW0 : Below w.heap.size w W0 := by
    rw [← hW0]
    exact ((((Below.refl _ _).alloc (Nat.le_refl _) _).alloc (by simp; try omega) _).alloc (by simp; try omega) _)
  rw [hW0]
  clear hW0
  have l0 := k0.lt
  have m00 := (k0 0 _ rfl).1
  have m01 := (k0 1 _ rfl).1
  have m02 := (k0 2 _ rfl).1
  have m03 := (k0 3 _ rfl).1
  have l1 := k1.lt
  have m10 := (k1 0 _ rfl).1
  have m11 := (k1 1 _ rfl).1
  have m12 := (k1 2 _ rfl).1
  have m13 := (k1 3 _ rfl).1
  have l2 := k2.lt
  clear h1 h2 h3 h4 m1 m2 m3 m4
  have HQ := Lib.hid (And.intro bW0 (And.intro k0 (And.intro k1 k2)))
  clear bW0 sW0 k0 k1 k2
  have tok1 : True := trivial
  have tok2 : True := trivial
  have tok3 : True := trivial
  have tok4 : True := trivial
  have hRb : w.heap.size + 1 + 1 ≤ W0.heap.size := by omega
  go_region_held3 (fun w' => ∀ (a o : Nat), a < w.heap.size + 1 + 1 → w'.cell? ⟨a, o, none⟩ = W0.cell? ⟨a, o, none⟩) (first | with_reducible assumption | (intro _ _ _; rfl) | (repeat' (first | with_reducible assumption | with_reducible (refine keepN_set ?_ ?_) | with_reducible (refine keepN_alloc ?_ ?_) | exact Nat.le_refl _ | omega | (intro _ _ _; rfl))))
    (first | (go_at_call 118; have _t := tok1; clear tok1; refine (R1.out _).mono ?_; rintro e u1 ⟨rfl, d1⟩; have E1 := Lib.hid (d1); have kS1 : ∀ (a o : Nat), a < w.heap.size + 1 + 1 → u1.cell? ⟨a, o, none⟩ = W0.cell? ⟨a, o, none⟩ := fun a o h => E1.out.cell (p := ⟨a, o, none⟩) (Nat.lt_of_lt_of_le h hRb); have hz1 : W0.heap.size ≤ u1.heap.size := E1.out.size; clear d1) | (go_at_call 118; have _t := tok2; clear tok2; refine (R2.out _).mono ?_; rintro e u2 ⟨rfl, d2⟩; have E2 := Lib.hid (E1.out.trans (d2.mono E1.out.size)); have kS2 : ∀ (a o : Nat), a < w.heap.size + 1 + 1 → u2.cell? ⟨a, o, none⟩ = W0.cell? ⟨a, o, none⟩ := fun a o h => E2.out.cell (p := ⟨a, o, none⟩) (Nat.lt_of_lt_of_le h hRb); have hz2 : W0.heap.size ≤ u2.heap.size := E2.out.size; clear d2) | (go_at_call 117; have _t := tok3; clear tok3; refine (R3.out _).mono ?_; rintro e u3 ⟨rfl, d3⟩; have E3 := Lib.hid (E2.out.trans (d3.mono E2.out.size)); have kS3 : ∀ (a o : Nat), a < w.heap.size + 1 + 1 → u3.cell? ⟨a, o, none⟩ = W0.cell? ⟨a, o, none⟩ := fun a o h => E3.out.cell (p := ⟨a, o, none⟩) (Nat.lt_of_lt_of_le h hRb); have hz3 : W0.heap.size ≤ u3.heap.size := E3.out.size; clear d3) | (go_at_call 118; have _t := tok4; clear tok4; refine (R4.out _).mono ?_; rintro e u4 ⟨rfl, d4⟩; have E4 := Lib.hid (E3.out.trans (d4.mono E3.out.size)); have kS4 : ∀ (a o : Nat), a < w.heap.size + 1 + 1 → u4.cell? ⟨a, o, none⟩ = W0.cell? ⟨a, o, none⟩ := fun a o h => E4.out.cell (p := ⟨a, o, none⟩) (Nat.lt_of_lt_of_le h hRb); have hz4 : W0.heap.size ≤ u4.heap.size := E4.out.size; clear d4; have kR := (show Cells _ _ W0.drew from HQ.out.2.2.2).below E4.out l2; obtain ⟨r00, r01⟩ := kR 0 _ rfl; obtain ⟨r10, r11⟩ := kR 1 _ rfl; obtain ⟨r20, r21⟩ := kR 2 _ rfl; obtain ⟨r30, r31⟩ := kR 3 _ rfl; clear kR))
  have kF0 := (show Cells _ _ W0.drew from HQ.out.2.2.2).below E4.out l2
  have kF1 := kF0.set (k := 0) (Value.bool b1) _ rfl
  have kF2 := kF1.set (k := 1) (Value.string s1) _ rfl
  have kF3 := kF2.set (k := 2) (Value.bool b2) _ rfl
  have kF4 := kF3.set (k := 3) (Value.string s2) _ rfl
  have y0 := (kF4 0 _ rfl).1
  have y1 := (kF4 1 _ rfl).1
  have y2 := (kF4 2 _ rfl).1
  have y3 := (kF4 3 _ rfl).1
  have hbf := HQ.out.1.trans ((((Below.refl W0.heap.size W0).drew).trans E4.out).mono HQ.out.1.size)
  have hbg := (below_sets (below_sets (below_sets (below_sets hbf (show w.heap.size ≤ w.heap.size + 1 + 1 by omega) 0 (Value.bool b1)) (show w.heap.size ≤ w.heap.size + 1 + 1 by omega) 1 (Value.string s1)) (show w.heap.size ≤ w.heap.size + 1 + 1 by omega) 2 (Value.bool b2)) (show w.heap.size ≤ w.heap.size + 1 + 1 by omega) 3 (Value.string s2))
  have HBG := Lib.hid hbg
  clear hbg hbf kF0 kF1 kF2 kF3 kF4
  go_wp2_with fail
  refine bodyPost_ret (v := .agg #[.bool b1, .string s1, .bool b2, .string s2]) (by simp [results, Tryz.results72, go_sem, y0, y1, y2, y3]) rfl ⟨rfl, HBG.out⟩

set_option maxHeartbeats 1000000 in
set_option maxRecDepth 100000 in
theorem compare_qt {bx bd by' be' : Bool} {sx tx sy ty : ByteArray} {n1 d1 n2 d2 : Int} (h1 : Val bx sx n1) (h2 : Val bd tx d1) (h3 : Val by' sy n2) (h4 : Val be' ty d2) {b3 b4 : Bool} {s3 s4 : ByteArray} (m1 : Nam b3 s3 (n1 * d2)) (m2 : Nam b4 s4 (n2 * d1)) (z1 : s3.size ≤ 262144) (z2 : s4.size ≤ 262144) (w : World) :
    Calls Tryz.prog 85 #[.agg #[.bool bx, .string sx, .bool bd, .string tx], .agg #[.bool by', .string sy, .bool be', .string ty]] w fun e w' => e = .returned (.int .i64 (cmpZ (n1 * d2) (n2 * d1))) ∧ Below w.heap.size w w' := by
  have R1 := Lib.hid (mul_val h1 h4 rfl m1)
  have R2 := Lib.hid (mul_val h3 h2 rfl m2)
  have R3 := Lib.hid (cmp_val (nam_val m1 z1) (nam_val m2 z2) _ rfl)
  go_enter Tryz.func85, Tryz.ntmps85
  go_wp2_with fail
  obtain ⟨W0, hW0⟩ : ∃ V, ((w.alloc (Obj.cells #[Value.bool bx, Value.string sx, Value.bool bd, Value.string tx] 60)).alloc (Obj.cells #[Value.bool by', Value.string sy, Value.bool be', Value.string ty] 60)) = V := ⟨_, rfl⟩
  have sW0 : W0.heap.size = w.heap.size + 1 + 1 := by rw [← hW0]; simp
  have k0 : Cells (w.heap.size) [.bool bx, .string sx, .bool bd, .string tx] W0 := by
    rw [← hW0]
    have h := cells_new w #[.bool bx, .string sx, .bool bd, .string tx] 60
    exact (h.alloc (by simp; try omega) _)
  have k1 : Cells (w.heap.size + 1) [.bool by', .string sy, .bool be', .string ty] W0 := by
    rw [← hW0]
    have h := cells_new (w.alloc (Obj.cells #[Value.bool bx, Value.string sx, Value.bool bd, Value.string tx] 60)) #[.bool by', .string sy, .bool be', .string ty] 60
    simp only [World.size_alloc] at h
    exact h
  have bW0 : Below w.heap.size w W0 := by
    rw [← hW0]
    exact (((Below.refl _ _).alloc (Nat.le_refl _) _).alloc (by simp; try omega) _)
  rw [hW0]
  clear hW0
  have l0 := k0.lt
  have m00 := (k0 0 _ rfl).1
  have m01 := (k0 1 _ rfl).1
  have m02 := (k0 2 _ rfl).1
  have m03 := (k0 3 _ rfl).1
  have l1 := k1.lt
  have m10 := (k1 0 _ rfl).1
  have m11 := (k1 1 _ rfl).1
  have m12 := (k1 2 _ rfl).1
  have m13 := (k1 3 _ rfl).1
  clear h1 h2 h3 h4 m1 m2
  have HQ := Lib.hid (And.intro bW0 (And.intro k0 k1))
  clear bW0 sW0 k0 k1
  have tok1 : True := trivial
  have tok2 : True := trivial
  have tok3 : True := trivial
  have hRb : w.heap.size + 1 + 1 ≤ W0.heap.size := by omega
  go_region_held3 (fun w' => ∀ (a o : Nat), a < w.heap.size + 1 + 1 → w'.cell? ⟨a, o, none⟩ = W0.cell? ⟨a, o, none⟩) (first | with_reducible assumption | (intro _ _ _; rfl) | (repeat' (first | with_reducible assumption | with_reducible (refine keepN_set ?_ ?_) | with_reducible (refine keepN_alloc ?_ ?_) | exact Nat.le_refl _ | omega | (intro _ _ _; rfl))))
    (first | (go_at_call 118; have _t := tok1; clear tok1; refine (R1.out _).mono ?_; rintro e u1 ⟨rfl, d1⟩; have E1 := Lib.hid (d1); have kS1 : ∀ (a o : Nat), a < w.heap.size + 1 + 1 → u1.cell? ⟨a, o, none⟩ = W0.cell? ⟨a, o, none⟩ := fun a o h => E1.out.cell (p := ⟨a, o, none⟩) (Nat.lt_of_lt_of_le h hRb); have hz1 : W0.heap.size ≤ u1.heap.size := E1.out.size; clear d1) | (go_at_call 118; have _t := tok2; clear tok2; refine (R2.out _).mono ?_; rintro e u2 ⟨rfl, d2⟩; have E2 := Lib.hid (E1.out.trans (d2.mono E1.out.size)); have kS2 : ∀ (a o : Nat), a < w.heap.size + 1 + 1 → u2.cell? ⟨a, o, none⟩ = W0.cell? ⟨a, o, none⟩ := fun a o h => E2.out.cell (p := ⟨a, o, none⟩) (Nat.lt_of_lt_of_le h hRb); have hz2 : W0.heap.size ≤ u2.heap.size := E2.out.size; clear d2) | (go_at_call 52; have _t := tok3; clear tok3; refine (R3.out _).mono ?_; rintro e u3 ⟨rfl, d3⟩; have E3 := Lib.hid (E2.out.trans (d3.mono E2.out.size)); have kS3 : ∀ (a o : Nat), a < w.heap.size + 1 + 1 → u3.cell? ⟨a, o, none⟩ = W0.cell? ⟨a, o, none⟩ := fun a o h => E3.out.cell (p := ⟨a, o, none⟩) (Nat.lt_of_lt_of_le h hRb); have hz3 : W0.heap.size ≤ u3.heap.size := E3.out.size; clear d3))
  go_wp2_with fail
  go_ret
  exact ⟨rfl, HQ.out.1.trans ((((Below.refl W0.heap.size W0).drew).trans E3.out).mono HQ.out.1.size)⟩

end Go.Proofs.YtpdhffjdgnpikaaGreatDoor
