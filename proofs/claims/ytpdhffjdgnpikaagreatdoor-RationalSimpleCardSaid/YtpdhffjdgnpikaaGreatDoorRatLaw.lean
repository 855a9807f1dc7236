/- What the walks of the laws of layer 2 share: great, whole, Print. -/
import Derived.Test.YtpdhffjdgnpikaaGreatDoorRatVal2
import Derived.Test.YtpdhffjdgnpikaaGreatDoorTexts
namespace Go.Proofs.YtpdhffjdgnpikaaGreatDoor
open Go.RowKit Go.Shelf

/-- Whether a number is larger than the laws examine. -/
def grt (p : Bool × ByteArray × ByteArray) : Bool := decide ((60 : Int) < (p.2.1.size : Int)) || decide ((60 : Int) < (p.2.2.size : Int))
set_option maxHeartbeats 1000000 in
theorem rgreat_one (n : Bool) (s t : ByteArray) (w : World) (_hs : s.size ≤ 9223372036854775807) (_ht : t.size ≤ 9223372036854775807) :
    Calls Tryz.prog 55 #[.agg #[.bool n, .string s, .string t]] w fun e w' => e = .returned (.bool (grt (n, s, t))) ∧ w.alloc (.cells #[.bool n, .string s, .string t] 25) = w' := by
  unfold grt
  by_cases h1 : (60 : Int) < (s.size : Int)
  · go_enter Tryz.func55, Tryz.ntmps55
    go_wp2_with fail
    go_ret
    exact ⟨by simp [h1], rfl⟩
  · have h2 : decide ((60 : Int) < (s.size : Int)) = false := decide_eq_false h1
    go_enter Tryz.func55, Tryz.ntmps55
    go_wp2_with fail
    go_ret
    exact ⟨by simp, rfl⟩

/-- The cells of a row of api.Rat values. -/
def RowR (w : World) (b : Nat) (l : List (Bool × ByteArray × ByteArray)) : Prop :=
  ∀ j, j < l.length → w.cell? ⟨b, j * 3, none⟩ = some (.bool (l.getD j (false, ⟨#[]⟩, ⟨#[]⟩)).1) ∧ w.cell? ⟨b, j * 3 + 1, none⟩ = some (.string (l.getD j (false, ⟨#[]⟩, ⟨#[]⟩)).2.1) ∧ w.cell? ⟨b, j * 3 + 2, none⟩ = some (.string (l.getD j (false, ⟨#[]⟩, ⟨#[]⟩)).2.2)

set_option maxHeartbeats 1000000 in
set_option maxRecDepth 100000 in
theorem rgreat_any (b : Nat) (l : List (Bool × ByteArray × ByteArray)) (w : World) (hr : RowR w b l) (hb : b < w.heap.size) (hn : l.length ≤ 1000) (hs : ∀ p ∈ l, p.2.1.size ≤ 9223372036854775807 ∧ p.2.2.size ≤ 9223372036854775807) :
    Calls Tryz.prog 13 #[.slice (some ⟨b, 0, none⟩) l.length l.length] w fun e w' => e = .returned (.bool (l.any grt)) ∧ Below w.heap.size w w' := by
  have HR := Lib.hid (And.intro hr hs)
  clear hr hs
  go_enter Tryz.func13, Tryz.ntmps13
  go_wp2_with fail
  go_loopw [7] (fun i wr => ∃ k : Nat, k ≤ l.length ∧ i = .int .i64 k ∧ ((l.drop k).any grt) = (l.any grt) ∧ Below w.heap.size w wr) (fun i _ => l.length - (intOf i).toNat)
  case atStart => exact ⟨0, Nat.zero_le _, rfl, rfl, Below.refl _ _⟩
  case round =>
    obtain ⟨k, hk, rfl, hany, hbel⟩ := hrel
    by_cases hlt : k < l.length
    · obtain ⟨n, s, t, hns⟩ : ∃ n s t, l.getD k (false, ⟨#[]⟩, ⟨#[]⟩) = (n, s, t) := ⟨_, _, _, rfl⟩
      have hget : l.drop k = (n, s, t) :: l.drop (k + 1) := by
        rw [List.drop_eq_getElem_cons hlt, ← hns, List.getD_eq_getElem?_getD, List.getElem?_eq_getElem hlt]; rfl
      have hss := HR.out.2 (n, s, t) (List.mem_of_mem_drop (by rw [hget]; exact List.mem_cons_self))
      have k1 : wr.cell? ⟨b, k * 3, none⟩ = some (.bool n) := by rw [hbel.cell (p := ⟨b, k * 3, none⟩) hb, (HR.out.1 k hlt).1, hns]
      have k2 : wr.cell? ⟨b, k * 3 + 1, none⟩ = some (.string s) := by rw [hbel.cell (p := ⟨b, k * 3 + 1, none⟩) hb, (HR.out.1 k hlt).2.1, hns]
      have k3 : wr.cell? ⟨b, k * 3 + 2, none⟩ = some (.string t) := by rw [hbel.cell (p := ⟨b, k * 3 + 2, none⟩) hb, (HR.out.1 k hlt).2.2, hns]
      have HA := Lib.hid (And.intro hany (And.intro hbel hget))
      have hg1 := rgreat_one n s t
      have HG := Lib.hid (fun W => hg1 W hss.1 hss.2)
      have hli : (k : Int) < (l.length : Int) := by omega
      clear hany hbel hget hns hg1 hss
      obtain ⟨d, hd⟩ : ∃ d, grt (n, s, t) = d := ⟨_, rfl⟩
      have hg2 := HG.out
      rw [hd] at hg2
      have HG2 := Lib.hid hg2
      have HD := Lib.hid hd
      clear hg2 hd HG
      cases d
      · go_wp2_with fail
        refine (HG2.out _).mono ?_
        rintro e w2 ⟨rfl, rfl⟩
        go_wp2_with fail
        go_roundw
        case rel =>
          refine ⟨k + 1, by omega, by go_num, ?_, ((HA.out.2.1.alloc HA.out.2.1.size _).alloc (by have := HA.out.2.1.size; simp; omega) _)⟩
          rw [← HA.out.1, HA.out.2.2, List.any_cons, HD.out, Bool.false_or]
        case measure => simp [intOf]; omega
      · go_wp2_with fail
        refine (HG2.out _).mono ?_
        rintro e w2 ⟨rfl, rfl⟩
        go_wp2_with fail
        go_ret
        refine ⟨?_, ((HA.out.2.1.alloc HA.out.2.1.size _).alloc (by have := HA.out.2.1.size; simp; omega) _)⟩
        rw [← HA.out.1, HA.out.2.2, List.any_cons, HD.out, Bool.true_or]; rfl
    · have hkl : k = l.length := by omega
      have HA := Lib.hid (And.intro hany (And.intro hbel hkl))
      clear hany hbel hkl
      go_wp2_with fail
      go_ret
      have ha := HA.out.1
      rw [HA.out.2.2, List.drop_length] at ha
      exact ⟨by rw [← ha]; rfl, HA.out.2.1⟩
theorem grt_false {l : List (Bool × ByteArray × ByteArray)} (h : l.any grt = false) : ∀ p ∈ l, p.2.1.size ≤ 60 ∧ p.2.2.size ≤ 60 := fun p hp => by
  have h1 := List.any_eq_false.1 h p hp
  unfold grt at h1
  simp at h1
  omega

set_option maxHeartbeats 4000000 in
set_option maxRecDepth 100000 in
theorem print_int (b b1 : Bool) (s t s1 s2 x y : ByteArray) (h1 : s2 = ⟨#[1]⟩)
    (c1 : ∀ W : World, Calls Tryz.prog 19 #[.agg #[.bool b, .string s, .string t]] W fun e w' => e = .returned (.tuple #[.agg #[.bool b1, .string s1], .agg #[.bool false, .string s2]]) ∧ Below W.heap.size W w')
    (c2 : ∀ W : World, Tab W → Calls Tryz.prog 95 #[.agg #[.bool b1, .string s1]] W fun e w' => e = .returned (.string x) ∧ Below W.heap.size W w')
    (c3 : ∀ W : World, Tab W → Calls Tryz.prog 95 #[.agg #[.bool false, .string s2]] W fun e w' => e = .returned (.string y) ∧ Below W.heap.size W w')
    (w : World) (htab : Tab w) : Calls Tryz.prog 47 #[.agg #[.bool b, .string s, .string t]] w fun e w' => e = .returned (.string x) ∧ Below w.heap.size w w' := by
  have R1 := Lib.hid c1
  have R2 := Lib.hid c2
  have R3 := Lib.hid c3
  have HT := Lib.hid htab
  clear c1 c2 c3 htab
  subst h1
  go_enter Tryz.func47, Tryz.ntmps47
  go_wp2_with fail
  obtain ⟨W0, hW0⟩ : ∃ V, (w.alloc (Obj.cells #[Value.bool b, Value.string s, Value.string t] 25)) = V := ⟨_, rfl⟩
  have sW0 : W0.heap.size = w.heap.size + 1 := by rw [← hW0]; simp
  have k0 : Cells (w.heap.size) [.bool b, .string s, .string t] W0 := by
    rw [← hW0]
    have h := cells_new w #[.bool b, .string s, .string t] 25
    exact h
  have bW0 : Below w.heap.size w W0 := by
    rw [← hW0]
    exact ((Below.refl _ _).alloc (Nat.le_refl _) _)
  rw [hW0]
  clear hW0
  have HS0 := Lib.hid (And.intro bW0 k0)
  clear bW0 k0
  refine (R1.out _).mono ?_
  rintro e w1 ⟨rfl, c⟩
  have f := HS0.out.1.trans (c.mono HS0.out.1.size)
  have t0 := (HS0.out.2).below c (HS0.out.2).lt
  have HS1 := Lib.hid (And.intro f t0)
  clear c f t0
  have l0 := (HS1.out.2).lt
  go_wp2_with fail
  clear l0
  obtain ⟨w2, hw2⟩ : ∃ V, ((w1.alloc (Obj.cells #[Value.bool b1, Value.string s1] 23)).alloc (Obj.cells #[Value.bool false, Value.string ⟨#[1]⟩] 23)) = V := ⟨_, rfl⟩
  obtain ⟨B1, hB1⟩ : ∃ B, w1.heap.size = B := ⟨_, rfl⟩
  obtain ⟨B2, hB2⟩ : ∃ B, B1 + 1 = B := ⟨_, rfl⟩
  have f : Below w.heap.size w w2 := by rw [← hw2]; exact ((HS1.out.1.alloc (by have := HS1.out.1.size; simp; try omega) _).alloc (by have := HS1.out.1.size; simp; try omega) _)
  have t0 : Cells (w.heap.size) [.bool b, .string s, .string t] w2 := by rw [← hw2]; exact ((((HS1.out.2).alloc (by have := (HS1.out.2).lt; simp; try omega) _)).alloc (by have := (HS1.out.2).lt; simp; try omega) _)
  have t1 : Cells B1 [.bool b1, .string s1] w2 := by
    rw [← hw2, ← hB1]
    have h := cells_new w1 #[.bool b1, .string s1] 23
    (try simp only at h)
    exact (h.alloc (by simp; try omega) _)
  have t2 : Cells B2 [.bool false, .string ⟨#[1]⟩] w2 := by
    rw [← hw2, ← hB2, ← hB1]
    have h := cells_new (w1.alloc (Obj.cells #[Value.bool b1, Value.string s1] 23)) #[.bool false, .string ⟨#[1]⟩] 23
    (try simp only [World.size_alloc] at h)
    exact h
  have xB10 : ¬ (w.heap.size) = B1 := by have := (HS1.out.2).lt; omega
  have gB1 : w.heap.size ≤ B1 := by have := HS1.out.1.size; omega
  have xB20 : ¬ (w.heap.size) = B2 := by have := (HS1.out.2).lt; omega
  have xB21 : ¬ B1 = B2 := by omega
  have gB2 : w.heap.size ≤ B2 := by have := HS1.out.1.size; omega
  have HS2 := Lib.hid (And.intro f (And.intro t0 (And.intro t1 t2)))
  rw [hw2]
  (try rw [hB1, hB2])
  clear hw2 hB2 hB1 f t0 t1 t2
  have l0 := (HS2.out.2.1).lt
  have l1 := (HS2.out.2.2.1).lt
  have m10 := (HS2.out.2.2.1 0 _ rfl).1
  have m11 := (HS2.out.2.2.1 1 _ rfl).1
  have l2 := (HS2.out.2.2.2).lt
  have m20 := (HS2.out.2.2.2 0 _ rfl).1
  have m21 := (HS2.out.2.2.2 1 _ rfl).1
  go_wp2_with fail
  have ht2 := Lib.hid (tab_of HT.out HS2.out.1)
  refine (R2.out _ ht2.out).mono ?_
  rintro e w3 ⟨rfl, c⟩
  have hf := Lib.hid (HS2.out.1.trans (c.mono HS2.out.1.size))
  clear c
  go_wp2_with fail
  go_ret
  exact ⟨rfl, hf.out⟩

set_option maxHeartbeats 4000000 in
set_option maxRecDepth 100000 in
theorem print_frac (b b1 : Bool) (s t s1 s2 x y : ByteArray) (h1 : ¬ s2 = ⟨#[1]⟩) (hx : x.size ≤ 4611686018427387000) (hy : y.size ≤ 4611686018427387000)
    (c1 : ∀ W : World, Calls Tryz.prog 19 #[.agg #[.bool b, .string s, .string t]] W fun e w' => e = .returned (.tuple #[.agg #[.bool b1, .string s1], .agg #[.bool false, .string s2]]) ∧ Below W.heap.size W w')
    (c2 : ∀ W : World, Tab W → Calls Tryz.prog 95 #[.agg #[.bool b1, .string s1]] W fun e w' => e = .returned (.string x) ∧ Below W.heap.size W w')
    (c3 : ∀ W : World, Tab W → Calls Tryz.prog 95 #[.agg #[.bool false, .string s2]] W fun e w' => e = .returned (.string y) ∧ Below W.heap.size W w')
    (w : World) (htab : Tab w) : Calls Tryz.prog 47 #[.agg #[.bool b, .string s, .string t]] w fun e w' => e = .returned (.string (x ++ ⟨#[47]⟩ ++ y)) ∧ Below w.heap.size w w' := by
  have R1 := Lib.hid c1
  have R2 := Lib.hid c2
  have R3 := Lib.hid c3
  have HT := Lib.hid htab
  clear c1 c2 c3 htab
  have hon : (s2.toList == [1]) = false := by
    rw [Lib.toList_data, Bool.eq_false_iff]
    intro e
    rw [beq_iff_eq] at e
    exact h1 (ba_ext e)
  have k1 : ¬ (x.size + 1 > 9223372036854775807) := by omega
  have k2 : ¬ ((x ++ ⟨#[47]⟩).size + y.size > 9223372036854775807) := by
    rw [ByteArray.size_append]
    show ¬ (x.size + 1 + y.size > 9223372036854775807)
    omega
  have k3 : ¬ (x.size + 1 + y.size > 9223372036854775807) := by omega
  have k4 : ¬ (x.size + (⟨#[47]⟩ : ByteArray).size + y.size > 9223372036854775807) := k3
  clear h1 hx hy
  go_enter Tryz.func47, Tryz.ntmps47
  go_wp2_with fail
  obtain ⟨W0, hW0⟩ : ∃ V, (w.alloc (Obj.cells #[Value.bool b, Value.string s, Value.string t] 25)) = V := ⟨_, rfl⟩
  have sW0 : W0.heap.size = w.heap.size + 1 := by rw [← hW0]; simp
  have k0 : Cells (w.heap.size) [.bool b, .string s, .string t] W0 := by
    rw [← hW0]
    have h := cells_new w #[.bool b, .string s, .string t] 25
    exact h
  have bW0 : Below w.heap.size w W0 := by
    rw [← hW0]
    exact ((Below.refl _ _).alloc (Nat.le_refl _) _)
  rw [hW0]
  clear hW0
  have HS0 := Lib.hid (And.intro bW0 k0)
  clear bW0 k0
  refine (R1.out _).mono ?_
  rintro e w1 ⟨rfl, c⟩
  have f := HS0.out.1.trans (c.mono HS0.out.1.size)
  have t0 := (HS0.out.2).below c (HS0.out.2).lt
  have HS1 := Lib.hid (And.intro f t0)
  clear c f t0
  have l0 := (HS1.out.2).lt
  go_wp2_with fail
  clear l0
  obtain ⟨w2, hw2⟩ : ∃ V, ((w1.alloc (Obj.cells #[Value.bool b1, Value.string s1] 23)).alloc (Obj.cells #[Value.bool false, Value.string s2] 23)) = V := ⟨_, rfl⟩
  obtain ⟨B1, hB1⟩ : ∃ B, w1.heap.size = B := ⟨_, rfl⟩
  obtain ⟨B2, hB2⟩ : ∃ B, B1 + 1 = B := ⟨_, rfl⟩
  have f : Below w.heap.size w w2 := by rw [← hw2]; exact ((HS1.out.1.alloc (by have := HS1.out.1.size; simp; try omega) _).alloc (by have := HS1.out.1.size; simp; try omega) _)
  have t0 : Cells (w.heap.size) [.bool b, .string s, .string t] w2 := by rw [← hw2]; exact ((((HS1.out.2).alloc (by have := (HS1.out.2).lt; simp; try omega) _)).alloc (by have := (HS1.out.2).lt; simp; try omega) _)
  have t1 : Cells B1 [.bool b1, .string s1] w2 := by
    rw [← hw2, ← hB1]
    have h := cells_new w1 #[.bool b1, .string s1] 23
    (try simp only at h)
    exact (h.alloc (by simp; try omega) _)
  have t2 : Cells B2 [.bool false, .string s2] w2 := by
    rw [← hw2, ← hB2, ← hB1]
    have h := cells_new (w1.alloc (Obj.cells #[Value.bool b1, Value.string s1] 23)) #[.bool false, .string s2] 23
    (try simp only [World.size_alloc] at h)
    exact h
  have xB10 : ¬ (w.heap.size) = B1 := by have := (HS1.out.2).lt; omega
  have gB1 : w.heap.size ≤ B1 := by have := HS1.out.1.size; omega
  have xB20 : ¬ (w.heap.size) = B2 := by have := (HS1.out.2).lt; omega
  have xB21 : ¬ B1 = B2 := by omega
  have gB2 : w.heap.size ≤ B2 := by have := HS1.out.1.size; omega
  have HS2 := Lib.hid (And.intro f (And.intro t0 (And.intro t1 t2)))
  rw [hw2]
  (try rw [hB1, hB2])
  clear hw2 hB2 hB1 f t0 t1 t2
  have l0 := (HS2.out.2.1).lt
  have l1 := (HS2.out.2.2.1).lt
  have m10 := (HS2.out.2.2.1 0 _ rfl).1
  have m11 := (HS2.out.2.2.1 1 _ rfl).1
  have l2 := (HS2.out.2.2.2).lt
  have m20 := (HS2.out.2.2.2 0 _ rfl).1
  have m21 := (HS2.out.2.2.2 1 _ rfl).1
  go_wp2_with fail
  have ht2 := Lib.hid (tab_of HT.out HS2.out.1)
  have htd : Tab w2.drew := tab_of ht2.out ((Below.refl w2.heap.size w2).drew)
  have HTD := Lib.hid htd
  clear htd
  have tok1 : True := trivial
  have tok2 : True := trivial
  have hRb : w2.heap.size ≤ w2.heap.size := by omega
  go_region_held3 (fun w' => ∀ (a o : Nat), a < w2.heap.size → w'.cell? ⟨a, o, none⟩ = w2.cell? ⟨a, o, none⟩) (first | with_reducible assumption | (intro _ _ _; rfl) | (repeat' (first | with_reducible assumption | with_reducible exact keepN_refl _ _ | with_reducible (refine keepN_drew ?_) | with_reducible (refine keepN_set ?_ ?_) | with_reducible (refine keepN_alloc ?_ ?_) | exact Nat.le_refl _ | omega | (intro _ _ _; rfl))))
    (first | (go_at_call 95; have _t := tok1; clear tok1; refine (R2.out _ HTD.out).mono ?_; rintro e u1 ⟨rfl, d1⟩; have E1 := Lib.hid (d1); have kS1 : ∀ (a o : Nat), a < w2.heap.size → u1.cell? ⟨a, o, none⟩ = w2.cell? ⟨a, o, none⟩ := fun a o h => E1.out.cell (p := ⟨a, o, none⟩) (Nat.lt_of_lt_of_le h hRb); have hz1 : w2.heap.size ≤ u1.heap.size := E1.out.size; clear d1) | (go_at_call 95; have _t := tok2; clear tok2; refine (R3.out _ (tab_of HTD.out E1.out)).mono ?_; rintro e u2 ⟨rfl, d2⟩; have E2 := Lib.hid (E1.out.trans (d2.mono E1.out.size)); have kS2 : ∀ (a o : Nat), a < w2.heap.size → u2.cell? ⟨a, o, none⟩ = w2.cell? ⟨a, o, none⟩ := fun a o h => E2.out.cell (p := ⟨a, o, none⟩) (Nat.lt_of_lt_of_le h hRb); have hz2 : w2.heap.size ≤ u2.heap.size := E2.out.size; clear d2))
  go_wp2_with fail
  go_ret
  exact ⟨rfl, HS2.out.1.trans ((((Below.refl w2.heap.size w2).drew).trans E2.out).mono HS2.out.1.size)⟩

/-- The text of a number. -/
def rtxt (q : Rat) : ByteArray := if q.den = 1 then txt q.num else txt q.num ++ ⟨#[47]⟩ ++ txt (q.den : Int)
theorem dvs_one {b' : Bool} {s' t' : ByteArray} {p : Rat} (m : RNam b' s' t' p) : dvs t' = ⟨#[1]⟩ ↔ p.den = 1 := by
  have h := m.namD.mag
  constructor
  · intro e
    rw [e] at h
    have h2 := congrArg (ival false) h
    rw [show mg (p.den : Int) = mg (p.den : Int) from rfl] at h2
    have h3 := ival_mg (p.den : Int)
    rw [show ng (p.den : Int) = false by unfold ng; simp] at h3
    rw [h3] at h2
    have : ival false ⟨#[1]⟩ = 1 := rfl
    omega
  · intro e
    rw [← h, e]; rfl
theorem txt_sz {z : Int} {k : Nat} (h : z.natAbs < 256 ^ k) : (txt z).size ≤ 3 * k + 2 := by
  refine txt_size z (3 * k) (Nat.lt_of_lt_of_le h ?_)
  have h1 : 256 ^ k ≤ 1000 ^ k := Nat.pow_le_pow_left (by omega) k
  have h2 : (1000 : Nat) ^ k = 10 ^ (3 * k) := by rw [show (1000 : Nat) = 10 ^ 3 from rfl, ← Nat.pow_mul]
  have h3 : (10 : Nat) ^ (3 * k) ≤ 10 ^ (3 * k + 1) := Nat.pow_le_pow_right (by omega) (by omega)
  omega
theorem print_q {b : Bool} {s t : ByteArray} {p : Rat} (hp : RVal b s t p) (w : World) (htab : Tab w) :
    Calls Tryz.prog 47 #[.agg #[.bool b, .string s, .string t]] w fun e w' => e = .returned (.string (rtxt p)) ∧ Below w.heap.size w w' := by
  obtain ⟨b', s', t', m⟩ := rnam_ex p
  have hz : RSz (s.size + t.size + 1) p := by rw [← hp.val]; exact rsz_rval b s t _ (by omega) (by omega) (by omega)
  have hs := m.sizes hz
  have h1 := hp.num
  have h2 := hp.den
  have c1 := fun W => parts_q hp m (by omega) W
  have c2 := fun W hW => print_any b' s' W (by omega) hW
  have c3 := fun W hW => print_any false (dvs t') W (dvs_size t' 262144 (by omega) (by omega)) hW
  rw [show ival b' s' = p.num by obtain ⟨rfl, rfl⟩ := m.nam; exact ival_mg _] at c2
  rw [show ival false (dvs t') = (p.den : Int) by
    obtain ⟨h3, h4⟩ := m.namD
    rw [← h3, ← h4]; exact ival_mg _] at c3
  unfold rtxt
  by_cases hd : p.den = 1
  · rw [if_pos hd]
    exact print_int b b' s t s' (dvs t') _ _ ((dvs_one m).2 hd) c1 c2 c3 w htab
  · rw [if_neg hd]
    exact print_frac b b' s t s' (dvs t') _ _ (fun e => hd ((dvs_one m).1 e)) (Nat.le_trans (txt_sz hz.1) (by omega)) (Nat.le_trans (txt_sz (show ((p.den : Nat) : Int).natAbs < _ by rw [Int.natAbs_natCast]; exact hz.2)) (by omega)) c1 c2 c3 w htab
end Go.Proofs.YtpdhffjdgnpikaaGreatDoor
