/- The walk of narrowslaw01.BigintDecimal. -/
import Derived.Test.YtajollhpimfefaaGreatDoorTexts
import Derived.Outline
import Derived.Handy
import Derived.Deep.QuietTactic
import Derived.BigQuiet
namespace Go.Proofs.YtajollhpimfefaaGreatDoor
open Go.RowKit Go.Shelf

theorem dv_lt : ∀ (k : Nat) (l : List UInt8), l.length = k → Digs l → dv l < 10 ^ k := by
  intro k
  induction k with
  | zero => intro l h1 _; rw [List.length_eq_zero_iff.1 h1]; decide
  | succ k ih =>
    intro l h1 h3
    have h2 : l ≠ [] := fun e => by rw [e] at h1; cases h1
    obtain ⟨a, c, rfl⟩ : ∃ a c, l = a ++ [c] := ⟨l.dropLast, l.getLast h2, (List.dropLast_concat_getLast h2).symm⟩
    have hc := h3 c (by simp)
    have h4 := ih a (by simp at h1; omega) (fun x hx => h3 x (List.mem_append_left _ hx))
    rw [dv_snoc, Nat.pow_succ]
    omega
theorem decDigits_lt (n k : Nat) (h : (Lib.decDigits n).length ≤ k) : n < 10 ^ k := by
  have h1 := dv_lt _ _ rfl (digs_decDigits n)
  rw [dv_decDigits] at h1
  exact Nat.lt_of_lt_of_le h1 (Nat.pow_le_pow_right (by omega) h)
theorem txt_back (z : Int) (h : (txt z).size ≤ 200) : (mg z).size ≤ 84 := by
  have h1 : (Lib.itoa z).length ≤ 200 := h
  have h2 : (10 : Nat) ^ 200 ≤ 256 ^ 84 := by decide +kernel
  refine mg_size z 84 (Nat.lt_of_lt_of_le ?_ h2)
  by_cases hz : z < 0
  · obtain ⟨n, rfl⟩ : ∃ n : Nat, z = -(n : Int) := ⟨z.natAbs, by omega⟩
    rw [Lib.itoa_neg n (by omega), List.length_cons] at h1
    have := decDigits_lt n 200 (by omega)
    rw [Int.natAbs_neg]
    exact this
  · obtain ⟨n, rfl⟩ : ∃ n : Nat, z = (n : Int) := ⟨z.toNat, by omega⟩
    rw [Lib.itoa_nonneg n] at h1
    exact decDigits_lt n 200 h1
theorem txt_small (z : Int) (h : Sz 60 z) : (txt z).size ≤ 200 := by
  have h2 : (256 : Nat) ^ 60 ≤ 10 ^ (144 + 1) := by decide +kernel
  exact Nat.le_trans (txt_size z 144 (Nat.lt_of_lt_of_le h h2)) (by omega)
set_option maxHeartbeats 4000000 in
set_option maxRecDepth 100000 in
theorem decimal_great (na : Bool) (sa : ByteArray) (u : ByteArray) (w : World) (htab : Tab w) (ha : sa.size ≤ maxLen) (_hu : u.size ≤ maxLen)
    (hg : (([(na, sa)] : List (Bool × ByteArray)).any fun p => decide ((60 : Int) < (p.2.size : Int))) = true) :
    Calls Tryz.prog 12 #[.agg #[.bool na, .string sa], .string u] w fun e w' => e = .returned (.bool true) ∧ Below w.heap.size w w' := by
  unfold maxLen at ha
  have HG := Lib.hid hg
  have HT := Lib.hid htab
  have hss : ∀ p ∈ ([(na, sa)] : List (Bool × ByteArray)), p.2.size ≤ 9223372036854775807 := by
    intro p hp
    simp at hp
    rcases hp with rfl <;> simp <;> omega
  have HSS := Lib.hid hss
  clear htab hg hss
  go_enter Tryz.func12, Tryz.ntmps12
  go_wp2_with fail
  obtain ⟨W0, hW0⟩ : ∃ W0, (w.alloc (Obj.cells #[Value.bool na, Value.string sa] 23)).alloc (Obj.cells #[Value.bool na, Value.string sa] 23) = W0 := ⟨_, rfl⟩
  have z0 : W0.heap.size = w.heap.size + 1 + 1 := by rw [← hW0]; simp
  have ta : Two (w.heap.size) (.bool na) (.string sa) W0 := by
    rw [← hW0]
    have h := two_new w (.bool na) (.string sa) 23
    (try simp only [World.size_alloc] at h)
    exact h.below (B0 := w.heap.size + 1) ((Below.refl _ _).alloc (by simp) _) (by omega)
  have hrow : RowI W0 (w.heap.size + 1) [(na, sa)] := by
    rw [← hW0]
    have h := rowI_1 (w.alloc (Obj.cells #[Value.bool na, Value.string sa] 23)) na sa 23
    simp only [World.size_alloc] at h
    exact h
  have b0 : Below w.heap.size w W0 := by
    rw [← hW0]
    exact (((Below.refl _ _).alloc (Nat.le_refl _) _).alloc (by simp) _)
  rw [hW0]
  have hgr := great_any (w.heap.size + 1) [(na, sa)] W0 hrow (by omega) (by simp) HSS.out
  rw [HG.out] at hgr
  have HGR := Lib.hid hgr
  have H0 := Lib.hid (And.intro z0 (And.intro b0 (And.intro ta trivial)))
  clear hW0 z0 hrow b0 hgr ta
  refine HGR.out.mono ?_
  rintro e wG ⟨rfl, cG⟩
  have bG : Below w.heap.size w wG := H0.out.2.1.trans (cG.mono H0.out.2.1.size)
  have haw := awake_any wG (tab_of HT.out bG)
  have HAW := Lib.hid haw
  have HB := Lib.hid bG
  clear cG bG haw
  go_wp2_with fail
  refine HAW.out.mono ?_
  rintro e wA ⟨rfl, cA⟩
  go_wp2_with fail
  go_ret
  exact ⟨rfl, HB.out.trans (cA.mono HB.out.size)⟩

set_option maxHeartbeats 4000000 in
set_option maxRecDepth 100000 in
theorem decimal_long (na : Bool) (sa : ByteArray) (u : ByteArray) (w : World) (htab : Tab w) (ha : sa.size ≤ maxLen) (hu : u.size ≤ maxLen)
    (hg : (([(na, sa)] : List (Bool × ByteArray)).any fun p => decide ((60 : Int) < (p.2.size : Int))) = false) (hs0 : 200 < u.size) :
    Calls Tryz.prog 12 #[.agg #[.bool na, .string sa], .string u] w fun e w' => e = .returned (.bool true) ∧ Below w.heap.size w w' := by
  unfold maxLen at ha hu
  have HG := Lib.hid hg
  have HT := Lib.hid htab
  have hss : ∀ p ∈ ([(na, sa)] : List (Bool × ByteArray)), p.2.size ≤ 9223372036854775807 := by
    intro p hp
    simp at hp
    rcases hp with rfl <;> simp <;> omega
  have HSS := Lib.hid hss
  have HSG0 := Lib.hid hs0
  clear htab hg hss hs0
  go_enter Tryz.func12, Tryz.ntmps12
  go_wp2_with fail
  obtain ⟨W0, hW0⟩ : ∃ W0, (w.alloc (Obj.cells #[Value.bool na, Value.string sa] 23)).alloc (Obj.cells #[Value.bool na, Value.string sa] 23) = W0 := ⟨_, rfl⟩
  have z0 : W0.heap.size = w.heap.size + 1 + 1 := by rw [← hW0]; simp
  have ta : Two (w.heap.size) (.bool na) (.string sa) W0 := by
    rw [← hW0]
    have h := two_new w (.bool na) (.string sa) 23
    (try simp only [World.size_alloc] at h)
    exact h.below (B0 := w.heap.size + 1) ((Below.refl _ _).alloc (by simp) _) (by omega)
  have hrow : RowI W0 (w.heap.size + 1) [(na, sa)] := by
    rw [← hW0]
    have h := rowI_1 (w.alloc (Obj.cells #[Value.bool na, Value.string sa] 23)) na sa 23
    simp only [World.size_alloc] at h
    exact h
  have b0 : Below w.heap.size w W0 := by
    rw [← hW0]
    exact (((Below.refl _ _).alloc (Nat.le_refl _) _).alloc (by simp) _)
  rw [hW0]
  have hgr := great_any (w.heap.size + 1) [(na, sa)] W0 hrow (by omega) (by simp) HSS.out
  rw [HG.out] at hgr
  have HGR := Lib.hid hgr
  have H0 := Lib.hid (And.intro z0 (And.intro b0 (And.intro ta trivial)))
  clear hW0 z0 hrow b0 hgr ta
  refine HGR.out.mono ?_
  rintro e wG ⟨rfl, cG⟩
  have bG : Below w.heap.size w wG := H0.out.2.1.trans (cG.mono H0.out.2.1.size)
  have hlen : (200 : Int) < (u.size : Int) := by have := HSG0.out; omega
  have haw := awake_any wG (tab_of HT.out bG)
  have HAW := Lib.hid haw
  have HB := Lib.hid bG
  clear cG bG haw
  go_wp2_with fail
  refine HAW.out.mono ?_
  rintro e wA ⟨rfl, cA⟩
  go_wp2_with fail
  go_ret
  exact ⟨rfl, HB.out.trans (cA.mono HB.out.size)⟩

set_option maxHeartbeats 4000000 in
set_option maxRecDepth 100000 in
theorem decimal_small (na : Bool) (sa : ByteArray) (u : ByteArray) (w : World) (htab : Tab w) (ha : sa.size ≤ maxLen) (hu : u.size ≤ maxLen)
    (hg : (([(na, sa)] : List (Bool × ByteArray)).any fun p => decide ((60 : Int) < (p.2.size : Int))) = false) (hs0 : u.size ≤ 200) :
    Calls Tryz.prog 12 #[.agg #[.bool na, .string sa], .string u] w fun e w' => e = .returned (.bool true) ∧ Below w.heap.size w w' := by
  unfold maxLen at ha hu
  have HG := Lib.hid hg
  have HT := Lib.hid htab
  have hss : ∀ p ∈ ([(na, sa)] : List (Bool × ByteArray)), p.2.size ≤ 9223372036854775807 := by
    intro p hp
    simp at hp
    rcases hp with rfl <;> simp <;> omega
  have HSS := Lib.hid hss
  have HSG0 := Lib.hid hs0
  clear htab hg hss hs0
  go_enter Tryz.func12, Tryz.ntmps12
  go_wp2_with fail
  obtain ⟨W0, hW0⟩ : ∃ W0, (w.alloc (Obj.cells #[Value.bool na, Value.string sa] 23)).alloc (Obj.cells #[Value.bool na, Value.string sa] 23) = W0 := ⟨_, rfl⟩
  have z0 : W0.heap.size = w.heap.size + 1 + 1 := by rw [← hW0]; simp
  have ta : Two (w.heap.size) (.bool na) (.string sa) W0 := by
    rw [← hW0]
    have h := two_new w (.bool na) (.string sa) 23
    (try simp only [World.size_alloc] at h)
    exact h.below (B0 := w.heap.size + 1) ((Below.refl _ _).alloc (by simp) _) (by omega)
  have hrow : RowI W0 (w.heap.size + 1) [(na, sa)] := by
    rw [← hW0]
    have h := rowI_1 (w.alloc (Obj.cells #[Value.bool na, Value.string sa] 23)) na sa 23
    simp only [World.size_alloc] at h
    exact h
  have b0 : Below w.heap.size w W0 := by
    rw [← hW0]
    exact (((Below.refl _ _).alloc (Nat.le_refl _) _).alloc (by simp) _)
  rw [hW0]
  have hgr := great_any (w.heap.size + 1) [(na, sa)] W0 hrow (by omega) (by simp) HSS.out
  rw [HG.out] at hgr
  have HGR := Lib.hid hgr
  have H0 := Lib.hid (And.intro z0 (And.intro b0 (And.intro ta trivial)))
  clear hW0 z0 hrow b0 hgr ta
  refine HGR.out.mono ?_
  rintro e wG ⟨rfl, cG⟩
  have bG : Below w.heap.size w wG := H0.out.2.1.trans (cG.mono H0.out.2.1.size)
  have hsm := small_size HG.out
  have zx : Sz 60 (ival na sa) := Sz.ival na sa 60 (hsm (na, sa) (by simp))
  have px : sa.size ≤ 60 := hsm (na, sa) (by simp)
  obtain ⟨x, hx⟩ : ∃ x, ival na sa = x := ⟨_, rfl⟩
  have vx : Val na sa x := ⟨hx, Nat.le_trans px (by omega)⟩
  rw [hx] at zx
  have tA : Two (w.heap.size) (.bool na) (.string sa) wG := H0.out.2.2.1.below cG H0.out.2.2.1.lt
  have hlen : ¬ (200 : Int) < (u.size : Int) := by have := HSG0.out; omega
  have htab := tab_of HT.out bG
  have hprn := fun W hW => print_any na sa W (by omega) hW
  rw [hx] at hprn
  obtain ⟨t, ht⟩ : ∃ t, txt x = t := ⟨_, rfl⟩
  rw [ht] at hprn
  have htz : t.size ≤ 200 := by rw [← ht]; exact txt_small x zx
  obtain ⟨bX, sX, mX⟩ := nam_ex x
  have hpar := fun W => parse_some t x W (by omega) ht.symm
  rw [mX.sign, mX.mag] at hpar
  have vX : Val bX sX x := mX.val zx (by omega)
  have v0 : Val false ⟨#[]⟩ 0 := ⟨rfl, Nat.zero_le _⟩
  have R3 := Lib.hid (cmp_val vX vx 0 (by simp [cmpZ]))
  have R4 := Lib.hid (check_val mX)
  have hpf : ∀ W, Calls Tryz.prog 44 #[.string t, .string ⟨#[45]⟩] W fun e w' => e = .returned (.bool (decide (x < 0))) ∧ Below W.heap.size W w' := fun W => by
    refine (Tryz.strings_HasPrefix t ⟨#[45]⟩ W).mono ?_
    rintro e w' ⟨rfl, rfl⟩
    rw [← ht, show (⟨#[45]⟩ : ByteArray).data.toList = [45] from rfl, txt_minus]
    exact ⟨rfl, Below.refl _ _⟩
  obtain ⟨pb, hpb⟩ : ∃ b, decide (x < 0) = b := ⟨_, rfl⟩
  obtain ⟨pc, hpc⟩ : ∃ c, cmpZ x 0 = c := ⟨_, rfl⟩
  have hcase : (true = pb ∧ pc < 0) ∨ (false = pb ∧ ¬ pc < 0) := by
    by_cases h : x < 0
    · exact .inl ⟨by rw [← hpb, decide_eq_true h], by rw [← hpc, cmpZ_lt h]; omega⟩
    · refine .inr ⟨by rw [← hpb, decide_eq_false h], ?_⟩
      rw [← hpc]
      unfold cmpZ
      (repeat' split) <;> omega
  rw [hpb] at hpf
  have R5 := Lib.hid hpf
  have R6 := Lib.hid (cmp_val vx v0 pc hpc)
  obtain ⟨bT, sT, mT⟩ := nam_ex (10 * x)
  have v10 : Val false ⟨#[10]⟩ 10 := ⟨rfl, by show 1 ≤ _; omega⟩
  obtain ⟨bY, sY, f0, hp2, hf0⟩ : ∃ (bY : Bool) (sY : ByteArray) (f0 : Int), (∀ W, Calls Tryz.prog 40 #[.string (t ++ ⟨#[48]⟩)] W fun e w' => e = .returned (.tuple #[.agg #[.bool bY, .string sY], .int .i64 f0]) ∧ Below W.heap.size W w') ∧
      ((f0 = 0 ∧ bY = bT ∧ sY = sT ∧ (t.toList == [48]) = false) ∨ (f0 = 3 ∧ bY = false ∧ sY = ⟨#[]⟩ ∧ (t.toList == [48]) = true)) := by
    have hl : (t ++ ⟨#[48]⟩ : ByteArray).size ≤ 65536 := by rw [ByteArray.size_append]; show t.size + 1 ≤ _; omega
    have hk := txt_zero x
    rw [ht, ← Lib.toList_data] at hk
    by_cases h : x = 0
    · refine ⟨false, ⟨#[]⟩, 3, fun W => parse_none _ W hl (fun z e => ?_), .inr ⟨rfl, rfl, rfl, by rw [hk, decide_eq_true h]⟩⟩
      rw [← ht, h] at e
      exact txt_noughts z e
    · refine ⟨bT, sT, 0, fun W => ?_, .inl ⟨rfl, rfl, rfl, by rw [hk, decide_eq_false h]⟩⟩
      have h2 := parse_some (t ++ ⟨#[48]⟩) (10 * x) W hl (by rw [← ht, txt_ten x h])
      rw [mT.sign, mT.mag] at h2
      exact h2
  obtain ⟨bZ, sZ, f1, hp3, hf1⟩ : ∃ (bZ : Bool) (sZ : ByteArray) (f1 : Int), (∀ W, Calls Tryz.prog 40 #[.string u] W fun e w' => e = .returned (.tuple #[.agg #[.bool bZ, .string sZ], .int .i64 f1]) ∧ Below W.heap.size W w') ∧
      ((f1 = 0 ∧ ∀ W, Tab W → Calls Tryz.prog 42 #[.agg #[.bool bZ, .string sZ]] W fun e w' => e = .returned (.string u) ∧ Below W.heap.size W w') ∨ (f1 = 3 ∧ bZ = false ∧ sZ = ⟨#[]⟩)) := by
    by_cases h : ∃ z, u = txt z
    · obtain ⟨z, hz⟩ := h
      refine ⟨ng z, mg z, 0, fun W => parse_some u z W (by have := HSG0.out; omega) hz, .inl ⟨rfl, fun W hW => ?_⟩⟩
      have h2 := print_any (ng z) (mg z) W (Nat.le_trans (txt_back z (by rw [← hz]; exact HSG0.out)) (by omega)) hW
      rw [ival_mg, ← hz] at h2
      exact h2
    · exact ⟨false, ⟨#[]⟩, 3, fun W => parse_none u W (by have := HSG0.out; omega) (fun z e => h ⟨z, e⟩), .inr ⟨rfl, rfl, rfl⟩⟩
  have R7 := Lib.hid hp2
  have R8 := Lib.hid (of_lit 10 false ⟨#[10]⟩ (by decide) (by decide +kernel) (by omega) (by omega))
  have R9 := Lib.hid (mul_val vX v10 (Int.mul_comm x 10) mT)
  have R10 := Lib.hid hp3
  have HF0 := Lib.hid hf0
  have HF1b := Lib.hid hf1
  have e1 := mT.eq
  clear hp2 hp3 hf0 hf1 v10
  have e0 : eqI false ⟨#[]⟩ false ⟨#[]⟩ = true := (show Nam false ⟨#[]⟩ 0 from ⟨rfl, rfl⟩).eq
  have q0 := eql_int
  have q1 := neq_int
  have q2 := guard_int
  have R1 := Lib.hid hprn
  have R2 := Lib.hid hpar
  have HA := Lib.hid tA
  have HBG := Lib.hid (And.intro bG htab)
  have l1 := tA.lt
  have m1 := tA.1.1
  have m2 := tA.2.1
  clear hpf hpb hpc vX v0 hprn hpar cG bG htab hsm hx vx zx px tA
  go_wp2_with fail
  refine (R1.out _ HBG.out.2).mono ?_
  rintro e w1 ⟨rfl, b1⟩
  have tA := HA.out.below b1 l1
  have f1 := HBG.out.1.trans (b1.mono HBG.out.1.size)
  have l2 := tA.lt
  have m3 := tA.1.1
  have m4 := tA.2.1
  have HA1 := Lib.hid tA
  have HF1 := Lib.hid f1
  clear b1 tA f1 m1 m2 l1
  go_wp2_with fail
  refine (R2.out _).mono ?_
  rintro e w2 ⟨rfl, b2⟩
  have tA := HA1.out.below b2 l2
  have f2 := HF1.out.trans (b2.mono HF1.out.size)
  have l3 := tA.lt
  have m1 := tA.1.1
  have m2 := tA.2.1
  have HA2 := Lib.hid tA
  have HF2 := Lib.hid f2
  clear b2 tA f2 m3 m4 l2
  go_wp2_with fail
  obtain ⟨w3, hw3⟩ : ∃ V, w2.alloc (Obj.cells #[Value.bool bX, Value.string sX] 23) = V := ⟨_, rfl⟩
  obtain ⟨B3, hB3⟩ : ∃ B, w2.heap.size = B := ⟨_, rfl⟩
  have b3 : Below w2.heap.size w2 w3 := by rw [← hw3]; exact (Below.refl _ _).alloc (Nat.le_refl _) _
  have tX : Two B3 (.bool bX) (.string sX) w3 := by rw [← hw3, ← hB3]; exact two_new _ _ _ _
  have tA := HA2.out.below b3 l3
  have f3 := HF2.out.trans (b3.mono HF2.out.size)
  have l4 := tA.lt
  have l5 := tX.lt
  have m3 := tA.1.1
  have m4 := tA.2.1
  have m5 := tX.1.1
  have m6 := tX.2.1
  have HTV := Lib.hid (tab_below HT.out f3.drew)
  have H3 := Lib.hid (And.intro f3 (And.intro tA tX))
  rw [hw3, hB3]
  clear b3 tA tX f3 m1 m2 l3 hw3 hB3
  go_wp2_with fail
  rcases hcase with ⟨hb0, hc0⟩ | ⟨hb0, hc0⟩
  all_goals
    subst hb0
    have tok1 : True := trivial
    have tok2 : True := trivial
    have tok3 : True := trivial
    have tok4 : True := trivial
    go_region_held3 (fun w' => ∀ (a o : Nat), a < w3.heap.size → w'.cell? ⟨a, o, none⟩ = w3.cell? ⟨a, o, none⟩) (first | assumption | (intro _ _ _; rfl))
      (first | (go_at_call 24; have _t := tok1; clear tok1; refine (R3.out _).mono ?_; rintro e u1 ⟨rfl, d1⟩; have E1 := Lib.hid (d1); have kS1 : ∀ (a o : Nat), a < w3.heap.size → u1.cell? ⟨a, o, none⟩ = w3.cell? ⟨a, o, none⟩ := fun a o h => E1.out.cell (p := ⟨a, o, none⟩) h; have hz1 : w3.heap.size ≤ u1.heap.size := E1.out.size; clear d1) | (go_at_call 20; have _t := tok2; clear tok2; refine (R4.out _).mono ?_; rintro e u2 ⟨rfl, d2⟩; have E2 := Lib.hid (E1.out.trans (d2.mono E1.out.size)); have kS2 : ∀ (a o : Nat), a < w3.heap.size → u2.cell? ⟨a, o, none⟩ = w3.cell? ⟨a, o, none⟩ := fun a o h => E2.out.cell (p := ⟨a, o, none⟩) h; have hz2 : w3.heap.size ≤ u2.heap.size := E2.out.size; clear d2) | (go_at_call 44; have _t := tok3; clear tok3; refine (R5.out _).mono ?_; rintro e u3 ⟨rfl, d3⟩; have E3 := Lib.hid (E2.out.trans (d3.mono E2.out.size)); have kS3 : ∀ (a o : Nat), a < w3.heap.size → u3.cell? ⟨a, o, none⟩ = w3.cell? ⟨a, o, none⟩ := fun a o h => E3.out.cell (p := ⟨a, o, none⟩) h; have hz3 : w3.heap.size ≤ u3.heap.size := E3.out.size; clear d3) | (go_at_call 24; have _t := tok4; clear tok4; refine (R6.out _).mono ?_; rintro e u4 ⟨rfl, d4⟩; have E4 := Lib.hid (E3.out.trans (d4.mono E3.out.size)); have kS4 : ∀ (a o : Nat), a < w3.heap.size → u4.cell? ⟨a, o, none⟩ = w3.cell? ⟨a, o, none⟩ := fun a o h => E4.out.cell (p := ⟨a, o, none⟩) h; have hz4 : w3.heap.size ≤ u4.heap.size := E4.out.size; clear d4))
  all_goals (go_wp2_with fail)
  all_goals (refine (R7.out _).mono ?_; rintro e w5 ⟨rfl, b5⟩)
  all_goals
    have b35 := (((Below.refl w3.heap.size w3).drew).trans E4.out).trans (b5.mono E4.out.size)
    have tX := H3.out.2.2.below b35 H3.out.2.2.lt
    have f5 := H3.out.1.trans (b35.mono H3.out.1.size)
    have l6 := tX.lt
    have m7 := tX.1.1
    have m8 := tX.2.1
    have H5 := Lib.hid (And.intro f5 tX)
    clear b5 b35 tX f5 kS1 kS2 kS3 kS4 m3 m4 m5 m6 l4 l5 E1 E2 E3 E4 hz1 hz2 hz3 hz4 hc0
    go_wp2_with fail
    obtain ⟨w6, hw6⟩ : ∃ V, w5.alloc (Obj.cells #[Value.bool bY, Value.string sY] 23) = V := ⟨_, rfl⟩
    obtain ⟨B6, hB6⟩ : ∃ B, w5.heap.size = B := ⟨_, rfl⟩
    have b6 : Below w5.heap.size w5 w6 := by rw [← hw6]; exact (Below.refl _ _).alloc (Nat.le_refl _) _
    have tY : Two B6 (.bool bY) (.string sY) w6 := by rw [← hw6, ← hB6]; exact two_new _ _ _ _
    have tX := H5.out.2.below b6 l6
    have f6 := H5.out.1.trans (b6.mono H5.out.1.size)
    have l7 := tX.lt
    have l8 := tY.lt
    have m1 := tX.1.1
    have m2 := tX.2.1
    have m3 := tY.1.1
    have m4 := tY.2.1
    have H6 := Lib.hid f6
    rw [hw6, hB6]
    clear b6 tY tX f6 m7 m8 l6 hw6 hB6
    rcases HF0.out with ⟨rfl, rfl, rfl, k1⟩ | ⟨hf3, rfl, rfl, k1⟩
    · skip
      have tok1 : True := trivial
      have tok2 : True := trivial
      go_region_held3 (fun w' => ∀ (a o : Nat), a < w6.heap.size → w'.cell? ⟨a, o, none⟩ = w6.cell? ⟨a, o, none⟩) (first | assumption | (intro _ _ _; rfl))
        (first | (go_at_call 18; have _t := tok1; clear tok1; refine (R8.out _).mono ?_; rintro e u1 ⟨rfl, d1⟩; have E1 := Lib.hid (d1); have kS1 : ∀ (a o : Nat), a < w6.heap.size → u1.cell? ⟨a, o, none⟩ = w6.cell? ⟨a, o, none⟩ := fun a o h => E1.out.cell (p := ⟨a, o, none⟩) h; have hz1 : w6.heap.size ≤ u1.heap.size := E1.out.size; clear d1) | (go_at_call 32; have _t := tok2; clear tok2; refine (R9.out _).mono ?_; rintro e u2 ⟨rfl, d2⟩; have E2 := Lib.hid (E1.out.trans (d2.mono E1.out.size)); have kS2 : ∀ (a o : Nat), a < w6.heap.size → u2.cell? ⟨a, o, none⟩ = w6.cell? ⟨a, o, none⟩ := fun a o h => E2.out.cell (p := ⟨a, o, none⟩) h; have hz2 : w6.heap.size ≤ u2.heap.size := E2.out.size; clear d2))
      go_wp2_with fail
      refine (R10.out _).mono ?_
      rintro e w7 ⟨rfl, b7⟩
      have b67 := (((Below.refl w6.heap.size w6).drew).trans E2.out).trans (b7.mono (by exact (((Below.refl w6.heap.size w6).drew).trans E2.out).size))
      have f7 := H6.out.trans (b67.mono H6.out.size)
      have H7 := Lib.hid f7
      clear b7 b67 f7
      have f8 : Below w.heap.size w (w7.alloc (Obj.cells #[Value.bool bZ, Value.string sZ] 23)) := H7.out.alloc H7.out.size _
      have g8 := tab_below HT.out f8
      have H8 := Lib.hid (And.intro f8 g8)
      clear f8 g8
      rcases HF1b.out with ⟨rfl, hpr⟩ | ⟨rfl, rfl, rfl⟩
      · have HPR := Lib.hid hpr
        clear hpr
        have huu : (u.data.toList == u.data.toList) = true := beq_self_eq_true _
        go_wp2_with fail
        refine (HPR.out _ H8.out.2).mono ?_
        rintro e w9 ⟨rfl, b9⟩
        have f9 := H8.out.1.trans (b9.mono H8.out.1.size)
        have haw := awake_any w9 (tab_below HT.out f9)
        have HAW := Lib.hid haw
        have H9 := Lib.hid f9
        clear b9 f9 haw
        go_wp2_with fail
        refine HAW.out.mono ?_
        rintro e wA ⟨rfl, cA⟩
        go_wp2_with fail
        go_ret
        exact ⟨rfl, H9.out.trans (cA.mono H9.out.size)⟩
      · have haw := awake_any _ H8.out.2
        have HAW := Lib.hid haw
        clear haw
        go_wp2_with fail
        refine HAW.out.mono ?_
        rintro e wA ⟨rfl, cA⟩
        go_wp2_with fail
        go_ret
        exact ⟨rfl, H8.out.1.trans (cA.mono H8.out.1.size)⟩
    · have k3 : ((3 : Int) == 0) = false := by rfl
      subst hf3
      go_quiet (fail)
      go_wp2_with fail
      refine (R10.out _).mono ?_
      rintro e w7 ⟨rfl, b7⟩
      have b6q : Below w6.heap.size w6 (w6.drewN nq) := ⟨rfl, rfl, rfl, Nat.le_refl _, fun _ _ => rfl⟩
      have b67 := b6q.trans (b7.mono (by exact b6q.size))
      have f7 := H6.out.trans (b67.mono H6.out.size)
      have H7 := Lib.hid f7
      clear b7 b67 f7
      have f8 : Below w.heap.size w (w7.alloc (Obj.cells #[Value.bool bZ, Value.string sZ] 23)) := H7.out.alloc H7.out.size _
      have g8 := tab_below HT.out f8
      have H8 := Lib.hid (And.intro f8 g8)
      clear f8 g8
      rcases HF1b.out with ⟨rfl, hpr⟩ | ⟨rfl, rfl, rfl⟩
      · have HPR := Lib.hid hpr
        clear hpr
        have huu : (u.data.toList == u.data.toList) = true := beq_self_eq_true _
        go_wp2_with fail
        refine (HPR.out _ H8.out.2).mono ?_
        rintro e w9 ⟨rfl, b9⟩
        have f9 := H8.out.1.trans (b9.mono H8.out.1.size)
        have haw := awake_any w9 (tab_below HT.out f9)
        have HAW := Lib.hid haw
        have H9 := Lib.hid f9
        clear b9 f9 haw
        go_wp2_with fail
        refine HAW.out.mono ?_
        rintro e wA ⟨rfl, cA⟩
        go_wp2_with fail
        go_ret
        exact ⟨rfl, H9.out.trans (cA.mono H9.out.size)⟩
      · have haw := awake_any _ H8.out.2
        have HAW := Lib.hid haw
        clear haw
        go_wp2_with fail
        refine HAW.out.mono ?_
        rintro e wA ⟨rfl, cA⟩
        go_wp2_with fail
        go_ret
        exact ⟨rfl, H8.out.1.trans (cA.mono H8.out.1.size)⟩
theorem decimals_any (na : Bool) (sa : ByteArray) (u : ByteArray) (w : World) (htab : Tab w) (ha : sa.size ≤ maxLen) (hu : u.size ≤ maxLen) :
    Calls Tryz.prog 12 #[.agg #[.bool na, .string sa], .string u] w fun e w' => e = .returned (.bool true) ∧ Below w.heap.size w w' := by
  cases hg : (([(na, sa)] : List (Bool × ByteArray)).any fun p => decide ((60 : Int) < (p.2.size : Int)))
  · by_cases h : u.size ≤ 200
    · exact decimal_small na sa u w htab ha hu hg h
    · exact decimal_long na sa u w htab ha hu hg (by omega)
  · exact decimal_great na sa u w htab ha hu hg
end Go.Proofs.YtajollhpimfefaaGreatDoor
