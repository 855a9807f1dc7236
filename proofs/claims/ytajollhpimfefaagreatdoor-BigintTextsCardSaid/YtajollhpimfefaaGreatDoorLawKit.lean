/- What the walks of the laws of layer 1 share. -/
import Derived.Test.YtajollhpimfefaaGreatDoorSum
import Derived.Test.YtajollhpimfefaaGreatDoorMul
import Derived.Outline
import Derived.Test.YtajollhpimfefaaGreatDoorAwake
import Derived.Test.YtajollhpimfefaaGreatDoorCmp
import Derived.Test.YtajollhpimfefaaGreatDoorNat
namespace Go.Proofs.YtajollhpimfefaaGreatDoor
open Go.RowKit

set_option maxHeartbeats 1000000 in
set_option maxRecDepth 100000 in
theorem sub_any (na nb : Bool) (sa sb : ByteArray) (w : World) (ha : sa.size ≤ 262144) (hb : sb.size ≤ 262144) :
    Calls Tryz.prog 30 #[.agg #[.bool na, .string sa], .agg #[.bool nb, .string sb]] w (IntRes w (ival na sa - ival nb sb)) := by
  have hz : ival na sa - ival nb sb = ival na sa + ival (!nb) sb := by rw [ival_not]; omega
  rw [hz]
  obtain ⟨z, hz2⟩ : ∃ z, ival na sa + ival (!nb) sb = z := ⟨_, rfl⟩
  have HZ := Lib.hid hz2
  rw [hz2]
  clear hz hz2
  go_enter Tryz.func30, Tryz.ntmps30
  go_wp2_with fail
  obtain ⟨W0, hW0⟩ : ∃ W0, (((w.alloc (Obj.cells #[Value.bool na, Value.string sa] 23)).alloc (Obj.cells #[Value.bool nb, Value.string sb] 23)).alloc (Obj.cells #[Value.bool false, Value.string ⟨#[]⟩] 23)) = W0 := ⟨_, rfl⟩
  have hs0 : W0.heap.size = w.heap.size + 1 + 1 + 1 := by rw [← hW0]; simp
  have tA : Two w.heap.size (.bool na) (.string sa) W0 := by
    rw [← hW0]
    exact (two_new w _ _ _).below (B0 := w.heap.size + 1) (((Below.refl _ _).alloc (by simp) _).alloc (by simp) _) (by omega)
  have tB : Two (w.heap.size + 1) (.bool nb) (.string sb) W0 := by
    rw [← hW0]
    have h := two_new (w.alloc (Obj.cells #[Value.bool na, Value.string sa] 23)) (.bool nb) (.string sb) 23
    rw [World.size_alloc] at h
    exact h.below (B0 := w.heap.size + 1 + 1) ((Below.refl _ _).alloc (by simp) _) (by omega)
  have tR : Two (w.heap.size + 1 + 1) (.bool false) (.string ⟨#[]⟩) W0 := by
    rw [← hW0]
    have h := two_new ((w.alloc (Obj.cells #[Value.bool na, Value.string sa] 23)).alloc (Obj.cells #[Value.bool nb, Value.string sb] 23)) (.bool false) (.string ⟨#[]⟩) 23
    rw [World.size_alloc, World.size_alloc] at h
    exact h
  have b0 : Below w.heap.size w W0 := by
    rw [← hW0]
    exact (((Below.refl _ _).alloc (Nat.le_refl _) _).alloc (by simp) _).alloc (by simp; omega) _
  rw [hW0]
  have kA0 := tA.1.1
  have kA1 := tA.2.1
  have kB0 := tB.1.1
  have kB1 := tB.2.1
  have q1 : Two w.heap.size (.bool na) (.string sa) W0.drew := tA
  have q2 : Two (w.heap.size + 1) (.bool nb) (.string sb) W0.drew := tB
  have q3 : Two (w.heap.size + 1 + 1) (.bool false) (.string ⟨#[]⟩) W0.drew := tR
  have q5 : w.heap.size + 1 + 1 + 1 ≤ W0.drew.heap.size := by show _ ≤ W0.heap.size; omega
  have HQ := Lib.hid (And.intro q1 (And.intro q2 (And.intro q3 (And.intro b0.drew q5))))
  have ne0 : ¬ (w.heap.size + 1 + 1 = w.heap.size) := by omega
  clear tA tB tR b0 hs0 hW0 q1 q2 q3 q5
  go_region_held3 (fun w' => w'.cell? ⟨w.heap.size, 0, none⟩ = some (.bool na) ∧ w'.cell? ⟨w.heap.size, 1, none⟩ = some (.string sa) ∧ w'.cell? ⟨w.heap.size + 1, 0, none⟩ = some (.bool nb) ∧ w'.cell? ⟨w.heap.size + 1, 1, none⟩ = some (.string sb)) (go_keep)
    (first | (go_at_call 53; refine (opposite_any nb sb _).mono ?_; intro e wP hP; obtain ⟨he, bP⟩ := hP; subst he; have H6 := Lib.hid bP; have kA2 := (HQ.out.1.below bP (by have := HQ.out.2.2.2.2; omega)).1.1; have kA3 := (HQ.out.1.below bP (by have := HQ.out.2.2.2.2; omega)).2.1; have kB2 := (HQ.out.2.1.below bP (by have := HQ.out.2.2.2.2; omega)).1.1; have kB3 := (HQ.out.2.1.below bP (by have := HQ.out.2.2.2.2; omega)).2.1; clear bP) | (go_at_call 28; have had := add_any na (!nb) sa sb wP ha hb; rw [HZ.out] at had; refine had.mono ?_; clear had; intro e wS hS; obtain ⟨he, bS⟩ := hS; subst he; have H7 := Lib.hid bS; have hs6 := H6.out.size; have kA4 := ((HQ.out.1.below H6.out (by have := HQ.out.2.2.2.2; omega)).below bS (by have := HQ.out.2.2.2.2; omega)).1.1; have kA5 := ((HQ.out.1.below H6.out (by have := HQ.out.2.2.2.2; omega)).below bS (by have := HQ.out.2.2.2.2; omega)).2.1; have kB4 := ((HQ.out.2.1.below H6.out (by have := HQ.out.2.2.2.2; omega)).below bS (by have := HQ.out.2.2.2.2; omega)).1.1; have kB5 := ((HQ.out.2.1.below H6.out (by have := HQ.out.2.2.2.2; omega)).below bS (by have := HQ.out.2.2.2.2; omega)).2.1; have kR4 := ((HQ.out.2.2.1.below H6.out (by have := HQ.out.2.2.2.2; omega)).below bS (by have := HQ.out.2.2.2.2; omega)); obtain ⟨⟨r1, r2⟩, r3, r4⟩ := kR4; clear bS hs6))
  have hsz := HQ.out.2.2.2.2
  have hbw := HQ.out.2.2.2.1
  have hbP := H6.out
  have hbS := H7.out
  have hsP := hbP.size
  have hbel : Below w.heap.size w ((wS.setCell ⟨w.heap.size + 1 + 1, 0, none⟩ (.bool (ng z))).setCell ⟨w.heap.size + 1 + 1, 1, none⟩ (.string (mg z))) :=
    (((hbw.trans (hbP.mono (by omega))).trans (hbS.mono (by omega))).setCell (by show w.heap.size ≤ w.heap.size + 1 + 1; omega) _).setCell (by show w.heap.size ≤ w.heap.size + 1 + 1; omega) _
  have HBEL := Lib.hid hbel
  clear hsz hbw hbP hbS hsP hbel
  go_wp2_with fail
  refine bodyPost_ret (v := .agg #[.bool (ng z), .string (mg z)]) (by simp [results, Tryz.results30, go_sem, r1, r3]) rfl ?_
  exact ⟨rfl, HBEL.out⟩
end Go.Proofs.YtajollhpimfefaaGreatDoor

namespace Go.Proofs.YtajollhpimfefaaGreatDoor
open Go.RowKit Go.Shelf

theorem great_one (n : Bool) (s : ByteArray) (w : World) (_hs : s.size ≤ 9223372036854775807) :
    Calls Tryz.prog 45 #[.agg #[.bool n, .string s]] w fun e w' => e = .returned (.bool (decide ((60 : Int) < (s.size : Int)))) ∧ w.alloc (.cells #[.bool n, .string s] 23) = w' := by
  go_enter Tryz.func45, Tryz.ntmps45
  go_wp2_with fail
  go_ret
  exact ⟨rfl, rfl⟩

/-- The cells of a row of api.Int values. -/
def RowI (w : World) (b : Nat) (l : List (Bool × ByteArray)) : Prop :=
  ∀ j, j < l.length → w.cell? ⟨b, j * 2, none⟩ = some (.bool (l.getD j (false, ⟨#[]⟩)).1) ∧ w.cell? ⟨b, j * 2 + 1, none⟩ = some (.string (l.getD j (false, ⟨#[]⟩)).2)

set_option maxHeartbeats 1000000 in
set_option maxRecDepth 100000 in
theorem great_any (b : Nat) (l : List (Bool × ByteArray)) (w : World) (hr : RowI w b l) (hb : b < w.heap.size) (hn : l.length ≤ 1000) (hs : ∀ p ∈ l, p.2.size ≤ 9223372036854775807) :
    Calls Tryz.prog 14 #[.slice (some ⟨b, 0, none⟩) l.length l.length] w fun e w' => e = .returned (.bool (l.any fun p => decide ((60 : Int) < (p.2.size : Int)))) ∧ Below w.heap.size w w' := by
  have HR := Lib.hid (And.intro hr hs)
  clear hr hs
  go_enter Tryz.func14, Tryz.ntmps14
  go_wp2_with fail
  go_loopw [7] (fun i wr => ∃ k : Nat, k ≤ l.length ∧ i = .int .i64 k ∧ ((l.drop k).any fun p => decide ((60 : Int) < (p.2.size : Int))) = (l.any fun p => decide ((60 : Int) < (p.2.size : Int))) ∧ Below w.heap.size w wr) (fun i _ => l.length - (intOf i).toNat)
  case atStart => exact ⟨0, Nat.zero_le _, rfl, rfl, Below.refl _ _⟩
  case round =>
    obtain ⟨k, hk, rfl, hany, hbel⟩ := hrel
    by_cases hlt : k < l.length
    · obtain ⟨n, s, hns⟩ : ∃ n s, l.getD k (false, ⟨#[]⟩) = (n, s) := ⟨_, _, rfl⟩
      have hget : l.drop k = (n, s) :: l.drop (k + 1) := by
        rw [List.drop_eq_getElem_cons hlt, ← hns, List.getD_eq_getElem?_getD, List.getElem?_eq_getElem hlt]; rfl
      have hss := HR.out.2 (n, s) (List.mem_of_mem_drop (by rw [hget]; exact List.mem_cons_self))
      have k1 : wr.cell? ⟨b, k * 2, none⟩ = some (.bool n) := by rw [hbel.cell (p := ⟨b, k * 2, none⟩) hb, (HR.out.1 k hlt).1, hns]
      have k2 : wr.cell? ⟨b, k * 2 + 1, none⟩ = some (.string s) := by rw [hbel.cell (p := ⟨b, k * 2 + 1, none⟩) hb, (HR.out.1 k hlt).2, hns]
      have HA := Lib.hid (And.intro hany (And.intro hbel hget))
      have hg1 := great_one n s
      have HG := Lib.hid (fun W => hg1 W hss)
      have hli : (k : Int) < (l.length : Int) := by omega
      clear hany hbel hget hns hg1 hss
      obtain ⟨d, hd⟩ : ∃ d, decide ((60 : Int) < (s.size : Int)) = d := ⟨_, rfl⟩
      have hg2 := HG.out
      rw [hd] at hg2
      have HG2 := Lib.hid hg2
      have HD := Lib.hid hd
      clear hg2 hd HG
      cases d
      · go_wp2_with fail
        refine (HG2.out _).mono ?_
        rintro e w2 ⟨rfl, rfl⟩
        go_wp2_with fail
        go_roundw
        case rel =>
          refine ⟨k + 1, by omega, by go_num, ?_, ((HA.out.2.1.alloc HA.out.2.1.size _).alloc (by have := HA.out.2.1.size; simp; omega) _)⟩
          rw [← HA.out.1, HA.out.2.2, List.any_cons, HD.out, Bool.false_or]
        case measure => simp [intOf]; omega
      · go_wp2_with fail
        refine (HG2.out _).mono ?_
        rintro e w2 ⟨rfl, rfl⟩
        go_wp2_with fail
        go_ret
        refine ⟨?_, ((HA.out.2.1.alloc HA.out.2.1.size _).alloc (by have := HA.out.2.1.size; simp; omega) _)⟩
        rw [← HA.out.1, HA.out.2.2, List.any_cons, HD.out, Bool.true_or]; rfl
    · have hkl : k = l.length := by omega
      have HA := Lib.hid (And.intro hany (And.intro hbel hkl))
      clear hany hbel hkl
      go_wp2_with fail
      go_ret
      have ha := HA.out.1
      rw [HA.out.2.2, List.drop_length] at ha
      exact ⟨by rw [← ha]; rfl, HA.out.2.1⟩
end Go.Proofs.YtajollhpimfefaaGreatDoor

namespace Go.Proofs.YtajollhpimfefaaGreatDoor
open Go.RowKit Go.Shelf

/-- Rows of api.Int values in a new block. -/
theorem rowI_3 (w : World) (na nb nc : Bool) (sa sb sc : ByteArray) (T : TypeId) : RowI (w.alloc (.cells #[.bool na, .string sa, .bool nb, .string sb, .bool nc, .string sc] T)) w.heap.size [(na, sa), (nb, sb), (nc, sc)] := by
  have hh := heap_alloc_new w (.cells #[.bool na, .string sa, .bool nb, .string sb, .bool nc, .string sc] T)
  intro j hj
  have hj3 : j < 3 := hj
  simp only [World.cell?, hh]
  rcases j with _ | _ | _ | j
  · simp
  · simp
  · simp
  · omega
theorem rowI_2 (w : World) (na nb : Bool) (sa sb : ByteArray) (T : TypeId) : RowI (w.alloc (.cells #[.bool na, .string sa, .bool nb, .string sb] T)) w.heap.size [(na, sa), (nb, sb)] := by
  have hh := heap_alloc_new w (.cells #[.bool na, .string sa, .bool nb, .string sb] T)
  intro j hj
  have hj3 : j < 2 := hj
  simp only [World.cell?, hh]
  rcases j with _ | _ | j
  · simp
  · simp
  · omega
theorem rowI_1 (w : World) (na : Bool) (sa : ByteArray) (T : TypeId) : RowI (w.alloc (.cells #[.bool na, .string sa] T)) w.heap.size [(na, sa)] := by
  have hh := heap_alloc_new w (.cells #[.bool na, .string sa] T)
  intro j hj
  have hj3 : j < 1 := hj
  simp only [World.cell?, hh]
  rcases j with _ | j
  · simp
  · omega
theorem rowI_5 (w : World) (n1 n2 n3 n4 n5 : Bool) (s1 s2 s3 s4 s5 : ByteArray) (T : TypeId) : RowI (w.alloc (.cells #[.bool n1, .string s1, .bool n2, .string s2, .bool n3, .string s3, .bool n4, .string s4, .bool n5, .string s5] T)) w.heap.size [(n1, s1), (n2, s2), (n3, s3), (n4, s4), (n5, s5)] := by
  have hh := heap_alloc_new w (.cells #[.bool n1, .string s1, .bool n2, .string s2, .bool n3, .string s3, .bool n4, .string s4, .bool n5, .string s5] T)
  intro j hj
  have hj3 : j < 5 := hj
  simp only [World.cell?, hh]
  rcases j with _ | _ | _ | _ | _ | j
  · simp
  · simp
  · simp
  · simp
  · simp
  · omega
theorem small_size {l : List (Bool × ByteArray)} (h : (l.any fun p => decide ((60 : Int) < (p.2.size : Int))) = false) : ∀ p ∈ l, p.2.size ≤ 60 := fun p hp => by
  have h1 := List.any_eq_false.1 h p hp
  simp at h1
  omega
/-- Integers of so many bytes. -/
def Sz (k : Nat) (z : Int) : Prop := z.natAbs < 256 ^ k
theorem Sz.ival (n : Bool) (s : ByteArray) (k : Nat) (h : s.size ≤ k) : Sz k (ival n s) := by
  unfold Sz
  rw [ival_abs]
  refine Nat.lt_of_lt_of_le (beVal_lt _) (Nat.pow_le_pow_right (by omega) ?_)
  rw [← Lib.size_eq]; exact h
theorem Sz.mono {k j : Nat} {z : Int} (h : Sz k z) (hk : k ≤ j) : Sz j z := Nat.lt_of_lt_of_le h (Nat.pow_le_pow_right (by omega) hk)
theorem Sz.add {k : Nat} {y z : Int} (h : Sz k y) (h' : Sz k z) : Sz (k + 1) (y + z) := by
  unfold Sz at *
  rw [Nat.pow_succ]
  have := Int.natAbs_add_le y z
  omega
theorem Sz.neg {k : Nat} {z : Int} (h : Sz k z) : Sz k (-z) := by unfold Sz at *; rwa [Int.natAbs_neg]
theorem Sz.sub {k : Nat} {y z : Int} (h : Sz k y) (h' : Sz k z) : Sz (k + 1) (y - z) := by rw [Int.sub_eq_add_neg]; exact h.add h'.neg
theorem Sz.mul {i k : Nat} {y z : Int} (h : Sz i y) (h' : Sz k z) : Sz (i + k) (y * z) := by
  unfold Sz at *
  rw [Int.natAbs_mul, Nat.pow_add]
  exact Nat.mul_lt_mul'' h h'
theorem Sz.size {k : Nat} {z : Int} (h : Sz k z) : (mg z).size ≤ k := mg_size z k h
/-- The parts of an api.Int with this value. -/
structure Val (b : Bool) (s : ByteArray) (z : Int) : Prop where
  val : ival b s = z
  small : s.size ≤ 262144
/-- .. and of the canonical one. -/
structure Nam (b : Bool) (s : ByteArray) (z : Int) : Prop where
  sign : ng z = b
  mag : mg z = s
theorem nam_ex (z : Int) : ∃ b s, Nam b s z := ⟨_, _, rfl, rfl⟩
theorem Nam.val {b : Bool} {s : ByteArray} {z : Int} (h : Nam b s z) {k : Nat} (hz : Sz k z) (hk : k ≤ 262144) : Val b s z := by
  obtain ⟨rfl, rfl⟩ := h
  exact ⟨ival_mg z, Nat.le_trans hz.size hk⟩
theorem Nam.eq {b : Bool} {s : ByteArray} {z : Int} (h : Nam b s z) : eqI b s b s = true := by
  obtain ⟨rfl, rfl⟩ := h; rw [eqI_ints]; simp
theorem Nam.zero {b : Bool} {s : ByteArray} (h : Nam b s 0) : b = false ∧ s = ⟨#[]⟩ := by
  obtain ⟨rfl, rfl⟩ := h; exact ⟨rfl, rfl⟩
section
variable {bx by' bz : Bool} {sx sy sz : ByteArray} {x y z : Int}
theorem add_val (hx : Val bx sx x) (hy : Val by' sy y) (he : x + y = z) (hz : Nam bz sz z) (W : World) :
    Calls Tryz.prog 28 #[.agg #[.bool bx, .string sx], .agg #[.bool by', .string sy]] W fun e w' => e = .returned (.agg #[.bool bz, .string sz]) ∧ Below W.heap.size W w' := by
  have h := add_any bx by' sx sy W hx.small hy.small
  rw [hx.val, hy.val, he] at h
  obtain ⟨rfl, rfl⟩ := hz
  exact h
theorem mul_val (hx : Val bx sx x) (hy : Val by' sy y) (he : x * y = z) (hz : Nam bz sz z) (W : World) :
    Calls Tryz.prog 32 #[.agg #[.bool bx, .string sx], .agg #[.bool by', .string sy]] W fun e w' => e = .returned (.agg #[.bool bz, .string sz]) ∧ Below W.heap.size W w' := by
  have h := mul_any bx by' sx sy W hx.small hy.small
  rw [hx.val, hy.val, he] at h
  obtain ⟨rfl, rfl⟩ := hz
  exact h
theorem sub_val (hx : Val bx sx x) (hy : Val by' sy y) (he : x - y = z) (hz : Nam bz sz z) (W : World) :
    Calls Tryz.prog 30 #[.agg #[.bool bx, .string sx], .agg #[.bool by', .string sy]] W fun e w' => e = .returned (.agg #[.bool bz, .string sz]) ∧ Below W.heap.size W w' := by
  have h := sub_any bx by' sx sy W hx.small hy.small
  rw [hx.val, hy.val, he] at h
  obtain ⟨rfl, rfl⟩ := hz
  exact h
theorem neg_val (hx : Val bx sx x) (he : -x = z) (hz : Nam bz sz z) (W : World) :
    Calls Tryz.prog 22 #[.agg #[.bool bx, .string sx]] W fun e w' => e = .returned (.agg #[.bool bz, .string sz]) ∧ Below W.heap.size W w' := by
  have h := neg_any bx sx W
  rw [hx.val, he] at h
  obtain ⟨rfl, rfl⟩ := hz
  exact h
theorem cmp_val (hx : Val bx sx x) (hy : Val by' sy y) (n : Int) (he : cmpZ x y = n) (W : World) :
    Calls Tryz.prog 24 #[.agg #[.bool bx, .string sx], .agg #[.bool by', .string sy]] W fun e w' => e = .returned (.int .i64 n) ∧ Below W.heap.size W w' := by
  have h := comp_any bx by' sx sy W
  rw [hx.val, hy.val, he] at h
  exact h
theorem check_val (hz : Nam bz sz z) (W : World) :
    Calls Tryz.prog 20 #[.agg #[.bool bz, .string sz]] W fun e w' => e = .returned (.int .i64 0) ∧ Below W.heap.size W w' := by
  obtain ⟨rfl, rfl⟩ := hz
  exact check_yes (ng z) (mg z) W (by rw [ival_mg, eqI_ints]; simp)
end
theorem keepS_alloc {V u : World} {X : Obj} (h : ∀ (a o : Nat), a < V.heap.size → u.cell? ⟨a, o, none⟩ = V.cell? ⟨a, o, none⟩) (hs : V.heap.size ≤ u.heap.size) : ∀ (a o : Nat), a < V.heap.size → (u.alloc X).cell? ⟨a, o, none⟩ = V.cell? ⟨a, o, none⟩ := fun a o ha =>
  (World.cell?_alloc_lt _ _ _ (Nat.lt_of_lt_of_le ha hs)).trans (h a o ha)
theorem carry_two {W u : World} (d : Below W.heap.size W u) (b : Nat) (h : b < W.heap.size) :
    (u.cell? ⟨b, 0, none⟩ = W.cell? ⟨b, 0, none⟩ ∧ u.cell? ⟨b, 1, none⟩ = W.cell? ⟨b, 1, none⟩) ∧ (u.frozen? ⟨b, 0, none⟩ = W.frozen? ⟨b, 0, none⟩ ∧ u.frozen? ⟨b, 1, none⟩ = W.frozen? ⟨b, 1, none⟩) ∧ b < u.heap.size ∧ b ≠ u.heap.size ∧ u.heap.size ≠ b :=
  ⟨⟨d.cell (p := ⟨b, 0, none⟩) h, d.cell (p := ⟨b, 1, none⟩) h⟩, ⟨d.frozen (p := ⟨b, 0, none⟩) h, d.frozen (p := ⟨b, 1, none⟩) h⟩, Nat.lt_of_lt_of_le h d.size, Nat.ne_of_lt (Nat.lt_of_lt_of_le h d.size), fun e => Nat.ne_of_lt (Nat.lt_of_lt_of_le h d.size) e.symm⟩
theorem keepS_refl (V : World) : ∀ (a o : Nat), a < V.heap.size → V.cell? ⟨a, o, none⟩ = V.cell? ⟨a, o, none⟩ := fun _ _ _ => rfl
theorem keepS_drew {V u : World} (h : ∀ (a o : Nat), a < V.heap.size → u.cell? ⟨a, o, none⟩ = V.cell? ⟨a, o, none⟩) : ∀ (a o : Nat), a < V.heap.size → u.drew.cell? ⟨a, o, none⟩ = V.cell? ⟨a, o, none⟩ := h
theorem keepS_set {V u : World} {b k : Nat} {v : Value} (h : ∀ (a o : Nat), a < V.heap.size → u.cell? ⟨a, o, none⟩ = V.cell? ⟨a, o, none⟩) (hs : V.heap.size ≤ b) : ∀ (a o : Nat), a < V.heap.size → (u.setCell ⟨b, k, none⟩ v).cell? ⟨a, o, none⟩ = V.cell? ⟨a, o, none⟩ := fun a o ha =>
  (World.cell?_setCell_other _ _ _ _ (fun e => by have : b = a := congrArg Addr.block e; omega)).trans (h a o ha)
theorem tab_of {w w' : World} (h : Tab w) (hb : Below w.heap.size w w') : Tab w' := tab_below h hb
end Go.Proofs.YtajollhpimfefaaGreatDoor
