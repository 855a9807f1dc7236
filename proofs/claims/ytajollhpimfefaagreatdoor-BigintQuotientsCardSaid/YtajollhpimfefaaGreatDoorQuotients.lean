/- The walk of narrowslaw01.BigintQuotients. -/
import Derived.Test.YtajollhpimfefaaGreatDoorGcd
import Derived.Test.YtajollhpimfefaaGreatDoorRootAll
import Derived.Test.YtajollhpimfefaaGreatDoorRDivAll
import Derived.Test.YtajollhpimfefaaGreatDoorRGcd
import Derived.Test.YtajollhpimfefaaGreatDoorRRoot
import Derived.Test.YtajollhpimfefaaGreatDoorLawKit
import Derived.Outline
import Derived.Handy
namespace Go.Proofs.YtajollhpimfefaaGreatDoor
open Go.RowKit Go.Shelf

theorem gcd_val2 {x y : Int} {bx by' bz : Bool} {sx sy sz : ByteArray} (hx : Val bx sx x) (hy : Val by' sy y) (hz : Nam bz sz ((Nat.gcd x.natAbs y.natAbs : Nat) : Int)) (W : World) :
  Calls Tryz.prog 38 #[.agg #[.bool bx, .string sx], .agg #[.bool by', .string sy]] W fun e w' => e = .returned (.agg #[.bool bz, .string sz]) ∧ Below W.heap.size W w' := by
 have h := gcdInt_any bx by' sx sy W hx.small hy.small
 rw [hx.val, hy.val] at h
 obtain ⟨rfl, rfl⟩ := hz
 exact h
theorem div0_val2 (na nb : Bool) {sa sb : ByteArray} (ha : sa.size ≤ 262144) (hb : sb.size ≤ 262144) (hy0 : beVal sb.data.toList = 0) (W : World) :
  Calls Tryz.prog 34 #[.agg #[.bool na, .string sa], .agg #[.bool nb, .string sb]] W fun e w' => e = .returned (.tuple #[.agg #[.bool false, .string ⟨#[]⟩], .agg #[.bool false, .string ⟨#[]⟩], .int .i64 10]) ∧ Below W.heap.size W w' := div_zero na nb sa sb W ha hb hy0

set_option maxHeartbeats 4000000 in
set_option maxRecDepth 100000 in
theorem quot_great (na nb : Bool) (sa sb : ByteArray) (w : World) (htab : Tab w) (ha : sa.size ≤ maxLen) (hb : sb.size ≤ maxLen)
  (hg : (([(na, sa), (nb, sb)] : List (Bool × ByteArray)).any fun p => decide ((60 : Int) < (p.2.size : Int))) = true) :
  Calls Tryz.prog 5 #[.agg #[.bool na, .string sa], .agg #[.bool nb, .string sb]] w fun e w' => e = .returned (.bool true) ∧ Below w.heap.size w w' := by
 unfold maxLen at ha hb
 have HG := Lib.hid hg
 have HT := Lib.hid htab
 have hss : ∀ p ∈ ([(na, sa), (nb, sb)] : List (Bool × ByteArray)), p.2.size ≤ 9223372036854775807 := by
  intro p hp
  simp at hp
  rcases hp with rfl | rfl <;> simp <;> omega
 have HSS := Lib.hid hss
 clear htab hg hss
 go_enter Tryz.func5, Tryz.ntmps5
 go_wp2_with fail
 obtain ⟨W0, hW0⟩ : ∃ W0, ((w.alloc (Obj.cells #[Value.bool na, Value.string sa] 23)).alloc (Obj.cells #[Value.bool nb, Value.string sb] 23)).alloc (Obj.cells #[Value.bool na, Value.string sa, Value.bool nb, Value.string sb] 23) = W0 := ⟨_, rfl⟩
 have z0 : W0.heap.size = w.heap.size + 1 + 1 + 1 := by rw [← hW0]; simp
 have ta : Two (w.heap.size) (.bool na) (.string sa) W0 := by
  rw [← hW0]
  have h := two_new w (.bool na) (.string sa) 23
  (try simp only [World.size_alloc] at h)
  exact h.below (B0 := w.heap.size + 1) (((Below.refl _ _).alloc (by simp) _).alloc (by simp) _) (by omega)
 have tb : Two (w.heap.size + 1) (.bool nb) (.string sb) W0 := by
  rw [← hW0]
  have h := two_new (w.alloc (Obj.cells #[Value.bool na, Value.string sa] 23)) (.bool nb) (.string sb) 23
  (try simp only [World.size_alloc] at h)
  exact h.below (B0 := w.heap.size + 1 + 1) ((Below.refl _ _).alloc (by simp) _) (by omega)
 have hrow : RowI W0 (w.heap.size + 1 + 1) [(na, sa), (nb, sb)] := by
  rw [← hW0]
  have h := rowI_2 ((w.alloc (Obj.cells #[Value.bool na, Value.string sa] 23)).alloc (Obj.cells #[Value.bool nb, Value.string sb] 23)) na nb sa sb 23
  simp only [World.size_alloc] at h
  exact h
 have b0 : Below w.heap.size w W0 := by
  rw [← hW0]
  exact ((((Below.refl _ _).alloc (Nat.le_refl _) _).alloc (by simp) _).alloc (by simp; omega) _)
 rw [hW0]
 have hgr := great_any (w.heap.size + 1 + 1) [(na, sa), (nb, sb)] W0 hrow (by omega) (by simp) HSS.out
 rw [HG.out] at hgr
 have HGR := Lib.hid hgr
 have H0 := Lib.hid (And.intro z0 (And.intro b0 (And.intro ta (And.intro tb trivial))))
 clear hW0 z0 hrow b0 hgr ta tb
 refine HGR.out.mono ?_
 rintro e wG ⟨rfl, cG⟩
 have bG : Below w.heap.size w wG := H0.out.2.1.trans (cG.mono H0.out.2.1.size)
 have haw := awake_any wG (tab_of HT.out bG)
 have HAW := Lib.hid haw
 have HB := Lib.hid bG
 clear cG bG haw
 go_wp2_with fail
 refine HAW.out.mono ?_
 rintro e wA ⟨rfl, cA⟩
 go_wp2_with fail
 go_ret
 exact ⟨rfl, HB.out.trans (cA.mono HB.out.size)⟩

set_option maxHeartbeats 4000000 in
set_option maxRecDepth 100000 in
theorem quot_walk (na nb : Bool) (sa sb : ByteArray) (w : World) (htab : Tab w) (ha : sa.size ≤ maxLen) (hb : sb.size ≤ maxLen)
  (hg : (([(na, sa), (nb, sb)] : List (Bool × ByteArray)).any fun p => decide ((60 : Int) < (p.2.size : Int))) = false) {bq br bt ex bg : Bool} {sq sr st sg : ByteArray} {dn tn : Int} (hD1 : ∀ W : World, Calls Tryz.prog 34 #[.agg #[.bool na, .string sa], .agg #[.bool nb, .string sb]] W fun e w' => e = .returned (.tuple #[.agg #[.bool bq, .string sq], .agg #[.bool br, .string sr], .int .i64 dn]) ∧ Below W.heap.size W w') (hD2 : ∀ W : World, Calls Tryz.prog 35 #[.agg #[.bool na, .string sa], .agg #[.bool nb, .string sb]] W fun e w' => e = .returned (.tuple #[.agg #[.bool bq, .string sq], .agg #[.bool br, .string sr], .int .i64 dn]) ∧ Below W.heap.size W w') (hT1 : ∀ W : World, Calls Tryz.prog 36 #[.agg #[.bool na, .string sa]] W fun e w' => e = .returned (.tuple #[.agg #[.bool bt, .string st], .bool ex, .int .i64 tn]) ∧ Below W.heap.size W w') (hT2 : ∀ W : World, Calls Tryz.prog 37 #[.agg #[.bool na, .string sa]] W fun e w' => e = .returned (.tuple #[.agg #[.bool bt, .string st], .bool ex, .int .i64 tn]) ∧ Below W.heap.size W w') (hG1 : ∀ W : World, Calls Tryz.prog 38 #[.agg #[.bool na, .string sa], .agg #[.bool nb, .string sb]] W fun e w' => e = .returned (.agg #[.bool bg, .string sg]) ∧ Below W.heap.size W w') (hG2 : ∀ W : World, Calls Tryz.prog 39 #[.agg #[.bool na, .string sa], .agg #[.bool nb, .string sb]] W fun e w' => e = .returned (.agg #[.bool bg, .string sg]) ∧ Below W.heap.size W w') (e1 : eqI bq sq bq sq = true) (e2 : eqI br sr br sr = true) (e3 : eqI bt st bt st = true) (e4 : eqI bg sg bg sg = true) :
  Calls Tryz.prog 5 #[.agg #[.bool na, .string sa], .agg #[.bool nb, .string sb]] w fun e w' => e = .returned (.bool true) ∧ Below w.heap.size w w' := by
 unfold maxLen at ha hb
 have HG := Lib.hid hg
 have HT := Lib.hid htab
 have hss : ∀ p ∈ ([(na, sa), (nb, sb)] : List (Bool × ByteArray)), p.2.size ≤ 9223372036854775807 := by
  intro p hp
  simp at hp
  rcases hp with rfl | rfl <;> simp <;> omega
 have HSS := Lib.hid hss
 clear htab hg hss
 have D1 := Lib.hid hD1
 have D2 := Lib.hid hD2
 have T1 := Lib.hid hT1
 have T2 := Lib.hid hT2
 have G1 := Lib.hid hG1
 have G2 := Lib.hid hG2
 clear hD1 hD2 hT1 hT2 hG1 hG2
 go_enter Tryz.func5, Tryz.ntmps5
 go_wp2_with fail
 obtain ⟨W0, hW0⟩ : ∃ W0, ((w.alloc (Obj.cells #[Value.bool na, Value.string sa] 23)).alloc (Obj.cells #[Value.bool nb, Value.string sb] 23)).alloc (Obj.cells #[Value.bool na, Value.string sa, Value.bool nb, Value.string sb] 23) = W0 := ⟨_, rfl⟩
 have z0 : W0.heap.size = w.heap.size + 1 + 1 + 1 := by rw [← hW0]; simp
 have ta : Two (w.heap.size) (.bool na) (.string sa) W0 := by
  rw [← hW0]
  have h := two_new w (.bool na) (.string sa) 23
  (try simp only [World.size_alloc] at h)
  exact h.below (B0 := w.heap.size + 1) (((Below.refl _ _).alloc (by simp) _).alloc (by simp) _) (by omega)
 have tb : Two (w.heap.size + 1) (.bool nb) (.string sb) W0 := by
  rw [← hW0]
  have h := two_new (w.alloc (Obj.cells #[Value.bool na, Value.string sa] 23)) (.bool nb) (.string sb) 23
  (try simp only [World.size_alloc] at h)
  exact h.below (B0 := w.heap.size + 1 + 1) ((Below.refl _ _).alloc (by simp) _) (by omega)
 have hrow : RowI W0 (w.heap.size + 1 + 1) [(na, sa), (nb, sb)] := by
  rw [← hW0]
  have h := rowI_2 ((w.alloc (Obj.cells #[Value.bool na, Value.string sa] 23)).alloc (Obj.cells #[Value.bool nb, Value.string sb] 23)) na nb sa sb 23
  simp only [World.size_alloc] at h
  exact h
 have b0 : Below w.heap.size w W0 := by
  rw [← hW0]
  exact ((((Below.refl _ _).alloc (Nat.le_refl _) _).alloc (by simp) _).alloc (by simp; omega) _)
 rw [hW0]
 have hgr := great_any (w.heap.size + 1 + 1) [(na, sa), (nb, sb)] W0 hrow (by omega) (by simp) HSS.out
 rw [HG.out] at hgr
 have HGR := Lib.hid hgr
 have H0 := Lib.hid (And.intro z0 (And.intro b0 (And.intro ta (And.intro tb trivial))))
 clear hW0 z0 hrow b0 hgr ta tb
 refine HGR.out.mono ?_
 rintro e wG ⟨rfl, cG⟩
 have bGG : Below w.heap.size w wG := H0.out.2.1.trans (cG.mono H0.out.2.1.size)
 have tA : Two (w.heap.size) (.bool na) (.string sa) wG := H0.out.2.2.1.below cG H0.out.2.2.1.lt
 have tB : Two (w.heap.size + 1) (.bool nb) (.string sb) wG := H0.out.2.2.2.1.below cG H0.out.2.2.2.1.lt
 have q1 := eql_int
 have q3 := guard_int
 have HS := Lib.hid (And.intro bGG (And.intro tA tB))
 clear cG bGG tA tB
 have l0 := (HS.out.2.1).lt
 have m00 := (HS.out.2.1).1.1
 have m01 := (HS.out.2.1).2.1
 have l1 := (HS.out.2.2).lt
 have m10 := (HS.out.2.2).1.1
 have m11 := (HS.out.2.2).2.1
 go_wp2_with fail
 clear l0 m00 m01 l1 m10 m11
 refine (D1.out _).mono ?_
 rintro e w1 ⟨rfl, c⟩
 have f := HS.out.1.trans (c.mono HS.out.1.size)
 have t0 := (HS.out.2.1).below c (HS.out.2.1).lt
 have t1 := (HS.out.2.2).below c (HS.out.2.2).lt
 have HS1 := Lib.hid (And.intro f (And.intro t0 t1))
 clear c f t0 t1
 have l0 := (HS1.out.2.1).lt
 have m00 := (HS1.out.2.1).1.1
 have m01 := (HS1.out.2.1).2.1
 have l1 := (HS1.out.2.2).lt
 have m10 := (HS1.out.2.2).1.1
 have m11 := (HS1.out.2.2).2.1
 go_wp2_with fail
 clear l0 m00 m01 l1 m10 m11
 obtain ⟨w2, hw2⟩ : ∃ V, ((w1.alloc (Obj.cells #[Value.bool bq, Value.string sq] 23)).alloc (Obj.cells #[Value.bool br, Value.string sr] 23)) = V := ⟨_, rfl⟩
 obtain ⟨B5, hB5⟩ : ∃ B, w1.heap.size = B := ⟨_, rfl⟩
 obtain ⟨B6, hB6⟩ : ∃ B, B5 + 1 = B := ⟨_, rfl⟩
 have bw2 : Below w1.heap.size w1 w2 := by rw [← hw2]; exact (((Below.refl _ _).alloc (Nat.le_refl _) _).alloc (by simp) _)
 have tB5 : Two B5 (.bool bq) (.string sq) w2 := by
  rw [← hw2, ← hB5]
  have h := two_new w1 (.bool bq) (.string sq) 23
  (try simp only [World.size_alloc] at h)
  exact h.below (B0 := w1.heap.size + 1) ((Below.refl _ _).alloc (by simp) _) (by omega)
 have tB6 : Two B6 (.bool br) (.string sr) w2 := by
  rw [← hw2, ← hB6, ← hB5]
  have h := two_new (w1.alloc (Obj.cells #[Value.bool bq, Value.string sq] 23)) (.bool br) (.string sr) 23
  (try simp only [World.size_alloc] at h)
  exact h
 have hszw2 : w1.heap.size ≤ B5 := by omega
 rw [hw2, hB5, hB6]
 have f := HS1.out.1.trans (bw2.mono HS1.out.1.size)
 have t0 := (HS1.out.2.1).below bw2 (HS1.out.2.1).lt
 have t1 := (HS1.out.2.2).below bw2 (HS1.out.2.2).lt
 have ne2_0 : B5 ≠ w.heap.size := by have := (HS1.out.2.1).lt; omega
 have en2_0 : w.heap.size ≠ B5 := fun e => ne2_0 e.symm
 have ne3_0 : B6 ≠ w.heap.size := by have := (HS1.out.2.1).lt; omega
 have en3_0 : w.heap.size ≠ B6 := fun e => ne3_0 e.symm
 have ne2_1 : B5 ≠ w.heap.size + 1 := by have := (HS1.out.2.2).lt; omega
 have en2_1 : w.heap.size + 1 ≠ B5 := fun e => ne2_1 e.symm
 have ne3_1 : B6 ≠ w.heap.size + 1 := by have := (HS1.out.2.2).lt; omega
 have en3_1 : w.heap.size + 1 ≠ B6 := fun e => ne3_1 e.symm
 have ne3_2 : B6 ≠ B5 := by omega
 have en3_2 : B5 ≠ B6 := by omega
 have geB5 : w.heap.size ≤ B5 := by have := HS1.out.1.size; omega
 have geB6 : w.heap.size ≤ B6 := by have := HS1.out.1.size; omega
 have HS2 := Lib.hid (And.intro f (And.intro t0 (And.intro t1 (And.intro tB5 tB6))))
 clear f hw2 bw2 hszw2 t0 t1 tB5 tB6 hB6 hB5
 refine (D2.out _).mono ?_
 rintro e w3 ⟨rfl, c⟩
 have f := HS2.out.1.trans (c.mono HS2.out.1.size)
 have t0 := (HS2.out.2.1).below c (HS2.out.2.1).lt
 have t1 := (HS2.out.2.2.1).below c (HS2.out.2.2.1).lt
 have t2 := (HS2.out.2.2.2.1).below c (HS2.out.2.2.2.1).lt
 have t3 := (HS2.out.2.2.2.2).below c (HS2.out.2.2.2.2).lt
 have HS3 := Lib.hid (And.intro f (And.intro t0 (And.intro t1 (And.intro t2 t3))))
 clear c f t0 t1 t2 t3
 have l0 := (HS3.out.2.1).lt
 have m00 := (HS3.out.2.1).1.1
 have m01 := (HS3.out.2.1).2.1
 have l1 := (HS3.out.2.2.1).lt
 have m10 := (HS3.out.2.2.1).1.1
 have m11 := (HS3.out.2.2.1).2.1
 have l2 := (HS3.out.2.2.2.1).lt
 have m20 := (HS3.out.2.2.2.1).1.1
 have m21 := (HS3.out.2.2.2.1).2.1
 have l3 := (HS3.out.2.2.2.2).lt
 have m30 := (HS3.out.2.2.2.2).1.1
 have m31 := (HS3.out.2.2.2.2).2.1
 go_wp2_with fail
 clear l0 m00 m01 l1 m10 m11 l2 m20 m21 l3 m30 m31
 obtain ⟨w4, hw4⟩ : ∃ V, ((w3.alloc (Obj.cells #[Value.bool bq, Value.string sq] 23)).alloc (Obj.cells #[Value.bool br, Value.string sr] 23)) = V := ⟨_, rfl⟩
 obtain ⟨B8, hB8⟩ : ∃ B, w3.heap.size = B := ⟨_, rfl⟩
 obtain ⟨B9, hB9⟩ : ∃ B, B8 + 1 = B := ⟨_, rfl⟩
 have bw4 : Below w3.heap.size w3 w4 := by rw [← hw4]; exact (((Below.refl _ _).alloc (Nat.le_refl _) _).alloc (by simp) _)
 have tB8 : Two B8 (.bool bq) (.string sq) w4 := by
  rw [← hw4, ← hB8]
  have h := two_new w3 (.bool bq) (.string sq) 23
  (try simp only [World.size_alloc] at h)
  exact h.below (B0 := w3.heap.size + 1) ((Below.refl _ _).alloc (by simp) _) (by omega)
 have tB9 : Two B9 (.bool br) (.string sr) w4 := by
  rw [← hw4, ← hB9, ← hB8]
  have h := two_new (w3.alloc (Obj.cells #[Value.bool bq, Value.string sq] 23)) (.bool br) (.string sr) 23
  (try simp only [World.size_alloc] at h)
  exact h
 have hszw4 : w3.heap.size ≤ B8 := by omega
 rw [hw4, hB8, hB9]
 have f := HS3.out.1.trans (bw4.mono HS3.out.1.size)
 have t0 := (HS3.out.2.1).below bw4 (HS3.out.2.1).lt
 have t1 := (HS3.out.2.2.1).below bw4 (HS3.out.2.2.1).lt
 have t2 := (HS3.out.2.2.2.1).below bw4 (HS3.out.2.2.2.1).lt
 have t3 := (HS3.out.2.2.2.2).below bw4 (HS3.out.2.2.2.2).lt
 have ne4_0 : B8 ≠ w.heap.size := by have := (HS3.out.2.1).lt; omega
 have en4_0 : w.heap.size ≠ B8 := fun e => ne4_0 e.symm
 have ne5_0 : B9 ≠ w.heap.size := by have := (HS3.out.2.1).lt; omega
 have en5_0 : w.heap.size ≠ B9 := fun e => ne5_0 e.symm
 have ne4_1 : B8 ≠ w.heap.size + 1 := by have := (HS3.out.2.2.1).lt; omega
 have en4_1 : w.heap.size + 1 ≠ B8 := fun e => ne4_1 e.symm
 have ne5_1 : B9 ≠ w.heap.size + 1 := by have := (HS3.out.2.2.1).lt; omega
 have en5_1 : w.heap.size + 1 ≠ B9 := fun e => ne5_1 e.symm
 have ne4_2 : B8 ≠ B5 := by have := (HS3.out.2.2.2.1).lt; omega
 have en4_2 : B5 ≠ B8 := fun e => ne4_2 e.symm
 have ne5_2 : B9 ≠ B5 := by have := (HS3.out.2.2.2.1).lt; omega
 have en5_2 : B5 ≠ B9 := fun e => ne5_2 e.symm
 have ne4_3 : B8 ≠ B6 := by have := (HS3.out.2.2.2.2).lt; omega
 have en4_3 : B6 ≠ B8 := fun e => ne4_3 e.symm
 have ne5_3 : B9 ≠ B6 := by have := (HS3.out.2.2.2.2).lt; omega
 have en5_3 : B6 ≠ B9 := fun e => ne5_3 e.symm
 have ne5_4 : B9 ≠ B8 := by omega
 have en5_4 : B8 ≠ B9 := by omega
 have geB8 : w.heap.size ≤ B8 := by have := HS3.out.1.size; omega
 have geB9 : w.heap.size ≤ B9 := by have := HS3.out.1.size; omega
 have HS4 := Lib.hid (And.intro f (And.intro t0 (And.intro t1 (And.intro t2 (And.intro t3 (And.intro tB8 tB9))))))
 clear f hw4 bw4 hszw4 t0 t1 t2 t3 tB8 tB9 hB9 hB8
 refine (T1.out _).mono ?_
 rintro e w5 ⟨rfl, c⟩
 have f := HS4.out.1.trans (c.mono HS4.out.1.size)
 have t0 := (HS4.out.2.1).below c (HS4.out.2.1).lt
 have t1 := (HS4.out.2.2.1).below c (HS4.out.2.2.1).lt
 have t2 := (HS4.out.2.2.2.1).below c (HS4.out.2.2.2.1).lt
 have t3 := (HS4.out.2.2.2.2.1).below c (HS4.out.2.2.2.2.1).lt
 have t4 := (HS4.out.2.2.2.2.2.1).below c (HS4.out.2.2.2.2.2.1).lt
 have t5 := (HS4.out.2.2.2.2.2.2).below c (HS4.out.2.2.2.2.2.2).lt
 have HS5 := Lib.hid (And.intro f (And.intro t0 (And.intro t1 (And.intro t2 (And.intro t3 (And.intro t4 t5))))))
 clear c f t0 t1 t2 t3 t4 t5
 have l0 := (HS5.out.2.1).lt
 have m00 := (HS5.out.2.1).1.1
 have m01 := (HS5.out.2.1).2.1
 have l1 := (HS5.out.2.2.1).lt
 have m10 := (HS5.out.2.2.1).1.1
 have m11 := (HS5.out.2.2.1).2.1
 have l2 := (HS5.out.2.2.2.1).lt
 have m20 := (HS5.out.2.2.2.1).1.1
 have m21 := (HS5.out.2.2.2.1).2.1
 have l3 := (HS5.out.2.2.2.2.1).lt
 have m30 := (HS5.out.2.2.2.2.1).1.1
 have m31 := (HS5.out.2.2.2.2.1).2.1
 have l4 := (HS5.out.2.2.2.2.2.1).lt
 have m40 := (HS5.out.2.2.2.2.2.1).1.1
 have m41 := (HS5.out.2.2.2.2.2.1).2.1
 have l5 := (HS5.out.2.2.2.2.2.2).lt
 have m50 := (HS5.out.2.2.2.2.2.2).1.1
 have m51 := (HS5.out.2.2.2.2.2.2).2.1
 go_wp2_with fail
 clear l0 m00 m01 l1 m10 m11 l2 m20 m21 l3 m30 m31 l4 m40 m41 l5 m50 m51
 obtain ⟨w6, hw6⟩ : ∃ V, (w5.alloc (Obj.cells #[Value.bool bt, Value.string st] 23)) = V := ⟨_, rfl⟩
 obtain ⟨B11, hB11⟩ : ∃ B, w5.heap.size = B := ⟨_, rfl⟩
 have bw6 : Below w5.heap.size w5 w6 := by rw [← hw6]; exact ((Below.refl _ _).alloc (Nat.le_refl _) _)
 have tB11 : Two B11 (.bool bt) (.string st) w6 := by
  rw [← hw6, ← hB11]
  have h := two_new w5 (.bool bt) (.string st) 23
  (try simp only [World.size_alloc] at h)
  exact h
 have hszw6 : w5.heap.size ≤ B11 := by omega
 rw [hw6, hB11]
 have f := HS5.out.1.trans (bw6.mono HS5.out.1.size)
 have t0 := (HS5.out.2.1).below bw6 (HS5.out.2.1).lt
 have t1 := (HS5.out.2.2.1).below bw6 (HS5.out.2.2.1).lt
 have t2 := (HS5.out.2.2.2.1).below bw6 (HS5.out.2.2.2.1).lt
 have t3 := (HS5.out.2.2.2.2.1).below bw6 (HS5.out.2.2.2.2.1).lt
 have t4 := (HS5.out.2.2.2.2.2.1).below bw6 (HS5.out.2.2.2.2.2.1).lt
 have t5 := (HS5.out.2.2.2.2.2.2).below bw6 (HS5.out.2.2.2.2.2.2).lt
 have ne6_0 : B11 ≠ w.heap.size := by have := (HS5.out.2.1).lt; omega
 have en6_0 : w.heap.size ≠ B11 := fun e => ne6_0 e.symm
 have ne6_1 : B11 ≠ w.heap.size + 1 := by have := (HS5.out.2.2.1).lt; omega
 have en6_1 : w.heap.size + 1 ≠ B11 := fun e => ne6_1 e.symm
 have ne6_2 : B11 ≠ B5 := by have := (HS5.out.2.2.2.1).lt; omega
 have en6_2 : B5 ≠ B11 := fun e => ne6_2 e.symm
 have ne6_3 : B11 ≠ B6 := by have := (HS5.out.2.2.2.2.1).lt; omega
 have en6_3 : B6 ≠ B11 := fun e => ne6_3 e.symm
 have ne6_4 : B11 ≠ B8 := by have := (HS5.out.2.2.2.2.2.1).lt; omega
 have en6_4 : B8 ≠ B11 := fun e => ne6_4 e.symm
 have ne6_5 : B11 ≠ B9 := by have := (HS5.out.2.2.2.2.2.2).lt; omega
 have en6_5 : B9 ≠ B11 := fun e => ne6_5 e.symm
 have geB11 : w.heap.size ≤ B11 := by have := HS5.out.1.size; omega
 have HS6 := Lib.hid (And.intro f (And.intro t0 (And.intro t1 (And.intro t2 (And.intro t3 (And.intro t4 (And.intro t5 tB11)))))))
 clear f hw6 bw6 hszw6 t0 t1 t2 t3 t4 t5 tB11 hB11
 refine (T2.out _).mono ?_
 rintro e w7 ⟨rfl, c⟩
 have f := HS6.out.1.trans (c.mono HS6.out.1.size)
 have t0 := (HS6.out.2.1).below c (HS6.out.2.1).lt
 have t1 := (HS6.out.2.2.1).below c (HS6.out.2.2.1).lt
 have t2 := (HS6.out.2.2.2.1).below c (HS6.out.2.2.2.1).lt
 have t3 := (HS6.out.2.2.2.2.1).below c (HS6.out.2.2.2.2.1).lt
 have t4 := (HS6.out.2.2.2.2.2.1).below c (HS6.out.2.2.2.2.2.1).lt
 have t5 := (HS6.out.2.2.2.2.2.2.1).below c (HS6.out.2.2.2.2.2.2.1).lt
 have t6 := (HS6.out.2.2.2.2.2.2.2).below c (HS6.out.2.2.2.2.2.2.2).lt
 have HS7 := Lib.hid (And.intro f (And.intro t0 (And.intro t1 (And.intro t2 (And.intro t3 (And.intro t4 (And.intro t5 t6)))))))
 clear c f t0 t1 t2 t3 t4 t5 t6
 have l0 := (HS7.out.2.1).lt
 have m00 := (HS7.out.2.1).1.1
 have m01 := (HS7.out.2.1).2.1
 have l1 := (HS7.out.2.2.1).lt
 have m10 := (HS7.out.2.2.1).1.1
 have m11 := (HS7.out.2.2.1).2.1
 have l2 := (HS7.out.2.2.2.1).lt
 have m20 := (HS7.out.2.2.2.1).1.1
 have m21 := (HS7.out.2.2.2.1).2.1
 have l3 := (HS7.out.2.2.2.2.1).lt
 have m30 := (HS7.out.2.2.2.2.1).1.1
 have m31 := (HS7.out.2.2.2.2.1).2.1
 have l4 := (HS7.out.2.2.2.2.2.1).lt
 have m40 := (HS7.out.2.2.2.2.2.1).1.1
 have m41 := (HS7.out.2.2.2.2.2.1).2.1
 have l5 := (HS7.out.2.2.2.2.2.2.1).lt
 have m50 := (HS7.out.2.2.2.2.2.2.1).1.1
 have m51 := (HS7.out.2.2.2.2.2.2.1).2.1
 have l6 := (HS7.out.2.2.2.2.2.2.2).lt
 have m60 := (HS7.out.2.2.2.2.2.2.2).1.1
 have m61 := (HS7.out.2.2.2.2.2.2.2).2.1
 go_wp2_with fail
 clear l0 m00 m01 l1 m10 m11 l2 m20 m21 l3 m30 m31 l4 m40 m41 l5 m50 m51 l6 m60 m61
 obtain ⟨w8, hw8⟩ : ∃ V, (w7.alloc (Obj.cells #[Value.bool bt, Value.string st] 23)) = V := ⟨_, rfl⟩
 obtain ⟨B14, hB14⟩ : ∃ B, w7.heap.size = B := ⟨_, rfl⟩
 have bw8 : Below w7.heap.size w7 w8 := by rw [← hw8]; exact ((Below.refl _ _).alloc (Nat.le_refl _) _)
 have tB14 : Two B14 (.bool bt) (.string st) w8 := by
  rw [← hw8, ← hB14]
  have h := two_new w7 (.bool bt) (.string st) 23
  (try simp only [World.size_alloc] at h)
  exact h
 have hszw8 : w7.heap.size ≤ B14 := by omega
 rw [hw8, hB14]
 have f := HS7.out.1.trans (bw8.mono HS7.out.1.size)
 have t0 := (HS7.out.2.1).below bw8 (HS7.out.2.1).lt
 have t1 := (HS7.out.2.2.1).below bw8 (HS7.out.2.2.1).lt
 have t2 := (HS7.out.2.2.2.1).below bw8 (HS7.out.2.2.2.1).lt
 have t3 := (HS7.out.2.2.2.2.1).below bw8 (HS7.out.2.2.2.2.1).lt
 have t4 := (HS7.out.2.2.2.2.2.1).below bw8 (HS7.out.2.2.2.2.2.1).lt
 have t5 := (HS7.out.2.2.2.2.2.2.1).below bw8 (HS7.out.2.2.2.2.2.2.1).lt
 have t6 := (HS7.out.2.2.2.2.2.2.2).below bw8 (HS7.out.2.2.2.2.2.2.2).lt
 have ne7_0 : B14 ≠ w.heap.size := by have := (HS7.out.2.1).lt; omega
 have en7_0 : w.heap.size ≠ B14 := fun e => ne7_0 e.symm
 have ne7_1 : B14 ≠ w.heap.size + 1 := by have := (HS7.out.2.2.1).lt; omega
 have en7_1 : w.heap.size + 1 ≠ B14 := fun e => ne7_1 e.symm
 have ne7_2 : B14 ≠ B5 := by have := (HS7.out.2.2.2.1).lt; omega
 have en7_2 : B5 ≠ B14 := fun e => ne7_2 e.symm
 have ne7_3 : B14 ≠ B6 := by have := (HS7.out.2.2.2.2.1).lt; omega
 have en7_3 : B6 ≠ B14 := fun e => ne7_3 e.symm
 have ne7_4 : B14 ≠ B8 := by have := (HS7.out.2.2.2.2.2.1).lt; omega
 have en7_4 : B8 ≠ B14 := fun e => ne7_4 e.symm
 have ne7_5 : B14 ≠ B9 := by have := (HS7.out.2.2.2.2.2.2.1).lt; omega
 have en7_5 : B9 ≠ B14 := fun e => ne7_5 e.symm
 have ne7_6 : B14 ≠ B11 := by have := (HS7.out.2.2.2.2.2.2.2).lt; omega
 have en7_6 : B11 ≠ B14 := fun e => ne7_6 e.symm
 have geB14 : w.heap.size ≤ B14 := by have := HS7.out.1.size; omega
 have HS8 := Lib.hid (And.intro f (And.intro t0 (And.intro t1 (And.intro t2 (And.intro t3 (And.intro t4 (And.intro t5 (And.intro t6 tB14))))))))
 clear f hw8 bw8 hszw8 t0 t1 t2 t3 t4 t5 t6 tB14 hB14
 have l0 := (HS8.out.2.1).lt
 have m00 := (HS8.out.2.1).1.1
 have m01 := (HS8.out.2.1).2.1
 have l1 := (HS8.out.2.2.1).lt
 have m10 := (HS8.out.2.2.1).1.1
 have m11 := (HS8.out.2.2.1).2.1
 have l2 := (HS8.out.2.2.2.1).lt
 have m20 := (HS8.out.2.2.2.1).1.1
 have m21 := (HS8.out.2.2.2.1).2.1
 have l3 := (HS8.out.2.2.2.2.1).lt
 have m30 := (HS8.out.2.2.2.2.1).1.1
 have m31 := (HS8.out.2.2.2.2.1).2.1
 have l4 := (HS8.out.2.2.2.2.2.1).lt
 have m40 := (HS8.out.2.2.2.2.2.1).1.1
 have m41 := (HS8.out.2.2.2.2.2.1).2.1
 have l5 := (HS8.out.2.2.2.2.2.2.1).lt
 have m50 := (HS8.out.2.2.2.2.2.2.1).1.1
 have m51 := (HS8.out.2.2.2.2.2.2.1).2.1
 have l6 := (HS8.out.2.2.2.2.2.2.2.1).lt
 have m60 := (HS8.out.2.2.2.2.2.2.2.1).1.1
 have m61 := (HS8.out.2.2.2.2.2.2.2.1).2.1
 have l7 := (HS8.out.2.2.2.2.2.2.2.2).lt
 have m70 := (HS8.out.2.2.2.2.2.2.2.2).1.1
 have m71 := (HS8.out.2.2.2.2.2.2.2.2).2.1
 have HTV := Lib.hid (tab_below HT.out HS8.out.1.drew)
 have tok1 : True := trivial
 have tok2 : True := trivial
 have tok3 : True := trivial
 go_region_held3 (fun w' => ∀ (a o : Nat), a < w8.heap.size → w'.cell? ⟨a, o, none⟩ = w8.cell? ⟨a, o, none⟩) (first | assumption | (intro _ _ _; rfl))
  (first | (go_at_call 38; have _t := tok1; clear tok1; refine (G1.out _).mono ?_; rintro e u1 ⟨rfl, d1⟩; have E1 := Lib.hid (d1); have kS1 : ∀ (a o : Nat), a < w8.heap.size → u1.cell? ⟨a, o, none⟩ = w8.cell? ⟨a, o, none⟩ := fun a o h => E1.out.cell (p := ⟨a, o, none⟩) h; have hz1 : w8.heap.size ≤ u1.heap.size := E1.out.size; clear d1) | (go_at_call 39; have _t := tok2; clear tok2; refine (G2.out _).mono ?_; rintro e u2 ⟨rfl, d2⟩; have E2 := Lib.hid (E1.out.trans (d2.mono E1.out.size)); have kS2 : ∀ (a o : Nat), a < w8.heap.size → u2.cell? ⟨a, o, none⟩ = w8.cell? ⟨a, o, none⟩ := fun a o h => E2.out.cell (p := ⟨a, o, none⟩) h; have hz2 : w8.heap.size ≤ u2.heap.size := E2.out.size; clear d2) | (go_at_call 15; have _t := tok3; clear tok3; refine (awake_any _ (tab_below HTV.out E2.out)).mono ?_; rintro e u3 ⟨rfl, d3⟩; have E3 := Lib.hid (E2.out.trans (d3.mono E2.out.size)); have kS3 : ∀ (a o : Nat), a < w8.heap.size → u3.cell? ⟨a, o, none⟩ = w8.cell? ⟨a, o, none⟩ := fun a o h => E3.out.cell (p := ⟨a, o, none⟩) h; have hz3 : w8.heap.size ≤ u3.heap.size := E3.out.size; clear d3))
 all_goals (go_wp2_with fail)
 go_ret
 exact ⟨rfl, HS8.out.1.trans ((((Below.refl w8.heap.size w8).drew).trans E3.out).mono HS8.out.1.size)⟩

theorem quot_any (na nb : Bool) (sa sb : ByteArray) (w : World) (htab : Tab w) (ha : sa.size ≤ maxLen) (hb : sb.size ≤ maxLen) :
  Calls Tryz.prog 5 #[.agg #[.bool na, .string sa], .agg #[.bool nb, .string sb]] w fun e w' => e = .returned (.bool true) ∧ Below w.heap.size w w' := by
 cases hg : (([(na, sa), (nb, sb)] : List (Bool × ByteArray)).any fun p => decide ((60 : Int) < (p.2.size : Int)))
 ·have hsm := small_size hg
  have pa : sa.size ≤ 60 := hsm (na, sa) (by simp)
  have pb : sb.size ≤ 60 := hsm (nb, sb) (by simp)
  obtain ⟨x, hx⟩ : ∃ x, ival na sa = x := ⟨_, rfl⟩
  obtain ⟨y, hy⟩ : ∃ y, ival nb sb = y := ⟨_, rfl⟩
  have vx : Val na sa x := ⟨hx, Nat.le_trans pa (by omega)⟩
  have vy : Val nb sb y := ⟨hy, Nat.le_trans pb (by omega)⟩
  have nG := nam_nat (Nat.gcd x.natAbs y.natAbs)
  have gA : beVal sa.data.toList = x.natAbs := by rw [← hx, ival_abs]
  have gB : beVal sb.data.toList = y.natAbs := by rw [← hy, ival_abs]
  have hG1 := fun W => gcd_val2 vx vy nG W
  have hG2 := fun W => rgcd_any na nb sa sb W (by omega) (by omega)
  rw [gA, gB] at hG2
  have z0 : Nam false ⟨#[]⟩ 0 := ⟨rfl, rfl⟩
  have fin : ∀ {bq br : Bool} {sq sr : ByteArray} {dn : Int}, (∀ W : World, Calls Tryz.prog 34 #[.agg #[.bool na, .string sa], .agg #[.bool nb, .string sb]] W fun e w' => e = .returned (.tuple #[.agg #[.bool bq, .string sq], .agg #[.bool br, .string sr], .int .i64 dn]) ∧ Below W.heap.size W w') → (∀ W : World, Calls Tryz.prog 35 #[.agg #[.bool na, .string sa], .agg #[.bool nb, .string sb]] W fun e w' => e = .returned (.tuple #[.agg #[.bool bq, .string sq], .agg #[.bool br, .string sr], .int .i64 dn]) ∧ Below W.heap.size W w') → eqI bq sq bq sq = true → eqI br sr br sr = true → Calls Tryz.prog 5 #[.agg #[.bool na, .string sa], .agg #[.bool nb, .string sb]] w fun e w' => e = .returned (.bool true) ∧ Below w.heap.size w w' := fun hD1 hD2 e1 e2 => by
   rcases Decidable.em (x < 0) with h | h
   ·exact quot_walk na nb sa sb w htab ha hb hg hD1 hD2 (fun W => rootNeg_val vx h W) (fun W => rroot_neg na sa W hx h) hG1 hG2 e1 e2 z0.eq nG.eq
   ·obtain ⟨r, hr⟩ := isRoot_ex x.natAbs
    have nr := nam_nat r
    have hxn : x = (x.natAbs : Int) := by omega
    exact quot_walk na nb sa sb w htab ha hb hg hD1 hD2 (fun W => root_val vx (by omega) (by omega) hr nr W) (fun W => rroot_any na sa W hx (by omega) hxn hr) hG1 hG2 e1 e2 nr.eq nG.eq
  by_cases hy0 : y = 0
  ·exact fin (fun W => div0_val2 na nb vx.small vy.small (by rw [gB, hy0]; rfl) W) (fun W => rdiv_zero na nb sa sb W (by rw [hy, hy0])) z0.eq z0.eq
  ·obtain ⟨q, r, hd⟩ := isDiv_ex x y hy0
   obtain ⟨bq, sq, nq⟩ := nam_ex q
   obtain ⟨br, sr, nr⟩ := nam_ex r
   exact fin (fun W => divAll_val vx vy hy0 hd nq nr W) (fun W => rdiv_val na nb sa sb W (by omega) (by omega) (by rw [hy]; exact hy0) (by rw [hx, hy]; exact hd) nq nr) nq.eq nr.eq
 ·exact quot_great na nb sa sb w htab ha hb hg
end Go.Proofs.YtajollhpimfefaaGreatDoor
