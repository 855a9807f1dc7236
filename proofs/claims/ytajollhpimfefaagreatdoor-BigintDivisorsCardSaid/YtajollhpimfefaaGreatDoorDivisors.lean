/- The walk of narrowslaw01.BigintDivisors. -/
import Derived.Test.YtajollhpimfefaaGreatDoorGcd
import Derived.Test.YtajollhpimfefaaGreatDoorLawKit
import Derived.Outline
import Derived.Handy
namespace Go.Proofs.YtajollhpimfefaaGreatDoor
open Go.RowKit Go.Shelf

theorem gcd_val {x y z : Int} {bx by' bz : Bool} {sx sy sz : ByteArray} (hx : Val bx sx x) (hy : Val by' sy y) (he : ((Nat.gcd x.natAbs y.natAbs : Nat) : Int) = z) (hz : Nam bz sz z) (W : World) :
    Calls Tryz.prog 38 #[.agg #[.bool bx, .string sx], .agg #[.bool by', .string sy]] W fun e w' => e = .returned (.agg #[.bool bz, .string sz]) ∧ Below W.heap.size W w' := by
  have h := gcdInt_any bx by' sx sy W hx.small hy.small
  rw [hx.val, hy.val, he] at h
  obtain ⟨rfl, rfl⟩ := hz
  exact h
theorem gcd_parts (x y : Int) (g : Nat) (hg : Nat.gcd x.natAbs y.natAbs = g) (h0 : 0 < g) : ∃ p q : Int, IsDiv x g p 0 ∧ IsDiv y g q 0 ∧ Nat.gcd p.natAbs q.natAbs = 1 ∧ p.natAbs ≤ x.natAbs ∧ q.natAbs ≤ y.natAbs := by
  have d1 : (g : Int) ∣ x := Int.ofNat_dvd_left.2 (by rw [← hg]; exact Nat.gcd_dvd_left _ _)
  have d2 : (g : Int) ∣ y := Int.ofNat_dvd_left.2 (by rw [← hg]; exact Nat.gcd_dvd_right _ _)
  obtain ⟨p, hp⟩ := d1
  obtain ⟨q, hq⟩ := d2
  have e1 : x.natAbs = g * p.natAbs := by rw [hp, Int.natAbs_mul, Int.natAbs_natCast]
  have e2 : y.natAbs = g * q.natAbs := by rw [hq, Int.natAbs_mul, Int.natAbs_natCast]
  refine ⟨p, q, ⟨by omega, .inl (by omega)⟩, ⟨by omega, .inl (by omega)⟩, ?_, ?_, ?_⟩
  · rw [e1, e2, Nat.gcd_mul_left] at hg
    exact Nat.eq_of_mul_eq_mul_left h0 (by omega)
  · rw [e1]; exact Nat.le_mul_of_pos_left _ h0
  · rw [e2]; exact Nat.le_mul_of_pos_left _ h0
theorem gcd_times (x y z : Int) (g : Nat) (hg : Nat.gcd x.natAbs y.natAbs = g) : ((Nat.gcd (x * z).natAbs (y * z).natAbs : Nat) : Int) = (g : Int) * (z.natAbs : Int) := by
  rw [Int.natAbs_mul, Int.natAbs_mul, Nat.gcd_mul_right, hg, Int.natCast_mul]

set_option maxHeartbeats 4000000 in
set_option maxRecDepth 100000 in
theorem divisors_great (na nb nc : Bool) (sa sb sc : ByteArray) (w : World) (htab : Tab w) (ha : sa.size ≤ maxLen) (hb : sb.size ≤ maxLen) (hc : sc.size ≤ maxLen)
    (hg : (([(na, sa), (nb, sb), (nc, sc)] : List (Bool × ByteArray)).any fun p => decide ((60 : Int) < (p.2.size : Int))) = true) :
    Calls Tryz.prog 10 #[.agg #[.bool na, .string sa], .agg #[.bool nb, .string sb], .agg #[.bool nc, .string sc]] w fun e w' => e = .returned (.bool true) ∧ Below w.heap.size w w' := by
  unfold maxLen at ha hb hc
  have HG := Lib.hid hg
  have HT := Lib.hid htab
  have hss : ∀ p ∈ ([(na, sa), (nb, sb), (nc, sc)] : List (Bool × ByteArray)), p.2.size ≤ 9223372036854775807 := by
    intro p hp
    simp at hp
    rcases hp with rfl | rfl | rfl <;> simp <;> omega
  have HSS := Lib.hid hss
  clear htab hg hss
  go_enter Tryz.func10, Tryz.ntmps10
  go_wp2_with fail
  obtain ⟨W0, hW0⟩ : ∃ W0, (((w.alloc (Obj.cells #[Value.bool na, Value.string sa] 23)).alloc (Obj.cells #[Value.bool nb, Value.string sb] 23)).alloc (Obj.cells #[Value.bool nc, Value.string sc] 23)).alloc (Obj.cells #[Value.bool na, Value.string sa, Value.bool nb, Value.string sb, Value.bool nc, Value.string sc] 23) = W0 := ⟨_, rfl⟩
  have z0 : W0.heap.size = w.heap.size + 1 + 1 + 1 + 1 := by rw [← hW0]; simp
  have ta : Two (w.heap.size) (.bool na) (.string sa) W0 := by
    rw [← hW0]
    have h := two_new w (.bool na) (.string sa) 23
    (try simp only [World.size_alloc] at h)
    exact h.below (B0 := w.heap.size + 1) ((((Below.refl _ _).alloc (by simp) _).alloc (by simp) _).alloc (by simp) _) (by omega)
  have tb : Two (w.heap.size + 1) (.bool nb) (.string sb) W0 := by
    rw [← hW0]
    have h := two_new (w.alloc (Obj.cells #[Value.bool na, Value.string sa] 23)) (.bool nb) (.string sb) 23
    (try simp only [World.size_alloc] at h)
    exact h.below (B0 := w.heap.size + 1 + 1) (((Below.refl _ _).alloc (by simp) _).alloc (by simp) _) (by omega)
  have tc : Two (w.heap.size + 1 + 1) (.bool nc) (.string sc) W0 := by
    rw [← hW0]
    have h := two_new ((w.alloc (Obj.cells #[Value.bool na, Value.string sa] 23)).alloc (Obj.cells #[Value.bool nb, Value.string sb] 23)) (.bool nc) (.string sc) 23
    (try simp only [World.size_alloc] at h)
    exact h.below (B0 := w.heap.size + 1 + 1 + 1) ((Below.refl _ _).alloc (by simp) _) (by omega)
  have hrow : RowI W0 (w.heap.size + 1 + 1 + 1) [(na, sa), (nb, sb), (nc, sc)] := by
    rw [← hW0]
    have h := rowI_3 (((w.alloc (Obj.cells #[Value.bool na, Value.string sa] 23)).alloc (Obj.cells #[Value.bool nb, Value.string sb] 23)).alloc (Obj.cells #[Value.bool nc, Value.string sc] 23)) na nb nc sa sb sc 23
    simp only [World.size_alloc] at h
    exact h
  have b0 : Below w.heap.size w W0 := by
    rw [← hW0]
    exact (((((Below.refl _ _).alloc (Nat.le_refl _) _).alloc (by simp) _).alloc (by simp; omega) _).alloc (by simp; omega) _)
  rw [hW0]
  have hgr := great_any (w.heap.size + 1 + 1 + 1) [(na, sa), (nb, sb), (nc, sc)] W0 hrow (by omega) (by simp) HSS.out
  rw [HG.out] at hgr
  have HGR := Lib.hid hgr
  have H0 := Lib.hid (And.intro z0 (And.intro b0 (And.intro ta (And.intro tb (And.intro tc trivial)))))
  clear hW0 z0 hrow b0 hgr ta tb tc
  refine HGR.out.mono ?_
  rintro e wG ⟨rfl, cG⟩
  have bG : Below w.heap.size w wG := H0.out.2.1.trans (cG.mono H0.out.2.1.size)
  have haw := awake_any wG (tab_of HT.out bG)
  have HAW := Lib.hid haw
  have HB := Lib.hid bG
  clear cG bG haw
  go_wp2_with fail
  refine HAW.out.mono ?_
  rintro e wA ⟨rfl, cA⟩
  go_wp2_with fail
  go_ret
  exact ⟨rfl, HB.out.trans (cA.mono HB.out.size)⟩

set_option maxHeartbeats 4000000 in
set_option maxRecDepth 100000 in
theorem divisors_nz (na nb nc : Bool) (sa sb sc : ByteArray) (w : World) (htab : Tab w) (ha : sa.size ≤ maxLen) (hb : sb.size ≤ maxLen) (hc : sc.size ≤ maxLen)
    (hg : (([(na, sa), (nb, sb), (nc, sc)] : List (Bool × ByteArray)).any fun p => decide ((60 : Int) < (p.2.size : Int))) = false) (hs : ival nc sc < 0) (hgz : Nat.gcd (ival na sa).natAbs (ival nb sb).natAbs = 0) :
    Calls Tryz.prog 10 #[.agg #[.bool na, .string sa], .agg #[.bool nb, .string sb], .agg #[.bool nc, .string sc]] w fun e w' => e = .returned (.bool true) ∧ Below w.heap.size w w' := by
  unfold maxLen at ha hb hc
  have HG := Lib.hid hg
  have HT := Lib.hid htab
  have hss : ∀ p ∈ ([(na, sa), (nb, sb), (nc, sc)] : List (Bool × ByteArray)), p.2.size ≤ 9223372036854775807 := by
    intro p hp
    simp at hp
    rcases hp with rfl | rfl | rfl <;> simp <;> omega
  have HSS := Lib.hid hss
  have HSG := Lib.hid (And.intro hs hgz)
  clear htab hg hss hs hgz
  go_enter Tryz.func10, Tryz.ntmps10
  go_wp2_with fail
  obtain ⟨W0, hW0⟩ : ∃ W0, (((w.alloc (Obj.cells #[Value.bool na, Value.string sa] 23)).alloc (Obj.cells #[Value.bool nb, Value.string sb] 23)).alloc (Obj.cells #[Value.bool nc, Value.string sc] 23)).alloc (Obj.cells #[Value.bool na, Value.string sa, Value.bool nb, Value.string sb, Value.bool nc, Value.string sc] 23) = W0 := ⟨_, rfl⟩
  have z0 : W0.heap.size = w.heap.size + 1 + 1 + 1 + 1 := by rw [← hW0]; simp
  have ta : Two (w.heap.size) (.bool na) (.string sa) W0 := by
    rw [← hW0]
    have h := two_new w (.bool na) (.string sa) 23
    (try simp only [World.size_alloc] at h)
    exact h.below (B0 := w.heap.size + 1) ((((Below.refl _ _).alloc (by simp) _).alloc (by simp) _).alloc (by simp) _) (by omega)
  have tb : Two (w.heap.size + 1) (.bool nb) (.string sb) W0 := by
    rw [← hW0]
    have h := two_new (w.alloc (Obj.cells #[Value.bool na, Value.string sa] 23)) (.bool nb) (.string sb) 23
    (try simp only [World.size_alloc] at h)
    exact h.below (B0 := w.heap.size + 1 + 1) (((Below.refl _ _).alloc (by simp) _).alloc (by simp) _) (by omega)
  have tc : Two (w.heap.size + 1 + 1) (.bool nc) (.string sc) W0 := by
    rw [← hW0]
    have h := two_new ((w.alloc (Obj.cells #[Value.bool na, Value.string sa] 23)).alloc (Obj.cells #[Value.bool nb, Value.string sb] 23)) (.bool nc) (.string sc) 23
    (try simp only [World.size_alloc] at h)
    exact h.below (B0 := w.heap.size + 1 + 1 + 1) ((Below.refl _ _).alloc (by simp) _) (by omega)
  have hrow : RowI W0 (w.heap.size + 1 + 1 + 1) [(na, sa), (nb, sb), (nc, sc)] := by
    rw [← hW0]
    have h := rowI_3 (((w.alloc (Obj.cells #[Value.bool na, Value.string sa] 23)).alloc (Obj.cells #[Value.bool nb, Value.string sb] 23)).alloc (Obj.cells #[Value.bool nc, Value.string sc] 23)) na nb nc sa sb sc 23
    simp only [World.size_alloc] at h
    exact h
  have b0 : Below w.heap.size w W0 := by
    rw [← hW0]
    exact (((((Below.refl _ _).alloc (Nat.le_refl _) _).alloc (by simp) _).alloc (by simp; omega) _).alloc (by simp; omega) _)
  rw [hW0]
  have hgr := great_any (w.heap.size + 1 + 1 + 1) [(na, sa), (nb, sb), (nc, sc)] W0 hrow (by omega) (by simp) HSS.out
  rw [HG.out] at hgr
  have HGR := Lib.hid hgr
  have H0 := Lib.hid (And.intro z0 (And.intro b0 (And.intro ta (And.intro tb (And.intro tc trivial)))))
  clear hW0 z0 hrow b0 hgr ta tb tc
  refine HGR.out.mono ?_
  rintro e wG ⟨rfl, cG⟩
  have bGG : Below w.heap.size w wG := H0.out.2.1.trans (cG.mono H0.out.2.1.size)
  have hsm := small_size HG.out
  have zx : Sz 60 (ival na sa) := Sz.ival na sa 60 (hsm (na, sa) (by simp))
  have px : sa.size ≤ 60 := hsm (na, sa) (by simp)
  obtain ⟨x, hx⟩ : ∃ x, ival na sa = x := ⟨_, rfl⟩
  have vx : Val na sa x := ⟨hx, Nat.le_trans px (by omega)⟩
  rw [hx] at zx
  have zy : Sz 60 (ival nb sb) := Sz.ival nb sb 60 (hsm (nb, sb) (by simp))
  have py : sb.size ≤ 60 := hsm (nb, sb) (by simp)
  obtain ⟨y, hy⟩ : ∃ y, ival nb sb = y := ⟨_, rfl⟩
  have vy : Val nb sb y := ⟨hy, Nat.le_trans py (by omega)⟩
  rw [hy] at zy
  have zz : Sz 60 (ival nc sc) := Sz.ival nc sc 60 (hsm (nc, sc) (by simp))
  have pz : sc.size ≤ 60 := hsm (nc, sc) (by simp)
  obtain ⟨z, hz⟩ : ∃ z, ival nc sc = z := ⟨_, rfl⟩
  have vz : Val nc sc z := ⟨hz, Nat.le_trans pz (by omega)⟩
  rw [hz] at zz
  have tA : Two (w.heap.size) (.bool na) (.string sa) wG := H0.out.2.2.1.below cG H0.out.2.2.1.lt
  have tB : Two (w.heap.size + 1) (.bool nb) (.string sb) wG := H0.out.2.2.2.1.below cG H0.out.2.2.2.1.lt
  have tC : Two (w.heap.size + 1 + 1) (.bool nc) (.string sc) wG := H0.out.2.2.2.2.1.below cG H0.out.2.2.2.2.1.lt
  have hsg := HSG.out
  rw [hx, hy, hz] at hsg
  obtain ⟨hz0, hg0⟩ := hsg
  have v0 : Val false ⟨#[]⟩ 0 := ⟨rfl, Nat.zero_le _⟩
  have m0 : Nam false ⟨#[]⟩ 0 := ⟨rfl, rfl⟩
  obtain ⟨g, hg⟩ : ∃ g, Nat.gcd x.natAbs y.natAbs = g := ⟨_, rfl⟩
  have hg' : Nat.gcd y.natAbs x.natAbs = g := by rw [Nat.gcd_comm]; exact hg
  rw [hg] at hg0
  have zg : Sz 60 (g : Int) := by
    unfold Sz at *
    rw [Int.natAbs_natCast]
    have h1 : g ≤ x.natAbs ∨ g = y.natAbs := by
      rcases Nat.eq_zero_or_pos x.natAbs with h | h
      · right; rw [← hg, h, Nat.gcd_zero_left]
      · left; rw [← hg]; exact Nat.gcd_le_left _ h
    rcases h1 with h | h <;> omega
  obtain ⟨bP, sP, mP⟩ := nam_ex (x * z)
  obtain ⟨bR, sR, mR⟩ := nam_ex (y * z)
  have vP := mP.val (zx.mul zz) (by omega)
  have vR := mR.val (zy.mul zz) (by omega)
  have zn : Sz 60 (z.natAbs : Int) := by unfold Sz at *; rw [Int.natAbs_natCast]; exact zz
  obtain ⟨bE, sE, mE⟩ := nam_ex ((g : Int) * (z.natAbs : Int))
  subst hg0
  have mG : Nam false ⟨#[]⟩ ((0 : Nat) : Int) := ⟨rfl, rfl⟩
  have vG := mG.val zg (by omega)
  obtain ⟨bD, sD, mD⟩ := nam_ex (-z)
  have vD := mD.val zz.neg (by omega)
  have hzn : -z = (z.natAbs : Int) := by omega
  have N1 := Lib.hid (neg_val vz rfl mD)
  have K0 := Lib.hid (cmp_val vz v0 (-1) (cmpZ_lt hz0))
  have R5 := Lib.hid (mul_val vG vD (by rw [hzn]) mE)
  have R1 := Lib.hid (gcd_val vx vy (by rw [hg]) mG)
  have R1b := Lib.hid (gcd_val vy vx (by rw [hg']) mG)
  have R2 := Lib.hid (mul_val vx vz rfl mP)
  have R3 := Lib.hid (mul_val vy vz rfl mR)
  have R4 := Lib.hid (gcd_val vP vR (gcd_times x y z _ hg) mE)
  have q1 := eql_int
  have q2 := neq_int
  have q3 := guard_int
  have e1 : eqI false ⟨#[]⟩ false ⟨#[]⟩ = true := mG.eq
  have e2 : eqI bE sE bE sE = true := mE.eq
  have hxy : x = 0 ∧ y = 0 := by
    have h1 := Nat.eq_zero_of_gcd_eq_zero_left hg
    have h2 := Nat.eq_zero_of_gcd_eq_zero_right hg
    omega
  have K1 := Lib.hid (cmp_val vx v0 0 (cmpZ_eq hxy.1))
  have K2 := Lib.hid (cmp_val vy v0 0 (cmpZ_eq hxy.2))
  have HS := Lib.hid (And.intro bGG (And.intro tA (And.intro tB tC)))
  clear hsm hx hy hz zx zy zz px py pz vx vy vz hz0 v0 m0 hg hg' zg mP mR vP vR zn mE mG vG hzn cG bGG tA tB tC mD vD hxy
  have l0 := (HS.out.2.1).lt
  have m00 := (HS.out.2.1).1.1
  have m01 := (HS.out.2.1).2.1
  have l1 := (HS.out.2.2.1).lt
  have m10 := (HS.out.2.2.1).1.1
  have m11 := (HS.out.2.2.1).2.1
  have l2 := (HS.out.2.2.2).lt
  have m20 := (HS.out.2.2.2).1.1
  have m21 := (HS.out.2.2.2).2.1
  go_wp2_with fail
  clear l0 m00 m01 l1 m10 m11 l2 m20 m21
  obtain ⟨w1, hw1⟩ : ∃ V, (wG.alloc (Obj.cells #[Value.bool false, Value.string ⟨#[]⟩] 23)) = V := ⟨_, rfl⟩
  obtain ⟨B7, hB7⟩ : ∃ B, wG.heap.size = B := ⟨_, rfl⟩
  have bw1 : Below wG.heap.size wG w1 := by rw [← hw1]; exact ((Below.refl _ _).alloc (Nat.le_refl _) _)
  have tB7 : Two B7 (.bool false) (.string ⟨#[]⟩) w1 := by
    rw [← hw1, ← hB7]
    have h := two_new wG (.bool false) (.string ⟨#[]⟩) 23
    (try simp only [World.size_alloc] at h)
    exact h
  have hszw1 : wG.heap.size ≤ B7 := by omega
  rw [hw1, hB7]
  have f := HS.out.1.trans (bw1.mono HS.out.1.size)
  have t0 := (HS.out.2.1).below bw1 (HS.out.2.1).lt
  have t1 := (HS.out.2.2.1).below bw1 (HS.out.2.2.1).lt
  have t2 := (HS.out.2.2.2).below bw1 (HS.out.2.2.2).lt
  have ne3_0 : B7 ≠ w.heap.size := by have := (HS.out.2.1).lt; omega
  have en3_0 : w.heap.size ≠ B7 := fun e => ne3_0 e.symm
  have ne3_1 : B7 ≠ w.heap.size + 1 := by have := (HS.out.2.2.1).lt; omega
  have en3_1 : w.heap.size + 1 ≠ B7 := fun e => ne3_1 e.symm
  have ne3_2 : B7 ≠ w.heap.size + 1 + 1 := by have := (HS.out.2.2.2).lt; omega
  have en3_2 : w.heap.size + 1 + 1 ≠ B7 := fun e => ne3_2 e.symm
  have geB7 : w.heap.size ≤ B7 := by have := HS.out.1.size; omega
  have HS1 := Lib.hid (And.intro f (And.intro t0 (And.intro t1 (And.intro t2 tB7))))
  clear f hw1 bw1 hszw1 t0 t1 t2 tB7 hB7
  refine (R1.out _).mono ?_
  rintro e w2 ⟨rfl, c⟩
  have f := HS1.out.1.trans (c.mono HS1.out.1.size)
  have t0 := (HS1.out.2.1).below c (HS1.out.2.1).lt
  have t1 := (HS1.out.2.2.1).below c (HS1.out.2.2.1).lt
  have t2 := (HS1.out.2.2.2.1).below c (HS1.out.2.2.2.1).lt
  have t3 := (HS1.out.2.2.2.2).below c (HS1.out.2.2.2.2).lt
  have HS2 := Lib.hid (And.intro f (And.intro t0 (And.intro t1 (And.intro t2 t3))))
  clear c f t0 t1 t2 t3
  have l0 := (HS2.out.2.1).lt
  have m00 := (HS2.out.2.1).1.1
  have m01 := (HS2.out.2.1).2.1
  have l1 := (HS2.out.2.2.1).lt
  have m10 := (HS2.out.2.2.1).1.1
  have m11 := (HS2.out.2.2.1).2.1
  have l2 := (HS2.out.2.2.2.1).lt
  have m20 := (HS2.out.2.2.2.1).1.1
  have m21 := (HS2.out.2.2.2.1).2.1
  have l3 := (HS2.out.2.2.2.2).lt
  have m30 := (HS2.out.2.2.2.2).1.1
  have m31 := (HS2.out.2.2.2.2).2.1
  go_wp2_with fail
  clear l0 m00 m01 l1 m10 m11 l2 m20 m21 l3 m30 m31
  obtain ⟨w3, hw3⟩ : ∃ V, ((w2.alloc (Obj.cells #[Value.bool false, Value.string ⟨#[]⟩] 23)).alloc (Obj.cells #[Value.bool nc, Value.string sc] 23)) = V := ⟨_, rfl⟩
  obtain ⟨B8, hB8⟩ : ∃ B, w2.heap.size = B := ⟨_, rfl⟩
  obtain ⟨B9, hB9⟩ : ∃ B, B8 + 1 = B := ⟨_, rfl⟩
  have bw3 : Below w2.heap.size w2 w3 := by rw [← hw3]; exact (((Below.refl _ _).alloc (Nat.le_refl _) _).alloc (by simp) _)
  have tB8 : Two B8 (.bool false) (.string ⟨#[]⟩) w3 := by
    rw [← hw3, ← hB8]
    have h := two_new w2 (.bool false) (.string ⟨#[]⟩) 23
    (try simp only [World.size_alloc] at h)
    exact h.below (B0 := w2.heap.size + 1) ((Below.refl _ _).alloc (by simp) _) (by omega)
  have tB9 : Two B9 (.bool nc) (.string sc) w3 := by
    rw [← hw3, ← hB9, ← hB8]
    have h := two_new (w2.alloc (Obj.cells #[Value.bool false, Value.string ⟨#[]⟩] 23)) (.bool nc) (.string sc) 23
    (try simp only [World.size_alloc] at h)
    exact h
  have hszw3 : w2.heap.size ≤ B8 := by omega
  rw [hw3, hB8, hB9]
  have f := HS2.out.1.trans (bw3.mono HS2.out.1.size)
  have t0 := (HS2.out.2.1).below bw3 (HS2.out.2.1).lt
  have t1 := (HS2.out.2.2.1).below bw3 (HS2.out.2.2.1).lt
  have t2 := (HS2.out.2.2.2.1).below bw3 (HS2.out.2.2.2.1).lt
  have t3 := (HS2.out.2.2.2.2).below bw3 (HS2.out.2.2.2.2).lt
  have ne4_0 : B8 ≠ w.heap.size := by have := (HS2.out.2.1).lt; omega
  have en4_0 : w.heap.size ≠ B8 := fun e => ne4_0 e.symm
  have ne5_0 : B9 ≠ w.heap.size := by have := (HS2.out.2.1).lt; omega
  have en5_0 : w.heap.size ≠ B9 := fun e => ne5_0 e.symm
  have ne4_1 : B8 ≠ w.heap.size + 1 := by have := (HS2.out.2.2.1).lt; omega
  have en4_1 : w.heap.size + 1 ≠ B8 := fun e => ne4_1 e.symm
  have ne5_1 : B9 ≠ w.heap.size + 1 := by have := (HS2.out.2.2.1).lt; omega
  have en5_1 : w.heap.size + 1 ≠ B9 := fun e => ne5_1 e.symm
  have ne4_2 : B8 ≠ w.heap.size + 1 + 1 := by have := (HS2.out.2.2.2.1).lt; omega
  have en4_2 : w.heap.size + 1 + 1 ≠ B8 := fun e => ne4_2 e.symm
  have ne5_2 : B9 ≠ w.heap.size + 1 + 1 := by have := (HS2.out.2.2.2.1).lt; omega
  have en5_2 : w.heap.size + 1 + 1 ≠ B9 := fun e => ne5_2 e.symm
  have ne4_3 : B8 ≠ B7 := by have := (HS2.out.2.2.2.2).lt; omega
  have en4_3 : B7 ≠ B8 := fun e => ne4_3 e.symm
  have ne5_3 : B9 ≠ B7 := by have := (HS2.out.2.2.2.2).lt; omega
  have en5_3 : B7 ≠ B9 := fun e => ne5_3 e.symm
  have ne5_4 : B9 ≠ B8 := by omega
  have en5_4 : B8 ≠ B9 := by omega
  have geB8 : w.heap.size ≤ B8 := by have := HS2.out.1.size; omega
  have geB9 : w.heap.size ≤ B9 := by have := HS2.out.1.size; omega
  have HS3 := Lib.hid (And.intro f (And.intro t0 (And.intro t1 (And.intro t2 (And.intro t3 (And.intro tB8 tB9))))))
  clear f hw3 bw3 hszw3 t0 t1 t2 t3 tB8 tB9 hB9 hB8
  refine (K0.out _).mono ?_
  rintro e w4 ⟨rfl, c⟩
  have f := HS3.out.1.trans (c.mono HS3.out.1.size)
  have t0 := (HS3.out.2.1).below c (HS3.out.2.1).lt
  have t1 := (HS3.out.2.2.1).below c (HS3.out.2.2.1).lt
  have t2 := (HS3.out.2.2.2.1).below c (HS3.out.2.2.2.1).lt
  have t3 := (HS3.out.2.2.2.2.1).below c (HS3.out.2.2.2.2.1).lt
  have t4 := (HS3.out.2.2.2.2.2.1).below c (HS3.out.2.2.2.2.2.1).lt
  have t5 := (HS3.out.2.2.2.2.2.2).below c (HS3.out.2.2.2.2.2.2).lt
  have HS4 := Lib.hid (And.intro f (And.intro t0 (And.intro t1 (And.intro t2 (And.intro t3 (And.intro t4 t5))))))
  clear c f t0 t1 t2 t3 t4 t5
  have l0 := (HS4.out.2.1).lt
  have m00 := (HS4.out.2.1).1.1
  have m01 := (HS4.out.2.1).2.1
  have l1 := (HS4.out.2.2.1).lt
  have m10 := (HS4.out.2.2.1).1.1
  have m11 := (HS4.out.2.2.1).2.1
  have l2 := (HS4.out.2.2.2.1).lt
  have m20 := (HS4.out.2.2.2.1).1.1
  have m21 := (HS4.out.2.2.2.1).2.1
  have l3 := (HS4.out.2.2.2.2.1).lt
  have m30 := (HS4.out.2.2.2.2.1).1.1
  have m31 := (HS4.out.2.2.2.2.1).2.1
  have l4 := (HS4.out.2.2.2.2.2.1).lt
  have m40 := (HS4.out.2.2.2.2.2.1).1.1
  have m41 := (HS4.out.2.2.2.2.2.1).2.1
  have l5 := (HS4.out.2.2.2.2.2.2).lt
  have m50 := (HS4.out.2.2.2.2.2.2).1.1
  have m51 := (HS4.out.2.2.2.2.2.2).2.1
  go_wp2_with fail
  clear l0 m00 m01 l1 m10 m11 l2 m20 m21 l3 m30 m31 l4 m40 m41 l5 m50 m51
  refine (N1.out _).mono ?_
  rintro e w5 ⟨rfl, c⟩
  have f := HS4.out.1.trans (c.mono HS4.out.1.size)
  have t0 := (HS4.out.2.1).below c (HS4.out.2.1).lt
  have t1 := (HS4.out.2.2.1).below c (HS4.out.2.2.1).lt
  have t2 := (HS4.out.2.2.2.1).below c (HS4.out.2.2.2.1).lt
  have t3 := (HS4.out.2.2.2.2.1).below c (HS4.out.2.2.2.2.1).lt
  have t4 := (HS4.out.2.2.2.2.2.1).below c (HS4.out.2.2.2.2.2.1).lt
  have t5 := (HS4.out.2.2.2.2.2.2).below c (HS4.out.2.2.2.2.2.2).lt
  have HS5 := Lib.hid (And.intro f (And.intro t0 (And.intro t1 (And.intro t2 (And.intro t3 (And.intro t4 t5))))))
  clear c f t0 t1 t2 t3 t4 t5
  have m50 := (HS5.out.2.2.2.2.2.2).1.1
  have m51 := (HS5.out.2.2.2.2.2.2).1.2
  have m52 := (HS5.out.2.2.2.2.2.2).2.1
  have m53 := (HS5.out.2.2.2.2.2.2).2.2
  obtain ⟨w6, hw6⟩ : ∃ V, (w5.setCell ⟨B9, 0, none⟩ (.bool bD)).setCell ⟨B9, 1, none⟩ (.string sD) = V := ⟨_, rfl⟩
  have f := (HS5.out.1.setCell geB9 (.bool bD) (p := ⟨B9, 0, none⟩)).setCell geB9 (.string sD) (p := ⟨B9, 1, none⟩)
  rw [hw6] at f
  have t0 := (((HS5.out.2.1).other en5_0 (o := 0) (u := .bool bD)).other en5_0 (o := 1) (u := .string sD))
  rw [hw6] at t0
  have t1 := (((HS5.out.2.2.1).other en5_1 (o := 0) (u := .bool bD)).other en5_1 (o := 1) (u := .string sD))
  rw [hw6] at t1
  have t2 := (((HS5.out.2.2.2.1).other en5_2 (o := 0) (u := .bool bD)).other en5_2 (o := 1) (u := .string sD))
  rw [hw6] at t2
  have t3 := (((HS5.out.2.2.2.2.1).other en5_3 (o := 0) (u := .bool bD)).other en5_3 (o := 1) (u := .string sD))
  rw [hw6] at t3
  have t4 := (((HS5.out.2.2.2.2.2.1).other en5_4 (o := 0) (u := .bool bD)).other en5_4 (o := 1) (u := .string sD))
  rw [hw6] at t4
  have t5 := two_set (HS5.out.2.2.2.2.2.2) (.bool bD) (.string sD)
  rw [hw6] at t5
  have HS6 := Lib.hid (And.intro f (And.intro t0 (And.intro t1 (And.intro t2 (And.intro t3 (And.intro t4 t5))))))
  clear f t0 t1 t2 t3 t4 t5
  have HW6 := Lib.hid hw6
  clear hw6
  go_wp2_with fail
  rw [HW6.out]
  clear m50 m51 m52 m53
  have l0 := (HS6.out.2.1).lt
  have m00 := (HS6.out.2.1).1.1
  have m01 := (HS6.out.2.1).2.1
  have l1 := (HS6.out.2.2.1).lt
  have m10 := (HS6.out.2.2.1).1.1
  have m11 := (HS6.out.2.2.1).2.1
  have l2 := (HS6.out.2.2.2.1).lt
  have m20 := (HS6.out.2.2.2.1).1.1
  have m21 := (HS6.out.2.2.2.1).2.1
  have l3 := (HS6.out.2.2.2.2.1).lt
  have m30 := (HS6.out.2.2.2.2.1).1.1
  have m31 := (HS6.out.2.2.2.2.1).2.1
  have l4 := (HS6.out.2.2.2.2.2.1).lt
  have m40 := (HS6.out.2.2.2.2.2.1).1.1
  have m41 := (HS6.out.2.2.2.2.2.1).2.1
  have l5 := (HS6.out.2.2.2.2.2.2).lt
  have m50 := (HS6.out.2.2.2.2.2.2).1.1
  have m51 := (HS6.out.2.2.2.2.2.2).2.1
  have tok1 : True := trivial
  have tok2 : True := trivial
  have tok3 : True := trivial
  have tok4 : True := trivial
  have tok5 : True := trivial
  go_region_held3 (fun w' => ∀ (a o : Nat), a < w6.heap.size → w'.cell? ⟨a, o, none⟩ = w6.cell? ⟨a, o, none⟩) (first | assumption | (intro _ _ _; rfl))
    (first | (go_at_call 38; have _t := tok1; clear tok1; refine (R1b.out _).mono ?_; rintro e u1 ⟨rfl, d1⟩; have E1 := Lib.hid (d1); have kS1 : ∀ (a o : Nat), a < w6.heap.size → u1.cell? ⟨a, o, none⟩ = w6.cell? ⟨a, o, none⟩ := fun a o h => E1.out.cell (p := ⟨a, o, none⟩) h; have hz1 : w6.heap.size ≤ u1.heap.size := E1.out.size; clear d1) | (go_at_call 32; have _t := tok2; clear tok2; refine (R2.out _).mono ?_; rintro e u2 ⟨rfl, d2⟩; have E2 := Lib.hid (E1.out.trans (d2.mono E1.out.size)); have kS2 : ∀ (a o : Nat), a < w6.heap.size → u2.cell? ⟨a, o, none⟩ = w6.cell? ⟨a, o, none⟩ := fun a o h => E2.out.cell (p := ⟨a, o, none⟩) h; have hz2 : w6.heap.size ≤ u2.heap.size := E2.out.size; clear d2) | (go_at_call 32; have _t := tok3; clear tok3; refine (R3.out _).mono ?_; rintro e u3 ⟨rfl, d3⟩; have E3 := Lib.hid (E2.out.trans (d3.mono E2.out.size)); have kS3 : ∀ (a o : Nat), a < w6.heap.size → u3.cell? ⟨a, o, none⟩ = w6.cell? ⟨a, o, none⟩ := fun a o h => E3.out.cell (p := ⟨a, o, none⟩) h; have hz3 : w6.heap.size ≤ u3.heap.size := E3.out.size; clear d3) | (go_at_call 38; have _t := tok4; clear tok4; refine (R4.out _).mono ?_; rintro e u4 ⟨rfl, d4⟩; have E4 := Lib.hid (E3.out.trans (d4.mono E3.out.size)); have kS4 : ∀ (a o : Nat), a < w6.heap.size → u4.cell? ⟨a, o, none⟩ = w6.cell? ⟨a, o, none⟩ := fun a o h => E4.out.cell (p := ⟨a, o, none⟩) h; have hz4 : w6.heap.size ≤ u4.heap.size := E4.out.size; clear d4) | (go_at_call 32; have _t := tok5; clear tok5; refine (R5.out _).mono ?_; rintro e u5 ⟨rfl, d5⟩; have E5 := Lib.hid (E4.out.trans (d5.mono E4.out.size)); have kS5 : ∀ (a o : Nat), a < w6.heap.size → u5.cell? ⟨a, o, none⟩ = w6.cell? ⟨a, o, none⟩ := fun a o h => E5.out.cell (p := ⟨a, o, none⟩) h; have hz5 : w6.heap.size ≤ u5.heap.size := E5.out.size; clear d5))
  have hb := ((Below.refl w6.heap.size w6).drew).trans E5.out
  have f := HS6.out.1.trans (hb.mono HS6.out.1.size)
  have t0 := (HS6.out.2.1).below hb (HS6.out.2.1).lt
  have t1 := (HS6.out.2.2.1).below hb (HS6.out.2.2.1).lt
  have t2 := (HS6.out.2.2.2.1).below hb (HS6.out.2.2.2.1).lt
  have t3 := (HS6.out.2.2.2.2.1).below hb (HS6.out.2.2.2.2.1).lt
  have t4 := (HS6.out.2.2.2.2.2.1).below hb (HS6.out.2.2.2.2.2.1).lt
  have t5 := (HS6.out.2.2.2.2.2.2).below hb (HS6.out.2.2.2.2.2.2).lt
  clear l0 m00 m01 l1 m10 m11 l2 m20 m21 l3 m30 m31 l4 m40 m41 l5 m50 m51
  have HS7 := Lib.hid (And.intro f (And.intro t0 (And.intro t1 (And.intro t2 (And.intro t3 (And.intro t4 t5))))))
  clear hb f t0 t1 t2 t3 t4 t5
  clear kS1 hz1 kS2 hz2 kS3 hz3 kS4 hz4 kS5 hz5
  have l0 := (HS7.out.2.1).lt
  have m00 := (HS7.out.2.1).1.1
  have m01 := (HS7.out.2.1).2.1
  have l1 := (HS7.out.2.2.1).lt
  have m10 := (HS7.out.2.2.1).1.1
  have m11 := (HS7.out.2.2.1).2.1
  have l2 := (HS7.out.2.2.2.1).lt
  have m20 := (HS7.out.2.2.2.1).1.1
  have m21 := (HS7.out.2.2.2.1).2.1
  have l3 := (HS7.out.2.2.2.2.1).lt
  have m30 := (HS7.out.2.2.2.2.1).1.1
  have m31 := (HS7.out.2.2.2.2.1).2.1
  have l4 := (HS7.out.2.2.2.2.2.1).lt
  have m40 := (HS7.out.2.2.2.2.2.1).1.1
  have m41 := (HS7.out.2.2.2.2.2.1).2.1
  have l5 := (HS7.out.2.2.2.2.2.2).lt
  have m50 := (HS7.out.2.2.2.2.2.2).1.1
  have m51 := (HS7.out.2.2.2.2.2.2).2.1
  go_wp2_with fail
  clear l0 m00 m01 l1 m10 m11 l2 m20 m21 l3 m30 m31 l4 m40 m41 l5 m50 m51
  refine (K1.out _).mono ?_
  rintro e w8 ⟨rfl, c⟩
  have f := HS7.out.1.trans (c.mono HS7.out.1.size)
  have t0 := (HS7.out.2.1).below c (HS7.out.2.1).lt
  have t1 := (HS7.out.2.2.1).below c (HS7.out.2.2.1).lt
  have t2 := (HS7.out.2.2.2.1).below c (HS7.out.2.2.2.1).lt
  have t3 := (HS7.out.2.2.2.2.1).below c (HS7.out.2.2.2.2.1).lt
  have t4 := (HS7.out.2.2.2.2.2.1).below c (HS7.out.2.2.2.2.2.1).lt
  have t5 := (HS7.out.2.2.2.2.2.2).below c (HS7.out.2.2.2.2.2.2).lt
  have HS8 := Lib.hid (And.intro f (And.intro t0 (And.intro t1 (And.intro t2 (And.intro t3 (And.intro t4 t5))))))
  clear c f t0 t1 t2 t3 t4 t5
  have l0 := (HS8.out.2.1).lt
  have m00 := (HS8.out.2.1).1.1
  have m01 := (HS8.out.2.1).2.1
  have l1 := (HS8.out.2.2.1).lt
  have m10 := (HS8.out.2.2.1).1.1
  have m11 := (HS8.out.2.2.1).2.1
  have l2 := (HS8.out.2.2.2.1).lt
  have m20 := (HS8.out.2.2.2.1).1.1
  have m21 := (HS8.out.2.2.2.1).2.1
  have l3 := (HS8.out.2.2.2.2.1).lt
  have m30 := (HS8.out.2.2.2.2.1).1.1
  have m31 := (HS8.out.2.2.2.2.1).2.1
  have l4 := (HS8.out.2.2.2.2.2.1).lt
  have m40 := (HS8.out.2.2.2.2.2.1).1.1
  have m41 := (HS8.out.2.2.2.2.2.1).2.1
  have l5 := (HS8.out.2.2.2.2.2.2).lt
  have m50 := (HS8.out.2.2.2.2.2.2).1.1
  have m51 := (HS8.out.2.2.2.2.2.2).2.1
  go_wp2_with fail
  clear l0 m00 m01 l1 m10 m11 l2 m20 m21 l3 m30 m31 l4 m40 m41 l5 m50 m51
  refine (K2.out _).mono ?_
  rintro e w9 ⟨rfl, c⟩
  have f := HS8.out.1.trans (c.mono HS8.out.1.size)
  have t0 := (HS8.out.2.1).below c (HS8.out.2.1).lt
  have t1 := (HS8.out.2.2.1).below c (HS8.out.2.2.1).lt
  have t2 := (HS8.out.2.2.2.1).below c (HS8.out.2.2.2.1).lt
  have t3 := (HS8.out.2.2.2.2.1).below c (HS8.out.2.2.2.2.1).lt
  have t4 := (HS8.out.2.2.2.2.2.1).below c (HS8.out.2.2.2.2.2.1).lt
  have t5 := (HS8.out.2.2.2.2.2.2).below c (HS8.out.2.2.2.2.2.2).lt
  have HS9 := Lib.hid (And.intro f (And.intro t0 (And.intro t1 (And.intro t2 (And.intro t3 (And.intro t4 t5))))))
  clear c f t0 t1 t2 t3 t4 t5
  have l0 := (HS9.out.2.1).lt
  have m00 := (HS9.out.2.1).1.1
  have m01 := (HS9.out.2.1).2.1
  have l1 := (HS9.out.2.2.1).lt
  have m10 := (HS9.out.2.2.1).1.1
  have m11 := (HS9.out.2.2.1).2.1
  have l2 := (HS9.out.2.2.2.1).lt
  have m20 := (HS9.out.2.2.2.1).1.1
  have m21 := (HS9.out.2.2.2.1).2.1
  have l3 := (HS9.out.2.2.2.2.1).lt
  have m30 := (HS9.out.2.2.2.2.1).1.1
  have m31 := (HS9.out.2.2.2.2.1).2.1
  have l4 := (HS9.out.2.2.2.2.2.1).lt
  have m40 := (HS9.out.2.2.2.2.2.1).1.1
  have m41 := (HS9.out.2.2.2.2.2.1).2.1
  have l5 := (HS9.out.2.2.2.2.2.2).lt
  have m50 := (HS9.out.2.2.2.2.2.2).1.1
  have m51 := (HS9.out.2.2.2.2.2.2).2.1
  have HAW := Lib.hid (awake_any w9 (tab_of HT.out HS9.out.1))
  go_wp2_with fail
  refine HAW.out.mono ?_
  rintro e wA ⟨rfl, cA⟩
  clear l0 m00 m01 l1 m10 m11 l2 m20 m21 l3 m30 m31 l4 m40 m41 l5 m50 m51
  go_wp2_with fail
  go_ret
  exact ⟨rfl, HS9.out.1.trans (cA.mono HS9.out.1.size)⟩

set_option maxHeartbeats 4000000 in
set_option maxRecDepth 100000 in
theorem divisors_ng (na nb nc : Bool) (sa sb sc : ByteArray) (w : World) (htab : Tab w) (ha : sa.size ≤ maxLen) (hb : sb.size ≤ maxLen) (hc : sc.size ≤ maxLen)
    (hg : (([(na, sa), (nb, sb), (nc, sc)] : List (Bool × ByteArray)).any fun p => decide ((60 : Int) < (p.2.size : Int))) = false) (hs : ival nc sc < 0) (hgz : 0 < Nat.gcd (ival na sa).natAbs (ival nb sb).natAbs) :
    Calls Tryz.prog 10 #[.agg #[.bool na, .string sa], .agg #[.bool nb, .string sb], .agg #[.bool nc, .string sc]] w fun e w' => e = .returned (.bool true) ∧ Below w.heap.size w w' := by
  unfold maxLen at ha hb hc
  have HG := Lib.hid hg
  have HT := Lib.hid htab
  have hss : ∀ p ∈ ([(na, sa), (nb, sb), (nc, sc)] : List (Bool × ByteArray)), p.2.size ≤ 9223372036854775807 := by
    intro p hp
    simp at hp
    rcases hp with rfl | rfl | rfl <;> simp <;> omega
  have HSS := Lib.hid hss
  have HSG := Lib.hid (And.intro hs hgz)
  clear htab hg hss hs hgz
  go_enter Tryz.func10, Tryz.ntmps10
  go_wp2_with fail
  obtain ⟨W0, hW0⟩ : ∃ W0, (((w.alloc (Obj.cells #[Value.bool na, Value.string sa] 23)).alloc (Obj.cells #[Value.bool nb, Value.string sb] 23)).alloc (Obj.cells #[Value.bool nc, Value.string sc] 23)).alloc (Obj.cells #[Value.bool na, Value.string sa, Value.bool nb, Value.string sb, Value.bool nc, Value.string sc] 23) = W0 := ⟨_, rfl⟩
  have z0 : W0.heap.size = w.heap.size + 1 + 1 + 1 + 1 := by rw [← hW0]; simp
  have ta : Two (w.heap.size) (.bool na) (.string sa) W0 := by
    rw [← hW0]
    have h := two_new w (.bool na) (.string sa) 23
    (try simp only [World.size_alloc] at h)
    exact h.below (B0 := w.heap.size + 1) ((((Below.refl _ _).alloc (by simp) _).alloc (by simp) _).alloc (by simp) _) (by omega)
  have tb : Two (w.heap.size + 1) (.bool nb) (.string sb) W0 := by
    rw [← hW0]
    have h := two_new (w.alloc (Obj.cells #[Value.bool na, Value.string sa] 23)) (.bool nb) (.string sb) 23
    (try simp only [World.size_alloc] at h)
    exact h.below (B0 := w.heap.size + 1 + 1) (((Below.refl _ _).alloc (by simp) _).alloc (by simp) _) (by omega)
  have tc : Two (w.heap.size + 1 + 1) (.bool nc) (.string sc) W0 := by
    rw [← hW0]
    have h := two_new ((w.alloc (Obj.cells #[Value.bool na, Value.string sa] 23)).alloc (Obj.cells #[Value.bool nb, Value.string sb] 23)) (.bool nc) (.string sc) 23
    (try simp only [World.size_alloc] at h)
    exact h.below (B0 := w.heap.size + 1 + 1 + 1) ((Below.refl _ _).alloc (by simp) _) (by omega)
  have hrow : RowI W0 (w.heap.size + 1 + 1 + 1) [(na, sa), (nb, sb), (nc, sc)] := by
    rw [← hW0]
    have h := rowI_3 (((w.alloc (Obj.cells #[Value.bool na, Value.string sa] 23)).alloc (Obj.cells #[Value.bool nb, Value.string sb] 23)).alloc (Obj.cells #[Value.bool nc, Value.string sc] 23)) na nb nc sa sb sc 23
    simp only [World.size_alloc] at h
    exact h
  have b0 : Below w.heap.size w W0 := by
    rw [← hW0]
    exact (((((Below.refl _ _).alloc (Nat.le_refl _) _).alloc (by simp) _).alloc (by simp; omega) _).alloc (by simp; omega) _)
  rw [hW0]
  have hgr := great_any (w.heap.size + 1 + 1 + 1) [(na, sa), (nb, sb), (nc, sc)] W0 hrow (by omega) (by simp) HSS.out
  rw [HG.out] at hgr
  have HGR := Lib.hid hgr
  have H0 := Lib.hid (And.intro z0 (And.intro b0 (And.intro ta (And.intro tb (And.intro tc trivial)))))
  clear hW0 z0 hrow b0 hgr ta tb tc
  refine HGR.out.mono ?_
  rintro e wG ⟨rfl, cG⟩
  have bGG : Below w.heap.size w wG := H0.out.2.1.trans (cG.mono H0.out.2.1.size)
  have hsm := small_size HG.out
  have zx : Sz 60 (ival na sa) := Sz.ival na sa 60 (hsm (na, sa) (by simp))
  have px : sa.size ≤ 60 := hsm (na, sa) (by simp)
  obtain ⟨x, hx⟩ : ∃ x, ival na sa = x := ⟨_, rfl⟩
  have vx : Val na sa x := ⟨hx, Nat.le_trans px (by omega)⟩
  rw [hx] at zx
  have zy : Sz 60 (ival nb sb) := Sz.ival nb sb 60 (hsm (nb, sb) (by simp))
  have py : sb.size ≤ 60 := hsm (nb, sb) (by simp)
  obtain ⟨y, hy⟩ : ∃ y, ival nb sb = y := ⟨_, rfl⟩
  have vy : Val nb sb y := ⟨hy, Nat.le_trans py (by omega)⟩
  rw [hy] at zy
  have zz : Sz 60 (ival nc sc) := Sz.ival nc sc 60 (hsm (nc, sc) (by simp))
  have pz : sc.size ≤ 60 := hsm (nc, sc) (by simp)
  obtain ⟨z, hz⟩ : ∃ z, ival nc sc = z := ⟨_, rfl⟩
  have vz : Val nc sc z := ⟨hz, Nat.le_trans pz (by omega)⟩
  rw [hz] at zz
  have tA : Two (w.heap.size) (.bool na) (.string sa) wG := H0.out.2.2.1.below cG H0.out.2.2.1.lt
  have tB : Two (w.heap.size + 1) (.bool nb) (.string sb) wG := H0.out.2.2.2.1.below cG H0.out.2.2.2.1.lt
  have tC : Two (w.heap.size + 1 + 1) (.bool nc) (.string sc) wG := H0.out.2.2.2.2.1.below cG H0.out.2.2.2.2.1.lt
  have hsg := HSG.out
  rw [hx, hy, hz] at hsg
  obtain ⟨hz0, hg0⟩ := hsg
  have v0 : Val false ⟨#[]⟩ 0 := ⟨rfl, Nat.zero_le _⟩
  have m0 : Nam false ⟨#[]⟩ 0 := ⟨rfl, rfl⟩
  obtain ⟨g, hg⟩ : ∃ g, Nat.gcd x.natAbs y.natAbs = g := ⟨_, rfl⟩
  have hg' : Nat.gcd y.natAbs x.natAbs = g := by rw [Nat.gcd_comm]; exact hg
  rw [hg] at hg0
  have zg : Sz 60 (g : Int) := by
    unfold Sz at *
    rw [Int.natAbs_natCast]
    have h1 : g ≤ x.natAbs ∨ g = y.natAbs := by
      rcases Nat.eq_zero_or_pos x.natAbs with h | h
      · right; rw [← hg, h, Nat.gcd_zero_left]
      · left; rw [← hg]; exact Nat.gcd_le_left _ h
    rcases h1 with h | h <;> omega
  obtain ⟨bP, sP, mP⟩ := nam_ex (x * z)
  obtain ⟨bR, sR, mR⟩ := nam_ex (y * z)
  have vP := mP.val (zx.mul zz) (by omega)
  have vR := mR.val (zy.mul zz) (by omega)
  have zn : Sz 60 (z.natAbs : Int) := by unfold Sz at *; rw [Int.natAbs_natCast]; exact zz
  obtain ⟨bE, sE, mE⟩ := nam_ex ((g : Int) * (z.natAbs : Int))
  obtain ⟨bG, sG, mG⟩ := nam_ex (g : Int)
  have hbG : bG = false := by obtain ⟨rfl, _⟩ := mG; exact decide_eq_false (by omega)
  subst hbG
  have vG := mG.val zg (by omega)
  obtain ⟨bD, sD, mD⟩ := nam_ex (-z)
  have vD := mD.val zz.neg (by omega)
  have hzn : -z = (z.natAbs : Int) := by omega
  have N1 := Lib.hid (neg_val vz rfl mD)
  have K0 := Lib.hid (cmp_val vz v0 (-1) (cmpZ_lt hz0))
  have R5 := Lib.hid (mul_val vG vD (by rw [hzn]) mE)
  have R1 := Lib.hid (gcd_val vx vy (by rw [hg]) mG)
  have R1b := Lib.hid (gcd_val vy vx (by rw [hg']) mG)
  have R2 := Lib.hid (mul_val vx vz rfl mP)
  have R3 := Lib.hid (mul_val vy vz rfl mR)
  have R4 := Lib.hid (gcd_val vP vR (gcd_times x y z _ hg) mE)
  have q1 := eql_int
  have q2 := neq_int
  have q3 := guard_int
  have e1 : eqI false sG false sG = true := mG.eq
  have e2 : eqI bE sE bE sE = true := mE.eq
  obtain ⟨p, q, hd1, hd2, hpq, hpl, hql⟩ := gcd_parts x y g hg hg0
  have zp : Sz 60 p := by unfold Sz at *; omega
  have zq : Sz 60 q := by unfold Sz at *; omega
  obtain ⟨bp, sp, mp⟩ := nam_ex p
  obtain ⟨bq, sq, mq⟩ := nam_ex q
  have m1 : Nam false ⟨#[1]⟩ 1 := ⟨by decide, by decide⟩
  have D1 := Lib.hid (divAll_val vx vG (by omega) hd1 mp m0)
  have D2 := Lib.hid (divAll_val vy vG (by omega) hd2 mq m0)
  have K1 := Lib.hid (gcd_val (mp.val zp (by omega)) (mq.val zq (by omega)) (by rw [hpq]; rfl) m1)
  have K2 := Lib.hid (of_lit 1 false ⟨#[1]⟩ (by decide) (by decide) (by omega) (by omega))
  have e3 : eqI false sG false ⟨#[]⟩ = false := by
    have h := eqI_ints (g : Int) 0
    rw [mG.sign, mG.mag] at h
    exact h.trans (decide_eq_false (by omega))
  have e4 : eqI false ⟨#[1]⟩ false ⟨#[1]⟩ = true := m1.eq
  have e0 : eqI false ⟨#[]⟩ false ⟨#[]⟩ = true := m0.eq
  have HS := Lib.hid (And.intro bGG (And.intro tA (And.intro tB tC)))
  clear hsm hx hy hz zx zy zz px py pz vx vy vz hz0 v0 m0 hg hg' zg mP mR vP vR zn mE mG vG hzn cG bGG tA tB tC mD vD hg0 hd1 hd2 hpq hpl hql zp zq mp mq m1
  have l0 := (HS.out.2.1).lt
  have m00 := (HS.out.2.1).1.1
  have m01 := (HS.out.2.1).2.1
  have l1 := (HS.out.2.2.1).lt
  have m10 := (HS.out.2.2.1).1.1
  have m11 := (HS.out.2.2.1).2.1
  have l2 := (HS.out.2.2.2).lt
  have m20 := (HS.out.2.2.2).1.1
  have m21 := (HS.out.2.2.2).2.1
  go_wp2_with fail
  clear l0 m00 m01 l1 m10 m11 l2 m20 m21
  obtain ⟨w1, hw1⟩ : ∃ V, (wG.alloc (Obj.cells #[Value.bool false, Value.string ⟨#[]⟩] 23)) = V := ⟨_, rfl⟩
  obtain ⟨B7, hB7⟩ : ∃ B, wG.heap.size = B := ⟨_, rfl⟩
  have bw1 : Below wG.heap.size wG w1 := by rw [← hw1]; exact ((Below.refl _ _).alloc (Nat.le_refl _) _)
  have tB7 : Two B7 (.bool false) (.string ⟨#[]⟩) w1 := by
    rw [← hw1, ← hB7]
    have h := two_new wG (.bool false) (.string ⟨#[]⟩) 23
    (try simp only [World.size_alloc] at h)
    exact h
  have hszw1 : wG.heap.size ≤ B7 := by omega
  rw [hw1, hB7]
  have f := HS.out.1.trans (bw1.mono HS.out.1.size)
  have t0 := (HS.out.2.1).below bw1 (HS.out.2.1).lt
  have t1 := (HS.out.2.2.1).below bw1 (HS.out.2.2.1).lt
  have t2 := (HS.out.2.2.2).below bw1 (HS.out.2.2.2).lt
  have ne3_0 : B7 ≠ w.heap.size := by have := (HS.out.2.1).lt; omega
  have en3_0 : w.heap.size ≠ B7 := fun e => ne3_0 e.symm
  have ne3_1 : B7 ≠ w.heap.size + 1 := by have := (HS.out.2.2.1).lt; omega
  have en3_1 : w.heap.size + 1 ≠ B7 := fun e => ne3_1 e.symm
  have ne3_2 : B7 ≠ w.heap.size + 1 + 1 := by have := (HS.out.2.2.2).lt; omega
  have en3_2 : w.heap.size + 1 + 1 ≠ B7 := fun e => ne3_2 e.symm
  have geB7 : w.heap.size ≤ B7 := by have := HS.out.1.size; omega
  have HS1 := Lib.hid (And.intro f (And.intro t0 (And.intro t1 (And.intro t2 tB7))))
  clear f hw1 bw1 hszw1 t0 t1 t2 tB7 hB7
  refine (R1.out _).mono ?_
  rintro e w2 ⟨rfl, c⟩
  have f := HS1.out.1.trans (c.mono HS1.out.1.size)
  have t0 := (HS1.out.2.1).below c (HS1.out.2.1).lt
  have t1 := (HS1.out.2.2.1).below c (HS1.out.2.2.1).lt
  have t2 := (HS1.out.2.2.2.1).below c (HS1.out.2.2.2.1).lt
  have t3 := (HS1.out.2.2.2.2).below c (HS1.out.2.2.2.2).lt
  have HS2 := Lib.hid (And.intro f (And.intro t0 (And.intro t1 (And.intro t2 t3))))
  clear c f t0 t1 t2 t3
  have l0 := (HS2.out.2.1).lt
  have m00 := (HS2.out.2.1).1.1
  have m01 := (HS2.out.2.1).2.1
  have l1 := (HS2.out.2.2.1).lt
  have m10 := (HS2.out.2.2.1).1.1
  have m11 := (HS2.out.2.2.1).2.1
  have l2 := (HS2.out.2.2.2.1).lt
  have m20 := (HS2.out.2.2.2.1).1.1
  have m21 := (HS2.out.2.2.2.1).2.1
  have l3 := (HS2.out.2.2.2.2).lt
  have m30 := (HS2.out.2.2.2.2).1.1
  have m31 := (HS2.out.2.2.2.2).2.1
  go_wp2_with fail
  clear l0 m00 m01 l1 m10 m11 l2 m20 m21 l3 m30 m31
  obtain ⟨w3, hw3⟩ : ∃ V, ((w2.alloc (Obj.cells #[Value.bool false, Value.string sG] 23)).alloc (Obj.cells #[Value.bool nc, Value.string sc] 23)) = V := ⟨_, rfl⟩
  obtain ⟨B8, hB8⟩ : ∃ B, w2.heap.size = B := ⟨_, rfl⟩
  obtain ⟨B9, hB9⟩ : ∃ B, B8 + 1 = B := ⟨_, rfl⟩
  have bw3 : Below w2.heap.size w2 w3 := by rw [← hw3]; exact (((Below.refl _ _).alloc (Nat.le_refl _) _).alloc (by simp) _)
  have tB8 : Two B8 (.bool false) (.string sG) w3 := by
    rw [← hw3, ← hB8]
    have h := two_new w2 (.bool false) (.string sG) 23
    (try simp only [World.size_alloc] at h)
    exact h.below (B0 := w2.heap.size + 1) ((Below.refl _ _).alloc (by simp) _) (by omega)
  have tB9 : Two B9 (.bool nc) (.string sc) w3 := by
    rw [← hw3, ← hB9, ← hB8]
    have h := two_new (w2.alloc (Obj.cells #[Value.bool false, Value.string sG] 23)) (.bool nc) (.string sc) 23
    (try simp only [World.size_alloc] at h)
    exact h
  have hszw3 : w2.heap.size ≤ B8 := by omega
  rw [hw3, hB8, hB9]
  have f := HS2.out.1.trans (bw3.mono HS2.out.1.size)
  have t0 := (HS2.out.2.1).below bw3 (HS2.out.2.1).lt
  have t1 := (HS2.out.2.2.1).below bw3 (HS2.out.2.2.1).lt
  have t2 := (HS2.out.2.2.2.1).below bw3 (HS2.out.2.2.2.1).lt
  have t3 := (HS2.out.2.2.2.2).below bw3 (HS2.out.2.2.2.2).lt
  have ne4_0 : B8 ≠ w.heap.size := by have := (HS2.out.2.1).lt; omega
  have en4_0 : w.heap.size ≠ B8 := fun e => ne4_0 e.symm
  have ne5_0 : B9 ≠ w.heap.size := by have := (HS2.out.2.1).lt; omega
  have en5_0 : w.heap.size ≠ B9 := fun e => ne5_0 e.symm
  have ne4_1 : B8 ≠ w.heap.size + 1 := by have := (HS2.out.2.2.1).lt; omega
  have en4_1 : w.heap.size + 1 ≠ B8 := fun e => ne4_1 e.symm
  have ne5_1 : B9 ≠ w.heap.size + 1 := by have := (HS2.out.2.2.1).lt; omega
  have en5_1 : w.heap.size + 1 ≠ B9 := fun e => ne5_1 e.symm
  have ne4_2 : B8 ≠ w.heap.size + 1 + 1 := by have := (HS2.out.2.2.2.1).lt; omega
  have en4_2 : w.heap.size + 1 + 1 ≠ B8 := fun e => ne4_2 e.symm
  have ne5_2 : B9 ≠ w.heap.size + 1 + 1 := by have := (HS2.out.2.2.2.1).lt; omega
  have en5_2 : w.heap.size + 1 + 1 ≠ B9 := fun e => ne5_2 e.symm
  have ne4_3 : B8 ≠ B7 := by have := (HS2.out.2.2.2.2).lt; omega
  have en4_3 : B7 ≠ B8 := fun e => ne4_3 e.symm
  have ne5_3 : B9 ≠ B7 := by have := (HS2.out.2.2.2.2).lt; omega
  have en5_3 : B7 ≠ B9 := fun e => ne5_3 e.symm
  have ne5_4 : B9 ≠ B8 := by omega
  have en5_4 : B8 ≠ B9 := by omega
  have geB8 : w.heap.size ≤ B8 := by have := HS2.out.1.size; omega
  have geB9 : w.heap.size ≤ B9 := by have := HS2.out.1.size; omega
  have HS3 := Lib.hid (And.intro f (And.intro t0 (And.intro t1 (And.intro t2 (And.intro t3 (And.intro tB8 tB9))))))
  clear f hw3 bw3 hszw3 t0 t1 t2 t3 tB8 tB9 hB9 hB8
  refine (K0.out _).mono ?_
  rintro e w4 ⟨rfl, c⟩
  have f := HS3.out.1.trans (c.mono HS3.out.1.size)
  have t0 := (HS3.out.2.1).below c (HS3.out.2.1).lt
  have t1 := (HS3.out.2.2.1).below c (HS3.out.2.2.1).lt
  have t2 := (HS3.out.2.2.2.1).below c (HS3.out.2.2.2.1).lt
  have t3 := (HS3.out.2.2.2.2.1).below c (HS3.out.2.2.2.2.1).lt
  have t4 := (HS3.out.2.2.2.2.2.1).below c (HS3.out.2.2.2.2.2.1).lt
  have t5 := (HS3.out.2.2.2.2.2.2).below c (HS3.out.2.2.2.2.2.2).lt
  have HS4 := Lib.hid (And.intro f (And.intro t0 (And.intro t1 (And.intro t2 (And.intro t3 (And.intro t4 t5))))))
  clear c f t0 t1 t2 t3 t4 t5
  have l0 := (HS4.out.2.1).lt
  have m00 := (HS4.out.2.1).1.1
  have m01 := (HS4.out.2.1).2.1
  have l1 := (HS4.out.2.2.1).lt
  have m10 := (HS4.out.2.2.1).1.1
  have m11 := (HS4.out.2.2.1).2.1
  have l2 := (HS4.out.2.2.2.1).lt
  have m20 := (HS4.out.2.2.2.1).1.1
  have m21 := (HS4.out.2.2.2.1).2.1
  have l3 := (HS4.out.2.2.2.2.1).lt
  have m30 := (HS4.out.2.2.2.2.1).1.1
  have m31 := (HS4.out.2.2.2.2.1).2.1
  have l4 := (HS4.out.2.2.2.2.2.1).lt
  have m40 := (HS4.out.2.2.2.2.2.1).1.1
  have m41 := (HS4.out.2.2.2.2.2.1).2.1
  have l5 := (HS4.out.2.2.2.2.2.2).lt
  have m50 := (HS4.out.2.2.2.2.2.2).1.1
  have m51 := (HS4.out.2.2.2.2.2.2).2.1
  go_wp2_with fail
  clear l0 m00 m01 l1 m10 m11 l2 m20 m21 l3 m30 m31 l4 m40 m41 l5 m50 m51
  refine (N1.out _).mono ?_
  rintro e w5 ⟨rfl, c⟩
  have f := HS4.out.1.trans (c.mono HS4.out.1.size)
  have t0 := (HS4.out.2.1).below c (HS4.out.2.1).lt
  have t1 := (HS4.out.2.2.1).below c (HS4.out.2.2.1).lt
  have t2 := (HS4.out.2.2.2.1).below c (HS4.out.2.2.2.1).lt
  have t3 := (HS4.out.2.2.2.2.1).below c (HS4.out.2.2.2.2.1).lt
  have t4 := (HS4.out.2.2.2.2.2.1).below c (HS4.out.2.2.2.2.2.1).lt
  have t5 := (HS4.out.2.2.2.2.2.2).below c (HS4.out.2.2.2.2.2.2).lt
  have HS5 := Lib.hid (And.intro f (And.intro t0 (And.intro t1 (And.intro t2 (And.intro t3 (And.intro t4 t5))))))
  clear c f t0 t1 t2 t3 t4 t5
  have m50 := (HS5.out.2.2.2.2.2.2).1.1
  have m51 := (HS5.out.2.2.2.2.2.2).1.2
  have m52 := (HS5.out.2.2.2.2.2.2).2.1
  have m53 := (HS5.out.2.2.2.2.2.2).2.2
  obtain ⟨w6, hw6⟩ : ∃ V, (w5.setCell ⟨B9, 0, none⟩ (.bool bD)).setCell ⟨B9, 1, none⟩ (.string sD) = V := ⟨_, rfl⟩
  have f := (HS5.out.1.setCell geB9 (.bool bD) (p := ⟨B9, 0, none⟩)).setCell geB9 (.string sD) (p := ⟨B9, 1, none⟩)
  rw [hw6] at f
  have t0 := (((HS5.out.2.1).other en5_0 (o := 0) (u := .bool bD)).other en5_0 (o := 1) (u := .string sD))
  rw [hw6] at t0
  have t1 := (((HS5.out.2.2.1).other en5_1 (o := 0) (u := .bool bD)).other en5_1 (o := 1) (u := .string sD))
  rw [hw6] at t1
  have t2 := (((HS5.out.2.2.2.1).other en5_2 (o := 0) (u := .bool bD)).other en5_2 (o := 1) (u := .string sD))
  rw [hw6] at t2
  have t3 := (((HS5.out.2.2.2.2.1).other en5_3 (o := 0) (u := .bool bD)).other en5_3 (o := 1) (u := .string sD))
  rw [hw6] at t3
  have t4 := (((HS5.out.2.2.2.2.2.1).other en5_4 (o := 0) (u := .bool bD)).other en5_4 (o := 1) (u := .string sD))
  rw [hw6] at t4
  have t5 := two_set (HS5.out.2.2.2.2.2.2) (.bool bD) (.string sD)
  rw [hw6] at t5
  have HS6 := Lib.hid (And.intro f (And.intro t0 (And.intro t1 (And.intro t2 (And.intro t3 (And.intro t4 t5))))))
  clear f t0 t1 t2 t3 t4 t5
  have HW6 := Lib.hid hw6
  clear hw6
  go_wp2_with fail
  rw [HW6.out]
  clear m50 m51 m52 m53
  have l0 := (HS6.out.2.1).lt
  have m00 := (HS6.out.2.1).1.1
  have m01 := (HS6.out.2.1).2.1
  have l1 := (HS6.out.2.2.1).lt
  have m10 := (HS6.out.2.2.1).1.1
  have m11 := (HS6.out.2.2.1).2.1
  have l2 := (HS6.out.2.2.2.1).lt
  have m20 := (HS6.out.2.2.2.1).1.1
  have m21 := (HS6.out.2.2.2.1).2.1
  have l3 := (HS6.out.2.2.2.2.1).lt
  have m30 := (HS6.out.2.2.2.2.1).1.1
  have m31 := (HS6.out.2.2.2.2.1).2.1
  have l4 := (HS6.out.2.2.2.2.2.1).lt
  have m40 := (HS6.out.2.2.2.2.2.1).1.1
  have m41 := (HS6.out.2.2.2.2.2.1).2.1
  have l5 := (HS6.out.2.2.2.2.2.2).lt
  have m50 := (HS6.out.2.2.2.2.2.2).1.1
  have m51 := (HS6.out.2.2.2.2.2.2).2.1
  have tok1 : True := trivial
  have tok2 : True := trivial
  have tok3 : True := trivial
  have tok4 : True := trivial
  have tok5 : True := trivial
  go_region_held3 (fun w' => ∀ (a o : Nat), a < w6.heap.size → w'.cell? ⟨a, o, none⟩ = w6.cell? ⟨a, o, none⟩) (first | assumption | (intro _ _ _; rfl))
    (first | (go_at_call 38; have _t := tok1; clear tok1; refine (R1b.out _).mono ?_; rintro e u1 ⟨rfl, d1⟩; have E1 := Lib.hid (d1); have kS1 : ∀ (a o : Nat), a < w6.heap.size → u1.cell? ⟨a, o, none⟩ = w6.cell? ⟨a, o, none⟩ := fun a o h => E1.out.cell (p := ⟨a, o, none⟩) h; have hz1 : w6.heap.size ≤ u1.heap.size := E1.out.size; clear d1) | (go_at_call 32; have _t := tok2; clear tok2; refine (R2.out _).mono ?_; rintro e u2 ⟨rfl, d2⟩; have E2 := Lib.hid (E1.out.trans (d2.mono E1.out.size)); have kS2 : ∀ (a o : Nat), a < w6.heap.size → u2.cell? ⟨a, o, none⟩ = w6.cell? ⟨a, o, none⟩ := fun a o h => E2.out.cell (p := ⟨a, o, none⟩) h; have hz2 : w6.heap.size ≤ u2.heap.size := E2.out.size; clear d2) | (go_at_call 32; have _t := tok3; clear tok3; refine (R3.out _).mono ?_; rintro e u3 ⟨rfl, d3⟩; have E3 := Lib.hid (E2.out.trans (d3.mono E2.out.size)); have kS3 : ∀ (a o : Nat), a < w6.heap.size → u3.cell? ⟨a, o, none⟩ = w6.cell? ⟨a, o, none⟩ := fun a o h => E3.out.cell (p := ⟨a, o, none⟩) h; have hz3 : w6.heap.size ≤ u3.heap.size := E3.out.size; clear d3) | (go_at_call 38; have _t := tok4; clear tok4; refine (R4.out _).mono ?_; rintro e u4 ⟨rfl, d4⟩; have E4 := Lib.hid (E3.out.trans (d4.mono E3.out.size)); have kS4 : ∀ (a o : Nat), a < w6.heap.size → u4.cell? ⟨a, o, none⟩ = w6.cell? ⟨a, o, none⟩ := fun a o h => E4.out.cell (p := ⟨a, o, none⟩) h; have hz4 : w6.heap.size ≤ u4.heap.size := E4.out.size; clear d4) | (go_at_call 32; have _t := tok5; clear tok5; refine (R5.out _).mono ?_; rintro e u5 ⟨rfl, d5⟩; have E5 := Lib.hid (E4.out.trans (d5.mono E4.out.size)); have kS5 : ∀ (a o : Nat), a < w6.heap.size → u5.cell? ⟨a, o, none⟩ = w6.cell? ⟨a, o, none⟩ := fun a o h => E5.out.cell (p := ⟨a, o, none⟩) h; have hz5 : w6.heap.size ≤ u5.heap.size := E5.out.size; clear d5))
  have hb := ((Below.refl w6.heap.size w6).drew).trans E5.out
  have f := HS6.out.1.trans (hb.mono HS6.out.1.size)
  have t0 := (HS6.out.2.1).below hb (HS6.out.2.1).lt
  have t1 := (HS6.out.2.2.1).below hb (HS6.out.2.2.1).lt
  have t2 := (HS6.out.2.2.2.1).below hb (HS6.out.2.2.2.1).lt
  have t3 := (HS6.out.2.2.2.2.1).below hb (HS6.out.2.2.2.2.1).lt
  have t4 := (HS6.out.2.2.2.2.2.1).below hb (HS6.out.2.2.2.2.2.1).lt
  have t5 := (HS6.out.2.2.2.2.2.2).below hb (HS6.out.2.2.2.2.2.2).lt
  clear l0 m00 m01 l1 m10 m11 l2 m20 m21 l3 m30 m31 l4 m40 m41 l5 m50 m51
  have HS7 := Lib.hid (And.intro f (And.intro t0 (And.intro t1 (And.intro t2 (And.intro t3 (And.intro t4 t5))))))
  clear hb f t0 t1 t2 t3 t4 t5
  clear kS1 hz1 kS2 hz2 kS3 hz3 kS4 hz4 kS5 hz5
  have l0 := (HS7.out.2.1).lt
  have m00 := (HS7.out.2.1).1.1
  have m01 := (HS7.out.2.1).2.1
  have l1 := (HS7.out.2.2.1).lt
  have m10 := (HS7.out.2.2.1).1.1
  have m11 := (HS7.out.2.2.1).2.1
  have l2 := (HS7.out.2.2.2.1).lt
  have m20 := (HS7.out.2.2.2.1).1.1
  have m21 := (HS7.out.2.2.2.1).2.1
  have l3 := (HS7.out.2.2.2.2.1).lt
  have m30 := (HS7.out.2.2.2.2.1).1.1
  have m31 := (HS7.out.2.2.2.2.1).2.1
  have l4 := (HS7.out.2.2.2.2.2.1).lt
  have m40 := (HS7.out.2.2.2.2.2.1).1.1
  have m41 := (HS7.out.2.2.2.2.2.1).2.1
  have l5 := (HS7.out.2.2.2.2.2.2).lt
  have m50 := (HS7.out.2.2.2.2.2.2).1.1
  have m51 := (HS7.out.2.2.2.2.2.2).2.1
  go_wp2_with fail
  clear l0 m00 m01 l1 m10 m11 l2 m20 m21 l3 m30 m31 l4 m40 m41 l5 m50 m51
  refine (D1.out _).mono ?_
  rintro e w8 ⟨rfl, c⟩
  have f := HS7.out.1.trans (c.mono HS7.out.1.size)
  have t0 := (HS7.out.2.1).below c (HS7.out.2.1).lt
  have t1 := (HS7.out.2.2.1).below c (HS7.out.2.2.1).lt
  have t2 := (HS7.out.2.2.2.1).below c (HS7.out.2.2.2.1).lt
  have t3 := (HS7.out.2.2.2.2.1).below c (HS7.out.2.2.2.2.1).lt
  have t4 := (HS7.out.2.2.2.2.2.1).below c (HS7.out.2.2.2.2.2.1).lt
  have t5 := (HS7.out.2.2.2.2.2.2).below c (HS7.out.2.2.2.2.2.2).lt
  have HS8 := Lib.hid (And.intro f (And.intro t0 (And.intro t1 (And.intro t2 (And.intro t3 (And.intro t4 t5))))))
  clear c f t0 t1 t2 t3 t4 t5
  have l0 := (HS8.out.2.1).lt
  have m00 := (HS8.out.2.1).1.1
  have m01 := (HS8.out.2.1).2.1
  have l1 := (HS8.out.2.2.1).lt
  have m10 := (HS8.out.2.2.1).1.1
  have m11 := (HS8.out.2.2.1).2.1
  have l2 := (HS8.out.2.2.2.1).lt
  have m20 := (HS8.out.2.2.2.1).1.1
  have m21 := (HS8.out.2.2.2.1).2.1
  have l3 := (HS8.out.2.2.2.2.1).lt
  have m30 := (HS8.out.2.2.2.2.1).1.1
  have m31 := (HS8.out.2.2.2.2.1).2.1
  have l4 := (HS8.out.2.2.2.2.2.1).lt
  have m40 := (HS8.out.2.2.2.2.2.1).1.1
  have m41 := (HS8.out.2.2.2.2.2.1).2.1
  have l5 := (HS8.out.2.2.2.2.2.2).lt
  have m50 := (HS8.out.2.2.2.2.2.2).1.1
  have m51 := (HS8.out.2.2.2.2.2.2).2.1
  go_wp2_with fail
  clear l0 m00 m01 l1 m10 m11 l2 m20 m21 l3 m30 m31 l4 m40 m41 l5 m50 m51
  obtain ⟨w9, hw9⟩ : ∃ V, ((w8.alloc (Obj.cells #[Value.bool bp, Value.string sp] 23)).alloc (Obj.cells #[Value.bool false, Value.string ⟨#[]⟩] 23)) = V := ⟨_, rfl⟩
  obtain ⟨B10, hB10⟩ : ∃ B, w8.heap.size = B := ⟨_, rfl⟩
  obtain ⟨B11, hB11⟩ : ∃ B, B10 + 1 = B := ⟨_, rfl⟩
  have bw9 : Below w8.heap.size w8 w9 := by rw [← hw9]; exact (((Below.refl _ _).alloc (Nat.le_refl _) _).alloc (by simp) _)
  have tB10 : Two B10 (.bool bp) (.string sp) w9 := by
    rw [← hw9, ← hB10]
    have h := two_new w8 (.bool bp) (.string sp) 23
    (try simp only [World.size_alloc] at h)
    exact h.below (B0 := w8.heap.size + 1) ((Below.refl _ _).alloc (by simp) _) (by omega)
  have tB11 : Two B11 (.bool false) (.string ⟨#[]⟩) w9 := by
    rw [← hw9, ← hB11, ← hB10]
    have h := two_new (w8.alloc (Obj.cells #[Value.bool bp, Value.string sp] 23)) (.bool false) (.string ⟨#[]⟩) 23
    (try simp only [World.size_alloc] at h)
    exact h
  have hszw9 : w8.heap.size ≤ B10 := by omega
  rw [hw9, hB10, hB11]
  have f := HS8.out.1.trans (bw9.mono HS8.out.1.size)
  have t0 := (HS8.out.2.1).below bw9 (HS8.out.2.1).lt
  have t1 := (HS8.out.2.2.1).below bw9 (HS8.out.2.2.1).lt
  have t2 := (HS8.out.2.2.2.1).below bw9 (HS8.out.2.2.2.1).lt
  have t3 := (HS8.out.2.2.2.2.1).below bw9 (HS8.out.2.2.2.2.1).lt
  have t4 := (HS8.out.2.2.2.2.2.1).below bw9 (HS8.out.2.2.2.2.2.1).lt
  have t5 := (HS8.out.2.2.2.2.2.2).below bw9 (HS8.out.2.2.2.2.2.2).lt
  have ne6_0 : B10 ≠ w.heap.size := by have := (HS8.out.2.1).lt; omega
  have en6_0 : w.heap.size ≠ B10 := fun e => ne6_0 e.symm
  have ne7_0 : B11 ≠ w.heap.size := by have := (HS8.out.2.1).lt; omega
  have en7_0 : w.heap.size ≠ B11 := fun e => ne7_0 e.symm
  have ne6_1 : B10 ≠ w.heap.size + 1 := by have := (HS8.out.2.2.1).lt; omega
  have en6_1 : w.heap.size + 1 ≠ B10 := fun e => ne6_1 e.symm
  have ne7_1 : B11 ≠ w.heap.size + 1 := by have := (HS8.out.2.2.1).lt; omega
  have en7_1 : w.heap.size + 1 ≠ B11 := fun e => ne7_1 e.symm
  have ne6_2 : B10 ≠ w.heap.size + 1 + 1 := by have := (HS8.out.2.2.2.1).lt; omega
  have en6_2 : w.heap.size + 1 + 1 ≠ B10 := fun e => ne6_2 e.symm
  have ne7_2 : B11 ≠ w.heap.size + 1 + 1 := by have := (HS8.out.2.2.2.1).lt; omega
  have en7_2 : w.heap.size + 1 + 1 ≠ B11 := fun e => ne7_2 e.symm
  have ne6_3 : B10 ≠ B7 := by have := (HS8.out.2.2.2.2.1).lt; omega
  have en6_3 : B7 ≠ B10 := fun e => ne6_3 e.symm
  have ne7_3 : B11 ≠ B7 := by have := (HS8.out.2.2.2.2.1).lt; omega
  have en7_3 : B7 ≠ B11 := fun e => ne7_3 e.symm
  have ne6_4 : B10 ≠ B8 := by have := (HS8.out.2.2.2.2.2.1).lt; omega
  have en6_4 : B8 ≠ B10 := fun e => ne6_4 e.symm
  have ne7_4 : B11 ≠ B8 := by have := (HS8.out.2.2.2.2.2.1).lt; omega
  have en7_4 : B8 ≠ B11 := fun e => ne7_4 e.symm
  have ne6_5 : B10 ≠ B9 := by have := (HS8.out.2.2.2.2.2.2).lt; omega
  have en6_5 : B9 ≠ B10 := fun e => ne6_5 e.symm
  have ne7_5 : B11 ≠ B9 := by have := (HS8.out.2.2.2.2.2.2).lt; omega
  have en7_5 : B9 ≠ B11 := fun e => ne7_5 e.symm
  have ne7_6 : B11 ≠ B10 := by omega
  have en7_6 : B10 ≠ B11 := by omega
  have geB10 : w.heap.size ≤ B10 := by have := HS8.out.1.size; omega
  have geB11 : w.heap.size ≤ B11 := by have := HS8.out.1.size; omega
  have HS9 := Lib.hid (And.intro f (And.intro t0 (And.intro t1 (And.intro t2 (And.intro t3 (And.intro t4 (And.intro t5 (And.intro tB10 tB11))))))))
  clear f hw9 bw9 hszw9 t0 t1 t2 t3 t4 t5 tB10 tB11 hB11 hB10
  refine (D2.out _).mono ?_
  rintro e w10 ⟨rfl, c⟩
  have f := HS9.out.1.trans (c.mono HS9.out.1.size)
  have t0 := (HS9.out.2.1).below c (HS9.out.2.1).lt
  have t1 := (HS9.out.2.2.1).below c (HS9.out.2.2.1).lt
  have t2 := (HS9.out.2.2.2.1).below c (HS9.out.2.2.2.1).lt
  have t3 := (HS9.out.2.2.2.2.1).below c (HS9.out.2.2.2.2.1).lt
  have t4 := (HS9.out.2.2.2.2.2.1).below c (HS9.out.2.2.2.2.2.1).lt
  have t5 := (HS9.out.2.2.2.2.2.2.1).below c (HS9.out.2.2.2.2.2.2.1).lt
  have t6 := (HS9.out.2.2.2.2.2.2.2.1).below c (HS9.out.2.2.2.2.2.2.2.1).lt
  have t7 := (HS9.out.2.2.2.2.2.2.2.2).below c (HS9.out.2.2.2.2.2.2.2.2).lt
  have HS10 := Lib.hid (And.intro f (And.intro t0 (And.intro t1 (And.intro t2 (And.intro t3 (And.intro t4 (And.intro t5 (And.intro t6 t7))))))))
  clear c f t0 t1 t2 t3 t4 t5 t6 t7
  have l0 := (HS10.out.2.1).lt
  have m00 := (HS10.out.2.1).1.1
  have m01 := (HS10.out.2.1).2.1
  have l1 := (HS10.out.2.2.1).lt
  have m10 := (HS10.out.2.2.1).1.1
  have m11 := (HS10.out.2.2.1).2.1
  have l2 := (HS10.out.2.2.2.1).lt
  have m20 := (HS10.out.2.2.2.1).1.1
  have m21 := (HS10.out.2.2.2.1).2.1
  have l3 := (HS10.out.2.2.2.2.1).lt
  have m30 := (HS10.out.2.2.2.2.1).1.1
  have m31 := (HS10.out.2.2.2.2.1).2.1
  have l4 := (HS10.out.2.2.2.2.2.1).lt
  have m40 := (HS10.out.2.2.2.2.2.1).1.1
  have m41 := (HS10.out.2.2.2.2.2.1).2.1
  have l5 := (HS10.out.2.2.2.2.2.2.1).lt
  have m50 := (HS10.out.2.2.2.2.2.2.1).1.1
  have m51 := (HS10.out.2.2.2.2.2.2.1).2.1
  have l6 := (HS10.out.2.2.2.2.2.2.2.1).lt
  have m60 := (HS10.out.2.2.2.2.2.2.2.1).1.1
  have m61 := (HS10.out.2.2.2.2.2.2.2.1).2.1
  have l7 := (HS10.out.2.2.2.2.2.2.2.2).lt
  have m70 := (HS10.out.2.2.2.2.2.2.2.2).1.1
  have m71 := (HS10.out.2.2.2.2.2.2.2.2).2.1
  go_wp2_with fail
  clear l0 m00 m01 l1 m10 m11 l2 m20 m21 l3 m30 m31 l4 m40 m41 l5 m50 m51 l6 m60 m61 l7 m70 m71
  obtain ⟨w11, hw11⟩ : ∃ V, ((w10.alloc (Obj.cells #[Value.bool bq, Value.string sq] 23)).alloc (Obj.cells #[Value.bool false, Value.string ⟨#[]⟩] 23)) = V := ⟨_, rfl⟩
  obtain ⟨B13, hB13⟩ : ∃ B, w10.heap.size = B := ⟨_, rfl⟩
  obtain ⟨B14, hB14⟩ : ∃ B, B13 + 1 = B := ⟨_, rfl⟩
  have bw11 : Below w10.heap.size w10 w11 := by rw [← hw11]; exact (((Below.refl _ _).alloc (Nat.le_refl _) _).alloc (by simp) _)
  have tB13 : Two B13 (.bool bq) (.string sq) w11 := by
    rw [← hw11, ← hB13]
    have h := two_new w10 (.bool bq) (.string sq) 23
    (try simp only [World.size_alloc] at h)
    exact h.below (B0 := w10.heap.size + 1) ((Below.refl _ _).alloc (by simp) _) (by omega)
  have tB14 : Two B14 (.bool false) (.string ⟨#[]⟩) w11 := by
    rw [← hw11, ← hB14, ← hB13]
    have h := two_new (w10.alloc (Obj.cells #[Value.bool bq, Value.string sq] 23)) (.bool false) (.string ⟨#[]⟩) 23
    (try simp only [World.size_alloc] at h)
    exact h
  have hszw11 : w10.heap.size ≤ B13 := by omega
  rw [hw11, hB13, hB14]
  have f := HS10.out.1.trans (bw11.mono HS10.out.1.size)
  have t0 := (HS10.out.2.1).below bw11 (HS10.out.2.1).lt
  have t1 := (HS10.out.2.2.1).below bw11 (HS10.out.2.2.1).lt
  have t2 := (HS10.out.2.2.2.1).below bw11 (HS10.out.2.2.2.1).lt
  have t3 := (HS10.out.2.2.2.2.1).below bw11 (HS10.out.2.2.2.2.1).lt
  have t4 := (HS10.out.2.2.2.2.2.1).below bw11 (HS10.out.2.2.2.2.2.1).lt
  have t5 := (HS10.out.2.2.2.2.2.2.1).below bw11 (HS10.out.2.2.2.2.2.2.1).lt
  have t6 := (HS10.out.2.2.2.2.2.2.2.1).below bw11 (HS10.out.2.2.2.2.2.2.2.1).lt
  have t7 := (HS10.out.2.2.2.2.2.2.2.2).below bw11 (HS10.out.2.2.2.2.2.2.2.2).lt
  have ne8_0 : B13 ≠ w.heap.size := by have := (HS10.out.2.1).lt; omega
  have en8_0 : w.heap.size ≠ B13 := fun e => ne8_0 e.symm
  have ne9_0 : B14 ≠ w.heap.size := by have := (HS10.out.2.1).lt; omega
  have en9_0 : w.heap.size ≠ B14 := fun e => ne9_0 e.symm
  have ne8_1 : B13 ≠ w.heap.size + 1 := by have := (HS10.out.2.2.1).lt; omega
  have en8_1 : w.heap.size + 1 ≠ B13 := fun e => ne8_1 e.symm
  have ne9_1 : B14 ≠ w.heap.size + 1 := by have := (HS10.out.2.2.1).lt; omega
  have en9_1 : w.heap.size + 1 ≠ B14 := fun e => ne9_1 e.symm
  have ne8_2 : B13 ≠ w.heap.size + 1 + 1 := by have := (HS10.out.2.2.2.1).lt; omega
  have en8_2 : w.heap.size + 1 + 1 ≠ B13 := fun e => ne8_2 e.symm
  have ne9_2 : B14 ≠ w.heap.size + 1 + 1 := by have := (HS10.out.2.2.2.1).lt; omega
  have en9_2 : w.heap.size + 1 + 1 ≠ B14 := fun e => ne9_2 e.symm
  have ne8_3 : B13 ≠ B7 := by have := (HS10.out.2.2.2.2.1).lt; omega
  have en8_3 : B7 ≠ B13 := fun e => ne8_3 e.symm
  have ne9_3 : B14 ≠ B7 := by have := (HS10.out.2.2.2.2.1).lt; omega
  have en9_3 : B7 ≠ B14 := fun e => ne9_3 e.symm
  have ne8_4 : B13 ≠ B8 := by have := (HS10.out.2.2.2.2.2.1).lt; omega
  have en8_4 : B8 ≠ B13 := fun e => ne8_4 e.symm
  have ne9_4 : B14 ≠ B8 := by have := (HS10.out.2.2.2.2.2.1).lt; omega
  have en9_4 : B8 ≠ B14 := fun e => ne9_4 e.symm
  have ne8_5 : B13 ≠ B9 := by have := (HS10.out.2.2.2.2.2.2.1).lt; omega
  have en8_5 : B9 ≠ B13 := fun e => ne8_5 e.symm
  have ne9_5 : B14 ≠ B9 := by have := (HS10.out.2.2.2.2.2.2.1).lt; omega
  have en9_5 : B9 ≠ B14 := fun e => ne9_5 e.symm
  have ne8_6 : B13 ≠ B10 := by have := (HS10.out.2.2.2.2.2.2.2.1).lt; omega
  have en8_6 : B10 ≠ B13 := fun e => ne8_6 e.symm
  have ne9_6 : B14 ≠ B10 := by have := (HS10.out.2.2.2.2.2.2.2.1).lt; omega
  have en9_6 : B10 ≠ B14 := fun e => ne9_6 e.symm
  have ne8_7 : B13 ≠ B11 := by have := (HS10.out.2.2.2.2.2.2.2.2).lt; omega
  have en8_7 : B11 ≠ B13 := fun e => ne8_7 e.symm
  have ne9_7 : B14 ≠ B11 := by have := (HS10.out.2.2.2.2.2.2.2.2).lt; omega
  have en9_7 : B11 ≠ B14 := fun e => ne9_7 e.symm
  have ne9_8 : B14 ≠ B13 := by omega
  have en9_8 : B13 ≠ B14 := by omega
  have geB13 : w.heap.size ≤ B13 := by have := HS10.out.1.size; omega
  have geB14 : w.heap.size ≤ B14 := by have := HS10.out.1.size; omega
  have HS11 := Lib.hid (And.intro f (And.intro t0 (And.intro t1 (And.intro t2 (And.intro t3 (And.intro t4 (And.intro t5 (And.intro t6 (And.intro t7 (And.intro tB13 tB14))))))))))
  clear f hw11 bw11 hszw11 t0 t1 t2 t3 t4 t5 t6 t7 tB13 tB14 hB14 hB13
  refine (K1.out _).mono ?_
  rintro e w12 ⟨rfl, c⟩
  have f := HS11.out.1.trans (c.mono HS11.out.1.size)
  have t0 := (HS11.out.2.1).below c (HS11.out.2.1).lt
  have t1 := (HS11.out.2.2.1).below c (HS11.out.2.2.1).lt
  have t2 := (HS11.out.2.2.2.1).below c (HS11.out.2.2.2.1).lt
  have t3 := (HS11.out.2.2.2.2.1).below c (HS11.out.2.2.2.2.1).lt
  have t4 := (HS11.out.2.2.2.2.2.1).below c (HS11.out.2.2.2.2.2.1).lt
  have t5 := (HS11.out.2.2.2.2.2.2.1).below c (HS11.out.2.2.2.2.2.2.1).lt
  have t6 := (HS11.out.2.2.2.2.2.2.2.1).below c (HS11.out.2.2.2.2.2.2.2.1).lt
  have t7 := (HS11.out.2.2.2.2.2.2.2.2.1).below c (HS11.out.2.2.2.2.2.2.2.2.1).lt
  have t8 := (HS11.out.2.2.2.2.2.2.2.2.2.1).below c (HS11.out.2.2.2.2.2.2.2.2.2.1).lt
  have t9 := (HS11.out.2.2.2.2.2.2.2.2.2.2).below c (HS11.out.2.2.2.2.2.2.2.2.2.2).lt
  have HS12 := Lib.hid (And.intro f (And.intro t0 (And.intro t1 (And.intro t2 (And.intro t3 (And.intro t4 (And.intro t5 (And.intro t6 (And.intro t7 (And.intro t8 t9))))))))))
  clear c f t0 t1 t2 t3 t4 t5 t6 t7 t8 t9
  have l0 := (HS12.out.2.1).lt
  have m00 := (HS12.out.2.1).1.1
  have m01 := (HS12.out.2.1).2.1
  have l1 := (HS12.out.2.2.1).lt
  have m10 := (HS12.out.2.2.1).1.1
  have m11 := (HS12.out.2.2.1).2.1
  have l2 := (HS12.out.2.2.2.1).lt
  have m20 := (HS12.out.2.2.2.1).1.1
  have m21 := (HS12.out.2.2.2.1).2.1
  have l3 := (HS12.out.2.2.2.2.1).lt
  have m30 := (HS12.out.2.2.2.2.1).1.1
  have m31 := (HS12.out.2.2.2.2.1).2.1
  have l4 := (HS12.out.2.2.2.2.2.1).lt
  have m40 := (HS12.out.2.2.2.2.2.1).1.1
  have m41 := (HS12.out.2.2.2.2.2.1).2.1
  have l5 := (HS12.out.2.2.2.2.2.2.1).lt
  have m50 := (HS12.out.2.2.2.2.2.2.1).1.1
  have m51 := (HS12.out.2.2.2.2.2.2.1).2.1
  have l6 := (HS12.out.2.2.2.2.2.2.2.1).lt
  have m60 := (HS12.out.2.2.2.2.2.2.2.1).1.1
  have m61 := (HS12.out.2.2.2.2.2.2.2.1).2.1
  have l7 := (HS12.out.2.2.2.2.2.2.2.2.1).lt
  have m70 := (HS12.out.2.2.2.2.2.2.2.2.1).1.1
  have m71 := (HS12.out.2.2.2.2.2.2.2.2.1).2.1
  have l8 := (HS12.out.2.2.2.2.2.2.2.2.2.1).lt
  have m80 := (HS12.out.2.2.2.2.2.2.2.2.2.1).1.1
  have m81 := (HS12.out.2.2.2.2.2.2.2.2.2.1).2.1
  have l9 := (HS12.out.2.2.2.2.2.2.2.2.2.2).lt
  have m90 := (HS12.out.2.2.2.2.2.2.2.2.2.2).1.1
  have m91 := (HS12.out.2.2.2.2.2.2.2.2.2.2).2.1
  go_wp2_with fail
  clear l0 m00 m01 l1 m10 m11 l2 m20 m21 l3 m30 m31 l4 m40 m41 l5 m50 m51 l6 m60 m61 l7 m70 m71 l8 m80 m81 l9 m90 m91
  refine (K2.out _).mono ?_
  rintro e w13 ⟨rfl, c⟩
  have f := HS12.out.1.trans (c.mono HS12.out.1.size)
  have t0 := (HS12.out.2.1).below c (HS12.out.2.1).lt
  have t1 := (HS12.out.2.2.1).below c (HS12.out.2.2.1).lt
  have t2 := (HS12.out.2.2.2.1).below c (HS12.out.2.2.2.1).lt
  have t3 := (HS12.out.2.2.2.2.1).below c (HS12.out.2.2.2.2.1).lt
  have t4 := (HS12.out.2.2.2.2.2.1).below c (HS12.out.2.2.2.2.2.1).lt
  have t5 := (HS12.out.2.2.2.2.2.2.1).below c (HS12.out.2.2.2.2.2.2.1).lt
  have t6 := (HS12.out.2.2.2.2.2.2.2.1).below c (HS12.out.2.2.2.2.2.2.2.1).lt
  have t7 := (HS12.out.2.2.2.2.2.2.2.2.1).below c (HS12.out.2.2.2.2.2.2.2.2.1).lt
  have t8 := (HS12.out.2.2.2.2.2.2.2.2.2.1).below c (HS12.out.2.2.2.2.2.2.2.2.2.1).lt
  have t9 := (HS12.out.2.2.2.2.2.2.2.2.2.2).below c (HS12.out.2.2.2.2.2.2.2.2.2.2).lt
  have HS13 := Lib.hid (And.intro f (And.intro t0 (And.intro t1 (And.intro t2 (And.intro t3 (And.intro t4 (And.intro t5 (And.intro t6 (And.intro t7 (And.intro t8 t9))))))))))
  clear c f t0 t1 t2 t3 t4 t5 t6 t7 t8 t9
  have l0 := (HS13.out.2.1).lt
  have m00 := (HS13.out.2.1).1.1
  have m01 := (HS13.out.2.1).2.1
  have l1 := (HS13.out.2.2.1).lt
  have m10 := (HS13.out.2.2.1).1.1
  have m11 := (HS13.out.2.2.1).2.1
  have l2 := (HS13.out.2.2.2.1).lt
  have m20 := (HS13.out.2.2.2.1).1.1
  have m21 := (HS13.out.2.2.2.1).2.1
  have l3 := (HS13.out.2.2.2.2.1).lt
  have m30 := (HS13.out.2.2.2.2.1).1.1
  have m31 := (HS13.out.2.2.2.2.1).2.1
  have l4 := (HS13.out.2.2.2.2.2.1).lt
  have m40 := (HS13.out.2.2.2.2.2.1).1.1
  have m41 := (HS13.out.2.2.2.2.2.1).2.1
  have l5 := (HS13.out.2.2.2.2.2.2.1).lt
  have m50 := (HS13.out.2.2.2.2.2.2.1).1.1
  have m51 := (HS13.out.2.2.2.2.2.2.1).2.1
  have l6 := (HS13.out.2.2.2.2.2.2.2.1).lt
  have m60 := (HS13.out.2.2.2.2.2.2.2.1).1.1
  have m61 := (HS13.out.2.2.2.2.2.2.2.1).2.1
  have l7 := (HS13.out.2.2.2.2.2.2.2.2.1).lt
  have m70 := (HS13.out.2.2.2.2.2.2.2.2.1).1.1
  have m71 := (HS13.out.2.2.2.2.2.2.2.2.1).2.1
  have l8 := (HS13.out.2.2.2.2.2.2.2.2.2.1).lt
  have m80 := (HS13.out.2.2.2.2.2.2.2.2.2.1).1.1
  have m81 := (HS13.out.2.2.2.2.2.2.2.2.2.1).2.1
  have l9 := (HS13.out.2.2.2.2.2.2.2.2.2.2).lt
  have m90 := (HS13.out.2.2.2.2.2.2.2.2.2.2).1.1
  have m91 := (HS13.out.2.2.2.2.2.2.2.2.2.2).2.1
  have HAW := Lib.hid (awake_any w13 (tab_of HT.out HS13.out.1))
  go_wp2_with fail
  refine HAW.out.mono ?_
  rintro e wA ⟨rfl, cA⟩
  clear l0 m00 m01 l1 m10 m11 l2 m20 m21 l3 m30 m31 l4 m40 m41 l5 m50 m51 l6 m60 m61 l7 m70 m71 l8 m80 m81 l9 m90 m91
  go_wp2_with fail
  go_ret
  exact ⟨rfl, HS13.out.1.trans (cA.mono HS13.out.1.size)⟩

set_option maxHeartbeats 4000000 in
set_option maxRecDepth 100000 in
theorem divisors_pz (na nb nc : Bool) (sa sb sc : ByteArray) (w : World) (htab : Tab w) (ha : sa.size ≤ maxLen) (hb : sb.size ≤ maxLen) (hc : sc.size ≤ maxLen)
    (hg : (([(na, sa), (nb, sb), (nc, sc)] : List (Bool × ByteArray)).any fun p => decide ((60 : Int) < (p.2.size : Int))) = false) (hs : 0 ≤ ival nc sc) (hgz : Nat.gcd (ival na sa).natAbs (ival nb sb).natAbs = 0) :
    Calls Tryz.prog 10 #[.agg #[.bool na, .string sa], .agg #[.bool nb, .string sb], .agg #[.bool nc, .string sc]] w fun e w' => e = .returned (.bool true) ∧ Below w.heap.size w w' := by
  unfold maxLen at ha hb hc
  have HG := Lib.hid hg
  have HT := Lib.hid htab
  have hss : ∀ p ∈ ([(na, sa), (nb, sb), (nc, sc)] : List (Bool × ByteArray)), p.2.size ≤ 9223372036854775807 := by
    intro p hp
    simp at hp
    rcases hp with rfl | rfl | rfl <;> simp <;> omega
  have HSS := Lib.hid hss
  have HSG := Lib.hid (And.intro hs hgz)
  clear htab hg hss hs hgz
  go_enter Tryz.func10, Tryz.ntmps10
  go_wp2_with fail
  obtain ⟨W0, hW0⟩ : ∃ W0, (((w.alloc (Obj.cells #[Value.bool na, Value.string sa] 23)).alloc (Obj.cells #[Value.bool nb, Value.string sb] 23)).alloc (Obj.cells #[Value.bool nc, Value.string sc] 23)).alloc (Obj.cells #[Value.bool na, Value.string sa, Value.bool nb, Value.string sb, Value.bool nc, Value.string sc] 23) = W0 := ⟨_, rfl⟩
  have z0 : W0.heap.size = w.heap.size + 1 + 1 + 1 + 1 := by rw [← hW0]; simp
  have ta : Two (w.heap.size) (.bool na) (.string sa) W0 := by
    rw [← hW0]
    have h := two_new w (.bool na) (.string sa) 23
    (try simp only [World.size_alloc] at h)
    exact h.below (B0 := w.heap.size + 1) ((((Below.refl _ _).alloc (by simp) _).alloc (by simp) _).alloc (by simp) _) (by omega)
  have tb : Two (w.heap.size + 1) (.bool nb) (.string sb) W0 := by
    rw [← hW0]
    have h := two_new (w.alloc (Obj.cells #[Value.bool na, Value.string sa] 23)) (.bool nb) (.string sb) 23
    (try simp only [World.size_alloc] at h)
    exact h.below (B0 := w.heap.size + 1 + 1) (((Below.refl _ _).alloc (by simp) _).alloc (by simp) _) (by omega)
  have tc : Two (w.heap.size + 1 + 1) (.bool nc) (.string sc) W0 := by
    rw [← hW0]
    have h := two_new ((w.alloc (Obj.cells #[Value.bool na, Value.string sa] 23)).alloc (Obj.cells #[Value.bool nb, Value.string sb] 23)) (.bool nc) (.string sc) 23
    (try simp only [World.size_alloc] at h)
    exact h.below (B0 := w.heap.size + 1 + 1 + 1) ((Below.refl _ _).alloc (by simp) _) (by omega)
  have hrow : RowI W0 (w.heap.size + 1 + 1 + 1) [(na, sa), (nb, sb), (nc, sc)] := by
    rw [← hW0]
    have h := rowI_3 (((w.alloc (Obj.cells #[Value.bool na, Value.string sa] 23)).alloc (Obj.cells #[Value.bool nb, Value.string sb] 23)).alloc (Obj.cells #[Value.bool nc, Value.string sc] 23)) na nb nc sa sb sc 23
    simp only [World.size_alloc] at h
    exact h
  have b0 : Below w.heap.size w W0 := by
    rw [← hW0]
    exact (((((Below.refl _ _).alloc (Nat.le_refl _) _).alloc (by simp) _).alloc (by simp; omega) _).alloc (by simp; omega) _)
  rw [hW0]
  have hgr := great_any (w.heap.size + 1 + 1 + 1) [(na, sa), (nb, sb), (nc, sc)] W0 hrow (by omega) (by simp) HSS.out
  rw [HG.out] at hgr
  have HGR := Lib.hid hgr
  have H0 := Lib.hid (And.intro z0 (And.intro b0 (And.intro ta (And.intro tb (And.intro tc trivial)))))
  clear hW0 z0 hrow b0 hgr ta tb tc
  refine HGR.out.mono ?_
  rintro e wG ⟨rfl, cG⟩
  have bGG : Below w.heap.size w wG := H0.out.2.1.trans (cG.mono H0.out.2.1.size)
  have hsm := small_size HG.out
  have zx : Sz 60 (ival na sa) := Sz.ival na sa 60 (hsm (na, sa) (by simp))
  have px : sa.size ≤ 60 := hsm (na, sa) (by simp)
  obtain ⟨x, hx⟩ : ∃ x, ival na sa = x := ⟨_, rfl⟩
  have vx : Val na sa x := ⟨hx, Nat.le_trans px (by omega)⟩
  rw [hx] at zx
  have zy : Sz 60 (ival nb sb) := Sz.ival nb sb 60 (hsm (nb, sb) (by simp))
  have py : sb.size ≤ 60 := hsm (nb, sb) (by simp)
  obtain ⟨y, hy⟩ : ∃ y, ival nb sb = y := ⟨_, rfl⟩
  have vy : Val nb sb y := ⟨hy, Nat.le_trans py (by omega)⟩
  rw [hy] at zy
  have zz : Sz 60 (ival nc sc) := Sz.ival nc sc 60 (hsm (nc, sc) (by simp))
  have pz : sc.size ≤ 60 := hsm (nc, sc) (by simp)
  obtain ⟨z, hz⟩ : ∃ z, ival nc sc = z := ⟨_, rfl⟩
  have vz : Val nc sc z := ⟨hz, Nat.le_trans pz (by omega)⟩
  rw [hz] at zz
  have tA : Two (w.heap.size) (.bool na) (.string sa) wG := H0.out.2.2.1.below cG H0.out.2.2.1.lt
  have tB : Two (w.heap.size + 1) (.bool nb) (.string sb) wG := H0.out.2.2.2.1.below cG H0.out.2.2.2.1.lt
  have tC : Two (w.heap.size + 1 + 1) (.bool nc) (.string sc) wG := H0.out.2.2.2.2.1.below cG H0.out.2.2.2.2.1.lt
  have hsg := HSG.out
  rw [hx, hy, hz] at hsg
  obtain ⟨hz0, hg0⟩ := hsg
  have v0 : Val false ⟨#[]⟩ 0 := ⟨rfl, Nat.zero_le _⟩
  have m0 : Nam false ⟨#[]⟩ 0 := ⟨rfl, rfl⟩
  obtain ⟨g, hg⟩ : ∃ g, Nat.gcd x.natAbs y.natAbs = g := ⟨_, rfl⟩
  have hg' : Nat.gcd y.natAbs x.natAbs = g := by rw [Nat.gcd_comm]; exact hg
  rw [hg] at hg0
  have zg : Sz 60 (g : Int) := by
    unfold Sz at *
    rw [Int.natAbs_natCast]
    have h1 : g ≤ x.natAbs ∨ g = y.natAbs := by
      rcases Nat.eq_zero_or_pos x.natAbs with h | h
      · right; rw [← hg, h, Nat.gcd_zero_left]
      · left; rw [← hg]; exact Nat.gcd_le_left _ h
    rcases h1 with h | h <;> omega
  obtain ⟨bP, sP, mP⟩ := nam_ex (x * z)
  obtain ⟨bR, sR, mR⟩ := nam_ex (y * z)
  have vP := mP.val (zx.mul zz) (by omega)
  have vR := mR.val (zy.mul zz) (by omega)
  have zn : Sz 60 (z.natAbs : Int) := by unfold Sz at *; rw [Int.natAbs_natCast]; exact zz
  obtain ⟨bE, sE, mE⟩ := nam_ex ((g : Int) * (z.natAbs : Int))
  subst hg0
  have mG : Nam false ⟨#[]⟩ ((0 : Nat) : Int) := ⟨rfl, rfl⟩
  have vG := mG.val zg (by omega)
  have hzn : z = (z.natAbs : Int) := by omega
  obtain ⟨cz, hcz⟩ : ∃ cz, cmpZ z 0 = cz := ⟨_, rfl⟩
  have hcz0 : ¬ cz < 0 := by rw [← hcz]; unfold cmpZ; rw [if_neg (by omega)]; split <;> omega
  have K0 := Lib.hid (cmp_val vz v0 cz hcz)
  have R5 := Lib.hid (mul_val vG vz (congrArg (fun k : Int => _ * k) hzn) mE)
  have R1 := Lib.hid (gcd_val vx vy (by rw [hg]) mG)
  have R1b := Lib.hid (gcd_val vy vx (by rw [hg']) mG)
  have R2 := Lib.hid (mul_val vx vz rfl mP)
  have R3 := Lib.hid (mul_val vy vz rfl mR)
  have R4 := Lib.hid (gcd_val vP vR (gcd_times x y z _ hg) mE)
  have q1 := eql_int
  have q2 := neq_int
  have q3 := guard_int
  have e1 : eqI false ⟨#[]⟩ false ⟨#[]⟩ = true := mG.eq
  have e2 : eqI bE sE bE sE = true := mE.eq
  have hxy : x = 0 ∧ y = 0 := by
    have h1 := Nat.eq_zero_of_gcd_eq_zero_left hg
    have h2 := Nat.eq_zero_of_gcd_eq_zero_right hg
    omega
  have K1 := Lib.hid (cmp_val vx v0 0 (cmpZ_eq hxy.1))
  have K2 := Lib.hid (cmp_val vy v0 0 (cmpZ_eq hxy.2))
  have HS := Lib.hid (And.intro bGG (And.intro tA (And.intro tB tC)))
  clear hsm hx hy hz zx zy zz px py pz vx vy vz hz0 v0 m0 hg hg' zg mP mR vP vR zn mE mG vG hzn cG bGG tA tB tC hcz hxy
  have l0 := (HS.out.2.1).lt
  have m00 := (HS.out.2.1).1.1
  have m01 := (HS.out.2.1).2.1
  have l1 := (HS.out.2.2.1).lt
  have m10 := (HS.out.2.2.1).1.1
  have m11 := (HS.out.2.2.1).2.1
  have l2 := (HS.out.2.2.2).lt
  have m20 := (HS.out.2.2.2).1.1
  have m21 := (HS.out.2.2.2).2.1
  go_wp2_with fail
  clear l0 m00 m01 l1 m10 m11 l2 m20 m21
  obtain ⟨w1, hw1⟩ : ∃ V, (wG.alloc (Obj.cells #[Value.bool false, Value.string ⟨#[]⟩] 23)) = V := ⟨_, rfl⟩
  obtain ⟨B7, hB7⟩ : ∃ B, wG.heap.size = B := ⟨_, rfl⟩
  have bw1 : Below wG.heap.size wG w1 := by rw [← hw1]; exact ((Below.refl _ _).alloc (Nat.le_refl _) _)
  have tB7 : Two B7 (.bool false) (.string ⟨#[]⟩) w1 := by
    rw [← hw1, ← hB7]
    have h := two_new wG (.bool false) (.string ⟨#[]⟩) 23
    (try simp only [World.size_alloc] at h)
    exact h
  have hszw1 : wG.heap.size ≤ B7 := by omega
  rw [hw1, hB7]
  have f := HS.out.1.trans (bw1.mono HS.out.1.size)
  have t0 := (HS.out.2.1).below bw1 (HS.out.2.1).lt
  have t1 := (HS.out.2.2.1).below bw1 (HS.out.2.2.1).lt
  have t2 := (HS.out.2.2.2).below bw1 (HS.out.2.2.2).lt
  have ne3_0 : B7 ≠ w.heap.size := by have := (HS.out.2.1).lt; omega
  have en3_0 : w.heap.size ≠ B7 := fun e => ne3_0 e.symm
  have ne3_1 : B7 ≠ w.heap.size + 1 := by have := (HS.out.2.2.1).lt; omega
  have en3_1 : w.heap.size + 1 ≠ B7 := fun e => ne3_1 e.symm
  have ne3_2 : B7 ≠ w.heap.size + 1 + 1 := by have := (HS.out.2.2.2).lt; omega
  have en3_2 : w.heap.size + 1 + 1 ≠ B7 := fun e => ne3_2 e.symm
  have geB7 : w.heap.size ≤ B7 := by have := HS.out.1.size; omega
  have HS1 := Lib.hid (And.intro f (And.intro t0 (And.intro t1 (And.intro t2 tB7))))
  clear f hw1 bw1 hszw1 t0 t1 t2 tB7 hB7
  refine (R1.out _).mono ?_
  rintro e w2 ⟨rfl, c⟩
  have f := HS1.out.1.trans (c.mono HS1.out.1.size)
  have t0 := (HS1.out.2.1).below c (HS1.out.2.1).lt
  have t1 := (HS1.out.2.2.1).below c (HS1.out.2.2.1).lt
  have t2 := (HS1.out.2.2.2.1).below c (HS1.out.2.2.2.1).lt
  have t3 := (HS1.out.2.2.2.2).below c (HS1.out.2.2.2.2).lt
  have HS2 := Lib.hid (And.intro f (And.intro t0 (And.intro t1 (And.intro t2 t3))))
  clear c f t0 t1 t2 t3
  have l0 := (HS2.out.2.1).lt
  have m00 := (HS2.out.2.1).1.1
  have m01 := (HS2.out.2.1).2.1
  have l1 := (HS2.out.2.2.1).lt
  have m10 := (HS2.out.2.2.1).1.1
  have m11 := (HS2.out.2.2.1).2.1
  have l2 := (HS2.out.2.2.2.1).lt
  have m20 := (HS2.out.2.2.2.1).1.1
  have m21 := (HS2.out.2.2.2.1).2.1
  have l3 := (HS2.out.2.2.2.2).lt
  have m30 := (HS2.out.2.2.2.2).1.1
  have m31 := (HS2.out.2.2.2.2).2.1
  go_wp2_with fail
  clear l0 m00 m01 l1 m10 m11 l2 m20 m21 l3 m30 m31
  obtain ⟨w3, hw3⟩ : ∃ V, ((w2.alloc (Obj.cells #[Value.bool false, Value.string ⟨#[]⟩] 23)).alloc (Obj.cells #[Value.bool nc, Value.string sc] 23)) = V := ⟨_, rfl⟩
  obtain ⟨B8, hB8⟩ : ∃ B, w2.heap.size = B := ⟨_, rfl⟩
  obtain ⟨B9, hB9⟩ : ∃ B, B8 + 1 = B := ⟨_, rfl⟩
  have bw3 : Below w2.heap.size w2 w3 := by rw [← hw3]; exact (((Below.refl _ _).alloc (Nat.le_refl _) _).alloc (by simp) _)
  have tB8 : Two B8 (.bool false) (.string ⟨#[]⟩) w3 := by
    rw [← hw3, ← hB8]
    have h := two_new w2 (.bool false) (.string ⟨#[]⟩) 23
    (try simp only [World.size_alloc] at h)
    exact h.below (B0 := w2.heap.size + 1) ((Below.refl _ _).alloc (by simp) _) (by omega)
  have tB9 : Two B9 (.bool nc) (.string sc) w3 := by
    rw [← hw3, ← hB9, ← hB8]
    have h := two_new (w2.alloc (Obj.cells #[Value.bool false, Value.string ⟨#[]⟩] 23)) (.bool nc) (.string sc) 23
    (try simp only [World.size_alloc] at h)
    exact h
  have hszw3 : w2.heap.size ≤ B8 := by omega
  rw [hw3, hB8, hB9]
  have f := HS2.out.1.trans (bw3.mono HS2.out.1.size)
  have t0 := (HS2.out.2.1).below bw3 (HS2.out.2.1).lt
  have t1 := (HS2.out.2.2.1).below bw3 (HS2.out.2.2.1).lt
  have t2 := (HS2.out.2.2.2.1).below bw3 (HS2.out.2.2.2.1).lt
  have t3 := (HS2.out.2.2.2.2).below bw3 (HS2.out.2.2.2.2).lt
  have ne4_0 : B8 ≠ w.heap.size := by have := (HS2.out.2.1).lt; omega
  have en4_0 : w.heap.size ≠ B8 := fun e => ne4_0 e.symm
  have ne5_0 : B9 ≠ w.heap.size := by have := (HS2.out.2.1).lt; omega
  have en5_0 : w.heap.size ≠ B9 := fun e => ne5_0 e.symm
  have ne4_1 : B8 ≠ w.heap.size + 1 := by have := (HS2.out.2.2.1).lt; omega
  have en4_1 : w.heap.size + 1 ≠ B8 := fun e => ne4_1 e.symm
  have ne5_1 : B9 ≠ w.heap.size + 1 := by have := (HS2.out.2.2.1).lt; omega
  have en5_1 : w.heap.size + 1 ≠ B9 := fun e => ne5_1 e.symm
  have ne4_2 : B8 ≠ w.heap.size + 1 + 1 := by have := (HS2.out.2.2.2.1).lt; omega
  have en4_2 : w.heap.size + 1 + 1 ≠ B8 := fun e => ne4_2 e.symm
  have ne5_2 : B9 ≠ w.heap.size + 1 + 1 := by have := (HS2.out.2.2.2.1).lt; omega
  have en5_2 : w.heap.size + 1 + 1 ≠ B9 := fun e => ne5_2 e.symm
  have ne4_3 : B8 ≠ B7 := by have := (HS2.out.2.2.2.2).lt; omega
  have en4_3 : B7 ≠ B8 := fun e => ne4_3 e.symm
  have ne5_3 : B9 ≠ B7 := by have := (HS2.out.2.2.2.2).lt; omega
  have en5_3 : B7 ≠ B9 := fun e => ne5_3 e.symm
  have ne5_4 : B9 ≠ B8 := by omega
  have en5_4 : B8 ≠ B9 := by omega
  have geB8 : w.heap.size ≤ B8 := by have := HS2.out.1.size; omega
  have geB9 : w.heap.size ≤ B9 := by have := HS2.out.1.size; omega
  have HS3 := Lib.hid (And.intro f (And.intro t0 (And.intro t1 (And.intro t2 (And.intro t3 (And.intro tB8 tB9))))))
  clear f hw3 bw3 hszw3 t0 t1 t2 t3 tB8 tB9 hB9 hB8
  refine (K0.out _).mono ?_
  rintro e w4 ⟨rfl, c⟩
  have f := HS3.out.1.trans (c.mono HS3.out.1.size)
  have t0 := (HS3.out.2.1).below c (HS3.out.2.1).lt
  have t1 := (HS3.out.2.2.1).below c (HS3.out.2.2.1).lt
  have t2 := (HS3.out.2.2.2.1).below c (HS3.out.2.2.2.1).lt
  have t3 := (HS3.out.2.2.2.2.1).below c (HS3.out.2.2.2.2.1).lt
  have t4 := (HS3.out.2.2.2.2.2.1).below c (HS3.out.2.2.2.2.2.1).lt
  have t5 := (HS3.out.2.2.2.2.2.2).below c (HS3.out.2.2.2.2.2.2).lt
  have HS4 := Lib.hid (And.intro f (And.intro t0 (And.intro t1 (And.intro t2 (And.intro t3 (And.intro t4 t5))))))
  clear c f t0 t1 t2 t3 t4 t5
  go_wp2_with fail
  have l0 := (HS4.out.2.1).lt
  have m00 := (HS4.out.2.1).1.1
  have m01 := (HS4.out.2.1).2.1
  have l1 := (HS4.out.2.2.1).lt
  have m10 := (HS4.out.2.2.1).1.1
  have m11 := (HS4.out.2.2.1).2.1
  have l2 := (HS4.out.2.2.2.1).lt
  have m20 := (HS4.out.2.2.2.1).1.1
  have m21 := (HS4.out.2.2.2.1).2.1
  have l3 := (HS4.out.2.2.2.2.1).lt
  have m30 := (HS4.out.2.2.2.2.1).1.1
  have m31 := (HS4.out.2.2.2.2.1).2.1
  have l4 := (HS4.out.2.2.2.2.2.1).lt
  have m40 := (HS4.out.2.2.2.2.2.1).1.1
  have m41 := (HS4.out.2.2.2.2.2.1).2.1
  have l5 := (HS4.out.2.2.2.2.2.2).lt
  have m50 := (HS4.out.2.2.2.2.2.2).1.1
  have m51 := (HS4.out.2.2.2.2.2.2).2.1
  have tok1 : True := trivial
  have tok2 : True := trivial
  have tok3 : True := trivial
  have tok4 : True := trivial
  have tok5 : True := trivial
  go_region_held3 (fun w' => ∀ (a o : Nat), a < w4.heap.size → w'.cell? ⟨a, o, none⟩ = w4.cell? ⟨a, o, none⟩) (first | assumption | (intro _ _ _; rfl))
    (first | (go_at_call 38; have _t := tok1; clear tok1; refine (R1b.out _).mono ?_; rintro e u1 ⟨rfl, d1⟩; have E1 := Lib.hid (d1); have kS1 : ∀ (a o : Nat), a < w4.heap.size → u1.cell? ⟨a, o, none⟩ = w4.cell? ⟨a, o, none⟩ := fun a o h => E1.out.cell (p := ⟨a, o, none⟩) h; have hz1 : w4.heap.size ≤ u1.heap.size := E1.out.size; clear d1) | (go_at_call 32; have _t := tok2; clear tok2; refine (R2.out _).mono ?_; rintro e u2 ⟨rfl, d2⟩; have E2 := Lib.hid (E1.out.trans (d2.mono E1.out.size)); have kS2 : ∀ (a o : Nat), a < w4.heap.size → u2.cell? ⟨a, o, none⟩ = w4.cell? ⟨a, o, none⟩ := fun a o h => E2.out.cell (p := ⟨a, o, none⟩) h; have hz2 : w4.heap.size ≤ u2.heap.size := E2.out.size; clear d2) | (go_at_call 32; have _t := tok3; clear tok3; refine (R3.out _).mono ?_; rintro e u3 ⟨rfl, d3⟩; have E3 := Lib.hid (E2.out.trans (d3.mono E2.out.size)); have kS3 : ∀ (a o : Nat), a < w4.heap.size → u3.cell? ⟨a, o, none⟩ = w4.cell? ⟨a, o, none⟩ := fun a o h => E3.out.cell (p := ⟨a, o, none⟩) h; have hz3 : w4.heap.size ≤ u3.heap.size := E3.out.size; clear d3) | (go_at_call 38; have _t := tok4; clear tok4; refine (R4.out _).mono ?_; rintro e u4 ⟨rfl, d4⟩; have E4 := Lib.hid (E3.out.trans (d4.mono E3.out.size)); have kS4 : ∀ (a o : Nat), a < w4.heap.size → u4.cell? ⟨a, o, none⟩ = w4.cell? ⟨a, o, none⟩ := fun a o h => E4.out.cell (p := ⟨a, o, none⟩) h; have hz4 : w4.heap.size ≤ u4.heap.size := E4.out.size; clear d4) | (go_at_call 32; have _t := tok5; clear tok5; refine (R5.out _).mono ?_; rintro e u5 ⟨rfl, d5⟩; have E5 := Lib.hid (E4.out.trans (d5.mono E4.out.size)); have kS5 : ∀ (a o : Nat), a < w4.heap.size → u5.cell? ⟨a, o, none⟩ = w4.cell? ⟨a, o, none⟩ := fun a o h => E5.out.cell (p := ⟨a, o, none⟩) h; have hz5 : w4.heap.size ≤ u5.heap.size := E5.out.size; clear d5))
  have hb := ((Below.refl w4.heap.size w4).drew).trans E5.out
  have f := HS4.out.1.trans (hb.mono HS4.out.1.size)
  have t0 := (HS4.out.2.1).below hb (HS4.out.2.1).lt
  have t1 := (HS4.out.2.2.1).below hb (HS4.out.2.2.1).lt
  have t2 := (HS4.out.2.2.2.1).below hb (HS4.out.2.2.2.1).lt
  have t3 := (HS4.out.2.2.2.2.1).below hb (HS4.out.2.2.2.2.1).lt
  have t4 := (HS4.out.2.2.2.2.2.1).below hb (HS4.out.2.2.2.2.2.1).lt
  have t5 := (HS4.out.2.2.2.2.2.2).below hb (HS4.out.2.2.2.2.2.2).lt
  clear l0 m00 m01 l1 m10 m11 l2 m20 m21 l3 m30 m31 l4 m40 m41 l5 m50 m51
  have HS7 := Lib.hid (And.intro f (And.intro t0 (And.intro t1 (And.intro t2 (And.intro t3 (And.intro t4 t5))))))
  clear hb f t0 t1 t2 t3 t4 t5
  clear kS1 hz1 kS2 hz2 kS3 hz3 kS4 hz4 kS5 hz5
  have l0 := (HS7.out.2.1).lt
  have m00 := (HS7.out.2.1).1.1
  have m01 := (HS7.out.2.1).2.1
  have l1 := (HS7.out.2.2.1).lt
  have m10 := (HS7.out.2.2.1).1.1
  have m11 := (HS7.out.2.2.1).2.1
  have l2 := (HS7.out.2.2.2.1).lt
  have m20 := (HS7.out.2.2.2.1).1.1
  have m21 := (HS7.out.2.2.2.1).2.1
  have l3 := (HS7.out.2.2.2.2.1).lt
  have m30 := (HS7.out.2.2.2.2.1).1.1
  have m31 := (HS7.out.2.2.2.2.1).2.1
  have l4 := (HS7.out.2.2.2.2.2.1).lt
  have m40 := (HS7.out.2.2.2.2.2.1).1.1
  have m41 := (HS7.out.2.2.2.2.2.1).2.1
  have l5 := (HS7.out.2.2.2.2.2.2).lt
  have m50 := (HS7.out.2.2.2.2.2.2).1.1
  have m51 := (HS7.out.2.2.2.2.2.2).2.1
  go_wp2_with fail
  clear l0 m00 m01 l1 m10 m11 l2 m20 m21 l3 m30 m31 l4 m40 m41 l5 m50 m51
  refine (K1.out _).mono ?_
  rintro e w8 ⟨rfl, c⟩
  have f := HS7.out.1.trans (c.mono HS7.out.1.size)
  have t0 := (HS7.out.2.1).below c (HS7.out.2.1).lt
  have t1 := (HS7.out.2.2.1).below c (HS7.out.2.2.1).lt
  have t2 := (HS7.out.2.2.2.1).below c (HS7.out.2.2.2.1).lt
  have t3 := (HS7.out.2.2.2.2.1).below c (HS7.out.2.2.2.2.1).lt
  have t4 := (HS7.out.2.2.2.2.2.1).below c (HS7.out.2.2.2.2.2.1).lt
  have t5 := (HS7.out.2.2.2.2.2.2).below c (HS7.out.2.2.2.2.2.2).lt
  have HS8 := Lib.hid (And.intro f (And.intro t0 (And.intro t1 (And.intro t2 (And.intro t3 (And.intro t4 t5))))))
  clear c f t0 t1 t2 t3 t4 t5
  have l0 := (HS8.out.2.1).lt
  have m00 := (HS8.out.2.1).1.1
  have m01 := (HS8.out.2.1).2.1
  have l1 := (HS8.out.2.2.1).lt
  have m10 := (HS8.out.2.2.1).1.1
  have m11 := (HS8.out.2.2.1).2.1
  have l2 := (HS8.out.2.2.2.1).lt
  have m20 := (HS8.out.2.2.2.1).1.1
  have m21 := (HS8.out.2.2.2.1).2.1
  have l3 := (HS8.out.2.2.2.2.1).lt
  have m30 := (HS8.out.2.2.2.2.1).1.1
  have m31 := (HS8.out.2.2.2.2.1).2.1
  have l4 := (HS8.out.2.2.2.2.2.1).lt
  have m40 := (HS8.out.2.2.2.2.2.1).1.1
  have m41 := (HS8.out.2.2.2.2.2.1).2.1
  have l5 := (HS8.out.2.2.2.2.2.2).lt
  have m50 := (HS8.out.2.2.2.2.2.2).1.1
  have m51 := (HS8.out.2.2.2.2.2.2).2.1
  go_wp2_with fail
  clear l0 m00 m01 l1 m10 m11 l2 m20 m21 l3 m30 m31 l4 m40 m41 l5 m50 m51
  refine (K2.out _).mono ?_
  rintro e w9 ⟨rfl, c⟩
  have f := HS8.out.1.trans (c.mono HS8.out.1.size)
  have t0 := (HS8.out.2.1).below c (HS8.out.2.1).lt
  have t1 := (HS8.out.2.2.1).below c (HS8.out.2.2.1).lt
  have t2 := (HS8.out.2.2.2.1).below c (HS8.out.2.2.2.1).lt
  have t3 := (HS8.out.2.2.2.2.1).below c (HS8.out.2.2.2.2.1).lt
  have t4 := (HS8.out.2.2.2.2.2.1).below c (HS8.out.2.2.2.2.2.1).lt
  have t5 := (HS8.out.2.2.2.2.2.2).below c (HS8.out.2.2.2.2.2.2).lt
  have HS9 := Lib.hid (And.intro f (And.intro t0 (And.intro t1 (And.intro t2 (And.intro t3 (And.intro t4 t5))))))
  clear c f t0 t1 t2 t3 t4 t5
  have l0 := (HS9.out.2.1).lt
  have m00 := (HS9.out.2.1).1.1
  have m01 := (HS9.out.2.1).2.1
  have l1 := (HS9.out.2.2.1).lt
  have m10 := (HS9.out.2.2.1).1.1
  have m11 := (HS9.out.2.2.1).2.1
  have l2 := (HS9.out.2.2.2.1).lt
  have m20 := (HS9.out.2.2.2.1).1.1
  have m21 := (HS9.out.2.2.2.1).2.1
  have l3 := (HS9.out.2.2.2.2.1).lt
  have m30 := (HS9.out.2.2.2.2.1).1.1
  have m31 := (HS9.out.2.2.2.2.1).2.1
  have l4 := (HS9.out.2.2.2.2.2.1).lt
  have m40 := (HS9.out.2.2.2.2.2.1).1.1
  have m41 := (HS9.out.2.2.2.2.2.1).2.1
  have l5 := (HS9.out.2.2.2.2.2.2).lt
  have m50 := (HS9.out.2.2.2.2.2.2).1.1
  have m51 := (HS9.out.2.2.2.2.2.2).2.1
  have HAW := Lib.hid (awake_any w9 (tab_of HT.out HS9.out.1))
  go_wp2_with fail
  refine HAW.out.mono ?_
  rintro e wA ⟨rfl, cA⟩
  clear l0 m00 m01 l1 m10 m11 l2 m20 m21 l3 m30 m31 l4 m40 m41 l5 m50 m51
  go_wp2_with fail
  go_ret
  exact ⟨rfl, HS9.out.1.trans (cA.mono HS9.out.1.size)⟩

set_option maxHeartbeats 4000000 in
set_option maxRecDepth 100000 in
theorem divisors_pg (na nb nc : Bool) (sa sb sc : ByteArray) (w : World) (htab : Tab w) (ha : sa.size ≤ maxLen) (hb : sb.size ≤ maxLen) (hc : sc.size ≤ maxLen)
    (hg : (([(na, sa), (nb, sb), (nc, sc)] : List (Bool × ByteArray)).any fun p => decide ((60 : Int) < (p.2.size : Int))) = false) (hs : 0 ≤ ival nc sc) (hgz : 0 < Nat.gcd (ival na sa).natAbs (ival nb sb).natAbs) :
    Calls Tryz.prog 10 #[.agg #[.bool na, .string sa], .agg #[.bool nb, .string sb], .agg #[.bool nc, .string sc]] w fun e w' => e = .returned (.bool true) ∧ Below w.heap.size w w' := by
  unfold maxLen at ha hb hc
  have HG := Lib.hid hg
  have HT := Lib.hid htab
  have hss : ∀ p ∈ ([(na, sa), (nb, sb), (nc, sc)] : List (Bool × ByteArray)), p.2.size ≤ 9223372036854775807 := by
    intro p hp
    simp at hp
    rcases hp with rfl | rfl | rfl <;> simp <;> omega
  have HSS := Lib.hid hss
  have HSG := Lib.hid (And.intro hs hgz)
  clear htab hg hss hs hgz
  go_enter Tryz.func10, Tryz.ntmps10
  go_wp2_with fail
  obtain ⟨W0, hW0⟩ : ∃ W0, (((w.alloc (Obj.cells #[Value.bool na, Value.string sa] 23)).alloc (Obj.cells #[Value.bool nb, Value.string sb] 23)).alloc (Obj.cells #[Value.bool nc, Value.string sc] 23)).alloc (Obj.cells #[Value.bool na, Value.string sa, Value.bool nb, Value.string sb, Value.bool nc, Value.string sc] 23) = W0 := ⟨_, rfl⟩
  have z0 : W0.heap.size = w.heap.size + 1 + 1 + 1 + 1 := by rw [← hW0]; simp
  have ta : Two (w.heap.size) (.bool na) (.string sa) W0 := by
    rw [← hW0]
    have h := two_new w (.bool na) (.string sa) 23
    (try simp only [World.size_alloc] at h)
    exact h.below (B0 := w.heap.size + 1) ((((Below.refl _ _).alloc (by simp) _).alloc (by simp) _).alloc (by simp) _) (by omega)
  have tb : Two (w.heap.size + 1) (.bool nb) (.string sb) W0 := by
    rw [← hW0]
    have h := two_new (w.alloc (Obj.cells #[Value.bool na, Value.string sa] 23)) (.bool nb) (.string sb) 23
    (try simp only [World.size_alloc] at h)
    exact h.below (B0 := w.heap.size + 1 + 1) (((Below.refl _ _).alloc (by simp) _).alloc (by simp) _) (by omega)
  have tc : Two (w.heap.size + 1 + 1) (.bool nc) (.string sc) W0 := by
    rw [← hW0]
    have h := two_new ((w.alloc (Obj.cells #[Value.bool na, Value.string sa] 23)).alloc (Obj.cells #[Value.bool nb, Value.string sb] 23)) (.bool nc) (.string sc) 23
    (try simp only [World.size_alloc] at h)
    exact h.below (B0 := w.heap.size + 1 + 1 + 1) ((Below.refl _ _).alloc (by simp) _) (by omega)
  have hrow : RowI W0 (w.heap.size + 1 + 1 + 1) [(na, sa), (nb, sb), (nc, sc)] := by
    rw [← hW0]
    have h := rowI_3 (((w.alloc (Obj.cells #[Value.bool na, Value.string sa] 23)).alloc (Obj.cells #[Value.bool nb, Value.string sb] 23)).alloc (Obj.cells #[Value.bool nc, Value.string sc] 23)) na nb nc sa sb sc 23
    simp only [World.size_alloc] at h
    exact h
  have b0 : Below w.heap.size w W0 := by
    rw [← hW0]
    exact (((((Below.refl _ _).alloc (Nat.le_refl _) _).alloc (by simp) _).alloc (by simp; omega) _).alloc (by simp; omega) _)
  rw [hW0]
  have hgr := great_any (w.heap.size + 1 + 1 + 1) [(na, sa), (nb, sb), (nc, sc)] W0 hrow (by omega) (by simp) HSS.out
  rw [HG.out] at hgr
  have HGR := Lib.hid hgr
  have H0 := Lib.hid (And.intro z0 (And.intro b0 (And.intro ta (And.intro tb (And.intro tc trivial)))))
  clear hW0 z0 hrow b0 hgr ta tb tc
  refine HGR.out.mono ?_
  rintro e wG ⟨rfl, cG⟩
  have bGG : Below w.heap.size w wG := H0.out.2.1.trans (cG.mono H0.out.2.1.size)
  have hsm := small_size HG.out
  have zx : Sz 60 (ival na sa) := Sz.ival na sa 60 (hsm (na, sa) (by simp))
  have px : sa.size ≤ 60 := hsm (na, sa) (by simp)
  obtain ⟨x, hx⟩ : ∃ x, ival na sa = x := ⟨_, rfl⟩
  have vx : Val na sa x := ⟨hx, Nat.le_trans px (by omega)⟩
  rw [hx] at zx
  have zy : Sz 60 (ival nb sb) := Sz.ival nb sb 60 (hsm (nb, sb) (by simp))
  have py : sb.size ≤ 60 := hsm (nb, sb) (by simp)
  obtain ⟨y, hy⟩ : ∃ y, ival nb sb = y := ⟨_, rfl⟩
  have vy : Val nb sb y := ⟨hy, Nat.le_trans py (by omega)⟩
  rw [hy] at zy
  have zz : Sz 60 (ival nc sc) := Sz.ival nc sc 60 (hsm (nc, sc) (by simp))
  have pz : sc.size ≤ 60 := hsm (nc, sc) (by simp)
  obtain ⟨z, hz⟩ : ∃ z, ival nc sc = z := ⟨_, rfl⟩
  have vz : Val nc sc z := ⟨hz, Nat.le_trans pz (by omega)⟩
  rw [hz] at zz
  have tA : Two (w.heap.size) (.bool na) (.string sa) wG := H0.out.2.2.1.below cG H0.out.2.2.1.lt
  have tB : Two (w.heap.size + 1) (.bool nb) (.string sb) wG := H0.out.2.2.2.1.below cG H0.out.2.2.2.1.lt
  have tC : Two (w.heap.size + 1 + 1) (.bool nc) (.string sc) wG := H0.out.2.2.2.2.1.below cG H0.out.2.2.2.2.1.lt
  have hsg := HSG.out
  rw [hx, hy, hz] at hsg
  obtain ⟨hz0, hg0⟩ := hsg
  have v0 : Val false ⟨#[]⟩ 0 := ⟨rfl, Nat.zero_le _⟩
  have m0 : Nam false ⟨#[]⟩ 0 := ⟨rfl, rfl⟩
  obtain ⟨g, hg⟩ : ∃ g, Nat.gcd x.natAbs y.natAbs = g := ⟨_, rfl⟩
  have hg' : Nat.gcd y.natAbs x.natAbs = g := by rw [Nat.gcd_comm]; exact hg
  rw [hg] at hg0
  have zg : Sz 60 (g : Int) := by
    unfold Sz at *
    rw [Int.natAbs_natCast]
    have h1 : g ≤ x.natAbs ∨ g = y.natAbs := by
      rcases Nat.eq_zero_or_pos x.natAbs with h | h
      · right; rw [← hg, h, Nat.gcd_zero_left]
      · left; rw [← hg]; exact Nat.gcd_le_left _ h
    rcases h1 with h | h <;> omega
  obtain ⟨bP, sP, mP⟩ := nam_ex (x * z)
  obtain ⟨bR, sR, mR⟩ := nam_ex (y * z)
  have vP := mP.val (zx.mul zz) (by omega)
  have vR := mR.val (zy.mul zz) (by omega)
  have zn : Sz 60 (z.natAbs : Int) := by unfold Sz at *; rw [Int.natAbs_natCast]; exact zz
  obtain ⟨bE, sE, mE⟩ := nam_ex ((g : Int) * (z.natAbs : Int))
  obtain ⟨bG, sG, mG⟩ := nam_ex (g : Int)
  have hbG : bG = false := by obtain ⟨rfl, _⟩ := mG; exact decide_eq_false (by omega)
  subst hbG
  have vG := mG.val zg (by omega)
  have hzn : z = (z.natAbs : Int) := by omega
  obtain ⟨cz, hcz⟩ : ∃ cz, cmpZ z 0 = cz := ⟨_, rfl⟩
  have hcz0 : ¬ cz < 0 := by rw [← hcz]; unfold cmpZ; rw [if_neg (by omega)]; split <;> omega
  have K0 := Lib.hid (cmp_val vz v0 cz hcz)
  have R5 := Lib.hid (mul_val vG vz (congrArg (fun k : Int => _ * k) hzn) mE)
  have R1 := Lib.hid (gcd_val vx vy (by rw [hg]) mG)
  have R1b := Lib.hid (gcd_val vy vx (by rw [hg']) mG)
  have R2 := Lib.hid (mul_val vx vz rfl mP)
  have R3 := Lib.hid (mul_val vy vz rfl mR)
  have R4 := Lib.hid (gcd_val vP vR (gcd_times x y z _ hg) mE)
  have q1 := eql_int
  have q2 := neq_int
  have q3 := guard_int
  have e1 : eqI false sG false sG = true := mG.eq
  have e2 : eqI bE sE bE sE = true := mE.eq
  obtain ⟨p, q, hd1, hd2, hpq, hpl, hql⟩ := gcd_parts x y g hg hg0
  have zp : Sz 60 p := by unfold Sz at *; omega
  have zq : Sz 60 q := by unfold Sz at *; omega
  obtain ⟨bp, sp, mp⟩ := nam_ex p
  obtain ⟨bq, sq, mq⟩ := nam_ex q
  have m1 : Nam false ⟨#[1]⟩ 1 := ⟨by decide, by decide⟩
  have D1 := Lib.hid (divAll_val vx vG (by omega) hd1 mp m0)
  have D2 := Lib.hid (divAll_val vy vG (by omega) hd2 mq m0)
  have K1 := Lib.hid (gcd_val (mp.val zp (by omega)) (mq.val zq (by omega)) (by rw [hpq]; rfl) m1)
  have K2 := Lib.hid (of_lit 1 false ⟨#[1]⟩ (by decide) (by decide) (by omega) (by omega))
  have e3 : eqI false sG false ⟨#[]⟩ = false := by
    have h := eqI_ints (g : Int) 0
    rw [mG.sign, mG.mag] at h
    exact h.trans (decide_eq_false (by omega))
  have e4 : eqI false ⟨#[1]⟩ false ⟨#[1]⟩ = true := m1.eq
  have e0 : eqI false ⟨#[]⟩ false ⟨#[]⟩ = true := m0.eq
  have HS := Lib.hid (And.intro bGG (And.intro tA (And.intro tB tC)))
  clear hsm hx hy hz zx zy zz px py pz vx vy vz hz0 v0 m0 hg hg' zg mP mR vP vR zn mE mG vG hzn cG bGG tA tB tC hcz hg0 hd1 hd2 hpq hpl hql zp zq mp mq m1
  have l0 := (HS.out.2.1).lt
  have m00 := (HS.out.2.1).1.1
  have m01 := (HS.out.2.1).2.1
  have l1 := (HS.out.2.2.1).lt
  have m10 := (HS.out.2.2.1).1.1
  have m11 := (HS.out.2.2.1).2.1
  have l2 := (HS.out.2.2.2).lt
  have m20 := (HS.out.2.2.2).1.1
  have m21 := (HS.out.2.2.2).2.1
  go_wp2_with fail
  clear l0 m00 m01 l1 m10 m11 l2 m20 m21
  obtain ⟨w1, hw1⟩ : ∃ V, (wG.alloc (Obj.cells #[Value.bool false, Value.string ⟨#[]⟩] 23)) = V := ⟨_, rfl⟩
  obtain ⟨B7, hB7⟩ : ∃ B, wG.heap.size = B := ⟨_, rfl⟩
  have bw1 : Below wG.heap.size wG w1 := by rw [← hw1]; exact ((Below.refl _ _).alloc (Nat.le_refl _) _)
  have tB7 : Two B7 (.bool false) (.string ⟨#[]⟩) w1 := by
    rw [← hw1, ← hB7]
    have h := two_new wG (.bool false) (.string ⟨#[]⟩) 23
    (try simp only [World.size_alloc] at h)
    exact h
  have hszw1 : wG.heap.size ≤ B7 := by omega
  rw [hw1, hB7]
  have f := HS.out.1.trans (bw1.mono HS.out.1.size)
  have t0 := (HS.out.2.1).below bw1 (HS.out.2.1).lt
  have t1 := (HS.out.2.2.1).below bw1 (HS.out.2.2.1).lt
  have t2 := (HS.out.2.2.2).below bw1 (HS.out.2.2.2).lt
  have ne3_0 : B7 ≠ w.heap.size := by have := (HS.out.2.1).lt; omega
  have en3_0 : w.heap.size ≠ B7 := fun e => ne3_0 e.symm
  have ne3_1 : B7 ≠ w.heap.size + 1 := by have := (HS.out.2.2.1).lt; omega
  have en3_1 : w.heap.size + 1 ≠ B7 := fun e => ne3_1 e.symm
  have ne3_2 : B7 ≠ w.heap.size + 1 + 1 := by have := (HS.out.2.2.2).lt; omega
  have en3_2 : w.heap.size + 1 + 1 ≠ B7 := fun e => ne3_2 e.symm
  have geB7 : w.heap.size ≤ B7 := by have := HS.out.1.size; omega
  have HS1 := Lib.hid (And.intro f (And.intro t0 (And.intro t1 (And.intro t2 tB7))))
  clear f hw1 bw1 hszw1 t0 t1 t2 tB7 hB7
  refine (R1.out _).mono ?_
  rintro e w2 ⟨rfl, c⟩
  have f := HS1.out.1.trans (c.mono HS1.out.1.size)
  have t0 := (HS1.out.2.1).below c (HS1.out.2.1).lt
  have t1 := (HS1.out.2.2.1).below c (HS1.out.2.2.1).lt
  have t2 := (HS1.out.2.2.2.1).below c (HS1.out.2.2.2.1).lt
  have t3 := (HS1.out.2.2.2.2).below c (HS1.out.2.2.2.2).lt
  have HS2 := Lib.hid (And.intro f (And.intro t0 (And.intro t1 (And.intro t2 t3))))
  clear c f t0 t1 t2 t3
  have l0 := (HS2.out.2.1).lt
  have m00 := (HS2.out.2.1).1.1
  have m01 := (HS2.out.2.1).2.1
  have l1 := (HS2.out.2.2.1).lt
  have m10 := (HS2.out.2.2.1).1.1
  have m11 := (HS2.out.2.2.1).2.1
  have l2 := (HS2.out.2.2.2.1).lt
  have m20 := (HS2.out.2.2.2.1).1.1
  have m21 := (HS2.out.2.2.2.1).2.1
  have l3 := (HS2.out.2.2.2.2).lt
  have m30 := (HS2.out.2.2.2.2).1.1
  have m31 := (HS2.out.2.2.2.2).2.1
  go_wp2_with fail
  clear l0 m00 m01 l1 m10 m11 l2 m20 m21 l3 m30 m31
  obtain ⟨w3, hw3⟩ : ∃ V, ((w2.alloc (Obj.cells #[Value.bool false, Value.string sG] 23)).alloc (Obj.cells #[Value.bool nc, Value.string sc] 23)) = V := ⟨_, rfl⟩
  obtain ⟨B8, hB8⟩ : ∃ B, w2.heap.size = B := ⟨_, rfl⟩
  obtain ⟨B9, hB9⟩ : ∃ B, B8 + 1 = B := ⟨_, rfl⟩
  have bw3 : Below w2.heap.size w2 w3 := by rw [← hw3]; exact (((Below.refl _ _).alloc (Nat.le_refl _) _).alloc (by simp) _)
  have tB8 : Two B8 (.bool false) (.string sG) w3 := by
    rw [← hw3, ← hB8]
    have h := two_new w2 (.bool false) (.string sG) 23
    (try simp only [World.size_alloc] at h)
    exact h.below (B0 := w2.heap.size + 1) ((Below.refl _ _).alloc (by simp) _) (by omega)
  have tB9 : Two B9 (.bool nc) (.string sc) w3 := by
    rw [← hw3, ← hB9, ← hB8]
    have h := two_new (w2.alloc (Obj.cells #[Value.bool false, Value.string sG] 23)) (.bool nc) (.string sc) 23
    (try simp only [World.size_alloc] at h)
    exact h
  have hszw3 : w2.heap.size ≤ B8 := by omega
  rw [hw3, hB8, hB9]
  have f := HS2.out.1.trans (bw3.mono HS2.out.1.size)
  have t0 := (HS2.out.2.1).below bw3 (HS2.out.2.1).lt
  have t1 := (HS2.out.2.2.1).below bw3 (HS2.out.2.2.1).lt
  have t2 := (HS2.out.2.2.2.1).below bw3 (HS2.out.2.2.2.1).lt
  have t3 := (HS2.out.2.2.2.2).below bw3 (HS2.out.2.2.2.2).lt
  have ne4_0 : B8 ≠ w.heap.size := by have := (HS2.out.2.1).lt; omega
  have en4_0 : w.heap.size ≠ B8 := fun e => ne4_0 e.symm
  have ne5_0 : B9 ≠ w.heap.size := by have := (HS2.out.2.1).lt; omega
  have en5_0 : w.heap.size ≠ B9 := fun e => ne5_0 e.symm
  have ne4_1 : B8 ≠ w.heap.size + 1 := by have := (HS2.out.2.2.1).lt; omega
  have en4_1 : w.heap.size + 1 ≠ B8 := fun e => ne4_1 e.symm
  have ne5_1 : B9 ≠ w.heap.size + 1 := by have := (HS2.out.2.2.1).lt; omega
  have en5_1 : w.heap.size + 1 ≠ B9 := fun e => ne5_1 e.symm
  have ne4_2 : B8 ≠ w.heap.size + 1 + 1 := by have := (HS2.out.2.2.2.1).lt; omega
  have en4_2 : w.heap.size + 1 + 1 ≠ B8 := fun e => ne4_2 e.symm
  have ne5_2 : B9 ≠ w.heap.size + 1 + 1 := by have := (HS2.out.2.2.2.1).lt; omega
  have en5_2 : w.heap.size + 1 + 1 ≠ B9 := fun e => ne5_2 e.symm
  have ne4_3 : B8 ≠ B7 := by have := (HS2.out.2.2.2.2).lt; omega
  have en4_3 : B7 ≠ B8 := fun e => ne4_3 e.symm
  have ne5_3 : B9 ≠ B7 := by have := (HS2.out.2.2.2.2).lt; omega
  have en5_3 : B7 ≠ B9 := fun e => ne5_3 e.symm
  have ne5_4 : B9 ≠ B8 := by omega
  have en5_4 : B8 ≠ B9 := by omega
  have geB8 : w.heap.size ≤ B8 := by have := HS2.out.1.size; omega
  have geB9 : w.heap.size ≤ B9 := by have := HS2.out.1.size; omega
  have HS3 := Lib.hid (And.intro f (And.intro t0 (And.intro t1 (And.intro t2 (And.intro t3 (And.intro tB8 tB9))))))
  clear f hw3 bw3 hszw3 t0 t1 t2 t3 tB8 tB9 hB9 hB8
  refine (K0.out _).mono ?_
  rintro e w4 ⟨rfl, c⟩
  have f := HS3.out.1.trans (c.mono HS3.out.1.size)
  have t0 := (HS3.out.2.1).below c (HS3.out.2.1).lt
  have t1 := (HS3.out.2.2.1).below c (HS3.out.2.2.1).lt
  have t2 := (HS3.out.2.2.2.1).below c (HS3.out.2.2.2.1).lt
  have t3 := (HS3.out.2.2.2.2.1).below c (HS3.out.2.2.2.2.1).lt
  have t4 := (HS3.out.2.2.2.2.2.1).below c (HS3.out.2.2.2.2.2.1).lt
  have t5 := (HS3.out.2.2.2.2.2.2).below c (HS3.out.2.2.2.2.2.2).lt
  have HS4 := Lib.hid (And.intro f (And.intro t0 (And.intro t1 (And.intro t2 (And.intro t3 (And.intro t4 t5))))))
  clear c f t0 t1 t2 t3 t4 t5
  go_wp2_with fail
  have l0 := (HS4.out.2.1).lt
  have m00 := (HS4.out.2.1).1.1
  have m01 := (HS4.out.2.1).2.1
  have l1 := (HS4.out.2.2.1).lt
  have m10 := (HS4.out.2.2.1).1.1
  have m11 := (HS4.out.2.2.1).2.1
  have l2 := (HS4.out.2.2.2.1).lt
  have m20 := (HS4.out.2.2.2.1).1.1
  have m21 := (HS4.out.2.2.2.1).2.1
  have l3 := (HS4.out.2.2.2.2.1).lt
  have m30 := (HS4.out.2.2.2.2.1).1.1
  have m31 := (HS4.out.2.2.2.2.1).2.1
  have l4 := (HS4.out.2.2.2.2.2.1).lt
  have m40 := (HS4.out.2.2.2.2.2.1).1.1
  have m41 := (HS4.out.2.2.2.2.2.1).2.1
  have l5 := (HS4.out.2.2.2.2.2.2).lt
  have m50 := (HS4.out.2.2.2.2.2.2).1.1
  have m51 := (HS4.out.2.2.2.2.2.2).2.1
  have tok1 : True := trivial
  have tok2 : True := trivial
  have tok3 : True := trivial
  have tok4 : True := trivial
  have tok5 : True := trivial
  go_region_held3 (fun w' => ∀ (a o : Nat), a < w4.heap.size → w'.cell? ⟨a, o, none⟩ = w4.cell? ⟨a, o, none⟩) (first | assumption | (intro _ _ _; rfl))
    (first | (go_at_call 38; have _t := tok1; clear tok1; refine (R1b.out _).mono ?_; rintro e u1 ⟨rfl, d1⟩; have E1 := Lib.hid (d1); have kS1 : ∀ (a o : Nat), a < w4.heap.size → u1.cell? ⟨a, o, none⟩ = w4.cell? ⟨a, o, none⟩ := fun a o h => E1.out.cell (p := ⟨a, o, none⟩) h; have hz1 : w4.heap.size ≤ u1.heap.size := E1.out.size; clear d1) | (go_at_call 32; have _t := tok2; clear tok2; refine (R2.out _).mono ?_; rintro e u2 ⟨rfl, d2⟩; have E2 := Lib.hid (E1.out.trans (d2.mono E1.out.size)); have kS2 : ∀ (a o : Nat), a < w4.heap.size → u2.cell? ⟨a, o, none⟩ = w4.cell? ⟨a, o, none⟩ := fun a o h => E2.out.cell (p := ⟨a, o, none⟩) h; have hz2 : w4.heap.size ≤ u2.heap.size := E2.out.size; clear d2) | (go_at_call 32; have _t := tok3; clear tok3; refine (R3.out _).mono ?_; rintro e u3 ⟨rfl, d3⟩; have E3 := Lib.hid (E2.out.trans (d3.mono E2.out.size)); have kS3 : ∀ (a o : Nat), a < w4.heap.size → u3.cell? ⟨a, o, none⟩ = w4.cell? ⟨a, o, none⟩ := fun a o h => E3.out.cell (p := ⟨a, o, none⟩) h; have hz3 : w4.heap.size ≤ u3.heap.size := E3.out.size; clear d3) | (go_at_call 38; have _t := tok4; clear tok4; refine (R4.out _).mono ?_; rintro e u4 ⟨rfl, d4⟩; have E4 := Lib.hid (E3.out.trans (d4.mono E3.out.size)); have kS4 : ∀ (a o : Nat), a < w4.heap.size → u4.cell? ⟨a, o, none⟩ = w4.cell? ⟨a, o, none⟩ := fun a o h => E4.out.cell (p := ⟨a, o, none⟩) h; have hz4 : w4.heap.size ≤ u4.heap.size := E4.out.size; clear d4) | (go_at_call 32; have _t := tok5; clear tok5; refine (R5.out _).mono ?_; rintro e u5 ⟨rfl, d5⟩; have E5 := Lib.hid (E4.out.trans (d5.mono E4.out.size)); have kS5 : ∀ (a o : Nat), a < w4.heap.size → u5.cell? ⟨a, o, none⟩ = w4.cell? ⟨a, o, none⟩ := fun a o h => E5.out.cell (p := ⟨a, o, none⟩) h; have hz5 : w4.heap.size ≤ u5.heap.size := E5.out.size; clear d5))
  have hb := ((Below.refl w4.heap.size w4).drew).trans E5.out
  have f := HS4.out.1.trans (hb.mono HS4.out.1.size)
  have t0 := (HS4.out.2.1).below hb (HS4.out.2.1).lt
  have t1 := (HS4.out.2.2.1).below hb (HS4.out.2.2.1).lt
  have t2 := (HS4.out.2.2.2.1).below hb (HS4.out.2.2.2.1).lt
  have t3 := (HS4.out.2.2.2.2.1).below hb (HS4.out.2.2.2.2.1).lt
  have t4 := (HS4.out.2.2.2.2.2.1).below hb (HS4.out.2.2.2.2.2.1).lt
  have t5 := (HS4.out.2.2.2.2.2.2).below hb (HS4.out.2.2.2.2.2.2).lt
  clear l0 m00 m01 l1 m10 m11 l2 m20 m21 l3 m30 m31 l4 m40 m41 l5 m50 m51
  have HS7 := Lib.hid (And.intro f (And.intro t0 (And.intro t1 (And.intro t2 (And.intro t3 (And.intro t4 t5))))))
  clear hb f t0 t1 t2 t3 t4 t5
  clear kS1 hz1 kS2 hz2 kS3 hz3 kS4 hz4 kS5 hz5
  have l0 := (HS7.out.2.1).lt
  have m00 := (HS7.out.2.1).1.1
  have m01 := (HS7.out.2.1).2.1
  have l1 := (HS7.out.2.2.1).lt
  have m10 := (HS7.out.2.2.1).1.1
  have m11 := (HS7.out.2.2.1).2.1
  have l2 := (HS7.out.2.2.2.1).lt
  have m20 := (HS7.out.2.2.2.1).1.1
  have m21 := (HS7.out.2.2.2.1).2.1
  have l3 := (HS7.out.2.2.2.2.1).lt
  have m30 := (HS7.out.2.2.2.2.1).1.1
  have m31 := (HS7.out.2.2.2.2.1).2.1
  have l4 := (HS7.out.2.2.2.2.2.1).lt
  have m40 := (HS7.out.2.2.2.2.2.1).1.1
  have m41 := (HS7.out.2.2.2.2.2.1).2.1
  have l5 := (HS7.out.2.2.2.2.2.2).lt
  have m50 := (HS7.out.2.2.2.2.2.2).1.1
  have m51 := (HS7.out.2.2.2.2.2.2).2.1
  go_wp2_with fail
  clear l0 m00 m01 l1 m10 m11 l2 m20 m21 l3 m30 m31 l4 m40 m41 l5 m50 m51
  refine (D1.out _).mono ?_
  rintro e w8 ⟨rfl, c⟩
  have f := HS7.out.1.trans (c.mono HS7.out.1.size)
  have t0 := (HS7.out.2.1).below c (HS7.out.2.1).lt
  have t1 := (HS7.out.2.2.1).below c (HS7.out.2.2.1).lt
  have t2 := (HS7.out.2.2.2.1).below c (HS7.out.2.2.2.1).lt
  have t3 := (HS7.out.2.2.2.2.1).below c (HS7.out.2.2.2.2.1).lt
  have t4 := (HS7.out.2.2.2.2.2.1).below c (HS7.out.2.2.2.2.2.1).lt
  have t5 := (HS7.out.2.2.2.2.2.2).below c (HS7.out.2.2.2.2.2.2).lt
  have HS8 := Lib.hid (And.intro f (And.intro t0 (And.intro t1 (And.intro t2 (And.intro t3 (And.intro t4 t5))))))
  clear c f t0 t1 t2 t3 t4 t5
  have l0 := (HS8.out.2.1).lt
  have m00 := (HS8.out.2.1).1.1
  have m01 := (HS8.out.2.1).2.1
  have l1 := (HS8.out.2.2.1).lt
  have m10 := (HS8.out.2.2.1).1.1
  have m11 := (HS8.out.2.2.1).2.1
  have l2 := (HS8.out.2.2.2.1).lt
  have m20 := (HS8.out.2.2.2.1).1.1
  have m21 := (HS8.out.2.2.2.1).2.1
  have l3 := (HS8.out.2.2.2.2.1).lt
  have m30 := (HS8.out.2.2.2.2.1).1.1
  have m31 := (HS8.out.2.2.2.2.1).2.1
  have l4 := (HS8.out.2.2.2.2.2.1).lt
  have m40 := (HS8.out.2.2.2.2.2.1).1.1
  have m41 := (HS8.out.2.2.2.2.2.1).2.1
  have l5 := (HS8.out.2.2.2.2.2.2).lt
  have m50 := (HS8.out.2.2.2.2.2.2).1.1
  have m51 := (HS8.out.2.2.2.2.2.2).2.1
  go_wp2_with fail
  clear l0 m00 m01 l1 m10 m11 l2 m20 m21 l3 m30 m31 l4 m40 m41 l5 m50 m51
  obtain ⟨w9, hw9⟩ : ∃ V, ((w8.alloc (Obj.cells #[Value.bool bp, Value.string sp] 23)).alloc (Obj.cells #[Value.bool false, Value.string ⟨#[]⟩] 23)) = V := ⟨_, rfl⟩
  obtain ⟨B10, hB10⟩ : ∃ B, w8.heap.size = B := ⟨_, rfl⟩
  obtain ⟨B11, hB11⟩ : ∃ B, B10 + 1 = B := ⟨_, rfl⟩
  have bw9 : Below w8.heap.size w8 w9 := by rw [← hw9]; exact (((Below.refl _ _).alloc (Nat.le_refl _) _).alloc (by simp) _)
  have tB10 : Two B10 (.bool bp) (.string sp) w9 := by
    rw [← hw9, ← hB10]
    have h := two_new w8 (.bool bp) (.string sp) 23
    (try simp only [World.size_alloc] at h)
    exact h.below (B0 := w8.heap.size + 1) ((Below.refl _ _).alloc (by simp) _) (by omega)
  have tB11 : Two B11 (.bool false) (.string ⟨#[]⟩) w9 := by
    rw [← hw9, ← hB11, ← hB10]
    have h := two_new (w8.alloc (Obj.cells #[Value.bool bp, Value.string sp] 23)) (.bool false) (.string ⟨#[]⟩) 23
    (try simp only [World.size_alloc] at h)
    exact h
  have hszw9 : w8.heap.size ≤ B10 := by omega
  rw [hw9, hB10, hB11]
  have f := HS8.out.1.trans (bw9.mono HS8.out.1.size)
  have t0 := (HS8.out.2.1).below bw9 (HS8.out.2.1).lt
  have t1 := (HS8.out.2.2.1).below bw9 (HS8.out.2.2.1).lt
  have t2 := (HS8.out.2.2.2.1).below bw9 (HS8.out.2.2.2.1).lt
  have t3 := (HS8.out.2.2.2.2.1).below bw9 (HS8.out.2.2.2.2.1).lt
  have t4 := (HS8.out.2.2.2.2.2.1).below bw9 (HS8.out.2.2.2.2.2.1).lt
  have t5 := (HS8.out.2.2.2.2.2.2).below bw9 (HS8.out.2.2.2.2.2.2).lt
  have ne6_0 : B10 ≠ w.heap.size := by have := (HS8.out.2.1).lt; omega
  have en6_0 : w.heap.size ≠ B10 := fun e => ne6_0 e.symm
  have ne7_0 : B11 ≠ w.heap.size := by have := (HS8.out.2.1).lt; omega
  have en7_0 : w.heap.size ≠ B11 := fun e => ne7_0 e.symm
  have ne6_1 : B10 ≠ w.heap.size + 1 := by have := (HS8.out.2.2.1).lt; omega
  have en6_1 : w.heap.size + 1 ≠ B10 := fun e => ne6_1 e.symm
  have ne7_1 : B11 ≠ w.heap.size + 1 := by have := (HS8.out.2.2.1).lt; omega
  have en7_1 : w.heap.size + 1 ≠ B11 := fun e => ne7_1 e.symm
  have ne6_2 : B10 ≠ w.heap.size + 1 + 1 := by have := (HS8.out.2.2.2.1).lt; omega
  have en6_2 : w.heap.size + 1 + 1 ≠ B10 := fun e => ne6_2 e.symm
  have ne7_2 : B11 ≠ w.heap.size + 1 + 1 := by have := (HS8.out.2.2.2.1).lt; omega
  have en7_2 : w.heap.size + 1 + 1 ≠ B11 := fun e => ne7_2 e.symm
  have ne6_3 : B10 ≠ B7 := by have := (HS8.out.2.2.2.2.1).lt; omega
  have en6_3 : B7 ≠ B10 := fun e => ne6_3 e.symm
  have ne7_3 : B11 ≠ B7 := by have := (HS8.out.2.2.2.2.1).lt; omega
  have en7_3 : B7 ≠ B11 := fun e => ne7_3 e.symm
  have ne6_4 : B10 ≠ B8 := by have := (HS8.out.2.2.2.2.2.1).lt; omega
  have en6_4 : B8 ≠ B10 := fun e => ne6_4 e.symm
  have ne7_4 : B11 ≠ B8 := by have := (HS8.out.2.2.2.2.2.1).lt; omega
  have en7_4 : B8 ≠ B11 := fun e => ne7_4 e.symm
  have ne6_5 : B10 ≠ B9 := by have := (HS8.out.2.2.2.2.2.2).lt; omega
  have en6_5 : B9 ≠ B10 := fun e => ne6_5 e.symm
  have ne7_5 : B11 ≠ B9 := by have := (HS8.out.2.2.2.2.2.2).lt; omega
  have en7_5 : B9 ≠ B11 := fun e => ne7_5 e.symm
  have ne7_6 : B11 ≠ B10 := by omega
  have en7_6 : B10 ≠ B11 := by omega
  have geB10 : w.heap.size ≤ B10 := by have := HS8.out.1.size; omega
  have geB11 : w.heap.size ≤ B11 := by have := HS8.out.1.size; omega
  have HS9 := Lib.hid (And.intro f (And.intro t0 (And.intro t1 (And.intro t2 (And.intro t3 (And.intro t4 (And.intro t5 (And.intro tB10 tB11))))))))
  clear f hw9 bw9 hszw9 t0 t1 t2 t3 t4 t5 tB10 tB11 hB11 hB10
  refine (D2.out _).mono ?_
  rintro e w10 ⟨rfl, c⟩
  have f := HS9.out.1.trans (c.mono HS9.out.1.size)
  have t0 := (HS9.out.2.1).below c (HS9.out.2.1).lt
  have t1 := (HS9.out.2.2.1).below c (HS9.out.2.2.1).lt
  have t2 := (HS9.out.2.2.2.1).below c (HS9.out.2.2.2.1).lt
  have t3 := (HS9.out.2.2.2.2.1).below c (HS9.out.2.2.2.2.1).lt
  have t4 := (HS9.out.2.2.2.2.2.1).below c (HS9.out.2.2.2.2.2.1).lt
  have t5 := (HS9.out.2.2.2.2.2.2.1).below c (HS9.out.2.2.2.2.2.2.1).lt
  have t6 := (HS9.out.2.2.2.2.2.2.2.1).below c (HS9.out.2.2.2.2.2.2.2.1).lt
  have t7 := (HS9.out.2.2.2.2.2.2.2.2).below c (HS9.out.2.2.2.2.2.2.2.2).lt
  have HS10 := Lib.hid (And.intro f (And.intro t0 (And.intro t1 (And.intro t2 (And.intro t3 (And.intro t4 (And.intro t5 (And.intro t6 t7))))))))
  clear c f t0 t1 t2 t3 t4 t5 t6 t7
  have l0 := (HS10.out.2.1).lt
  have m00 := (HS10.out.2.1).1.1
  have m01 := (HS10.out.2.1).2.1
  have l1 := (HS10.out.2.2.1).lt
  have m10 := (HS10.out.2.2.1).1.1
  have m11 := (HS10.out.2.2.1).2.1
  have l2 := (HS10.out.2.2.2.1).lt
  have m20 := (HS10.out.2.2.2.1).1.1
  have m21 := (HS10.out.2.2.2.1).2.1
  have l3 := (HS10.out.2.2.2.2.1).lt
  have m30 := (HS10.out.2.2.2.2.1).1.1
  have m31 := (HS10.out.2.2.2.2.1).2.1
  have l4 := (HS10.out.2.2.2.2.2.1).lt
  have m40 := (HS10.out.2.2.2.2.2.1).1.1
  have m41 := (HS10.out.2.2.2.2.2.1).2.1
  have l5 := (HS10.out.2.2.2.2.2.2.1).lt
  have m50 := (HS10.out.2.2.2.2.2.2.1).1.1
  have m51 := (HS10.out.2.2.2.2.2.2.1).2.1
  have l6 := (HS10.out.2.2.2.2.2.2.2.1).lt
  have m60 := (HS10.out.2.2.2.2.2.2.2.1).1.1
  have m61 := (HS10.out.2.2.2.2.2.2.2.1).2.1
  have l7 := (HS10.out.2.2.2.2.2.2.2.2).lt
  have m70 := (HS10.out.2.2.2.2.2.2.2.2).1.1
  have m71 := (HS10.out.2.2.2.2.2.2.2.2).2.1
  go_wp2_with fail
  clear l0 m00 m01 l1 m10 m11 l2 m20 m21 l3 m30 m31 l4 m40 m41 l5 m50 m51 l6 m60 m61 l7 m70 m71
  obtain ⟨w11, hw11⟩ : ∃ V, ((w10.alloc (Obj.cells #[Value.bool bq, Value.string sq] 23)).alloc (Obj.cells #[Value.bool false, Value.string ⟨#[]⟩] 23)) = V := ⟨_, rfl⟩
  obtain ⟨B13, hB13⟩ : ∃ B, w10.heap.size = B := ⟨_, rfl⟩
  obtain ⟨B14, hB14⟩ : ∃ B, B13 + 1 = B := ⟨_, rfl⟩
  have bw11 : Below w10.heap.size w10 w11 := by rw [← hw11]; exact (((Below.refl _ _).alloc (Nat.le_refl _) _).alloc (by simp) _)
  have tB13 : Two B13 (.bool bq) (.string sq) w11 := by
    rw [← hw11, ← hB13]
    have h := two_new w10 (.bool bq) (.string sq) 23
    (try simp only [World.size_alloc] at h)
    exact h.below (B0 := w10.heap.size + 1) ((Below.refl _ _).alloc (by simp) _) (by omega)
  have tB14 : Two B14 (.bool false) (.string ⟨#[]⟩) w11 := by
    rw [← hw11, ← hB14, ← hB13]
    have h := two_new (w10.alloc (Obj.cells #[Value.bool bq, Value.string sq] 23)) (.bool false) (.string ⟨#[]⟩) 23
    (try simp only [World.size_alloc] at h)
    exact h
  have hszw11 : w10.heap.size ≤ B13 := by omega
  rw [hw11, hB13, hB14]
  have f := HS10.out.1.trans (bw11.mono HS10.out.1.size)
  have t0 := (HS10.out.2.1).below bw11 (HS10.out.2.1).lt
  have t1 := (HS10.out.2.2.1).below bw11 (HS10.out.2.2.1).lt
  have t2 := (HS10.out.2.2.2.1).below bw11 (HS10.out.2.2.2.1).lt
  have t3 := (HS10.out.2.2.2.2.1).below bw11 (HS10.out.2.2.2.2.1).lt
  have t4 := (HS10.out.2.2.2.2.2.1).below bw11 (HS10.out.2.2.2.2.2.1).lt
  have t5 := (HS10.out.2.2.2.2.2.2.1).below bw11 (HS10.out.2.2.2.2.2.2.1).lt
  have t6 := (HS10.out.2.2.2.2.2.2.2.1).below bw11 (HS10.out.2.2.2.2.2.2.2.1).lt
  have t7 := (HS10.out.2.2.2.2.2.2.2.2).below bw11 (HS10.out.2.2.2.2.2.2.2.2).lt
  have ne8_0 : B13 ≠ w.heap.size := by have := (HS10.out.2.1).lt; omega
  have en8_0 : w.heap.size ≠ B13 := fun e => ne8_0 e.symm
  have ne9_0 : B14 ≠ w.heap.size := by have := (HS10.out.2.1).lt; omega
  have en9_0 : w.heap.size ≠ B14 := fun e => ne9_0 e.symm
  have ne8_1 : B13 ≠ w.heap.size + 1 := by have := (HS10.out.2.2.1).lt; omega
  have en8_1 : w.heap.size + 1 ≠ B13 := fun e => ne8_1 e.symm
  have ne9_1 : B14 ≠ w.heap.size + 1 := by have := (HS10.out.2.2.1).lt; omega
  have en9_1 : w.heap.size + 1 ≠ B14 := fun e => ne9_1 e.symm
  have ne8_2 : B13 ≠ w.heap.size + 1 + 1 := by have := (HS10.out.2.2.2.1).lt; omega
  have en8_2 : w.heap.size + 1 + 1 ≠ B13 := fun e => ne8_2 e.symm
  have ne9_2 : B14 ≠ w.heap.size + 1 + 1 := by have := (HS10.out.2.2.2.1).lt; omega
  have en9_2 : w.heap.size + 1 + 1 ≠ B14 := fun e => ne9_2 e.symm
  have ne8_3 : B13 ≠ B7 := by have := (HS10.out.2.2.2.2.1).lt; omega
  have en8_3 : B7 ≠ B13 := fun e => ne8_3 e.symm
  have ne9_3 : B14 ≠ B7 := by have := (HS10.out.2.2.2.2.1).lt; omega
  have en9_3 : B7 ≠ B14 := fun e => ne9_3 e.symm
  have ne8_4 : B13 ≠ B8 := by have := (HS10.out.2.2.2.2.2.1).lt; omega
  have en8_4 : B8 ≠ B13 := fun e => ne8_4 e.symm
  have ne9_4 : B14 ≠ B8 := by have := (HS10.out.2.2.2.2.2.1).lt; omega
  have en9_4 : B8 ≠ B14 := fun e => ne9_4 e.symm
  have ne8_5 : B13 ≠ B9 := by have := (HS10.out.2.2.2.2.2.2.1).lt; omega
  have en8_5 : B9 ≠ B13 := fun e => ne8_5 e.symm
  have ne9_5 : B14 ≠ B9 := by have := (HS10.out.2.2.2.2.2.2.1).lt; omega
  have en9_5 : B9 ≠ B14 := fun e => ne9_5 e.symm
  have ne8_6 : B13 ≠ B10 := by have := (HS10.out.2.2.2.2.2.2.2.1).lt; omega
  have en8_6 : B10 ≠ B13 := fun e => ne8_6 e.symm
  have ne9_6 : B14 ≠ B10 := by have := (HS10.out.2.2.2.2.2.2.2.1).lt; omega
  have en9_6 : B10 ≠ B14 := fun e => ne9_6 e.symm
  have ne8_7 : B13 ≠ B11 := by have := (HS10.out.2.2.2.2.2.2.2.2).lt; omega
  have en8_7 : B11 ≠ B13 := fun e => ne8_7 e.symm
  have ne9_7 : B14 ≠ B11 := by have := (HS10.out.2.2.2.2.2.2.2.2).lt; omega
  have en9_7 : B11 ≠ B14 := fun e => ne9_7 e.symm
  have ne9_8 : B14 ≠ B13 := by omega
  have en9_8 : B13 ≠ B14 := by omega
  have geB13 : w.heap.size ≤ B13 := by have := HS10.out.1.size; omega
  have geB14 : w.heap.size ≤ B14 := by have := HS10.out.1.size; omega
  have HS11 := Lib.hid (And.intro f (And.intro t0 (And.intro t1 (And.intro t2 (And.intro t3 (And.intro t4 (And.intro t5 (And.intro t6 (And.intro t7 (And.intro tB13 tB14))))))))))
  clear f hw11 bw11 hszw11 t0 t1 t2 t3 t4 t5 t6 t7 tB13 tB14 hB14 hB13
  refine (K1.out _).mono ?_
  rintro e w12 ⟨rfl, c⟩
  have f := HS11.out.1.trans (c.mono HS11.out.1.size)
  have t0 := (HS11.out.2.1).below c (HS11.out.2.1).lt
  have t1 := (HS11.out.2.2.1).below c (HS11.out.2.2.1).lt
  have t2 := (HS11.out.2.2.2.1).below c (HS11.out.2.2.2.1).lt
  have t3 := (HS11.out.2.2.2.2.1).below c (HS11.out.2.2.2.2.1).lt
  have t4 := (HS11.out.2.2.2.2.2.1).below c (HS11.out.2.2.2.2.2.1).lt
  have t5 := (HS11.out.2.2.2.2.2.2.1).below c (HS11.out.2.2.2.2.2.2.1).lt
  have t6 := (HS11.out.2.2.2.2.2.2.2.1).below c (HS11.out.2.2.2.2.2.2.2.1).lt
  have t7 := (HS11.out.2.2.2.2.2.2.2.2.1).below c (HS11.out.2.2.2.2.2.2.2.2.1).lt
  have t8 := (HS11.out.2.2.2.2.2.2.2.2.2.1).below c (HS11.out.2.2.2.2.2.2.2.2.2.1).lt
  have t9 := (HS11.out.2.2.2.2.2.2.2.2.2.2).below c (HS11.out.2.2.2.2.2.2.2.2.2.2).lt
  have HS12 := Lib.hid (And.intro f (And.intro t0 (And.intro t1 (And.intro t2 (And.intro t3 (And.intro t4 (And.intro t5 (And.intro t6 (And.intro t7 (And.intro t8 t9))))))))))
  clear c f t0 t1 t2 t3 t4 t5 t6 t7 t8 t9
  have l0 := (HS12.out.2.1).lt
  have m00 := (HS12.out.2.1).1.1
  have m01 := (HS12.out.2.1).2.1
  have l1 := (HS12.out.2.2.1).lt
  have m10 := (HS12.out.2.2.1).1.1
  have m11 := (HS12.out.2.2.1).2.1
  have l2 := (HS12.out.2.2.2.1).lt
  have m20 := (HS12.out.2.2.2.1).1.1
  have m21 := (HS12.out.2.2.2.1).2.1
  have l3 := (HS12.out.2.2.2.2.1).lt
  have m30 := (HS12.out.2.2.2.2.1).1.1
  have m31 := (HS12.out.2.2.2.2.1).2.1
  have l4 := (HS12.out.2.2.2.2.2.1).lt
  have m40 := (HS12.out.2.2.2.2.2.1).1.1
  have m41 := (HS12.out.2.2.2.2.2.1).2.1
  have l5 := (HS12.out.2.2.2.2.2.2.1).lt
  have m50 := (HS12.out.2.2.2.2.2.2.1).1.1
  have m51 := (HS12.out.2.2.2.2.2.2.1).2.1
  have l6 := (HS12.out.2.2.2.2.2.2.2.1).lt
  have m60 := (HS12.out.2.2.2.2.2.2.2.1).1.1
  have m61 := (HS12.out.2.2.2.2.2.2.2.1).2.1
  have l7 := (HS12.out.2.2.2.2.2.2.2.2.1).lt
  have m70 := (HS12.out.2.2.2.2.2.2.2.2.1).1.1
  have m71 := (HS12.out.2.2.2.2.2.2.2.2.1).2.1
  have l8 := (HS12.out.2.2.2.2.2.2.2.2.2.1).lt
  have m80 := (HS12.out.2.2.2.2.2.2.2.2.2.1).1.1
  have m81 := (HS12.out.2.2.2.2.2.2.2.2.2.1).2.1
  have l9 := (HS12.out.2.2.2.2.2.2.2.2.2.2).lt
  have m90 := (HS12.out.2.2.2.2.2.2.2.2.2.2).1.1
  have m91 := (HS12.out.2.2.2.2.2.2.2.2.2.2).2.1
  go_wp2_with fail
  clear l0 m00 m01 l1 m10 m11 l2 m20 m21 l3 m30 m31 l4 m40 m41 l5 m50 m51 l6 m60 m61 l7 m70 m71 l8 m80 m81 l9 m90 m91
  refine (K2.out _).mono ?_
  rintro e w13 ⟨rfl, c⟩
  have f := HS12.out.1.trans (c.mono HS12.out.1.size)
  have t0 := (HS12.out.2.1).below c (HS12.out.2.1).lt
  have t1 := (HS12.out.2.2.1).below c (HS12.out.2.2.1).lt
  have t2 := (HS12.out.2.2.2.1).below c (HS12.out.2.2.2.1).lt
  have t3 := (HS12.out.2.2.2.2.1).below c (HS12.out.2.2.2.2.1).lt
  have t4 := (HS12.out.2.2.2.2.2.1).below c (HS12.out.2.2.2.2.2.1).lt
  have t5 := (HS12.out.2.2.2.2.2.2.1).below c (HS12.out.2.2.2.2.2.2.1).lt
  have t6 := (HS12.out.2.2.2.2.2.2.2.1).below c (HS12.out.2.2.2.2.2.2.2.1).lt
  have t7 := (HS12.out.2.2.2.2.2.2.2.2.1).below c (HS12.out.2.2.2.2.2.2.2.2.1).lt
  have t8 := (HS12.out.2.2.2.2.2.2.2.2.2.1).below c (HS12.out.2.2.2.2.2.2.2.2.2.1).lt
  have t9 := (HS12.out.2.2.2.2.2.2.2.2.2.2).below c (HS12.out.2.2.2.2.2.2.2.2.2.2).lt
  have HS13 := Lib.hid (And.intro f (And.intro t0 (And.intro t1 (And.intro t2 (And.intro t3 (And.intro t4 (And.intro t5 (And.intro t6 (And.intro t7 (And.intro t8 t9))))))))))
  clear c f t0 t1 t2 t3 t4 t5 t6 t7 t8 t9
  have l0 := (HS13.out.2.1).lt
  have m00 := (HS13.out.2.1).1.1
  have m01 := (HS13.out.2.1).2.1
  have l1 := (HS13.out.2.2.1).lt
  have m10 := (HS13.out.2.2.1).1.1
  have m11 := (HS13.out.2.2.1).2.1
  have l2 := (HS13.out.2.2.2.1).lt
  have m20 := (HS13.out.2.2.2.1).1.1
  have m21 := (HS13.out.2.2.2.1).2.1
  have l3 := (HS13.out.2.2.2.2.1).lt
  have m30 := (HS13.out.2.2.2.2.1).1.1
  have m31 := (HS13.out.2.2.2.2.1).2.1
  have l4 := (HS13.out.2.2.2.2.2.1).lt
  have m40 := (HS13.out.2.2.2.2.2.1).1.1
  have m41 := (HS13.out.2.2.2.2.2.1).2.1
  have l5 := (HS13.out.2.2.2.2.2.2.1).lt
  have m50 := (HS13.out.2.2.2.2.2.2.1).1.1
  have m51 := (HS13.out.2.2.2.2.2.2.1).2.1
  have l6 := (HS13.out.2.2.2.2.2.2.2.1).lt
  have m60 := (HS13.out.2.2.2.2.2.2.2.1).1.1
  have m61 := (HS13.out.2.2.2.2.2.2.2.1).2.1
  have l7 := (HS13.out.2.2.2.2.2.2.2.2.1).lt
  have m70 := (HS13.out.2.2.2.2.2.2.2.2.1).1.1
  have m71 := (HS13.out.2.2.2.2.2.2.2.2.1).2.1
  have l8 := (HS13.out.2.2.2.2.2.2.2.2.2.1).lt
  have m80 := (HS13.out.2.2.2.2.2.2.2.2.2.1).1.1
  have m81 := (HS13.out.2.2.2.2.2.2.2.2.2.1).2.1
  have l9 := (HS13.out.2.2.2.2.2.2.2.2.2.2).lt
  have m90 := (HS13.out.2.2.2.2.2.2.2.2.2.2).1.1
  have m91 := (HS13.out.2.2.2.2.2.2.2.2.2.2).2.1
  have HAW := Lib.hid (awake_any w13 (tab_of HT.out HS13.out.1))
  go_wp2_with fail
  refine HAW.out.mono ?_
  rintro e wA ⟨rfl, cA⟩
  clear l0 m00 m01 l1 m10 m11 l2 m20 m21 l3 m30 m31 l4 m40 m41 l5 m50 m51 l6 m60 m61 l7 m70 m71 l8 m80 m81 l9 m90 m91
  go_wp2_with fail
  go_ret
  exact ⟨rfl, HS13.out.1.trans (cA.mono HS13.out.1.size)⟩

theorem divisors_any (na nb nc : Bool) (sa sb sc : ByteArray) (w : World) (htab : Tab w) (ha : sa.size ≤ maxLen) (hb : sb.size ≤ maxLen) (hc : sc.size ≤ maxLen) :
    Calls Tryz.prog 10 #[.agg #[.bool na, .string sa], .agg #[.bool nb, .string sb], .agg #[.bool nc, .string sc]] w fun e w' => e = .returned (.bool true) ∧ Below w.heap.size w w' := by
  cases hg : (([(na, sa), (nb, sb), (nc, sc)] : List (Bool × ByteArray)).any fun p => decide ((60 : Int) < (p.2.size : Int)))
  · rcases Nat.eq_zero_or_pos (Nat.gcd (ival na sa).natAbs (ival nb sb).natAbs) with hz | hz
    · rcases Decidable.em (ival nc sc < 0) with h | h
      · exact divisors_nz na nb nc sa sb sc w htab ha hb hc hg h hz
      · exact divisors_pz na nb nc sa sb sc w htab ha hb hc hg (Int.not_lt.1 h) hz
    · rcases Decidable.em (ival nc sc < 0) with h | h
      · exact divisors_ng na nb nc sa sb sc w htab ha hb hc hg h hz
      · exact divisors_pg na nb nc sa sb sc w htab ha hb hc hg (Int.not_lt.1 h) hz
  · exact divisors_great na nb nc sa sb sc w htab ha hb hc hg
end Go.Proofs.YtajollhpimfefaaGreatDoor
