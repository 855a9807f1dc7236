/- The contract of the reference's divMag. -/
import Derived.Test.YtajollhpimfefaaGreatDoorRMul
import Derived.Laws.DeepStrings4
namespace Go.Proofs.YtajollhpimfefaaGreatDoor
open Go.RowKit Go.Shelf

/-- Eight strings in the cells of an array. -/
def Arr8 (W : World) (g : Nat) (fs : Nat → ByteArray) : Prop := ∀ j, j < 8 → W.cell? ⟨g, j, none⟩ = some (.string (fs j)) ∧ W.frozen? ⟨g, j, none⟩ = false
theorem Arr8.below {W W' : World} {B0 B : Nat} {fs : Nat → ByteArray} (h : Arr8 W B fs) (hb : Below B0 W W') (hB : B < B0) : Arr8 W' B fs := fun j hj =>
 ⟨(hb.cell (p := ⟨B, j, none⟩) hB).trans (h j hj).1, (hb.frozen (p := ⟨B, j, none⟩) hB).trans (h j hj).2⟩
theorem Arr8.lt {W : World} {B : Nat} {fs : Nat → ByteArray} (h : Arr8 W B fs) : B < W.heap.size := World.block_lt_of_cell? W _ (h 0 (by omega)).1
theorem Arr8.set {W : World} {B : Nat} {fs : Nat → ByteArray} (h : Arr8 W B fs) (k : Nat) (hk : k < 8) (v : ByteArray) : Arr8 (W.setCell ⟨B, k, none⟩ (.string v)) B (fun j => if j = k then v else fs j) := by
 intro j hj
 show _ = some (Value.string (if j = k then v else fs j)) ∧ _
 rw [World.frozen?_setCell]
 by_cases hjk : j = k
 ·subst hjk
  rw [World.cell?_setCell_same' _ _ _ (by rw [(h j hj).1]; rfl), if_pos rfl]
  exact ⟨rfl, (h j hj).2⟩
 ·rw [World.cell?_setCell_other _ _ _ _ (by intro e; have := congrArg Addr.off e; simp at this; omega), if_neg hjk]
  exact h j hj
theorem Arr8.other {W : World} {B B' o : Nat} {fs : Nat → ByteArray} {u : Value} (h : Arr8 W B fs) (hne : B ≠ B') : Arr8 (W.setCell ⟨B', o, none⟩ u) B fs := fun j hj => by
 rw [World.cell?_setCell_other _ _ _ _ (by intro e; have := congrArg Addr.block e; simp at this; omega), World.frozen?_setCell]
 exact h j hj
theorem Arr8.ext {W : World} {B : Nat} {fs gs : Nat → ByteArray} (h : Arr8 W B fs) (e : ∀ j, j < 8 → fs j = gs j) : Arr8 W B gs := fun j hj => by rw [← e j hj]; exact h j hj
theorem arr8_first (w : World) (t0 : ByteArray) (T : TypeId) : Arr8 (w.alloc (.cells #[Value.string t0, Value.string ⟨#[]⟩, Value.string ⟨#[]⟩, Value.string ⟨#[]⟩, Value.string ⟨#[]⟩, Value.string ⟨#[]⟩, Value.string ⟨#[]⟩, Value.string ⟨#[]⟩] T)) w.heap.size (fun j => if j = 0 then t0 else ⟨#[]⟩) := by
 have hh := heap_alloc_new w (.cells #[Value.string t0, Value.string ⟨#[]⟩, Value.string ⟨#[]⟩, Value.string ⟨#[]⟩, Value.string ⟨#[]⟩, Value.string ⟨#[]⟩, Value.string ⟨#[]⟩, Value.string ⟨#[]⟩] T)
 intro j hj
 simp only [World.cell?, World.frozen?, hh]
 rcases j with _ | _ | _ | _ | _ | _ | _ | _ | j
 all_goals first | omega | simp

/-- The divisor, shifted. -/
def shB (B j : Nat) : ByteArray := ⟨(be (B * 2 ^ j)).toArray⟩
def times (B k j : Nat) : ByteArray := if j < k then shB B j else ⟨#[]⟩
theorem shB_size (B j l : Nat) (hj : j < 8) (hl : (be B).length ≤ l) : (shB B j).size ≤ l + 1 := by
 show (be (B * 2 ^ j)).toArray.size ≤ l + 1
 rw [List.size_toArray]
 apply be_length_le
 have h1 : B < 256 ^ l := by
  have h := beVal_lt (be B)
  rw [beVal_be] at h
  exact Nat.lt_of_lt_of_le h (Nat.pow_le_pow_right (by omega) hl)
 have h2 : 2 ^ j ≤ 2 ^ 8 := Nat.pow_le_pow_right (by omega) (by omega)
 rw [Nat.pow_succ]
 calc B * 2 ^ j ≤ B * 2 ^ 8 := Nat.mul_le_mul_left _ h2
  _ < 256 ^ l * 256 := Nat.mul_lt_mul_of_pos_right h1 (by omega)
theorem shB_val (B j : Nat) : beVal (shB B j).data.toList = B * 2 ^ j := beVal_be _

set_option maxHeartbeats 4000000 in
set_option maxRecDepth 100000 in
theorem divMag_any (sa : ByteArray) (B : Nat) (w : World) (ha : sa.size ≤ 50000) (hB : 0 < B) (hb : (be B).length ≤ 50000) :
  Calls Tryz.prog 68 #[.string sa, .string ⟨(be B).toArray⟩] w fun e w' =>
   e = .returned (.tuple #[.string ⟨(be (beVal sa.data.toList / B)).toArray⟩, .string ⟨(be (beVal sa.data.toList % B)).toArray⟩]) ∧ Below w.heap.size w w' := by
 have hs0 : (⟨(be B).toArray⟩ : ByteArray) = shB B 0 := by unfold shB; rw [Nat.pow_zero, Nat.mul_one]
 rw [hs0]
 obtain ⟨t0, ht0⟩ : ∃ t, shB B 0 = t := ⟨_, rfl⟩
 rw [ht0]
 have HB := Lib.hid (And.intro hB (And.intro hb ht0))
 clear hB hb hs0 ht0
 go_enter Tryz.func68, Tryz.ntmps68
 go_wp2_with fail
 go_loopw [7] (fun v wr => ∃ k : Nat, v = .int .i64 (k : Int) ∧ 1 ≤ k ∧ k ≤ 8 ∧ Arr8 wr w.heap.size (times B k) ∧ Below w.heap.size w wr) (fun v _ => 8 - (intOf v).toNat)
 case atStart =>
  refine ⟨1, rfl, Nat.le_refl _, by omega, ?_, (Below.refl _ _).alloc (Nat.le_refl _) _⟩
  have h := arr8_first w t0 90
  refine h.ext fun j hj => ?_
  unfold times
  by_cases hj0 : j = 0
  ·subst hj0; rw [if_pos rfl, if_pos (by omega)]; exact HB.out.2.2.symm
  ·rw [if_neg hj0, if_neg (by omega)]
 case round =>
  obtain ⟨k, rfl, hk1, hk8, harr, hbel⟩ := hrel
  have HA := Lib.hid (And.intro harr hbel)
  clear harr hbel
  by_cases hlt : k < 8
  ·obtain ⟨k1, hk⟩ : ∃ k1, k = k1 + 1 := ⟨k - 1, by omega⟩
   have I1 : (k : Int) - 1 = (k1 : Int) := by omega
   have I2 : IntKind.i64.wrap (k1 : Int) = (k1 : Int) := by apply IntWalk.i64_in <;> omega
   have J1 : (k1 : Int) < 8 := by omega
   have J0 : (0 : Int) ≤ (k1 : Int) := by omega
   have J4 : (k : Int) < 8 := by omega
   have J5 : k1 < 8 := by omega
   obtain ⟨t, ht⟩ : ∃ t, shB B k1 = t := ⟨_, rfl⟩
   obtain ⟨t2, ht2⟩ : ∃ t, shB B k = t := ⟨_, rfl⟩
   have c1 : wr.cell? ⟨w.heap.size, k1, none⟩ = some (.string t) := by
    have h := (HA.out.1 k1 (by omega)).1
    rw [times, if_pos (by omega), ht] at h
    exact h
   have d1 : wr.drew.cell? ⟨w.heap.size, k1, none⟩ = some (.string t) := c1
   have hadd := fun W => addMag_any t t W (by rw [← ht]; exact Nat.le_trans (shB_size B k1 50000 (by omega) HB.out.2.1) (by omega)) (by rw [← ht]; exact Nat.le_trans (shB_size B k1 50000 (by omega) HB.out.2.1) (by omega))
   have e2 : (⟨(be (beVal t.data.toList + beVal t.data.toList)).toArray⟩ : ByteArray) = t2 := by
    rw [← ht, ← ht2, shB_val, hk]
    unfold shB
    rw [Nat.pow_succ, show B * 2 ^ k1 + B * 2 ^ k1 = B * (2 ^ k1 * 2) by grind]
   rw [e2] at hadd
   have HADD := Lib.hid hadd
   have HK := Lib.hid (And.intro hk (And.intro ht ht2))
   have c2 := (HA.out.1 k hlt).1
   have c3 := (HA.out.1 k hlt).2
   rw [times, if_neg (Nat.lt_irrefl k)] at c2
   have l1 := HA.out.1.lt
   clear hadd e2 hk ht ht2
   go_wp2_with fail
   go_region_held3 (fun w' => w'.cell? ⟨w.heap.size, k1, none⟩ = some (.string t)) (first | assumption | (rw [World.cell?_setCell_other _ _ _ _ (by intro e; have := congrArg Addr.off e; simp at this <;> omega)]; assumption))
    (first
    | (go_at_call 62; refine (HADD.out _).mono ?_; intro e u1 h1; obtain ⟨he, b1⟩ := h1; subst he; have HB1 := Lib.hid b1; have c4 := (b1.cell (p := ⟨w.heap.size, k1, none⟩) l1).trans d1; have c5 := (b1.cell (p := ⟨w.heap.size, k, none⟩) l1).trans c2; have c6 := (b1.frozen (p := ⟨w.heap.size, k, none⟩) l1).trans c3; clear b1))
   all_goals go_wp2_with fail
   obtain ⟨hk, ht, ht2⟩ := HK.out
   have hb1 := HB1.out
   have ha := HA.out.1
   refine ⟨⟨k + 1, by go_num, by omega, by omega, ?_, ?_⟩, by simp [intOf]; omega⟩
   ·have h1 : Arr8 u1 w.heap.size (times B k) := fun j hj => ⟨(hb1.cell (p := ⟨w.heap.size, j, none⟩) l1).trans (ha j hj).1, (hb1.frozen (p := ⟨w.heap.size, j, none⟩) l1).trans (ha j hj).2⟩
    refine (h1.set k hlt t2).ext fun j hj => ?_
    unfold times
    by_cases hjk : j = k
    ·subst hjk; rw [if_pos rfl, if_pos (by omega)]; exact ht2.symm
    ·rw [if_neg hjk]
     by_cases h : j < k
     ·rw [if_pos h, if_pos (by omega)]
     ·rw [if_neg h, if_neg (by omega)]
   ·have h := (Below.refl w.heap.size w).trans HA.out.2
    have h2 : Below wr.heap.size wr u1 := ((Below.refl wr.heap.size wr).drew).trans hb1
    exact (h.trans (h2.mono h.size)).setCell (Nat.le_refl _) _
  ·have hk : k = 8 := by omega
   have hlt8 : ¬ ((k : Int) < 8) := by omega
   rename World => wX
   obtain ⟨n, hn⟩ : ∃ n, sa.size = n := ⟨_, rfl⟩
   obtain ⟨arr, harr, hmk⟩ := make_bytes n (by omega) wX
   have hroom := room_alloc wX arr 5 n harr
   have hbl : Below wX.heap.size wX (wX.alloc (.cells arr 5)) := (Below.refl _ _).alloc (Nat.le_refl _) _
   have harr8 : Arr8 wX w.heap.size (shB B) := HA.out.1.ext fun j hj => by unfold times; rw [if_pos (by omega)]
   have hlt2 := HA.out.1.lt
   have h8 := harr8.below hbl hlt2
   have hbw := HA.out.2.trans (hbl.mono HA.out.2.size)
   have hsb : sa.data.toList.length = n := by rw [← Lib.size_eq]; exact hn
   have hn5 : n ≤ 50000 := by omega
   have HX := Lib.hid (And.intro hroom (And.intro h8 (And.intro hbw (And.intro hn hsb))))
   have hgg : w.heap.size < wX.heap.size := hlt2
   clear hroom hbl harr8 hlt2 h8 hbw hsb harr hk HA
   have hni : (sa.size : Int) = (n : Int) := by omega
   go_wp2_with fail
   go_loopw [9, 10] (fun r v wi => ∃ (k R : Nat) (qs : List UInt8), r = .string ⟨(be R).toArray⟩ ∧ v = .int .i64 (k : Int) ∧ k ≤ n ∧ R < B ∧ qs.length = k ∧ RowB wi wX.heap.size 0 qs ∧ Room wi wX.heap.size n ∧ Arr8 wi w.heap.size (shB B) ∧ beVal qs * B + R = beVal (sa.data.toList.take k) ∧ Below w.heap.size w wi ∧ wX.heap.size < wi.heap.size) (fun _ v _ => n - (intOf v).toNat)
   case atStart =>
    have hX := HX.out
    exact ⟨0, 0, [], by rw [be_zero], rfl, Nat.zero_le _, HB.out.1, rfl, fun j hj => by simp at hj, hX.1, hX.2.1, by simp [beVal], hX.2.2.1, by simp⟩
   case round =>
    obtain ⟨k, R, qs, rfl, rfl, hk, hR, hql, hqr, hqm, h8, hval, hbw, hsz⟩ := hrel
    have HK := Lib.hid (And.intro hR (And.intro hql (And.intro hqr (And.intro hqm (And.intro h8 (And.intro hval (And.intro hbw hsz)))))))
    obtain ⟨rb, hrb⟩ : ∃ s, (⟨(be R).toArray⟩ : ByteArray) = s := ⟨_, rfl⟩
    have hrs : rb.size ≤ 50000 := by
     rw [← hrb]
     show (be R).toArray.size ≤ 50000
     rw [List.size_toArray]
     exact Nat.le_trans (be_length_le _ R (Nat.lt_trans hR (by have h := beVal_lt (be B); rwa [beVal_be] at h))) HB.out.2.1
    clear hR hql hqr hqm h8 hval hbw hsz
    by_cases hlt : k < n
    ·obtain ⟨ak, hak⟩ : ∃ c : UInt8, sa.data.toList.getD k 0 = c := ⟨_, rfl⟩
     have hx : (sa.extract k (k + 1)).data.toList = [ak] := by
      rw [← hak]
      have := HX.out.2.2.2.2
      simp only [ByteArray.data_extract, Array.toList_extract, List.extract_eq_take_drop]
      rw [show k + 1 - k = 1 by omega, List.drop_eq_getElem_cons (by omega), List.getD_eq_getElem?_getD, List.getElem?_eq_getElem (by omega)]
      rfl
     obtain ⟨sx, hsx⟩ : ∃ s, sa.extract k (k + 1) = s := ⟨_, rfl⟩
     rw [hsx] at hx
     have hsz1 : sx.size = 1 := by rw [Lib.size_eq, hx]; rfl
     have hcat : ¬ (rb.size + sx.size > 9223372036854775807) := by omega
     have hcat2 : rb.size + sx.size ≤ 9223372036854775807 := by omega
     have hv : beVal (rb ++ sx).data.toList = R * 256 + ak.toNat := by
      rw [ByteArray.data_append, Array.toList_append, hx, ← hrb]
      show beVal (be R ++ [ak]) = _
      rw [beVal_snoc, beVal_be]
     have htr := fun W => rtrim_any (rb ++ sx) W
     rw [strip_be, hv] at htr
     have HTR := Lib.hid htr
     have HV := Lib.hid (And.intro hak (And.intro hrb hx))
     have hk1 : ((k : Int) + 1).toNat = k + 1 := by omega
     rw [hrb]
     clear htr hv hak hrb hx hsz1
     have hlt2 : (k : Int) < (n : Int) := by omega
     rename World => wR
     go_wp2_with fail
     refine (HTR.out _).mono ?_
     rintro e w' ⟨rfl, rfl⟩
     go_wp2_with fail
     go_loopw [9, 11, 12] (fun r d v wi => ∃ (p R' d' : Nat), r = .string ⟨(be R').toArray⟩ ∧ d = .int .i64 (d' : Int) ∧ v = .int .i64 ((p : Int) - 1) ∧ p ≤ 8 ∧ R' < 2 ^ p * B ∧ d' * B + R' = R * 256 + ak.toNat ∧ d' + 2 ^ p ≤ 256 ∧ Below wR.heap.size wR wi) (fun _ _ v _ => (intOf v + 1).toNat)
     case atStart =>
      refine ⟨8, R * 256 + ak.toNat, 0, rfl, rfl, rfl, Nat.le_refl _, ?_, by omega, by omega, Below.refl _ _⟩
      have h1 := HK.out.1
      have h2 : ak.toNat < 256 := UInt8.toNat_lt ak
      omega
     case round =>
      obtain ⟨p, R', d', rfl, rfl, rfl, hp, hRp, hdR, hdp, hbi⟩ := hrel
      rcases p with _ | p'
      ·have hd256 : d' < 256 := by omega
       have U1 : IntKind.u8.wrap (d' : Int) = (d' : Int) := by rw [IntKind.wrap_u8]; omega
       have hK := HK.out
       have hwlt := hK.2.2.2.2.2.2.2
       have hr2 := hK.2.2.1.below hbi hwlt
       have hm2 := hK.2.2.2.1.below hbi hwlt
       obtain ⟨v0, c3⟩ := Option.isSome_iff_exists.1 (hm2 k hlt).1
       have c4 := (hm2 k hlt).2
       have hRB : R' < B := by rw [Nat.pow_zero, Nat.one_mul] at hRp; exact hRp
       have hne : w.heap.size ≠ wX.heap.size := by omega
       have fin : ∀ wn, wn = wr.setCell ⟨wX.heap.size, k, none⟩ (.int .u8 (d' : Int)) → ∃ (kk R : Nat) (qs : List UInt8), Value.string ⟨(be R').toArray⟩ = .string ⟨(be R).toArray⟩ ∧ Value.int .i64 ((k : Int) + 1) = .int .i64 (kk : Int) ∧ kk ≤ n ∧ R < B ∧ qs.length = kk ∧ RowB wn wX.heap.size 0 qs ∧ Room wn wX.heap.size n ∧ Arr8 wn w.heap.size (shB B) ∧ beVal qs * B + R = beVal (sa.data.toList.take kk) ∧ Below w.heap.size w wn ∧ wX.heap.size < wn.heap.size := by
        intro wn hwn
        subst hwn
        have hp := rowB_push hr2 hm2 (by rw [hK.2.1]; exact hlt) (UInt8.ofNat d') (d' : Int) (by rw [toNat_ofNat, Nat.mod_eq_of_lt hd256])
        rw [hK.2.1] at hp
        refine ⟨k + 1, R', qs ++ [UInt8.ofNat d'], rfl, by go_num, by omega, hRB, by rw [List.length_append, hK.2.1]; rfl, hp, hm2.set hlt, (hK.2.2.2.2.1.below hbi hK.2.2.2.2.1.lt).other hne, ?_, ?_, ?_⟩
        ·have e : sa.data.toList.take (k + 1) = sa.data.toList.take k ++ [ak] := by
          have h5 := HX.out.2.2.2.2
          rw [List.take_succ_eq_append_getElem (by omega)]
          congr 2
          rw [← HV.out.1, List.getD_eq_getElem?_getD, List.getElem?_eq_getElem (by omega)]
          rfl
         rw [e, beVal_snoc, beVal_snoc, toNat_ofNat, Nat.mod_eq_of_lt hd256]
         have h6 := hK.2.2.2.2.2.1
         have h7 : (beVal qs * 256 + d') * B = beVal qs * B * 256 + d' * B := by grind
         rw [h7]
         omega
        ·exact (hK.2.2.2.2.2.2.1.trans (hbi.mono hK.2.2.2.2.2.2.1.size)).setCell (by show w.heap.size ≤ wX.heap.size; omega) _
        ·rw [World.size_setCell]; exact Nat.lt_of_lt_of_le hwlt hbi.size
       have FIN := Lib.hid fin
       clear fin hK hr2 hm2 hRp hdR hdp hbi hRB
       go_wp2_with fail
       exact ⟨FIN.out _ rfl, by simp [intOf]; omega⟩
      ·have j1 : ((p' + 1 : Nat) : Int) - 1 = (p' : Int) := by omega
       rw [j1]
       have J1 : (p' : Int) < 8 := by omega
       have hK := HK.out
       obtain ⟨tp, htp⟩ : ∃ t, shB B p' = t := ⟨_, rfl⟩
       have c1 := (hK.2.2.2.2.1.below hbi hK.2.2.2.2.1.lt p' (by omega)).1
       rw [htp] at c1
       obtain ⟨M, hM⟩ : ∃ M, B * 2 ^ p' = M := ⟨_, rfl⟩
       have htp2 : (⟨(be M).toArray⟩ : ByteArray) = tp := by rw [← htp, ← hM]; rfl
       obtain ⟨rr, hrr⟩ : ∃ s, (⟨(be R').toArray⟩ : ByteArray) = s := ⟨_, rfl⟩
       have hcm := fun W => rcmpMag_any R' M W
       obtain ⟨z, hz⟩ : ∃ z, 2 ^ p' = z := ⟨_, rfl⟩
       have hpz : 2 ^ (p' + 1) = z + z := by rw [Nat.pow_succ, hz]; omega
       have hz128 : z ≤ 128 := by
        rw [← hz]
        exact Nat.pow_le_pow_right (n := 2) (j := 7) (by omega) (by omega)
       have z1 : 1 ≤ z := by rw [← hz]; exact Nat.two_pow_pos _
       rw [hpz] at hRp hdp
       have hzi : (2 : Int) ^ p' = (z : Int) := by rw [← hz, Int.natCast_pow]; rfl
       have G1 : IntKind.i64.wrap (2 ^ p') = (z : Int) := by rw [hzi]; apply IntWalk.i64_in <;> omega
       have G2 : IntKind.u64.wrap (p' : Int) = (p' : Int) := wrapU _ (by omega)
       have hzM : M = z * B := by rw [← hM, hz, Nat.mul_comm]
       have hK2 := hK.2.2.2.2.1
       have HZ := Lib.hid hz
       by_cases hge : M ≤ R'
       ·obtain ⟨cz, hcz⟩ : ∃ c, cmpZ (R' : Int) (M : Int) = c := ⟨_, rfl⟩
        have hcz0 : 0 ≤ cz := by
         rw [← hcz]
         rcases Nat.lt_or_eq_of_le hge with h | h
         ·rw [cmpZ_gt (by omega)]; omega
         ·rw [cmpZ_eq (by omega)]; omega
        rw [hcz, hrr, htp2] at hcm
        have hsz1 : rr.size ≤ 100000 := by
         rw [← hrr]
         show (be R').toArray.size ≤ 100000
         rw [List.size_toArray]
         refine Nat.le_trans (be_length_le ((be B).length + 1) R' ?_) (by have := HB.out.2.1; omega)
         have h1 := beVal_lt (be B)
         rw [beVal_be] at h1
         have h2 : (z + z) * B ≤ 256 * B := Nat.mul_le_mul_right _ (by omega)
         rw [Nat.pow_succ]
         omega
        have hsz2 : tp.size ≤ 100000 := by rw [← htp]; exact Nat.le_trans (shB_size B p' 50000 (by omega) HB.out.2.1) (by omega)
        have hsz3 : beVal tp.data.toList ≤ beVal rr.data.toList := by
         rw [← hrr, ← htp2]
         show beVal (be M) ≤ beVal (be R')
         rw [beVal_be, beVal_be]; exact hge
        have hsb := fun W => subMag_any rr tp W hsz1 hsz2 hsz3
        have e1 : (⟨(be (beVal rr.data.toList - beVal tp.data.toList)).toArray⟩ : ByteArray) = ⟨(be (R' - M)).toArray⟩ := by
         rw [← hrr, ← htp2]
         show (⟨(be (beVal (be R') - beVal (be M))).toArray⟩ : ByteArray) = _
         rw [beVal_be, beVal_be]
        rw [e1] at hsb
        have HCM := Lib.hid hcm
        have HSB := Lib.hid hsb
        have HP := Lib.hid (And.intro hRp (And.intro hdR (And.intro hdp (And.intro hbi (And.intro hzM hge)))))
        have hdz : d' + z ≤ 256 := by omega
        rw [hrr]
        clear hcm hsb e1 hsz1 hsz2 hsz3 hcz hge hRp hdR hdp hbi hzM hK hK2 htp htp2 hrr hM hz hpz
        go_wp2_with fail
        refine (HCM.out _).mono ?_
        rintro e w' ⟨rfl, rfl⟩
        go_wp2_with fail
        refine (HSB.out _).mono ?_
        rintro e u2 ⟨rfl, hb2⟩
        have HB2 := Lib.hid hb2
        clear hb2
        go_wp2_with fail
        obtain ⟨hRp, hdR, hdp, hbi, hzM, hge⟩ := HP.out
        rw [Nat.add_mul, ← hzM] at hRp
        refine ⟨⟨p', R' - M, d' + z, rfl, by go_num, rfl, by omega, by rw [HZ.out, ← hzM]; omega, ?_, by rw [HZ.out]; omega, hbi.trans (HB2.out.mono hbi.size)⟩, by simp [intOf]⟩
        rw [Nat.add_mul, ← hzM]
        omega
       ·rw [hrr, htp2, cmpZ_lt (by omega)] at hcm
        have HCM := Lib.hid hcm
        have HP := Lib.hid (And.intro hRp (And.intro hdR (And.intro hdp (And.intro hbi (And.intro hzM (And.intro hge (And.intro hrr hz)))))))
        rw [hrr]
        clear hcm hge hRp hdR hdp hbi hzM hK hK2 htp htp2 hrr hM hz hpz
        go_wp2_with fail
        refine (HCM.out _).mono ?_
        rintro e w' ⟨rfl, rfl⟩
        go_wp2_with fail
        obtain ⟨hRp, hdR, hdp, hbi, hzM, hge, hrr, hz⟩ := HP.out
        exact ⟨⟨p', R', d', by rw [hrr], rfl, rfl, by omega, by rw [hz, ← hzM]; omega, hdR, by rw [hz]; omega, hbi⟩, by simp [intOf]⟩
    ·have hkn : k = n := by omega
     have hK := HK.out
     have hrow := hK.2.2.1
     have hql := hK.2.1
     have hcv := conv_bytes (cap := n) hrow
     rw [hql, hkn] at hcv
     have htr := fun W => rtrim_any ⟨qs.toArray⟩ W
     rw [show (⟨qs.toArray⟩ : ByteArray).data.toList = qs from rfl, strip_be] at htr
     have hval := hK.2.2.2.2.2.1
     rw [List.take_of_length_le (by have := HX.out.2.2.2.2; omega)] at hval
     have hA : beVal sa.data.toList / B = beVal qs ∧ beVal sa.data.toList % B = R := by
      rw [← hval]
      have h0 := HB.out.1
      exact ⟨by rw [Nat.add_comm, Nat.add_mul_div_right _ _ h0, Nat.div_eq_of_lt hK.1, Nat.zero_add], by rw [Nat.add_comm, Nat.add_mul_mod_self_right, Nat.mod_eq_of_lt hK.1]⟩
     have HTR := Lib.hid htr
     have HAA := Lib.hid (And.intro hA hrb)
     have HBW := Lib.hid hK.2.2.2.2.2.2.1
     have hltn : ¬ ((k : Int) < (n : Int)) := by omega
     rw [hrb]
     clear htr hrow hK hql hval hA hrb hkn HK
     go_wp2_with fail
     refine (HTR.out _).mono ?_
     rintro e w' ⟨rfl, rfl⟩
     go_wp2_with fail
     go_ret2
     exact ⟨by rw [HAA.out.1.1, HAA.out.1.2, HAA.out.2]; rfl, HBW.out⟩
end Go.Proofs.YtajollhpimfefaaGreatDoor
