/- The contract of the reference's Print. -/
import Derived.Test.YtajollhpimfefaaGreatDoorTexts
import Derived.Test.YtajollhpimfefaaGreatDoorRMul
import Derived.Outline
import Derived.Handy
namespace Go.Proofs.YtajollhpimfefaaGreatDoor
open Go.RowKit Go.Shelf

theorem rowB_set {w : World} {b off : Nat} {l : List UInt8} (h : RowB w b off l) (k : Nat) (c : UInt8) (v : Int) (hv : v = ((c.toNat : Nat) : Int)) (o : Nat) (ho : o = off + k) (hk : k < l.length) : RowB (w.setCell ⟨b, o, none⟩ (.int .u8 v)) b off (l.set k c) := by
  subst hv; subst ho
  intro j hj
  rw [List.length_set] at hj
  rw [World.frozen?_setCell]
  by_cases e : j = k
  · subst e
    rw [World.cell?_setCell_same' _ _ _ (by rw [(h j hk).1]; rfl)]
    refine ⟨?_, (h j hj).2⟩
    rw [List.getD_eq_getElem?_getD, List.getElem?_set_self hj]
    rfl
  · rw [World.cell?_setCell_other _ _ _ _ (by intro e'; have := congrArg Addr.off e'; simp at this; omega)]
    rw [List.getD_eq_getElem?_getD, List.getElem?_set_ne (fun e' => e e'.symm), ← List.getD_eq_getElem?_getD]
    exact h j hj
/-- What is left of a number whose last digits are these, the last one first. -/
def Left (M V : Nat) (D : List UInt8) : Prop := (V = 0 → D ≠ [] ∧ Lib.decDigits M = D.reverse) ∧ (V ≠ 0 → Lib.decDigits M = Lib.decDigits V ++ D.reverse)
theorem Left.step {M V : Nat} {D : List UInt8} (h : Left M V D) (hV : V ≠ 0) : Left M (V / 10) (D ++ [UInt8.ofNat (48 + V % 10)]) := by
  have h1 := h.2 hV
  rw [Left, List.reverse_append]
  by_cases h10 : V < 10
  · rw [Lib.decDigits_one h10] at h1
    refine ⟨fun _ => ⟨by simp, ?_⟩, fun h2 => absurd (show V / 10 = 0 by omega) h2⟩
    rw [h1, show V % 10 = V by omega]
    rfl
  · rw [decDigits_more V (by omega)] at h1
    refine ⟨fun h2 => absurd h2 (by omega), fun _ => ?_⟩
    rw [h1, List.append_assoc]
    rfl
theorem Left.length {M V : Nat} {D : List UInt8} (h : Left M V D) : D.length ≤ (Lib.decDigits M).length := by
  by_cases hV : V = 0
  · rw [(h.1 hV).2, List.length_reverse]; exact Nat.le_refl _
  · rw [h.2 hV, List.length_append, List.length_reverse]; omega
theorem ten_step (q r c V : Nat) (h : 10 * q + r = V) (hr : r < 10) (hc : c < 256) : 10 * (q * 256 + (r * 256 + c) / 10) + (r * 256 + c) % 10 = V * 256 + c ∧ (r * 256 + c) / 10 < 256 ∧ (r * 256 + c) % 10 < 10 := by
  omega
/-- A list, of which some places at both ends have changed. -/
def Turned (xs ys : List UInt8) (i : Nat) : Prop := ys.length = xs.length ∧ ∀ j, j < xs.length → ys.getD j 0 = if j < i ∨ xs.length - i ≤ j then xs.getD (xs.length - 1 - j) 0 else xs.getD j 0
theorem Turned.start (xs : List UInt8) : Turned xs xs 0 := ⟨rfl, fun j hj => by rw [if_neg (by omega)]⟩
theorem getD_set (ys : List UInt8) (i j : Nat) (c : UInt8) (hj : j < ys.length) : (ys.set i c).getD j 0 = if i = j then c else ys.getD j 0 := by
  rw [List.getD_eq_getElem?_getD, List.getElem?_set]
  by_cases e : i = j
  · rw [if_pos e, if_pos e, if_pos (by omega)]; rfl
  · rw [if_neg e, if_neg e, List.getD_eq_getElem?_getD]
theorem Turned.step {xs ys : List UInt8} {i : Nat} (h : Turned xs ys i) (k : Nat) (hk : k + i + 1 = xs.length) (hik : i < k) :
    Turned xs ((ys.set i (ys.getD k 0)).set k (ys.getD i 0)) (i + 1) := by
  refine ⟨by simpa using h.1, fun j hj => ?_⟩
  rw [getD_set _ _ _ _ (by simpa [h.1] using hj), getD_set _ _ _ _ (by rw [h.1]; exact hj)]
  have hi := h.2 i (by omega)
  have hk2 := h.2 k (by omega)
  rw [if_neg (by omega)] at hi hk2
  by_cases e1 : k = j
  · rw [if_pos e1, if_pos (by omega), hi]
    congr 1; omega
  · rw [if_neg e1]
    by_cases e2 : i = j
    · rw [if_pos e2, if_pos (by omega), hk2]
      congr 1; omega
    · rw [if_neg e2, h.2 j hj]
      by_cases e3 : j < i ∨ xs.length - i ≤ j
      · rw [if_pos e3, if_pos (by omega)]
      · rw [if_neg e3, if_neg (by omega)]
theorem Turned.done {xs ys : List UInt8} {i : Nat} (h : Turned xs ys i) (hi : xs.length ≤ 2 * i + 1) : ys = xs.reverse := by
  apply List.ext_getElem?
  intro j
  by_cases hj : j < xs.length
  · have h1 := h.2 j hj
    have e1 : ys[j]? = some (ys.getD j 0) := by
      rw [List.getD_eq_getElem?_getD, List.getElem?_eq_getElem (by rw [h.1]; exact hj)]; rfl
    have e2 : xs.reverse[j]? = some (xs.getD (xs.length - 1 - j) 0) := by
      rw [List.getElem?_reverse hj, List.getD_eq_getElem?_getD, List.getElem?_eq_getElem (by omega)]; rfl
    rw [e1, e2, h1]
    by_cases e3 : j < i ∨ xs.length - i ≤ j
    · rw [if_pos e3]
    · rw [if_neg e3, show xs.length - 1 - j = j by omega]
  · rw [List.getElem?_eq_none (by rw [h.1]; omega), List.getElem?_eq_none (by rw [List.length_reverse]; omega)]

theorem or256 (r c : Nat) (hr : r < 256) (hc : c < 256) : bits .or .i64 ((r : Int) * 256) (c : Int) = ((r * 256 + c : Nat) : Int) := by
  show IntKind.i64.wrap ((BitVec.ofInt 64 ((r : Int) * 256) ||| BitVec.ofInt 64 (c : Int)).toNat : Int) = _
  rw [show (r : Int) * 256 = ((r * 256 : Nat) : Int) by omega, BitVec.toNat_or, ofInt_u64 _ (by omega), ofInt_u64 _ (by omega), nat_join 8 (r * 256) c (by omega) hc, IntKind.wrap_i64]
  omega
theorem tdiv10 (t d : Nat) (h : t / 10 = d) : ((t : Nat) : Int).tdiv 10 = (d : Int) := by rw [Int.tdiv_eq_ediv_of_nonneg (by omega)]; omega
theorem tmod10 (t d : Nat) (h : t % 10 = d) : ((t : Nat) : Int).tmod 10 = (d : Int) := by rw [Int.tmod_eq_emod_of_nonneg (by omega)]; omega
theorem wrap_u8 (d : Nat) (h : d < 256) : wrap64 ((d : Nat) : Int) % 256 = (d : Int) := by unfold wrap64; omega
theorem u8s_snoc (D : List UInt8) (c : UInt8) (v : Int) (hv : v = ((c.toNat : Nat) : Int)) : u8s D ++ [Value.int .u8 v] = u8s (D ++ [c]) := by
  subst hv; simp [u8s]
theorem cells_one (W : World) (v : Int) (T : TypeId) : ∀ (j : Nat) (u : Value), [Value.int .u8 v][j]? = some u → (W.alloc (Obj.cells #[Value.int .u8 v] T)).cell? ((⟨W.heap.size, 0, none⟩ : Addr).add j) = some u := fun j u hu => by
  cases j with
  | zero => simp at hu; subst hu; exact (box_new W (.int .u8 v) T).1
  | succ j => simp at hu
theorem ten_parts (q rr V : Nat) (h : 10 * q + rr = V) (hr : rr < 10) : q = V / 10 ∧ rr = V % 10 := by omega
def lenOf : Value → Nat
  | .slice _ n _ => n
  | _ => 0
theorem head_pos (L : List UInt8) (h : ∀ c l, L = c :: l → c ≠ 0) (hl : 0 < L.length) : beVal L ≠ 0 := by
  cases L with
  | nil => simp at hl
  | cons c l =>
    have hc : c.toNat ≠ 0 := fun e => h c l rfl (UInt8.toNat_inj.1 e)
    rw [beVal_cons]
    have : 0 < c.toNat * 256 ^ l.length := Nat.mul_pos (by omega) (Nat.pow_pos (by omega))
    omega
theorem own_lenOf {w : World} {B n : Nat} {T : TypeId} {v : Value} {xs : List Value} (h : w.ownsRow B T 1 v n xs) : lenOf v = n := by
  rcases h.2 with ⟨rfl, h0⟩ | ⟨g, cap, cur, rfl, _⟩
  · rw [h0]; rfl
  · rfl
theorem be_head (M : Nat) : ∀ c l, be M = c :: l → c ≠ 0 := fun c l e => by
  have h : strip (be M) = be M := by rw [strip_be, beVal_be]
  rw [e] at h
  exact strip_head h
theorem u8s_get (ys : List UInt8) (j : Nat) (h : j < ys.length) : (u8s ys)[j]? = some (.int .u8 ((ys.getD j 0).toNat : Nat)) := by
  unfold u8s
  rw [List.getElem?_map, List.getD_eq_getElem?_getD, List.getElem?_eq_getElem h]; rfl
theorem own_rowB {w : World} {B g c n : Nat} {T : TypeId} {ys : List UInt8} (h : w.ownsRow B T 1 (.slice (some ⟨g, 0, none⟩) n c) n (u8s ys)) : RowB w g 0 ys := by
  intro j hj
  have hl := h.1
  rw [u8s_length] at hl
  rw [Nat.zero_add]
  exact ⟨(h.cellAt j (by omega)).trans (u8s_get ys j hj), h.frozenAt j⟩
theorem u8s_set (ys : List UInt8) (k : Nat) (c : UInt8) (v : Int) (hv : ((c.toNat : Nat) : Int) = v) : (u8s ys).set k (.int .u8 v) = u8s (ys.set k c) := by subst hv; unfold u8s; rw [List.map_set]
theorem itoa_end (z : Int) (D : List UInt8) (h : Lib.decDigits z.natAbs = D.reverse) (h0 : z ≠ 0) : Lib.itoa z = (if ng z then D ++ [45] else D).reverse := by
  by_cases hz : z < 0
  · have e : ng z = true := by simp [ng, hz]
    obtain ⟨n, rfl⟩ : ∃ n : Nat, z = -(n : Int) := ⟨z.natAbs, by omega⟩
    rw [Lib.itoa_neg n (by omega), e, if_pos rfl, List.reverse_append, ← h]
    simp
  · have e : ng z = false := by simp [ng]; omega
    obtain ⟨n, rfl⟩ : ∃ n : Nat, z = (n : Int) := ⟨z.toNat, by omega⟩
    rw [Lib.itoa_nonneg n, e, if_neg (by decide), ← h]
    rfl
theorem setB_mid (Q L : List UInt8) (q : Nat) (c : UInt8) (hQ : Q.length = q) (h : q < L.length) : (Q ++ L.drop q).set q c = (Q ++ [c]) ++ L.drop (q + 1) := by
  subst hQ
  rw [List.set_append_right _ _ (Nat.le_refl _), Nat.sub_self, List.drop_eq_getElem_cons h, List.set_cons_zero, List.append_assoc]
  rfl
theorem conv_row (W : World) (s : ByteArray) : RowB (Lib.bytesWorld W 5 s) W.heap.size 0 s.data.toList := by
  intro j hj
  have hs : j < s.size := by rw [Lib.size_eq]; exact hj
  rw [Nat.zero_add]
  refine ⟨Lib.bytesWorld_cell W _ s j hs, ?_⟩
  simp only [World.frozen?, Lib.bytesWorld_at_new]
  have : s.size ≤ (Lib.bytesCells W 5 s).size := by simp [Lib.bytesCells]
  simp; omega
theorem conv_below (W : World) (s : ByteArray) : Below W.heap.size W (Lib.bytesWorld W 5 s) := by
  refine ⟨?_, ?_, ?_, ?_, fun k hk => Lib.bytesWorld_at_old W _ s k hk⟩
  all_goals (try rfl)
  rw [Lib.bytesWorld_size]; omega

set_option maxHeartbeats 2000000 in
set_option maxRecDepth 100000 in
theorem rprint_any (na : Bool) (sa : ByteArray) (w : World) (ha : sa.size ≤ 60) :
    Calls Tryz.prog 43 #[.agg #[.bool na, .string sa]] w fun e w' => e = .returned (.string (txt (ival na sa))) ∧ Below w.heap.size w w' := by
  obtain ⟨z, hz⟩ : ∃ z, ival na sa = z := ⟨_, rfl⟩
  have hca := fun W => rcanonical_any na sa W
  have hz0 : z.natAbs < 256 ^ 60 := by
    rw [← hz, ival_abs]
    exact Nat.lt_of_lt_of_le (beVal_lt _) (Nat.pow_le_pow_right (by omega) (by rw [← Lib.size_eq]; exact ha))
  have hsz : (mg z).size ≤ 60 := mg_size z 60 hz0
  have hml := mg_list z
  rw [hz] at hca ⊢
  have HCA := Lib.hid hca
  have HZ0 := Lib.hid (And.intro hz0 hml)
  clear hca hz hz0 hml
  obtain ⟨mz, hmz⟩ : ∃ m, mg z = m := ⟨_, rfl⟩
  rw [hmz] at hsz HCA HZ0
  have hcv := fun W => Lib.run_convert_string_bytes (P := Tryz.prog) W 9 72 5 mz Tryz.underlying9 Tryz.underlying72 Tryz.underlying5
  go_enter Tryz.func43, Tryz.ntmps43
  go_wp2_with fail
  refine (HCA.out _).mono ?_
  rintro e w1 ⟨rfl, b1⟩
  have tA := (two_new w (.bool na) (.string sa) 23).below b1 (by simp)
  have hb1 : Below w.heap.size w w1 := ((Below.refl _ _).alloc (Nat.le_refl _) _).trans (b1.mono (by simp))
  have m1 := tA.1.1
  have m2 := tA.2.1
  have m3 := tA.1.2
  have m4 := tA.2.2
  have HB1 := Lib.hid (And.intro hb1 (And.intro tA.lt tA))
  clear b1 hb1 tA
  by_cases h0 : z = 0
  · have hem : mz.toList.isEmpty = true := by
      rw [Lib.toList_data, HZ0.out.2, h0]; rfl
    go_wp2_with fail
    go_ret
    refine ⟨?_, (HB1.out.1.setCell (Nat.le_refl _) _).setCell (Nat.le_refl _) _⟩
    rw [h0]
    show _ = Ending.returned (Value.string ⟨(Lib.itoa 0).toArray⟩)
    rw [itoa_zero]
    rfl
  · have hem : mz.toList.isEmpty = false := by
      rw [Lib.toList_data, HZ0.out.2, be_pos _ (by omega)]
      simp
    go_wp2_with fail
    obtain ⟨W2, hW2⟩ : ∃ V, (w1.setCell { block := w.heap.size, off := 0 } (Value.bool (ng z))).setCell { block := w.heap.size, off := 1 } (Value.string mz) = V := ⟨_, rfl⟩
    obtain ⟨W3, hW3⟩ : ∃ V, Lib.bytesWorld W2 5 mz = V := ⟨_, rfl⟩
    have hb2 : Below w.heap.size w W2 := by rw [← hW2]; exact (HB1.out.1.setCell (Nat.le_refl _) _).setCell (Nat.le_refl _) _
    have hg2 : w1.heap.size = W2.heap.size := by rw [← hW2]; simp
    have hr3 : RowB W3 W2.heap.size 0 mz.data.toList := by rw [← hW3]; exact conv_row W2 mz
    have hb3 : Below w.heap.size w W3 := by rw [← hW3]; exact hb2.trans ((conv_below W2 mz).mono hb2.size)
    have t2 : Two w.heap.size (.bool (ng z)) (.string mz) W2 := by rw [← hW2]; exact two_set HB1.out.2.2 _ _
    have t3 : Two w.heap.size (.bool (ng z)) (.string mz) W3 := by rw [← hW3]; exact t2.below (conv_below W2 mz) t2.lt
    have hs3 : W2.heap.size + 1 ≤ W3.heap.size := by rw [← hW3, Lib.bytesWorld_size]; exact Nat.le_refl _
    have hm3 := m3
    obtain ⟨g, hg⟩ : ∃ g, W2.heap.size = g := ⟨_, rfl⟩
    obtain ⟨cap, hcap⟩ : ∃ c, grownCap W2 mz.size 0 5 = c := ⟨_, rfl⟩
    have hwg : w.heap.size < g := by rw [← hg, ← hg2]; exact HB1.out.2.1
    rw [hW2, hW3, hg2, hg, hcap]
    rw [hg] at hr3 hs3
    obtain ⟨M, hM⟩ : ∃ M, z.natAbs = M := ⟨_, rfl⟩
    have hM0 : M ≠ 0 := by omega
    obtain ⟨T, hT⟩ : ∃ T, (Lib.decDigits M).length = T := ⟨_, rfl⟩
    have hT200 : T ≤ 145 := by
      have h1 := HZ0.out.1
      have h2 : (256 : Nat) ^ 60 ≤ 10 ^ (144 + 1) := by decide +kernel
      rw [← hT, Lib.decDigits_length]
      exact nDigits_upto 144 M (by omega)
    have hnn : (be M).length = mz.size := by rw [← hM, ← HZ0.out.2, ← Lib.size_eq]
    have hbm : mz.data.toList = be M := by rw [HZ0.out.2, hM]
    rw [hbm] at hr3
    have HN := Lib.hid (And.intro hnn (And.intro hM0 (And.intro hT hr3)))
    have HB3 := Lib.hid (And.intro hb3 (And.intro hs3 (And.intro hwg t3)))
    clear hcv m1 m2 m3 m4 hm3 hW2 hW3 hb2 t2 t3 hg2 hr3 hb3 hs3 hg hcap hnn hbm hM0 hT h0 hem hwg
    go_loopw [3, 5] (fun o a wr => ∃ (D L : List UInt8) (k : Nat) (ov : Value), ov = o ∧ a = .int .i64 k ∧ k + L.length = mz.size ∧ wr.ownsRow (g + 1) 5 1 ov D.length (u8s D) ∧ RowB wr g k L ∧ (∀ c l, L = c :: l → c ≠ 0) ∧ Left M (beVal L) D ∧ Below g W3 wr ∧ g + 1 ≤ wr.heap.size) (fun o _ _ => T - lenOf o)
    case atStart => 
      have h := HN.out
      refine ⟨[], be M, 0, _, rfl, rfl, by omega, World.ownsRow_nil _ _ _ _, h.2.2.2, ?_, ⟨fun e => ?_, fun _ => ?_⟩, Below.refl _ _, HB3.out.2.1⟩
      · exact be_head M
      · rw [beVal_be] at e; exact absurd e h.2.1
      · rw [beVal_be]; simp
    case round =>
      obtain ⟨D, L, k, ov, rfl, rfl, hk, hown, hrow, hhd, hleft, hbel, hgs⟩ := hrel
      have HV := Lib.hid (And.intro hown (And.intro hrow (And.intro hhd (And.intro hleft (And.intro hbel hgs)))))
      clear hown hrow hhd hleft hbel hgs
      by_cases hlt : k < mz.size
      · go_wp2_with fail
        go_loopw [6, 7] (fun r i wx => ∃ (q rr : Nat) (Q : List UInt8), r = .int .i64 rr ∧ i = .int .i64 ((k + q : Nat) : Int) ∧ q ≤ L.length ∧ rr < 10 ∧ Q.length = q ∧ 10 * beVal Q + rr = beVal (L.take q) ∧ RowB wx g k (Q ++ L.drop q) ∧ wx.ownsRow (g + 1) 5 1 ov D.length (u8s D) ∧ Below g W3 wx ∧ g + 1 ≤ wx.heap.size) (fun _ i _ => mz.size - (intOf i).toNat)
        case atStart => 
          have h := HV.out
          exact ⟨0, 0, [], rfl, rfl, Nat.zero_le _, by omega, rfl, rfl, h.2.1, h.1, h.2.2.2.2.1, h.2.2.2.2.2⟩
        case round =>
          obtain ⟨q, rr, Q, rfl, rfl, hq, hrr, hQ, hval, hrow, hown, hbel, hgs⟩ := hrel
          have HW := Lib.hid (And.intro hQ (And.intro hval (And.intro hrow (And.intro hown (And.intro hbel hgs)))))
          clear hQ hval hrow hown hbel hgs
          by_cases hql : q < L.length
          · obtain ⟨c, hc⟩ : ∃ c, (L.getD q 0).toNat = c := ⟨_, rfl⟩
            have hc256 : c < 256 := by rw [← hc]; exact UInt8.toNat_lt _
            have hL2 : (Q ++ L.drop q).getD q 0 = L.getD q 0 := by
              rw [List.getD_eq_getElem?_getD, List.getElem?_append_right (by have := HW.out.1; omega), HW.out.1, Nat.sub_self, List.getElem?_drop, ← List.getD_eq_getElem?_getD, Nat.add_zero]
            have hll : q < (Q ++ L.drop q).length := by rw [List.length_append, List.length_drop, HW.out.1]; omega
            have hcc := HW.out.2.2.1 q hll
            rw [hL2, hc] at hcc
            have hct := hcc.1
            have hcf := hcc.2
            obtain ⟨i, hi⟩ : ∃ i, k + q = i := ⟨_, rfl⟩
            obtain ⟨t, ht⟩ : ∃ t, rr * 256 + c = t := ⟨_, rfl⟩
            have hor : bits .or .i64 ((rr : Int) * 256) (c : Int) = (t : Int) := by rw [← ht]; exact or256 rr c (by omega) hc256
            obtain ⟨d, hd⟩ : ∃ d, t / 10 = d := ⟨_, rfl⟩
            obtain ⟨r2, hr2⟩ : ∃ d, t % 10 = d := ⟨_, rfl⟩
            have hst := ten_step (beVal Q) rr c (beVal (L.take q)) HW.out.2.1 hrr hc256
            rw [ht, hd, hr2] at hst
            have hdv := tdiv10 t d hd
            have hmo := tmod10 t r2 hr2
            have hw8 := wrap_u8 d hst.2.1
            rw [hi] at hct hcf ⊢
            have HST := Lib.hid (And.intro hst (And.intro hc hi))
            have hr10 := hst.2.2
            have hin : (i : Int) < (mz.size : Int) := by omega
            have HF := Lib.hid (And.intro hor (And.intro hdv (And.intro hmo hw8)))
            clear hst hc hL2 hcc hd hr2 ht hi hll hor hdv hmo hw8
            go_wp2_with fail
            obtain ⟨hor, hdv, hmo, hw8⟩ := HF.out
            rw [hor, hdv, hmo, hw8]
            have hi2 := HST.out.2.2
            refine ⟨⟨q + 1, r2, Q ++ [UInt8.ofNat d], rfl, by go_num, by omega, hr10, by rw [List.length_append, HW.out.1]; rfl, ?_, ?_, ownsRow_setCell_below HW.out.2.2.2.1 (by show g < g + 1; omega) _, HW.out.2.2.2.2.1.setCell (Nat.le_refl _) _, by rw [World.size_setCell]; exact HW.out.2.2.2.2.2⟩, by simp [intOf]; omega⟩
            · rw [beVal_snoc, toNat_ofNat, Nat.mod_eq_of_lt HST.out.1.2.1, List.take_succ_eq_append_getElem hql, beVal_snoc]
              have hc2 := HST.out.2.1
              rw [List.getD_eq_getElem?_getD, List.getElem?_eq_getElem hql, Option.getD_some] at hc2
              rw [hc2]
              exact HST.out.1.1
            · have h := rowB_set HW.out.2.2.1 q (UInt8.ofNat d) (d : Int) (by rw [toNat_ofNat, Nat.mod_eq_of_lt HST.out.1.2.1]) i hi2.symm (by rw [List.length_append, List.length_drop, HW.out.1]; omega)
              rw [setB_mid Q L q _ HW.out.1 hql] at h
              exact h
          · have hqe : q = L.length := by omega
            subst hqe
            have hV : 10 * beVal Q + rr = beVal L := by have := HW.out.2.1; rwa [List.take_length] at this
            have hrow := HW.out.2.2.1
            rw [List.drop_length, List.append_nil] at hrow
            have HR := Lib.hid (And.intro hV hrow)
            have hik : k + L.length = mz.size := hk
            have hnk : ¬ ((k + L.length : Nat) : Int) < (mz.size : Int) := by omega
            clear hV hrow
            obtain ⟨i0, hi0, hz0, hz1, hz2⟩ := info_parts infoB
            have HI := Lib.hid (And.intro hi0 (And.intro hz0 (And.intro hz1 hz2)))
            clear hi0 hz0 hz1 hz2
            have hD : D.length ≤ 145 := by
              have h1 := HV.out.2.2.2.1.length
              have h2 := HN.out.2.2.1
              omega
            have hV0 : beVal L ≠ 0 := head_pos L HV.out.2.2.1 (by omega)
            have HV0 := Lib.hid hV0
            clear hV0
            go_wp2_with (at_builtin; refine RowKit.Hid.out ?_)
            refine Lib.hid ?_
            refine wpList_append_own _ rfl (.tmp 45) (.tmp 49) 72 rfl (g + 1) 5 i0 (.int .u8 0) 1 1 Tryz.underlying72 HI.out.1 HI.out.2.1 HI.out.2.2.1 HI.out.2.2.2 rfl (by omega) ov D.length (u8s D) rfl (HW.out.2.2.2.1.alloc _) ⟨wr.heap.size, 0, none⟩ 1 1 [.int .u8 (48 + (rr : Int))] rfl rfl (cells_one wr _ 5) (fun u hu => by simp at hu; subst hu; rfl) (by unfold maxLen; omega) (by omega) (by have := HW.out.2.2.2.2.2; simp; omega) ?_
            intro v' w3 hown3 hgr3 _
            rw [u8s_snoc D (UInt8.ofNat (48 + rr)) _ (by rw [toNat_ofNat]; omega)] at hown3
            have H3 := Lib.hid (And.intro hown3 hgr3)
            clear hown3 hgr3
            go_wp2_with fail
            have hal : Below (g + 1) wr (wr.alloc (Obj.cells #[Value.int .u8 (48 + (rr : Int))] 5)) := (Below.refl _ _).alloc HW.out.2.2.2.2.2 _
            have hb4 : Below (g + 1) wr w3 := hal.trans (own_below H3.out.2 (Nat.le_trans HW.out.2.2.2.2.2 hal.size) (fun k e => (HW.out.2.2.2.1.lt k e).1))
            have hr4 : RowB w3 g k Q := HR.out.2.below hb4 (Nat.lt_succ_self _)
            have hg4 : g + 1 ≤ w3.heap.size := Nat.le_trans HW.out.2.2.2.2.2 hb4.size
            have hb5 : Below g W3 w3 := HW.out.2.2.2.2.1.trans (hb4.mono (by omega))
            have hfin : ∀ R : List UInt8, beVal R = beVal Q → Left M (beVal R) (D ++ [UInt8.ofNat (48 + rr)]) := by
              intro R hR
              have h1 := ten_parts _ _ _ HR.out.1 hrr
              rw [hR, h1.1, h1.2]
              exact HV.out.2.2.2.1.step HV0.out
            have ho4 : w3.ownsRow (g + 1) 5 1 v' (D ++ [UInt8.ofNat (48 + rr)]).length (u8s (D ++ [UInt8.ofNat (48 + rr)])) := by
              have h := H3.out.1
              rw [List.length_append]
              exact h
            have hme : T - lenOf v' < T - lenOf ov := by
              have h1 := (hfin Q rfl).length
              have h2 := HN.out.2.2.1
              rw [own_lenOf ho4, own_lenOf HV.out.1]
              rw [List.length_append, List.length_singleton] at h1 ⊢
              omega
            have H4 := Lib.hid (And.intro hb5 (And.intro hr4 (And.intro hg4 (And.intro hfin (And.intro ho4 hme)))))
            clear hal hb4 hr4 hg4 hb5 hfin ho4 hme
            go_loopw [5] (fun a wx => ∃ (j : Nat) (R : List UInt8), a = .int .i64 ((k + j : Nat) : Int) ∧ k + j + R.length = mz.size ∧ beVal R = beVal Q ∧ RowB wx g (k + j) R ∧ wx = w3) (fun a _ => mz.size - (intOf a).toNat)
            case atStart => exact ⟨0, Q, rfl, by have := HW.out.1; omega, rfl, H4.out.2.1, rfl⟩
            case round =>
              obtain ⟨j, R, rfl, hjR, hRv, hRow, rfl⟩ := hrel
              have HRR := Lib.hid (And.intro hRv hRow)
              clear hRv hRow
              obtain ⟨i, hi⟩ : ∃ i, k + j = i := ⟨_, rfl⟩
              rw [hi]
              have h4 := H4.out
              have H5 := h4
              clear h4
              cases R with
              | nil =>
                have hin : ¬ (i : Int) < (mz.size : Int) := by simp at hjR; omega
                have H6 := Lib.hid H5
                clear H5
                go_wp2_with fail
                have h4 := H6.out
                exact ⟨⟨D ++ [UInt8.ofNat (48 + rr)], [], i, v', rfl, rfl, by simp at hjR ⊢; omega, h4.2.2.2.2.1, fun j hj => by simp at hj, fun c l e => by simp at e, h4.2.2.2.1 [] HRR.out.1, h4.1, h4.2.2.1⟩, h4.2.2.2.2.2⟩
              | cons c R =>
                have hin : (i : Int) < (mz.size : Int) := by simp at hjR; omega
                have hcc := HRR.out.2 0 (by simp)
                have hct := hcc.1
                have hcf := hcc.2
                rw [Nat.add_zero, hi] at hct hcf
                obtain ⟨cn, hcn⟩ : ∃ n, c.toNat = n := ⟨_, rfl⟩
                rw [show (c :: R).getD 0 0 = c from rfl, hcn] at hct
                have H6 := Lib.hid H5
                clear hcc H5
                by_cases hc0 : cn = 0
                · subst hc0
                  go_wp2_with fail
                  have hrr2 := HRR.out.2
                  refine ⟨⟨j + 1, R, by go_num, by simp at hjR; omega, ?_, ?_, trivial⟩, by simp [intOf]; omega⟩
                  · rw [← HRR.out.1, beVal_cons, hcn]; omega
                  · exact RowB.right (xs := [c]) hrr2
                · have hcz : ¬ (cn : Int) = 0 := by omega
                  go_wp2_with fail
                  have h4 := H6.out
                  have hrr2 := HRR.out.2
                  rw [hi] at hrr2
                  exact ⟨⟨D ++ [UInt8.ofNat (48 + rr)], c :: R, i, v', rfl, rfl, by omega, h4.2.2.2.2.1, hrr2, fun c2 l e => by injection e with e1 _; subst e1; exact fun e2 => hc0 (by rw [← hcn, e2]; rfl), h4.2.2.2.1 (c :: R) HRR.out.1, h4.1, h4.2.2.1⟩, h4.2.2.2.2.2⟩
      · have hL0 : L = [] := List.length_eq_zero_iff.1 (by omega)
        subst hL0
        have hD := HV.out.2.2.2.1.1 rfl
        have t3 := HB3.out.2.2.2.below HV.out.2.2.2.2.1 HB3.out.2.2.1
        have m1 := t3.1.1
        have hit := itoa_end z D (by rw [hM]; exact hD.2) (by have := HN.out.2.1; omega)
        have hDl : D.length ≤ 145 := by
          have h1 := HV.out.2.2.2.1.length
          have h2 := HN.out.2.2.1
          omega
        obtain ⟨ngz, hng⟩ : ∃ b, ng z = b := ⟨_, rfl⟩
        rw [hng] at m1 hit
        clear hng
        have HD := Lib.hid (And.intro hD.1 hit)
        clear hD hit t3 hk
        cases ngz
        · have hown := HV.out.1
          have hbel := HV.out.2.2.2.2.1
          have hit := HD.out.2
          obtain ⟨n, hn⟩ : ∃ n, (D).length = n := ⟨_, rfl⟩
          obtain ⟨E, hE⟩ : ∃ E, D = E := ⟨_, rfl⟩
          have hnE : 0 < n := by rw [← hn]; exact List.length_pos_iff.2 HD.out.1
          have hn146 : n ≤ 146 := by rw [← hn]; omega
          rw [hn] at hown
          obtain ⟨h, ccap, hov⟩ := own_shape hown hnE
          subst hov
          simp only [Bool.false_eq_true, if_false] at hit
          rw [hE] at hown hit hn
          have HE := Lib.hid (And.intro hn (And.intro hit (And.intro hown hbel)))
          clear hit hown hbel hE hn hDl
          go_wp2_with fail
          go_loopw [8, 9] (fun i k wx => ∃ (p : Nat) (kk : Int) (ys : List UInt8), i = .int .i64 p ∧ k = .int .i64 kk ∧ kk = (n : Int) - 1 - p ∧ 2 * p ≤ n ∧ Turned E ys p ∧ wx.ownsRow (g + 1) 5 1 (.slice (some ⟨h, 0, none⟩) n ccap) n (u8s ys) ∧ Below g W3 wx) (fun i _ _ => n - (intOf i).toNat)
          case atStart => exact ⟨0, _, E, rfl, rfl, by omega, by omega, Turned.start E, HE.out.2.2.1, HE.out.2.2.2⟩
          case round =>
            obtain ⟨p, kk, ys, rfl, rfl, hkk, hp, htu, hown, hbel⟩ := hrel
            have HT := Lib.hid (And.intro htu (And.intro hown hbel))
            clear htu hown hbel
            by_cases hlt : (p : Int) < kk
            · obtain ⟨q, rfl⟩ : ∃ q : Nat, kk = (q : Int) := ⟨kk.toNat, by omega⟩
              have hyl : ys.length = n := HT.out.1.1.trans HE.out.1
              have c1 := (HT.out.2.1.cellAt p (by omega)).trans (u8s_get ys p (by omega))
              have c2 := (HT.out.2.1.cellAt q (by omega)).trans (u8s_get ys q (by omega))
              have f1 := HT.out.2.1.frozenAt p
              have f2 := HT.out.2.1.frozenAt q
              obtain ⟨yp, hyp⟩ : ∃ y, (ys.getD p 0).toNat = y := ⟨_, rfl⟩
              obtain ⟨yq, hyq⟩ : ∃ y, (ys.getD q 0).toNat = y := ⟨_, rfl⟩
              rw [hyp] at c1
              rw [hyq] at c2
              have hpn : p < n := by omega
              have hqn : q < n := by omega
              have hpq : p < q := by omega
              have HC := Lib.hid (And.intro hyp (And.intro hyq (And.intro hyl (And.intro hkk hp))))
              clear hyp hyq hyl hkk hp hlt
              go_wp2_with fail
              go_region
              all_goals (go_wp2_with fail)
              obtain ⟨e1, e2, e3, e4, e5⟩ := HC.out
              have hs := ((HT.out.2.1.stored p (.int .u8 (yq : Nat))).1.stored q (.int .u8 (yp : Nat))).1
              have hgh : g ≤ h := by have := (HT.out.2.1.lt h rfl).1; omega
              rw [u8s_set ys p (ys.getD q 0) _ (by rw [e2]), u8s_set _ q (ys.getD p 0) _ (by rw [e1])] at hs
              refine ⟨⟨p + 1, _, _, by go_num, rfl, by omega, by omega, HT.out.1.step q (by have := HE.out.1; omega) hpq, hs.drew, ((HT.out.2.2.setCell hgh _).setCell hgh _).drew⟩, by simp [intOf]; omega⟩
            · have hyy := HT.out.1.done (by have := HE.out.1; omega)
              have hcv := conv_bytes (cap := ccap) (own_rowB HT.out.2.1)
              rw [show ys.length = n from HT.out.1.1.trans HE.out.1] at hcv
              have HC := Lib.hid hyy
              clear hyy hkk hp
              go_wp2_with fail
              go_ret
              refine ⟨?_, HB3.out.1.trans (HT.out.2.2.mono (by have := HB3.out.2.2.1; omega))⟩
              rw [HC.out, ← HE.out.2.1]
              rfl
        · obtain ⟨i0, hi0, hz0, hz1, hz2⟩ := info_parts infoB
          have HI := Lib.hid (And.intro hi0 (And.intro hz0 (And.intro hz1 hz2)))
          clear hi0 hz0 hz1 hz2
          go_wp2_with (at_builtin; refine RowKit.Hid.out ?_)
          refine Lib.hid ?_
          refine Lib.hid ?_
          refine wpList_append_own _ rfl (.tmp 66) (.tmp 67) 72 rfl (g + 1) 5 i0 (.int .u8 0) 1 1 Tryz.underlying72 HI.out.1 HI.out.2.1 HI.out.2.2.1 HI.out.2.2.2 rfl (by omega) ov D.length (u8s D) rfl (HV.out.1.alloc _) ⟨wr.heap.size, 0, none⟩ 1 1 [.int .u8 45] rfl rfl (cells_one wr _ 5) (fun u hu => by simp at hu; subst hu; rfl) (by unfold maxLen; omega) (by omega) (by have := HV.out.2.2.2.2.2; simp; omega) ?_
          intro v' w5 hown hgr5 _
          rw [u8s_snoc D 45 45 rfl, show D.length + 1 = (D ++ [(45 : UInt8)]).length by simp] at hown
          have hal : Below (g + 1) wr (wr.alloc (Obj.cells #[Value.int .u8 45] 5)) := (Below.refl _ _).alloc HV.out.2.2.2.2.2 _
          have hb5 : Below (g + 1) wr w5 := hal.trans (own_below hgr5 (Nat.le_trans HV.out.2.2.2.2.2 hal.size) (fun k e => (HV.out.1.lt k e).1))
          have hbel := HV.out.2.2.2.2.1.trans (hb5.mono (by omega))
          clear hal hb5 hgr5
          have hit := HD.out.2
          obtain ⟨n, hn⟩ : ∃ n, (D ++ [45]).length = n := ⟨_, rfl⟩
          obtain ⟨E, hE⟩ : ∃ E, D ++ [45] = E := ⟨_, rfl⟩
          have hnE : 0 < n := by rw [← hn]; simp
          have hn146 : n ≤ 146 := by rw [← hn]; simp; omega
          rw [hn] at hown
          obtain ⟨h, ccap, hov⟩ := own_shape hown hnE
          subst hov
          simp only [if_true] at hit
          rw [hE] at hown hit hn
          have HE := Lib.hid (And.intro hn (And.intro hit (And.intro hown hbel)))
          clear hit hown hbel hE hn hDl
          go_wp2_with fail
          go_loopw [8, 9] (fun i k wx => ∃ (p : Nat) (kk : Int) (ys : List UInt8), i = .int .i64 p ∧ k = .int .i64 kk ∧ kk = (n : Int) - 1 - p ∧ 2 * p ≤ n ∧ Turned E ys p ∧ wx.ownsRow (g + 1) 5 1 (.slice (some ⟨h, 0, none⟩) n ccap) n (u8s ys) ∧ Below g W3 wx) (fun i _ _ => n - (intOf i).toNat)
          case atStart => exact ⟨0, _, E, rfl, rfl, by omega, by omega, Turned.start E, HE.out.2.2.1, HE.out.2.2.2⟩
          case round =>
            obtain ⟨p, kk, ys, rfl, rfl, hkk, hp, htu, hown, hbel⟩ := hrel
            have HT := Lib.hid (And.intro htu (And.intro hown hbel))
            clear htu hown hbel
            by_cases hlt : (p : Int) < kk
            · obtain ⟨q, rfl⟩ : ∃ q : Nat, kk = (q : Int) := ⟨kk.toNat, by omega⟩
              have hyl : ys.length = n := HT.out.1.1.trans HE.out.1
              have c1 := (HT.out.2.1.cellAt p (by omega)).trans (u8s_get ys p (by omega))
              have c2 := (HT.out.2.1.cellAt q (by omega)).trans (u8s_get ys q (by omega))
              have f1 := HT.out.2.1.frozenAt p
              have f2 := HT.out.2.1.frozenAt q
              obtain ⟨yp, hyp⟩ : ∃ y, (ys.getD p 0).toNat = y := ⟨_, rfl⟩
              obtain ⟨yq, hyq⟩ : ∃ y, (ys.getD q 0).toNat = y := ⟨_, rfl⟩
              rw [hyp] at c1
              rw [hyq] at c2
              have hpn : p < n := by omega
              have hqn : q < n := by omega
              have hpq : p < q := by omega
              have HC := Lib.hid (And.intro hyp (And.intro hyq (And.intro hyl (And.intro hkk hp))))
              clear hyp hyq hyl hkk hp hlt
              go_wp2_with fail
              go_region
              all_goals (go_wp2_with fail)
              obtain ⟨e1, e2, e3, e4, e5⟩ := HC.out
              have hs := ((HT.out.2.1.stored p (.int .u8 (yq : Nat))).1.stored q (.int .u8 (yp : Nat))).1
              have hgh : g ≤ h := by have := (HT.out.2.1.lt h rfl).1; omega
              rw [u8s_set ys p (ys.getD q 0) _ (by rw [e2]), u8s_set _ q (ys.getD p 0) _ (by rw [e1])] at hs
              refine ⟨⟨p + 1, _, _, by go_num, rfl, by omega, by omega, HT.out.1.step q (by have := HE.out.1; omega) hpq, hs.drew, ((HT.out.2.2.setCell hgh _).setCell hgh _).drew⟩, by simp [intOf]; omega⟩
            · have hyy := HT.out.1.done (by have := HE.out.1; omega)
              have hcv := conv_bytes (cap := ccap) (own_rowB HT.out.2.1)
              rw [show ys.length = n from HT.out.1.1.trans HE.out.1] at hcv
              have HC := Lib.hid hyy
              clear hyy hkk hp
              go_wp2_with fail
              go_ret
              refine ⟨?_, HB3.out.1.trans (HT.out.2.2.mono (by have := HB3.out.2.2.1; omega))⟩
              rw [HC.out, ← HE.out.2.1]
              rfl
end Go.Proofs.YtajollhpimfefaaGreatDoor
