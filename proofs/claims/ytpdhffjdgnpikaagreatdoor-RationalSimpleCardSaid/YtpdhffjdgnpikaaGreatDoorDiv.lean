/- The contract of bigint.divide, at a greater divisor and at one of a single word. The contract of bigint.Div, where the contract of divide holds for its absolute values. bigint.Div at a divisor with the value 0. The contract of bigint.Root, where the contract of root holds for its number. -/
import Derived.Test.YtpdhffjdgnpikaaGreatDoorNat
import Derived.Test.YtpdhffjdgnpikaaGreatDoorDiv64
import Derived.Test.YtpdhffjdgnpikaaGreatDoorBlockwise
import Derived.Test.YtpdhffjdgnpikaaGreatDoorMul
import Derived.Outline
import Derived.Test.YtpdhffjdgnpikaaGreatDoorSum
import Derived.Test.YtpdhffjdgnpikaaGreatDoorCmp
namespace Go.Proofs.YtpdhffjdgnpikaaGreatDoor

/-- q is the quotient of z and y, rounded down, and r the remainder. -/
def IsDiv (z y q r : Int) : Prop := z = y * q + r ∧ ((0 ≤ r ∧ r < y) ∨ (r ≤ 0 ∧ y < r))
theorem int_gap (y t : Int) (ht : 1 ≤ t) (hy : 0 < y) : y ≤ y * t := by
  have := Int.mul_le_mul_of_nonneg_left ht (show (0 : Int) ≤ y by omega)
  rwa [Int.mul_one] at this
theorem isDiv_aux {y q r q' r' : Int} (e : y * q + r = y * q' + r') (h1 : 0 ≤ r ∧ r < y) (h2 : 0 ≤ r' ∧ r' < y) : q = q' := by
  have e2 : y * (q - q') = r' - r := by rw [Int.mul_sub]; omega
  rcases Int.lt_or_le 0 (q - q') with h | h
  · have := int_gap y (q - q') (by omega) (by omega)
    omega
  · rcases Int.lt_or_le (q - q') 0 with h' | h'
    · have := int_gap y (q' - q) (by omega) (by omega)
      rw [show q' - q = -(q - q') by omega, Int.mul_neg] at this
      omega
    · omega
theorem IsDiv.unique {z y q r q' r' : Int} (h : IsDiv z y q r) (h' : IsDiv z y q' r') : q = q' ∧ r = r' := by
  obtain ⟨e, h⟩ := h
  obtain ⟨e', h'⟩ := h'
  have eq : q = q' := by
    rcases h with h | h <;> rcases h' with h' | h'
    · exact isDiv_aux (by omega) h h'
    · omega
    · omega
    · exact isDiv_aux (y := -y) (q := q) (q' := q') (r := -r) (r' := -r') (by rw [Int.neg_mul, Int.neg_mul]; omega) (by omega) (by omega)
  subst eq
  exact ⟨rfl, by omega⟩

/-- The number with this sign and this absolute value. -/
def sgn (b : Bool) (n : Nat) : Int := if b then -(n : Int) else n
theorem div_cast (m n : Nat) : (m : Int) = (n : Int) * ((m / n : Nat) : Int) + ((m % n : Nat) : Int) := by
  rw [← Int.natCast_mul, ← Int.natCast_add, Nat.div_add_mod]
theorem isDiv_same (b : Bool) (m n : Nat) (hn : 0 < n) : IsDiv (sgn b m) (sgn b n) ((m / n : Nat) : Int) (sgn b (m % n)) := by
  have h := div_cast m n
  have hr := Nat.mod_lt m hn
  generalize m / n = q at *
  generalize m % n = r at *
  cases b
  · exact ⟨h, .inl ⟨by simp [sgn], by simp [sgn]; omega⟩⟩
  · refine ⟨?_, .inr ⟨by simp [sgn], by simp [sgn]; omega⟩⟩
    simp only [sgn, if_true, Int.neg_mul]
    omega
theorem isDiv_even (a b : Bool) (hab : a ≠ b) (m n : Nat) (hn : 0 < n) (hr : m % n = 0) : IsDiv (sgn a m) (sgn b n) (-((m / n : Nat) : Int)) 0 := by
  have h := div_cast m n
  rw [hr] at h
  generalize m / n = q at *
  cases a <;> cases b <;> simp only [ne_eq, not_true] at hab
  · refine ⟨?_, .inr ⟨by omega, by simp [sgn]; omega⟩⟩
    simp only [sgn, if_true, Int.neg_mul, Int.mul_neg]
    simp at h ⊢
    omega
  · refine ⟨?_, .inl ⟨by omega, by simp [sgn]; omega⟩⟩
    simp only [sgn, if_true, Int.mul_neg]
    simp at h ⊢
    omega
theorem isDiv_more (a b : Bool) (hab : a ≠ b) (m n : Nat) (hn : 0 < n) (hr : m % n ≠ 0) : IsDiv (sgn a m) (sgn b n) (-((m / n + 1 : Nat) : Int)) (sgn b (n - m % n)) := by
  have h := div_cast m n
  have hr2 := Nat.mod_lt m hn
  generalize m / n = q at *
  generalize m % n = r at *
  have e : ((n - r : Nat) : Int) = (n : Int) - (r : Int) := by omega
  have e2 : ((q + 1 : Nat) : Int) = (q : Int) + 1 := by omega
  cases a <;> cases b <;> simp only [ne_eq, not_true] at hab
  · refine ⟨?_, .inr ⟨by simp only [sgn, if_true]; omega, by simp only [sgn, if_true]; omega⟩⟩
    simp only [sgn, if_true, e, e2, Int.neg_mul, Int.mul_neg, Int.mul_add, Int.mul_one]
    simp
    omega
  · refine ⟨?_, .inl ⟨by simp [sgn], by simp [sgn]; omega⟩⟩
    simp only [sgn, if_true, e, e2, Int.mul_neg, Int.mul_add, Int.mul_one]
    simp
    omega
end Go.Proofs.YtpdhffjdgnpikaaGreatDoor

namespace Go.Proofs.YtpdhffjdgnpikaaGreatDoor
open Go.RowKit Go.Shelf

/-- The words of the quotient and of the remainder; nothing that was there has turned. -/
def DivRes (w : World) (m n : Nat) (e : Ending) (w' : World) : Prop :=
  ∃ (pq : Option Addr) (cq : Nat) (pr : Option Addr) (cr : Nat), e = .returned (.tuple #[.slice pq (nw (m / n)).length cq, .slice pr (nw (m % n)).length cr]) ∧
    (nw (m / n)).length ≤ cq ∧ (nw (m % n)).length ≤ cr ∧ Nt w' pq (nw (m / n)) ∧ Nt w' pr (nw (m % n)) ∧ Below w.heap.size w w'

set_option maxHeartbeats 400000 in
set_option maxRecDepth 100000 in
theorem divide_less (p q : Option Addr) (cx cy m n : Nat) (w : World) (hx : Nt w p (nw m)) (hy : Nt w q (nw n)) (hcx : (nw m).length ≤ cx) (hlt : m < n) (hl : (nw m).length ≤ 1048576) :
    Calls Tryz.prog 128 #[.slice p (nw m).length cx, .slice q (nw n).length cy] w (DivRes w m n) := by
  have hcm := compare_any p q m n cx cy w hx hy hl
  rw [cmpZ_lt (by omega)] at hcm
  have HCM := Lib.hid hcm
  have HX := Lib.hid (And.intro hx (And.intro hcx hlt))
  clear hcm hx hy hcx hl hlt
  go_enter Tryz.func128, Tryz.ntmps128
  go_wp2_with fail
  refine HCM.out.mono ?_
  rintro e wC ⟨rfl, hbC⟩
  have HB := Lib.hid hbC
  clear hbC
  go_wp2_with fail
  go_ret2
  obtain ⟨hx, hcx, hlt⟩ := HX.out
  refine ⟨none, 0, p, cx, ?_, ?_, ?_, ?_, ?_, HB.out⟩
  · rw [Nat.div_eq_of_lt hlt, Nat.mod_eq_of_lt hlt]; rfl
  · rw [Nat.div_eq_of_lt hlt, nw_zero]; exact Nat.le_refl _
  · rw [Nat.mod_eq_of_lt hlt]; exact hcx
  · rw [Nat.div_eq_of_lt hlt]; exact .inl rfl
  · rw [Nat.mod_eq_of_lt hlt]; exact hx.below HB.out

set_option maxHeartbeats 1000000 in
set_option maxRecDepth 100000 in
theorem divide_word (p q : Option Addr) (cx cy m n : Nat) (w : World) (hx : Nt w p (nw m)) (hy : Nt w q (nw n)) (hn0 : 0 < n) (hn1 : n < 18446744073709551616) (hle : n ≤ m) (hl : (nw m).length ≤ 1048576) :
    Calls Tryz.prog 128 #[.slice p (nw m).length cx, .slice q (nw n).length cy] w (DivRes w m n) := by
  have hcm := compare_any p q m n cx cy w hx hy hl
  have hcz : 0 ≤ cmpZ m n := by
    rcases Nat.lt_or_ge n m with h | h
    · rw [cmpZ_gt (by omega)]; omega
    · rw [cmpZ_eq (by omega)]; omega
  obtain ⟨cz, hczz⟩ : ∃ cz, cmpZ m n = cz := ⟨_, rfl⟩
  rw [hczz] at hcm hcz
  have hczn : ¬ cz < 0 := by omega
  have hm0 : m ≠ 0 := by omega
  have hmp : 0 < (nw m).length := by rw [List.length_pos_iff]; exact fun h => hm0 ((nw_eq_nil m).1 h)
  have hny : nw n = [n] := nw_small n hn1 (by omega)
  rw [hny] at hy hcm ⊢
  have HCM := Lib.hid hcm
  rcases hx with hx | ⟨bx, ox, rfl, hxr⟩
  · rw [hx] at hmp; simp at hmp
  · rcases hy with hy | ⟨by', oy, rfl, hyr⟩
    · cases hy
    · have HX := Lib.hid hxr
      have HY := Lib.hid hyr
      have HM := Lib.hid (And.intro hm0 (And.intro hmp (And.intro hn0 hn1)))
      clear hcm hxr hyr hczz hle hm0 hny
      go_enter Tryz.func128, Tryz.ntmps128
      go_wp2_with fail
      refine HCM.out.mono ?_
      rintro e wC ⟨rfl, hbC⟩
      have hxC := HX.out.below hbC (HX.out.lt HM.out.2.1)
      have hyC := HY.out.below hbC (HY.out.lt (by simp))
      have HXC := Lib.hid hxC
      have HYC := Lib.hid (And.intro hyC hbC)
      clear hxC hyC hbC
      go_wp2_with fail
      refine (clone_any bx ox cx (nw m) wC HXC.out HM.out.2.1 (by omega)).mono ?_
      rintro e wD ⟨g, cg, rfl, hcg, hcm2, rowg, hgC, hgD, hbD⟩
      have hyD := HYC.out.1.below hbD (HYC.out.1.lt (by simp))
      have kY : wD.cell? ⟨by', oy, none⟩ = some (.int .u64 (n : Nat)) := (hyD 0 (by simp)).1
      have HG := Lib.hid (And.intro hcg (And.intro hcm2 (And.intro rowg (And.intro hgC (And.intro hgD hbD)))))
      clear hcg hcm2 rowg hgC hgD hbD hyD
      go_wp2_with fail
      refine (divWord_any g cg n (nw m) wD HG.out.2.2.1 HG.out.2.2.2.2.1 (nw_ok m) HM.out.2.2.1 HM.out.2.2.2 hl).mono ?_
      rintro e wE ⟨qs, r, rfl, hv, hr, hlen, hok, rowq, htq⟩
      have ht := trim_any (some ⟨g, 0, none⟩) qs cg wE (.inr ⟨g, 0, rfl, rowq⟩) (by omega) (by rw [hlen]; exact HG.out.1) HG.out.2.1
      rw [hlen, trimW_length qs hok] at ht
      have hdm : wv qs = m / n ∧ r = m % n := by
        have h1 : m = n * wv qs + r := by rw [← hv, wv_nw]
        rw [h1]
        exact ⟨by rw [Nat.mul_add_div (by omega), Nat.div_eq_of_lt hr, Nat.add_zero], by rw [Nat.mul_add_mod, Nat.mod_eq_of_lt hr]⟩
      rw [hdm.1] at ht
      have HT := Lib.hid ht
      have htk := take_trimW qs hok
      rw [hdm.1] at htk
      have hrw : r < 18446744073709551616 := by have := HM.out.2.2.2; omega
      have HQ := Lib.hid (And.intro hdm (And.intro htk (And.intro rowq (And.intro htq (And.intro hlen hrw)))))
      clear hv hr hlen hok rowq htq ht hdm htk hrw
      go_wp2_with fail
      refine HT.out.mono ?_
      rintro e wF ⟨rfl, rfl⟩
      go_wp2_with fail
      have hrow1 := row_one wE r 85
      have ht2 := trim_any (some ⟨wE.heap.size, 0, none⟩) [r] 1 _ (.inr ⟨wE.heap.size, 0, rfl, hrow1⟩) (by simp) (by simp) (by unfold maxLen; omega)
      refine ht2.mono ?_
      rintro e wG ⟨rfl, rfl⟩
      obtain ⟨hdm, htk, rowq, htq, hlen, hrw⟩ := HQ.out
      have hok1 : Ok [r] := Ok.nil.cons hrw
      have htl := trimW_length [r] hok1
      have htk1 := take_trimW [r] hok1
      have e1 : wv [r] = m % n := by rw [← hdm.2]; simp [wv]
      rw [e1] at htl htk1
      rw [htl]
      have HF := Lib.hid (And.intro htk1 htl)
      clear htl htk1 hok1 e1 hdm htk rowq htq hlen hrw
      go_wp2_with fail
      go_ret2
      obtain ⟨hdm, htk, rowq, htq, hlen, hrw⟩ := HQ.out
      obtain ⟨hcg, hcm2, rowg, hgC, hgD, hbD⟩ := HG.out
      have hql : (nw (m / n)).length ≤ cg := by rw [← htk, List.length_take]; omega
      have hgE : wD.heap.size ≤ wE.heap.size := htq.grown.size
      have hbel : Below w.heap.size w wE := by
        have h1 : Below w.heap.size w wD := HYC.out.2.trans (hbD.mono HYC.out.2.size)
        exact touch_below h1 htq h1.size (Nat.le_trans HYC.out.2.size hgC)
      refine ⟨some ⟨g, 0, none⟩, cg, some ⟨wE.heap.size, 0, none⟩, 1, rfl, hql, by rw [← HF.out.2]; exact trimW_le _, .inr ⟨g, 0, rfl, ?_⟩, .inr ⟨wE.heap.size, 0, rfl, ?_⟩, ?_⟩
      · rw [← htk]
        exact (rowq.take _).below ((Below.refl wE.heap.size wE).alloc (Nat.le_refl _) _) (by omega)
      · rw [← HF.out.1]
        exact hrow1.take _
      · exact hbel.alloc hbel.size _
end Go.Proofs.YtpdhffjdgnpikaaGreatDoor

namespace Go.Proofs.YtpdhffjdgnpikaaGreatDoor
open Go.RowKit

/-- The api.Int of an integer. -/
def iv (z : Int) : Value := .agg #[.bool (ng z), .string (mg z)]
/-- The contract of divide for two numbers. -/
def DivideOk (m n : Nat) : Prop := ∀ (p q : Option Addr) (cx cy : Nat) (w : World), Nt w p (nw m) → Nt w q (nw n) → (nw m).length ≤ cx →
  Calls Tryz.prog 128 #[.slice p (nw m).length cx, .slice q (nw n).length cy] w (DivRes w m n)
theorem divideOk_word (m n : Nat) (hn : 0 < n) (hl : (nw m).length ≤ 1048576) (h : m < n ∨ n < 18446744073709551616) : DivideOk m n := by
  intro p q cx cy w hx hy hcx
  rcases Nat.lt_or_ge m n with hlt | hge
  · exact divide_less p q cx cy m n w hx hy hcx hlt hl
  · exact divide_word p q cx cy m n w hx hy hn (by omega) hge hl
/-- Quotient and remainder, and no error. -/
def IntDiv (w : World) (z y : Int) (e : Ending) (w' : World) : Prop := ∃ q r, IsDiv z y q r ∧ e = .returned (.tuple #[iv q, iv r, .int .i64 0]) ∧ Below w.heap.size w w'
theorem ival_sgn (b : Bool) (s : ByteArray) : ival b s = sgn b (beVal s.data.toList) := rfl
theorem nw_div_length (m n : Nat) : (nw (m / n)).length ≤ (nw m).length := by
  apply nw_length_le
  have h1 := wv_lt (nw m) (nw_ok m)
  rw [wv_nw] at h1
  exact Nat.lt_of_le_of_lt (Nat.div_le_self _ _) h1
theorem nw_mod_length (m n : Nat) (hn : 0 < n) : (nw (m % n)).length ≤ (nw n).length := by
  apply nw_length_le
  have h1 := wv_lt (nw n) (nw_ok n)
  rw [wv_nw] at h1
  exact Nat.lt_trans (Nat.mod_lt _ hn) h1


set_option maxHeartbeats 1000000 in
set_option maxRecDepth 100000 in
theorem div_gen (na nb : Bool) (sa sb : ByteArray) (w : World) (ha : sa.size ≤ 262144) (hb : sb.size ≤ 262144) (hok : DivideOk (beVal sa.data.toList) (beVal sb.data.toList)) (hy0 : beVal sb.data.toList ≠ 0) :
    Calls Tryz.prog 88 #[.agg #[.bool na, .string sa], .agg #[.bool nb, .string sb]] w (IntDiv w (ival na sa) (ival nb sb)) := by
  have HOK := Lib.hid hok
  have HY0 := Lib.hid hy0
  clear hok hy0
  go_enter Tryz.func88, Tryz.ntmps88
  go_wp2_with fail
  -- the world in which the operands are loaded, by what holds of it
  obtain ⟨zs, hzs⟩ : ∃ zs : Array Value, #[Value.int .u64 0, .int .u64 0, .int .u64 0, .int .u64 0, .int .u64 0, .int .u64 0, .int .u64 0, .int .u64 0, .int .u64 0, .int .u64 0, .int .u64 0, .int .u64 0, .int .u64 0, .int .u64 0, .int .u64 0, .int .u64 0] = zs := ⟨_, rfl⟩
  have hz16 : zs.size = 16 := by rw [← hzs]; rfl
  rw [hzs]
  obtain ⟨W0, hW0⟩ : ∃ W0, (((((w.alloc (Obj.cells #[Value.bool na, Value.string sa] 23)).alloc (Obj.cells #[Value.bool nb, Value.string sb] 23)).alloc (Obj.cells #[Value.bool false, Value.string ⟨#[]⟩] 23)).alloc (Obj.cells #[Value.bool false, Value.string ⟨#[]⟩] 23)).alloc (Obj.cells zs 92)).alloc (Obj.cells zs 92) = W0 := ⟨_, rfl⟩
  have hs0 : W0.heap.size = w.heap.size + 1 + 1 + 1 + 1 + 1 + 1 := by rw [← hW0]; simp
  have tA : Two w.heap.size (.bool na) (.string sa) W0 := by
    rw [← hW0]
    exact (two_new w _ _ _).below (B0 := w.heap.size + 1) ((((((Below.refl _ _).alloc (by simp) _).alloc (by simp) _).alloc (by simp) _).alloc (by simp) _).alloc (by simp) _) (by omega)
  have tB : Two (w.heap.size + 1) (.bool nb) (.string sb) W0 := by
    rw [← hW0]
    have h := two_new (w.alloc (Obj.cells #[Value.bool na, Value.string sa] 23)) (.bool nb) (.string sb) 23
    simp only [World.size_alloc] at h
    exact h.below (B0 := w.heap.size + 1 + 1) (((((Below.refl _ _).alloc (by simp) _).alloc (by simp) _).alloc (by simp) _).alloc (by simp) _) (by omega)
  have tQ : Two (w.heap.size + 1 + 1) (.bool false) (.string ⟨#[]⟩) W0 := by
    rw [← hW0]
    have h := two_new ((w.alloc (Obj.cells #[Value.bool na, Value.string sa] 23)).alloc (Obj.cells #[Value.bool nb, Value.string sb] 23)) (.bool false) (.string ⟨#[]⟩) 23
    simp only [World.size_alloc] at h
    exact h.below (B0 := w.heap.size + 1 + 1 + 1) ((((Below.refl _ _).alloc (by simp) _).alloc (by simp) _).alloc (by simp) _) (by omega)
  have tR : Two (w.heap.size + 1 + 1 + 1) (.bool false) (.string ⟨#[]⟩) W0 := by
    rw [← hW0]
    have h := two_new (((w.alloc (Obj.cells #[Value.bool na, Value.string sa] 23)).alloc (Obj.cells #[Value.bool nb, Value.string sb] 23)).alloc (Obj.cells #[Value.bool false, Value.string ⟨#[]⟩] 23)) (.bool false) (.string ⟨#[]⟩) 23
    simp only [World.size_alloc] at h
    exact h.below (B0 := w.heap.size + 1 + 1 + 1 + 1) (((Below.refl _ _).alloc (by simp) _).alloc (by simp) _) (by omega)
  have rL : Room W0 (w.heap.size + 1 + 1 + 1 + 1) 16 := by
    rw [← hW0]
    have h := room_alloc ((((w.alloc (Obj.cells #[Value.bool na, Value.string sa] 23)).alloc (Obj.cells #[Value.bool nb, Value.string sb] 23)).alloc (Obj.cells #[Value.bool false, Value.string ⟨#[]⟩] 23)).alloc (Obj.cells #[Value.bool false, Value.string ⟨#[]⟩] 23)) zs 92 16 hz16
    simp only [World.size_alloc] at h
    exact h.below (B := w.heap.size + 1 + 1 + 1 + 1 + 1) ((Below.refl _ _).alloc (by simp) _) (by omega)
  have rR : Room W0 (w.heap.size + 1 + 1 + 1 + 1 + 1) 16 := by
    rw [← hW0]
    have h := room_alloc (((((w.alloc (Obj.cells #[Value.bool na, Value.string sa] 23)).alloc (Obj.cells #[Value.bool nb, Value.string sb] 23)).alloc (Obj.cells #[Value.bool false, Value.string ⟨#[]⟩] 23)).alloc (Obj.cells #[Value.bool false, Value.string ⟨#[]⟩] 23)).alloc (Obj.cells zs 92)) zs 92 16 hz16
    simp only [World.size_alloc] at h
    exact h
  have b0 : Below w.heap.size w W0 := by
    rw [← hW0]
    exact ((((((Below.refl _ _).alloc (Nat.le_refl _) _).alloc (by simp) _).alloc (by simp; omega) _).alloc (by simp; omega) _).alloc (by simp; omega) _).alloc (by simp; omega) _
  rw [hW0]
  have kA := tA.2.1
  have kB := tB.2.1
  have hsd : W0.drew.heap.size = w.heap.size + 1 + 1 + 1 + 1 + 1 + 1 := hs0
  have tA' : Two w.heap.size (.bool na) (.string sa) W0.drew := tA
  have tB' : Two (w.heap.size + 1) (.bool nb) (.string sb) W0.drew := tB
  have tQ' : Two (w.heap.size + 1 + 1) (.bool false) (.string ⟨#[]⟩) W0.drew := tQ
  have tR' : Two (w.heap.size + 1 + 1 + 1) (.bool false) (.string ⟨#[]⟩) W0.drew := tR
  have rL' : Room W0.drew (w.heap.size + 1 + 1 + 1 + 1) 16 := rL
  have rR' : Room W0.drew (w.heap.size + 1 + 1 + 1 + 1 + 1) 16 := rR
  have H0 := Lib.hid (And.intro tA' (And.intro tB' (And.intro tQ' (And.intro tR' (And.intro rL' (And.intro rR' (And.intro b0.drew hsd)))))))
  clear tA tB tQ tR rL rR tA' tB' tQ' tR' rL' rR' b0 hs0 hsd hW0 hzs hz16
  have tok1 : True := trivial
  go_region_held3 (fun w' => w'.cell? ⟨w.heap.size, 1, none⟩ = some (.string sa) ∧ w'.cell? ⟨w.heap.size + 1, 1, none⟩ = some (.string sb)) (go_keep)
    (first | (go_at_call 104; have _t := tok1; clear tok1; refine (load_any (w.heap.size + 1 + 1 + 1 + 1) sa _ (by omega) H0.out.2.2.2.2.1).mono ?_; intro e wL hL; obtain ⟨gL, capL, rfl, rowL, hgL, hgrL, capLge⟩ := loaded_cap hL; have H1 := Lib.hid (And.intro rowL (And.intro hgL hgrL)); have HCL := Lib.hid capLge; clear capLge; have kA1 := ((H0.out.1.grown hgrL (by omega)).2.1); have kB1 := ((H0.out.2.1.grown hgrL (by omega)).2.1); clear hL rowL hgL hgrL) | (go_at_call 104; refine (load_any (w.heap.size + 1 + 1 + 1 + 1 + 1) sb _ (by omega) (H0.out.2.2.2.2.2.1.grown H1.out.2.2 (by omega))).mono ?_; intro e wR hR; obtain ⟨gR, capR, rfl, rowR, hgR, hgrR, capRge⟩ := loaded_cap hR; have H2 := Lib.hid (And.intro rowR (And.intro hgR hgrR)); have HCR := Lib.hid capRge; clear capRge; have kA2 := (((H0.out.1.grown H1.out.2.2 (by omega)).grown hgrR (by omega)).2.1); have kB2 := (((H0.out.2.1.grown H1.out.2.2 (by omega)).grown hgrR (by omega)).2.1); clear hR rowR hgR hgrR))
  have h1 := H1.out
  have h2 := H2.out
  have h0 := H0.out
  obtain ⟨cA, cB, cQ, cR, _, _, cb, cs⟩ := h0
  have gLne : gL ≠ w.heap.size + 1 + 1 + 1 + 1 + 1 := by rcases h1.2.1 with h | h <;> omega
  have gLge : w.heap.size ≤ gL := by rcases h1.2.1 with h | h <;> omega
  have rowL2 := h1.1.grown h2.2.2 gLne
  have rowR2 := h2.1
  have cA2 := (cA.grown h1.2.2 (by omega)).grown h2.2.2 (by omega)
  have cB2 := (cB.grown h1.2.2 (by omega)).grown h2.2.2 (by omega)
  have cQ2 := (cQ.grown h1.2.2 (by omega)).grown h2.2.2 (by omega)
  have cR2 := (cR.grown h1.2.2 (by omega)).grown h2.2.2 (by omega)
  have cb2 : Below w.heap.size w wR := (cb.grown h1.2.2 (by omega) (fun k e => by cases e; omega)).grown h2.2.2 (by have := h1.2.2.size; omega) (fun k e => by cases e; omega)
  have cz2 : w.heap.size + 1 + 1 + 1 + 1 + 1 + 1 ≤ wR.heap.size := by have := h1.2.2.size; have := h2.2.2.size; omega
  have hla := nw_be_length sa.data.toList
  have hlb := nw_be_length sb.data.toList
  rw [← Lib.size_eq] at hla hlb
  have capLge := HCL.out
  have capRge := HCR.out
  obtain ⟨m, hm⟩ : ∃ m, m = beVal sa.data.toList := ⟨_, rfl⟩
  obtain ⟨n, hn⟩ : ∃ n, n = beVal sb.data.toList := ⟨_, rfl⟩
  have hok := HOK.out
  have hy0 := HY0.out
  have HMN := Lib.hid (And.intro hm hn)
  rw [← hm] at hla rowL2 capLge hok
  rw [← hn] at hlb rowR2 capRge hok hy0
  rw [← hm, ← hn]
  have hnp : 0 < n := by omega
  have hq1 : ¬ ((nw n).length : Int) = 0 := by
    have : nw n ≠ [] := fun h => hy0 ((nw_eq_nil n).1 h)
    have := List.length_pos_iff.2 this
    omega
  have hdv := hok (some ⟨gL, 0, none⟩) (some ⟨gR, 0, none⟩) capL capR wR (.inr ⟨_, _, rfl, rowL2⟩) (.inr ⟨_, _, rfl, rowR2⟩) capLge
  have HDV := Lib.hid hdv
  have HW := Lib.hid (And.intro cA2 (And.intro cB2 (And.intro cQ2 (And.intro cR2 (And.intro cb2 (And.intro cz2 rowR2))))))
  have HN := Lib.hid (And.intro hla (And.intro hlb (And.intro capRge hnp)))
  clear h1 h2 cA cB cQ cR cb cs gLne gLge rowL2 rowR2 cA2 cB2 cQ2 cR2 cb2 cz2 hla hlb hm hn capLge capRge H0 H1 H2 HCL HCR hok hy0 hnp hdv HOK HY0 kA1 kB1 kA2 kB2
  go_wp2_with fail
  refine HDV.out.mono ?_
  rintro e wD ⟨pq, cq, pr, cr, rfl, hcq, hcr, ntq, ntr, hbD⟩
  have hD := HW.out
  have dA := hD.1.below hbD hD.1.lt
  have dB := hD.2.1.below hbD hD.2.1.lt
  have dQ := hD.2.2.1.below hbD hD.2.2.1.lt
  have dR := hD.2.2.2.1.below hbD hD.2.2.2.1.lt
  have db : Below w.heap.size w wD := hD.2.2.2.2.1.trans (hbD.mono (by have := hD.2.2.2.2.2.1; omega))
  have dz : w.heap.size + 1 + 1 + 1 + 1 + 1 + 1 ≤ wD.heap.size := by have := hD.2.2.2.2.2.1; have := hbD.size; omega
  have dY := hD.2.2.2.2.2.2.below hbD (hD.2.2.2.2.2.2.lt (by omega))
  have kA := dA.1.1
  have kB := dB.1.1
  have HE := Lib.hid (And.intro dA (And.intro dB (And.intro dQ (And.intro dR (And.intro db (And.intro dz dY))))))
  have HF := Lib.hid (And.intro hcq (And.intro hcr (And.intro ntq ntr)))
  clear hD dA dB dQ dR db dz dY hcq hcr ntq ntr hbD HW HDV
  by_cases hs : na = nb
  · have hq2 : (!(na == nb)) = false := by rw [hs]; simp
    have HSS := Lib.hid hs
    go_wp2_with fail
    have hX := HE.out
    have xA : Two w.heap.size (.bool na) (.string sa) wD.drew := hX.1
    have xB : Two (w.heap.size + 1) (.bool nb) (.string sb) wD.drew := hX.2.1
    have xQ : Two (w.heap.size + 1 + 1) (.bool false) (.string ⟨#[]⟩) wD.drew := hX.2.2.1
    have xR : Two (w.heap.size + 1 + 1 + 1) (.bool false) (.string ⟨#[]⟩) wD.drew := hX.2.2.2.1
    have xz : w.heap.size + 1 + 1 + 1 + 1 + 1 + 1 ≤ wD.drew.heap.size := hX.2.2.2.2.2.1
    have xnq : Nt wD.drew pq (nw (m / n)) := HF.out.2.2.1
    have xnr : Nt wD.drew pr (nw (m % n)) := HF.out.2.2.2
    have HX := Lib.hid (And.intro xA (And.intro xB (And.intro xQ (And.intro xR (And.intro hX.2.2.2.2.1.drew (And.intro xz (And.intro xnq xnr)))))))
    have hlq : (nw (m / n)).length ≤ 131072 ∧ (nw (m % n)).length ≤ 131072 := ⟨by have := nw_div_length m n; have := HN.out.1; omega, by have := nw_mod_length m n HN.out.2.2.2; have := HN.out.2.1; omega⟩
    have HLQ := Lib.hid hlq
    clear xA xB xQ xR xz xnq xnr hlq hX
    obtain ⟨z1, hz1⟩ : ∃ z1 : Int, (if false = true then -((m / n : Nat) : Int) else ((m / n : Nat) : Int)) = z1 := ⟨_, rfl⟩
    obtain ⟨z2, hz2⟩ : ∃ z2 : Int, (if nb = true then -((m % n : Nat) : Int) else ((m % n : Nat) : Int)) = z2 := ⟨_, rfl⟩
    have hs1 := fun W h => signed_nat false pq (m / n) cq W h HLQ.out.1
    have hs2 := fun W h => signed_nat nb pr (m % n) cr W h HLQ.out.2
    rw [hz1] at hs1
    rw [hz2] at hs2
    have HS1 := Lib.hid hs1
    have HS2 := Lib.hid hs2
    have HZ := Lib.hid (And.intro hz1 hz2)
    have ne0 : ¬ (w.heap.size + 1 + 1 = w.heap.size) := by omega
    have ne1 : ¬ (w.heap.size + 1 + 1 + 1 = w.heap.size) := by omega
    have ne2 : ¬ (w.heap.size + 1 + 1 = w.heap.size + 1) := by omega
    have ne3 : ¬ (w.heap.size + 1 + 1 + 1 = w.heap.size + 1) := by omega
    have tok2 : True := trivial
    have kA := HX.out.1.1.1
    have kB := HX.out.2.1.1.1
    clear hs1 hs2 hz1 hz2
    go_region_held3 (fun w' => w'.cell? ⟨w.heap.size, 0, none⟩ = some (.bool na) ∧ w'.cell? ⟨w.heap.size + 1, 0, none⟩ = some (.bool nb)) (go_keep)
      (first | (go_at_call 102; have _t := tok2; clear tok2; refine (HS1.out _ HX.out.2.2.2.2.2.2.1).mono ?_; rintro e wS ⟨he, bS⟩; subst he; have H6 := Lib.hid bS; have kA3 := (HX.out.1.below bS HX.out.1.lt).1.1; have kB3 := (HX.out.2.1.below bS HX.out.2.1.lt).1.1; clear bS) | (go_at_call 102; refine (HS2.out _ (HX.out.2.2.2.2.2.2.2.below H6.out)).mono ?_; rintro e wT ⟨he, bT⟩; subst he; have H7 := Lib.hid bT; have kA4 := ((HX.out.1.below H6.out HX.out.1.lt).below bT (HX.out.1.below H6.out HX.out.1.lt).lt).1.1; have kB4 := ((HX.out.2.1.below H6.out HX.out.2.1.lt).below bT (HX.out.2.1.below H6.out HX.out.2.1.lt).lt).1.1; have kQ4 := ((HX.out.2.2.1.below H6.out HX.out.2.2.1.lt).below bT (HX.out.2.2.1.below H6.out HX.out.2.2.1.lt).lt); have kR4 := ((HX.out.2.2.2.1.below H6.out HX.out.2.2.2.1.lt).below bT (HX.out.2.2.2.1.below H6.out HX.out.2.2.2.1.lt).lt); obtain ⟨⟨r1, r2⟩, r3, r4⟩ := kQ4; obtain ⟨⟨r5, r6⟩, r7, r8⟩ := kR4; clear bT))
    have hX := HX.out
    have gQ := (hX.2.2.1.below H6.out hX.2.2.1.lt).below H7.out (hX.2.2.1.below H6.out hX.2.2.1.lt).lt
    have gR := (hX.2.2.2.1.below H6.out hX.2.2.2.1.lt).below H7.out (hX.2.2.2.1.below H6.out hX.2.2.2.1.lt).lt
    have fQ : Two (w.heap.size + 1 + 1) (.bool (ng z1)) (.string (mg z1)) ((((wT.setCell ⟨w.heap.size + 1 + 1, 0, none⟩ (.bool (ng z1))).setCell ⟨w.heap.size + 1 + 1, 1, none⟩ (.string (mg z1))).setCell ⟨w.heap.size + 1 + 1 + 1, 0, none⟩ (.bool (ng z2))).setCell ⟨w.heap.size + 1 + 1 + 1, 1, none⟩ (.string (mg z2))) := ((two_set gQ _ _).other (by omega)).other (by omega)
    have fR : Two (w.heap.size + 1 + 1 + 1) (.bool (ng z2)) (.string (mg z2)) ((((wT.setCell ⟨w.heap.size + 1 + 1, 0, none⟩ (.bool (ng z1))).setCell ⟨w.heap.size + 1 + 1, 1, none⟩ (.string (mg z1))).setCell ⟨w.heap.size + 1 + 1 + 1, 0, none⟩ (.bool (ng z2))).setCell ⟨w.heap.size + 1 + 1 + 1, 1, none⟩ (.string (mg z2))) := two_set ((gR.other (by omega)).other (by omega)) _ _
    have hb6 := H6.out
    have hb7 := H7.out
    have hs6 := hb6.size
    have hb5 := hX.2.2.2.2.1
    have hz5 := hX.2.2.2.2.2.1
    have hbel : Below w.heap.size w ((((wT.setCell ⟨w.heap.size + 1 + 1, 0, none⟩ (.bool (ng z1))).setCell ⟨w.heap.size + 1 + 1, 1, none⟩ (.string (mg z1))).setCell ⟨w.heap.size + 1 + 1 + 1, 0, none⟩ (.bool (ng z2))).setCell ⟨w.heap.size + 1 + 1 + 1, 1, none⟩ (.string (mg z2))) :=
      (((((hb5.trans (hb6.mono (by omega))).trans (hb7.mono (by omega))).setCell (by show w.heap.size ≤ w.heap.size + 1 + 1; omega) _).setCell (by show w.heap.size ≤ w.heap.size + 1 + 1; omega) _).setCell (by show w.heap.size ≤ w.heap.size + 1 + 1 + 1; omega) _).setCell (by show w.heap.size ≤ w.heap.size + 1 + 1 + 1; omega) _
    have k1 := fQ.1.1
    have k2 := fQ.2.1
    have k3 := fR.1.1
    have k4 := fR.2.1
    have HBEL := Lib.hid hbel
    clear hX gQ gR fQ fR hb6 hb7 hs6 hb5 hz5 hbel r1 r2 r3 r4 r5 r6 r7 r8 kA kB kA3 kB3 kA4 kB4
    go_wp2_with fail
    refine bodyPost_ret (v := .tuple #[iv z1, iv z2, .int .i64 0]) (by simp [results, Tryz.results88, go_sem, k1, k2, k3, k4, iv]) rfl ?_
    refine ⟨z1, z2, ?_, rfl, HBEL.out⟩
    rw [← HZ.out.1, ← HZ.out.2, ival_sgn, ival_sgn, ← HMN.out.1, ← HMN.out.2]
    rw [HSS.out]
    exact isDiv_same nb m n HN.out.2.2.2
  · have hq2 : (!(na == nb)) = true := by cases na <;> cases nb <;> simp at hs ⊢
    have HSS := Lib.hid hs
    by_cases hr : m % n = 0
    · have hr1 : ¬ (0 : Int) < ((nw (m % n)).length : Int) := by rw [hr, nw_zero]; simp
      have hr2 : ¬ 0 < (nw (m % n)).length := by rw [hr, nw_zero]; simp
      have HR := Lib.hid hr
      clear hr
      go_wp2_with fail
      have hX := HE.out
      have xA : Two w.heap.size (.bool na) (.string sa) wD.drew := hX.1
      have xB : Two (w.heap.size + 1) (.bool nb) (.string sb) wD.drew := hX.2.1
      have xQ : Two (w.heap.size + 1 + 1) (.bool false) (.string ⟨#[]⟩) wD.drew := hX.2.2.1
      have xR : Two (w.heap.size + 1 + 1 + 1) (.bool false) (.string ⟨#[]⟩) wD.drew := hX.2.2.2.1
      have xz : w.heap.size + 1 + 1 + 1 + 1 + 1 + 1 ≤ wD.drew.heap.size := hX.2.2.2.2.2.1
      have xnq : Nt wD.drew pq (nw (m / n)) := HF.out.2.2.1
      have xnr : Nt wD.drew pr (nw (m % n)) := HF.out.2.2.2
      have HX := Lib.hid (And.intro xA (And.intro xB (And.intro xQ (And.intro xR (And.intro hX.2.2.2.2.1.drew (And.intro xz (And.intro xnq xnr)))))))
      have hlq : (nw (m / n)).length ≤ 131072 ∧ (nw (m % n)).length ≤ 131072 := ⟨by have := nw_div_length m n; have := HN.out.1; omega, by have := nw_mod_length m n HN.out.2.2.2; have := HN.out.2.1; omega⟩
      have HLQ := Lib.hid hlq
      clear xA xB xQ xR xz xnq xnr hlq hX
      obtain ⟨z1, hz1⟩ : ∃ z1 : Int, (if true = true then -((m / n : Nat) : Int) else ((m / n : Nat) : Int)) = z1 := ⟨_, rfl⟩
      obtain ⟨z2, hz2⟩ : ∃ z2 : Int, (if nb = true then -((m % n : Nat) : Int) else ((m % n : Nat) : Int)) = z2 := ⟨_, rfl⟩
      have hs1 := fun W h => signed_nat true pq (m / n) cq W h HLQ.out.1
      have hs2 := fun W h => signed_nat nb pr (m % n) cr W h HLQ.out.2
      rw [hz1] at hs1
      rw [hz2] at hs2
      have HS1 := Lib.hid hs1
      have HS2 := Lib.hid hs2
      have HZ := Lib.hid (And.intro hz1 hz2)
      have ne0 : ¬ (w.heap.size + 1 + 1 = w.heap.size) := by omega
      have ne1 : ¬ (w.heap.size + 1 + 1 + 1 = w.heap.size) := by omega
      have ne2 : ¬ (w.heap.size + 1 + 1 = w.heap.size + 1) := by omega
      have ne3 : ¬ (w.heap.size + 1 + 1 + 1 = w.heap.size + 1) := by omega
      have tok2 : True := trivial
      have kA := HX.out.1.1.1
      have kB := HX.out.2.1.1.1
      clear hs1 hs2 hz1 hz2
      go_region_held3 (fun w' => w'.cell? ⟨w.heap.size, 0, none⟩ = some (.bool na) ∧ w'.cell? ⟨w.heap.size + 1, 0, none⟩ = some (.bool nb)) (go_keep)
        (first | (go_at_call 102; have _t := tok2; clear tok2; refine (HS1.out _ HX.out.2.2.2.2.2.2.1).mono ?_; rintro e wS ⟨he, bS⟩; subst he; have H6 := Lib.hid bS; have kA3 := (HX.out.1.below bS HX.out.1.lt).1.1; have kB3 := (HX.out.2.1.below bS HX.out.2.1.lt).1.1; clear bS) | (go_at_call 102; refine (HS2.out _ (HX.out.2.2.2.2.2.2.2.below H6.out)).mono ?_; rintro e wT ⟨he, bT⟩; subst he; have H7 := Lib.hid bT; have kA4 := ((HX.out.1.below H6.out HX.out.1.lt).below bT (HX.out.1.below H6.out HX.out.1.lt).lt).1.1; have kB4 := ((HX.out.2.1.below H6.out HX.out.2.1.lt).below bT (HX.out.2.1.below H6.out HX.out.2.1.lt).lt).1.1; have kQ4 := ((HX.out.2.2.1.below H6.out HX.out.2.2.1.lt).below bT (HX.out.2.2.1.below H6.out HX.out.2.2.1.lt).lt); have kR4 := ((HX.out.2.2.2.1.below H6.out HX.out.2.2.2.1.lt).below bT (HX.out.2.2.2.1.below H6.out HX.out.2.2.2.1.lt).lt); obtain ⟨⟨r1, r2⟩, r3, r4⟩ := kQ4; obtain ⟨⟨r5, r6⟩, r7, r8⟩ := kR4; clear bT))
      have hX := HX.out
      have gQ := (hX.2.2.1.below H6.out hX.2.2.1.lt).below H7.out (hX.2.2.1.below H6.out hX.2.2.1.lt).lt
      have gR := (hX.2.2.2.1.below H6.out hX.2.2.2.1.lt).below H7.out (hX.2.2.2.1.below H6.out hX.2.2.2.1.lt).lt
      have fQ : Two (w.heap.size + 1 + 1) (.bool (ng z1)) (.string (mg z1)) ((((wT.setCell ⟨w.heap.size + 1 + 1, 0, none⟩ (.bool (ng z1))).setCell ⟨w.heap.size + 1 + 1, 1, none⟩ (.string (mg z1))).setCell ⟨w.heap.size + 1 + 1 + 1, 0, none⟩ (.bool (ng z2))).setCell ⟨w.heap.size + 1 + 1 + 1, 1, none⟩ (.string (mg z2))) := ((two_set gQ _ _).other (by omega)).other (by omega)
      have fR : Two (w.heap.size + 1 + 1 + 1) (.bool (ng z2)) (.string (mg z2)) ((((wT.setCell ⟨w.heap.size + 1 + 1, 0, none⟩ (.bool (ng z1))).setCell ⟨w.heap.size + 1 + 1, 1, none⟩ (.string (mg z1))).setCell ⟨w.heap.size + 1 + 1 + 1, 0, none⟩ (.bool (ng z2))).setCell ⟨w.heap.size + 1 + 1 + 1, 1, none⟩ (.string (mg z2))) := two_set ((gR.other (by omega)).other (by omega)) _ _
      have hb6 := H6.out
      have hb7 := H7.out
      have hs6 := hb6.size
      have hb5 := hX.2.2.2.2.1
      have hz5 := hX.2.2.2.2.2.1
      have hbel : Below w.heap.size w ((((wT.setCell ⟨w.heap.size + 1 + 1, 0, none⟩ (.bool (ng z1))).setCell ⟨w.heap.size + 1 + 1, 1, none⟩ (.string (mg z1))).setCell ⟨w.heap.size + 1 + 1 + 1, 0, none⟩ (.bool (ng z2))).setCell ⟨w.heap.size + 1 + 1 + 1, 1, none⟩ (.string (mg z2))) :=
        (((((hb5.trans (hb6.mono (by omega))).trans (hb7.mono (by omega))).setCell (by show w.heap.size ≤ w.heap.size + 1 + 1; omega) _).setCell (by show w.heap.size ≤ w.heap.size + 1 + 1; omega) _).setCell (by show w.heap.size ≤ w.heap.size + 1 + 1 + 1; omega) _).setCell (by show w.heap.size ≤ w.heap.size + 1 + 1 + 1; omega) _
      have k1 := fQ.1.1
      have k2 := fQ.2.1
      have k3 := fR.1.1
      have k4 := fR.2.1
      have HBEL := Lib.hid hbel
      clear hX gQ gR fQ fR hb6 hb7 hs6 hb5 hz5 hbel r1 r2 r3 r4 r5 r6 r7 r8 kA kB kA3 kB3 kA4 kB4
      go_wp2_with fail
      refine bodyPost_ret (v := .tuple #[iv z1, iv z2, .int .i64 0]) (by simp [results, Tryz.results88, go_sem, k1, k2, k3, k4, iv]) rfl ?_
      refine ⟨z1, z2, ?_, rfl, HBEL.out⟩
      rw [← HZ.out.1, ← HZ.out.2, ival_sgn, ival_sgn, ← HMN.out.1, ← HMN.out.2]
      have e1 := isDiv_even na nb HSS.out m n HN.out.2.2.2 HR.out
      rw [HR.out]
      simp only [if_true]
      have e2 : (if nb = true then -((0 : Nat) : Int) else ((0 : Nat) : Int)) = 0 := by cases nb <;> rfl
      rw [e2]
      exact e1
    · have hrp : 0 < (nw (m % n)).length := by rw [List.length_pos_iff]; exact fun h => hr ((nw_eq_nil _).1 h)
      have hr1 : (0 : Int) < ((nw (m % n)).length : Int) := by omega
      have HR := Lib.hid hr
      clear hr
      go_wp2_with fail
      have hone : nw 1 = [1] := nw_small 1 (by omega) (by omega)
      have hrow1 : Row (wD.alloc (Obj.cells #[Value.int IntKind.u64 1] 85)) wD.heap.size 0 (nw 1) := by rw [hone]; exact row_one wD 1 85
      have hb1 : Below wD.heap.size wD (wD.alloc (Obj.cells #[Value.int IntKind.u64 1] 85)) := (Below.refl _ _).alloc (Nat.le_refl _) _
      have hsm := sum_any pq (some ⟨wD.heap.size, 0, none⟩) cq 1 (m / n) 1 _ (HF.out.2.2.1.below hb1) (.inr ⟨_, _, rfl, hrow1⟩) HF.out.1 (by rw [hone]; simp) (by have := nw_div_length m n; have := HN.out.1; omega) (by rw [hone]; simp)
      rw [show (nw 1).length = 1 by rw [hone]; rfl] at hsm
      have HB1 := Lib.hid hb1
      clear hone hrow1 hb1
      refine hsm.mono ?_
      clear hsm
      rintro e wE ⟨gE, cE, rfl, hcE, _, rowE, hgE, hbE⟩
      have hE1 : Below wD.heap.size wD wE := HB1.out.trans (hbE.mono (by simp))
      have hdf := difference_any (some ⟨gR, 0, none⟩) pr capR cr n (m % n) wE (.inr ⟨_, _, rfl, HE.out.2.2.2.2.2.2.below hE1 (HE.out.2.2.2.2.2.2.lt (by have := HN.out.2.2.2; rw [List.length_pos_iff]; exact fun h => by have := (nw_eq_nil n).1 h; omega))⟩) (HF.out.2.2.2.below hE1) HN.out.2.2.1 HF.out.2.1 (by have := HN.out.2.1; omega) (Nat.le_of_lt (Nat.mod_lt _ HN.out.2.2.2))
      have HDF := Lib.hid hdf
      have HEE := Lib.hid (And.intro hcE (And.intro rowE (And.intro hgE hE1)))
      clear hdf hcE rowE hgE hE1 hbE
      go_wp2_with fail
      refine HDF.out.mono ?_
      rintro e wG ⟨gG, cG, rfl, hcG, _, rowG, hgG, hbG⟩
      have hbDG : Below wD.heap.size wD wG := HEE.out.2.2.2.trans (hbG.mono HEE.out.2.2.2.size)
      have hX := HE.out
      have xA : Two w.heap.size (.bool na) (.string sa) wG.drew := hX.1.below hbDG.drew hX.1.lt
      have xB : Two (w.heap.size + 1) (.bool nb) (.string sb) wG.drew := hX.2.1.below hbDG.drew hX.2.1.lt
      have xQ : Two (w.heap.size + 1 + 1) (.bool false) (.string ⟨#[]⟩) wG.drew := hX.2.2.1.below hbDG.drew hX.2.2.1.lt
      have xR : Two (w.heap.size + 1 + 1 + 1) (.bool false) (.string ⟨#[]⟩) wG.drew := hX.2.2.2.1.below hbDG.drew hX.2.2.2.1.lt
      have xz : w.heap.size + 1 + 1 + 1 + 1 + 1 + 1 ≤ wG.drew.heap.size := Nat.le_trans hX.2.2.2.2.2.1 hbDG.size
      have xb : Below w.heap.size w wG.drew := (hX.2.2.2.2.1.trans (hbDG.mono (by have := hX.2.2.2.2.2.1; omega))).drew
      have xnq : Nt wG.drew (some ⟨gE, 0, none⟩) (nw (m / n + 1)) := .inr ⟨_, _, rfl, HEE.out.2.1.below hbG.drew (HEE.out.2.1.lt (by rw [List.length_pos_iff]; exact fun h => by have h0 : m / n + 1 = 0 := (nw_eq_nil (m / n + 1)).1 h; exact Nat.succ_ne_zero _ h0))⟩
      have xnr : Nt wG.drew (some ⟨gG, 0, none⟩) (nw (n - m % n)) := .inr ⟨_, _, rfl, rowG⟩
      have HX := Lib.hid (And.intro xA (And.intro xB (And.intro xQ (And.intro xR (And.intro xb (And.intro xz (And.intro xnq xnr)))))))
      have hlq : (nw (m / n + 1)).length ≤ 131072 ∧ (nw (n - m % n)).length ≤ 131072 := by
        refine ⟨?_, by have := nw_sub_length n (m % n); have := HN.out.2.1; omega⟩
        have h1 := nw_add_length (m / n) 1
        have h2 := nw_div_length m n
        have h3 : (nw 1).length = 1 := by rw [nw_small 1 (by omega) (by omega)]; rfl
        have := HN.out.1
        omega
      have HLQ := Lib.hid hlq
      have kA := HX.out.1.1.1
      have kA' : wG.cell? ⟨w.heap.size, 0, none⟩ = some (.bool na) := HX.out.1.1.1
      have kB' : wG.cell? ⟨w.heap.size + 1, 0, none⟩ = some (.bool nb) := HX.out.2.1.1.1
      clear xA xB xQ xR xz xb xnq xnr hlq hX hbDG hcG rowG hgG hbG
      go_wp2_with fail
      obtain ⟨z1, hz1⟩ : ∃ z1 : Int, (if true = true then -((m / n + 1 : Nat) : Int) else ((m / n + 1 : Nat) : Int)) = z1 := ⟨_, rfl⟩
      obtain ⟨z2, hz2⟩ : ∃ z2 : Int, (if nb = true then -((n - m % n : Nat) : Int) else ((n - m % n : Nat) : Int)) = z2 := ⟨_, rfl⟩
      have hs1 := fun W h => signed_nat true (some ⟨gE, 0, none⟩) (m / n + 1) cE W h HLQ.out.1
      have hs2 := fun W h => signed_nat nb (some ⟨gG, 0, none⟩) (n - m % n) cG W h HLQ.out.2
      rw [hz1] at hs1
      rw [hz2] at hs2
      have HS1 := Lib.hid hs1
      have HS2 := Lib.hid hs2
      have HZ := Lib.hid (And.intro hz1 hz2)
      have ne0 : ¬ (w.heap.size + 1 + 1 = w.heap.size) := by omega
      have ne1 : ¬ (w.heap.size + 1 + 1 + 1 = w.heap.size) := by omega
      have ne2 : ¬ (w.heap.size + 1 + 1 = w.heap.size + 1) := by omega
      have ne3 : ¬ (w.heap.size + 1 + 1 + 1 = w.heap.size + 1) := by omega
      have tok2 : True := trivial
      have kA := HX.out.1.1.1
      have kB := HX.out.2.1.1.1
      clear hs1 hs2 hz1 hz2
      go_region_held3 (fun w' => w'.cell? ⟨w.heap.size, 0, none⟩ = some (.bool na) ∧ w'.cell? ⟨w.heap.size + 1, 0, none⟩ = some (.bool nb)) (go_keep)
        (first | (go_at_call 102; have _t := tok2; clear tok2; refine (HS1.out _ HX.out.2.2.2.2.2.2.1).mono ?_; rintro e wS ⟨he, bS⟩; subst he; have H6 := Lib.hid bS; have kA3 := (HX.out.1.below bS HX.out.1.lt).1.1; have kB3 := (HX.out.2.1.below bS HX.out.2.1.lt).1.1; clear bS) | (go_at_call 102; refine (HS2.out _ (HX.out.2.2.2.2.2.2.2.below H6.out)).mono ?_; rintro e wT ⟨he, bT⟩; subst he; have H7 := Lib.hid bT; have kA4 := ((HX.out.1.below H6.out HX.out.1.lt).below bT (HX.out.1.below H6.out HX.out.1.lt).lt).1.1; have kB4 := ((HX.out.2.1.below H6.out HX.out.2.1.lt).below bT (HX.out.2.1.below H6.out HX.out.2.1.lt).lt).1.1; have kQ4 := ((HX.out.2.2.1.below H6.out HX.out.2.2.1.lt).below bT (HX.out.2.2.1.below H6.out HX.out.2.2.1.lt).lt); have kR4 := ((HX.out.2.2.2.1.below H6.out HX.out.2.2.2.1.lt).below bT (HX.out.2.2.2.1.below H6.out HX.out.2.2.2.1.lt).lt); obtain ⟨⟨r1, r2⟩, r3, r4⟩ := kQ4; obtain ⟨⟨r5, r6⟩, r7, r8⟩ := kR4; clear bT))
      have hX := HX.out
      have gQ := (hX.2.2.1.below H6.out hX.2.2.1.lt).below H7.out (hX.2.2.1.below H6.out hX.2.2.1.lt).lt
      have gR := (hX.2.2.2.1.below H6.out hX.2.2.2.1.lt).below H7.out (hX.2.2.2.1.below H6.out hX.2.2.2.1.lt).lt
      have fQ : Two (w.heap.size + 1 + 1) (.bool (ng z1)) (.string (mg z1)) ((((wT.setCell ⟨w.heap.size + 1 + 1, 0, none⟩ (.bool (ng z1))).setCell ⟨w.heap.size + 1 + 1, 1, none⟩ (.string (mg z1))).setCell ⟨w.heap.size + 1 + 1 + 1, 0, none⟩ (.bool (ng z2))).setCell ⟨w.heap.size + 1 + 1 + 1, 1, none⟩ (.string (mg z2))) := ((two_set gQ _ _).other (by omega)).other (by omega)
      have fR : Two (w.heap.size + 1 + 1 + 1) (.bool (ng z2)) (.string (mg z2)) ((((wT.setCell ⟨w.heap.size + 1 + 1, 0, none⟩ (.bool (ng z1))).setCell ⟨w.heap.size + 1 + 1, 1, none⟩ (.string (mg z1))).setCell ⟨w.heap.size + 1 + 1 + 1, 0, none⟩ (.bool (ng z2))).setCell ⟨w.heap.size + 1 + 1 + 1, 1, none⟩ (.string (mg z2))) := two_set ((gR.other (by omega)).other (by omega)) _ _
      have hb6 := H6.out
      have hb7 := H7.out
      have hs6 := hb6.size
      have hb5 := hX.2.2.2.2.1
      have hz5 := hX.2.2.2.2.2.1
      have hbel : Below w.heap.size w ((((wT.setCell ⟨w.heap.size + 1 + 1, 0, none⟩ (.bool (ng z1))).setCell ⟨w.heap.size + 1 + 1, 1, none⟩ (.string (mg z1))).setCell ⟨w.heap.size + 1 + 1 + 1, 0, none⟩ (.bool (ng z2))).setCell ⟨w.heap.size + 1 + 1 + 1, 1, none⟩ (.string (mg z2))) :=
        (((((hb5.trans (hb6.mono (by omega))).trans (hb7.mono (by omega))).setCell (by show w.heap.size ≤ w.heap.size + 1 + 1; omega) _).setCell (by show w.heap.size ≤ w.heap.size + 1 + 1; omega) _).setCell (by show w.heap.size ≤ w.heap.size + 1 + 1 + 1; omega) _).setCell (by show w.heap.size ≤ w.heap.size + 1 + 1 + 1; omega) _
      have k1 := fQ.1.1
      have k2 := fQ.2.1
      have k3 := fR.1.1
      have k4 := fR.2.1
      have HBEL := Lib.hid hbel
      clear hX gQ gR fQ fR hb6 hb7 hs6 hb5 hz5 hbel r1 r2 r3 r4 r5 r6 r7 r8 kA kB kA3 kB3 kA4 kB4
      go_wp2_with fail
      refine bodyPost_ret (v := .tuple #[iv z1, iv z2, .int .i64 0]) (by simp [results, Tryz.results88, go_sem, k1, k2, k3, k4, iv]) rfl ?_
      refine ⟨z1, z2, ?_, rfl, HBEL.out⟩
      rw [← HZ.out.1, ← HZ.out.2, ival_sgn, ival_sgn, ← HMN.out.1, ← HMN.out.2]
      exact isDiv_more na nb HSS.out m n HN.out.2.2.2 HR.out
end Go.Proofs.YtpdhffjdgnpikaaGreatDoor

namespace Go.Proofs.YtpdhffjdgnpikaaGreatDoor
open Go.RowKit

theorem iv_zero : iv 0 = .agg #[.bool false, .string ⟨#[]⟩] := rfl

set_option maxHeartbeats 1000000 in
set_option maxRecDepth 100000 in
theorem div_zero (na nb : Bool) (sa sb : ByteArray) (w : World) (ha : sa.size ≤ 262144) (hb : sb.size ≤ 262144) (hy0 : beVal sb.data.toList = 0) :
    Calls Tryz.prog 88 #[.agg #[.bool na, .string sa], .agg #[.bool nb, .string sb]] w fun e w' => e = .returned (.tuple #[iv 0, iv 0, .int .i64 10]) ∧ Below w.heap.size w w' := by
  have HY0 := Lib.hid hy0
  clear hy0
  go_enter Tryz.func88, Tryz.ntmps88
  go_wp2_with fail
  -- the world in which the operands are loaded, by what holds of it
  obtain ⟨zs, hzs⟩ : ∃ zs : Array Value, #[Value.int .u64 0, .int .u64 0, .int .u64 0, .int .u64 0, .int .u64 0, .int .u64 0, .int .u64 0, .int .u64 0, .int .u64 0, .int .u64 0, .int .u64 0, .int .u64 0, .int .u64 0, .int .u64 0, .int .u64 0, .int .u64 0] = zs := ⟨_, rfl⟩
  have hz16 : zs.size = 16 := by rw [← hzs]; rfl
  rw [hzs]
  obtain ⟨W0, hW0⟩ : ∃ W0, (((((w.alloc (Obj.cells #[Value.bool na, Value.string sa] 23)).alloc (Obj.cells #[Value.bool nb, Value.string sb] 23)).alloc (Obj.cells #[Value.bool false, Value.string ⟨#[]⟩] 23)).alloc (Obj.cells #[Value.bool false, Value.string ⟨#[]⟩] 23)).alloc (Obj.cells zs 92)).alloc (Obj.cells zs 92) = W0 := ⟨_, rfl⟩
  have hs0 : W0.heap.size = w.heap.size + 1 + 1 + 1 + 1 + 1 + 1 := by rw [← hW0]; simp
  have tA : Two w.heap.size (.bool na) (.string sa) W0 := by
    rw [← hW0]
    exact (two_new w _ _ _).below (B0 := w.heap.size + 1) ((((((Below.refl _ _).alloc (by simp) _).alloc (by simp) _).alloc (by simp) _).alloc (by simp) _).alloc (by simp) _) (by omega)
  have tB : Two (w.heap.size + 1) (.bool nb) (.string sb) W0 := by
    rw [← hW0]
    have h := two_new (w.alloc (Obj.cells #[Value.bool na, Value.string sa] 23)) (.bool nb) (.string sb) 23
    simp only [World.size_alloc] at h
    exact h.below (B0 := w.heap.size + 1 + 1) (((((Below.refl _ _).alloc (by simp) _).alloc (by simp) _).alloc (by simp) _).alloc (by simp) _) (by omega)
  have tQ : Two (w.heap.size + 1 + 1) (.bool false) (.string ⟨#[]⟩) W0 := by
    rw [← hW0]
    have h := two_new ((w.alloc (Obj.cells #[Value.bool na, Value.string sa] 23)).alloc (Obj.cells #[Value.bool nb, Value.string sb] 23)) (.bool false) (.string ⟨#[]⟩) 23
    simp only [World.size_alloc] at h
    exact h.below (B0 := w.heap.size + 1 + 1 + 1) ((((Below.refl _ _).alloc (by simp) _).alloc (by simp) _).alloc (by simp) _) (by omega)
  have tR : Two (w.heap.size + 1 + 1 + 1) (.bool false) (.string ⟨#[]⟩) W0 := by
    rw [← hW0]
    have h := two_new (((w.alloc (Obj.cells #[Value.bool na, Value.string sa] 23)).alloc (Obj.cells #[Value.bool nb, Value.string sb] 23)).alloc (Obj.cells #[Value.bool false, Value.string ⟨#[]⟩] 23)) (.bool false) (.string ⟨#[]⟩) 23
    simp only [World.size_alloc] at h
    exact h.below (B0 := w.heap.size + 1 + 1 + 1 + 1) (((Below.refl _ _).alloc (by simp) _).alloc (by simp) _) (by omega)
  have rL : Room W0 (w.heap.size + 1 + 1 + 1 + 1) 16 := by
    rw [← hW0]
    have h := room_alloc ((((w.alloc (Obj.cells #[Value.bool na, Value.string sa] 23)).alloc (Obj.cells #[Value.bool nb, Value.string sb] 23)).alloc (Obj.cells #[Value.bool false, Value.string ⟨#[]⟩] 23)).alloc (Obj.cells #[Value.bool false, Value.string ⟨#[]⟩] 23)) zs 92 16 hz16
    simp only [World.size_alloc] at h
    exact h.below (B := w.heap.size + 1 + 1 + 1 + 1 + 1) ((Below.refl _ _).alloc (by simp) _) (by omega)
  have rR : Room W0 (w.heap.size + 1 + 1 + 1 + 1 + 1) 16 := by
    rw [← hW0]
    have h := room_alloc (((((w.alloc (Obj.cells #[Value.bool na, Value.string sa] 23)).alloc (Obj.cells #[Value.bool nb, Value.string sb] 23)).alloc (Obj.cells #[Value.bool false, Value.string ⟨#[]⟩] 23)).alloc (Obj.cells #[Value.bool false, Value.string ⟨#[]⟩] 23)).alloc (Obj.cells zs 92)) zs 92 16 hz16
    simp only [World.size_alloc] at h
    exact h
  have b0 : Below w.heap.size w W0 := by
    rw [← hW0]
    exact ((((((Below.refl _ _).alloc (Nat.le_refl _) _).alloc (by simp) _).alloc (by simp; omega) _).alloc (by simp; omega) _).alloc (by simp; omega) _).alloc (by simp; omega) _
  rw [hW0]
  have kA := tA.2.1
  have kB := tB.2.1
  have hsd : W0.drew.heap.size = w.heap.size + 1 + 1 + 1 + 1 + 1 + 1 := hs0
  have tA' : Two w.heap.size (.bool na) (.string sa) W0.drew := tA
  have tB' : Two (w.heap.size + 1) (.bool nb) (.string sb) W0.drew := tB
  have tQ' : Two (w.heap.size + 1 + 1) (.bool false) (.string ⟨#[]⟩) W0.drew := tQ
  have tR' : Two (w.heap.size + 1 + 1 + 1) (.bool false) (.string ⟨#[]⟩) W0.drew := tR
  have rL' : Room W0.drew (w.heap.size + 1 + 1 + 1 + 1) 16 := rL
  have rR' : Room W0.drew (w.heap.size + 1 + 1 + 1 + 1 + 1) 16 := rR
  have H0 := Lib.hid (And.intro tA' (And.intro tB' (And.intro tQ' (And.intro tR' (And.intro rL' (And.intro rR' (And.intro b0.drew hsd)))))))
  clear tA tB tQ tR rL rR tA' tB' tQ' tR' rL' rR' b0 hs0 hsd hW0 hzs hz16
  have tok1 : True := trivial
  go_region_held3 (fun w' => w'.cell? ⟨w.heap.size, 1, none⟩ = some (.string sa) ∧ w'.cell? ⟨w.heap.size + 1, 1, none⟩ = some (.string sb)) (go_keep)
    (first | (go_at_call 104; have _t := tok1; clear tok1; refine (load_any (w.heap.size + 1 + 1 + 1 + 1) sa _ (by omega) H0.out.2.2.2.2.1).mono ?_; intro e wL hL; obtain ⟨gL, capL, rfl, rowL, hgL, hgrL, capLge⟩ := loaded_cap hL; have H1 := Lib.hid (And.intro rowL (And.intro hgL hgrL)); have HCL := Lib.hid capLge; clear capLge; have kA1 := ((H0.out.1.grown hgrL (by omega)).2.1); have kB1 := ((H0.out.2.1.grown hgrL (by omega)).2.1); clear hL rowL hgL hgrL) | (go_at_call 104; refine (load_any (w.heap.size + 1 + 1 + 1 + 1 + 1) sb _ (by omega) (H0.out.2.2.2.2.2.1.grown H1.out.2.2 (by omega))).mono ?_; intro e wR hR; obtain ⟨gR, capR, rfl, rowR, hgR, hgrR, capRge⟩ := loaded_cap hR; have H2 := Lib.hid (And.intro rowR (And.intro hgR hgrR)); have HCR := Lib.hid capRge; clear capRge; have kA2 := (((H0.out.1.grown H1.out.2.2 (by omega)).grown hgrR (by omega)).2.1); have kB2 := (((H0.out.2.1.grown H1.out.2.2 (by omega)).grown hgrR (by omega)).2.1); clear hR rowR hgR hgrR))
  have h1 := H1.out
  have h2 := H2.out
  have h0 := H0.out
  obtain ⟨cA, cB, cQ, cR, _, _, cb, cs⟩ := h0
  have gLne : gL ≠ w.heap.size + 1 + 1 + 1 + 1 + 1 := by rcases h1.2.1 with h | h <;> omega
  have gLge : w.heap.size ≤ gL := by rcases h1.2.1 with h | h <;> omega
  have rowL2 := h1.1.grown h2.2.2 gLne
  have rowR2 := h2.1
  have cA2 := (cA.grown h1.2.2 (by omega)).grown h2.2.2 (by omega)
  have cB2 := (cB.grown h1.2.2 (by omega)).grown h2.2.2 (by omega)
  have cQ2 := (cQ.grown h1.2.2 (by omega)).grown h2.2.2 (by omega)
  have cR2 := (cR.grown h1.2.2 (by omega)).grown h2.2.2 (by omega)
  have cb2 : Below w.heap.size w wR := (cb.grown h1.2.2 (by omega) (fun k e => by cases e; omega)).grown h2.2.2 (by have := h1.2.2.size; omega) (fun k e => by cases e; omega)
  have cz2 : w.heap.size + 1 + 1 + 1 + 1 + 1 + 1 ≤ wR.heap.size := by have := h1.2.2.size; have := h2.2.2.size; omega
  have hla := nw_be_length sa.data.toList
  have hlb := nw_be_length sb.data.toList
  rw [← Lib.size_eq] at hla hlb
  have capLge := HCL.out
  have capRge := HCR.out
  obtain ⟨m, hm⟩ : ∃ m, m = beVal sa.data.toList := ⟨_, rfl⟩
  obtain ⟨n, hn⟩ : ∃ n, n = beVal sb.data.toList := ⟨_, rfl⟩
  have hy0 := HY0.out
  rw [← hm] at hla rowL2 capLge
  rw [← hn] at hlb rowR2 capRge hy0
  rw [← hm, ← hn]
  have hlen : (nw n).length = 0 := by rw [hy0]; rfl
  rw [hlen]
  have HW := Lib.hid (And.intro cQ2 (And.intro cR2 (And.intro cb2 cz2)))
  have fQ : Two (w.heap.size + 1 + 1) (.bool false) (.string ⟨#[]⟩) ((((wR.setCell ⟨w.heap.size + 1 + 1, 0, none⟩ (.bool false)).setCell ⟨w.heap.size + 1 + 1, 1, none⟩ (.string ⟨#[]⟩)).setCell ⟨w.heap.size + 1 + 1 + 1, 0, none⟩ (.bool false)).setCell ⟨w.heap.size + 1 + 1 + 1, 1, none⟩ (.string ⟨#[]⟩)) := ((two_set cQ2 _ _).other (by omega)).other (by omega)
  have fR : Two (w.heap.size + 1 + 1 + 1) (.bool false) (.string ⟨#[]⟩) ((((wR.setCell ⟨w.heap.size + 1 + 1, 0, none⟩ (.bool false)).setCell ⟨w.heap.size + 1 + 1, 1, none⟩ (.string ⟨#[]⟩)).setCell ⟨w.heap.size + 1 + 1 + 1, 0, none⟩ (.bool false)).setCell ⟨w.heap.size + 1 + 1 + 1, 1, none⟩ (.string ⟨#[]⟩)) := two_set ((cR2.other (by omega)).other (by omega)) _ _
  have hbel : Below w.heap.size w ((((wR.setCell ⟨w.heap.size + 1 + 1, 0, none⟩ (.bool false)).setCell ⟨w.heap.size + 1 + 1, 1, none⟩ (.string ⟨#[]⟩)).setCell ⟨w.heap.size + 1 + 1 + 1, 0, none⟩ (.bool false)).setCell ⟨w.heap.size + 1 + 1 + 1, 1, none⟩ (.string ⟨#[]⟩)) :=
    (((cb2.setCell (by show w.heap.size ≤ w.heap.size + 1 + 1; omega) _).setCell (by show w.heap.size ≤ w.heap.size + 1 + 1; omega) _).setCell (by show w.heap.size ≤ w.heap.size + 1 + 1 + 1; omega) _).setCell (by show w.heap.size ≤ w.heap.size + 1 + 1 + 1; omega) _
  obtain ⟨⟨r1, r2⟩, r3, r4⟩ := cQ2
  obtain ⟨⟨r5, r6⟩, r7, r8⟩ := cR2
  have k1 := fQ.1.1
  have k2 := fQ.2.1
  have k3 := fR.1.1
  have k4 := fR.2.1
  have HBEL := Lib.hid hbel
  clear h1 h2 cA cB cQ cR cb cs gLne gLge rowL2 rowR2 cA2 cB2 cb2 cz2 hla hlb hm hn capLge capRge H0 H1 H2 HCL HCR hy0 hlen HY0 kA1 kB1 kA2 kB2 fQ fR hbel
  go_wp2_with fail
  refine bodyPost_ret (v := .tuple #[iv 0, iv 0, .int .i64 10]) (by simp [results, Tryz.results88, go_sem, k1, k2, k3, k4, iv_zero]) rfl ⟨rfl, HBEL.out⟩
end Go.Proofs.YtpdhffjdgnpikaaGreatDoor

namespace Go.Proofs.YtpdhffjdgnpikaaGreatDoor
open Go.RowKit Go.Shelf

/-- The words of a number; nothing that was there has turned. -/
def NtRes (w : World) (n : Nat) (e : Ending) (w' : World) : Prop := ∃ (p : Option Addr) (c : Nat), e = .returned (.slice p (nw n).length c) ∧ (nw n).length ≤ c ∧ Nt w' p (nw n) ∧ Below w.heap.size w w'
end Go.Proofs.YtpdhffjdgnpikaaGreatDoor

namespace Go.Proofs.YtpdhffjdgnpikaaGreatDoor
open Go.RowKit Go.Shelf

theorem cmpZ_zero (a b : Nat) : (cmpZ a b == 0) = decide (a = b) := by
  rcases Nat.lt_trichotomy a b with h | h | h
  · rw [cmpZ_lt (by omega)]; simp; omega
  · subst h; rw [cmpZ_eq rfl]; simp
  · rw [cmpZ_gt (by omega)]; simp; omega

end Go.Proofs.YtpdhffjdgnpikaaGreatDoor
