/- The contract of bigint.subProduct. The contract of bigint.shiftLeft. The numbers of a long division: the trial digit, and how it is set right. The contract of bigint.quotientDigit. The contract of bigint.shiftRight. The numbers of bigint.longDivide. The contract of bigint.longDivide. The contracts of bigint.divide and bigint.Div for all numbers. -/
import Derived.Test.YtpdhffjdgnpikaaGreatDoorNat
import Derived.Test.YtpdhffjdgnpikaaGreatDoorBlockwise
import Derived.Shelf.Bits.Mul64
import Derived.Test.YtpdhffjdgnpikaaGreatDoorDiv64
import Derived.Deep.RegionHeld3
import Derived.Deep.CutRange
import Derived.Handy
import Derived.Test.YtpdhffjdgnpikaaGreatDoorDiv
import Derived.Test.YtpdhffjdgnpikaaGreatDoorLawKit
import Derived.Outline
namespace Go.Proofs.YtpdhffjdgnpikaaGreatDoor
open Go.RowKit

theorem sub_fits (d q hi lo cy s1 c1 t s2 c2 : Nat) (hd : d < 18446744073709551616) (hq : q < 18446744073709551616) (hcy : cy < 18446744073709551616)
    (h : d * q = lo + 18446744073709551616 * hi) (h1 : lo + cy = s1 + 18446744073709551616 * c1) (h2 : t + 18446744073709551616 * c2 = s2 + s1) (hs : s2 < 18446744073709551616) : hi + c1 + c2 < 18446744073709551616 := by
  have h3 : d * q ≤ 18446744073709551615 * 18446744073709551615 := Nat.mul_le_mul (by omega) (by omega)
  omega
theorem sub_sum (P d q hi lo cy s1 c1 t s2 c2 a b e : Nat)
    (h : d * q = lo + 18446744073709551616 * hi) (h1 : lo + cy = s1 + 18446744073709551616 * c1) (h2 : t + 18446744073709551616 * c2 = s2 + s1) (he : a + q * e = b + P * cy) :
    (a + P * s2) + q * (e + P * d) = (b + P * t) + P * 18446744073709551616 * (hi + c1 + c2) := by
  have e1 : s2 + d * q + cy = t + 18446744073709551616 * (hi + c1 + c2) := by omega
  have e2 := congrArg (P * ·) e1
  simp only [Nat.mul_add, ← Nat.mul_assoc] at e2 ⊢
  have e3 : P * d * q = q * P * d := by rw [Nat.mul_comm (P * d) q, Nat.mul_assoc]
  omega

def SubbedProduct (w : World) (b off : Nat) (ts xs : List Nat) (q : Nat) (e : Ending) (w' : World) : Prop :=
  ∃ (ys : List Nat) (c : Nat), e = .returned (.int .u64 c) ∧ c < 18446744073709551616 ∧ ys.length = ts.length ∧ Ok ys ∧ wv ys + q * wv xs = wv ts + 18446744073709551616 ^ ts.length * c ∧ Row w' b off ys ∧ Touch w w' b off ts.length

set_option maxHeartbeats 1000000 in
set_option maxRecDepth 100000 in
theorem subProduct_any (b off ct : Nat) (p : Option Addr) (cx : Nat) (ts xs : List Nat) (q : Nat) (w : World) (hr : Row w b off ts) (hx : Nt w p xs) (hne : xs ≠ [] → ∀ a, p = some a → a.block ≠ b)
    (hl : xs.length = ts.length) (hn : ts.length ≤ 1048576) (hts : Ok ts) (hxs : Ok xs) (hq : q < 18446744073709551616) :
    Calls Tryz.prog 214 #[.slice (some ⟨b, off, none⟩) ts.length ct, .slice p xs.length cx, .int .u64 q] w (SubbedProduct w b off ts xs q) := by
  have HQ := Lib.hid hq
  have HL := Lib.hid hl
  have HRW := Lib.hid hr
  have hl2 : xs.length ≤ ts.length := by omega
  have hl3 : ts.length ≤ xs.length := by omega
  clear hq hr hl
  go_enter Tryz.func214, Tryz.ntmps214
  go_wp2_with fail
  go_loopw [7, 15] (fun c i wr => ∃ (k cy : Nat) (ys : List Nat), k ≤ ts.length ∧ i = .int .i64 k ∧ c = .int .u64 cy ∧ cy < 18446744073709551616 ∧ ys.length = k ∧ Ok ys ∧ wv ys + q * wv (xs.take k) = wv (ts.take k) + 18446744073709551616 ^ k * cy ∧ Row wr b off (ys ++ ts.drop k) ∧ Touch w wr b off ts.length) (fun _ i _ => ts.length - (intOf i).toNat)
  case atStart => exact ⟨0, 0, [], Nat.zero_le _, rfl, rfl, by decide, rfl, Ok.nil, by simp [wv], HRW.out, Touch.refl _ _ _ _⟩
  case round =>
    obtain ⟨k, cy, ys, hk, rfl, rfl, hcy, hy, hok, heq, hrow, ht⟩ := hrel
    have HCY := Lib.hid hcy
    have HY := Lib.hid hy
    have HE := Lib.hid heq
    have HROW := Lib.hid hrow
    have HT := Lib.hid ht
    clear hcy hy heq hrow ht
    by_cases hlt : k < ts.length
    · rcases hx with hx0 | ⟨bx, ox, rfl, hxr⟩
      · exfalso; have := HL.out; rw [hx0] at this; simp at this; omega
      · have hltx : k < xs.length := by rw [HL.out]; exact hlt
        have hbne : bx ≠ b := hne (fun h => by rw [h] at hltx; simp at hltx) _ rfl
        obtain ⟨d, hd⟩ : ∃ d, d = xs.getD k 0 := ⟨_, rfl⟩
        obtain ⟨t, htk⟩ : ∃ t, t = ts.getD k 0 := ⟨_, rfl⟩
        have hcx : wr.cell? ⟨bx, ox + k, none⟩ = some (.int .u64 (d : Nat)) := by rw [hd]; exact ((hxr.touch HT.out hbne) k hltx).1
        have hmid := HROW.out k (by rw [List.length_append, List.length_drop, HY.out]; omega)
        have hct : wr.cell? ⟨b, off + k, none⟩ = some (.int .u64 (t : Nat)) := by rw [htk, ← mid_getD ys ts k HY.out hlt]; exact hmid.1
        have hfr : wr.frozen? ⟨b, off + k, none⟩ = false := hmid.2
        have hdb : d < 18446744073709551616 := by rw [hd]; exact hxs.getD k
        have htb : t < 18446744073709551616 := by rw [htk]; exact hts.getD k
        obtain ⟨hi, lo, e1, l1, hmul⟩ := mul64_ex d q hdb HQ.out
        obtain ⟨s1, c1, e2, l2, k2, hadd1⟩ := add64_ex0 lo cy l1 HCY.out
        obtain ⟨s2, c2, e3, l3, k3, hadd2⟩ := sub64_ex0 t s1 htb l2
        obtain ⟨h1, e4, hw1⟩ := addW_ex hi c1 (hi_fits d q hi lo c1 hdb HQ.out e1 k2)
        obtain ⟨h2, e5, hw2⟩ := addW_ex h1 c2 (by rw [e4]; exact sub_fits d q hi lo cy s1 c1 t s2 c2 hdb HQ.out HCY.out e1 e2 e3 l3)
        have hb5 : h2 < 18446744073709551616 := by rw [e5, e4]; exact sub_fits d q hi lo cy s1 c1 t s2 c2 hdb HQ.out HCY.out e1 e2 e3 l3
        have HH := Lib.hid (And.intro hd (And.intro htk (And.intro hdb (And.intro htb (And.intro e1 (And.intro e2 (And.intro e3 (And.intro e4 (And.intro e5 (And.intro l3 hb5))))))))))
        have HM := Lib.hid hmul
        have HXR := Lib.hid hxr
        clear hd htk hdb htb e1 e2 e3 e4 e5 l1 l2 l3 k2 k3 hb5 hmid hmul hxr hts hxs
        go_wp2_with (go_at_call 213; refine (HM.out _).mono ?_; rintro e w' ⟨rfl, rfl⟩)
        go_roundw
        case rel =>
          obtain ⟨hd, htk, hdb, htb, e1, e2, e3, e4, e5, l3, hb5⟩ := HH.out
          refine ⟨k + 1, h2, ys ++ [s2], by omega, by go_num, rfl, hb5, by rw [List.length_append, HY.out]; rfl, hok.append (Ok.nil.cons l3), ?_, ?_, ?_⟩
          · rw [wv_snoc, HY.out, Nat.pow_succ, wv_take_succ ts k hlt, wv_take_succ xs k hltx, ← hd, ← htk, e5, e4]
            exact sub_sum _ d q hi lo cy s1 c1 t s2 c2 _ _ _ e1 e2 e3 HE.out
          · have h := HROW.out.set k s2 (by rw [List.length_append, List.length_drop, HY.out]; omega)
            rw [set_mid ys ts k s2 HY.out hlt] at h
            exact h
          · exact HT.out.set (by omega) (by omega) _
        case measure => simp [intOf]; omega
    · have hkn : k = ts.length := by omega
      have HKN := Lib.hid hkn
      clear hkn
      go_wp2_with fail
      go_ret
      have hy := HY.out
      have hkn := HKN.out
      refine ⟨ys, cy, rfl, HCY.out, by rw [hy, hkn], hok, ?_, ?_, HT.out⟩
      · have := HE.out
        rw [hkn, List.take_of_length_le (Nat.le_refl _), List.take_of_length_le (by rw [HL.out]; exact Nat.le_refl _)] at this
        exact this
      · have := HROW.out
        rw [hkn, List.drop_length, List.append_nil] at this
        exact this
end Go.Proofs.YtpdhffjdgnpikaaGreatDoor

namespace Go.Proofs.YtpdhffjdgnpikaaGreatDoor
open Go.RowKit Go.Shelf

theorem pow64 (k : Nat) : 18446744073709551616 ^ k = 2 ^ (64 * k) := by rw [show (18446744073709551616 : Nat) = 2 ^ 64 from rfl, ← Nat.pow_mul]
/-- The digits of a product with a power of two, one digit further. -/
theorem shl_step (pre : List Nat) (t d s lo hi k wd n : Nat) (xs : List Nat) (hk : k < xs.length) (hd : d = xs.getD k 0) (hpre : pre.length = wd + k) (hn : n = 64 * wd + s)
    (hv : wv (pre ++ [t]) = wv (xs.take k) * 2 ^ n) (hlh : d * 2 ^ s = lo + 18446744073709551616 * hi) :
    wv (pre ++ [t + lo, hi]) = wv (xs.take (k + 1)) * 2 ^ n := by
  rw [wv_append] at hv ⊢
  have e1 : wv [t] = t := by simp [wv]
  have e2 : wv [t + lo, hi] = t + (lo + 18446744073709551616 * hi) := by simp [wv]; omega
  rw [e1] at hv
  rw [e2, wv_take_succ xs k hk, ← hd, ← hlh, Nat.add_mul, ← hv, hpre, Nat.mul_add, Nat.add_assoc]
  congr 2
  rw [hn, pow64, pow64, Nat.mul_add, Nat.pow_add, Nat.pow_add]
  simp only [Nat.mul_assoc, Nat.mul_comm, Nat.mul_left_comm]
/-- The last digit is small. -/
theorem shl_last (pre : List Nat) (t s k wd n : Nat) (xs : List Nat) (hox : Ok xs) (hpre : pre.length = wd + k) (hk : k ≤ xs.length) (hn : n = 64 * wd + s)
    (hv : wv (pre ++ [t]) = wv (xs.take k) * 2 ^ n) : t < 2 ^ s := by
  rw [wv_append] at hv
  have e1 : wv [t] = t := by simp [wv]
  have h1 := wv_lt (xs.take k) (hox.take k)
  rw [List.length_take, Nat.min_eq_left hk, pow64] at h1
  rw [e1, hpre, pow64] at hv
  have h2 : wv (xs.take k) * 2 ^ n < 2 ^ (64 * k) * 2 ^ n := Nat.mul_lt_mul_of_pos_right h1 (Nat.two_pow_pos n)
  rw [← hv, hn, ← Nat.pow_add, show 64 * k + (64 * wd + s) = 64 * (wd + k) + s by omega, Nat.pow_add] at h2
  exact Nat.lt_of_mul_lt_mul_left (Nat.lt_of_le_of_lt (Nat.le_add_left _ _) h2)

theorem shl_set (pre : List Nat) (t a b m i : Nat) (hi : pre.length = i) (hm : 0 < m) : (((pre ++ [t]) ++ List.replicate m 0).set i a).set (i + 1) b = ((pre ++ [a]) ++ [b]) ++ List.replicate (m - 1) 0 := by
  obtain ⟨j, rfl⟩ : ∃ j, m = j + 1 := ⟨m - 1, by omega⟩
  subst hi
  rw [List.append_assoc, List.set_append_right _ _ (Nat.le_refl _), Nat.sub_self, List.set_append_right _ _ (by omega), show pre.length + 1 - pre.length = 1 by omega, List.replicate_succ]
  simp

set_option maxHeartbeats 2000000 in
set_option maxRecDepth 100000 in
theorem shiftLeft_any (p : Option Addr) (cx n : Nat) (xs : List Nat) (w : World) (hx : Nt w p xs) (hox : Ok xs) (hl : xs.length ≤ 524288) (hn : n ≤ 33554432) :
    Calls Tryz.prog 182 #[.slice p xs.length cx, .int .i64 n] w fun e w' =>
      ∃ (g c : Nat) (rs : List Nat), e = .returned (.slice (some ⟨g, 0, none⟩) c c) ∧ rs.length = c ∧ c = n / 64 + xs.length + 1 ∧ Ok rs ∧ wv rs = wv xs * 2 ^ n ∧ Row w' g 0 rs ∧ w.heap.size ≤ g ∧ g < w'.heap.size ∧ Below w.heap.size w w' := by
  obtain ⟨wd, hwd⟩ : ∃ wd, wd = n / 64 := ⟨_, rfl⟩
  obtain ⟨s, hs⟩ : ∃ s, s = n % 64 := ⟨_, rfl⟩
  have hns : n = 64 * wd + s := by omega
  have hs64 : s < 64 := by omega
  obtain ⟨c, hc⟩ : ∃ c, c = wd + xs.length + 1 := ⟨_, rfl⟩
  have hmk := make_full c (by omega)
  have F1 : (n : Int) / 64 = (wd : Int) := by omega
  have F2 : (n : Int) % 64 = (s : Int) := by omega
  have F3 : (wd : Int) + (xs.length : Int) + 1 = (c : Int) := by omega
  have HX := Lib.hid hx
  have HN := Lib.hid (And.intro hns (And.intro hc hwd))
  have hcb : c ≤ 1048577 := by omega
  have hwb : wd ≤ 524288 := by omega
  rw [← hwd]
  clear hx hns hc hwd hs
  go_enter Tryz.func182, Tryz.ntmps182
  go_wp2_with fail
  go_loopw [22] (fun i wr => ∃ (k : Nat) (pre : List Nat) (t : Nat), k ≤ xs.length ∧ i = .int .i64 k ∧ pre.length = wd + k ∧ Ok pre ∧ t < 18446744073709551616 ∧ wv (pre ++ [t]) = wv (xs.take k) * 2 ^ n ∧ Row wr w.heap.size 0 ((pre ++ [t]) ++ List.replicate (xs.length - k) 0) ∧ Below w.heap.size w wr ∧ w.heap.size < wr.heap.size) (fun i _ => xs.length - (intOf i).toNat)
  case atStart =>
    refine ⟨0, List.replicate wd 0, 0, Nat.zero_le _, rfl, by simp, fun x hx => by rw [List.eq_of_mem_replicate hx]; decide, by decide, ?_, ?_, (Below.refl _ _).alloc (Nat.le_refl _) _, by simp⟩
    · rw [wv_append, wv_zeros]; simp [wv]
    · have h := row_zeros w c 85
      rw [show [0] = List.replicate 1 0 from rfl, List.replicate_append_replicate, List.replicate_append_replicate, show wd + 1 + (xs.length - 0) = c by have := HN.out.2.1; omega]
      exact h
  case round =>
    obtain ⟨k, pre, t, hk, rfl, hpre, hpo, htw, hv, hrow, hbel, hsz⟩ := hrel
    have HROW := Lib.hid hrow
    have HV := Lib.hid hv
    have HPRE := Lib.hid hpre
    have HB := Lib.hid hbel
    by_cases hlt : k < xs.length
    · rcases HX.out with hx0 | ⟨bx, ox, rfl, hxr⟩
      · exfalso; rw [hx0] at hlt; simp at hlt
      · have hbb : bx < w.heap.size := hxr.lt (by omega)
        obtain ⟨d, hd⟩ : ∃ d, d = xs.getD k 0 := ⟨_, rfl⟩
        have hdw : d < 18446744073709551616 := by rw [hd]; exact hox.getD k
        have hcx : wr.cell? ⟨bx, ox + k, none⟩ = some (.int .u64 (d : Nat)) := by rw [hd]; exact ((hxr.below hbel hbb) k hlt).1
        have hlast := shl_last pre t s k wd n xs hox hpre hk HN.out.1 hv
        obtain ⟨lo, hlo⟩ : ∃ lo, lo = d * 2 ^ s % 18446744073709551616 := ⟨_, rfl⟩
        obtain ⟨hi, hhi⟩ : ∃ hi, hi = d * 2 ^ s / 18446744073709551616 := ⟨_, rfl⟩
        obtain ⟨t2, ht2⟩ : ∃ t2, t2 = t + lo := ⟨_, rfl⟩
        have e64 : (18446744073709551616 : Nat) = 2 ^ s * 2 ^ (64 - s) := by rw [← Nat.pow_add, show s + (64 - s) = 64 by omega]
        have hdvd : lo % 2 ^ s = 0 := by rw [hlo, Nat.mod_mod_of_dvd _ (by rw [e64]; exact Nat.dvd_mul_right _ _)]; exact Nat.mul_mod_left _ _
        have hlow : lo < 18446744073709551616 := by rw [hlo]; exact Nat.mod_lt _ (by omega)
        have hhi2 : hi = d / 2 ^ (64 - s) := by rw [hhi, e64, Nat.mul_comm d, Nat.mul_div_mul_left _ _ (Nat.two_pow_pos s)]
        have hsum : d * 2 ^ s = lo + 18446744073709551616 * hi := by rw [hlo, hhi]; have := Nat.div_add_mod (d * 2 ^ s) 18446744073709551616; omega
        have hhiw : hi < 18446744073709551616 := by rw [hhi2]; exact Nat.lt_of_le_of_lt (Nat.div_le_self _ _) hdw
        have G1 : IntKind.u64.wrap ((d : Int) * 2 ^ s) = (lo : Int) := by rw [show (2 : Int) ^ s = ((2 ^ s : Nat) : Int) by rw [Int.natCast_pow]; rfl, ← Int.natCast_mul, Mul64.wrapM, ← hlo]
        have G2 : (d : Int) / 2 ^ (64 - s) = (hi : Int) := by rw [hhi2, show (2 : Int) ^ (64 - s) = ((2 ^ (64 - s) : Nat) : Int) by rw [Int.natCast_pow]; rfl]; rfl
        have G3 : bits .or .u64 (t : Int) (lo : Int) = (t2 : Int) := by rw [u64_or_nat t lo htw hlow, Nat.or_comm, nat_join s lo t hdvd hlast, Nat.add_comm, ← ht2]
        have ht2w : t2 < 18446744073709551616 := by
          have := nat_join s lo t hdvd hlast
          have h2 : lo ||| t < 2 ^ 64 := Nat.or_lt_two_pow hlow htw
          rw [ht2]; omega
        have hst := shl_step pre t d s lo hi k wd n xs hlt hd hpre HN.out.1 hv hsum
        have c1 : wr.cell? ⟨w.heap.size, wd + k, none⟩ = some (.int .u64 (t : Nat)) := by
          have := (hrow (wd + k) (by simp; omega)).1
          rw [Nat.zero_add, List.getD_eq_getElem?_getD, List.getElem?_append_left (by simp; omega), List.getElem?_append_right (by omega), hpre, Nat.sub_self] at this
          exact this
        have c2 : wr.frozen? ⟨w.heap.size, wd + k, none⟩ = false := by
          have := (hrow (wd + k) (by simp; omega)).2
          rwa [Nat.zero_add] at this
        have c3 : wr.cell? ⟨w.heap.size, wd + k + 1, none⟩ = some (.int .u64 (0 : Nat)) := by
          have := (hrow (wd + k + 1) (by simp; omega)).1
          rw [Nat.zero_add, List.getD_eq_getElem?_getD, List.getElem?_append_right (by simp; omega), List.getElem?_replicate] at this
          simp at this
          rw [this]; split <;> rfl
        have c4 : wr.frozen? ⟨w.heap.size, wd + k + 1, none⟩ = false := by
          have := (hrow (wd + k + 1) (by simp; omega)).2
          rwa [Nat.zero_add] at this
        have hck : wd + k + 1 < c := by have := HN.out.2.1; omega
        have HS := Lib.hid (And.intro hst (And.intro ht2 (And.intro ht2w hhiw)))
        clear hrow hv hpre hbel hd hlast hlo hhi ht2 e64 hdvd hhi2 hsum hst hlow hdw htw
        go_wp2_with fail
        go_region
        all_goals go_wp2_with fail
        refine ⟨⟨k + 1, pre ++ [t2], hi, by omega, by go_num, by rw [List.length_append, HPRE.out]; rfl, hpo.append (Ok.nil.cons HS.out.2.2.1), HS.out.2.2.2, ?_, ?_, ?_, ?_⟩, ?_⟩
        · rw [List.append_assoc]
          have h := HS.out.1
          rw [← HS.out.2.1] at h
          exact h
        · have hp := HPRE.out
          have h1 := HROW.out.set (wd + k) t2 (by simp; omega)
          have h2 := h1.set (wd + k + 1) hi (by simp; omega)
          rw [shl_set pre t t2 hi (xs.length - k) (wd + k) hp (by omega), Nat.zero_add, Nat.zero_add] at h2
          rw [show xs.length - (k + 1) = xs.length - k - 1 by omega]
          exact h2
        · exact ((HB.out.setCell (Nat.le_refl _) _).setCell (Nat.le_refl _) _).drew
        · simp [World.setCell]; omega
        · simp [intOf]; omega
    · have hkn : k = xs.length := by omega
      have HKN := Lib.hid hkn
      clear hkn hrow hv hpre hbel
      go_wp2_with fail
      go_ret
      have h1 := HROW.out
      have h2 := HV.out
      have hkn := HKN.out
      rw [hkn, Nat.sub_self, List.replicate_zero, List.append_nil] at h1
      rw [hkn, List.take_of_length_le (Nat.le_refl _)] at h2
      exact ⟨w.heap.size, c, pre ++ [t], rfl, by rw [List.length_append, HPRE.out, hkn, HN.out.2.1]; rfl, HN.out.2.1, hpo.append (Ok.nil.cons htw), h2, h1, Nat.le_refl _, hsz, HB.out⟩
end Go.Proofs.YtpdhffjdgnpikaaGreatDoor

namespace Go.Proofs.YtpdhffjdgnpikaaGreatDoor

/-- The trial digit is not too small, and at most 2 too great. -/
theorem trial_bound (h P R' e D' q R D : Nat) (hR : R = h * P + R') (hR' : R' < P) (hD : D = e * P + D') (hD' : D' < P) (he : 9223372036854775808 ≤ e)
    (hq : q < 18446744073709551616) (hlow : q * e ≤ h ∨ e * 18446744073709551616 ≤ h) (hhigh : h < (q + 1) * e ∨ R < (q + 1) * D) : R < (q + 1) * D ∧ q * D < R + 2 * D := by
  constructor
  · rcases hhigh with hh | hh
    · have h1 : (h + 1) * P ≤ (q + 1) * e * P := Nat.mul_le_mul_right P hh
      have h2 : (q + 1) * D = (q + 1) * e * P + (q + 1) * D' := by rw [hD, Nat.mul_add, Nat.mul_assoc]
      rw [Nat.add_mul, Nat.one_mul] at h1
      omega
    · exact hh
  · have h3 : q * D = q * e * P + q * D' := by rw [hD, Nat.mul_add, Nat.mul_assoc]
    have h4 : q * D' ≤ 18446744073709551616 * P := Nat.mul_le_mul (by omega) (by omega)
    have h5 : 18446744073709551616 * P ≤ 2 * (e * P) := by
      rw [← Nat.mul_assoc]
      exact Nat.mul_le_mul_right P (by omega)
    have h6 : q * e * P ≤ h * P := by
      refine Nat.mul_le_mul_right P ?_
      rcases hlow with hh | hh
      · exact hh
      · refine Nat.le_trans ?_ hh
        rw [Nat.mul_comm]
        exact Nat.mul_le_mul_left e (by omega)
    have h7 : 0 < P := by omega
    have h8 : q * D' < 18446744073709551616 * P := by
      rcases Nat.eq_zero_or_pos D' with h0 | h0
      · subst h0; omega
      · exact Nat.lt_of_lt_of_le (Nat.mul_lt_mul_of_pos_right hq h0) (Nat.mul_le_mul_left _ (by omega))
    omega

/-- The two highest words of a row, and the highest of the divisor. -/
theorem wv_top (xs : List Nat) (n : Nat) (h : xs.length = n + 1) : wv xs = xs.getD n 0 * 18446744073709551616 ^ n + wv (xs.take n) := by
  have e : xs = xs.take n ++ [xs.getD n 0] := by rw [← take_snocW xs n (by omega), List.take_of_length_le (by omega)]
  have h2 := congrArg wv e
  rw [wv_snoc, List.length_take, Nat.min_eq_left (by omega)] at h2
  rw [h2, Nat.mul_comm, Nat.add_comm]
theorem wv_top2 (xs : List Nat) (n : Nat) (h : xs.length = n + 2) : wv xs = (xs.getD (n + 1) 0 * 18446744073709551616 + xs.getD n 0) * 18446744073709551616 ^ n + wv (xs.take n) := by
  rw [wv_top xs (n + 1) h, wv_top (xs.take (n + 1)) n (by rw [List.length_take]; omega), List.take_take, Nat.min_eq_left (by omega)]
  have : (xs.take (n + 1)).getD n 0 = xs.getD n 0 := by
    rw [List.getD_eq_getElem?_getD, List.getD_eq_getElem?_getD, List.getElem?_take_of_lt (by omega)]
  rw [this, Nat.pow_succ, Nat.add_mul, Nat.mul_assoc, Nat.mul_comm (18446744073709551616 ^ n), Nat.add_assoc]

/-- The digit of a trial, as quotientDigit finds it. -/
def trialQ (r1 r0 e : Nat) : Nat := if r1 < e then (r1 * 18446744073709551616 + r0) / e else 18446744073709551615
theorem trialQ_lt (r1 r0 e : Nat) (h0 : r0 < 18446744073709551616) : trialQ r1 r0 e < 18446744073709551616 := by
  unfold trialQ
  split
  · rw [Nat.div_lt_iff_lt_mul (by omega)]
    have : (r1 + 1) * 18446744073709551616 ≤ e * 18446744073709551616 := Nat.mul_le_mul_right _ (by omega)
    rw [Nat.mul_comm 18446744073709551616 e]
    omega
  · omega
/-- What the trial digit is worth. -/
theorem trial_digit (ts xs : List Nat) (n : Nat) (hx : xs.length = n + 1) (ht : ts.length = n + 2) (hox : Ok xs) (hot : Ok ts) (htop : 9223372036854775808 ≤ xs.getD n 0) (hlt : wv ts < wv xs * 18446744073709551616) :
    wv ts < (trialQ (ts.getD (n + 1) 0) (ts.getD n 0) (xs.getD n 0) + 1) * wv xs ∧ trialQ (ts.getD (n + 1) 0) (ts.getD n 0) (xs.getD n 0) * wv xs < wv ts + 2 * wv xs := by
  have e1 := wv_top2 ts n ht
  have e2 := wv_top xs n hx
  have l1 := wv_lt (ts.take n) (hot.take n)
  have l2 := wv_lt (xs.take n) (hox.take n)
  rw [List.length_take, Nat.min_eq_left (by omega)] at l1 l2
  have q0 := trialQ_lt (ts.getD (n + 1) 0) (ts.getD n 0) (xs.getD n 0) (hot.getD n)
  refine trial_bound _ _ _ _ _ _ _ _ e1 l1 e2 l2 htop q0 ?_ ?_
  · unfold trialQ
    split
    · exact .inl (by rw [Nat.mul_comm]; exact Nat.mul_div_le _ _)
    · right
      have : xs.getD n 0 * 18446744073709551616 ≤ ts.getD (n + 1) 0 * 18446744073709551616 := Nat.mul_le_mul_right _ (by omega)
      exact Nat.le_trans this (Nat.le_add_right _ _)
  · unfold trialQ
    split
    · left
      have := Nat.lt_div_mul_add (a := ts.getD (n + 1) 0 * 18446744073709551616 + ts.getD n 0) (b := xs.getD n 0) (by omega)
      rw [Nat.add_mul, Nat.one_mul]
      exact this
    · right
      rw [Nat.add_mul, Nat.one_mul]
      generalize wv xs = X at *
      omega

/-- How far a digit d is too great: the words Y below the highest word u stand for Y - P * k. -/
def QI (P D R d Y u : Nat) : Prop := ∃ k : Nat, k ≤ 2 ∧ (k = 0 ∧ u = 0 ∨ 0 < k ∧ u + k = 18446744073709551616) ∧ Y + d * D = R + P * k ∧ Y < D + P * k
theorem QI.start {P D R q L t c Y u : Nat} (hDP : D < P) (hY : Y < P) (he : Y + q * D = L + P * c) (hR : R = t * P + L) (h1 : R < (q + 1) * D) (h2 : q * D < R + 2 * D)
    (hu : IntKind.u64.wrap ((t : Int) - (c : Int)) = (u : Int)) : QI P D R q Y u := by
  unfold QI
  rw [Nat.add_mul, Nat.one_mul] at h1
  generalize q * D = Z at *
  have hct : t ≤ c := by
    refine Classical.byContradiction fun hn => ?_
    have : P * (c + 1) ≤ P * t := Nat.mul_le_mul_left P (by omega)
    rw [Nat.mul_add, Nat.mul_one, Nat.mul_comm P t] at this
    omega
  obtain ⟨k, rfl⟩ : ∃ k, c = t + k := ⟨c - t, by omega⟩
  rw [Nat.mul_add, Nat.mul_comm P t] at he
  have hk : k ≤ 2 := by
    refine Classical.byContradiction fun hn => ?_
    have : P * 3 ≤ P * k := Nat.mul_le_mul_left P (by omega)
    omega
  refine ⟨k, hk, ?_, by omega, by omega⟩
  rw [IntKind.wrap_u64] at hu
  omega
theorem QI.step {P D R d Y u c Y' u' : Nat} (h : QI P D R d Y u) (hne : u ≠ 0) (hDP : D < P) (hY : Y < P) (he : Y' + P * c = Y + D) (_hY' : Y' < P)
    (hu : IntKind.u64.wrap ((u : Int) + (c : Int)) = (u' : Int)) : 0 < d ∧ QI P D R (d - 1) Y' u' := by
  obtain ⟨k, hk, hku, h1, h2⟩ := h
  have hk0 : 0 < k := by omega
  have hPk : P * 1 ≤ P * k := Nat.mul_le_mul_left P hk0
  have hd : 0 < d := by
    refine Classical.byContradiction fun hn => ?_
    obtain rfl : d = 0 := by omega
    rw [Nat.zero_mul] at h1
    omega
  have hc : c ≤ 1 := by
    refine Classical.byContradiction fun hn => ?_
    have : P * 2 ≤ P * c := Nat.mul_le_mul_left P (by omega)
    omega
  obtain ⟨j, rfl⟩ : ∃ j, d = j + 1 := ⟨d - 1, by omega⟩
  rw [Nat.add_mul, Nat.one_mul] at h1
  refine ⟨hd, k - c, by omega, ?_, ?_, ?_⟩
  · rw [IntKind.wrap_u64] at hu
    omega
  · rw [Nat.add_sub_cancel, Nat.mul_sub]
    have : P * c ≤ P * k := Nat.mul_le_mul_left P (by omega)
    omega
  · rw [Nat.mul_sub]
    have : P * c ≤ P * k := Nat.mul_le_mul_left P (by omega)
    omega
theorem QI.done {P D R d Y : Nat} (h : QI P D R d Y 0) : d * D + Y = R ∧ Y < D := by
  obtain ⟨k, hk, hku, h1, h2⟩ := h
  obtain rfl : k = 0 := by omega
  omega
end Go.Proofs.YtpdhffjdgnpikaaGreatDoor

namespace Go.Proofs.YtpdhffjdgnpikaaGreatDoor
open Go.RowKit Go.Shelf

/-- What quotientDigit leaves and returns. -/
def Digit (w : World) (b off : Nat) (ts xs : List Nat) (e : Ending) (w' : World) : Prop :=
  ∃ (d : Nat) (ys : List Nat), e = .returned (.int .u64 d) ∧ d < 18446744073709551616 ∧ d * wv xs + wv ys = wv ts ∧ wv ys < wv xs ∧ ys.length = xs.length ∧ Ok ys ∧ Row w' b off (ys ++ [0]) ∧ Touch w w' b off ts.length

theorem row_snoc {w : World} {b off m : Nat} {ys : List Nat} {x v : Value} {u : Nat} (h : Row w b off ys) (hl : ys.length = m) (hc : w.cell? ⟨b, off + m, none⟩ = some x) (hf : w.frozen? ⟨b, off + m, none⟩ = false) (hv : v = .int .u64 (u : Nat)) :
    Row (w.setCell ⟨b, off + m, none⟩ v) b off (ys ++ [u]) := by
  subst hv hl
  intro j hj
  rw [World.frozen?_setCell]
  rw [List.length_append, List.length_singleton] at hj
  by_cases hjy : j < ys.length
  · rw [World.cell?_setCell_other _ _ _ _ (by intro e; have := congrArg Addr.off e; simp at this; omega), List.getD_eq_getElem?_getD, List.getElem?_append_left hjy, ← List.getD_eq_getElem?_getD]
    exact h j hjy
  · obtain rfl : j = ys.length := by omega
    rw [World.cell?_setCell_same' _ _ _ (by rw [hc]; rfl)]
    refine ⟨?_, hf⟩
    rw [List.getD_eq_getElem?_getD, List.getElem?_append_right (Nat.le_refl _), Nat.sub_self]; rfl

/-- subProduct at all words but the highest. -/
theorem qd_sub (b off ct bx ox cx q : Nat) (ts xs : List Nat) (hts : Ok ts) (hxs : Ok xs) (hq : q < 18446744073709551616) (hbne : bx ≠ b) (hl : ts.length = xs.length + 1) (hn : xs.length ≤ 1048576) (W : World) (hr : Row W b off ts) (hx : Row W bx ox xs) :
    Calls Tryz.prog 214 #[.slice (some ⟨b, off, none⟩) xs.length ct, .slice (some ⟨bx, ox, none⟩) xs.length cx, .int .u64 q] W (SubbedProduct W b off (ts.take xs.length) xs q) := by
  have h := subProduct_any b off ct (some ⟨bx, ox, none⟩) cx (ts.take xs.length) xs q W (hr.take _) (.inr ⟨_, _, rfl, hx⟩) (fun _ a ha => by cases ha; exact hbne) (by rw [List.length_take]; omega) (by rw [List.length_take]; omega) (hts.take _) hxs hq
  rw [List.length_take, Nat.min_eq_left (by omega)] at h
  exact h
/-- addProduct at all words but the highest. -/
theorem qd_add (b off ct bx ox cx : Nat) (ts xs : List Nat) (hts : Ok ts) (hxs : Ok xs) (hbne : bx ≠ b) (hl : ts.length = xs.length) (hn : xs.length ≤ 1048576) (W : World) (hr : Row W b off ts) (hx : Row W bx ox xs) :
    Calls Tryz.prog 179 #[.slice (some ⟨b, off, none⟩) xs.length ct, .slice (some ⟨bx, ox, none⟩) xs.length cx, .int .u64 (1 : Nat)] W (AddedProduct W b off ts xs 1) := by
  have h := addProduct_any b off ct (some ⟨bx, ox, none⟩) cx ts xs 1 W hr (.inr ⟨_, _, rfl, hx⟩) (fun _ a ha => by cases ha; exact hbne) hl.symm (by omega) hts hxs (by omega)
  rw [hl] at h
  exact h

set_option maxHeartbeats 4000000 in
set_option maxRecDepth 100000 in
theorem qdigit_any (b off ct : Nat) (p : Option Addr) (cx n : Nat) (ts xs : List Nat) (w : World) (hr : Row w b off ts) (hx : Nt w p xs) (hne : ∀ a, p = some a → a.block ≠ b)
    (hxl : xs.length = n + 2) (htl : ts.length = n + 3) (hn : n ≤ 1048000) (hct : ts.length ≤ ct) (hts : Ok ts) (hxs : Ok xs) (htop : 9223372036854775808 ≤ xs.getD (n + 1) 0) (hlt : wv ts < wv xs * 18446744073709551616) :
    Calls Tryz.prog 183 #[.slice (some ⟨b, off, none⟩) ts.length ct, .slice p xs.length cx] w (Digit w b off ts xs) := by
  obtain ⟨r1, hr1⟩ : ∃ r, ts.getD (n + 2) 0 = r := ⟨_, rfl⟩
  obtain ⟨r0, hr0⟩ : ∃ r, ts.getD (n + 1) 0 = r := ⟨_, rfl⟩
  obtain ⟨e, hee⟩ : ∃ r, xs.getD (n + 1) 0 = r := ⟨_, rfl⟩
  have htd := trial_digit ts xs (n + 1) hxl htl hxs hts htop hlt
  rw [hr1, hr0, hee] at htd
  rcases hx with hx0 | ⟨bx, ox, rfl, hxr⟩
  · rw [hx0] at hxl; simp at hxl
  have hbne : bx ≠ b := hne _ rfl
  obtain ⟨m1, hm1⟩ : ∃ m, m = n + 1 := ⟨_, rfl⟩
  obtain ⟨m2, hm2⟩ : ∃ m, m = xs.length := ⟨_, rfl⟩
  obtain ⟨m3, hm3⟩ : ∃ m, m = ts.length := ⟨_, rfl⟩
  have c1 : w.cell? ⟨b, off + m2, none⟩ = some (.int .u64 (r1 : Nat)) := by rw [← hr1, hm2, hxl]; exact (hr (n + 2) (by omega)).1
  have c2 : w.cell? ⟨b, off + m1, none⟩ = some (.int .u64 (r0 : Nat)) := by rw [← hr0, hm1]; exact (hr (n + 1) (by omega)).1
  have c3 : w.cell? ⟨bx, ox + m1, none⟩ = some (.int .u64 (e : Nat)) := by rw [← hee, hm1]; exact (hxr (n + 1) (by omega)).1
  have c4 : w.frozen? ⟨b, off + m2, none⟩ = false := by rw [hm2, hxl]; exact (hr (n + 2) (by omega)).2
  have hb := hr.lt (by omega)
  have hbx := hxr.lt (by omega)
  have l0 : r0 < 18446744073709551616 := by rw [← hr0]; exact hts.getD _
  have l1 : r1 < 18446744073709551616 := by rw [← hr1]; exact hts.getD _
  have le : e < 18446744073709551616 := by rw [← hee]; exact hxs.getD _
  have hql := trialQ_lt r1 r0 e l0
  obtain ⟨q, hq⟩ : ∃ q, trialQ r1 r0 e = q := ⟨_, rfl⟩
  rw [hq] at htd hql
  have HTD := Lib.hid (And.intro htd hql)
  have HR := Lib.hid (And.intro hr (And.intro hxr (And.intro hts hxs)))
  have HL := Lib.hid (And.intro l0 (And.intro l1 le))
  have i1 : (m2 : Int) - 1 = (m1 : Int) := by omega
  have i2 : (m1 : Int) < (m2 : Int) := by omega
  have i3 : (m2 : Int) < (m3 : Int) := by omega
  have i4 : m2 ≤ 1048002 := by omega
  have i7 : (m2 : Int) ≤ (ct : Int) := by omega
  have i8 : (m1 : Int) < (m3 : Int) := by omega
  have i5 : IntKind.i64.wrap (m1 : Int) = (m1 : Int) := by apply IntWalk.i64_in <;> omega
  have i6 : (0 : Int) ≤ (m1 : Int) := by omega
  have HRQ := Lib.hid (And.intro hr1 (And.intro hr0 (And.intro hee (And.intro hq (And.intro hxl (And.intro htl (And.intro hm1 (And.intro hm2 hm3))))))))
  rw [← hm2, ← hm3]
  clear htd hql hr hxr hts hxs l0 l1 le hr1 hr0 hee hq htop hlt hct hne hm1 hm2 hm3 hxl htl
  go_enter Tryz.func183, Tryz.ntmps183
  go_upto_region 3 with fail
  go_region_held3 (fun w' => w'.cell? ⟨b, off + m2, none⟩ = some (.int .u64 (r1 : Nat)) ∧ w'.cell? ⟨b, off + m1, none⟩ = some (.int .u64 (r0 : Nat)) ∧ w'.cell? ⟨bx, ox + m1, none⟩ = some (.int .u64 (e : Nat))) (go_keep) (fail)
  go_upto_if 18 with fail
  go_cut [6] from 18 to 37 (fun v wc => v = .int .u64 (q : Nat) ∧ Below w.heap.size w wc)
  case first =>
    by_cases hlt : r1 < e
    · have hli : (r1 : Int) < (e : Int) := by omega
      have hdv := fun W => div64_any r1 r0 e W HL.out.1 hlt HL.out.2.2
      have hqq : (r1 * 18446744073709551616 + r0) / e = q := by rw [← HRQ.out.2.2.2.1]; unfold trialQ; rw [if_pos hlt]
      obtain ⟨rr, hrr⟩ : ∃ r, (r1 * 18446744073709551616 + r0) % e = r := ⟨_, rfl⟩
      rw [hqq, hrr] at hdv
      have HDV := Lib.hid hdv
      have k1 : w.drew.cell? ⟨b, off + m2, none⟩ = some (.int .u64 (r1 : Nat)) := c1
      have k2 : w.drew.cell? ⟨b, off + m1, none⟩ = some (.int .u64 (r0 : Nat)) := c2
      have k3 : w.drew.cell? ⟨bx, ox + m1, none⟩ = some (.int .u64 (e : Nat)) := c3
      clear hdv hqq hrr hlt c1 c2 c3 c4
      go_wp2_with fail
      go_region_held3 (fun w' => w'.cell? ⟨b, off + m2, none⟩ = some (.int .u64 (r1 : Nat)) ∧ w'.cell? ⟨b, off + m1, none⟩ = some (.int .u64 (r0 : Nat)) ∧ w'.cell? ⟨bx, ox + m1, none⟩ = some (.int .u64 (e : Nat))) (go_keep)
        (first | (go_at_call 180; refine (HDV.out _).mono ?_; rintro e' w2 ⟨rfl, hb2⟩; have H2 := Lib.hid hb2; have g1 : w2.cell? ⟨b, off + m2, none⟩ = some (.int .u64 (r1 : Nat)) := (hb2.cell (p := ⟨b, off + m2, none⟩) hb).trans k1; have g2 : w2.cell? ⟨b, off + m1, none⟩ = some (.int .u64 (r0 : Nat)) := (hb2.cell (p := ⟨b, off + m1, none⟩) hb).trans k2; have g3 : w2.cell? ⟨bx, ox + m1, none⟩ = some (.int .u64 (e : Nat)) := (hb2.cell (p := ⟨bx, ox + m1, none⟩) hbx).trans k3; clear hb2))
      go_wp2_with fail
      go_meet
      exact ⟨rfl, ((Below.refl w.heap.size w).drew.drew).trans H2.out⟩
    · have hli : ¬ (r1 : Int) < (e : Int) := by omega
      have HQQ := Lib.hid (show q = 18446744073709551615 by rw [← HRQ.out.2.2.2.1]; unfold trialQ; rw [if_neg hlt])
      clear hlt
      go_wp2_with fail
      go_meet
      exact ⟨congrArg (Value.int .u64) (by rw [HQQ.out]; rfl), (Below.refl w.heap.size w).drew⟩
  case rest =>
    obtain ⟨rfl, bC⟩ := hcut
    have rC : Row wc b off ts := HR.out.1.below bC hb
    have xC : Row wc bx ox xs := HR.out.2.1.below bC hbx
    have HWC := Lib.hid (And.intro bC (And.intro rC xC))
    have k1 : wc.drew.cell? ⟨b, off + m2, none⟩ = some (.int .u64 (r1 : Nat)) := (bC.cell (p := ⟨b, off + m2, none⟩) hb).trans c1
    have k2 : wc.drew.frozen? ⟨b, off + m2, none⟩ = false := (bC.frozen (p := ⟨b, off + m2, none⟩) hb).trans c4
    have hsp := qd_sub b off ct bx ox cx q ts xs HR.out.2.2.1 HR.out.2.2.2 HTD.out.2 hbne (by have := HRQ.out; omega) (by have := HRQ.out; omega)
    rw [← HRQ.out.2.2.2.2.2.2.2.1] at hsp
    have HSP := Lib.hid hsp
    clear hsp rC xC bC c1 c2 c3 c4 i1 i5 i6 i2
    go_upto_region 5 with fail
    have HRX := Lib.hid (And.intro (show Row wc.drew b off ts from HWC.out.2.1) (show Row wc.drew bx ox xs from HWC.out.2.2))
    have HLEN := Lib.hid (show (ts.take m2).length = m2 by have := HRQ.out; rw [List.length_take]; omega)
    go_cut [] from 37 to 49 (fun wd => ∃ (ys : List Nat) (u : Nat), ys.length = m2 ∧ Ok ys ∧ u < 18446744073709551616 ∧ QI (18446744073709551616 ^ m2) (wv xs) (wv ts) q (wv ys) u ∧ Row wd b off (ys ++ [u]) ∧ Touch w wd b off m3)
    case first =>
      refine wp_region_noPanic ?_
      refine wp_region_held_drew (S := fun _ => True) (by kernel_rfl) (trivial) (fun hHeld => ?_)
      refine wpAnyH_take (i := 0) (v := ?vS0) (List.getElem?_toArray.trans rfl) (by kernel_rfl) (by kernel_rfl) (by kernel_rfl) (fun _ _ _ h => h) (Or.inl ⟨by rfl, ?hyS0⟩) (by assumption) ?_
      case hyS0 => (intro w9 hS9; (try dsimp only at hS9); go_simp; try with_reducible rfl)
      try simp only [Act.put, List.setIfInBounds_toArray, List.set_cons_zero, List.set_cons_succ]
      refine wpAnyH_take (i := 1) (v := ?vS1) (List.getElem?_toArray.trans rfl) (by kernel_rfl) (by kernel_rfl) (by kernel_rfl) (fun _ _ _ h => h) (Or.inl ⟨by rfl, ?hyS1⟩) (by assumption) ?_
      case hyS1 => (intro w9 hS9; (try dsimp only at hS9); go_simp; try with_reducible rfl)
      try simp only [Act.put, List.setIfInBounds_toArray, List.set_cons_zero, List.set_cons_succ]
      refine wpAnyH_take (i := 2) (v := ?vS2) (List.getElem?_toArray.trans rfl) (by kernel_rfl) (by kernel_rfl) (by kernel_rfl) (fun _ _ _ h => h) (Or.inl ⟨by rfl, ?hyS2⟩) (by assumption) ?_
      case hyS2 => (intro w9 hS9; (try dsimp only at hS9); go_simp; try with_reducible rfl)
      try simp only [Act.put, List.setIfInBounds_toArray, List.set_cons_zero, List.set_cons_succ]
      refine wpAnyH_take (i := 4) (v := ?vS4) (List.getElem?_toArray.trans rfl) (by kernel_rfl) (by kernel_rfl) (by kernel_rfl) (fun _ _ _ h => h) (Or.inl ⟨by rfl, ?hyS4⟩) (by assumption) ?_
      case hyS4 => (intro w9 hS9; (try dsimp only at hS9); go_simp; try with_reducible rfl)
      try simp only [Act.put, List.setIfInBounds_toArray, List.set_cons_zero, List.set_cons_succ]
      refine wpAnyH_take (i := 5) (v := ?vS5) (List.getElem?_toArray.trans rfl) (by kernel_rfl) (by kernel_rfl) (by kernel_rfl) (fun _ _ _ h => h) (Or.inl ⟨by rfl, ?hyS5⟩) (by assumption) ?_
      case hyS5 => (intro w9 hS9; (try dsimp only at hS9); go_simp; try with_reducible rfl)
      try simp only [Act.put, List.setIfInBounds_toArray, List.set_cons_zero, List.set_cons_succ]
      refine wpAnyH_take (i := 6) (v := ?vS6) (List.getElem?_toArray.trans rfl) (by kernel_rfl) (by kernel_rfl) (by kernel_rfl) (fun _ _ _ h => h) (Or.inl ⟨by rfl, ?hyS6⟩) (by assumption) ?_
      case hyS6 => (intro w9 hS9; (try dsimp only at hS9); go_simp; try with_reducible rfl)
      try simp only [Act.put, List.setIfInBounds_toArray, List.set_cons_zero, List.set_cons_succ]
      refine wpAnyH_take (i := 7) (v := ?vS7) (List.getElem?_toArray.trans rfl) (by kernel_rfl) (by kernel_rfl) (by kernel_rfl) (fun _ _ _ h => h) (Or.inl ⟨by rfl, ?hyS7⟩) (by assumption) ?_
      case hyS7 => (intro w9 hS9; (try dsimp only at hS9); go_simp; try with_reducible rfl)
      try simp only [Act.put, List.setIfInBounds_toArray, List.set_cons_zero, List.set_cons_succ]
      refine wpAnyH_take (i := 8) (v := ?vS8) (List.getElem?_toArray.trans rfl) (by kernel_rfl) (by kernel_rfl) (by kernel_rfl) (fun _ _ _ h => h) (Or.inl ⟨by rfl, ?hyS8⟩) (by assumption) ?_
      case hyS8 => (intro w9 hS9; (try dsimp only at hS9); go_simp; try with_reducible rfl)
      try simp only [Act.put, List.setIfInBounds_toArray, List.set_cons_zero, List.set_cons_succ]
      refine wpAnyH_ready (rs := [3, 9]) (by kernel_rfl) (by simp) ?_
      refine AllReadyH.cons rfl (fun K hK => ?_) (AllReadyH.cons rfl (fun K hK => ?_) AllReadyH.nil)
      · go_simp
        refine hK.out _ _ trivial (fun hHeld => ?_)
        clear hK K
        try simp only [Act.put, List.setIfInBounds_toArray, List.set_cons_zero, List.set_cons_succ]
        refine wpAnyH_ready (rs := [9]) (by kernel_rfl) (by simp) ?_
        refine AllReadyH.cons (List.getElem?_toArray.trans rfl) (fun K hK => ?_) AllReadyH.nil
        go_simp
        go_at_call 214
        refine (HSP.out _ HRX.out.1 HRX.out.2).mono ?_
        rintro e w2 ⟨ys, c, rfl, hcl, hyl, hoy, heq, hrow2, ht2⟩
        have g1 : w2.cell? ⟨b, off + m2, none⟩ = some (.int .u64 (r1 : Nat)) := (ht2.cell (off + m2) (by have := HLEN.out; omega)).trans k1
        have g2 : w2.frozen? ⟨b, off + m2, none⟩ = false := (ht2.frozen (off + m2)).trans k2
        obtain ⟨u, hu⟩ : ∃ u : Nat, IntKind.u64.wrap ((r1 : Int) - (c : Int)) = (u : Int) := ⟨(IntKind.u64.wrap ((r1 : Int) - (c : Int))).toNat, by rw [IntKind.wrap_u64]; omega⟩
        have H2 := Lib.hid (And.intro hcl (And.intro hyl (And.intro hoy (And.intro heq (And.intro hrow2 (And.intro ht2 (And.intro hu (And.intro g1 g2))))))))
        clear hcl hyl hoy heq hrow2 ht2
        clear hHeld
        go_simp
        refine hK.out _ _ trivial (fun hHeld => ?_)
        clear hK K
        try simp only [Act.put, List.setIfInBounds_toArray, List.set_cons_zero, List.set_cons_succ]
        refine wpAnyH_take (i := 10) (v := ?vSA10) (List.getElem?_toArray.trans rfl) (by kernel_rfl) (by kernel_rfl) (by kernel_rfl) (fun _ _ _ h => h) (Or.inl ⟨by rfl, ?hySA10⟩) (by assumption) ?_
        case hySA10 => (intro w9 hS9; (try dsimp only at hS9); go_simp; try with_reducible rfl)
        try simp only [Act.put, List.setIfInBounds_toArray, List.set_cons_zero, List.set_cons_succ]
        refine wpAnyH_take (i := 11) (v := ?vSA11) (List.getElem?_toArray.trans rfl) (by kernel_rfl) (by kernel_rfl) (by kernel_rfl) (fun _ _ _ h => h) (Or.inl ⟨by rfl, ?hySA11⟩) (by assumption) ?_
        case hySA11 => (intro w9 hS9; (try dsimp only at hS9); go_simp; try with_reducible rfl)
        try simp only [Act.put, List.setIfInBounds_toArray, List.set_cons_zero, List.set_cons_succ]
        refine wpAnyH_ready (rs := [12]) (by kernel_rfl) (by simp) ?_
        refine AllReadyH.cons rfl (fun K hK => ?_) AllReadyH.nil
        go_simp
        refine hK.out _ _ trivial (fun hHeld => ?_)
        clear hK K
        try simp only [Act.put, List.setIfInBounds_toArray, List.set_cons_zero, List.set_cons_succ]
        refine wpAnyH_done (by kernel_rfl) ?_ _
        refine NoPanic.normal ?_
        go_wp2_with fail
        go_meet
        obtain ⟨hcl, hyl, hoy, heq, hrow2, ht2, hu, g1, g2⟩ := H2.out
        have hlen := HLEN.out
        have hRQ := HRQ.out
        have hyl2 : ys.length = m2 := by omega
        have hyP := wv_lt ys hoy
        have hDP := wv_lt xs HR.out.2.2.2
        rw [hyl2] at hyP
        rw [← hRQ.2.2.2.2.2.2.2.1] at hDP
        rw [hlen] at heq
        have htopv := wv_top ts m2 (by omega)
        rw [show ts.getD m2 0 = r1 by rw [← hRQ.1, hRQ.2.2.2.2.2.2.2.1, hRQ.2.2.2.2.1]] at htopv
        refine ⟨ys, u, hyl2, hoy, ?_, QI.start hDP hyP heq htopv HTD.out.1.1 HTD.out.1.2 hu, row_snoc (v := .int .u64 _) hrow2 hyl2 g1 g2 rfl, ?_⟩
        · rw [IntKind.wrap_u64] at hu; omega
        · exact ((((Touch.refl w b off m3).below HWC.out.1.drew hb).trans (ht2.wider (Nat.le_refl _) (by omega)))).set (by omega) (by omega) _
      · go_simp
        go_at_call 214
        refine (HSP.out _ HRX.out.1 HRX.out.2).mono ?_
        rintro e w2 ⟨ys, c, rfl, hcl, hyl, hoy, heq, hrow2, ht2⟩
        have g1 : w2.cell? ⟨b, off + m2, none⟩ = some (.int .u64 (r1 : Nat)) := (ht2.cell (off + m2) (by have := HLEN.out; omega)).trans k1
        have g2 : w2.frozen? ⟨b, off + m2, none⟩ = false := (ht2.frozen (off + m2)).trans k2
        obtain ⟨u, hu⟩ : ∃ u : Nat, IntKind.u64.wrap ((r1 : Int) - (c : Int)) = (u : Int) := ⟨(IntKind.u64.wrap ((r1 : Int) - (c : Int))).toNat, by rw [IntKind.wrap_u64]; omega⟩
        have H2 := Lib.hid (And.intro hcl (And.intro hyl (And.intro hoy (And.intro heq (And.intro hrow2 (And.intro ht2 (And.intro hu (And.intro g1 g2))))))))
        clear hcl hyl hoy heq hrow2 ht2
        go_simp
        refine hK.out _ _ trivial (fun hHeld => ?_)
        clear hK K
        try simp only [Act.put, List.setIfInBounds_toArray, List.set_cons_zero, List.set_cons_succ]
        refine wpAnyH_ready (rs := [3]) (by kernel_rfl) (by simp) ?_
        refine AllReadyH.cons rfl (fun K hK => ?_) AllReadyH.nil
        go_simp
        refine hK.out _ _ trivial (fun hHeld => ?_)
        clear hK K
        try simp only [Act.put, List.setIfInBounds_toArray, List.set_cons_zero, List.set_cons_succ]
        refine wpAnyH_take (i := 10) (v := ?vSB10) (List.getElem?_toArray.trans rfl) (by kernel_rfl) (by kernel_rfl) (by kernel_rfl) (fun _ _ _ h => h) (Or.inl ⟨by rfl, ?hySB10⟩) (by assumption) ?_
        case hySB10 => (intro w9 hS9; (try dsimp only at hS9); go_simp; try with_reducible rfl)
        try simp only [Act.put, List.setIfInBounds_toArray, List.set_cons_zero, List.set_cons_succ]
        refine wpAnyH_take (i := 11) (v := ?vSB11) (List.getElem?_toArray.trans rfl) (by kernel_rfl) (by kernel_rfl) (by kernel_rfl) (fun _ _ _ h => h) (Or.inl ⟨by rfl, ?hySB11⟩) (by assumption) ?_
        case hySB11 => (intro w9 hS9; (try dsimp only at hS9); go_simp; try with_reducible rfl)
        try simp only [Act.put, List.setIfInBounds_toArray, List.set_cons_zero, List.set_cons_succ]
        refine wpAnyH_ready (rs := [12]) (by kernel_rfl) (by simp) ?_
        refine AllReadyH.cons rfl (fun K hK => ?_) AllReadyH.nil
        go_simp
        refine hK.out _ _ trivial (fun hHeld => ?_)
        clear hK K
        try simp only [Act.put, List.setIfInBounds_toArray, List.set_cons_zero, List.set_cons_succ]
        refine wpAnyH_done (by kernel_rfl) ?_ _
        refine NoPanic.normal ?_
        go_wp2_with fail
        go_meet
        obtain ⟨hcl, hyl, hoy, heq, hrow2, ht2, hu, g1, g2⟩ := H2.out
        have hlen := HLEN.out
        have hRQ := HRQ.out
        have hyl2 : ys.length = m2 := by omega
        have hyP := wv_lt ys hoy
        have hDP := wv_lt xs HR.out.2.2.2
        rw [hyl2] at hyP
        rw [← hRQ.2.2.2.2.2.2.2.1] at hDP
        rw [hlen] at heq
        have htopv := wv_top ts m2 (by omega)
        rw [show ts.getD m2 0 = r1 by rw [← hRQ.1, hRQ.2.2.2.2.2.2.2.1, hRQ.2.2.2.2.1]] at htopv
        refine ⟨ys, u, hyl2, hoy, ?_, QI.start hDP hyP heq htopv HTD.out.1.1 HTD.out.1.2 hu, row_snoc (v := .int .u64 _) hrow2 hyl2 g1 g2 rfl, ?_⟩
        · rw [IntKind.wrap_u64] at hu; omega
        · exact ((((Touch.refl w b off m3).below HWC.out.1.drew hb).trans (ht2.wider (Nat.le_refl _) (by omega)))).set (by omega) (by omega) _
    case rest =>
      obtain ⟨ys, u, hyl, hoy, hul, hqi, hrow, ht⟩ := hcut
      have HI := Lib.hid (And.intro hyl (And.intro hoy (And.intro hul (And.intro hqi (And.intro hrow ht)))))
      have hql := HTD.out.2
      clear hyl hoy hul hqi hrow ht k1 k2
      go_wp2_with fail
      go_loopw [6] (fun v wr => ∃ (d : Nat) (ys : List Nat) (u : Nat), d < 18446744073709551616 ∧ v = .int .u64 (d : Nat) ∧ ys.length = m2 ∧ Ok ys ∧ u < 18446744073709551616 ∧ QI (18446744073709551616 ^ m2) (wv xs) (wv ts) d (wv ys) u ∧ Row wr b off (ys ++ [u]) ∧ Touch w wr b off m3) (fun v _ => (intOf v).toNat)
      case atStart => exact ⟨q, ys, u, hql, rfl, HI.out⟩
      case round =>
        obtain ⟨d, ys, u, hdl, rfl, hyl, hoy, hul, hqi, hrow, ht⟩ := hrel
        have hck := hrow m2 (by rw [List.length_append]; simp; omega)
        rw [List.getD_eq_getElem?_getD, List.getElem?_append_right (by omega), hyl, Nat.sub_self] at hck
        have k1 : wr.cell? ⟨b, off + m2, none⟩ = some (.int .u64 (u : Nat)) := hck.1
        have HDL := Lib.hid hdl
        clear hck hql hdl
        by_cases hu0 : u = 0
        · subst hu0
          have HE := Lib.hid (And.intro hyl (And.intro hoy (And.intro hqi.done (And.intro hrow ht))))
          clear hul hqi hrow ht hyl hoy
          go_wp2_with fail
          go_ret
          exact ⟨d, ys, rfl, HDL.out, HE.out.2.2.1.1, HE.out.2.2.1.2, by have := HE.out.1; have := HRQ.out; omega, HE.out.2.1, HE.out.2.2.2.1, by have := HE.out.2.2.2.2; rwa [HRQ.out.2.2.2.2.2.2.2.2] at this⟩
        · have hyP := wv_lt ys hoy
          have hDP := wv_lt xs HR.out.2.2.2
          rw [hyl] at hyP
          rw [← HRQ.out.2.2.2.2.2.2.2.1] at hDP
          have hd0 : 0 < d := by
            refine Classical.byContradiction fun hn => ?_
            obtain rfl : d = 0 := by omega
            obtain ⟨k, _, hku, h1, _⟩ := hqi
            have : 18446744073709551616 ^ m2 * 1 ≤ 18446744073709551616 ^ m2 * k := Nat.mul_le_mul_left _ (by omega)
            rw [Nat.zero_mul] at h1
            omega
          have k2 : wr.frozen? ⟨b, off + m2, none⟩ = false := (hrow m2 (by rw [List.length_append]; simp; omega)).2
          have hxr : Row wr bx ox xs := HR.out.2.1.touch ht hbne
          have hap := qd_add b off ct bx ox cx ys xs hoy HR.out.2.2.2 hbne (by have := HRQ.out; omega) (by have := HRQ.out; omega)
          rw [← HRQ.out.2.2.2.2.2.2.2.1] at hap
          have HAP := Lib.hid hap
          have HQI := Lib.hid (And.intro hqi (And.intro hu0 (And.intro hDP hyP)))
          have HRR := Lib.hid (And.intro (show Row wr.drew b off ys from hrow.left) (And.intro (show Row wr.drew bx ox xs from hxr) (ht.below ((Below.refl wr.heap.size wr).drew) hb)))
          have HL2 := Lib.hid hyl
          have w1 : IntKind.u64.wrap ((d : Int) - 1) = ((d - 1 : Nat) : Int) := by rw [IntKind.wrap_u64]; have := HDL.out; omega
          have hne : ((u : Int) != 0) = true := by rw [bne_iff_ne]; omega
          clear hyl hoy hul hqi hrow ht hyP hDP hxr hap hu0
          go_upto_region 8 with fail
          refine wp_region_noPanic ?_
          refine wp_region_held_drew (S := fun _ => True) (by kernel_rfl) (trivial) (fun hHeld => ?_)
          refine wpAnyH_take (i := 0) (v := ?vT0) (List.getElem?_toArray.trans rfl) (by kernel_rfl) (by kernel_rfl) (by kernel_rfl) (fun _ _ _ h => h) (Or.inl ⟨by rfl, ?hyT0⟩) (by assumption) ?_
          case hyT0 => (intro w9 hS9; (try dsimp only at hS9); go_simp; try with_reducible rfl)
          try simp only [Act.put, List.setIfInBounds_toArray, List.set_cons_zero, List.set_cons_succ]
          refine wpAnyH_take (i := 1) (v := ?vT1) (List.getElem?_toArray.trans rfl) (by kernel_rfl) (by kernel_rfl) (by kernel_rfl) (fun _ _ _ h => h) (Or.inl ⟨by rfl, ?hyT1⟩) (by assumption) ?_
          case hyT1 => (intro w9 hS9; (try dsimp only at hS9); go_simp; try with_reducible rfl)
          try simp only [Act.put, List.setIfInBounds_toArray, List.set_cons_zero, List.set_cons_succ]
          refine wpAnyH_take (i := 2) (v := ?vT2) (List.getElem?_toArray.trans rfl) (by kernel_rfl) (by kernel_rfl) (by kernel_rfl) (fun _ _ _ h => h) (Or.inl ⟨by rfl, ?hyT2⟩) (by assumption) ?_
          case hyT2 => (intro w9 hS9; (try dsimp only at hS9); go_simp; try with_reducible rfl)
          try simp only [Act.put, List.setIfInBounds_toArray, List.set_cons_zero, List.set_cons_succ]
          refine wpAnyH_take (i := 4) (v := ?vT4) (List.getElem?_toArray.trans rfl) (by kernel_rfl) (by kernel_rfl) (by kernel_rfl) (fun _ _ _ h => h) (Or.inl ⟨by rfl, ?hyT4⟩) (by assumption) ?_
          case hyT4 => (intro w9 hS9; (try dsimp only at hS9); go_simp; try with_reducible rfl)
          try simp only [Act.put, List.setIfInBounds_toArray, List.set_cons_zero, List.set_cons_succ]
          refine wpAnyH_take (i := 5) (v := ?vT5) (List.getElem?_toArray.trans rfl) (by kernel_rfl) (by kernel_rfl) (by kernel_rfl) (fun _ _ _ h => h) (Or.inl ⟨by rfl, ?hyT5⟩) (by assumption) ?_
          case hyT5 => (intro w9 hS9; (try dsimp only at hS9); go_simp; try with_reducible rfl)
          try simp only [Act.put, List.setIfInBounds_toArray, List.set_cons_zero, List.set_cons_succ]
          refine wpAnyH_take (i := 6) (v := ?vT6) (List.getElem?_toArray.trans rfl) (by kernel_rfl) (by kernel_rfl) (by kernel_rfl) (fun _ _ _ h => h) (Or.inl ⟨by rfl, ?hyT6⟩) (by assumption) ?_
          case hyT6 => (intro w9 hS9; (try dsimp only at hS9); go_simp; try with_reducible rfl)
          try simp only [Act.put, List.setIfInBounds_toArray, List.set_cons_zero, List.set_cons_succ]
          refine wpAnyH_take (i := 7) (v := ?vT7) (List.getElem?_toArray.trans rfl) (by kernel_rfl) (by kernel_rfl) (by kernel_rfl) (fun _ _ _ h => h) (Or.inl ⟨by rfl, ?hyT7⟩) (by assumption) ?_
          case hyT7 => (intro w9 hS9; (try dsimp only at hS9); go_simp; try with_reducible rfl)
          try simp only [Act.put, List.setIfInBounds_toArray, List.set_cons_zero, List.set_cons_succ]
          refine wpAnyH_ready (rs := [3, 8]) (by kernel_rfl) (by simp) ?_
          refine AllReadyH.cons rfl (fun K hK => ?_) (AllReadyH.cons rfl (fun K hK => ?_) AllReadyH.nil)
          · go_simp
            refine hK.out _ _ trivial (fun hHeld => ?_)
            clear hK K
            try simp only [Act.put, List.setIfInBounds_toArray, List.set_cons_zero, List.set_cons_succ]
            refine wpAnyH_ready (rs := [8]) (by kernel_rfl) (by simp) ?_
            refine AllReadyH.cons (List.getElem?_toArray.trans rfl) (fun K hK => ?_) AllReadyH.nil
            go_simp
            go_at_call 179
            refine (HAP.out _ HRR.out.1 HRR.out.2.1).mono ?_
            rintro e w2 ⟨zs, c, rfl, hcl, hyl, hoy, heq, hrow2, ht2⟩
            have g1 : w2.cell? ⟨b, off + m2, none⟩ = some (.int .u64 (u : Nat)) := (ht2.cell (off + m2) (by have := HL2.out; omega)).trans k1
            have g2 : w2.frozen? ⟨b, off + m2, none⟩ = false := (ht2.frozen (off + m2)).trans k2
            obtain ⟨u', hu⟩ : ∃ u' : Nat, IntKind.u64.wrap ((u : Int) + (c : Int)) = (u' : Int) := ⟨(IntKind.u64.wrap ((u : Int) + (c : Int))).toNat, by rw [IntKind.wrap_u64]; omega⟩
            have H2 := Lib.hid (And.intro hcl (And.intro hyl (And.intro hoy (And.intro heq (And.intro hrow2 (And.intro ht2 (And.intro hu (And.intro g1 g2))))))))
            clear hcl hyl hoy heq hrow2 ht2
            clear hHeld
            go_simp
            refine hK.out _ _ trivial (fun hHeld => ?_)
            clear hK K
            try simp only [Act.put, List.setIfInBounds_toArray, List.set_cons_zero, List.set_cons_succ]
            refine wpAnyH_take (i := 9) (v := ?vTA9) (List.getElem?_toArray.trans rfl) (by kernel_rfl) (by kernel_rfl) (by kernel_rfl) (fun _ _ _ h => h) (Or.inl ⟨by rfl, ?hyTA9⟩) (by assumption) ?_
            case hyTA9 => (intro w9 hS9; (try dsimp only at hS9); go_simp; try with_reducible rfl)
            try simp only [Act.put, List.setIfInBounds_toArray, List.set_cons_zero, List.set_cons_succ]
            refine wpAnyH_take (i := 10) (v := ?vTA10) (List.getElem?_toArray.trans rfl) (by kernel_rfl) (by kernel_rfl) (by kernel_rfl) (fun _ _ _ h => h) (Or.inl ⟨by rfl, ?hyTA10⟩) (by assumption) ?_
            case hyTA10 => (intro w9 hS9; (try dsimp only at hS9); go_simp; try with_reducible rfl)
            try simp only [Act.put, List.setIfInBounds_toArray, List.set_cons_zero, List.set_cons_succ]
            refine wpAnyH_ready (rs := [11]) (by kernel_rfl) (by simp) ?_
            refine AllReadyH.cons rfl (fun K hK => ?_) AllReadyH.nil
            go_simp
            refine hK.out _ _ trivial (fun hHeld => ?_)
            clear hK K
            try simp only [Act.put, List.setIfInBounds_toArray, List.set_cons_zero, List.set_cons_succ]
            refine wpAnyH_done (by kernel_rfl) ?_ _
            refine NoPanic.normal ?_
            go_wp2_with fail
            go_roundw
            case rel =>
              obtain ⟨hcl, hyl, hoy, heq, hrow2, ht2, hu, g1, g2⟩ := H2.out
              have hl2 := HL2.out
              have hyl2 : zs.length = m2 := by omega
              have hzP := wv_lt zs hoy
              rw [hyl2] at hzP
              rw [hl2, Nat.one_mul] at heq
              obtain ⟨_, hq2⟩ := QI.step HQI.out.1 HQI.out.2.1 HQI.out.2.2.1 HQI.out.2.2.2 heq hzP hu
              refine ⟨d - 1, zs, u', by have := HDL.out; omega, rfl, hyl2, hoy, ?_, hq2, row_snoc (v := .int .u64 _) hrow2 hyl2 g1 g2 rfl, ?_⟩
              · rw [IntKind.wrap_u64] at hu; omega
              · exact (HRR.out.2.2.trans (ht2.wider (Nat.le_refl _) (by omega))).set (by omega) (by omega) _
            case measure => simp [intOf]; omega
          · go_simp
            go_at_call 179
            refine (HAP.out _ HRR.out.1 HRR.out.2.1).mono ?_
            rintro e w2 ⟨zs, c, rfl, hcl, hyl, hoy, heq, hrow2, ht2⟩
            have g1 : w2.cell? ⟨b, off + m2, none⟩ = some (.int .u64 (u : Nat)) := (ht2.cell (off + m2) (by have := HL2.out; omega)).trans k1
            have g2 : w2.frozen? ⟨b, off + m2, none⟩ = false := (ht2.frozen (off + m2)).trans k2
            obtain ⟨u', hu⟩ : ∃ u' : Nat, IntKind.u64.wrap ((u : Int) + (c : Int)) = (u' : Int) := ⟨(IntKind.u64.wrap ((u : Int) + (c : Int))).toNat, by rw [IntKind.wrap_u64]; omega⟩
            have H2 := Lib.hid (And.intro hcl (And.intro hyl (And.intro hoy (And.intro heq (And.intro hrow2 (And.intro ht2 (And.intro hu (And.intro g1 g2))))))))
            clear hcl hyl hoy heq hrow2 ht2
            go_simp
            refine hK.out _ _ trivial (fun hHeld => ?_)
            clear hK K
            try simp only [Act.put, List.setIfInBounds_toArray, List.set_cons_zero, List.set_cons_succ]
            refine wpAnyH_ready (rs := [3]) (by kernel_rfl) (by simp) ?_
            refine AllReadyH.cons rfl (fun K hK => ?_) AllReadyH.nil
            go_simp
            refine hK.out _ _ trivial (fun hHeld => ?_)
            clear hK K
            try simp only [Act.put, List.setIfInBounds_toArray, List.set_cons_zero, List.set_cons_succ]
            refine wpAnyH_take (i := 9) (v := ?vTB9) (List.getElem?_toArray.trans rfl) (by kernel_rfl) (by kernel_rfl) (by kernel_rfl) (fun _ _ _ h => h) (Or.inl ⟨by rfl, ?hyTB9⟩) (by assumption) ?_
            case hyTB9 => (intro w9 hS9; (try dsimp only at hS9); go_simp; try with_reducible rfl)
            try simp only [Act.put, List.setIfInBounds_toArray, List.set_cons_zero, List.set_cons_succ]
            refine wpAnyH_take (i := 10) (v := ?vTB10) (List.getElem?_toArray.trans rfl) (by kernel_rfl) (by kernel_rfl) (by kernel_rfl) (fun _ _ _ h => h) (Or.inl ⟨by rfl, ?hyTB10⟩) (by assumption) ?_
            case hyTB10 => (intro w9 hS9; (try dsimp only at hS9); go_simp; try with_reducible rfl)
            try simp only [Act.put, List.setIfInBounds_toArray, List.set_cons_zero, List.set_cons_succ]
            refine wpAnyH_ready (rs := [11]) (by kernel_rfl) (by simp) ?_
            refine AllReadyH.cons rfl (fun K hK => ?_) AllReadyH.nil
            go_simp
            refine hK.out _ _ trivial (fun hHeld => ?_)
            clear hK K
            try simp only [Act.put, List.setIfInBounds_toArray, List.set_cons_zero, List.set_cons_succ]
            refine wpAnyH_done (by kernel_rfl) ?_ _
            refine NoPanic.normal ?_
            go_wp2_with fail
            go_roundw
            case rel =>
              obtain ⟨hcl, hyl, hoy, heq, hrow2, ht2, hu, g1, g2⟩ := H2.out
              have hl2 := HL2.out
              have hyl2 : zs.length = m2 := by omega
              have hzP := wv_lt zs hoy
              rw [hyl2] at hzP
              rw [hl2, Nat.one_mul] at heq
              obtain ⟨_, hq2⟩ := QI.step HQI.out.1 HQI.out.2.1 HQI.out.2.2.1 HQI.out.2.2.2 heq hzP hu
              refine ⟨d - 1, zs, u', by have := HDL.out; omega, rfl, hyl2, hoy, ?_, hq2, row_snoc (v := .int .u64 _) hrow2 hyl2 g1 g2 rfl, ?_⟩
              · rw [IntKind.wrap_u64] at hu; omega
              · exact (HRR.out.2.2.trans (ht2.wider (Nat.le_refl _) (by omega))).set (by omega) (by omega) _
            case measure => simp [intOf]; omega
end Go.Proofs.YtpdhffjdgnpikaaGreatDoor

namespace Go.Proofs.YtpdhffjdgnpikaaGreatDoor
open Go.RowKit Go.Shelf

theorem wv_drop_div (xs : List Nat) (hox : Ok xs) (k : Nat) (hk : k ≤ xs.length) : wv (xs.drop k) = wv xs / 18446744073709551616 ^ k := by
  have e : wv xs = wv (xs.take k ++ xs.drop k) := by rw [List.take_append_drop]
  have h1 := wv_lt (xs.take k) (hox.take k)
  rw [wv_append, List.length_take, Nat.min_eq_left hk] at e
  rw [List.length_take, Nat.min_eq_left hk] at h1
  rw [e, Nat.add_mul_div_left _ _ (Nat.lt_of_le_of_lt (Nat.zero_le _) h1), Nat.div_eq_of_lt h1, Nat.zero_add]
theorem shr_drop (xs : List Nat) (hox : Ok xs) (n wd s : Nat) (hn : n = 64 * wd + s) (hk : wd ≤ xs.length) : wv xs / 2 ^ n = wv (xs.drop wd) / 2 ^ s := by
  rw [wv_drop_div xs hox wd hk, Nat.div_div_eq_div_mul, hn, Nat.pow_add, pow64]

/-- One digit more, shifted. -/
theorem shr_step (pre : List Nat) (t d s lo hi k : Nat) (ys : List Nat) (hk : k + 1 < ys.length) (hd : d = ys.getD (k + 1) 0) (hpre : pre.length = k) (hs : s < 64)
    (hv : wv (pre ++ [t]) = wv (ys.take (k + 1)) / 2 ^ s) (hlh : d * 2 ^ (64 - s) = lo + 18446744073709551616 * hi) :
    wv (pre ++ [t + lo, hi]) = wv (ys.take (k + 1 + 1)) / 2 ^ s := by
  rw [wv_append] at hv ⊢
  have e1 : wv [t] = t := by simp [wv]
  have e2 : wv [t + lo, hi] = t + (lo + 18446744073709551616 * hi) := by simp [wv]; omega
  rw [e1] at hv
  rw [e2, wv_take_succ ys (k + 1) hk, ← hd, ← hlh, Nat.mul_add, ← Nat.add_assoc, hv, hpre]
  have e3 : 18446744073709551616 ^ (k + 1) * d = 2 ^ s * (18446744073709551616 ^ k * (d * 2 ^ (64 - s))) := by
    rw [Nat.pow_succ, show (18446744073709551616 ^ k * 18446744073709551616) = 18446744073709551616 ^ k * (2 ^ s * 2 ^ (64 - s)) by rw [← Nat.pow_add, show s + (64 - s) = 64 by omega]]
    simp only [Nat.mul_assoc, Nat.mul_comm, Nat.mul_left_comm]
  rw [e3, Nat.add_mul_div_left _ _ (Nat.two_pow_pos s)]

theorem shr_set (pre zs : List Nat) (t d a b i : Nat) (hi : pre.length = i) : (((pre ++ [t]) ++ d :: zs).set (i + 1) b).set i a = ((pre ++ [a]) ++ [b]) ++ zs := by
  subst hi
  rw [List.append_assoc, List.set_append_right _ _ (by omega), List.set_append_right _ _ (by omega), Nat.sub_self, show pre.length + 1 - pre.length = 1 by omega]
  simp

/-- What stands in the first k words. -/
def SI (s : Nat) (ys R : List Nat) (k : Nat) : Prop := R.length = k ∧ Ok R ∧ wv R = wv (ys.take k) / 2 ^ s ∧ ∀ pre t, R = pre ++ [t] → t < 2 ^ (64 - s)
theorem SI.first {s d hi : Nat} {ys : List Nat} (h0 : 0 < ys.length) (hd : d = ys.getD 0 0) (hdw : d < 18446744073709551616) (hs : s < 64) (hh : hi = d / 2 ^ s) : SI s ys [hi] 1 := by
  have e64 : (18446744073709551616 : Nat) = 2 ^ s * 2 ^ (64 - s) := by rw [← Nat.pow_add, show s + (64 - s) = 64 by omega]
  have hl : hi < 2 ^ (64 - s) := by rw [hh]; exact Nat.div_lt_of_lt_mul (by rw [← e64]; exact hdw)
  refine ⟨rfl, Ok.nil.cons (by rw [hh]; exact Nat.lt_of_le_of_lt (Nat.div_le_self _ _) hdw), ?_, ?_⟩
  · rw [wv_take_succ ys 0 h0, ← hd, hh]; simp [wv]
  · intro pre t h
    cases pre with
    | nil => simp at h; rw [← h]; exact hl
    | cons a l => simp at h
theorem SI.next {s d lo hi t t2 j : Nat} {ys pre : List Nat} (h : SI s ys (pre ++ [t]) (j + 1)) (hk : j + 1 < ys.length) (hd : d = ys.getD (j + 1) 0) (hdw : d < 18446744073709551616) (hs : s < 64) (hh : hi = d / 2 ^ s)
    (hlo : lo = d * 2 ^ (64 - s) % 18446744073709551616) (ht2 : t2 = t + lo) (ht2w : t2 < 18446744073709551616) : SI s ys ((pre ++ [t2]) ++ [hi]) (j + 1 + 1) := by
  obtain ⟨h1, h2, h3, h4⟩ := h
  have e64 : (18446744073709551616 : Nat) = 2 ^ s * 2 ^ (64 - s) := by rw [← Nat.pow_add, show s + (64 - s) = 64 by omega]
  have hl : hi < 2 ^ (64 - s) := by rw [hh]; exact Nat.div_lt_of_lt_mul (by rw [← e64]; exact hdw)
  have hhi : hi = d * 2 ^ (64 - s) / 18446744073709551616 := by rw [hh, e64, Nat.mul_div_mul_right _ _ (Nat.two_pow_pos _)]
  have hpl : pre.length = j := by simpa using h1
  refine ⟨by simp [hpl], ?_, ?_, ?_⟩
  · have hop : Ok pre := fun x hx => h2 x (List.mem_append_left _ hx)
    exact (hop.append (Ok.nil.cons ht2w)).append (Ok.nil.cons (by rw [hh]; exact Nat.lt_of_le_of_lt (Nat.div_le_self _ _) hdw))
  · rw [ht2, List.append_assoc]
    exact shr_step pre t d s lo hi j ys hk hd hpl hs h3 (by rw [hlo, hhi]; have := Nat.div_add_mod (d * 2 ^ (64 - s)) 18446744073709551616; omega)
  · intro pre' t' h
    have := List.append_inj_right' h rfl
    simp at this
    rw [← this]; exact hl

set_option maxHeartbeats 2000000 in
set_option maxRecDepth 100000 in
theorem shiftRight_any (p : Option Addr) (cx n : Nat) (xs : List Nat) (w : World) (hx : Nt w p xs) (hox : Ok xs) (hl : xs.length ≤ 524288) (hcx : xs.length ≤ cx) (hn : n ≤ 67108864) :
    Calls Tryz.prog 184 #[.slice p xs.length cx, .int .i64 n] w (NtRes w (wv xs / 2 ^ n)) := by
  obtain ⟨wd, hwd⟩ : ∃ wd, wd = n / 64 := ⟨_, rfl⟩
  obtain ⟨s, hs⟩ : ∃ s, s = n % 64 := ⟨_, rfl⟩
  have hns : n = 64 * wd + s := by omega
  have hs64 : s < 64 := by omega
  have F1 : (n : Int) / 64 = (wd : Int) := by omega
  have F2 : (n : Int) % 64 = (s : Int) := by omega
  have HX := Lib.hid hx
  have hwb : wd ≤ 1048576 := by omega
  by_cases hge : xs.length ≤ wd
  · have hz : wv xs / 2 ^ n = 0 := by
      have h1 := wv_lt xs hox
      rw [pow64] at h1
      refine Nat.div_eq_of_lt (Nat.lt_of_lt_of_le h1 (Nat.pow_le_pow_right (by omega) (by omega)))
    have HZ := Lib.hid hz
    have F3 : (xs.length : Int) ≤ (wd : Int) := by omega
    clear hx hz hns hs hwd hge
    go_enter Tryz.func184, Tryz.ntmps184
    go_wp2_with fail
    go_ret
    rw [HZ.out]
    exact ⟨none, 0, (by rw [nw_zero]; rfl), (by rw [nw_zero]; exact Nat.le_refl _), .inl (by rw [nw_zero]), Below.refl _ _⟩
  · have F3 : ¬ (xs.length : Int) ≤ (wd : Int) := by omega
    obtain ⟨ys, hys⟩ : ∃ ys, xs.drop wd = ys := ⟨_, rfl⟩
    obtain ⟨m, hm⟩ : ∃ m, ys.length = m := ⟨_, rfl⟩
    have hmx : m = xs.length - wd := by rw [← hm, ← hys, List.length_drop]
    have hoy : Ok ys := by rw [← hys]; exact hox.drop wd
    have hval : wv xs / 2 ^ n = wv ys / 2 ^ s := by rw [← hys]; exact shr_drop xs hox n wd s hns (by omega)
    have htl := tail_run p xs.length cx wd (by omega)
    rw [← hmx] at htl
    have hrow : ∃ b off, dropP p cx wd = some ⟨b, off, none⟩ ∧ Row w b off ys := by
      rcases hx.tail hcx (k := wd) (by omega) with h | ⟨b, off, h1, h2⟩
      · rw [hys] at h; rw [h] at hm; simp at hm; omega
      · rw [hys] at h2; exact ⟨b, off, h1, h2⟩
    obtain ⟨b0, off0, hdp, hrow⟩ := hrow
    rw [hdp] at htl
    have hcl := clone_any b0 off0 (cx - wd) ys w hrow (by omega) (by omega)
    rw [hm] at hcl
    have HCL := Lib.hid hcl
    have HY := Lib.hid (And.intro hm (And.intro hoy hval))
    have hm0 : 0 < m := by omega
    have hmb : m ≤ 524288 := by omega
    clear hx hns hs hwd hge hys hmx hoy hval hdp hrow hcl hm
    go_enter Tryz.func184, Tryz.ntmps184
    go_wp2_with fail
    refine HCL.out.mono ?_
    rintro e w1 ⟨g, cap, rfl, hcap, hmax, hrow, hg, hgl, hbel⟩
    have HR0 := Lib.hid (And.intro hrow (And.intro hg (And.intro hgl (And.intro hbel (And.intro hcap hmax)))))
    have hcap2 : m ≤ cap := hcap
    clear hrow hg hbel hcap hmax
    unfold maxLen at *
    go_wp2_with fail
    go_loopw [24] (fun i wr => ∃ (k : Nat) (R : List Nat), k ≤ m ∧ i = .int .i64 k ∧ SI s ys R k ∧ Row wr g 0 (R ++ ys.drop k) ∧ Below w.heap.size w wr) (fun i _ => m - (intOf i).toNat)
    case atStart => exact ⟨0, [], Nat.zero_le _, rfl, ⟨rfl, Ok.nil, by simp [wv], fun pre t h => by simp at h⟩, HR0.out.1, HR0.out.2.2.2.1⟩
    case round =>
      obtain ⟨k, R, hk, rfl, hsi, hrow, hb⟩ := hrel
      by_cases hlt : k < m
      · obtain ⟨d, hd⟩ : ∃ d, d = ys.getD k 0 := ⟨_, rfl⟩
        have hdw : d < 18446744073709551616 := by rw [hd]; exact HY.out.2.1.getD k
        have hym := HY.out.1
        have hRl := hsi.1
        have hck := hrow k (by rw [List.length_append, List.length_drop]; omega)
        have hdk : (R ++ ys.drop k).getD k 0 = d := by
          rw [List.getD_eq_getElem?_getD, List.getElem?_append_right (by omega), hRl, Nat.sub_self, List.getElem?_drop, Nat.add_zero, hd, List.getD_eq_getElem?_getD]
        rw [hdk, Nat.zero_add] at hck
        obtain ⟨c1, c2⟩ := hck
        obtain ⟨hi, hhi⟩ : ∃ hi, hi = d / 2 ^ s := ⟨_, rfl⟩
        have G2 : (d : Int) / 2 ^ s = (hi : Int) := by rw [hhi, show (2 : Int) ^ s = ((2 ^ s : Nat) : Int) by rw [Int.natCast_pow]; rfl]; rfl
        have hdrop : ys.drop k = d :: ys.drop (k + 1) := by rw [List.drop_eq_getElem_cons (by omega), hd, List.getD_eq_getElem?_getD, List.getElem?_eq_getElem (by omega)]; rfl
        rcases Nat.eq_zero_or_pos k with hk0 | hk0
        · subst hk0
          have hR : R = [] := List.eq_nil_of_length_eq_zero hRl
          subst hR
          have hfin := SI.first (s := s) (hi := hi) (ys := ys) (d := d) (by omega) hd hdw hs64 hhi
          have HF := Lib.hid (And.intro hfin (And.intro hrow (And.intro hb hdrop)))
          clear hfin hrow hb hdrop hsi hd hdw hym hRl hdk hhi
          go_wp2_with fail
          go_roundw
          case rel =>
            refine ⟨1, [hi], by omega, by go_num, HF.out.1, ?_, HF.out.2.2.1.setCell HR0.out.2.1 _⟩
            have h := HF.out.2.1.set 0 hi (by rw [List.nil_append, HF.out.2.2.2]; simp)
            rw [List.nil_append, HF.out.2.2.2] at h
            exact h
          case measure => simp [intOf]; omega
        · obtain ⟨j, hj⟩ : ∃ j, k = j + 1 := ⟨k - 1, by omega⟩
          obtain ⟨pre, t, hR⟩ : ∃ pre t, R = pre ++ [t] := ⟨R.dropLast, R.getLast (by intro h; rw [h] at hRl; simp at hRl; omega), (List.dropLast_concat_getLast _).symm⟩
          have hpl : pre.length = j := by rw [hR] at hRl; simp at hRl; omega
          have htl := hsi.2.2.2 pre t hR
          obtain ⟨lo, hlo⟩ : ∃ lo, lo = d * 2 ^ (64 - s) % 18446744073709551616 := ⟨_, rfl⟩
          obtain ⟨t2, ht2⟩ : ∃ t2, t2 = t + lo := ⟨_, rfl⟩
          have e64 : (18446744073709551616 : Nat) = 2 ^ (64 - s) * 2 ^ s := by rw [← Nat.pow_add, show 64 - s + s = 64 by omega]
          have hdvd : lo % 2 ^ (64 - s) = 0 := by rw [hlo, Nat.mod_mod_of_dvd _ (by rw [e64]; exact Nat.dvd_mul_right _ _)]; exact Nat.mul_mod_left _ _
          have hlow : lo < 18446744073709551616 := by rw [hlo]; exact Nat.mod_lt _ (by omega)
          have htw : t < 18446744073709551616 := Nat.lt_of_lt_of_le htl (by rw [e64]; exact Nat.le_mul_of_pos_right _ (Nat.two_pow_pos s))
          have G1 : IntKind.u64.wrap ((d : Int) * 2 ^ (64 - s)) = (lo : Int) := by rw [show (2 : Int) ^ (64 - s) = ((2 ^ (64 - s) : Nat) : Int) by rw [Int.natCast_pow]; rfl, ← Int.natCast_mul, Mul64.wrapM, ← hlo]
          have G3 : bits .or .u64 (t : Int) (lo : Int) = (t2 : Int) := by rw [u64_or_nat t lo htw hlow, Nat.or_comm, nat_join (64 - s) lo t hdvd htl, Nat.add_comm, ← ht2]
          have ht2w : t2 < 18446744073709551616 := by
            have := nat_join (64 - s) lo t hdvd htl
            have h2 : lo ||| t < 2 ^ 64 := Nat.or_lt_two_pow hlow htw
            rw [ht2]; omega
          have c3 := hrow j (by rw [List.length_append, List.length_drop]; omega)
          rw [Nat.zero_add, List.getD_eq_getElem?_getD, List.getElem?_append_left (by omega), hR, List.getElem?_append_right (by omega), hpl, Nat.sub_self] at c3
          obtain ⟨c3, c4⟩ := c3
          have c3' : wr.cell? ⟨g, j, none⟩ = some (.int .u64 (t : Nat)) := c3
          have hfin := SI.next (s := s) (lo := lo) (hi := hi) (t2 := t2) (d := d) (by rw [← hR, ← hj]; exact hsi) (by omega) (by rw [← hj]; exact hd) hdw hs64 hhi hlo ht2 ht2w
          have i1 : (k : Int) - 1 = (j : Int) := by omega
          have i2 : (j : Int) < (m : Int) := by omega
          have i3 : (0 : Int) < (k : Int) := by omega
          have i4 : IntKind.i64.wrap (j : Int) = (j : Int) := by apply IntWalk.i64_in <;> omega
          have i5 : ¬ (j = k) := by omega
          have i6 : ¬ (k = j) := by omega
          have i7 : 64 - (s : Int) = ((64 - s : Nat) : Int) := by omega
          have HF := Lib.hid (And.intro hfin (And.intro hrow (And.intro hb (And.intro hdrop (And.intro hj (And.intro hR hpl))))))
          clear hfin hrow hb hdrop hsi hd hdw hym hRl hdk hhi hlo ht2 e64 hdvd hlow htw ht2w c3 htl hj hR hpl hk0
          go_wp2_with fail
          go_region
          all_goals go_wp2_with fail
          obtain ⟨hfin, hrow, hb, hdrop, hj, hR, hpl⟩ := HF.out
          refine ⟨⟨k + 1, (pre ++ [t2]) ++ [hi], by omega, by go_num, by rw [hj]; exact hfin, ?_, ((hb.setCell HR0.out.2.1 _).setCell HR0.out.2.1 _).drew⟩, ?_⟩
          · rw [hR, hdrop] at hrow
            have h1 := hrow.set k hi (by rw [List.length_append, List.length_append, hpl]; simp; omega)
            have h2 := h1.set j t2 (by rw [List.length_set, List.length_append, List.length_append, hpl]; simp; omega)
            rw [hj, shr_set pre (ys.drop (j + 1 + 1)) t d t2 hi j hpl, Nat.zero_add, Nat.zero_add] at h2
            rw [hj]
            exact h2
          · simp [intOf]; omega
      · have hkm : k = m := by omega
        subst hkm
        have hym := HY.out.1
        have hrow2 : Row wr g 0 R := by
          have := hrow
          rw [← hym, List.drop_length, List.append_nil] at this
          exact this
        have htr := trim_any (some ⟨g, 0, none⟩) R cap wr (.inr ⟨_, _, rfl, hrow2⟩) (by have := hsi.1; omega) (by have := hsi.1; omega) (by have := HR0.out.2.2.2.2.2; exact this)
        rw [hsi.1] at htr
        have HTR := Lib.hid htr
        have HE := Lib.hid (And.intro hsi (And.intro hrow2 hb))
        clear hrow hrow2 hsi htr hb hym
        go_wp2_with fail
        refine HTR.out.mono ?_
        rintro e w2 ⟨rfl, rfl⟩
        go_wp2_with fail
        go_ret
        obtain ⟨⟨h1, h2, h3, h4⟩, hrow, hb⟩ := HE.out
        have hv : wv R = wv xs / 2 ^ n := by rw [h3, HY.out.2.2, List.take_of_length_le (by rw [HY.out.1]; exact Nat.le_refl _)]
        have hnr := natRes_trim (w := w) (cap := cap) h2 hrow (by omega) (by have := HR0.out.2.2.2.2.2; exact this) HR0.out.2.1 hb
        rw [hv] at hnr
        obtain ⟨g', cap', e1, e2, e3, e4, e5, e6⟩ := hnr
        exact ⟨_, _, e1, e2, .inr ⟨_, _, rfl, e4⟩, e6⟩
end Go.Proofs.YtpdhffjdgnpikaaGreatDoor

namespace Go.Proofs.YtpdhffjdgnpikaaGreatDoor

theorem wv_drop_split (xs : List Nat) (k : Nat) (hk : k ≤ xs.length) : wv xs = wv (xs.take k) + 18446744073709551616 ^ k * wv (xs.drop k) := by
  have e : wv xs = wv (xs.take k ++ xs.drop k) := by rw [List.take_append_drop]
  rw [wv_append, List.length_take, Nat.min_eq_left hk] at e
  exact e

/-- What holds ahead of the digit number j - 1: the digits qs are found, and rs is left. -/
def LI (XS D lx lq j : Nat) (rs qs : List Nat) : Prop :=
  rs.length = lx + 1 ∧ Ok rs ∧ Ok qs ∧ j + qs.length = lq ∧ XS = wv qs * (18446744073709551616 ^ j * D) + wv rs ∧ wv rs < 18446744073709551616 ^ j * D

theorem LI.drop {XS D lx lq j : Nat} {rs qs : List Nat} (h : LI XS D lx lq j rs qs) (hj : j ≤ lx) : wv (rs.drop j) < D := by
  obtain ⟨h1, h2, h3, h4, h5, h6⟩ := h
  have e := wv_drop_split rs j (by omega)
  refine Nat.lt_of_mul_lt_mul_left (a := 18446744073709551616 ^ j) ?_
  omega
/-- The words that quotientDigit gets. -/
theorem LI.sub {XS D lx lq j ly : Nat} {rs qs : List Nat} (h : LI XS D lx lq (j + 1) rs qs) (hD : D < 18446744073709551616 ^ ly) (hj : j + ly ≤ lx) (hly : 0 < ly) :
    ((rs.drop j).take (ly + 1)).length = ly + 1 ∧ Ok ((rs.drop j).take (ly + 1)) ∧ wv ((rs.drop j).take (ly + 1)) < D * 18446744073709551616 ∧
      wv (rs.drop j) = wv ((rs.drop j).take (ly + 1)) ∧ wv (rs.drop (j + ly + 1)) = 0 := by
  have hd := h.drop (by omega)
  obtain ⟨h1, h2, h3, h4, h5, h6⟩ := h
  have e1 : rs.drop j = rs.getD j 0 :: rs.drop (j + 1) := by
    rw [List.drop_eq_getElem_cons (by omega), List.getD_eq_getElem?_getD, List.getElem?_eq_getElem (by omega)]; rfl
  have e2 := wv_drop_split (rs.drop (j + 1)) ly (by rw [List.length_drop]; omega)
  rw [List.drop_drop] at e2
  have e3 : wv (rs.drop (j + 1 + ly)) = 0 := by
    refine Classical.byContradiction fun hn => ?_
    have : 18446744073709551616 ^ ly * 1 ≤ 18446744073709551616 ^ ly * wv (rs.drop (j + 1 + ly)) := Nat.mul_le_mul_left _ (by omega)
    omega
  rw [e3, Nat.mul_zero] at e2
  have e2 : wv (rs.drop (j + 1)) = wv ((rs.drop (j + 1)).take ly) := e2
  have e4 : (rs.drop j).take (ly + 1) = rs.getD j 0 :: (rs.drop (j + 1)).take ly := by rw [e1, List.take_succ_cons]
  have hw := h2.getD j
  refine ⟨by rw [List.length_take, List.length_drop]; omega, (h2.drop j).take _, ?_, ?_, by rw [show j + ly + 1 = j + 1 + ly by omega]; exact e3⟩
  · rw [e4, wv, ← e2]
    have : 18446744073709551616 * (wv (rs.drop (j + 1)) + 1) ≤ 18446744073709551616 * D := Nat.mul_le_mul_left _ hd
    omega
  · rw [e4, wv, ← e2, e1, wv]
/-- One digit more. -/
theorem LI.next {XS D lx lq j ly d : Nat} {rs qs zs : List Nat} (h : LI XS D lx lq (j + 1) rs qs) (hD : D < 18446744073709551616 ^ ly) (hj : j + ly ≤ lx) (hly : 0 < ly) (hd : d < 18446744073709551616)
    (hz : zs.length = ly) (hoz : Ok zs) (he : d * D + wv zs = wv ((rs.drop j).take (ly + 1))) (hlt : wv zs < D) : LI XS D lx lq j ((rs.take j ++ (zs ++ [0])) ++ rs.drop (j + ly + 1)) (d :: qs) := by
  obtain ⟨s1, s2, s3, s4, s5⟩ := h.sub hD hj hly
  obtain ⟨h1, h2, h3, h4, h5, h6⟩ := h
  have e := wv_drop_split rs j (by omega)
  have hv : wv ((rs.take j ++ (zs ++ [0])) ++ rs.drop (j + ly + 1)) = wv (rs.take j) + 18446744073709551616 ^ j * wv zs := by
    rw [wv_append, s5, Nat.mul_zero, Nat.add_zero, wv_append, wv_snoc, Nat.mul_zero, Nat.add_zero, List.length_take, Nat.min_eq_left (by omega)]
  have ht := wv_lt (rs.take j) (h2.take j)
  rw [List.length_take, Nat.min_eq_left (by omega)] at ht
  refine ⟨?_, ?_, Ok.cons hd h3, by rw [List.length_cons]; omega, ?_, ?_⟩
  · simp only [List.length_append, List.length_take, List.length_drop, List.length_cons, List.length_nil]
    omega
  · exact ((h2.take j).append (hoz.append (Ok.nil.cons (by decide)))).append (h2.drop _)
  · rw [hv, h5, e, s4, ← he, wv, Nat.pow_succ, Nat.mul_add, Nat.add_mul]
    have a1 : wv qs * (18446744073709551616 ^ j * 18446744073709551616 * D) = 18446744073709551616 * wv qs * (18446744073709551616 ^ j * D) := by
      simp only [Nat.mul_assoc, Nat.mul_comm, Nat.mul_left_comm]
    have a2 : 18446744073709551616 ^ j * (d * D) = d * (18446744073709551616 ^ j * D) := Nat.mul_left_comm _ _ _
    rw [a1, a2]
    omega
  · rw [hv]
    have : 18446744073709551616 ^ j * (wv zs + 1) ≤ 18446744073709551616 ^ j * D := Nat.mul_le_mul_left _ hlt
    rw [Nat.mul_add, Nat.mul_one] at this
    omega
theorem LI.start {X Y s lx ly : Nat} {rs : List Nat} (hl : rs.length = lx + 1) (ho : Ok rs) (hv : wv rs = X * 2 ^ s) (hX : X < 18446744073709551616 ^ lx) (hY : 18446744073709551616 ^ (ly - 1) ≤ Y) (hly : 0 < ly) (hle : ly ≤ lx) :
    LI (X * 2 ^ s) (Y * 2 ^ s) lx (lx - ly + 1) (lx - ly + 1) rs [] := by
  refine ⟨hl, ho, Ok.nil, rfl, by simp [wv, hv], ?_⟩
  rw [hv, ← Nat.mul_assoc]
  refine Nat.mul_lt_mul_of_pos_right ?_ (Nat.two_pow_pos s)
  refine Nat.lt_of_lt_of_le hX ?_
  rw [show lx = lx - ly + 1 + (ly - 1) by omega, Nat.pow_add, show lx - ly + 1 + (ly - 1) - ly + 1 = lx - ly + 1 by omega]
  exact Nat.mul_le_mul_left _ hY
theorem LI.done {X Y s lx lq : Nat} {rs qs : List Nat} (h : LI (X * 2 ^ s) (Y * 2 ^ s) lx lq 0 rs qs) (hY : 0 < Y) : wv qs = X / Y ∧ wv rs / 2 ^ s = X % Y ∧ qs.length = lq := by
  obtain ⟨h1, h2, h3, h4, h5, h6⟩ := h
  rw [Nat.pow_zero, Nat.one_mul] at h5 h6
  have hp := Nat.two_pow_pos s
  have hdvd : wv rs % 2 ^ s = 0 := by
    have := congrArg (· % 2 ^ s) h5
    simp only [Nat.mul_mod_left, ← Nat.mul_assoc] at this
    rw [Nat.mul_add_mod_self_right] at this
    exact this.symm
  obtain ⟨r, hr⟩ : ∃ r, wv rs = r * 2 ^ s := ⟨wv rs / 2 ^ s, by have := Nat.div_add_mod (wv rs) (2 ^ s); rw [hdvd, Nat.add_zero, Nat.mul_comm] at this; exact this.symm⟩
  rw [hr] at h5 h6 ⊢
  rw [← Nat.mul_assoc, ← Nat.add_mul] at h5
  have h7 := Nat.eq_of_mul_eq_mul_right hp h5
  have h8 := Nat.lt_of_mul_lt_mul_right h6
  rw [Nat.mul_div_cancel _ hp]
  refine ⟨?_, ?_, by omega⟩
  · rw [h7, Nat.mul_comm, Nat.mul_add_div hY, Nat.div_eq_of_lt h8, Nat.add_zero]
  · rw [h7, Nat.mul_comm, Nat.mul_add_mod, Nat.mod_eq_of_lt h8]
end Go.Proofs.YtpdhffjdgnpikaaGreatDoor

namespace Go.Proofs.YtpdhffjdgnpikaaGreatDoor
open Go.RowKit Go.Shelf
attribute [local go_sem] Oper.semAt_some

theorem nw_two {n : Nat} (hn : 18446744073709551616 ≤ n) : 2 ≤ (nw n).length := by
  refine Classical.byContradiction fun hc => ?_
  have h1 := wv_lt (nw n) (nw_ok n)
  rw [wv_nw] at h1
  have : 18446744073709551616 ^ (nw n).length ≤ 18446744073709551616 ^ 1 := Nat.pow_le_pow_right (by omega) (by omega)
  omega
theorem nw_length_mono {m n : Nat} (h : n ≤ m) : (nw n).length ≤ (nw m).length := by
  refine Classical.byContradiction fun hc => ?_
  have := nw_length_lt (show (nw m).length < (nw n).length by omega)
  omega
/-- The highest word of a number is not 0. -/
theorem nw_top {n : Nat} (hn : n ≠ 0) : 18446744073709551616 ^ ((nw n).length - 1) ≤ n := by
  refine Classical.byContradiction fun hc => ?_
  have h1 := nw_length_le ((nw n).length - 1) n (by omega)
  have h2 : 0 < (nw n).length := List.length_pos_iff.2 (fun h => hn ((nw_eq_nil n).1 h))
  omega

/-- A divisor that is shifted till its highest bit is set is no longer. -/
theorem norm_len {n s l : Nat} (hl : (nw n).length = l) (h0 : 0 < l) (hs : s ≤ 63) (h : (nw n).getD (l - 1) 0 * 2 ^ s < 18446744073709551616) : (nw (n * 2 ^ s)).length = l := by
  have e := wv_top (nw n) (l - 1) (by omega)
  rw [wv_nw] at e
  have h1 := wv_lt ((nw n).take (l - 1)) ((nw_ok n).take _)
  rw [List.length_take, hl, Nat.min_eq_left (by omega)] at h1
  generalize (nw n).getD (l - 1) 0 = t at *
  have hp := Nat.two_pow_pos s
  have e64 : (18446744073709551616 : Nat) = 2 ^ (64 - s) * 2 ^ s := by rw [← Nat.pow_add, show 64 - s + s = 64 by omega]
  have ht : t < 2 ^ (64 - s) := by
    rw [e64] at h
    exact Nat.lt_of_mul_lt_mul_right h
  have a2 : (t + 1) * 2 ^ s ≤ 18446744073709551616 := by
    rw [e64]; exact Nat.mul_le_mul_right _ ht
  have a1 : n + 1 ≤ (t + 1) * 18446744073709551616 ^ (l - 1) := by
    rw [Nat.add_mul, Nat.one_mul]; omega
  have hup : n * 2 ^ s < 18446744073709551616 ^ l := by
    have b1 : (n + 1) * 2 ^ s ≤ (t + 1) * 18446744073709551616 ^ (l - 1) * 2 ^ s := Nat.mul_le_mul_right _ a1
    have b2 : (t + 1) * 18446744073709551616 ^ (l - 1) * 2 ^ s ≤ 18446744073709551616 * 18446744073709551616 ^ (l - 1) := by
      rw [Nat.mul_right_comm]
      exact Nat.mul_le_mul_right _ a2
    have b3 : 18446744073709551616 * 18446744073709551616 ^ (l - 1) = 18446744073709551616 ^ l := by
      rw [Nat.mul_comm, ← Nat.pow_succ, show (l - 1).succ = l by omega]
    rw [Nat.add_mul, Nat.one_mul] at b1
    omega
  have c1 := nw_length_le l _ hup
  have c2 := nw_length_mono (show n ≤ n * 2 ^ s from Nat.le_mul_of_pos_right _ hp)
  omega

/-- The highest word of the divisor, when it is shifted. -/
theorem norm_top {n s l : Nat} (hl : (nw n).length = l) (h0 : 0 < l) (hl2 : (nw (n * 2 ^ s)).length = l) (h : 9223372036854775808 ≤ (nw n).getD (l - 1) 0 * 2 ^ s) : 9223372036854775808 ≤ (nw (n * 2 ^ s)).getD (l - 1) 0 := by
  have e := wv_top (nw n) (l - 1) (by omega)
  have e' := wv_top (nw (n * 2 ^ s)) (l - 1) (by omega)
  rw [wv_nw] at e e'
  have h1 := wv_lt ((nw (n * 2 ^ s)).take (l - 1)) ((nw_ok _).take _)
  rw [List.length_take, hl2, Nat.min_eq_left (by omega)] at h1
  generalize (nw n).getD (l - 1) 0 = t at *
  generalize (nw (n * 2 ^ s)).getD (l - 1) 0 = u at *
  refine Classical.byContradiction fun hc => ?_
  have a1 : (u + 1) * 18446744073709551616 ^ (l - 1) ≤ 9223372036854775808 * 18446744073709551616 ^ (l - 1) := Nat.mul_le_mul_right _ (by omega)
  have a2 : 9223372036854775808 * 18446744073709551616 ^ (l - 1) ≤ t * 2 ^ s * 18446744073709551616 ^ (l - 1) := Nat.mul_le_mul_right _ h
  have a3 : t * 2 ^ s * 18446744073709551616 ^ (l - 1) ≤ n * 2 ^ s := by
    rw [Nat.mul_right_comm]
    exact Nat.mul_le_mul_right _ (by omega)
  rw [Nat.add_mul, Nat.one_mul] at a1
  omega
theorem keepsFrom_touch {X Y : World} {b off n B : Nat} (h : Touch X Y b off n) (hb : b < B) : KeepsFrom B X Y := ⟨h.grown.size, fun k _ hk hi _ => (h.grown.block k (Array.getElem?_eq_some_iff.1 hi).1 (fun e => by cases e; omega)).trans hi⟩
theorem slice_mid (b n cap j k : Nat) (hj : j < k) (hk : k ≤ cap) (W : World) :
    (Instr.slice 90 (.slice (some ⟨b, 0, none⟩) n cap) (some (.int .i64 (j : Int))) (some (.int .i64 (k : Int))) none).run Tryz.prog W = .ok (.slice (some ⟨b, j, none⟩) (k - j) (cap - j)) W := by
  have ht : Tryz.prog.underlying 90 = some (.slice 85) := Tryz.underlying90
  have ht' : Tryz.prog.underlying 90 = some (.slice (Tryz.prog.elem 90)) := by simp [Program.elem, ht]
  have he : Tryz.prog.elem 90 = 85 := by simp [Program.elem, ht]
  rw [run_slice_lh W 90 _ _ _ ht' .i64 .i64 _ _ (by omega) (by omega) (by omega), he, size_u64]
  have hne : ¬ cap = j := by omega
  simp [Result.andThen, sliced, hne, Addr.add_lit]

theorem Row.alloc {w : World} {b off : Nat} {xs : List Nat} (h : Row w b off xs) (O : Obj) : Row (w.alloc O) b off xs := by
  intro j hj
  have hb := h.lt (by omega)
  exact Row.below h ((Below.refl w.heap.size w).alloc (Nat.le_refl _) O) hb j hj
theorem Row.drew {w : World} {b off : Nat} {xs : List Nat} (h : Row w b off xs) : Row w.drew b off xs := h
/-- shiftLeft by less than a word, at a known number. -/
theorem shl_known (p : Option Addr) (cx l m s : Nat) (W0 : World) (hx : Nt W0 p (nw m)) (hl : (nw m).length = l) (hb : l ≤ 262144) (hs : s ≤ 63) (W : World) (hW : Below W0.heap.size W0 W) :
    Calls Tryz.prog 182 #[.slice p l cx, .int .i64 s] W fun e w' =>
      ∃ (g : Nat) (rs : List Nat), e = .returned (.slice (some ⟨g, 0, none⟩) (l + 1) (l + 1)) ∧ (rs.length = l + 1 ∧ Ok rs ∧ wv rs = m * 2 ^ s) ∧ Row w' g 0 rs ∧ W.heap.size ≤ g ∧ g < w'.heap.size ∧ Below W.heap.size W w' := by
  subst hl
  refine (shiftLeft_any p cx s (nw m) W (hx.below hW) (nw_ok m) (by omega) (by omega)).mono ?_
  rintro e w' ⟨g, c, rs, rfl, h1, h2, h3, h4, h5, h6, h7, h8⟩
  have hc : c = (nw m).length + 1 := by rw [h2, Nat.div_eq_of_lt (by omega)]; omega
  rw [hc] at h1 ⊢
  rw [wv_nw] at h4
  exact ⟨g, rs, rfl, ⟨h1, h3, h4⟩, h5, h6, h7, h8⟩

set_option maxHeartbeats 4000000 in
set_option maxRecDepth 100000 in
theorem longDivide_any (p q : Option Addr) (cx cy m n : Nat) (w : World) (hx : Nt w p (nw m)) (hy : Nt w q (nw n)) (hn : 18446744073709551616 ≤ n) (hle : n ≤ m) (hl : (nw m).length ≤ 262144) :
    Calls Tryz.prog 156 #[.slice p (nw m).length cx, .slice q (nw n).length cy] w (DivRes w m n) := by
  have hly2 := nw_two hn
  have hlyx := nw_length_mono hle
  rcases hy with hy0 | ⟨by', oy, rfl, hyr⟩
  · rw [hy0] at hly2; simp at hly2
  obtain ⟨lx, hlx⟩ : ∃ l, (nw m).length = l := ⟨_, rfl⟩
  obtain ⟨ly, hly⟩ : ∃ l, (nw n).length = l := ⟨_, rfl⟩
  rw [hlx, hly]
  rw [hlx] at hl hlyx
  rw [hly] at hly2 hlyx
  obtain ⟨tw, htw⟩ : ∃ t, (nw n).getD (ly - 1) 0 = t := ⟨_, rfl⟩
  obtain ⟨l1, hl1⟩ : ∃ l, l = ly - 1 := ⟨_, rfl⟩
  have htop := nw_top (show n ≠ 0 by omega)
  rw [hly] at htop
  have htb : tw < 18446744073709551616 := by rw [← htw]; exact (nw_ok n).getD _
  have htw0 : 0 < tw := by
    refine Classical.byContradiction fun hc => ?_
    have e := wv_top (nw n) (ly - 1) (by omega)
    rw [htw, wv_nw] at e
    have := wv_lt ((nw n).take (ly - 1)) ((nw_ok n).take _)
    rw [List.length_take, hly, Nat.min_eq_left (by omega)] at this
    rw [show tw = 0 by omega, Nat.zero_mul] at e
    omega
  obtain ⟨s, hs63, hs1, hs2, hlz⟩ := lz_ex tw htw0 htb
  have HLZ := Lib.hid hlz
  have hcell : w.cell? ⟨by', oy + l1, none⟩ = some (.int .u64 (tw : Nat)) := by rw [← htw, hl1]; exact (hyr (ly - 1) (by omega)).1
  have hblt := hyr.lt (by omega)
  have i1 : (ly : Int) - 1 = (l1 : Int) := by omega
  have i2 : (l1 : Int) < (ly : Int) := by omega
  have i3 : IntKind.i64.wrap (l1 : Int) = (l1 : Int) := by apply IntWalk.i64_in <;> omega
  have HX := Lib.hid (And.intro hx (And.intro hyr (And.intro hlx (And.intro hly hl1))))
  have HS := Lib.hid (And.intro hs1 (And.intro hs2 (And.intro htw (And.intro htop (And.intro htw0 htb)))))
  have HN := Lib.hid (And.intro hn hle)
  clear hx hyr hlx hly hl1 hs1 hs2 htw htop htw0 htb hlz hn hle
  refine (callsIn_wide (n := 4)).1 ?_
  refine callsIn_of_wp_marks Tryz.func156 rfl trivial ?_ rfl
  simp only [Tryz.ntmps156, List.size_toArray, List.length_cons, List.length_nil, Nat.reduceAdd, Nat.reduceSub, Array.replicate_succ, Array.replicate_zero, List.push_toArray, List.append_toArray, List.nil_append, List.cons_append]
  gi_wp2_with (refine ⟨trivial, ?_⟩; gi_at_call 181; refine (callsIn_wide.2 (HLZ.out _)).mono ?_; rintro e w' ⟨rfl, rfl⟩)
  refine wpIn_wide.2 ?_
  obtain ⟨w0, hw0⟩ : ∃ V, w.alloc (Obj.cells #[Value.slice (some ⟨by', oy, none⟩) ly cy] 90) = V := ⟨_, rfl⟩
  obtain ⟨B0, hB0⟩ : ∃ B, w.heap.size = B := ⟨_, rfl⟩
  have bx0 : Box B0 (.slice (some ⟨by', oy, none⟩) ly cy) w0 := by rw [← hw0, ← hB0]; exact box_new w _ _
  have bw0 : Below w.heap.size w w0 := by rw [← hw0]; exact (Below.refl _ _).alloc (Nat.le_refl _) _
  have hsz0 : w0.heap.size = B0 + 1 := by rw [← hw0, ← hB0]; simp
  rw [hw0, hB0]
  have hNX : Nt w0 p (nw m) := HX.out.1.below bw0
  have hNY : Nt w0 (some ⟨by', oy, none⟩) (nw n) := .inr ⟨_, _, rfl, HX.out.2.1.below bw0 hblt⟩
  have SLX := Lib.hid (shl_known p cx lx m s w0 hNX HX.out.2.2.1 hl hs63)
  have SLY := Lib.hid (shl_known (some ⟨by', oy, none⟩) cy ly n s w0 hNY HX.out.2.2.2.1 (by omega) hs63)
  have hDl : (nw (n * 2 ^ s)).length = ly := norm_len HX.out.2.2.2.1 (by omega) hs63 (by rw [HS.out.2.2.1]; exact HS.out.2.1)
  have htrm : ∀ (W : World) (g : Nat) (rs : List Nat), (rs.length = ly + 1 ∧ Ok rs ∧ wv rs = n * 2 ^ s) → Row W g 0 rs → Calls Tryz.prog 143 #[.slice (some ⟨g, 0, none⟩) (ly + 1) (ly + 1)] W fun e w' => e = .returned (.slice (some ⟨g, 0, none⟩) ly (ly + 1)) ∧ W = w' := by
    rintro W g rs ⟨h1, h2, h3⟩ hr
    have h := trim_any (some ⟨g, 0, none⟩) rs (ly + 1) W (.inr ⟨_, _, rfl, hr⟩) (by omega) (by omega) (by unfold maxLen; omega)
    rw [h1, trimW_length rs h2, h3, hDl] at h
    exact h
  have TRM := Lib.hid htrm
  have HB := Lib.hid (And.intro bw0 (And.intro bx0 (And.intro hsz0 hDl)))
  have kb := bx0.1
  have hB0' : B0 < w0.heap.size := by omega
  clear hw0 hB0 bw0 hsz0 hNX hNY hDl htrm bx0
  go_cut [7, 8] from 18 to 25 (fun p' q' wc => ∃ (B1 B2 gr gd : Nat) (rs ds : List Nat), p' = .pointer (some ⟨B1, 0, none⟩) ∧ q' = .pointer (some ⟨B2, 0, none⟩) ∧ (Box B1 (.slice (some ⟨gr, 0, none⟩) (lx + 1) (lx + 1)) wc ∧ Box B2 (.slice (some ⟨gd, 0, none⟩) ly (ly + 1)) wc) ∧ (rs.length = lx + 1 ∧ Ok rs ∧ wv rs = m * 2 ^ s) ∧ (ds.length = ly + 1 ∧ Ok ds ∧ wv ds = n * 2 ^ s) ∧ Row wc gr 0 rs ∧ Row wc gd 0 ds ∧ (B1 ≠ B2 ∧ B1 ≠ gr ∧ B1 ≠ gd ∧ B2 ≠ gr ∧ B2 ≠ gd ∧ gr ≠ gd ∧ w0.heap.size ≤ B1 ∧ w0.heap.size ≤ B2 ∧ w0.heap.size ≤ gr ∧ w0.heap.size ≤ gd) ∧ Below w0.heap.size w0 wc)
  case first =>
    have D0 := Lib.hid ((Below.refl w0.heap.size w0).drew)
    have hz0 : w0.heap.size ≤ w0.drew.heap.size := Nat.le_refl _
    have tok1 : True := trivial
    have tok2 : True := trivial
    have tok3 : True := trivial
    go_region_held3 (fun w' => ∀ (a o : Nat), a < w0.heap.size → w'.cell? ⟨a, o, none⟩ = w0.cell? ⟨a, o, none⟩) (repeat' (first | with_reducible assumption | with_reducible exact keepS_refl _ | with_reducible (refine keepS_drew ?_) | with_reducible (refine keepS_alloc ?_ ?_) | with_reducible (refine keepS_set ?_ ?_) | go_size))
      (first | (go_at_call 182; have _t := tok1; clear tok1; refine (SLX.out _ (by have Dp := D0.out; go_grown)).mono ?_; rintro e u1 ⟨ga, ra, rfl, la, R1, ga1, ga2, d1⟩; have LA := Lib.hid la; have D1 := Lib.hid (show Below w0.heap.size w0 u1 from Below.trans (by have Dp := D0.out; go_grown) (d1.mono (by go_size))); have kS1 : ∀ (a o : Nat), a < w0.heap.size → u1.cell? ⟨a, o, none⟩ = w0.cell? ⟨a, o, none⟩ := fun a o h => D1.out.cell (p := ⟨a, o, none⟩) h; have hz1 : w0.heap.size ≤ u1.heap.size := D1.out.size; (try (have q10 := carry_two d1 (w0.heap.size) (by first | omega | (simp only [World.size_alloc, World.size_drew]; omega)); obtain ⟨⟨f100, f101⟩, ⟨g100, g101⟩, t10, n10, s10⟩ := q10)); (try (have q11 := carry_two d1 (w0.heap.size + 1) (by first | omega | (simp only [World.size_alloc, World.size_drew]; omega)); obtain ⟨⟨f110, f111⟩, ⟨g110, g111⟩, t11, n11, s11⟩ := q11)); have e1s := d1.size; clear d1 la) | (go_at_call 182; have _t := tok2; clear tok2; refine (SLY.out _ (by have Dp := D1.out; go_grown)).mono ?_; rintro e u2 ⟨gb, rb, rfl, lb, R2, gb1, gb2, d2⟩; have LB := Lib.hid lb; have R12 : Row u2 ga 0 ra := Row.below (by repeat' (first | with_reducible assumption | with_reducible (refine Row.alloc ?_ _) | with_reducible (refine Row.drew ?_))) d2 (by first | omega | (simp only [World.size_alloc]; omega)); have D2 := Lib.hid (show Below w0.heap.size w0 u2 from Below.trans (by have Dp := D1.out; go_grown) (d2.mono (by go_size))); have kS2 : ∀ (a o : Nat), a < w0.heap.size → u2.cell? ⟨a, o, none⟩ = w0.cell? ⟨a, o, none⟩ := fun a o h => D2.out.cell (p := ⟨a, o, none⟩) h; have hz2 : w0.heap.size ≤ u2.heap.size := D2.out.size; (try (have q20 := carry_two d2 (w0.heap.size) (by first | omega | (simp only [World.size_alloc]; omega)); obtain ⟨⟨f200, f201⟩, ⟨g200, g201⟩, t20, n20, s20⟩ := q20)); (try (have q21 := carry_two d2 (w0.heap.size + 1) (by first | omega | (simp only [World.size_alloc]; omega)); obtain ⟨⟨f210, f211⟩, ⟨g210, g211⟩, t21, n21, s21⟩ := q21)); (try (have q22 := carry_two d2 (u1.heap.size) (by first | omega | (simp only [World.size_alloc]; omega)); obtain ⟨⟨f220, f221⟩, ⟨g220, g221⟩, t22, n22, s22⟩ := q22)); (try (have q23 := carry_two d2 (u1.heap.size + 1) (by first | omega | (simp only [World.size_alloc]; omega)); obtain ⟨⟨f230, f231⟩, ⟨g230, g231⟩, t23, n23, s23⟩ := q23)); have e2s := d2.size; clear d2 lb) | (go_at_call 143; have _t := tok3; clear tok3; refine (TRM.out _ _ _ LB.out (by repeat' (first | with_reducible assumption | with_reducible (refine Row.alloc ?_ _) | with_reducible (refine Row.drew ?_)))).mono ?_; rintro e u3 ⟨rfl, rfl⟩))
    all_goals (go_wp2_with fail; go_meet)
    all_goals (try simp only [World.size_alloc, World.size_drew] at ga1); (try simp only [World.size_alloc] at gb1); (try simp only [World.size_alloc, World.size_drew] at e1s); (try simp only [World.size_alloc] at e2s)
    all_goals exact ⟨_, _, ga, gb, ra, rb, rfl, rfl, ⟨⟨(by first | (simp; done) | (simp [go_sem, *]; done)), (by first | (simp; done) | (simp [go_sem, *]; done))⟩, ⟨(by first | (simp; done) | (simp [go_sem, *]; done)), (by first | (simp; done) | (simp [go_sem, *]; done))⟩⟩, LA.out, LB.out, (by repeat' (first | with_reducible assumption | with_reducible (refine Row.alloc ?_ _) | (refine Row.other ?_ (by omega)))), (by repeat' (first | with_reducible assumption | with_reducible (refine Row.alloc ?_ _) | (refine Row.other ?_ (by omega)))), ⟨by omega, by omega, by omega, by omega, by omega, by omega, by omega, by omega, by omega, by omega⟩, (by have Dp := D2.out; go_grown)⟩
  case rest =>
    obtain ⟨B1, B2, gr, gd, rs, ds, rfl, rfl, ⟨bx1, bx2⟩, hrs, hds, rowr, rowd, hne, bC⟩ := hcut
    obtain ⟨lq, hlq⟩ : ∃ l, lx - ly + 1 = l := ⟨_, rfl⟩
    have hdv : ds.take ly = nw (n * 2 ^ s) := by
      have h := take_trimW ds hds.2.1
      rw [trimW_length ds hds.2.1, hds.2.2, HB.out.2.2.2] at h
      exact h
    have rowd2 : Row wc gd 0 (nw (n * 2 ^ s)) := by rw [← hdv]; exact rowd.take ly
    have hli := LI.start (X := m) (Y := n) (s := s) (lx := lx) (ly := ly) hrs.1 hrs.2.1 hrs.2.2 (by have := wv_lt (nw m) (nw_ok m); rw [wv_nw, HX.out.2.2.1] at this; exact this) HS.out.2.2.2.1 (by omega) hlyx
    rw [hlq] at hli
    have bxy : Box B0 (.slice (some ⟨by', oy, none⟩) ly cy) wc := HB.out.2.1.below bC hB0'
    have hmk := make_full lq (by omega)
    have i4 : (lx : Int) - (ly : Int) + 1 = (lq : Int) := by omega
    have HC := Lib.hid (And.intro bxy (And.intro bx1 (And.intro bx2 (And.intro rowr (And.intro rowd2 (And.intro hne (And.intro bC hli)))))))
    have k0 := bxy.1
    have l0 := bxy.lt
    have hB0s : B0 < wc.heap.size := l0
    clear hdv rowd2 rowd rowr hli bxy bx1 bx2 hrs hds hne bC kb i1 i2 i3 hcell
    go_wp2_with fail
    gi_wp2_with (refine ⟨trivial, ?_⟩; gi_at_call 170; refine (callsIn_wide.2 (backN_make _ _ _ _)).mono ?_; rintro e w' ⟨rfl, rfl⟩)
    obtain ⟨gq, hgq⟩ : ∃ g, wc.heap.size = g := ⟨_, rfl⟩
    obtain ⟨B3, hB3⟩ : ∃ g, wc.heap.size + 1 = g := ⟨_, rfl⟩
    obtain ⟨B4, hB4⟩ : ∃ g, wc.heap.size + 1 + 1 = g := ⟨_, rfl⟩
    obtain ⟨W0, hW0⟩ : ∃ W0, ((wc.alloc (Obj.cells (zerosU lq) 85)).alloc (Obj.cells #[Value.slice (some ⟨wc.heap.size, 0, none⟩) lq lq] 90)).alloc (Obj.cells #[Value.slice (some ⟨wc.heap.size, 0, none⟩) lq lq] 90) = W0 := ⟨_, rfl⟩
    have hz0 : W0.heap.size = wc.heap.size + 1 + 1 + 1 := by rw [← hW0]; simp
    have bW0 : Below wc.heap.size wc W0 := by rw [← hW0]; exact (((Below.refl _ wc).alloc (Nat.le_refl _) _).alloc (by simp) _).alloc (by simp; omega) _
    have rq : Row W0 gq 0 (List.replicate lq 0) := by
      rw [← hW0, ← hgq]
      exact (row_zeros wc lq 85).alloc _ |>.alloc _
    have b3 : Box B3 (.slice (some ⟨gq, 0, none⟩) lq lq) W0 := by
      rw [← hW0, ← hgq, ← hB3]
      have h := box_new (wc.alloc (Obj.cells (zerosU lq) 85)) (.slice (some ⟨wc.heap.size, 0, none⟩) lq lq) 90
      rw [World.size_alloc] at h
      exact h.below (B0 := wc.heap.size + 1 + 1) ((Below.refl _ _).alloc (by simp) _) (by omega)
    have b4 : Box B4 (.slice (some ⟨gq, 0, none⟩) lq lq) W0 := by
      rw [← hW0, ← hgq, ← hB4]
      have h := box_new ((wc.alloc (Obj.cells (zerosU lq) 85)).alloc (Obj.cells #[Value.slice (some ⟨wc.heap.size, 0, none⟩) lq lq] 90)) (.slice (some ⟨wc.heap.size, 0, none⟩) lq lq) 90
      rw [World.size_alloc, World.size_alloc] at h
      exact h
    obtain ⟨bxy, bx1, bx2, rowr, rowd, hne, bC, hli⟩ := HC.out
    have hbw := HB.out.1.trans (bC.mono (by have := HB.out.2.2.1; have := HB.out.1.size; omega))
    have hsz0 := HB.out.2.2.1
    have lr := rowr.lt (by have := hli.1; omega)
    have ld := rowd.lt (by rw [HB.out.2.2.2]; omega)
    have lb1 := bx1.lt
    have lb2 := bx2.lt
    have hww : Below w.heap.size w W0 := hbw.trans (bW0.mono hbw.size)
    have hw00 := HB.out.1.size
    have hin : Box B0 (.slice (some ⟨by', oy, none⟩) ly cy) W0 ∧ Box B1 (.slice (some ⟨gr, 0, none⟩) (lx + 1) (lx + 1)) W0 ∧ Box B2 (.slice (some ⟨gd, 0, none⟩) ly (ly + 1)) W0 ∧ Row W0 gr 0 rs ∧ Row W0 gd 0 (nw (n * 2 ^ s)) :=
      ⟨bxy.below bW0 l0, bx1.below bW0 lb1, bx2.below bW0 lb2, rowr.below bW0 lr, rowd.below bW0 ld⟩
    have HNE := Lib.hid hne
    have HIN := Lib.hid (And.intro hin (And.intro b3 (And.intro b4 (And.intro rq (And.intro hww hli)))))
    have hB3' : gq + 1 = B3 := by omega
    have hB4' : gq + 1 + 1 = B4 := by omega
    rw [hW0, hgq, hB4', hB3']
    clear hW0 rq b3 b4 bxy bx1 bx2 rowr rowd bC hli hin bW0 hww hbw k0
    refine wide_back (N := lq) (xv := fun _ => 0) rfl (enters_of Tryz.func201 (by kernel_rfl) rfl) rfl
      (backN_seq _ B4 (some ⟨gq, 0, none⟩) lq lq (fun _ => 0) (by omega)) (fun o o' => ?st)
      (fun j W => (Box B0 (.slice (some ⟨by', oy, none⟩) ly cy) W ∧ Box B1 (.slice (some ⟨gr, 0, none⟩) (lx + 1) (lx + 1)) W ∧ Box B2 (.slice (some ⟨gd, 0, none⟩) ly (ly + 1)) W ∧ Box B3 (.slice (some ⟨gq, 0, none⟩) lq lq) W ∧ Box B4 (.slice (some ⟨gq, 0, none⟩) lq lq) W) ∧ Row W gd 0 (nw (n * 2 ^ s)) ∧ (Below w.heap.size w W ∧ W0.heap.size ≤ W.heap.size) ∧ ∃ (rs qs : List Nat), LI (m * 2 ^ s) (n * 2 ^ s) lx lq j rs qs ∧ Row W gr 0 rs ∧ Row W gq 0 (List.replicate j 0 ++ qs))
      (fun _ => False) ?hI ?hIR ?h0 ?hRd ?a1 ?assign ?body ?done ?stop
    case st =>
      have := HIN.out.2.2.1
      exact ((this.below (B0 := W0.heap.size) (((Below.refl _ W0).alloc (Nat.le_refl _) _).alloc (by simp) _) (by omega))).1
    case hI =>
      intro s' A B row hs hgr hr
      obtain ⟨⟨h0, h1, h2, h3, h4⟩, h5, h6, rs', qs', h7, h8, h9⟩ := hs
      have hr' : ∀ r, row = some r → ∃ o : Obj, A.heap[r]? = some o ∧ o.isCells = false := fun r e => (hr r e).2
      exact ⟨⟨h0.kept hgr hr', h1.kept hgr hr', h2.kept hgr hr', h3.kept hgr hr', h4.kept hgr hr'⟩, h5.kept hgr hr', ownFrom_belowW w W0.heap.size w.heap.size (by omega) s' A B row h6 hgr hr, rs', qs', h7, h8.kept hgr hr', h9.kept hgr hr'⟩
    case hIR => intro s' A B row hs hgr hr; exact hs
    case h0 =>
      obtain ⟨⟨h0, h1, h2, h3, h4⟩, h5, h6, h7, h8, h9⟩ := HIN.out
      exact ⟨⟨h0, h1, h2, h5, h6⟩, h4, ⟨h8, Nat.le_refl _⟩, rs, [], h9, h3, by rw [List.append_nil]; exact h7⟩
    case hRd =>
      intro j W hj hs
      obtain ⟨⟨h0, h1, h2, h3, h4⟩, h5, h6, rs', qs', h7, h8, h9⟩ := hs
      have hc := (h9 j (by rw [List.length_append, List.length_replicate]; omega)).1
      rw [List.getD_eq_getElem?_getD, List.getElem?_append_left (by rw [List.length_replicate]; omega), List.getElem?_replicate, if_pos (by omega)] at hc
      exact ⟨h4.1, gq, 0, rfl, hc⟩
    case assign =>
      intro l j W K hK
      gi_wp2
      exact hK
    case body =>
      intro l j W hj hs
      obtain ⟨⟨h0, h1, h2, h3, h4⟩, h5, ⟨h6, h6'⟩, rs', qs', h7, h8, h9⟩ := hs
      obtain ⟨k, hk⟩ : ∃ k, j + ly + 1 = k := ⟨_, rfl⟩
      have hlj : j + ly ≤ lx := by omega
      have hD := wv_lt (nw (n * 2 ^ s)) (nw_ok _)
      rw [wv_nw, HB.out.2.2.2] at hD
      have hsub := h7.sub hD hlj (by omega)
      have hqd := qdigit_any gr j (lx + 1 - j) (some ⟨gd, 0, none⟩) (ly + 1) (ly - 2) ((rs'.drop j).take (ly + 1)) (nw (n * 2 ^ s)) W.drew
        (by have h := (show Row W.drew gr 0 rs' from h8).drop j (by have := h7.1; omega); rw [Nat.zero_add] at h; exact h.take _)
        (.inr ⟨_, _, rfl, show Row W.drew gd 0 _ from h5⟩) (fun a ha => by cases ha; have := HNE.out; show gd ≠ gr; omega)
        (by rw [HB.out.2.2.2]; omega) (by rw [hsub.1]; omega) (by omega) (by rw [hsub.1]; omega) hsub.2.1 (nw_ok _)
        (by rw [show ly - 2 + 1 = ly - 1 by omega]; exact norm_top HX.out.2.2.2.1 (by omega) HB.out.2.2.2 (by rw [HS.out.2.2.1]; exact HS.out.1)) (by rw [wv_nw]; exact hsub.2.2.1)
      rw [hsub.1, HB.out.2.2.2] at hqd
      have HQD := Lib.hid hqd
      have hsl := slice_mid gr (lx + 1) (lx + 1) j k (by omega) (by omega)
      rw [show k - j = ly + 1 by omega] at hsl
      have k0 := h0.1
      have k1 := h1.1
      have k2 := h2.1
      have k3 := h3.1
      have hne := HNE.out
      have lgr := h8.lt (by have := h7.1; omega)
      have cq := h9 j (by rw [List.length_append, List.length_replicate]; omega)
      rw [Nat.zero_add] at cq
      have facts : ∀ w2, Touch W.drew w2 gr j (ly + 1) → w2.cell? ⟨B0, 0, none⟩ = some (.slice (some ⟨by', oy, none⟩) ly cy) ∧ w2.cell? ⟨B1, 0, none⟩ = some (.slice (some ⟨gr, 0, none⟩) (lx + 1) (lx + 1)) ∧ w2.cell? ⟨B2, 0, none⟩ = some (.slice (some ⟨gd, 0, none⟩) ly (ly + 1)) ∧ w2.cell? ⟨B3, 0, none⟩ = some (.slice (some ⟨gq, 0, none⟩) lq lq) ∧ (∃ v, w2.cell? ⟨gq, j, none⟩ = some v) ∧ w2.frozen? ⟨gq, j, none⟩ = false := by
        intro w2 ht
        have e0 := (show Box B0 _ W.drew from h0).touch ht (by omega)
        have e1 := (show Box B1 _ W.drew from h1).touch ht (by omega)
        have e2 := (show Box B2 _ W.drew from h2).touch ht (by omega)
        have e3 := (show Box B3 _ W.drew from h3).touch ht (by omega)
        have eq' := (show Row W.drew gq 0 _ from h9).touch ht (by omega)
        have cq := eq' j (by rw [List.length_append, List.length_replicate]; omega)
        rw [Nat.zero_add] at cq
        exact ⟨e0.1, e1.1, e2.1, e3.1, ⟨_, cq.1⟩, cq.2⟩
      have FACTS := Lib.hid facts
      have HS2 := Lib.hid (And.intro h0 (And.intro h1 (And.intro h2 (And.intro h3 (And.intro h4 (And.intro h5 (And.intro h6 (And.intro h6' (And.intro h7 (And.intro h8 (And.intro h9 (And.intro hD hsub))))))))))))
      obtain ⟨r, hr⟩ : ∃ r, j + ly = r := ⟨_, rfl⟩
      have i5 : IntKind.i64.wrap ((j : Int) + (ly : Int)) = (r : Int) := by rw [show (j : Int) + (ly : Int) = (r : Int) by omega]; apply IntWalk.i64_in <;> omega
      have i8 : IntKind.i64.wrap ((r : Int) + 1) = (k : Int) := by rw [show (r : Int) + 1 = (k : Int) by omega]; apply IntWalk.i64_in <;> omega
      have i6 : (j : Int) < (lq : Int) := by omega
      have i7 : k ≤ 262145 := by omega
      have HJ := Lib.hid (And.intro hk (And.intro hr hlj))
      have HLT := Lib.hid hsub.1
      clear hk hr hlj
      clear facts hqd hsub h0 h1 h2 h3 h4 h5 h6 h6' h7 h8 h9 hD cq
      gi_wp2_with fail
      refine region_round l _ (fun w' => w'.cell? ⟨B0, 0, none⟩ = some (.slice (some ⟨by', oy, none⟩) ly cy) ∧ w'.cell? ⟨B1, 0, none⟩ = some (.slice (some ⟨gr, 0, none⟩) (lx + 1) (lx + 1)) ∧ w'.cell? ⟨B2, 0, none⟩ = some (.slice (some ⟨gd, 0, none⟩) ly (ly + 1)) ∧ w'.cell? ⟨B3, 0, none⟩ = some (.slice (some ⟨gq, 0, none⟩) lq lq)) (by kernel_rfl) (by kernel_rfl) (by rintro ⟨a, w, h⟩; exact h) ⟨k0, k1, k2, k3⟩ (fun hHeld => ?_)
      refine wpAnyH_take (i := 0) (v := ?vZ0) (List.getElem?_toArray.trans rfl) (by kernel_rfl) (by kernel_rfl) (by kernel_rfl) (fun _ _ _ h => h) (Or.inl ⟨by rfl, ?hyZ0⟩) (by assumption) ?_
      case hyZ0 => (intro w9 hS9; (try dsimp only at hS9); go_simp; try with_reducible rfl)
      try simp only [Act.put, List.setIfInBounds_toArray, List.set_cons_zero, List.set_cons_succ]
      refine wpAnyH_take (i := 1) (v := ?vZ1) (List.getElem?_toArray.trans rfl) (by kernel_rfl) (by kernel_rfl) (by kernel_rfl) (fun _ _ _ h => h) (Or.inl ⟨by rfl, ?hyZ1⟩) (by assumption) ?_
      case hyZ1 => (intro w9 hS9; (try dsimp only at hS9); go_simp; try with_reducible rfl)
      try simp only [Act.put, List.setIfInBounds_toArray, List.set_cons_zero, List.set_cons_succ]
      refine wpAnyH_take (i := 2) (v := ?vZ2) (List.getElem?_toArray.trans rfl) (by kernel_rfl) (by kernel_rfl) (by kernel_rfl) (fun _ _ _ h => h) (Or.inl ⟨by rfl, ?hyZ2⟩) (by assumption) ?_
      case hyZ2 => (intro w9 hS9; (try dsimp only at hS9); go_simp; try with_reducible rfl)
      try simp only [Act.put, List.setIfInBounds_toArray, List.set_cons_zero, List.set_cons_succ]
      refine wpAnyH_take (i := 3) (v := ?vZ3) (List.getElem?_toArray.trans rfl) (by kernel_rfl) (by kernel_rfl) (by kernel_rfl) (fun _ _ _ h => h) (Or.inl ⟨by rfl, ?hyZ3⟩) (by assumption) ?_
      case hyZ3 => (intro w9 hS9; (try dsimp only at hS9); go_simp; try with_reducible rfl)
      try simp only [Act.put, List.setIfInBounds_toArray, List.set_cons_zero, List.set_cons_succ]
      refine wpAnyH_take (i := 4) (v := ?vZ4) (List.getElem?_toArray.trans rfl) (by kernel_rfl) (by kernel_rfl) (by kernel_rfl) (fun _ _ _ h => h) (Or.inl ⟨by rfl, ?hyZ4⟩) (by assumption) ?_
      case hyZ4 => (intro w9 hS9; (try dsimp only at hS9); go_simp; try with_reducible rfl)
      try simp only [Act.put, List.setIfInBounds_toArray, List.set_cons_zero, List.set_cons_succ]
      refine wpAnyH_take (i := 5) (v := ?vZ5) (List.getElem?_toArray.trans rfl) (by kernel_rfl) (by kernel_rfl) (by kernel_rfl) (fun _ _ _ h => h) (Or.inl ⟨by rfl, ?hyZ5⟩) (by assumption) ?_
      case hyZ5 => (intro w9 hS9; (try dsimp only at hS9); go_simp; try with_reducible rfl)
      try simp only [Act.put, List.setIfInBounds_toArray, List.set_cons_zero, List.set_cons_succ]
      refine wpAnyH_take (i := 6) (v := ?vZ6) (List.getElem?_toArray.trans rfl) (by kernel_rfl) (by kernel_rfl) (by kernel_rfl) (fun _ _ _ h => h) (Or.inl ⟨by rfl, ?hyZ6⟩) (by assumption) ?_
      case hyZ6 => (intro w9 hS9; (try dsimp only at hS9); go_simp; try with_reducible rfl)
      try simp only [Act.put, List.setIfInBounds_toArray, List.set_cons_zero, List.set_cons_succ]
      refine wpAnyH_take (i := 7) (v := ?vZ7) (List.getElem?_toArray.trans rfl) (by kernel_rfl) (by kernel_rfl) (by kernel_rfl) (fun _ _ _ h => h) (Or.inl ⟨by rfl, ?hyZ7⟩) (by assumption) ?_
      case hyZ7 => (intro w9 hS9; (try dsimp only at hS9); go_simp; try with_reducible rfl)
      try simp only [Act.put, List.setIfInBounds_toArray, List.set_cons_zero, List.set_cons_succ]
      refine wpAnyH_take (i := 8) (v := ?vZ8) (List.getElem?_toArray.trans rfl) (by kernel_rfl) (by kernel_rfl) (by kernel_rfl) (fun _ _ _ h => h) (Or.inl ⟨by rfl, ?hyZ8⟩) (by assumption) ?_
      case hyZ8 => (intro w9 hS9; (try dsimp only at hS9); go_simp; try with_reducible rfl)
      try simp only [Act.put, List.setIfInBounds_toArray, List.set_cons_zero, List.set_cons_succ]
      refine wpAnyH_take (i := 9) (v := ?vZ9) (List.getElem?_toArray.trans rfl) (by kernel_rfl) (by kernel_rfl) (by kernel_rfl) (fun _ _ _ h => h) (Or.inl ⟨by rfl, ?hyZ9⟩) (by assumption) ?_
      case hyZ9 => (intro w9 hS9; (try dsimp only at hS9); go_simp; try with_reducible rfl)
      try simp only [Act.put, List.setIfInBounds_toArray, List.set_cons_zero, List.set_cons_succ]
      refine wpAnyH_take (i := 10) (v := ?vZ10) (List.getElem?_toArray.trans rfl) (by kernel_rfl) (by kernel_rfl) (by kernel_rfl) (fun _ _ _ h => h) (Or.inl ⟨by rfl, ?hyZ10⟩) (by assumption) ?_
      case hyZ10 => (intro w9 hS9; (try dsimp only at hS9); go_simp; try with_reducible rfl)
      try simp only [Act.put, List.setIfInBounds_toArray, List.set_cons_zero, List.set_cons_succ]
      refine wpAnyH_ready (rs := [11]) (by kernel_rfl) (by simp) ?_
      refine AllReadyH.cons (List.getElem?_toArray.trans rfl) (fun K hK => ?_) AllReadyH.nil
      go_simp
      go_at_call 183
      refine (HQD.out).mono ?_
      rintro e w2 ⟨d, zs, rfl, hd, he, hlt, hzl, hoz, hrow, ht⟩
      rw [HLT.out] at ht
      have HD := Lib.hid (And.intro hd (And.intro he (And.intro hlt (And.intro hzl (And.intro hoz (And.intro hrow ht))))))
      have FF := FACTS.out w2 ht
      obtain ⟨m0, m1, m2, m3, ⟨v4, m4⟩, m5⟩ := FF
      clear hd he hlt hzl hoz hrow ht
      go_simp
      refine hK.out _ _ ⟨m0, m1, m2, m3⟩ (fun hHeld2 => ?_)
      clear hK K hHeld
      try simp only [Act.put, List.setIfInBounds_toArray, List.set_cons_zero, List.set_cons_succ]
      refine wpAnyH_take (i := 12) (v := ?vZ12) (List.getElem?_toArray.trans rfl) (by kernel_rfl) (by kernel_rfl) (by kernel_rfl) (fun _ _ _ h => h) (Or.inl ⟨by rfl, ?hyZ12⟩) (by assumption) ?_
      case hyZ12 => (intro w9 hS9; (try dsimp only at hS9); go_simp; try with_reducible rfl)
      try simp only [Act.put, List.setIfInBounds_toArray, List.set_cons_zero, List.set_cons_succ]
      refine wpAnyH_ready (rs := [13]) (by kernel_rfl) (by simp) ?_
      refine AllReadyH.cons (List.getElem?_toArray.trans rfl) (fun K hK => ?_) AllReadyH.nil
      go_simp
      have n0 := (World.cell?_setCell_other w2 ⟨gq, j, none⟩ ⟨B0, 0, none⟩ (.int .u64 (d : Nat)) (by intro e; have := congrArg Addr.block e; simp at this; omega)).trans m0
      have n1 := (World.cell?_setCell_other w2 ⟨gq, j, none⟩ ⟨B1, 0, none⟩ (.int .u64 (d : Nat)) (by intro e; have := congrArg Addr.block e; simp at this; omega)).trans m1
      have n2 := (World.cell?_setCell_other w2 ⟨gq, j, none⟩ ⟨B2, 0, none⟩ (.int .u64 (d : Nat)) (by intro e; have := congrArg Addr.block e; simp at this; omega)).trans m2
      have n3 := (World.cell?_setCell_other w2 ⟨gq, j, none⟩ ⟨B3, 0, none⟩ (.int .u64 (d : Nat)) (by intro e; have := congrArg Addr.block e; simp at this; omega)).trans m3
      refine hK.out _ _ ⟨n0, n1, n2, n3⟩ (fun _ => ?_)
      clear hK K hHeld2
      refine wpAnyH_done (by kernel_rfl) ?_ _
      obtain ⟨h0, h1, h2, h3, h4, h5, h6, h6', h7, h8, h9, hD, hsub⟩ := HS2.out
      obtain ⟨hd, he, hlt, hzl, hoz, hrow, ht⟩ := HD.out
      obtain ⟨hk, hr, hlj⟩ := HJ.out
      rw [wv_nw] at he hlt
      rw [HB.out.2.2.2] at hzl
      have hfin := h7.next hD hlj (by omega) hd hzl hoz he hlt
      have h7l := h7.1
      have q1 := ((show Row W.drew gr 0 rs' from h8).take j).apart ht (.inl (by rw [List.length_take]; omega))
      have q3 := ((show Row W.drew gr 0 rs' from h8).drop (j + ly + 1) (by omega)).apart ht (.inr (by omega))
      have q2 : Row w2 gr (0 + (rs'.take j).length) (zs ++ [0]) := by rw [List.length_take, Nat.min_eq_left (by omega), Nat.zero_add]; exact hrow
      have q4 := q1.append q2
      have q5 : Row w2 gr 0 ((rs'.take j ++ (zs ++ [0])) ++ rs'.drop (j + ly + 1)) := by
        refine q4.append ?_
        rw [List.length_append, List.length_take, Nat.min_eq_left (by omega), List.length_append, hzl, List.length_singleton, show 0 + (j + (ly + 1)) = 0 + (j + ly + 1) by omega]
        exact q3
      have q6 := ((show Row W.drew gq 0 _ from h9).touch ht (by omega)).set j d (by rw [List.length_append, List.length_replicate]; omega)
      rw [Nat.zero_add, List.replicate_succ', List.append_assoc, List.set_append_right _ _ (by simp), List.length_replicate, Nat.sub_self, List.singleton_append, List.set_cons_zero] at q6
      have hb2 : Below w.heap.size w w2 := touch_below (h6.drew) ht h6.size (by omega)
      have hz2 := ht.grown.size
      rw [World.size_drew] at hz2
      refine ⟨((keepsFrom_below ((Below.refl W.heap.size W).drew)).trans (keepsFrom_touch ht (by omega))).trans ((KeepsOthers.setCell _ _ _).from _), ⟨((show Box B0 _ W.drew from h0).touch ht (by omega)).other (by omega), ((show Box B1 _ W.drew from h1).touch ht (by omega)).other (by omega), ((show Box B2 _ W.drew from h2).touch ht (by omega)).other (by omega), ((show Box B3 _ W.drew from h3).touch ht (by omega)).other (by omega), ((show Box B4 _ W.drew from h4).touch ht (by omega)).other (by omega)⟩, ((show Row W.drew gd 0 _ from h5).touch ht (by omega)).other (by omega), ⟨hb2.setCell (p := ⟨gq, j, none⟩) (by show w.heap.size ≤ gq; omega) _, by show W0.heap.size ≤ (w2.setCell _ _).heap.size; rw [World.size_setCell]; omega⟩, _, _, hfin, q5.other (by omega), q6⟩
    case done =>
      intro D W hD hs hK
      obtain ⟨⟨h0, h1, h2, h3, h4⟩, h5, ⟨h6, h6'⟩, rs', qs', h7, h8, h9⟩ := hs
      have hdn := h7.done (show 0 < n by have := HN.out.1; omega)
      rw [List.replicate_zero, List.nil_append] at h9
      have h7l := h7.1
      have hor := h7.2.1
      have hoq := h7.2.2.1
      obtain ⟨v, hv⟩ : ∃ v, wv rs' = v := ⟨_, rfl⟩
      have hdn2 := hdn.2.1
      rw [hv] at hdn2
      have t1 : ∀ W' : World, Row W' gq 0 qs' → Calls Tryz.prog 143 #[.slice (some ⟨gq, 0, none⟩) lq lq] W' fun e w' => e = .returned (.slice (some ⟨gq, 0, none⟩) (nw (m / n)).length lq) ∧ W' = w' := by
        intro W' hr
        have h := trim_any (some ⟨gq, 0, none⟩) qs' lq W' (.inr ⟨_, _, rfl, hr⟩) (by omega) (by omega) (by unfold maxLen; omega)
        rw [hdn.2.2, trimW_length qs' hoq, hdn.1] at h
        exact h
      have t2 : ∀ W' : World, Row W' gr 0 rs' → Calls Tryz.prog 143 #[.slice (some ⟨gr, 0, none⟩) (lx + 1) (lx + 1)] W' fun e w' => e = .returned (.slice (some ⟨gr, 0, none⟩) (nw v).length (lx + 1)) ∧ W' = w' := by
        intro W' hr
        have h := trim_any (some ⟨gr, 0, none⟩) rs' (lx + 1) W' (.inr ⟨_, _, rfl, hr⟩) (by omega) (by omega) (by unfold maxLen; omega)
        rw [h7l, trimW_length rs' hor, hv] at h
        exact h
      have hrv : Row W.drew gr 0 (nw v) := by
        have h := (show Row W.drew gr 0 rs' from h8).take (trimW rs')
        rw [take_trimW rs' hor, hv] at h
        exact h
      have hrq : Row W gq 0 (nw (m / n)) := by
        have h := h9.take (trimW qs')
        rw [take_trimW qs' hoq, hdn.1] at h
        exact h
      have hvl : (nw v).length ≤ lx + 1 := by
        have h := trimW_length rs' hor
        rw [hv] at h
        have := trimW_le rs'
        omega
      have hql : (nw (m / n)).length ≤ lq := by
        have h := trimW_length qs' hoq
        rw [hdn.1] at h
        have := trimW_le qs'
        omega
      have hsr := shiftRight_any (some ⟨gr, 0, none⟩) (lx + 1) s (nw v) W.drew (.inr ⟨_, _, rfl, hrv⟩) (nw_ok v) (by omega) hvl (by omega)
      rw [wv_nw, hdn2] at hsr
      have T1 := Lib.hid (t1 W.drew (show Row W.drew gq 0 qs' from h9))
      have T2 := Lib.hid (t2 W.drew (show Row W.drew gr 0 rs' from h8))
      have T3 := Lib.hid hsr
      have k1 : W.drew.cell? ⟨B1, 0, none⟩ = some (.slice (some ⟨gr, 0, none⟩) (lx + 1) (lx + 1)) := h1.1
      have k3 : W.drew.cell? ⟨B3, 0, none⟩ = some (.slice (some ⟨gq, 0, none⟩) lq lq) := h3.1
      have lb1' := h1.lt
      have lb3' := h3.lt
      have HF := Lib.hid (And.intro hrq (And.intro hql (And.intro h6 (And.intro h6' (And.intro hK hD)))))
      clear hdn hdn2 t1 t2 hrv hsr h0 h1 h2 h3 h4 h5 h6 h6' h7 h8 h9 h7l hor hoq hrq hql hK hvl hv
      gi_wp2_with fail
      refine wpIn_wide.2 ?_
      have tok1 : True := trivial
      go_region_held3 (fun w' => w'.cell? ⟨B1, 0, none⟩ = some (.slice (some ⟨gr, 0, none⟩) (lx + 1) (lx + 1)) ∧ w'.cell? ⟨B3, 0, none⟩ = some (.slice (some ⟨gq, 0, none⟩) lq lq)) (first | exact ⟨k1, k3⟩ | assumption | go_keep)
        (first | (go_at_call 143; have _t := tok1; clear tok1; refine T1.out.mono ?_; rintro e w2 ⟨rfl, rfl⟩) | (go_at_call 143; refine T2.out.mono ?_; rintro e w2 ⟨rfl, rfl⟩) | (go_at_call 184; refine T3.out.mono ?_; rintro e w3 ⟨pr, cr, rfl, hcr, hnr, hbr⟩; have H3 := Lib.hid (And.intro hcr (And.intro hnr hbr)); have kk : w3.cell? ⟨B1, 0, none⟩ = some (.slice (some ⟨gr, 0, none⟩) (lx + 1) (lx + 1)) ∧ w3.cell? ⟨B3, 0, none⟩ = some (.slice (some ⟨gq, 0, none⟩) lq lq) := ⟨(hbr.cell (p := ⟨B1, 0, none⟩) lb1').trans k1, (hbr.cell (p := ⟨B3, 0, none⟩) lb3').trans k3⟩; clear hcr hnr hbr))
      go_wp2_with fail
      obtain ⟨hcr, hnr, hbr⟩ := H3.out
      obtain ⟨hrq, hql, h6, h6', hK, hD⟩ := HF.out
      have hDW : D < W.heap.size := (Array.getElem?_eq_some_iff.1 hK).1
      have hK3 : w3.heap[D]? = some (.deferred (some [])) := (hbr.block D hDW).trans hK
      have hr' : ∀ r, some D = some r → ∃ o : Obj, w3.heap[r]? = some o ∧ o.isCells = false := fun r e => by cases e; exact ⟨_, hK3, rfl⟩
      have hg2 := grownBy_putObj' w3 D (.deferred none)
      have r1 : Nt (w3.putObj D (.deferred none)) (some ⟨gq, 0, none⟩) (nw (m / n)) := Nt.kept (.inr ⟨_, _, rfl, (show Row W.drew gq 0 _ from hrq).below hbr (by show gq < W.heap.size; omega)⟩) hg2 hr'
      have r2 : Nt (w3.putObj D (.deferred none)) pr (nw (m % n)) := hnr.kept hg2 hr'
      have hb3 : Below w.heap.size w w3 := h6.drew.trans (hbr.mono h6.size)
      have hb4 : Below w.heap.size w (w3.putObj D (.deferred none)) := hb3.trans (belowK_b (w := W0) (by omega) w3 D _ _ hD hK3 rfl rfl)
      have HE := Lib.hid (And.intro hql (And.intro hcr (And.intro r1 (And.intro r2 hb4))))
      have HK3 := Lib.hid hK3
      clear hcr hnr hbr hrq hql h6 h6' hK hD hK3 hr' hg2 r1 r2 hb3 hb4
      gi_wp2_with fail
      refine ⟨by simp, .inl ⟨_, _, rfl, run_takeDeferred HK3.out, ?_⟩⟩
      exact ⟨.tuple #[.slice (some ⟨gq, 0, none⟩) (nw (m / n)).length lq, .slice pr (nw (m % n)).length cr], by simp [results, Tryz.results156, go_sem], _, _, _, _, rfl, HE.out⟩
    case stop =>
      intro D W hD hs hK
      exact hs.elim
end Go.Proofs.YtpdhffjdgnpikaaGreatDoor

namespace Go.Proofs.YtpdhffjdgnpikaaGreatDoor
open Go.RowKit Go.Shelf

set_option maxHeartbeats 1000000 in
set_option maxRecDepth 100000 in
theorem divide_long (p q : Option Addr) (cx cy m n : Nat) (w : World) (hx : Nt w p (nw m)) (hy : Nt w q (nw n)) (hn : 18446744073709551616 ≤ n) (hle : n ≤ m) (hl : (nw m).length ≤ 262144) :
    Calls Tryz.prog 128 #[.slice p (nw m).length cx, .slice q (nw n).length cy] w (DivRes w m n) := by
  have hcm := compare_any p q m n cx cy w hx hy (by omega)
  have hcz : 0 ≤ cmpZ m n := by
    rcases Nat.lt_or_ge n m with h | h
    · rw [cmpZ_gt (by omega)]; omega
    · rw [cmpZ_eq (by omega)]; omega
  obtain ⟨cz, hczz⟩ : ∃ cz, cmpZ m n = cz := ⟨_, rfl⟩
  rw [hczz] at hcm hcz
  have hczn : ¬ cz < 0 := by omega
  have hly2 := nw_two hn
  have hone : ¬ (((nw n).length : Int) = 1) := by omega
  have HCM := Lib.hid hcm
  have HX := Lib.hid (And.intro hx (And.intro hy (And.intro hn (And.intro hle hl))))
  clear hcm hx hy hn hle hl hczz hly2
  go_enter Tryz.func128, Tryz.ntmps128
  go_wp2_with fail
  refine HCM.out.mono ?_
  rintro e wC ⟨rfl, hbC⟩
  have hlong := longDivide_any p q cx cy m n wC (HX.out.1.below hbC) (HX.out.2.1.below hbC) HX.out.2.2.1 HX.out.2.2.2.1 HX.out.2.2.2.2
  have HL := Lib.hid (And.intro hlong hbC)
  clear hlong hbC
  go_wp2_with fail
  refine HL.out.1.mono ?_
  rintro e wD ⟨pq, cq, pr, cr, rfl, h1, h2, h3, h4, h5⟩
  have HR := Lib.hid (And.intro h1 (And.intro h2 (And.intro h3 (And.intro h4 (HL.out.2.trans (h5.mono HL.out.2.size))))))
  clear h1 h2 h3 h4 h5
  go_wp2_with fail
  go_ret2
  exact ⟨pq, cq, pr, cr, rfl, HR.out⟩
/-- divide is right. -/
theorem divideOk_all (m n : Nat) (hn : 0 < n) (hl : (nw m).length ≤ 262144) : DivideOk m n := by
  by_cases h : m < n ∨ n < 18446744073709551616
  · exact divideOk_word m n hn (by omega) h
  · intro p q cx cy w hx hy _
    exact divide_long p q cx cy m n w hx hy (by omega) (by omega) hl
/-- Div, where the divisor is not 0. -/
theorem div_any (na nb : Bool) (sa sb : ByteArray) (w : World) (ha : sa.size ≤ 262144) (hb : sb.size ≤ 262144) (hy0 : beVal sb.data.toList ≠ 0) :
    Calls Tryz.prog 88 #[.agg #[.bool na, .string sa], .agg #[.bool nb, .string sb]] w (IntDiv w (ival na sa) (ival nb sb)) :=
  div_gen na nb sa sb w ha hb (divideOk_all _ _ (by omega) (by have := nw_be_length sa.data.toList; rw [← Lib.size_eq] at this; omega)) hy0
/-- .. by values. -/
theorem divAll_val {x y q r : Int} {bx by' bq br : Bool} {sx sy sq sr : ByteArray} (hx : Val bx sx x) (hy : Val by' sy y) (hy0 : y ≠ 0) (hd : IsDiv x y q r) (h3 : Nam bq sq q) (h4 : Nam br sr r) (W : World) :
    Calls Tryz.prog 88 #[.agg #[.bool bx, .string sx], .agg #[.bool by', .string sy]] W fun e w' => e = .returned (.tuple #[.agg #[.bool bq, .string sq], .agg #[.bool br, .string sr], .int .i64 0]) ∧ Below W.heap.size W w' := by
  refine (div_any bx by' sx sy W hx.small hy.small (by have := ival_abs by' sy; rw [hy.val] at this; omega)).mono ?_
  rintro e w' ⟨q', r', hd', rfl, hb⟩
  rw [hx.val, hy.val] at hd'
  obtain ⟨rfl, rfl⟩ := hd.unique hd'
  obtain ⟨rfl, rfl⟩ := h3
  obtain ⟨rfl, rfl⟩ := h4
  exact ⟨rfl, hb⟩
/-- There is a quotient, rounded down, with its remainder. -/
theorem isDiv_ex (x y : Int) (hy : y ≠ 0) : ∃ q r, IsDiv x y q r := by
  rcases Int.lt_or_gt_of_ne hy with h | h
  · refine ⟨(-x) / (-y), -((-x) % (-y)), ?_, ?_⟩
    · have := Int.mul_ediv_add_emod (-x) (-y)
      rw [Int.neg_mul] at this
      omega
    · right
      have h1 := Int.emod_nonneg (-x) (show -y ≠ 0 by omega)
      have h2 := Int.emod_lt_of_pos (-x) (show 0 < -y by omega)
      omega
  · exact ⟨x / y, x % y, (Int.mul_ediv_add_emod x y).symm, .inl ⟨Int.emod_nonneg x hy, Int.emod_lt_of_pos x h⟩⟩
end Go.Proofs.YtpdhffjdgnpikaaGreatDoor
