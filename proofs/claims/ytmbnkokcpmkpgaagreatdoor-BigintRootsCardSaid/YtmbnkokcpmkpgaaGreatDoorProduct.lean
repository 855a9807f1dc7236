/- The contract of bigint.product. -/
import Derived.Test.YtmbnkokcpmkpgaaGreatDoorMake
namespace Go.Proofs.YtmbnkokcpmkpgaaGreatDoor
open Go.RowKit

/-- A slice over the words of a number, in a new block; nothing that was there has turned. -/
def NatRes (w : World) (n : Nat) (e : Ending) (w' : World) : Prop :=
  ∃ g cap, e = .returned (.slice (some ⟨g, 0, none⟩) (nw n).length cap) ∧ (nw n).length ≤ cap ∧ cap ≤ maxLen ∧ Row w' g 0 (nw n) ∧ w.heap.size ≤ g ∧ Below w.heap.size w w'

theorem natRes_trim {w wr : World} {g cap : Nat} {rs : List Nat} (hok : Ok rs) (hrow : Row wr g 0 rs) (hlen : rs.length ≤ cap) (hmax : cap ≤ maxLen) (hg : w.heap.size ≤ g) (hb : Below w.heap.size w wr) :
    NatRes w (wv rs) (.returned (.slice (some ⟨g, 0, none⟩) (trimW rs) cap)) wr := by
  have e := take_trimW rs hok
  have hl : (nw (wv rs)).length = trimW rs := by rw [← e, List.length_take]; have := trimW_le rs; omega
  exact ⟨g, cap, by rw [hl], by rw [hl]; have := trimW_le rs; omega, hmax, by rw [← e]; exact hrow.take _, hg, hb⟩

theorem replicate_succ_left (n : Nat) (h : 0 < n) : List.replicate n (0 : Nat) = 0 :: List.replicate (n - 1) 0 := by
  obtain ⟨k, rfl⟩ : ∃ k, n = k + 1 := ⟨n - 1, by omega⟩
  rfl
theorem touch_below {w w' w2 : World} {b off n B : Nat} (h : Below B w w') (ht : Touch w' w2 b off n) (hB : B ≤ w'.heap.size) (hb : B ≤ b) : Below B w w2 :=
  h.grown ht.grown hB (fun k e => by cases e; exact hb)

/-- The row of a product behind one more round. -/
theorem product_round {wr w2 : World} {g k n m d c : Nat} {zs ys' xs : List Nat} (hrow : Row wr g 0 (zs ++ List.replicate (m - k) 0)) (hz : zs.length = n + k) (hk : k < m) (hy : ys'.length = n)
    (hr2 : Row w2 g (0 + k) ys') (ht : Touch wr w2 g (0 + k) n) (hzok : Ok zs) (hyok : Ok ys') (hc : c < 18446744073709551616)
    (hval : wv ys' + 18446744073709551616 ^ n * c = wv (zs.drop k) + d * wv xs) :
    Row (w2.setCell ⟨g, k + n, none⟩ (.int .u64 c)) g 0 ((zs.take k ++ ys' ++ [c]) ++ List.replicate (m - (k + 1)) 0) ∧ (zs.take k ++ ys' ++ [c]).length = n + (k + 1) ∧ Ok (zs.take k ++ ys' ++ [c]) ∧
      wv (zs.take k ++ ys' ++ [c]) = wv zs + 18446744073709551616 ^ k * (d * wv xs) := by
  have hlt : (zs.take k).length = k := by rw [List.length_take]; omega
  refine ⟨?_, ?_, ?_, ?_⟩
  · have h1 : Row w2 g 0 (zs.take k) := (hrow.left.take k).apart ht (by rw [hlt]; omega)
    have h2 : Row w2 g 0 (zs.take k ++ ys') := h1.append (by rw [hlt]; exact hr2)
    have h3 : Row w2 g (0 + zs.length) (List.replicate (m - k) 0) := hrow.right.apart ht (by rw [hz]; omega)
    have h4 : Row w2 g 0 ((zs.take k ++ ys') ++ List.replicate (m - k) 0) := h2.append (by rw [List.length_append, hlt, hy]; rw [hz] at h3; rwa [show 0 + (k + n) = 0 + (n + k) by omega])
    have h5 := h4.set (k + n) c (by simp only [List.length_append, List.length_replicate, hlt, hy]; omega)
    rw [Nat.zero_add, replicate_succ_left (m - k) (by omega), List.set_append_right _ _ (by rw [List.length_append, hlt, hy]; omega), List.length_append, hlt, hy, Nat.sub_self, List.set_cons_zero] at h5
    rw [show m - (k + 1) = m - k - 1 by omega, List.append_assoc (zs.take k ++ ys')]
    exact h5
  · simp only [List.length_append, hlt, hy, List.length_singleton]; omega
  · exact ((hzok.take k).append hyok).append (Ok.nil.cons hc)
  · rw [wv_append, wv_append, List.length_append, hlt, hy]
    have e := wv_append (zs.take k) (zs.drop k)
    rw [List.take_append_drop, hlt] at e
    rw [e, Nat.pow_add]
    have e2 := congrArg (18446744073709551616 ^ k * ·) hval
    simp only [Nat.mul_add] at e2
    have e3 : wv [c] = c := by simp [wv]
    rw [e3, Nat.mul_assoc]
    omega

set_option maxHeartbeats 1000000 in
set_option maxRecDepth 100000 in
theorem product_any (p q : Option Addr) (cx cy : Nat) (xs ys : List Nat) (w : World) (hx : Nt w p xs) (hy : Nt w q ys) (hnx : xs.length ≤ 524288) (hny : ys.length ≤ 524288) (hox : Ok xs) (hoy : Ok ys) :
    Calls Tryz.prog 64 #[.slice p xs.length cx, .slice q ys.length cy] w (NatRes w (wv xs * wv ys)) := by
  have hmk := make_full (xs.length + ys.length) (by omega)
  rw [Int.natCast_add] at hmk
  have HX := Lib.hid hx
  have HY := Lib.hid hy
  clear hx hy
  go_enter Tryz.func64, Tryz.ntmps64
  go_wp2_with fail
  go_loopw [16] (fun i wr => ∃ (k : Nat) (zs : List Nat), k ≤ ys.length ∧ i = .int .i64 k ∧ zs.length = xs.length + k ∧ Ok zs ∧ wv zs = wv xs * wv (ys.take k) ∧ Row wr w.heap.size 0 (zs ++ List.replicate (ys.length - k) 0) ∧ Below w.heap.size w wr ∧ w.heap.size < wr.heap.size) (fun i _ => ys.length - (intOf i).toNat)
  case atStart =>
    refine ⟨0, List.replicate xs.length 0, Nat.zero_le _, rfl, by simp, ?_, by rw [wv_zeros]; simp [wv], ?_, (Below.refl _ _).alloc (Nat.le_refl _) _, by simp⟩
    · intro x hx; rw [List.eq_of_mem_replicate hx]; decide
    · rw [List.replicate_append_replicate, Nat.sub_zero]; exact row_zeros _ _ _
  case round =>
    obtain ⟨k, zs, hk, rfl, hz, hzok, hval, hrow, hbel, hsz⟩ := hrel
    have HZ := Lib.hid hz
    have HV := Lib.hid hval
    have HROW := Lib.hid hrow
    have HB := Lib.hid hbel
    clear hz hval hrow hbel
    by_cases hlt : k < ys.length
    · rcases HY.out with hy0 | ⟨by', oy, rfl, hyr⟩
      · exfalso; rw [hy0] at hlt; simp at hlt
      · have hbb : by' < w.heap.size := hyr.lt (by omega)
        obtain ⟨d, hd⟩ : ∃ d, d = ys.getD k 0 := ⟨_, rfl⟩
        have hcy : wr.cell? ⟨by', oy + k, none⟩ = some (.int .u64 (d : Nat)) := by rw [hd]; exact ((hyr.below HB.out hbb) k hlt).1
        have HD := Lib.hid hd
        clear hd hyr
        have hdl : (zs.drop k).length = xs.length := by rw [List.length_drop, HZ.out]; omega
        have hts : Row wr w.heap.size (0 + k) (zs.drop k) := HROW.out.left.drop k (by rw [HZ.out]; omega)
        have hap := addProduct_any w.heap.size (0 + k) (xs.length + ys.length - k) p cx (zs.drop k) xs d wr hts (HX.out.below HB.out)
          (fun hne a ha => by
            rcases HX.out with h0 | ⟨bx, ox, rfl, hxr⟩
            · exact absurd h0 hne
            · cases ha
              have := hxr.lt (List.length_pos_iff.2 hne)
              show bx ≠ w.heap.size
              omega) hdl.symm (by rw [hdl]; omega) (hzok.drop k) hox (by rw [HD.out]; exact hoy.getD k)
        rw [hdl] at hap
        have HAP := Lib.hid hap
        have HDL := Lib.hid hdl
        clear hap hdl hts
        go_wp2_with fail
        have hap := HAP.out
        rw [Nat.zero_add] at hap
        refine hap.mono ?_
        clear hap
        rintro e w2 ⟨ys', c, rfl, hc, hyl, hyok, heq, hr2, ht⟩
        rw [HDL.out] at heq hyl ht
        have hm0 := HROW.out
        have hcell : w2.cell? ⟨w.heap.size, k + xs.length, none⟩ = some (.int .u64 0) := by
          have h1 := (hm0.right.apart ht (by rw [HZ.out]; omega) : Row w2 w.heap.size _ (List.replicate (ys.length - k) 0)) 0 (by rw [List.length_replicate]; omega)
          rw [HZ.out] at h1
          have h2 := h1.1
          rw [show 0 + (xs.length + k) + 0 = k + xs.length by omega] at h2
          rw [h2]
          congr 2
          rw [List.getD_eq_getElem?_getD, List.getElem?_replicate]
          split <;> rfl
        have hfz : w2.frozen? ⟨w.heap.size, k + xs.length, none⟩ = false := by
          have h1 := (hm0.right.apart ht (by rw [HZ.out]; omega) : Row w2 w.heap.size _ (List.replicate (ys.length - k) 0)) 0 (by rw [List.length_replicate]; omega)
          rw [HZ.out] at h1
          have h2 := h1.2
          rw [show 0 + (xs.length + k) + 0 = k + xs.length by omega] at h2
          exact h2
        have HPR := Lib.hid (product_round (c := c) (d := d) (xs := xs) hm0 HZ.out hlt hyl (by rw [Nat.zero_add]; exact hr2) (by rw [Nat.zero_add]; exact ht) hzok hyok hc heq)
        have HT := Lib.hid ht
        clear hc hyl hyok heq hr2 ht hm0
        go_wp2_with fail
        go_roundw
        case rel =>
          obtain ⟨h1, h2, h3, h4⟩ := HPR.out
          refine ⟨k + 1, zs.take k ++ ys' ++ [c], by omega, by go_num, h2, h3, ?_, h1, ?_, ?_⟩
          · rw [h4, HV.out, wv_take_succ ys k hlt, ← HD.out, Nat.mul_add, Nat.mul_comm d, ← Nat.mul_assoc, ← Nat.mul_assoc, Nat.mul_comm (18446744073709551616 ^ k)]
          · exact (touch_below HB.out HT.out (by omega) (Nat.le_refl _)).setCell (Nat.le_refl _) _
          · have := HT.out.grown.size
            simp [World.setCell]; omega
        case measure => simp [intOf]; omega
    · have hkn : k = ys.length := by omega
      have HK := Lib.hid hkn
      have hzl : zs.length ≤ 1048576 := by rw [HZ.out]; omega
      have hzc : zs.length ≤ xs.length + ys.length := by rw [HZ.out]; omega
      have hzl2 : zs.length = xs.length + ys.length := by rw [HZ.out, hkn]
      clear hkn
      have hrz : Row wr w.heap.size 0 zs := HROW.out.left
      have htr := trim_any (some ⟨w.heap.size, 0, none⟩) zs (xs.length + ys.length) wr (.inr ⟨_, _, rfl, hrz⟩) hzl hzc (by unfold maxLen; omega)
      rw [hzl2] at htr
      have HTR := Lib.hid htr
      have HRZ := Lib.hid hrz
      clear htr hzl2 hrz
      go_wp2_with fail
      refine HTR.out.mono ?_
      rintro e w2 ⟨rfl, rfl⟩
      go_wp2_with fail
      go_ret
      have h := natRes_trim (w := w) hzok HRZ.out hzc (by unfold maxLen; omega) (Nat.le_refl _) HB.out
      rw [HV.out, HK.out, List.take_of_length_le (Nat.le_refl _)] at h
      exact h
end Go.Proofs.YtmbnkokcpmkpgaaGreatDoor
