/- The contract of bigint.blockwise, for block.minus. The contracts of bigint.sum and bigint.difference. The contract of bigint.Add. -/
import Derived.Test.YtpdhffjdgnpikaaGreatDoorBlockwise
import Derived.Test.YtpdhffjdgnpikaaGreatDoorMul
namespace Go.Proofs.YtpdhffjdgnpikaaGreatDoor
open Go.RowKit Go.Shelf

set_option maxHeartbeats 2000000 in
set_option maxRecDepth 100000 in
theorem blockwise_minus (p q : Option Addr) (cx cy : Nat) (xs ys : List Nat) (w : World) (hx : Nt w p xs) (hy : Nt w q ys) (hcx : xs.length ≤ cx) (hcy : ys.length ≤ cy) (hle : ys.length ≤ xs.length) (hn : xs.length ≤ 524288) (hox : Ok xs) (hoy : Ok ys) (V : Nat) (hV : (wv xs : Int) + (-1) * (wv ys : Int) = (V : Int)) :
    Calls Tryz.prog 157 #[.slice p xs.length cx, .slice q ys.length cy, .func (.func 159) #[] #[]] w (NatRes w V) := by
  have hmk := make_cap (xs.length + 4) (by omega)
  rw [show ((xs.length + 4 : Nat) : Int) = (xs.length : Int) + 4 from rfl] at hmk
  have h0 : Rounds w (w.alloc (.cells (zerosU (xs.length + 4)) 85)) w.heap.size (xs.length + 4) (-1) (V : Int) p q cx cy xs ys [] 0 :=
    ⟨hx, hy, hox, hoy, Ok.nil, hcx, hcy, hle, by omega, (Below.refl _ _).alloc (Nat.le_refl _) _, by simp, fun j hj => by simp at hj, room_zeros _ _ _, by simp, by simp, by simp [wv]; omega⟩
  have H0 := Lib.hid h0
  clear h0 hx hy hcx hcy hle hox hoy hV
  go_enter Tryz.func157, Tryz.ntmps157
  go_wp2_with fail
  go_loopw [0, 1, 7, 8] (fun a0 a1 a7 a8 wr => ∃ (p q : Option Addr) (cx cy : Nat) (xs' ys' rs : List Nat) (c : Nat), a0 = .slice p xs'.length cx ∧ a1 = .slice q ys'.length cy ∧ a7 = .slice (some ⟨w.heap.size, 0, none⟩) rs.length (xs.length + 4) ∧ a8 = .int .u64 c ∧ Rounds w wr w.heap.size (xs.length + 4) (-1) (V : Int) p q cx cy xs' ys' rs c) (fun a0 _ _ _ _ => sliceLen a0)
  case atStart => exact ⟨p, q, cx, cy, xs, ys, [], 0, rfl, rfl, rfl, rfl, H0.out⟩
  case round =>
    obtain ⟨p, q, cx, cy, xs', ys', rs, c, rfl, rfl, rfl, rfl, hR⟩ := hrel
    have HR := Lib.hid hR
    have hc := hR.carry
    clear hR
    by_cases hlt : 0 < xs'.length
    · go_upto_region 5 with fail
      obtain ⟨kx, hkx⟩ : ∃ kx, kx = Nat.min xs'.length 4 := ⟨_, rfl⟩
      obtain ⟨ky, hky⟩ : ∃ ky, ky = Nat.min ys'.length 4 := ⟨_, rfl⟩
      have hkx1 : kx ≤ xs'.length := by rw [hkx]; exact Nat.min_le_left _ _
      have hky1 : ky ≤ ys'.length := by rw [hky]; exact Nat.min_le_left _ _
      have e1 : xs'.length - kx = xs'.length - 4 := by rw [hkx]; have : Nat.min xs'.length 4 = min xs'.length 4 := rfl; omega
      have e2 : ys'.length - ky = ys'.length - 4 := by rw [hky]; have : Nat.min ys'.length 4 = min ys'.length 4 := rfl; omega
      have tl1 := tail_run p xs'.length cx kx hkx1
      have tl2 := tail_run q ys'.length cy ky hky1
      rw [e1] at tl1
      rw [e2] at tl2
      have a1 : Nt (arrs wr) p xs' := HR.out.nx.below (HR.out.below.trans ((arrs_below wr).mono (by have := HR.out.size; omega)))
      have a2 : Room (arrs wr) wr.heap.size 4 := (arrs_row1 wr).room rfl
      have a3 : ∀ W2, Hid (W2 = (arrs wr).setCells wr.heap.size 0 (u64s (xs'.take 4))) → Nt W2 q ys' ∧ Room W2 (wr.heap.size + 1) 4 := fun W2 h => by
        have h2 := h.out
        subst h2
        exact ⟨nt_setCells HR.out.ny (HR.out.below.trans ((arrs_below wr).mono (by have := HR.out.size; omega))) (by have := HR.out.size; omega), ((arrs_row2 wr).touch (touch_setCells _ _ _ _) (by omega)).room rfl⟩
      have A1 := Lib.hid a1
      have A2 := Lib.hid a2
      have A3 := Lib.hid a3
      have HK1 := Lib.hid hkx
      have HK2 := Lib.hid hky
      clear hkx hky hkx1 hky1 e1 e2 a1 a2 a3
      go_cut [0, 1] from 18 to 27 (fun a0 a1 wc => a0 = .slice (dropP p cx kx) (xs'.length - 4) (cx - kx) ∧ a1 = .slice (dropP q cy ky) (ys'.length - 4) (cy - ky) ∧ Row wc wr.heap.size 0 (four xs') ∧ Row wc (wr.heap.size + 1) 0 (four ys') ∧ Below wr.heap.size wr wc ∧ wr.heap.size + 2 ≤ wc.heap.size)
      case first =>
        go_region_law (first
          | (refine copy_step rfl (.tmp 19) (.tmp 20) rfl wr.heap.size p cx xs' kx HK1.out rfl rfl A1.out A2.out ?_; intro w2 hw2)
          | (refine copy_step rfl (.tmp 24) (.tmp 25) rfl (wr.heap.size + 1) q cy ys' ky HK2.out rfl rfl (A3.out _ hw2).1 (A3.out _ hw2).2 ?_; intro w3 hw3))
        all_goals (go_wp2_with fail; go_meet)
        all_goals exact ⟨rfl, rfl, copied HR.out.nx HR.out.ny HR.out.below hw2.out hw3.out⟩
      case rest =>
        obtain ⟨rfl, rfl, hra, hrb, hbc, hsz⟩ := hcut
        have c0 : wc.cell? ⟨wr.heap.size, 0, none⟩ = some (.int .u64 (wat xs' 0 : Nat)) := (hra 0 (by simp)).1
        have c1 : wc.cell? ⟨wr.heap.size, 1, none⟩ = some (.int .u64 (wat xs' 1 : Nat)) := (hra 1 (by simp)).1
        have c2 : wc.cell? ⟨wr.heap.size, 2, none⟩ = some (.int .u64 (wat xs' 2 : Nat)) := (hra 2 (by simp)).1
        have c3 : wc.cell? ⟨wr.heap.size, 3, none⟩ = some (.int .u64 (wat xs' 3 : Nat)) := (hra 3 (by simp)).1
        have d0 : wc.cell? ⟨wr.heap.size + 1, 0, none⟩ = some (.int .u64 (wat ys' 0 : Nat)) := (hrb 0 (by simp)).1
        have d1 : wc.cell? ⟨wr.heap.size + 1, 1, none⟩ = some (.int .u64 (wat ys' 1 : Nat)) := (hrb 1 (by simp)).1
        have d2 : wc.cell? ⟨wr.heap.size + 1, 2, none⟩ = some (.int .u64 (wat ys' 2 : Nat)) := (hrb 2 (by simp)).1
        have d3 : wc.cell? ⟨wr.heap.size + 1, 3, none⟩ = some (.int .u64 (wat ys' 3 : Nat)) := (hrb 3 (by simp)).1
        have hp := minus_any (wat xs' 0) (wat xs' 1) (wat xs' 2) (wat xs' 3) (wat ys' 0) (wat ys' 1) (wat ys' 2) (wat ys' 3) c wc (wat_lt HR.out.ox _) (wat_lt HR.out.ox _) (wat_lt HR.out.ox _) (wat_lt HR.out.ox _) (wat_lt HR.out.oy _) (wat_lt HR.out.oy _) (wat_lt HR.out.oy _) (wat_lt HR.out.oy _) HR.out.carry
        have HP := Lib.hid hp
        have HA := Lib.hid hra
        have HC := Lib.hid (And.intro hbc hsz)
        clear hp hra hrb hbc hsz
        go_wp2_with fail
        refine HP.out.mono ?_
        rintro e w4 ⟨s0, s1, s2, s3, d, rfl, hs0, hs1, hs2, hs3, hd, heq, hb4⟩
        have HE := Lib.hid heq
        have HB4 := Lib.hid hb4
        have hr4 : Row w4 wr.heap.size 0 (four xs') := HA.out.below hb4 (by have := HC.out.2; omega)
        have k0 : w4.cell? ⟨wr.heap.size, 0, none⟩ = some (.int .u64 (wat xs' 0 : Nat)) := (hr4 0 (by simp)).1
        have k1 : w4.cell? ⟨wr.heap.size, 1, none⟩ = some (.int .u64 (wat xs' 1 : Nat)) := (hr4 1 (by simp)).1
        have k2 : w4.cell? ⟨wr.heap.size, 2, none⟩ = some (.int .u64 (wat xs' 2 : Nat)) := (hr4 2 (by simp)).1
        have k3 : w4.cell? ⟨wr.heap.size, 3, none⟩ = some (.int .u64 (wat xs' 3 : Nat)) := (hr4 3 (by simp)).1
        have f0 : w4.frozen? ⟨wr.heap.size, 0, none⟩ = false := (hr4 0 (by simp)).2
        have f1 : w4.frozen? ⟨wr.heap.size, 1, none⟩ = false := (hr4 1 (by simp)).2
        have f2 : w4.frozen? ⟨wr.heap.size, 2, none⟩ = false := (hr4 2 (by simp)).2
        have f3 : w4.frozen? ⟨wr.heap.size, 3, none⟩ = false := (hr4 3 (by simp)).2
        have HR4 := Lib.hid hr4
        clear hr4 heq hb4 c0 c1 c2 c3 d0 d1 d2 d3
        go_upto_region 7 with fail
        show Code.wp _ _ _ _ (w4.setCells wr.heap.size 0 (u64s [s0, s1, s2, s3]))
        generalize hw5 : w4.setCells wr.heap.size 0 (u64s [s0, s1, s2, s3]) = w5
        have rr : Row w5 wr.heap.size 0 [s0, s1, s2, s3] := by rw [← hw5]; exact row_setCells HR4.out (by simp)
        have b5 : Below wr.heap.size wr w5 := by
          have t5 : Touch w4 w5 wr.heap.size 0 (u64s [s0, s1, s2, s3]).length := by rw [← hw5]; exact touch_setCells _ _ _ _
          have h1 := HC.out.1
          have h2 := HB4.out
          exact touch_below (h1.trans (h2.mono (by have := HC.out.2; omega))) t5 (by have := h2.size; have := HC.out.2; omega) (Nat.le_refl _)
        have rg : Row w5 w.heap.size 0 rs := HR.out.row.below b5 HR.out.size
        have rm : Room w5 w.heap.size (xs.length + 4) := HR.out.room.below b5 HR.out.size
        have HS := Lib.hid (And.intro hs0 (And.intro hs1 (And.intro hs2 (And.intro hs3 hd))))
        have H5 := Lib.hid b5
        have HRR := Lib.hid rr
        have HRG := Lib.hid rg
        have HRM := Lib.hid rm
        have hroom : rs.length + 4 ≤ xs.length + 4 := by have := HR.out.l2 hlt; omega
        have HRO := Lib.hid hroom
        clear hw5 rr b5 rg rm k0 k1 k2 k3 f0 f1 f2 f3 hs0 hs1 hs2 hs3 hd hroom
        go_wp2_with (at_builtin; refine wpList_append_room1 _ rfl (.tmp 36) (.tmp 37) 90 89 rfl 85 _ 8 Tryz.underlying90 infoU w.heap.size 0 rs.length (xs.length + 4) rfl _ rfl 4 (u64s [s0, s1, s2, s3]) ?src ?room ?cc ?ff ?_)
        case src => exact Src.ofSlice _ Tryz.underlying89 ⟨wr.heap.size, 0, none⟩ 4 4 _ rfl (fun j v hv => by
          rw [Addr.add_lit]
          unfold u64s at hv
          rw [List.getElem?_map] at hv
          obtain ⟨x, hx, rfl⟩ := Option.map_eq_some_iff.1 hv
          obtain ⟨hj, rfl⟩ := List.getElem?_eq_some_iff.1 hx
          rw [(HRR.out j hj).1, List.getD_eq_getElem?_getD, hx]; rfl) (u64s_one _)
        case room => exact HRO.out
        case cc => intro j hj; rw [Nat.zero_add]; exact (HRM.out (rs.length + j) (by have := HRO.out; have : j < 4 := hj; omega)).1
        case ff => intro j hj; rw [Nat.zero_add]; exact (HRM.out (rs.length + j) (by have := HRO.out; have : j < 4 := hj; omega)).2
        have hst := HR.out.step hlt rfl HK1.out HK2.out H5.out HS.out (Or.inr ⟨rfl, HE.out⟩)
        refine ⟨⟨dropP p cx kx, dropP q cy ky, cx - kx, cy - ky, xs'.drop 4, ys'.drop 4, rs ++ [s0, s1, s2, s3], d, by rw [List.length_drop], by rw [List.length_drop], by rw [List.length_append]; rfl, rfl, hst⟩, ?_⟩
        simp only [sliceLen]
        omega
    · have hfin := HR.out.final (v := V) (by omega) rfl (Or.inr rfl)
      have hl1 := HR.out.l1
      have ho : Ok (rs ++ [c]) := HR.out.or.append (Ok.nil.cons (by omega))
      have HL := Lib.hid (And.intro hl1 (And.intro ho hfin))
      have hb9 : Below w.heap.size w (wr.alloc (.cells #[.int .u64 (c : Nat)] 85)) := HR.out.below.alloc (by have := HR.out.size; omega) _
      have rg : Row (wr.alloc (.cells #[.int .u64 (c : Nat)] 85)) w.heap.size 0 rs := HR.out.row.below (B := wr.heap.size) ((Below.refl _ _).alloc (Nat.le_refl _) _) HR.out.size
      have rm : Room (wr.alloc (.cells #[.int .u64 (c : Nat)] 85)) w.heap.size (xs.length + 4) := HR.out.room.below (B := wr.heap.size) ((Below.refl _ _).alloc (Nat.le_refl _) _) HR.out.size
      have HB9 := Lib.hid hb9
      have HRG := Lib.hid rg
      have HRM := Lib.hid rm
      have hrl : rs.length ≤ 524300 := by omega
      clear hl1 ho hfin hb9 rg rm hc
      go_wp2_with (at_builtin; refine wpList_append_room1 _ rfl (.tmp 39) (.tmp 41) 90 90 rfl 85 _ 8 Tryz.underlying90 infoU w.heap.size 0 rs.length (xs.length + 4) rfl _ rfl 1 (u64s [c]) ?src ?room ?cc ?ff ?_)
      case src => exact Src.ofSlice _ Tryz.underlying90 ⟨wr.heap.size, 0, none⟩ 1 1 _ rfl (cell_one_new _ _ _) (u64s_one _)
      case room => have := HL.out.1; omega
      case cc => intro j hj; rw [Nat.zero_add]; exact (HRM.out (rs.length + j) (by have := HL.out.1; have : j < 1 := hj; omega)).1
      case ff => intro j hj; rw [Nat.zero_add]; exact (HRM.out (rs.length + j) (by have := HL.out.1; have : j < 1 := hj; omega)).2
      have hr9 : Row ((wr.alloc (.cells #[.int .u64 (c : Nat)] 85)).setCells w.heap.size rs.length (u64s [c])) w.heap.size 0 (rs ++ [c]) := row_push HRG.out HRM.out (by have := HL.out.1; simp; omega)
      have hb10 : Below w.heap.size w ((wr.alloc (.cells #[.int .u64 (c : Nat)] 85)).setCells w.heap.size rs.length (u64s [c])) := touch_below HB9.out (touch_setCells _ _ _ _) (by have := HR.out.size; simp; omega) (Nat.le_refl _)
      have htr := trim_any (some ⟨w.heap.size, 0, none⟩) (rs ++ [c]) (xs.length + 4) _ (.inr ⟨_, _, rfl, hr9⟩) (by simp; omega) (by have := HL.out.1; simp; omega) (by unfold maxLen; omega)
      have hfin := natRes_trim (cap := xs.length + 4) HL.out.2.1 hr9 (by have := HL.out.1; simp; omega) (by unfold maxLen; omega) (Nat.le_refl _) hb10
      rw [HL.out.2.2] at hfin
      rw [List.length_append, List.length_singleton] at htr
      have HF := Lib.hid hfin
      have HTR := Lib.hid htr
      clear hr9 hb10 htr hfin
      refine HTR.out.mono ?_
      rintro e w2 ⟨rfl, rfl⟩
      go_wp2_with fail
      go_ret
      exact HF.out
end Go.Proofs.YtpdhffjdgnpikaaGreatDoor

namespace Go.Proofs.YtpdhffjdgnpikaaGreatDoor
open Go.RowKit Go.Shelf

set_option maxHeartbeats 1000000 in
set_option maxRecDepth 100000 in
theorem sum_any (p q : Option Addr) (cx cy m n : Nat) (w : World) (hx : Nt w p (nw m)) (hy : Nt w q (nw n)) (hcx : (nw m).length ≤ cx) (hcy : (nw n).length ≤ cy) (hm : (nw m).length ≤ 524288) (hn : (nw n).length ≤ 524288) :
    Calls Tryz.prog 129 #[.slice p (nw m).length cx, .slice q (nw n).length cy] w (NatRes w (m + n)) := by
  have hv : wv (nw m) = m := wv_nw m
  have hu : wv (nw n) = n := wv_nw n
  by_cases hlt : (nw m).length < (nw n).length
  · have hb := blockwise_plus q p cy cx (nw n) (nw m) w hy hx hcy hcx (by omega) hn (nw_ok _) (nw_ok _) (m + n) (by rw [hv, hu]; omega)
    have HB := Lib.hid hb
    clear hb hv hu hx hy hcx hcy
    go_enter Tryz.func129, Tryz.ntmps129
    go_wp2_with fail
    refine HB.out.mono ?_
    rintro e w2 ⟨g, cap, rfl, h⟩
    have H := Lib.hid h
    clear h
    go_wp2_with fail
    go_ret
    exact ⟨g, cap, rfl, H.out⟩
  · have hb := blockwise_plus p q cx cy (nw m) (nw n) w hx hy hcx hcy (by omega) hm (nw_ok _) (nw_ok _) (m + n) (by rw [hv, hu]; omega)
    have HB := Lib.hid hb
    clear hb hv hu hx hy hcx hcy
    go_enter Tryz.func129, Tryz.ntmps129
    go_wp2_with fail
    refine HB.out.mono ?_
    rintro e w2 ⟨g, cap, rfl, h⟩
    have H := Lib.hid h
    clear h
    go_wp2_with fail
    go_ret
    exact ⟨g, cap, rfl, H.out⟩

set_option maxHeartbeats 1000000 in
set_option maxRecDepth 100000 in
theorem difference_any (p q : Option Addr) (cx cy m n : Nat) (w : World) (hx : Nt w p (nw m)) (hy : Nt w q (nw n)) (hcx : (nw m).length ≤ cx) (hcy : (nw n).length ≤ cy) (hm : (nw m).length ≤ 524288) (hle : n ≤ m) :
    Calls Tryz.prog 130 #[.slice p (nw m).length cx, .slice q (nw n).length cy] w (NatRes w (m - n)) := by
  have hv : wv (nw m) = m := wv_nw m
  have hu : wv (nw n) = n := wv_nw n
  have hl : (nw n).length ≤ (nw m).length := by
    by_cases hc : (nw m).length < (nw n).length
    · have := nw_length_lt hc; omega
    · omega
  have hb := blockwise_minus p q cx cy (nw m) (nw n) w hx hy hcx hcy hl hm (nw_ok _) (nw_ok _) (m - n) (by rw [hv, hu]; omega)
  have HB := Lib.hid hb
  clear hb hv hu hx hy hcx hcy
  go_enter Tryz.func130, Tryz.ntmps130
  go_wp2_with fail
  refine HB.out.mono ?_
  rintro e w2 ⟨g, cap, rfl, h⟩
  have H := Lib.hid h
  clear h
  go_wp2_with fail
  go_ret
  exact ⟨g, cap, rfl, H.out⟩
end Go.Proofs.YtpdhffjdgnpikaaGreatDoor

namespace Go.Proofs.YtpdhffjdgnpikaaGreatDoor
open Go.RowKit

theorem loaded_cap {w w' : World} {b n : Nat} {e : Ending} (h : Loaded w b n e w') : ∃ g cap, e = .returned (.slice (some ⟨g, 0, none⟩) (nw n).length cap) ∧ Row w' g 0 (nw n) ∧ (g = b ∨ w.heap.size ≤ g) ∧ w.grownBy w' (some b) ∧ (nw n).length ≤ cap := by
  obtain ⟨g, cap, h1, h2, _, h4, h5, h6⟩ := h
  exact ⟨g, cap, h1, h4, h5, h6, h2⟩
theorem nw_add_length (m n : Nat) : (nw (m + n)).length ≤ (nw m).length + (nw n).length + 1 := by
  apply nw_length_le
  have h1 := wv_lt (nw m) (nw_ok m)
  have h2 := wv_lt (nw n) (nw_ok n)
  rw [wv_nw] at h1 h2
  have h3 : 18446744073709551616 ^ (nw m).length ≤ 18446744073709551616 ^ ((nw m).length + (nw n).length) := Nat.pow_le_pow_right (by omega) (by omega)
  have h4 : 18446744073709551616 ^ (nw n).length ≤ 18446744073709551616 ^ ((nw m).length + (nw n).length) := Nat.pow_le_pow_right (by omega) (by omega)
  rw [Nat.pow_succ]
  omega
theorem nw_sub_length (m n : Nat) : (nw (m - n)).length ≤ (nw m).length := by
  apply nw_length_le
  have h1 := wv_lt (nw m) (nw_ok m)
  rw [wv_nw] at h1
  omega

set_option maxHeartbeats 1000000 in
set_option maxRecDepth 100000 in
theorem add_any (na nb : Bool) (sa sb : ByteArray) (w : World) (ha : sa.size ≤ 262144) (hb : sb.size ≤ 262144) :
    Calls Tryz.prog 117 #[.agg #[.bool na, .string sa], .agg #[.bool nb, .string sb]] w (IntRes w (ival na sa + ival nb sb)) := by
  go_enter Tryz.func117, Tryz.ntmps117
  go_wp2_with fail
  -- the world in which the operands are loaded, by what holds of it
  obtain ⟨zs, hzs⟩ : ∃ zs : Array Value, #[Value.int .u64 0, .int .u64 0, .int .u64 0, .int .u64 0, .int .u64 0, .int .u64 0, .int .u64 0, .int .u64 0, .int .u64 0, .int .u64 0, .int .u64 0, .int .u64 0, .int .u64 0, .int .u64 0, .int .u64 0, .int .u64 0] = zs := ⟨_, rfl⟩
  have hz16 : zs.size = 16 := by rw [← hzs]; rfl
  rw [hzs]
  obtain ⟨W0, hW0⟩ : ∃ W0, ((((w.alloc (Obj.cells #[Value.bool na, Value.string sa] 23)).alloc (Obj.cells #[Value.bool nb, Value.string sb] 23)).alloc (Obj.cells #[Value.bool false, Value.string ⟨#[]⟩] 23)).alloc (Obj.cells zs 92)).alloc (Obj.cells zs 92) = W0 := ⟨_, rfl⟩
  have hs0 : W0.heap.size = w.heap.size + 1 + 1 + 1 + 1 + 1 := by rw [← hW0]; simp
  have tA : Two w.heap.size (.bool na) (.string sa) W0 := by
    rw [← hW0]
    exact (two_new w _ _ _).below (B0 := w.heap.size + 1) (((((Below.refl _ _).alloc (by simp) _).alloc (by simp) _).alloc (by simp) _).alloc (by simp) _) (by omega)
  have tB : Two (w.heap.size + 1) (.bool nb) (.string sb) W0 := by
    rw [← hW0]
    have h := two_new (w.alloc (Obj.cells #[Value.bool na, Value.string sa] 23)) (.bool nb) (.string sb) 23
    rw [World.size_alloc] at h
    exact h.below (B0 := w.heap.size + 1 + 1) ((((Below.refl _ _).alloc (by simp) _).alloc (by simp) _).alloc (by simp) _) (by omega)
  have tR : Two (w.heap.size + 1 + 1) (.bool false) (.string ⟨#[]⟩) W0 := by
    rw [← hW0]
    have h := two_new ((w.alloc (Obj.cells #[Value.bool na, Value.string sa] 23)).alloc (Obj.cells #[Value.bool nb, Value.string sb] 23)) (.bool false) (.string ⟨#[]⟩) 23
    rw [World.size_alloc, World.size_alloc] at h
    exact h.below (B0 := w.heap.size + 1 + 1 + 1) (((Below.refl _ _).alloc (by simp) _).alloc (by simp) _) (by omega)
  have rL : Room W0 (w.heap.size + 1 + 1 + 1) 16 := by
    rw [← hW0]
    have h := room_alloc (((w.alloc (Obj.cells #[Value.bool na, Value.string sa] 23)).alloc (Obj.cells #[Value.bool nb, Value.string sb] 23)).alloc (Obj.cells #[Value.bool false, Value.string ⟨#[]⟩] 23)) zs 92 16 hz16
    rw [World.size_alloc, World.size_alloc, World.size_alloc] at h
    exact h.below (B := w.heap.size + 1 + 1 + 1 + 1) ((Below.refl _ _).alloc (by simp) _) (by omega)
  have rR : Room W0 (w.heap.size + 1 + 1 + 1 + 1) 16 := by
    rw [← hW0]
    have h := room_alloc ((((w.alloc (Obj.cells #[Value.bool na, Value.string sa] 23)).alloc (Obj.cells #[Value.bool nb, Value.string sb] 23)).alloc (Obj.cells #[Value.bool false, Value.string ⟨#[]⟩] 23)).alloc (Obj.cells zs 92)) zs 92 16 hz16
    rw [World.size_alloc, World.size_alloc, World.size_alloc, World.size_alloc] at h
    exact h
  have b0 : Below w.heap.size w W0 := by
    rw [← hW0]
    exact (((((Below.refl _ _).alloc (Nat.le_refl _) _).alloc (by simp) _).alloc (by simp; omega) _).alloc (by simp; omega) _).alloc (by simp; omega) _
  rw [hW0]
  have kA := tA.2.1
  have kB := tB.2.1
  have hsd : W0.drew.heap.size = w.heap.size + 1 + 1 + 1 + 1 + 1 := hs0
  have tA' : Two w.heap.size (.bool na) (.string sa) W0.drew := tA
  have tB' : Two (w.heap.size + 1) (.bool nb) (.string sb) W0.drew := tB
  have tR' : Two (w.heap.size + 1 + 1) (.bool false) (.string ⟨#[]⟩) W0.drew := tR
  have rL' : Room W0.drew (w.heap.size + 1 + 1 + 1) 16 := rL
  have rR' : Room W0.drew (w.heap.size + 1 + 1 + 1 + 1) 16 := rR
  have H0 := Lib.hid (And.intro tA' (And.intro tB' (And.intro tR' (And.intro rL' (And.intro rR' (And.intro b0.drew hsd))))))
  clear tA tB tR rL rR tA' tB' tR' rL' rR' b0 hs0 hsd hW0 hzs hz16
  have tok1 : True := trivial
  go_region_held3 (fun w' => w'.cell? ⟨w.heap.size, 1, none⟩ = some (.string sa) ∧ w'.cell? ⟨w.heap.size + 1, 1, none⟩ = some (.string sb)) (go_keep)
    (first | (go_at_call 104; have _t := tok1; clear tok1; refine (load_any (w.heap.size + 1 + 1 + 1) sa _ (by omega) H0.out.2.2.2.1).mono ?_; intro e wL hL; obtain ⟨gL, capL, rfl, rowL, hgL, hgrL, capLge⟩ := loaded_cap hL; have H1 := Lib.hid (And.intro rowL (And.intro hgL hgrL)); have HCL := Lib.hid capLge; clear capLge; have kA1 := ((H0.out.1.grown hgrL (by omega)).2.1); have kB1 := ((H0.out.2.1.grown hgrL (by omega)).2.1); clear hL rowL hgL hgrL) | (go_at_call 104; refine (load_any (w.heap.size + 1 + 1 + 1 + 1) sb _ (by omega) (H0.out.2.2.2.2.1.grown H1.out.2.2 (by omega))).mono ?_; intro e wR hR; obtain ⟨gR, capR, rfl, rowR, hgR, hgrR, capRge⟩ := loaded_cap hR; have H2 := Lib.hid (And.intro rowR (And.intro hgR hgrR)); have HCR := Lib.hid capRge; clear capRge; have kA2 := (((H0.out.1.grown H1.out.2.2 (by omega)).grown hgrR (by omega)).2.1); have kB2 := (((H0.out.2.1.grown H1.out.2.2 (by omega)).grown hgrR (by omega)).2.1); clear hR rowR hgR hgrR))
  have h1 := H1.out
  have h2 := H2.out
  have h0 := H0.out
  obtain ⟨cA, cB, cR, _, _, cb, cs⟩ := h0
  have gLne : gL ≠ w.heap.size + 1 + 1 + 1 + 1 := by rcases h1.2.1 with h | h <;> omega
  have gLge : w.heap.size ≤ gL := by rcases h1.2.1 with h | h <;> omega
  have rowL2 := h1.1.grown h2.2.2 gLne
  have rowR2 := h2.1
  have cA2 := (cA.grown h1.2.2 (by omega)).grown h2.2.2 (by omega)
  have cB2 := (cB.grown h1.2.2 (by omega)).grown h2.2.2 (by omega)
  have cR2 := (cR.grown h1.2.2 (by omega)).grown h2.2.2 (by omega)
  have cb2 : Below w.heap.size w wR := (cb.grown h1.2.2 (by omega) (fun k e => by cases e; omega)).grown h2.2.2 (by have := h1.2.2.size; omega) (fun k e => by cases e; omega)
  have cz2 : w.heap.size + 1 + 1 + 1 + 1 + 1 ≤ wR.heap.size := by have := h1.2.2.size; have := h2.2.2.size; omega
  have hla := nw_be_length sa.data.toList
  have hlb := nw_be_length sb.data.toList
  rw [← Lib.size_eq] at hla hlb
  have capLge := HCL.out
  have capRge := HCR.out
  obtain ⟨m, hm⟩ : ∃ m, m = beVal sa.data.toList := ⟨_, rfl⟩
  obtain ⟨n, hn⟩ : ∃ n, n = beVal sb.data.toList := ⟨_, rfl⟩
  obtain ⟨z, hz⟩ : ∃ z, ival na sa + ival nb sb = z := ⟨_, rfl⟩
  have hms := hz
  unfold ival at hms
  rw [← hm, ← hn] at hms
  rw [← hm] at hla rowL2 capLge
  rw [← hn] at hlb rowR2 capRge
  rw [← hm, ← hn]
  have HZ := Lib.hid hz
  have HMS := Lib.hid hms
  have HW := Lib.hid (And.intro cA2 (And.intro cB2 (And.intro cR2 (And.intro cb2 (And.intro cz2 (And.intro rowL2 rowR2))))))
  have HN := Lib.hid (And.intro hla (And.intro hlb (And.intro capLge capRge)))
  clear h1 h2 cA cB cR cb cs gLne gLge rowL2 rowR2 cA2 cB2 cR2 cb2 cz2 hla hlb hms hm hn hz capLge capRge H0 H1 H2 HCL HCR
  by_cases hs : na = nb
  · have hq : (na == nb) = true := by rw [hs]; simp
    have hms : (if na = true then -((m + n : Nat) : Int) else ((m + n : Nat) : Int)) = z := by
      rw [← HMS.out, ← hs]; cases na <;> simp <;> omega
    have H5 := Lib.hid hms
    have h1 := HW.out
    have hpr := sum_any (some ⟨gL, 0, none⟩) (some ⟨gR, 0, none⟩) capL capR m n wR.drew (.inr ⟨_, _, rfl, (h1.2.2.2.2.2.1 : Row wR.drew gL 0 (nw m))⟩) (.inr ⟨_, _, rfl, (h1.2.2.2.2.2.2 : Row wR.drew gR 0 (nw n))⟩) HN.out.2.2.1 HN.out.2.2.2 (by have := HN.out.1; omega) (by have := HN.out.2.1; omega)
    have HPR := Lib.hid hpr
    have hlen : (nw (m + n)).length ≤ 70000 := by have := nw_add_length m n; have := HN.out.1; have := HN.out.2.1; omega
    have HLEN := Lib.hid hlen
    have q1 : Two w.heap.size (.bool na) (.string sa) wR.drew := h1.1
    have q2 : Two (w.heap.size + 1) (.bool nb) (.string sb) wR.drew := h1.2.1
    have q3 : Two (w.heap.size + 1 + 1) (.bool false) (.string ⟨#[]⟩) wR.drew := h1.2.2.1
    have q5 : w.heap.size + 1 + 1 + 1 + 1 + 1 ≤ wR.drew.heap.size := h1.2.2.2.2.1
    have HQ := Lib.hid (And.intro q1 (And.intro q2 (And.intro q3 (And.intro h1.2.2.2.1.drew q5))))
    clear q1 q2 q3 q5
    have kA := h1.1.1.1
    have kB := h1.2.1.1.1
    have kA5 : wR.drew.cell? ⟨w.heap.size, 0, none⟩ = some (.bool na) := h1.1.1.1
    have ne0 : ¬ (w.heap.size + 1 + 1 = w.heap.size) := by omega
    clear h1 hpr hms hlen hs kA1 kB1 kA2 kB2
    go_wp2_with fail
    go_region_held3 (fun w' => w'.cell? ⟨w.heap.size, 0, none⟩ = some (.bool na)) (go_keep)
      (first | (go_at_call 129; refine HPR.out.mono ?_; intro e wP hP; obtain ⟨gP, capP, rfl, _, _, rowP, gPge, bP⟩ := hP; have H6 := Lib.hid (And.intro rowP (And.intro gPge bP)); have kS3 := (HQ.out.1.below bP (by have := HQ.out.2.2.2.2; omega)).1.1; clear rowP gPge bP) | (go_at_call 102; have hsn := signed_nat na (some ⟨gP, 0, none⟩) (m + n) capP wP (.inr ⟨_, _, rfl, H6.out.1⟩) (by have := HLEN.out; omega); rw [H5.out] at hsn; refine hsn.mono ?_; clear hsn; intro e wS hS; obtain ⟨he, bS⟩ := hS; subst he; have H7 := Lib.hid bS; have kS4 := ((HQ.out.1.below H6.out.2.2 (by have := HQ.out.2.2.2.2; omega)).below bS (by have := HQ.out.2.2.2.2; have := H6.out.2.2.size; omega)).1.1; have kR4 := ((HQ.out.2.2.1.below H6.out.2.2 (by have := HQ.out.2.2.2.2; omega)).below bS (by have := HQ.out.2.2.2.2; have := H6.out.2.2.size; omega)); obtain ⟨⟨r1, r2⟩, r3, r4⟩ := kR4; clear bS))
    have hsz := HQ.out.2.2.2.2
    have hbw := HQ.out.2.2.2.1
    have hbP := H6.out.2.2
    have hbS := H7.out
    have hsP := hbP.size
    have hbel : Below w.heap.size w ((wS.setCell ⟨w.heap.size + 1 + 1, 0, none⟩ (.bool (ng z))).setCell ⟨w.heap.size + 1 + 1, 1, none⟩ (.string (mg z))) :=
      (((hbw.trans (hbP.mono (by omega))).trans (hbS.mono (by omega))).setCell (by show w.heap.size ≤ w.heap.size + 1 + 1; omega) _).setCell (by show w.heap.size ≤ w.heap.size + 1 + 1; omega) _
    have HBEL := Lib.hid hbel
    clear hsz hbw hbP hbS hsP hbel
    go_wp2_with fail
    refine bodyPost_ret (v := .agg #[.bool (ng z), .string (mg z)]) (by simp [results, Tryz.results117, go_sem, r1, r3]) rfl ?_
    rw [HZ.out]
    exact ⟨rfl, HBEL.out⟩
  · have hq : (na == nb) = false := by cases na <;> cases nb <;> simp at hs ⊢
    have h1 := HW.out
    have hcm := compare_any (some ⟨gL, 0, none⟩) (some ⟨gR, 0, none⟩) m n capL capR wR (.inr ⟨_, _, rfl, h1.2.2.2.2.2.1⟩) (.inr ⟨_, _, rfl, h1.2.2.2.2.2.2⟩) (by have := HN.out.1; omega)
    have kA := h1.1.1.1
    have kB := h1.2.1.1.1
    clear h1
    by_cases hlt : m < n
    · have hcz : cmpZ m n = -1 := cmpZ_lt (by omega)
      rw [hcz] at hcm
      have HCM := Lib.hid hcm
      have hms : (if nb = true then -((n - m : Nat) : Int) else ((n - m : Nat) : Int)) = z := by
        rw [← HMS.out]; cases na <;> cases nb <;> simp at hs ⊢ <;> omega
      have H5 := Lib.hid hms
      have hlen : (nw (n - m)).length ≤ 70000 := by have := nw_sub_length n m; have := HN.out.1; have := HN.out.2.1; omega
      have HLEN := Lib.hid hlen
      have hle : m ≤ n := by omega
      clear hcm hms hlen hs hcz kA1 kB1 kA2 kB2
      go_wp2_with fail
      refine HCM.out.mono ?_
      rintro e wC ⟨rfl, hbC⟩
      have h1 := HW.out
      have cA5 := h1.1.below hbC h1.1.lt
      have cB5 := h1.2.1.below hbC h1.2.1.lt
      have cR5 := h1.2.2.1.below hbC h1.2.2.1.lt
      have cb5 : Below w.heap.size w wC := h1.2.2.2.1.trans (hbC.mono (by have := h1.2.2.2.2.1; omega))
      have cz5 : w.heap.size + 1 + 1 + 1 + 1 + 1 ≤ wC.heap.size := by have := h1.2.2.2.2.1; have := hbC.size; omega
      have nL5 : Nt wC (some ⟨gL, 0, none⟩) (nw m) := Nt.below (.inr ⟨_, _, rfl, h1.2.2.2.2.2.1⟩) hbC
      have nR5 : Nt wC (some ⟨gR, 0, none⟩) (nw n) := Nt.below (.inr ⟨_, _, rfl, h1.2.2.2.2.2.2⟩) hbC
      have nL6 : Nt wC.drew (some ⟨gL, 0, none⟩) (nw m) := nL5
      have nR6 : Nt wC.drew (some ⟨gR, 0, none⟩) (nw n) := nR5
      have hpr := difference_any (some ⟨gR, 0, none⟩) (some ⟨gL, 0, none⟩) capR capL n m wC.drew nR6 nL6 HN.out.2.2.2 HN.out.2.2.1 (by have := HN.out.1; have := HN.out.2.1; omega) hle
      have HPR := Lib.hid hpr
      have q1 : Two w.heap.size (.bool na) (.string sa) wC.drew := cA5
      have q2 : Two (w.heap.size + 1) (.bool nb) (.string sb) wC.drew := cB5
      have q3 : Two (w.heap.size + 1 + 1) (.bool false) (.string ⟨#[]⟩) wC.drew := cR5
      have q5 : w.heap.size + 1 + 1 + 1 + 1 + 1 ≤ wC.drew.heap.size := cz5
      have HQ := Lib.hid (And.intro q1 (And.intro q2 (And.intro q3 (And.intro cb5.drew q5))))
      clear q1 q2 q3 q5
      have kS5 : wC.cell? ⟨w.heap.size + 1, 0, none⟩ = some (.bool nb) := cB5.1.1
      have kS6 : wC.drew.cell? ⟨w.heap.size + 1, 0, none⟩ = some (.bool nb) := cB5.1.1
      have ne0 : ¬ (w.heap.size + 1 + 1 = w.heap.size + 1) := by omega
      clear h1 cA5 cB5 cR5 cb5 cz5 nL5 nR5 nL6 nR6 hpr hbC
      go_wp2_with fail
      go_region_held3 (fun w' => w'.cell? ⟨w.heap.size + 1, 0, none⟩ = some (.bool nb)) (go_keep)
        (first | (go_at_call 130; refine HPR.out.mono ?_; intro e wP hP; obtain ⟨gP, capP, rfl, _, _, rowP, gPge, bP⟩ := hP; have H6 := Lib.hid (And.intro rowP (And.intro gPge bP)); have kS3 := (HQ.out.2.1.below bP (by have := HQ.out.2.2.2.2; omega)).1.1; clear rowP gPge bP) | (go_at_call 102; have hsn := signed_nat nb (some ⟨gP, 0, none⟩) (n - m) capP wP (.inr ⟨_, _, rfl, H6.out.1⟩) (by have := HLEN.out; omega); rw [H5.out] at hsn; refine hsn.mono ?_; clear hsn; intro e wS hS; obtain ⟨he, bS⟩ := hS; subst he; have H7 := Lib.hid bS; have kS4 := ((HQ.out.2.1.below H6.out.2.2 (by have := HQ.out.2.2.2.2; omega)).below bS (by have := HQ.out.2.2.2.2; have := H6.out.2.2.size; omega)).1.1; have kR4 := ((HQ.out.2.2.1.below H6.out.2.2 (by have := HQ.out.2.2.2.2; omega)).below bS (by have := HQ.out.2.2.2.2; have := H6.out.2.2.size; omega)); obtain ⟨⟨r1, r2⟩, r3, r4⟩ := kR4; clear bS))
      have hsz := HQ.out.2.2.2.2
      have hbw := HQ.out.2.2.2.1
      have hbP := H6.out.2.2
      have hbS := H7.out
      have hsP := hbP.size
      have hbel : Below w.heap.size w ((wS.setCell ⟨w.heap.size + 1 + 1, 0, none⟩ (.bool (ng z))).setCell ⟨w.heap.size + 1 + 1, 1, none⟩ (.string (mg z))) :=
        (((hbw.trans (hbP.mono (by omega))).trans (hbS.mono (by omega))).setCell (by show w.heap.size ≤ w.heap.size + 1 + 1; omega) _).setCell (by show w.heap.size ≤ w.heap.size + 1 + 1; omega) _
      have HBEL := Lib.hid hbel
      clear hsz hbw hbP hbS hsP hbel
      go_wp2_with fail
      refine bodyPost_ret (v := .agg #[.bool (ng z), .string (mg z)]) (by simp [results, Tryz.results117, go_sem, r1, r3]) rfl ?_
      rw [HZ.out]
      exact ⟨rfl, HBEL.out⟩
    · obtain ⟨cz, hcz, hge⟩ : ∃ cz : Int, cmpZ m n = cz ∧ ¬ cz < 0 := ⟨_, rfl, by unfold cmpZ; rw [if_neg (by omega)]; split <;> omega⟩
      rw [hcz] at hcm
      have HCM := Lib.hid hcm
      have hms : (if na = true then -((m - n : Nat) : Int) else ((m - n : Nat) : Int)) = z := by
        rw [← HMS.out]; cases na <;> cases nb <;> simp at hs ⊢ <;> omega
      have H5 := Lib.hid hms
      have hlen : (nw (m - n)).length ≤ 70000 := by have := nw_sub_length m n; have := HN.out.1; have := HN.out.2.1; omega
      have HLEN := Lib.hid hlen
      have hle : n ≤ m := by omega
      clear hcm hms hlen hs hcz kA1 kB1 kA2 kB2
      go_wp2_with fail
      refine HCM.out.mono ?_
      rintro e wC ⟨rfl, hbC⟩
      have h1 := HW.out
      have cA5 := h1.1.below hbC h1.1.lt
      have cB5 := h1.2.1.below hbC h1.2.1.lt
      have cR5 := h1.2.2.1.below hbC h1.2.2.1.lt
      have cb5 : Below w.heap.size w wC := h1.2.2.2.1.trans (hbC.mono (by have := h1.2.2.2.2.1; omega))
      have cz5 : w.heap.size + 1 + 1 + 1 + 1 + 1 ≤ wC.heap.size := by have := h1.2.2.2.2.1; have := hbC.size; omega
      have nL5 : Nt wC (some ⟨gL, 0, none⟩) (nw m) := Nt.below (.inr ⟨_, _, rfl, h1.2.2.2.2.2.1⟩) hbC
      have nR5 : Nt wC (some ⟨gR, 0, none⟩) (nw n) := Nt.below (.inr ⟨_, _, rfl, h1.2.2.2.2.2.2⟩) hbC
      have nL6 : Nt wC.drew (some ⟨gL, 0, none⟩) (nw m) := nL5
      have nR6 : Nt wC.drew (some ⟨gR, 0, none⟩) (nw n) := nR5
      have hpr := difference_any (some ⟨gL, 0, none⟩) (some ⟨gR, 0, none⟩) capL capR m n wC.drew nL6 nR6 HN.out.2.2.1 HN.out.2.2.2 (by have := HN.out.1; have := HN.out.2.1; omega) hle
      have HPR := Lib.hid hpr
      have q1 : Two w.heap.size (.bool na) (.string sa) wC.drew := cA5
      have q2 : Two (w.heap.size + 1) (.bool nb) (.string sb) wC.drew := cB5
      have q3 : Two (w.heap.size + 1 + 1) (.bool false) (.string ⟨#[]⟩) wC.drew := cR5
      have q5 : w.heap.size + 1 + 1 + 1 + 1 + 1 ≤ wC.drew.heap.size := cz5
      have HQ := Lib.hid (And.intro q1 (And.intro q2 (And.intro q3 (And.intro cb5.drew q5))))
      clear q1 q2 q3 q5
      have kS5 : wC.cell? ⟨w.heap.size, 0, none⟩ = some (.bool na) := cA5.1.1
      have kS6 : wC.drew.cell? ⟨w.heap.size, 0, none⟩ = some (.bool na) := cA5.1.1
      have ne0 : ¬ (w.heap.size + 1 + 1 = w.heap.size) := by omega
      clear h1 cA5 cB5 cR5 cb5 cz5 nL5 nR5 nL6 nR6 hpr hbC
      go_wp2_with fail
      go_region_held3 (fun w' => w'.cell? ⟨w.heap.size, 0, none⟩ = some (.bool na)) (go_keep)
        (first | (go_at_call 130; refine HPR.out.mono ?_; intro e wP hP; obtain ⟨gP, capP, rfl, _, _, rowP, gPge, bP⟩ := hP; have H6 := Lib.hid (And.intro rowP (And.intro gPge bP)); have kS3 := (HQ.out.1.below bP (by have := HQ.out.2.2.2.2; omega)).1.1; clear rowP gPge bP) | (go_at_call 102; have hsn := signed_nat na (some ⟨gP, 0, none⟩) (m - n) capP wP (.inr ⟨_, _, rfl, H6.out.1⟩) (by have := HLEN.out; omega); rw [H5.out] at hsn; refine hsn.mono ?_; clear hsn; intro e wS hS; obtain ⟨he, bS⟩ := hS; subst he; have H7 := Lib.hid bS; have kS4 := ((HQ.out.1.below H6.out.2.2 (by have := HQ.out.2.2.2.2; omega)).below bS (by have := HQ.out.2.2.2.2; have := H6.out.2.2.size; omega)).1.1; have kR4 := ((HQ.out.2.2.1.below H6.out.2.2 (by have := HQ.out.2.2.2.2; omega)).below bS (by have := HQ.out.2.2.2.2; have := H6.out.2.2.size; omega)); obtain ⟨⟨r1, r2⟩, r3, r4⟩ := kR4; clear bS))
      have hsz := HQ.out.2.2.2.2
      have hbw := HQ.out.2.2.2.1
      have hbP := H6.out.2.2
      have hbS := H7.out
      have hsP := hbP.size
      have hbel : Below w.heap.size w ((wS.setCell ⟨w.heap.size + 1 + 1, 0, none⟩ (.bool (ng z))).setCell ⟨w.heap.size + 1 + 1, 1, none⟩ (.string (mg z))) :=
        (((hbw.trans (hbP.mono (by omega))).trans (hbS.mono (by omega))).setCell (by show w.heap.size ≤ w.heap.size + 1 + 1; omega) _).setCell (by show w.heap.size ≤ w.heap.size + 1 + 1; omega) _
      have HBEL := Lib.hid hbel
      clear hsz hbw hbP hbS hsP hbel
      go_wp2_with fail
      refine bodyPost_ret (v := .agg #[.bool (ng z), .string (mg z)]) (by simp [results, Tryz.results117, go_sem, r1, r3]) rfl ?_
      rw [HZ.out]
      exact ⟨rfl, HBEL.out⟩
end Go.Proofs.YtpdhffjdgnpikaaGreatDoor
