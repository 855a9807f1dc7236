/- The contracts of bigint.sum and bigint.difference. -/
import Derived.Test.YtmbnkokcpmkpgaaGreatDoorBlockwiseM
import Derived.Test.YtmbnkokcpmkpgaaGreatDoorCompare
namespace Go.Proofs.YtmbnkokcpmkpgaaGreatDoor
open Go.RowKit Go.Shelf

set_option maxHeartbeats 1000000 in
set_option maxRecDepth 100000 in
theorem sum_any (p q : Option Addr) (cx cy m n : Nat) (w : World) (hx : Nt w p (nw m)) (hy : Nt w q (nw n)) (hcx : (nw m).length ≤ cx) (hcy : (nw n).length ≤ cy) (hm : (nw m).length ≤ 524288) (hn : (nw n).length ≤ 524288) :
    Calls Tryz.prog 59 #[.slice p (nw m).length cx, .slice q (nw n).length cy] w (NatRes w (m + n)) := by
  have hv : wv (nw m) = m := wv_nw m
  have hu : wv (nw n) = n := wv_nw n
  by_cases hlt : (nw m).length < (nw n).length
  · have hb := blockwise_plus q p cy cx (nw n) (nw m) w hy hx hcy hcx (by omega) hn (nw_ok _) (nw_ok _) (m + n) (by rw [hv, hu]; omega)
    have HB := Lib.hid hb
    clear hb hv hu hx hy hcx hcy
    go_enter Tryz.func59, Tryz.ntmps59
    go_wp2_with fail
    refine HB.out.mono ?_
    rintro e w2 ⟨g, cap, rfl, h⟩
    have H := Lib.hid h
    clear h
    go_wp2_with fail
    go_ret
    exact ⟨g, cap, rfl, H.out⟩
  · have hb := blockwise_plus p q cx cy (nw m) (nw n) w hx hy hcx hcy (by omega) hm (nw_ok _) (nw_ok _) (m + n) (by rw [hv, hu]; omega)
    have HB := Lib.hid hb
    clear hb hv hu hx hy hcx hcy
    go_enter Tryz.func59, Tryz.ntmps59
    go_wp2_with fail
    refine HB.out.mono ?_
    rintro e w2 ⟨g, cap, rfl, h⟩
    have H := Lib.hid h
    clear h
    go_wp2_with fail
    go_ret
    exact ⟨g, cap, rfl, H.out⟩

set_option maxHeartbeats 1000000 in
set_option maxRecDepth 100000 in
theorem difference_any (p q : Option Addr) (cx cy m n : Nat) (w : World) (hx : Nt w p (nw m)) (hy : Nt w q (nw n)) (hcx : (nw m).length ≤ cx) (hcy : (nw n).length ≤ cy) (hm : (nw m).length ≤ 524288) (hle : n ≤ m) :
    Calls Tryz.prog 61 #[.slice p (nw m).length cx, .slice q (nw n).length cy] w (NatRes w (m - n)) := by
  have hv : wv (nw m) = m := wv_nw m
  have hu : wv (nw n) = n := wv_nw n
  have hl : (nw n).length ≤ (nw m).length := by
    by_cases hc : (nw m).length < (nw n).length
    · have := nw_length_lt hc; omega
    · omega
  have hb := blockwise_minus p q cx cy (nw m) (nw n) w hx hy hcx hcy hl hm (nw_ok _) (nw_ok _) (m - n) (by rw [hv, hu]; omega)
  have HB := Lib.hid hb
  clear hb hv hu hx hy hcx hcy
  go_enter Tryz.func61, Tryz.ntmps61
  go_wp2_with fail
  refine HB.out.mono ?_
  rintro e w2 ⟨g, cap, rfl, h⟩
  have H := Lib.hid h
  clear h
  go_wp2_with fail
  go_ret
  exact ⟨g, cap, rfl, H.out⟩
end Go.Proofs.YtmbnkokcpmkpgaaGreatDoor
