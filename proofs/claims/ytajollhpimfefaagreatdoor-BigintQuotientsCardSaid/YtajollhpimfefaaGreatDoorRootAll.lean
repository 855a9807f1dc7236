/- The contract of bigint.root for all numbers. -/
import Derived.Test.YtajollhpimfefaaGreatDoorLong
import Derived.Test.YtajollhpimfefaaGreatDoorDiv
import Derived.Deep.LoopGhost
import Derived.Outline
import Derived.Handy
namespace Go.Proofs.YtajollhpimfefaaGreatDoor
open Go.RowKit Go.Shelf

/-- root is right for a number whose slice has the room that its length asks. -/
def RootOkC (n r : Nat) : Prop := ∀ (p : Option Addr) (cx : Nat) (w : World), Nt w p (nw n) → (nw n).length ≤ cx →
  Calls Tryz.prog 69 #[.slice p (nw n).length cx] w (NtRes w r)

/-- The first guess is too great. -/
theorem root_guess {n u l r : Nat} (hu : IsRoot (n / 2 ^ (2 * l)) u) (hr : IsRoot n r) : r < (u + 1) * 2 ^ l := by
  refine Classical.byContradiction fun hc => ?_
  have hp := Nat.two_pow_pos (2 * l)
  have h1 : (u + 1) * 2 ^ l * ((u + 1) * 2 ^ l) ≤ r * r := Nat.mul_le_mul (by omega) (by omega)
  have h2 : (u + 1) * 2 ^ l * ((u + 1) * 2 ^ l) = (u + 1) * (u + 1) * 2 ^ (2 * l) := by
    rw [show 2 * l = l + l by omega, Nat.pow_add]
    simp only [Nat.mul_assoc, Nat.mul_comm, Nat.mul_left_comm]
  have h3 : (n / 2 ^ (2 * l) + 1) * 2 ^ (2 * l) ≤ (u + 1) * (u + 1) * 2 ^ (2 * l) := Nat.mul_le_mul_right _ hu.2
  have h4 := Nat.lt_div_mul_add (a := n) hp
  have h5 := hr.1
  rw [Nat.add_mul, Nat.one_mul] at h3
  omega
theorem nw_one : nw 1 = [1] := nw_small 1 (by omega) (by omega)
theorem nw_len_le {m n : Nat} (h : m ≤ n) : (nw m).length ≤ (nw n).length := nw_length_mono h
/-- Half of a sum is no longer. -/
theorem nw_half {g q : Nat} : (nw ((g + q) / 2)).length ≤ (nw g).length + (nw q).length + 1 := Nat.le_trans (nw_len_le (Nat.div_le_self _ _)) (nw_add_length g q)

set_option maxHeartbeats 4000000 in
set_option maxRecDepth 100000 in
theorem rootOk_long (n r : Nat) (hn : 18446744073709551616 ≤ n) (hr : IsRoot n r) (hl : (nw n).length ≤ 65536) (ih : ∀ u s, u < n → IsRoot u s → (nw u).length ≤ 65536 → RootOkC u s) : RootOkC n r := by
  intro p cx w hx hcx
  have hl2 := nw_two hn
  obtain ⟨lx, hlx⟩ : ∃ l, (nw n).length = l := ⟨_, rfl⟩
  rw [hlx] at hcx hl hl2 ⊢
  rcases hx with hx0 | ⟨b, off, rfl, hxr⟩
  · rw [hx0] at hlx; simp at hlx; omega
  obtain ⟨tw, htw⟩ : ∃ t, (nw n).getD (lx - 1) 0 = t := ⟨_, rfl⟩
  obtain ⟨l1, hl1⟩ : ∃ l, l = lx - 1 := ⟨_, rfl⟩
  have htb : tw < 18446744073709551616 := by rw [← htw]; exact (nw_ok n).getD _
  have htop := nw_top (show n ≠ 0 by omega)
  rw [hlx] at htop
  have htw0 : 0 < tw := by
    refine Classical.byContradiction fun hc => ?_
    have e := wv_top (nw n) (lx - 1) (by omega)
    rw [htw, wv_nw] at e
    have := wv_lt ((nw n).take (lx - 1)) ((nw_ok n).take _)
    rw [List.length_take, hlx, Nat.min_eq_left (by omega)] at this
    rw [show tw = 0 by omega, Nat.zero_mul] at e
    omega
  obtain ⟨s, hs63, hs1, hs2, hlz⟩ := lz_ex tw htw0 htb
  have HLZ := Lib.hid hlz
  have c1 : w.cell? ⟨b, off + l1, none⟩ = some (.int .u64 (tw : Nat)) := by rw [← htw, hl1]; exact (hxr (lx - 1) (by omega)).1
  have hb := hxr.lt (by omega)
  obtain ⟨len, hlen⟩ : ∃ l, 64 * lx - s = l := ⟨_, rfl⟩
  obtain ⟨lo, hlo⟩ : ∃ l, len / 4 = l := ⟨_, rfl⟩
  obtain ⟨lo2, hlo2⟩ : ∃ l, 2 * lo = l := ⟨_, rfl⟩
  have i1 : (lx : Int) - 1 = (l1 : Int) := by omega
  have i2 : (l1 : Int) < (lx : Int) := by omega
  have i3 : IntKind.i64.wrap (l1 : Int) = (l1 : Int) := by apply IntWalk.i64_in <;> omega
  have i4 : 64 * (lx : Int) - (s : Int) = (len : Int) := by omega
  have i5 : (len : Int) / 4 = (lo : Int) := by omega
  have i6 : 2 * (lo : Int) = (lo2 : Int) := by omega
  obtain ⟨u, hu⟩ := isRoot_ex (n / 2 ^ lo2)
  obtain ⟨n2, hn2⟩ : ∃ m, n / 2 ^ lo2 = m := ⟨_, rfl⟩
  rw [hn2] at hu
  have hn2n : n2 < n := by
    rw [← hn2]
    exact Nat.div_lt_self (by omega) (Nat.one_lt_two_pow (by omega))
  have hn2l : (nw n2).length ≤ lx := by rw [← hlx]; exact nw_len_le (by omega)
  have hsr := shiftRight_any (some ⟨b, off, none⟩) cx lo2 (nw n) w (.inr ⟨_, _, rfl, hxr⟩) (nw_ok n) (by omega) (by rw [hlx]; exact hcx) (by omega)
  rw [hlx, wv_nw, hn2] at hsr
  have hiu := ih n2 u hn2n hu (by omega)
  have hun : u ≤ n2 := by
    have h1 := hu.1
    rcases Nat.eq_zero_or_pos u with h | h
    · omega
    · have : u * 1 ≤ u * u := Nat.mul_le_mul_left _ h
      omega
  have hgs := root_guess (l := lo) (by rw [hlo2, hn2]; exact hu) hr
  have hul : (nw u).length ≤ lx := by rw [← hlx]; exact nw_len_le (by omega)
  have HSR := Lib.hid hsr
  have HIU := Lib.hid hiu
  have HX := Lib.hid (And.intro hxr (And.intro hlx (And.intro hr (And.intro hgs (And.intro hul (And.intro hl hl2))))))
  have HCX := Lib.hid hcx
  have hr0 : 0 < r := by
    refine Classical.byContradiction fun hc => ?_
    have h := hr.2
    rw [show r = 0 by omega] at h
    omega
  have HX0 := Lib.hid hr0
  clear hr0
  have h0 : ¬ ((lx : Int) = 0) := by omega
  have h1 : ¬ ((lx : Int) = 1) := by omega
  have hlo16 : lo ≤ 1048576 := by omega
  clear ih hsr hiu hgs hul hun hn2l hn2n hu hn2 hlo2 hlo hlen hs1 hs2 hlz htw0 htop htb htw hl1 hxr hlx hcx hr hn
  go_enter Tryz.func69, Tryz.ntmps69
  go_wp2_with (go_at_call 92; refine (HLZ.out _).mono ?_; rintro e w' ⟨rfl, rfl⟩)
  go_wp2_with fail
  refine HSR.out.mono ?_
  rintro e wS ⟨pS, cS, rfl, hcS, ntS, bS⟩
  have hiu := HIU.out pS cS wS ntS hcS
  have HI2 := Lib.hid hiu
  have HB1 := Lib.hid bS
  clear hiu hcS ntS bS
  go_wp2_with fail
  refine HI2.out.mono ?_
  rintro e wU ⟨pU, cU, rfl, hcU, ntU, bU⟩
  have HB2 := Lib.hid (And.intro hcU (And.intro ntU bU))
  clear hcU ntU bU
  go_wp2_with fail
  obtain ⟨W1, hW1⟩ : ∃ W1, wU.alloc (Obj.cells #[Value.int .u64 1] 51) = W1 := ⟨_, rfl⟩
  rw [hW1]
  have r1 : Row W1 wU.heap.size 0 [1] := by rw [← hW1]; exact row_one wU 1 51
  have b1 : Below w.heap.size w W1 := by
    rw [← hW1]
    exact (HB1.out.trans (HB2.out.2.2.mono HB1.out.size)).alloc (Nat.le_trans HB1.out.size HB2.out.2.2.size) _
  have n1 : Nt W1 pU (nw u) := by rw [← hW1]; exact Nt.below HB2.out.2.1 ((Below.refl _ _).alloc (Nat.le_refl _) _)
  have hsm := sum_any pU (some ⟨wU.heap.size, 0, none⟩) cU 1 u 1 W1 n1 (.inr ⟨_, _, rfl, by rw [nw_one]; exact r1⟩) HB2.out.1 (by rw [nw_one]; exact Nat.le_refl _) (by have := HX.out.2.2.2.2.1; omega) (by rw [nw_one]; simp)
  rw [nw_one] at hsm
  simp only [List.length_cons, List.length_nil, Nat.zero_add] at hsm
  have HSM := Lib.hid hsm
  have HB3 := Lib.hid b1
  clear hsm b1 n1 r1 hW1
  refine HSM.out.mono ?_
  rintro e wV ⟨gV, cV, rfl, hcV, hcVm, rowV, hgV, bV⟩
  have hul1 : (nw (u + 1)).length ≤ lx + 2 := by
    have h1 := nw_add_length u 1
    have h2 := HX.out.2.2.2.2.1
    rw [nw_one] at h1
    simp only [List.length_cons, List.length_nil] at h1
    omega
  have hsl := shiftLeft_any (some ⟨gV, 0, none⟩) cV lo (nw (u + 1)) wV (.inr ⟨_, _, rfl, rowV⟩) (nw_ok _) (by omega) (by omega)
  have HSL := Lib.hid hsl
  have HB4 := Lib.hid (And.intro bV hul1)
  clear hsl bV hul1 rowV hcV hcVm hgV
  go_wp2_with fail
  refine HSL.out.mono ?_
  rintro e wT ⟨gT, cT, rs, rfl, hrl, hcl, hok, hwv, rowT, hgT, hgT2, bT⟩
  subst hrl
  obtain ⟨g0, hg0⟩ : ∃ g, (u + 1) * 2 ^ lo = g := ⟨_, rfl⟩
  rw [wv_nw, hg0] at hwv
  have hrs : rs.length ≤ 100000 := by have := HB4.out.2; omega
  have htr := trim_any (some ⟨gT, 0, none⟩) rs rs.length wT (.inr ⟨_, _, rfl, rowT⟩) (by omega) (Nat.le_refl _) (by unfold maxLen; omega)
  have htl := trimW_le rs
  have htk := take_trimW rs hok
  rw [hwv] at htk
  have rowT2 := rowT.take (trimW rs)
  rw [htk] at rowT2
  rw [trimW_length rs hok, hwv] at htr htl
  have hrg0 : r < g0 := by rw [← hg0]; exact HX.out.2.2.2.1
  have HTR := Lib.hid htr
  have b5 : Below w.heap.size w wT := (HB3.out.trans (HB4.out.1.mono HB3.out.size)).trans (bT.mono (Nat.le_trans HB3.out.size HB4.out.1.size))
  have HB5 := Lib.hid (And.intro b5 (And.intro rowT2 (And.intro htl (And.intro hrs hrg0))))
  clear htr b5 rowT2 htl hrs hrg0 htk hwv hg0 bT hgT hgT2 rowT hok hcl
  go_wp2_with fail
  refine HTR.out.mono ?_
  rintro e wT' ⟨rfl, rfl⟩
  go_wp2_with fail
  go_loopg [6] g0 (fun k x wr => ∃ (p : Option Addr) (c : Nat), x = .slice p (nw k).length c ∧ (nw k).length ≤ c ∧ (nw k).length ≤ 100000 ∧ r ≤ k ∧ 0 < k ∧ Nt wr p (nw k) ∧ Below w.heap.size w wr)
  case atStart =>
    have h := HB5.out
    exact ⟨_, _, rfl, h.2.2.1, by omega, by omega, by omega, .inr ⟨_, _, rfl, h.2.1⟩, h.1⟩
  case round =>
    obtain ⟨pg, cg, rfl, hcg, hlg, hrg, hgp, ntg, bg⟩ := hrel
    obtain ⟨hxr, hlx, hr, _, _, hl', _⟩ := HX.out
    have hl := hl'
    obtain ⟨q, hq⟩ : ∃ q, n / gk = q := ⟨_, rfl⟩
    obtain ⟨bt, hbt⟩ : ∃ q', (gk + q) / 2 = q' := ⟨_, rfl⟩
    have hdv := divideOk_all n gk hgp (by rw [hlx]; omega) (some ⟨b, off, none⟩) pg cx cg wr (Nt.below (.inr ⟨b, off, rfl, hxr⟩) bg) ntg (by rw [hlx]; exact HCX.out)
    rw [hlx] at hdv
    have HDV := Lib.hid hdv
    have hge := newton_ge hr.1 hgp
    rw [hq, hbt] at hge
    have hst : gk ≤ bt → gk = r := fun h => newton_stop hr hgp hrg (by rw [hq, hbt]; exact h)
    have hql : (nw q).length ≤ lx := by rw [← hq, ← hlx]; exact nw_div_length n gk
    have hbl : bt ≤ gk + q := by omega
    have HG := Lib.hid (And.intro hcg (And.intro hlg (And.intro hrg (And.intro hgp (And.intro ntg (And.intro bg (And.intro hge (And.intro hst (And.intro hql (And.intro hbl (And.intro hq hbt)))))))))))
    clear hdv hcg hlg hrg hgp ntg bg hge hst hql hbl hq hbt hxr hlx hr hl'
    go_wp2_with fail
    refine HDV.out.mono ?_
    rintro e wD ⟨pq, cq, pr, cr, rfl, hcq, hcr, ntq, ntr, bD⟩
    rw [HG.out.2.2.2.2.2.2.2.2.2.2.1] at hcq ntq ⊢
    have ng1 := Nt.below HG.out.2.2.2.2.1 bD
    have hsm := sum_any pg pq cg cq gk q wD ng1 ntq HG.out.1 hcq (by have := HG.out.2.1; omega) (by have := HG.out.2.2.2.2.2.2.2.2.1; omega)
    have HSM2 := Lib.hid hsm
    have HD1 := Lib.hid (And.intro ng1 (HG.out.2.2.2.2.2.1.trans (bD.mono HG.out.2.2.2.2.2.1.size)))
    clear hsm ng1 bD ntq ntr hcq hcr
    go_wp2_with fail
    refine HSM2.out.mono ?_
    rintro e wE ⟨gs, cs, rfl, hcs, hcsm, rows, hgs, bE⟩
    have hsl2 : (nw (gk + q)).length ≤ 500000 := by have := nw_add_length gk q; have := HG.out.2.1; have := HG.out.2.2.2.2.2.2.2.2.1; omega
    have hsh := shiftRight_any (some ⟨gs, 0, none⟩) cs 1 (nw (gk + q)) wE (.inr ⟨_, _, rfl, rows⟩) (nw_ok _) (by omega) hcs (by omega)
    rw [wv_nw, Nat.pow_one, HG.out.2.2.2.2.2.2.2.2.2.2.2] at hsh
    have HSH := Lib.hid hsh
    have ng2 := Nt.below HD1.out.1 bE
    have HE1 := Lib.hid (And.intro ng2 (And.intro (HD1.out.2.trans (bE.mono HD1.out.2.size)) hsl2))
    clear hsh ng2 hsl2 rows hcs hcsm hgs bE
    go_wp2_with fail
    refine HSH.out.mono ?_
    rintro e wF ⟨pb, cb, rfl, hcb, ntb, bF⟩
    have ng3 := Nt.below HE1.out.1 bF
    have hbtl : (nw bt).length ≤ 500000 := Nat.le_trans (nw_len_le HG.out.2.2.2.2.2.2.2.2.2.1) HE1.out.2.2
    have hcp := compare_any pb pg bt gk cb cg wF ntb ng3 (by omega)
    have HF1 := Lib.hid (And.intro ng3 (And.intro (HE1.out.2.1.trans (bF.mono HE1.out.2.1.size)) (And.intro hcb ntb)))
    clear ng3 ntb hcb bF hbtl
    rcases Nat.lt_or_ge bt gk with hlt | hge
    · rw [cmpZ_lt (by omega)] at hcp
      have HCP := Lib.hid hcp
      have HL := Lib.hid hlt
      clear hcp hlt
      go_wp2_with fail
      refine HCP.out.mono ?_
      rintro e wH ⟨rfl, bH⟩
      have ng4 := Nt.below HF1.out.2.2.2 bH
      have b4 := HF1.out.2.1.trans (bH.mono HF1.out.2.1.size)
      have HH := Lib.hid (And.intro ng4 b4)
      clear ng4 b4 bH
      go_wp2_with fail
      go_roundg bt
      all_goals first
        | exact HL.out
        | (have hg := HG.out
           have h1 := HL.out
           exact ⟨pb, cb, rfl, HF1.out.2.2.1, Nat.le_trans (nw_len_le (Nat.le_of_lt h1)) hg.2.1, hg.2.2.2.2.2.2.1, by have h2 := hg.2.2.2.2.2.2.1; have := HX0.out; omega, HH.out.1, HH.out.2⟩)
    · have hgr : gk = r := HG.out.2.2.2.2.2.2.2.1 hge
      obtain ⟨z, hz⟩ : ∃ z, cmpZ bt gk = z := ⟨_, rfl⟩
      have hz0 : (0 : Int) ≤ z := by
        rcases Nat.lt_or_eq_of_le hge with h | h
        · rw [← hz, cmpZ_gt (by omega)]; omega
        · rw [← hz, cmpZ_eq (by omega)]; omega
      rw [hz] at hcp
      have HCP := Lib.hid hcp
      have HL := Lib.hid hgr
      clear hcp hge hgr hz
      go_wp2_with fail
      refine HCP.out.mono ?_
      rintro e wH ⟨rfl, bH⟩
      have ng4 := Nt.below HF1.out.1 bH
      have b4 := HF1.out.2.1.trans (bH.mono HF1.out.2.1.size)
      have HH := Lib.hid (And.intro ng4 b4)
      clear ng4 b4 bH
      go_wp2_with fail
      go_ret
      have e := HL.out
      subst e
      exact ⟨pg, cg, rfl, HG.out.1, HH.out.1, HH.out.2⟩

/-- root is right for every number of this length. -/
theorem rootOkC (n : Nat) : ∀ r, IsRoot n r → (nw n).length ≤ 65536 → RootOkC n r := by
  induction n using Nat.strongRecOn with
  | _ n ih =>
    intro r hr hl
    rcases Nat.lt_or_ge n 18446744073709551616 with h | h
    · intro p cx w hx _
      exact rootOk_word n r h hr p cx w hx
    · exact rootOk_long n r h hr hl (fun u s hu hs hlu => ih u hu s hs hlu)
end Go.Proofs.YtajollhpimfefaaGreatDoor

namespace Go.Proofs.YtajollhpimfefaaGreatDoor
open Go.RowKit Go.Shelf

set_option maxHeartbeats 1000000 in
set_option maxRecDepth 100000 in
theorem root_genC (na : Bool) (sa : ByteArray) (r : Nat) (w : World) (ha : sa.size ≤ 262144) (hok : RootOkC (beVal sa.data.toList) r) (hr : IsRoot (beVal sa.data.toList) r) (hn : na = false ∨ beVal sa.data.toList = 0) :
    Calls Tryz.prog 36 #[.agg #[.bool na, .string sa]] w fun e w' => e = .returned (.tuple #[iv (r : Int), .bool (decide (r * r = beVal sa.data.toList)), .int .i64 0]) ∧ Below w.heap.size w w' := by
  have HOK := Lib.hid (And.intro hok (And.intro hr hn))
  clear hok hr hn
  go_enter Tryz.func36, Tryz.ntmps36
  go_wp2_with fail
  obtain ⟨zs, hzs⟩ : ∃ zs : Array Value, #[Value.int .u64 0, .int .u64 0, .int .u64 0, .int .u64 0, .int .u64 0, .int .u64 0, .int .u64 0, .int .u64 0, .int .u64 0, .int .u64 0, .int .u64 0, .int .u64 0, .int .u64 0, .int .u64 0, .int .u64 0, .int .u64 0] = zs := ⟨_, rfl⟩
  have hz16 : zs.size = 16 := by rw [← hzs]; rfl
  rw [hzs]
  obtain ⟨W0, hW0⟩ : ∃ W0, ((w.alloc (Obj.cells #[Value.bool na, Value.string sa] 23)).alloc (Obj.cells #[Value.bool false, Value.string ⟨#[]⟩] 23)).alloc (Obj.cells zs 60) = W0 := ⟨_, rfl⟩
  have hs0 : W0.heap.size = w.heap.size + 1 + 1 + 1 := by rw [← hW0]; simp
  have tA : Two w.heap.size (.bool na) (.string sa) W0 := by
    rw [← hW0]
    exact (two_new w _ _ _).below (B0 := w.heap.size + 1) (((Below.refl _ _).alloc (by simp) _).alloc (by simp) _) (by omega)
  have tR : Two (w.heap.size + 1) (.bool false) (.string ⟨#[]⟩) W0 := by
    rw [← hW0]
    have h := two_new (w.alloc (Obj.cells #[Value.bool na, Value.string sa] 23)) (.bool false) (.string ⟨#[]⟩) 23
    simp only [World.size_alloc] at h
    exact h.below (B0 := w.heap.size + 1 + 1) ((Below.refl _ _).alloc (by simp) _) (by omega)
  have rL : Room W0 (w.heap.size + 1 + 1) 16 := by
    rw [← hW0]
    have h := room_alloc ((w.alloc (Obj.cells #[Value.bool na, Value.string sa] 23)).alloc (Obj.cells #[Value.bool false, Value.string ⟨#[]⟩] 23)) zs 60 16 hz16
    simp only [World.size_alloc] at h
    exact h
  have b0 : Below w.heap.size w W0 := by
    rw [← hW0]
    exact (((Below.refl _ _).alloc (Nat.le_refl _) _).alloc (by simp) _).alloc (by simp; omega) _
  rw [hW0]
  have kA := tA.2.1
  have H0 := Lib.hid (And.intro tA (And.intro tR (And.intro rL (And.intro b0 hs0))))
  clear tA tR rL b0 hs0 hW0 hzs hz16
  go_wp2_with fail
  refine (load_any (w.heap.size + 1 + 1) sa _ (by omega) H0.out.2.2.1).mono ?_
  intro e wL hL
  obtain ⟨gL, capL, rfl, rowL, hgL, hgrL, capLge⟩ := loaded_cap hL
  have cA := H0.out.1.grown hgrL (by omega)
  have cR := H0.out.2.1.grown hgrL (by omega)
  have cb : Below w.heap.size w wL := H0.out.2.2.2.1.grown hgrL (by have := H0.out.2.2.2.2; omega) (fun k e => by cases e; omega)
  have cz : w.heap.size + 1 + 1 + 1 ≤ wL.heap.size := by have := H0.out.2.2.2.2; have := hgrL.size; omega
  have hla := nw_be_length sa.data.toList
  rw [← Lib.size_eq] at hla
  obtain ⟨m, hm⟩ : ∃ m, m = beVal sa.data.toList := ⟨_, rfl⟩
  have HM := Lib.hid hm
  rw [← hm] at hla rowL capLge
  rw [← hm]
  have kA := cA.1.1
  clear hL hgL hgrL H0 hm
  have hok := HOK.out.1
  have hr := HOK.out.2.1
  have hn := HOK.out.2.2
  rw [← HM.out] at hok hr hn
  have hrt := hok (some ⟨gL, 0, none⟩) capL wL (.inr ⟨_, _, rfl, rowL⟩) capLge
  have hrm : r ≤ m := by
    have h1 := hr.1
    rcases Nat.eq_zero_or_pos r with h | h
    · omega
    · have : r * 1 ≤ r * r := Nat.mul_le_mul_left _ h
      omega
  have hrl : (nw r).length ≤ (nw m).length := by
    apply nw_length_le
    have h1 := wv_lt (nw m) (nw_ok m)
    rw [wv_nw] at h1
    omega
  have hnl : na = true → (nw m).length = 0 := fun h => by
    rcases hn with h' | h'
    · rw [h'] at h; cases h
    · rw [h']; rfl
  have HRT := Lib.hid hrt
  have HW := Lib.hid (And.intro cA (And.intro cR (And.intro cb (And.intro cz rowL))))
  have HN := Lib.hid (And.intro hla (And.intro hrl (And.intro capLge hr)))
  clear cA cR cb cz rowL hla hrl capLge hok hr hn hrt hrm HOK
  cases na
  all_goals (first | have hl0 := hnl rfl | skip)
  all_goals (try clear hnl)
  all_goals (try have hl1 : ¬ (0 < (nw m).length) := by omega)
  all_goals (try have hl2 : ¬ ((0 : Int) < ((nw m).length : Int)) := by omega)
  all_goals (try have HL0 := Lib.hid hl0)
  all_goals (try clear hl0)
  all_goals go_wp2_with fail
  all_goals refine HRT.out.mono ?_
  all_goals rintro e wQ ⟨pq, cq, rfl, hcq, ntq, hbQ⟩
  all_goals have dR := HW.out.2.1.below hbQ HW.out.2.1.lt
  all_goals have db : Below w.heap.size w wQ := HW.out.2.2.1.trans (hbQ.mono (by have := HW.out.2.2.2.1; omega))
  all_goals have dz : w.heap.size + 1 + 1 + 1 ≤ wQ.heap.size := Nat.le_trans HW.out.2.2.2.1 hbQ.size
  all_goals have dx : Nt wQ (some ⟨gL, 0, none⟩) (nw m) := Nt.below (.inr ⟨_, _, rfl, HW.out.2.2.2.2⟩) hbQ
  all_goals have HE := Lib.hid (And.intro dR (And.intro db (And.intro dz (And.intro dx (And.intro hcq ntq)))))
  all_goals clear dR db dz dx hcq ntq hbQ
  all_goals go_wp2_with fail
  all_goals have hsn := signed_nat false pq r cq wQ HE.out.2.2.2.2.2 (by have := HN.out.1; have := HN.out.2.1; omega)
  all_goals rw [show (if false = true then -(r : Int) else (r : Int)) = (r : Int) from rfl] at hsn
  all_goals refine hsn.mono ?_
  all_goals clear hsn
  all_goals rintro e wS ⟨he, hbS⟩
  all_goals subst he
  all_goals have hpr := product_any pq pq cq cq (nw r) (nw r) wS (HE.out.2.2.2.2.2.below hbS) (HE.out.2.2.2.2.2.below hbS) (by have := HN.out.1; have := HN.out.2.1; omega) (by have := HN.out.1; have := HN.out.2.1; omega) (nw_ok r) (nw_ok r)
  all_goals rw [wv_nw] at hpr
  all_goals have HPR := Lib.hid hpr
  all_goals have HBS := Lib.hid hbS
  all_goals clear hpr hbS
  all_goals go_wp2_with fail
  all_goals refine HPR.out.mono ?_
  all_goals rintro e wP ⟨gP, cP, rfl, hcP, _, rowP, hgP, hbP⟩
  all_goals have hml := nw_mul_length r r
  all_goals have hcm := compare_any (some ⟨gP, 0, none⟩) (some ⟨gL, 0, none⟩) (r * r) m cP capL wP (.inr ⟨_, _, rfl, rowP⟩) ((HE.out.2.2.2.1.below HBS.out).below hbP) (by have := HN.out.1; have := HN.out.2.1; omega)
  all_goals have hcz := cmpZ_zero (r * r) m
  all_goals obtain ⟨cz, hczz⟩ : ∃ cz, cmpZ ((r * r : Nat) : Int) (m : Int) = cz := ⟨_, rfl⟩
  all_goals rw [hczz] at hcm hcz
  all_goals obtain ⟨ex, hex⟩ : ∃ ex, decide (r * r = m) = ex := ⟨_, rfl⟩
  all_goals rw [hex] at hcz
  all_goals have HCM := Lib.hid hcm
  all_goals have HEX := Lib.hid hex
  all_goals have HBP := Lib.hid hbP
  all_goals clear hcm hczz hex hbP hcP rowP hgP hml
  all_goals go_wp2_with fail
  all_goals refine HCM.out.mono ?_
  all_goals rintro e wC ⟨rfl, hbC⟩
  all_goals have gR := (((HE.out.1.below HBS.out HE.out.1.lt).below HBP.out (HE.out.1.below HBS.out HE.out.1.lt).lt).below hbC ((HE.out.1.below HBS.out HE.out.1.lt).below HBP.out (HE.out.1.below HBS.out HE.out.1.lt).lt).lt)
  all_goals have hs1 := HBS.out.size
  all_goals have hs2 := HBP.out.size
  all_goals have hs3 := HE.out.2.2.1
  all_goals have hbel : Below w.heap.size w ((wC.setCell ⟨w.heap.size + 1, 0, none⟩ (.bool (ng (r : Int)))).setCell ⟨w.heap.size + 1, 1, none⟩ (.string (mg (r : Int)))) :=
    ((((HE.out.2.1.trans (HBS.out.mono (by omega))).trans (HBP.out.mono (by omega))).trans (hbC.mono (by omega))).setCell (by show w.heap.size ≤ w.heap.size + 1; omega) _).setCell (by show w.heap.size ≤ w.heap.size + 1; omega) _
  all_goals have fR : Two (w.heap.size + 1) (.bool (ng (r : Int))) (.string (mg (r : Int))) ((wC.setCell ⟨w.heap.size + 1, 0, none⟩ (.bool (ng (r : Int)))).setCell ⟨w.heap.size + 1, 1, none⟩ (.string (mg (r : Int)))) := two_set gR _ _
  all_goals have k1 := fR.1.1
  all_goals have k2 := fR.2.1
  all_goals obtain ⟨⟨r1, r2⟩, r3, r4⟩ := gR
  all_goals have HBEL := Lib.hid hbel
  all_goals clear hs1 hs2 hs3 hbel fR hbC
  all_goals go_wp2_with fail
  all_goals refine bodyPost_ret (v := .tuple #[iv (r : Int), .bool ex, .int .i64 0]) (by simp [results, Tryz.results36, go_sem, k1, k2, iv]) rfl ?_
  all_goals rw [← HM.out, HEX.out]
  all_goals exact ⟨rfl, HBEL.out⟩

theorem root_val {x : Int} {r : Nat} {bx br : Bool} {sx sr : ByteArray} (hx : Val bx sx x) (hs : sx.size ≤ 200) (h0 : 0 ≤ x) (hr : IsRoot x.natAbs r) (h3 : Nam br sr (r : Int)) (W : World) :
    Calls Tryz.prog 36 #[.agg #[.bool bx, .string sx]] W fun e w' => e = .returned (.tuple #[.agg #[.bool br, .string sr], .bool (decide (r * r = x.natAbs)), .int .i64 0]) ∧ Below W.heap.size W w' := by
  have e1 : beVal sx.data.toList = x.natAbs := by rw [← ival_abs bx sx, hx.val]
  have hl : (nw (beVal sx.data.toList)).length ≤ 65536 := by
    have h := nw_be_length sx.data.toList
    rw [← Lib.size_eq] at h
    omega
  have hn : bx = false ∨ beVal sx.data.toList = 0 := by
    cases bx
    · exact .inl rfl
    · refine .inr ?_
      have h1 := hx.val
      have h2 : ival true sx = -(beVal sx.data.toList : Int) := rfl
      omega
  have h := root_genC bx sx r W hx.small (rootOkC _ r (by rw [e1]; exact hr) hl) (by rw [e1]; exact hr) hn
  rw [e1] at h
  obtain ⟨rfl, rfl⟩ := h3
  exact h
theorem rootNeg_val {x : Int} {bx : Bool} {sx : ByteArray} (hx : Val bx sx x) (h0 : x < 0) (W : World) :
    Calls Tryz.prog 36 #[.agg #[.bool bx, .string sx]] W fun e w' => e = .returned (.tuple #[.agg #[.bool false, .string ⟨#[]⟩], .bool false, .int .i64 2]) ∧ Below W.heap.size W w' := by
  cases bx
  · have h1 := hx.val
    have h2 : ival false sx = (beVal sx.data.toList : Int) := rfl
    omega
  · have h1 := hx.val
    have h2 : ival true sx = -(beVal sx.data.toList : Int) := rfl
    exact root_neg sx W hx.small (by omega)

end Go.Proofs.YtajollhpimfefaaGreatDoor
