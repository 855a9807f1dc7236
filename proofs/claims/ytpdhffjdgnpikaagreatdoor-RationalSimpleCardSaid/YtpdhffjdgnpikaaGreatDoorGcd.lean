/- The contract of bigint.nextPair. A range over bigint.pairs: the law for the caller, and the iterator's contract. The contracts of bigint.gcd and bigint.Gcd. -/
import Derived.Test.YtpdhffjdgnpikaaGreatDoorLehmer
import Derived.RangeFuncNested
import Derived.RangeFuncBound
import Derived.RangeFuncCalls
import Derived.RangeFuncLeaves
import Derived.Shelf.RegionOpen
import Derived.OwnWalkIn
import Derived.TacticsInMore
import Derived.LoopNIn
import Derived.LoopIn
import Derived.Test.YtpdhffjdgnpikaaGreatDoorMul
namespace Go.Proofs.YtpdhffjdgnpikaaGreatDoor
open Go.RowKit Go.Shelf

/-- A pair with the same common divisors, whose second number is less. -/
def NextRes (w : World) (m n : Nat) (e : Ending) (w' : World) : Prop :=
  ∃ m' n', Nat.gcd m' n' = Nat.gcd m n ∧ n' < n ∧ m' ≤ max m n ∧ PairRes w m' n' e w'

theorem nextRes_div {w w1 w' : World} {m n : Nat} {q pr : Option Addr} {cr cy : Nat} (hn : 0 < n) (hy : Nt w q (nw n)) (hcy : (nw n).length ≤ cy) (hcr : (nw (m % n)).length ≤ cr) (hr : Nt w' pr (nw (m % n)))
    (h1 : Below w.heap.size w w1) (h2 : Below w1.heap.size w1 w') :
    NextRes w m n (.returned (.tuple #[.slice q (nw n).length cy, .slice pr (nw (m % n)).length cr])) w' := by
  have h3 : Below w.heap.size w w' := h1.trans (h2.mono h1.size)
  exact ⟨n, m % n, by rw [Nat.gcd_comm n, ← Nat.gcd_rec, Nat.gcd_comm], Nat.mod_lt _ hn, Nat.le_max_right _ _, q, cy, pr, cr, rfl, hcy, hcr, hy.below h3, hr, h3⟩

set_option maxHeartbeats 4000000 in
set_option maxRecDepth 100000 in
/-- Two machine numbers. -/
theorem next_words (p q : Option Addr) (cx cy m n : Nat) (w : World) (hx : Nt w p (nw m)) (hy : Nt w q (nw n)) (hm : 0 < m ∧ m < 18446744073709551616) (hn : 0 < n ∧ n < 18446744073709551616) :
    Calls Tryz.prog 173 #[.slice p (nw m).length cx, .slice q (nw n).length cy] w (NextRes w m n) := by
  have e1 : nw m = [m] := nw_small m hm.2 (by omega)
  have e2 : nw n = [n] := nw_small n hn.2 (by omega)
  rw [e1] at hx
  rw [e2] at hy
  rcases hx with hx | ⟨bx, ox, rfl, hxr⟩
  · cases hx
  · rcases hy with hy | ⟨by', oy, rfl, hyr⟩
    · cases hy
    · have c1 : w.cell? ⟨bx, ox, none⟩ = some (.int .u64 (m : Nat)) := (hxr 0 (by simp)).1
      have c2 : w.cell? ⟨by', oy, none⟩ = some (.int .u64 (n : Nat)) := (hyr 0 (by simp)).1
      have d1 : w.drew.cell? ⟨bx, ox, none⟩ = some (.int .u64 (m : Nat)) := c1
      have d2 : w.drew.cell? ⟨by', oy, none⟩ = some (.int .u64 (n : Nat)) := c2
      have b1 : bx < w.heap.size := hxr.lt (by simp)
      have b2 : by' < w.heap.size := hyr.lt (by simp)
      obtain ⟨g, hg⟩ : ∃ g, Nat.gcd m n = g := ⟨_, rfl⟩
      have hg0 : 0 < g := by rw [← hg]; exact Nat.gcd_pos_of_pos_left _ hm.1
      have hgm : g ≤ m := by rw [← hg]; exact Nat.gcd_le_left _ hm.1
      have hgw : g < 18446744073709551616 := by omega
      have hcg := fun W => wordGcd_any m n W hm.2 hn.2
      rw [hg] at hcg
      have HCG := Lib.hid hcg
      have ht := fun W (hr : Row W W.heap.size 0 [g]) => hr
      have hl1 : trimW [g] = 1 := by
        have h := trimW_length [g] (Ok.nil.cons hgw)
        rw [h, show wv [g] = g by simp [wv], nw_small g hgw (by omega)]; rfl
      have htr : ∀ (W : World), Calls Tryz.prog 143 #[.slice (some ⟨W.heap.size, 0, none⟩) 1 1] (W.alloc (.cells #[.int .u64 (g : Nat)] 85)) fun e w' => e = .returned (.slice (some ⟨W.heap.size, 0, none⟩) 1 1) ∧ (W.alloc (.cells #[.int .u64 (g : Nat)] 85)) = w' := fun W => by
        have h := trim_any (some ⟨W.heap.size, 0, none⟩) [g] 1 (W.alloc (.cells #[.int .u64 (g : Nat)] 85)) (.inr ⟨W.heap.size, 0, rfl, row_one W g 85⟩) (by simp) (by simp) (by unfold maxLen; omega)
        rw [hl1] at h
        exact h
      have HTR := Lib.hid htr
      rw [e1, e2]
      have HH := Lib.hid (And.intro hg (And.intro hg0 (And.intro hgm (And.intro hgw (And.intro hm (And.intro e1 (And.intro e2 hn)))))))
      clear hxr hyr hg hg0 hgm hgw hcg ht hl1 htr hm hn e1 e2
      have tok1 : True := trivial
      go_enter Tryz.func173, Tryz.ntmps173
      go_wp2_with fail
      go_region_with (first
        | (go_at_call 206; have _t := tok1; clear tok1; refine (HCG.out _).mono ?_; intro e w1 h1; obtain ⟨he, hb1⟩ := h1; subst he; have HB1 := Lib.hid hb1; clear hb1)
        | (go_at_call 143; refine (HTR.out _).mono ?_; intro e w2 h2; obtain ⟨he, hb2⟩ := h2; subst he; subst hb2))
      all_goals go_wp2_with fail
      all_goals refine bodyPost_ret (v := .tuple #[.slice (some ⟨w1.heap.size, 0, none⟩) 1 1, .slice none 0 0]) (by simp [results, Tryz.results173, go_sem, Act.put]) rfl ?_
      all_goals
        obtain ⟨hg, hg0, hgm, hgw, hm, e1, e2, hn⟩ := HH.out
        refine ⟨g, 0, by rw [Nat.gcd_zero_right, hg], hn.1, Nat.le_trans hgm (Nat.le_max_left _ _), some ⟨w1.heap.size, 0, none⟩, 1, none, 0, ?_, ?_, ?_, ?_, .inl nw_zero, ?_⟩
        · rw [nw_small g hgw (by omega), nw_zero]; rfl
        · rw [nw_small g hgw (by omega)]; exact Nat.le_refl _
        · rw [nw_zero]; exact Nat.le_refl _
        · rw [nw_small g hgw (by omega)]; exact .inr ⟨w1.heap.size, 0, rfl, row_one w1 g 85⟩
        · exact ((Below.refl w.heap.size w).drew.trans HB1.out).alloc HB1.out.size _

set_option maxHeartbeats 4000000 in
set_option maxRecDepth 100000 in
theorem nextPair_any (p q : Option Addr) (cx cy m n : Nat) (w : World) (hx : Nt w p (nw m)) (hy : Nt w q (nw n)) (hcx : (nw m).length ≤ cx) (hcy : (nw n).length ≤ cy) (hn : 0 < n)
    (hl : (nw m).length ≤ 262144) (hl2 : (nw n).length ≤ 262144) :
    Calls Tryz.prog 173 #[.slice p (nw m).length cx, .slice q (nw n).length cy] w (NextRes w m n) := by
  have hn1 : 1 ≤ (nw n).length := by
    rcases h : nw n with _ | ⟨a, b⟩
    · rw [nw_eq_nil] at h; omega
    · simp
  by_cases hmn : (0 < m ∧ m < 18446744073709551616) ∧ n < 18446744073709551616
  · exact next_words p q cx cy m n w hx hy hmn.1 ⟨hn, hmn.2⟩
  have hdiv := fun W (hW : Below w.heap.size w W) => divideOk_all m n hn hl p q cx cy W (hx.below hW) (hy.below hW) hcx
  have HH := Lib.hid (And.intro hx (And.intro hy (And.intro hcx (And.intro hcy hn))))
  have hl1 : ¬ ((nw m).length = 1 ∧ (nw n).length = 1) := fun h => hmn (by
    have a1 := wv_lt (nw m) (nw_ok m)
    have a2 := wv_lt (nw n) (nw_ok n)
    rw [wv_nw, h.1] at a1
    rw [wv_nw, h.2] at a2
    refine ⟨⟨Nat.pos_of_ne_zero (fun h0 => ?_), by omega⟩, by omega⟩
    rw [h0, nw_zero] at h
    simp at h)
  obtain ⟨lm, hlm⟩ : ∃ l, (nw m).length = l := ⟨_, rfl⟩
  obtain ⟨ln, hln⟩ : ∃ l, (nw n).length = l := ⟨_, rfl⟩
  rw [hlm, hln] at hl1
  rw [hlm] at hl
  rw [hln] at hl2 hn1
  rw [hlm, hln] at hdiv
  have HDIV := Lib.hid hdiv
  have HLL := Lib.hid (And.intro hlm hln)
  by_cases hbig : 18446744073709551616 ≤ n
  · have hln2 := nw_two hbig
    rw [hln] at hln2
    have hcm := fun W (hW : Below w.heap.size w W) => compare_any p q m n cx cy W (hx.below hW) (hy.below hW) (by omega)
    have K1 : ¬ ((ln : Int) = 1) := by omega
    have K2 : (1 : Int) < (ln : Int) := by omega
    rw [hlm, hln] at hcm
    by_cases hle : n ≤ m
    · have hcz : 0 ≤ cmpZ m n := by
        rcases Nat.lt_or_ge n m with h | h
        · rw [cmpZ_gt (by omega)]; omega
        · rw [cmpZ_eq (by omega)]; omega
      obtain ⟨cz, hczz⟩ : ∃ cz, cmpZ m n = cz := ⟨_, rfl⟩
      rw [hczz] at hcm hcz
      have hczn : ¬ cz < 0 := by omega
      have HCM := Lib.hid hcm
      have hfs := fun W (hW : Below w.heap.size w W) => foresee_any p q cx cy m n W (hx.below hW) (hy.below hW) hbig hle (by omega)
      have happ := fun sx sy nx ny odd W (hW : Below w.heap.size w W) hb hs0 hc hlen => apply_any p q cx cy m n sx sy nx ny odd W (hx.below hW) (hy.below hW) hbig hle (by omega) hb hs0 hc hlen
      rw [hlm, hln] at hfs happ
      have HFS := Lib.hid hfs
      have HAPP := Lib.hid happ
      have HLE := Lib.hid (And.intro hle hbig)
      have hm1 : ¬ ((lm : Int) = 1) := by
        have := nw_two (Nat.le_trans hbig hle)
        omega
      rw [hlm, hln]
      clear hx hy hcx hcy hn hmn hdiv hl1 hlm hln hcm hczz hfs happ hle hbig hln2
      go_enter Tryz.func173, Tryz.ntmps173
      go_wp2_with fail
      refine (HCM.out _ (Below.refl _ _)).mono ?_
      rintro e u1 ⟨rfl, hb1⟩
      have HB1 := Lib.hid hb1
      clear hb1
      go_wp2_with fail
      refine (HFS.out _ HB1.out).mono ?_
      rintro e u2 ⟨sx, sy, nx, ny, odd, rfl, hbd, hcrt, hb2⟩
      have hbel : Below w.heap.size w (u2.alloc (.cells #[.int .u64 (sx : Nat), .int .u64 (sy : Nat), .int .u64 (nx : Nat), .int .u64 (ny : Nat), .bool odd] 183)) :=
        (HB1.out.trans (hb2.mono HB1.out.size)).alloc (HB1.out.trans (hb2.mono HB1.out.size)).size _
      have HB2 := Lib.hid (And.intro hbd (And.intro hcrt hbel))
      clear hbd hcrt hb2 hbel
      by_cases hs0 : sy = 0
      · subst hs0
        go_wp2_with fail
        refine (HDIV.out _ HB2.out.2.2).mono ?_
        rintro e u3 ⟨pq, cq, pr, cr, rfl, hq1, hr1, hq2, hr2, hb3⟩
        have HR := Lib.hid (And.intro hq1 (And.intro hr1 (And.intro hq2 (And.intro hr2 hb3))))
        clear hq1 hr1 hq2 hr2 hb3
        go_wp2_with fail
        go_ret2
        obtain ⟨hq1, hr1, hq2, hr2, hb3⟩ := HR.out
        obtain ⟨hx, hy, hcx, hcy, hn⟩ := HH.out
        have h := nextRes_div hn hy hcy hr1 hr2 HB2.out.2.2 hb3
        rw [HLL.out.2] at h
        exact h
      · have N0 : ¬ ((sy : Int) = 0) := by omega
        have hc2 := HB2.out.2.1.resolve_left hs0
        rw [HLL.out.1, HLL.out.2] at hc2
        have hap := HAPP.out sx sy nx ny odd _ HB2.out.2.2 HB2.out.1 hs0 hc2.1 hc2.2
        have HAP := Lib.hid hap
        have HC2 := Lib.hid (And.intro hc2.1 hs0)
        clear hap hc2 hs0
        go_wp2_with fail
        refine HAP.out.mono ?_
        rintro e u3 ⟨pq, cq, pr, cr, rfl, hq1, hr1, hq2, hr2, hb3⟩
        have HR := Lib.hid (And.intro hq1 (And.intro hr1 (And.intro hq2 (And.intro hr2 hb3))))
        clear hq1 hr1 hq2 hr2 hb3
        go_wp2_with fail
        go_ret2
        obtain ⟨hq1, hr1, hq2, hr2, hb3⟩ := HR.out
        have hcg := cert_gcd HC2.out.1 HC2.out.2
        have h2 := HB2.out.2.2
        exact ⟨_, _, hcg.1, by omega, Nat.le_trans hcg.2.2 (Nat.le_max_right _ _), pq, cq, pr, cr, rfl, hq1, hr1, hq2, hr2, h2.trans (hb3.mono h2.size)⟩
    · rw [cmpZ_lt (by omega)] at hcm
      have HCM := Lib.hid hcm
      rw [hlm, hln]
      clear hx hy hcx hcy hn hmn hdiv hl1 hlm hln hcm hle hbig hln2
      go_enter Tryz.func173, Tryz.ntmps173
      by_cases hm1 : (lm : Int) = 1
      · go_wp2_with fail
        refine (HCM.out _ (Below.refl _ _)).mono ?_
        rintro e u1 ⟨rfl, hb1⟩
        have HB1 := Lib.hid hb1
        clear hb1
        go_wp2_with fail
        refine (HDIV.out _ HB1.out).mono ?_
        rintro e u3 ⟨pq, cq, pr, cr, rfl, hq1, hr1, hq2, hr2, hb3⟩
        have HR := Lib.hid (And.intro hq1 (And.intro hr1 (And.intro hq2 (And.intro hr2 hb3))))
        clear hq1 hr1 hq2 hr2 hb3
        go_wp2_with fail
        go_ret2
        obtain ⟨hq1, hr1, hq2, hr2, hb3⟩ := HR.out
        obtain ⟨hx, hy, hcx, hcy, hn⟩ := HH.out
        have h := nextRes_div hn hy hcy hr1 hr2 HB1.out hb3
        rw [HLL.out.2] at h
        exact h
      · go_wp2_with fail
        refine (HCM.out _ (Below.refl _ _)).mono ?_
        rintro e u1 ⟨rfl, hb1⟩
        have HB1 := Lib.hid hb1
        clear hb1
        go_wp2_with fail
        refine (HDIV.out _ HB1.out).mono ?_
        rintro e u3 ⟨pq, cq, pr, cr, rfl, hq1, hr1, hq2, hr2, hb3⟩
        have HR := Lib.hid (And.intro hq1 (And.intro hr1 (And.intro hq2 (And.intro hr2 hb3))))
        clear hq1 hr1 hq2 hr2 hb3
        go_wp2_with fail
        go_ret2
        obtain ⟨hq1, hr1, hq2, hr2, hb3⟩ := HR.out
        obtain ⟨hx, hy, hcx, hcy, hn⟩ := HH.out
        have h := nextRes_div hn hy hcy hr1 hr2 HB1.out hb3
        rw [HLL.out.2] at h
        exact h
  · have hln1 : ln = 1 := by
      have h := nw_length_le 1 n (by omega)
      omega
    have hm1 : ¬ ((lm : Int) = 1) := by omega
    have hln1' : (ln : Int) = 1 := by omega
    rw [hlm, hln]
    clear hx hy hcx hcy hn hmn hdiv hl1 hlm hln hbig
    subst hln1
    go_enter Tryz.func173, Tryz.ntmps173
    go_wp2_with fail
    refine (HDIV.out _ (Below.refl _ _)).mono ?_
    rintro e u3 ⟨pq, cq, pr, cr, rfl, hq1, hr1, hq2, hr2, hb3⟩
    have HR := Lib.hid (And.intro hq1 (And.intro hr1 (And.intro hq2 (And.intro hr2 hb3))))
    clear hq1 hr1 hq2 hr2 hb3
    go_wp2_with fail
    go_ret2
    obtain ⟨hq1, hr1, hq2, hr2, hb3⟩ := HR.out
    obtain ⟨hx, hy, hcx, hcy, hn⟩ := HH.out
    have h := nextRes_div hn hy hcy hr1 hr2 (Below.refl _ _) hb3
    rw [HLL.out.2] at h
    exact h
end Go.Proofs.YtpdhffjdgnpikaaGreatDoor

namespace Go.Proofs.YtpdhffjdgnpikaaGreatDoor
open Go.RowKit Go.Shelf
attribute [local go_sem] Oper.semAt_some

/-- Only the blocks of S may have turned; new blocks may have been made. -/
structure Moves (S : Nat → Prop) (W W' : World) : Prop where
  os : W'.os = W.os
  tape : W'.tape = W.tape
  output : W'.output = W.output
  size : W.heap.size ≤ W'.heap.size
  block : ∀ k, k < W.heap.size → ¬ S k → W'.heap[k]? = W.heap[k]?

theorem Moves.refl (S : Nat → Prop) (W : World) : Moves S W W := ⟨rfl, rfl, rfl, Nat.le_refl _, fun _ _ _ => rfl⟩
theorem Moves.trans {S : Nat → Prop} {A B C : World} (h : Moves S A B) (k : Moves S B C) : Moves S A C :=
  ⟨k.os.trans h.os, k.tape.trans h.tape, k.output.trans h.output, Nat.le_trans h.size k.size, fun i hi hs => (k.block i (Nat.lt_of_lt_of_le hi h.size) hs).trans (h.block i hi hs)⟩
theorem Moves.wider {S T : Nat → Prop} {A B : World} (h : Moves S A B) (ht : ∀ k, S k → T k) : Moves T A B :=
  ⟨h.os, h.tape, h.output, h.size, fun i hi hs => h.block i hi (fun e => hs (ht i e))⟩
theorem Moves.of_below {S : Nat → Prop} {A B : World} (h : Below A.heap.size A B) : Moves S A B := ⟨h.os, h.tape, h.output, h.size, fun k hk _ => h.block k hk⟩
theorem Moves.of_grown {S : Nat → Prop} {A B : World} {row : Option Nat} (h : A.grownBy B row) (hr : ∀ r, row = some r → S r) : Moves S A B :=
  ⟨h.os, h.tape, h.output, h.size, fun k hk hs => h.block k hk (fun e => hs (hr k e.symm))⟩
theorem Moves.below {S : Nat → Prop} {B : Nat} {w A C : World} (h : Below B w A) (hm : Moves S A C) (hB : B ≤ A.heap.size) (hS : ∀ k, S k → B ≤ k) : Below B w C :=
  h.trans ⟨hm.os, hm.tape, hm.output, hm.size, fun k hk => hm.block k (by omega) (fun e => by have := hS k e; omega)⟩
theorem Moves.heap {S : Nat → Prop} {A B : World} {k : Nat} {o : Obj} (h : Moves S A B) (hk : A.heap[k]? = some o) (hs : ¬ S k) : B.heap[k]? = some o :=
  (h.block k (Array.getElem?_eq_some_iff.1 hk).1 hs).trans hk
theorem Moves.cell {S : Nat → Prop} {A B : World} {b o : Nat} (h : Moves S A B) (hb : b < A.heap.size) (hs : ¬ S b) : B.cell? ⟨b, o, none⟩ = A.cell? ⟨b, o, none⟩ :=
  World.cell?_of_block (w := A) (a := ⟨b, o, none⟩) (h.block b hb hs)
theorem Moves.frozen {S : Nat → Prop} {A B : World} {b o : Nat} (h : Moves S A B) (hb : b < A.heap.size) (hs : ¬ S b) : B.frozen? ⟨b, o, none⟩ = A.frozen? ⟨b, o, none⟩ :=
  World.frozen?_of_block (w := A) (a := ⟨b, o, none⟩) (h.block b hb hs)
theorem Row.moves {S : Nat → Prop} {A B : World} {b off : Nat} {xs : List Nat} (h : Row A b off xs) (hm : Moves S A B) (hs : ¬ S b) : Row B b off xs := fun j hj => by
  have hlt := h.lt (by omega)
  rw [hm.cell hlt hs, hm.frozen hlt hs]
  exact h j hj
/-- A block of one cell, not frozen. -/
def Sole (B : Nat) (v : Value) (W : World) : Prop := Box B v W ∧ ∀ (o : Nat) (x : Value), 0 < o → W.cell? ⟨B, o, none⟩ ≠ some x
theorem sole_new (w : World) (v : Value) (T : TypeId) : Sole w.heap.size v (w.alloc (.cells #[v] T)) := by
  refine ⟨box_new w v T, fun o x ho => ?_⟩
  have hh := heap_alloc_new w (.cells #[v] T)
  rcases o with _ | o
  · omega
  · simp only [World.cell?, hh]; simp
theorem Sole.moves {S : Nat → Prop} {A B : World} {b : Nat} {v : Value} (h : Sole b v A) (hm : Moves S A B) (hs : ¬ S b) : Sole b v B :=
  ⟨⟨(hm.cell h.1.lt hs).trans h.1.1, (hm.frozen h.1.lt hs).trans h.1.2⟩, fun o x ho => by rw [hm.cell h.1.lt hs]; exact h.2 o x ho⟩
theorem Sole.set {W : World} {B : Nat} {v : Value} (h : Sole B v W) (u : Value) : Sole B u (W.setCell ⟨B, 0, none⟩ u) :=
  ⟨h.1.set u, fun o x ho => by
    rw [World.cell?_setCell_other _ _ _ _ (by intro e; have := congrArg Addr.off e; simp at this; omega)]
    exact h.2 o x ho⟩
theorem Sole.word {B : Nat} {v : Value} {W : World} (h : Sole B v W) (hv : ∀ z : Int, v ≠ .int .u64 z) (o : Nat) (z : Int) : W.cell? ⟨B, o, none⟩ ≠ some (.int .u64 z) := by
  rcases o with _ | o
  · rw [h.1.1]; intro e; exact hv z (Option.some.inj e)
  · exact h.2 _ _ (by omega)
theorem Row.sole {B : Nat} {v : Value} {W : World} {b off : Nat} {xs : List Nat} (hr : Row W b off xs) (h0 : 0 < xs.length) (h : Sole B v W) (hv : ∀ z : Int, v ≠ .int .u64 z) : b ≠ B := by
  rintro rfl
  exact h.word hv _ _ (hr 0 h0).1
/-- Neither of two blocks bears a word; the second one bears no cells. -/
def Sep (Bd l : Nat) (W : World) : Prop := (∀ (o : Nat) (v : Int), W.cell? ⟨Bd, o, none⟩ ≠ some (.int .u64 v)) ∧ ∀ (o : Nat) (v : Value), W.cell? ⟨l, o, none⟩ ≠ some v
theorem Nt.moves {A B : World} {S : Nat → Prop} {p : Option Addr} {xs : List Nat} (h : Nt A p xs) (hs : ∀ b o v, A.cell? ⟨b, o, none⟩ = some (.int .u64 v) → ¬ S b) (hm : Moves S A B) : Nt B p xs := by
  rcases h with h | ⟨b, off, rfl, h⟩
  · exact .inl h
  · by_cases h0 : 0 < xs.length
    · exact .inr ⟨b, off, rfl, h.moves hm (hs b _ _ (h 0 h0).1)⟩
    · exact .inl (List.eq_nil_of_length_eq_zero (by omega))

/-- What an iterator promises that yields states, each handed over as two values, until a last one. -/
def StateSeq {σ : Type} (P : Program) (m gf : Nat) (lb : Array Value) (args : σ → Array Value) (Good : σ → World → Prop) (Fin : σ → Prop) (T : Nat → Prop) (Bd : Nat) : Prop :=
  ∀ (l : Nat) (J : Option σ → World → Prop) (W : World) (s0 : σ), (∀ o W1, J o W1 → Sep Bd l W1) → (∀ o W1 W2, J o W1 → Moves T W1 W2 → J o W2) →
    (∀ o s W1, J o W1 → Good s W1 → YieldAt Fence.wide m P l (args s) W1 fun e W' => e = .returned (.bool true) ∧ J (some s) W' ∧ Moves (fun k => k = Bd ∨ k = l) W1 W') →
    Good s0 W → J none W → CallsIn Fence.wide (m + 1) P gf (#[.func (.yield l) #[] #[]] ++ lb) W fun e W' => (∃ v, e = .returned v) ∧ ∃ s, Fin s ∧ J (some s) W' ∧ Good s W'

/-- How a round is left: it goes on. -/
def statePost (Bd : Nat) (I : World → Prop) (W : World) : Exit → Act → World → Prop
  | .normal, _, W' => Moves (fun k => k = Bd) W W' ∧ I W'
  | _, _, _ => False

theorem wide_states {σ : Type} {P : Program} {m gf : Nat} {lb : Array Value} {args : σ → Array Value} {Good : σ → World → Prop} {Fin : σ → Prop} {T : Nat → Prop} {Bd : Nat} {g : Operand} {ps : Array Tmp} {assign body : Code} {Q : Exit → Act → World → Prop} {a : Act} {w : World}
    (hg : a.eval g = .func (.func gf) #[] lb) (eg : ∀ args w, (callFunc gf args).run P w = .ok (.enter gf args) w) (hps : ∀ s, (args s).size = ps.size)
    (hseq : StateSeq P m gf lb args Good Fin T Bd) (hGm : ∀ l s W W', Good s W → Sep Bd l W → Moves (fun k => k = Bd ∨ k = l) W W' → Good s W') (s0 : σ) (hgood : ∀ o o', Good s0 ((w.alloc o).alloc o')) (hT : ∀ k, T k → k < w.heap.size) (hBd : Bd < w.heap.size)
    (I : Option σ → World → Prop) (hI : ∀ o W W', I o W → Moves (fun k => T k ∨ w.heap.size ≤ k) W W' → I o W') (hsep : ∀ o W, I o W → ∀ (off : Nat) (v : Int), W.cell? ⟨Bd, off, none⟩ ≠ some (.int .u64 v)) (h0 : I none w) (a₁ : σ → Act)
    (hassign : ∀ (l : Nat) (s : σ) (W : World) (K : Act → World → Prop), K (a₁ s) W →
      assign.wpIn (Fence.wide.inRound l) m P (Exit.then K (fun _ _ _ => False)) { tmps := (ps.zip (args s)).foldl (fun t (p, v) => t.setIfInBounds p v) a.tmps, defers := [] } W)
    (hbody : ∀ (l : Nat) (o : Option σ) (s : σ) (W : World), I o W → body.wpIn (Fence.wide.inRound l) m P (statePost Bd (I (some s)) W) (a₁ s) W)
    (hdone : ∀ (D : Nat) (s : σ) (W : World), w.heap.size ≤ D → I (some s) W → Good s W → Fin s → W.heap[D]? = some (.deferred (some [])) → Q .normal { a with defers := { target := .collected D, args := #[] } :: a.defers } W) :
    (Code.rangeFunc g ps assign body).wpIn Fence.wide (m + 2) P Q a w := by
  refine wpIn_rangeFunc fun fn _ => ?_
  obtain ⟨rec, hrec⟩ : ∃ rec : LoopState → Option Code → Loop, rec = fun st pe => { state := st, pending := pe, fn, tmps := a.tmps, params := ps, assign, body, defers := w.heap.size } := ⟨_, rfl⟩
  obtain ⟨L, hL⟩ : ∃ L, L = w.heap.size + 1 := ⟨_, rfl⟩
  obtain ⟨W1, hW1⟩ : ∃ W1, (w.alloc (.deferred (some []))).alloc (.loop (rec .ready none)) = W1 := ⟨_, rfl⟩
  have loopThere : W1.heap[L]? = some (.loop (rec .ready none)) := by
    rw [← hW1, hL]; have := World.alloc_heap_new (w.alloc (.deferred (some []))) (.loop (rec .ready none)); rwa [World.size_alloc] at this
  have blockThere : W1.heap[w.heap.size]? = some (.deferred (some [])) := by
    rw [← hW1]; exact (Below.heap_alloc _ _ _ (by simp)).trans (World.alloc_heap_new w _)
  have start : I none W1 := by rw [← hW1]; exact hI none w _ h0 (Moves.of_below (((Below.refl _ w).alloc (Nat.le_refl _) _).alloc (by simp) _))
  have started : Good s0 W1 := by rw [← hW1]; exact hgood _ _
  have put : ∀ (W : World) (c c' : LoopState × Option Code), W.heap[L]? = some (.loop (rec c.1 c.2)) → W.heap[w.heap.size]? = some (.deferred (some [])) →
      (W.putObj L (.loop (rec c'.1 c'.2))).heap[L]? = some (.loop (rec c'.1 c'.2)) ∧ (W.putObj L (.loop (rec c'.1 c'.2))).heap[w.heap.size]? = some (.deferred (some [])) := fun W c c' hl hk =>
    ⟨World.putObj_heap_same (Array.getElem?_eq_some_iff.1 hl).1, (World.putObj_heap_other (by omega)).trans hk⟩
  have mput : ∀ (S : Nat → Prop) (W : World) (o : Obj), S L → Moves S W (W.putObj L o) := fun S W o hS => Moves.of_grown (grownBy_putObj' W L o) (fun r e => by cases e; exact hS)
  refine ⟨L, [{ target := .collected w.heap.size, args := #[] }], W1, { target := .fn (.func gf) lb, args := #[.func (.yield L) #[] #[]] }, W1, gf, #[.func (.yield L) #[] #[]] ++ lb, W1, ?_, ?_, fun _ _ => trivial, ?_, fun h => by simp [Fence.wide] at h, ?_⟩
  · rw [← hW1, hrec, hL]; exact run_enterLoop_outer _ _ _ _ _
  · simp only [resolve, hg]
    simp [go_sem]
  · simp [invoke, go_sem, eg]
  · refine (hseq L (fun o W => I o W ∧ W.heap[L]? = some (.loop (rec .ready none)) ∧ W.heap[w.heap.size]? = some (.deferred (some []))) W1 s0 ?_ ?_ ?_ started ⟨start, loopThere, blockThere⟩).mono ?_
    · rintro o W ⟨hi, hl, _⟩
      exact ⟨hsep o W hi, fun off v => by simp [World.cell?, hl]⟩
    · rintro o W W' ⟨hi, hl, hk⟩ hm
      exact ⟨hI o W W' hi (hm.wider fun k h => .inl h), hm.heap hl (fun h => by have := hT _ h; omega), hm.heap hk (fun h => by have := hT _ h; omega)⟩
    · rintro o s W ⟨hi, hl, hk⟩ hgs
      have hy := run_yield (P := P) (args := args s) hl (by rw [hrec]; exact hps s)
      rw [hrec] at hy
      refine ⟨fn, _, assign, body, hy, roundIn_of_wpIn trivial (hassign _ s W _ ⟨_, run_beginRound hl (by rw [hrec]), ?_⟩)⟩
      obtain ⟨hl2, hk2⟩ := put W (.ready, none) (.busy, none) hl hk
      have hbusy : ({ rec .ready none with state := .busy } : Loop) = rec .busy none := by rw [hrec]
      rw [hbusy]
      have m1 := mput (fun k => k = Bd ∨ k = L) W (.loop (rec .busy none)) (.inr rfl)
      have i1 : I o (W.putObj L (.loop (rec .busy none))) := hI o W _ hi (mput _ W _ (.inr (by omega)))
      refine wpIn_mono (hbody _ o s _ i1) ?_
      rintro e a3 W3 hp
      cases e with
      | normal =>
        obtain ⟨hm3, hi3⟩ := hp
        have hl3 := hm3.heap hl2 (by omega)
        have hk3 := hm3.heap hk2 (by omega)
        obtain ⟨hl4, hk4⟩ := put W3 (.busy, none) (.ready, none) hl3 hk3
        have hr := run_endRound (P := P) none hl3
        refine ⟨.bool true, W3.putObj L (.loop (rec .ready none)), ?_, rfl, ⟨hI _ W3 _ hi3 (mput _ W3 _ (.inr (by omega))), hl4, hk4⟩, (m1.trans (hm3.wider fun k h => .inl h)).trans (mput _ W3 _ (.inr rfl))⟩
        rw [hrec] at hr ⊢
        exact hr
      | ret => exact hp.elim
      | exit id => exact hp.elim
      | goto t => exact hp.elim
      | panic ch => exact hp.elim
      | outgrown => exact hp.elim
    · rintro e W2 ⟨⟨v, rfl⟩, s, hf, ⟨hi, hl, hk⟩, hgs⟩
      refine ⟨none, _, by have := run_endLoop (P := P) hl (by rw [hrec]; simp); rw [hrec] at this; exact this, hdone w.heap.size s _ (Nat.le_refl _) (hI _ W2 _ hi (mput _ W2 _ (.inr (by omega)))) (hGm L s W2 _ hgs ⟨hsep _ W2 hi, fun off v => by simp [World.cell?, hl]⟩ (mput _ W2 _ (.inr rfl))) hf ((World.putObj_heap_other (by omega)).trans hk)⟩

/-- A pair of numbers in two boxes. -/
structure PairSt where
  p : Option Addr
  cx : Nat
  m : Nat
  q : Option Addr
  cy : Nat
  n : Nat
def PairSt.args (s : PairSt) : Array Value := #[.slice s.p (nw s.m).length s.cx, .slice s.q (nw s.n).length s.cy]
structure GoodP (Bx By G : Nat) (s : PairSt) (W : World) : Prop where
  bx : Sole Bx (.slice s.p (nw s.m).length s.cx) W
  by' : Sole By (.slice s.q (nw s.n).length s.cy) W
  nx : Nt W s.p (nw s.m)
  ny : Nt W s.q (nw s.n)
  cx : (nw s.m).length ≤ s.cx
  cy : (nw s.n).length ≤ s.cy
  lx : (nw s.m).length ≤ 262144
  ly : (nw s.n).length ≤ 262144
  gcd : Nat.gcd s.m s.n = G
theorem slice_word (p : Option Addr) (n c : Nat) (z : Int) : Value.slice p n c ≠ .int .u64 z := fun h => by cases h
theorem GoodP.moves {Bx By G Bd l : Nat} {s : PairSt} {W W' : World} (hx : Bx ≠ Bd) (hy : By ≠ Bd) (h : GoodP Bx By G s W) (hs : Sep Bd l W) (hm : Moves (fun k => k = Bd ∨ k = l) W W') : GoodP Bx By G s W' := by
  have hxl : Bx ≠ l := fun e => hs.2 0 _ (e ▸ h.bx.1.1)
  have hyl : By ≠ l := fun e => hs.2 0 _ (e ▸ h.by'.1.1)
  have hn : ∀ b o v, W.cell? ⟨b, o, none⟩ = some (.int .u64 v) → ¬ (b = Bd ∨ b = l) := by
    rintro b o v hc (rfl | rfl)
    · exact hs.1 _ _ hc
    · exact hs.2 _ _ hc
  exact ⟨h.bx.moves hm (by omega), h.by'.moves hm (by omega), h.nx.moves hn hm, h.ny.moves hn hm, h.cx, h.cy, h.lx, h.ly, h.gcd⟩
/-- The second number can be read off the world. -/
theorem GoodP.uniq {Bx By G : Nat} {s t : PairSt} {W : World} (h : GoodP Bx By G s W) (k : GoodP Bx By G t W) : s.n = t.n := by
  have e := h.by'.1.1.symm.trans k.by'.1.1
  simp only [Option.some.injEq, Value.slice.injEq] at e
  obtain ⟨e1, e2, e3⟩ := e
  apply nw_inj
  apply List.ext_getElem e2
  intro j h1 h2
  rcases h.ny with h3 | ⟨b, off, h3, h4⟩
  · rw [h3] at h1; simp at h1
  · rcases k.ny with k3 | ⟨b', off', k3, k4⟩
    · rw [k3] at h2; simp at h2
    · rw [h3, k3] at e1
      cases e1
      have c := (h4 j h1).1.symm.trans (k4 j h2).1
      simp only [Option.some.injEq, Value.int.injEq, true_and] at c
      rw [List.getD_eq_getElem?_getD, List.getD_eq_getElem?_getD, List.getElem?_eq_getElem h1, List.getElem?_eq_getElem h2] at c
      simp at c
      omega
open Classical in
noncomputable def leftP (Bx By G : Nat) (W : World) : Nat := if h : ∃ s, GoodP Bx By G s W then h.choose.n else 0
theorem leftP_eq {Bx By G : Nat} {s : PairSt} {W : World} (h : GoodP Bx By G s W) : leftP Bx By G W = s.n := by
  unfold leftP
  rw [dif_pos ⟨s, h⟩]
  exact (⟨s, h⟩ : ∃ s, GoodP Bx By G s W).choose_spec.uniq h

set_option maxHeartbeats 4000000 in
set_option maxRecDepth 100000 in
theorem pairs_seq (m Bx By Bd G : Nat) (hxy : Bx ≠ By) (hx : Bx ≠ Bd) (hy : By ≠ Bd) :
    StateSeq Tryz.prog m 172 #[.pointer (some ⟨Bx, 0, none⟩), .pointer (some ⟨By, 0, none⟩)] PairSt.args (GoodP Bx By G) (fun s => s.n = 0) (fun k => k = Bx ∨ k = By) Bd := by
  intro l J W s0 hsep hJ hY hg0 hj0
  refine callsIn_of_wp Tryz.func172 rfl trivial ?_ rfl
  simp only [Tryz.ntmps172, List.size_toArray, List.length_cons, List.length_nil, Nat.reduceAdd, Nat.reduceSub, Array.replicate_succ, Array.replicate_zero, List.push_toArray, List.append_toArray, List.nil_append, List.cons_append]
  have HG := Lib.hid hg0
  gi_wp2
  gi_loopw [] (fun wr => ∃ (s : PairSt) (o : Option PairSt), J o wr ∧ GoodP Bx By G s wr) (fun wr => leftP Bx By G wr)
  case atStart => exact ⟨s0, none, hj0, HG.out⟩
  case round =>
    obtain ⟨s, o, hj, hg⟩ := hrel
    obtain ⟨fn, tmps, assign, body, hy', hR⟩ := hY o s wr hj hg
    have k1 := hg.bx.1.1
    have k2 := hg.by'.1.1
    have HS := Lib.hid hg
    have HJ := Lib.hid hj
    have HSEP := Lib.hid (hsep _ _ hj)
    have HR := Lib.hid hR
    simp only [PairSt.args] at hy'
    clear hg hj hR
    by_cases h0 : s.n = 0
    · have hz : (nw s.n).length = 0 := by rw [h0]; rfl
      rw [hz] at k2 hy'
      gi_wp2
      refine HR.out.mono ?_
      rintro e W3 ⟨rfl, hj3, hm3⟩
      have hg3 := HS.out.moves hx hy HSEP.out hm3
      have c2 := hg3.by'.1.1
      rw [hz] at c2
      have HF := Lib.hid (And.intro hj3 hg3)
      clear hj3 hg3 hm3
      gi_wp2
      go_end0
      exact ⟨⟨_, rfl⟩, s, h0, HF.out.1, HF.out.2⟩
    · have hp : 0 < (nw s.n).length := by
        rw [List.length_pos_iff]; exact fun h => h0 ((nw_eq_nil _).1 h)
      have hpi : (0 : Int) < ((nw s.n).length : Int) := by omega
      gi_wp2
      refine HR.out.mono ?_
      rintro e W3 ⟨rfl, hj3, hm3⟩
      have hg3 := HS.out.moves hx hy HSEP.out hm3
      have c1 := hg3.bx.1.1
      have c2 := hg3.by'.1.1
      have hnp := nextPair_any s.p s.q s.cx s.cy s.m s.n W3 hg3.nx hg3.ny hg3.cx hg3.cy (by omega) hg3.lx hg3.ly
      have HNP := Lib.hid hnp
      have HF := Lib.hid (And.intro hj3 hg3)
      clear hj3 hg3 hm3 hnp
      gi_wp2_with (refine ⟨trivial, ?_⟩; gi_at_call 173; refine (callsIn_wide.2 HNP.out).mono ?_; rintro e W4 ⟨m', n', hgc, hlt, hmx, pq, cq, pr, cr, rfl, hq1, hr1, hq2, hr2, hb4⟩; have q1 := HF.out.2.bx.moves (S := fun _ => False) (Moves.of_below hb4) (fun h => h); have q2 := HF.out.2.by'.moves (S := fun _ => False) (Moves.of_below hb4) (fun h => h); have q3 := q1.1.1; have q4 := q1.1.2; have q5 := q2.1.1; have q6 := q2.1.2; have HB4 := Lib.hid (And.intro hgc (And.intro hlt (And.intro hmx (And.intro hq1 (And.intro hr1 (And.intro hq2 (And.intro hr2 (And.intro hb4 (And.intro q1 q2))))))))); clear hgc hlt hmx hq1 hr1 hq2 hr2 hb4 q1 q2)
      obtain ⟨hgc, hlt, hmx, hq1, hr1, hq2, hr2, hb4, q1, q2⟩ := HB4.out
      obtain ⟨hj3, hg3⟩ := HF.out
      have hn1 : Nt (W4.setCell ⟨Bx, 0, none⟩ (.slice pq (nw m').length cq)) pq (nw m') := hq2.moves (S := fun k => k = Bx) (fun b o v hc e => by subst e; exact q1.word (slice_word _ _ _) _ _ hc) (Moves.of_grown (grown_set _ _ _ _) (fun r e => by cases e; rfl))
      have hn2 : Nt (W4.setCell ⟨Bx, 0, none⟩ (.slice pq (nw m').length cq)) pr (nw n') := hr2.moves (S := fun k => k = Bx) (fun b o v hc e => by subst e; exact q1.word (slice_word _ _ _) _ _ hc) (Moves.of_grown (grown_set _ _ _ _) (fun r e => by cases e; rfl))
      have r1 := q1.set (.slice pq (nw m').length cq)
      have r2 := q2.moves (S := fun k => k = Bx) (Moves.of_grown (grown_set W4 Bx 0 (.slice pq (nw m').length cq)) (fun r e => by cases e; rfl)) (fun e => hxy e.symm)
      have hmv : Moves (fun k => k = Bx ∨ k = By) W3 ((W4.setCell ⟨Bx, 0, none⟩ (.slice pq (nw m').length cq)).setCell ⟨By, 0, none⟩ (.slice pr (nw n').length cr)) :=
        ((Moves.of_below hb4).trans (Moves.of_grown (grown_set _ _ _ _) (fun r e => by cases e; exact .inl rfl))).trans (Moves.of_grown (grown_set _ _ _ _) (fun r e => by cases e; exact .inr rfl))
      have hmm : max s.m s.n = s.m ∨ max s.m s.n = s.n := by omega
      have hmb : (nw m').length ≤ 262144 := by
        have h1 := nw_length_mono hmx
        have h2 := hg3.lx
        have h3 := hg3.ly
        rcases hmm with h | h <;> rw [h] at h1 <;> omega
      have hnb : (nw n').length ≤ 262144 := by
        have h1 := nw_length_mono (Nat.le_of_lt hlt)
        have h3 := hg3.ly
        omega
      have hgood : GoodP Bx By G ⟨pq, cq, m', pr, cr, n'⟩ ((W4.setCell ⟨Bx, 0, none⟩ (.slice pq (nw m').length cq)).setCell ⟨By, 0, none⟩ (.slice pr (nw n').length cr)) := by
        refine ⟨r1.moves (S := fun k => k = By) (Moves.of_grown (grown_set _ _ _ _) (fun r e => by cases e; rfl)) hxy, r2.set _, ?_, ?_, hq1, hr1, hmb, hnb, hgc.trans hg3.gcd⟩
        · exact hn1.moves (S := fun k => k = By) (fun b o v hc e => by subst e; exact r2.word (slice_word _ _ _) _ _ hc) (Moves.of_grown (grown_set _ _ _ _) (fun r e => by cases e; rfl))
        · exact hn2.moves (S := fun k => k = By) (fun b o v hc e => by subst e; exact r2.word (slice_word _ _ _) _ _ hc) (Moves.of_grown (grown_set _ _ _ _) (fun r e => by cases e; rfl))
      refine ⟨⟨_, some s, hJ _ _ _ hj3 hmv, hgood⟩, ?_⟩
      rw [leftP_eq hgood, leftP_eq HS.out]
      exact hlt
end Go.Proofs.YtpdhffjdgnpikaaGreatDoor

namespace Go.Proofs.YtpdhffjdgnpikaaGreatDoor
open Go.RowKit Go.Shelf
attribute [local go_sem] Oper.semAt_some

theorem pairs_make (p q : Option Addr) (m n cx cy : Nat) (w : World) :
    Calls Tryz.prog 141 #[.slice p m cx, .slice q n cy] w fun e w' =>
      e = .returned (.func (.func 172) #[] #[.pointer (some ⟨w.heap.size, 0, none⟩), .pointer (some ⟨w.heap.size + 1, 0, none⟩)]) ∧ ((w.alloc (.cells #[.slice p m cx] 90)).alloc (.cells #[.slice q n cy] 90)) = w' := by
  go_enter Tryz.func141, Tryz.ntmps141
  go_wp2_with fail
  go_ret
  exact ⟨rfl, rfl⟩

/-- A number in a slice. -/
def NumRes (w : World) (n : Nat) (e : Ending) (w' : World) : Prop :=
  ∃ (p : Option Addr) (c : Nat), e = .returned (.slice p (nw n).length c) ∧ (nw n).length ≤ c ∧ Nt w' p (nw n) ∧ Below w.heap.size w w'

set_option maxHeartbeats 4000000 in
set_option maxRecDepth 100000 in
theorem gcd_any (p q : Option Addr) (cx cy m n : Nat) (w : World) (hx : Nt w p (nw m)) (hy : Nt w q (nw n)) (hcx : (nw m).length ≤ cx) (hcy : (nw n).length ≤ cy) (hl : (nw m).length ≤ 262144) (hl2 : (nw n).length ≤ 262144) :
    Calls Tryz.prog 103 #[.slice p (nw m).length cx, .slice q (nw n).length cy] w (NumRes w (Nat.gcd m n)) := by
  obtain ⟨lm, hlm⟩ : ∃ l, (nw m).length = l := ⟨_, rfl⟩
  obtain ⟨ln, hln⟩ : ∃ l, (nw n).length = l := ⟨_, rfl⟩
  have HX := Lib.hid (And.intro hx (And.intro hy (And.intro hcx (And.intro hcy (And.intro hl (And.intro hl2 (And.intro hlm hln)))))))
  rw [hlm, hln]
  clear hx hy hcx hcy hl hl2 hlm hln
  refine (callsIn_wide (n := 4)).1 ?_
  refine callsIn_of_wp_marks Tryz.func103 rfl trivial ?_ rfl
  simp only [Tryz.ntmps103, List.size_toArray, List.length_cons, List.length_nil, Nat.reduceAdd, Nat.reduceSub, Array.replicate_succ, Array.replicate_zero, List.push_toArray, List.append_toArray, List.nil_append, List.cons_append]
  gi_wp2_with (refine ⟨trivial, ?_⟩; gi_at_call 141; refine (callsIn_wide.2 (pairs_make _ _ _ _ _ _ _)).mono ?_; rintro e w' ⟨rfl, rfl⟩)
  obtain ⟨W0, hW0⟩ : ∃ W0, (((w.alloc (Obj.cells #[Value.slice none 0 0] 90)).alloc (Obj.cells #[Value.slice p lm cx] 90)).alloc (Obj.cells #[Value.slice q ln cy] 90)) = W0 := ⟨_, rfl⟩
  have hz0 : W0.heap.size = w.heap.size + 1 + 1 + 1 := by rw [← hW0]; simp
  have hw0 : Below w.heap.size w W0 := by rw [← hW0]; exact (((Below.refl _ w).alloc (Nat.le_refl _) _).alloc (by simp) _).alloc (by simp; omega) _
  have hbD : Sole w.heap.size (.slice none 0 0) W0 := by
    rw [← hW0]
    exact (sole_new w _ _).moves (S := fun _ => False) (Moves.of_below ((((Below.refl _ _).alloc (by simp) _).alloc (by simp) _))) (fun h => h)
  have hbX : Sole (w.heap.size + 1) (.slice p lm cx) W0 := by
    rw [← hW0]
    have h := sole_new (w.alloc (Obj.cells #[Value.slice none 0 0] 90)) (.slice p lm cx) 90
    rw [World.size_alloc] at h
    exact h.moves (S := fun _ => False) (Moves.of_below ((Below.refl _ _).alloc (by simp) _)) (fun h => h)
  have hbY : Sole (w.heap.size + 1 + 1) (.slice q ln cy) W0 := by
    rw [← hW0]
    have h := sole_new ((w.alloc (Obj.cells #[Value.slice none 0 0] 90)).alloc (Obj.cells #[Value.slice p lm cx] 90)) (.slice q ln cy) 90
    rw [World.size_alloc, World.size_alloc] at h
    exact h
  rw [hW0]
  clear hW0
  have hgood : ∀ o o', GoodP (w.heap.size + 1) (w.heap.size + 1 + 1) (Nat.gcd m n) ⟨p, cx, m, q, cy, n⟩ ((W0.alloc o).alloc o') := fun o o' => by
    obtain ⟨hx, hy, hcx, hcy, hl, hl2, hlm, hln⟩ := HX.out
    have hb : Below W0.heap.size W0 ((W0.alloc o).alloc o') := ((Below.refl _ _).alloc (Nat.le_refl _) _).alloc (by simp) _
    have hb2 : Below w.heap.size w ((W0.alloc o).alloc o') := hw0.trans (hb.mono (by omega))
    refine ⟨?_, ?_, hx.below hb2, hy.below hb2, hcx, hcy, hl, hl2, rfl⟩
    · show Sole _ (.slice p (nw m).length cx) _
      rw [hlm]
      exact hbX.moves (S := fun _ => False) (Moves.of_below hb) (fun h => h)
    · show Sole _ (.slice q (nw n).length cy) _
      rw [hln]
      exact hbY.moves (S := fun _ => False) (Moves.of_below hb) (fun h => h)
  have HGOOD := Lib.hid hgood
  have HB := Lib.hid (And.intro hz0 (And.intro hw0 hbD))
  clear hgood hw0 hbD hbX hbY
  refine wide_states (σ := PairSt) (args := PairSt.args) (Bd := w.heap.size) (ps := #[10, 11]) rfl (enters_of Tryz.func172 (by kernel_rfl) rfl) (fun _ => rfl)
    (pairs_seq _ (w.heap.size + 1) (w.heap.size + 1 + 1) w.heap.size (Nat.gcd m n) (by omega) (by omega) (by omega)) (fun l s W W' h1 h2 h3 => h1.moves (by omega) (by omega) h2 h3) ⟨p, cx, m, q, cy, n⟩ HGOOD.out (by rintro k (h | h) <;> omega) (by omega)
    (fun o W => Sole w.heap.size (match o with | none => .slice none 0 0 | some s => .slice s.p (nw s.m).length s.cx) W ∧ Below w.heap.size w W ∧ W0.heap.size ≤ W.heap.size) ?hI ?hsep ⟨HB.out.2.2, HB.out.2.1, Nat.le_refl _⟩
    (fun s => { tmps := #[Value.slice p lm cx, Value.slice q ln cy, undef, undef, Value.slice none 0 0, Value.pointer (some { block := w.heap.size, off := 0 }), Value.slice s.p (nw s.m).length s.cx, Value.slice p lm cx, Value.slice q ln cy, Value.func (Fn.func 172) #[] #[Value.pointer (some { block := w.heap.size + 1, off := 0 }), Value.pointer (some { block := w.heap.size + 1 + 1, off := 0 })], Value.slice s.p (nw s.m).length s.cx, Value.slice s.q (nw s.n).length s.cy, undef, undef], defers := [] }) ?assign ?body ?done
  case hI =>
    rintro o A B ⟨h1, h2, h3⟩ hm
    exact ⟨h1.moves hm (by omega), hm.below h2 h2.size (by rintro k ((h | h) | h) <;> omega), Nat.le_trans h3 hm.size⟩
  case hsep =>
    rintro o A ⟨h1, h2, h3⟩ off v
    refine h1.word ?_ off v
    cases o
    · exact slice_word _ _ _
    · exact slice_word _ _ _
  case assign =>
    intro l s W K hK
    simp only [PairSt.args]
    gi_wp2
    exact hK
  case body =>
    rintro l o s W ⟨h1, h2, h3⟩
    have k1 := h1.1.1
    have k2 := h1.1.2
    have HS := Lib.hid (And.intro h1 (And.intro h2 h3))
    obtain ⟨v, hv⟩ : ∃ v, (match o with | none => Value.slice none 0 0 | some s => .slice s.p (nw s.m).length s.cx) = v := ⟨_, rfl⟩
    rw [hv] at k1
    clear h1 h2 h3 hv
    gi_wp2
    refine ⟨Moves.of_grown (grown_set _ _ _ _) (fun r e => by cases e; rfl), HS.out.1.set _, HS.out.2.1.setCell (Nat.le_refl _) _, by have := HS.out.2.2; simp [World.setCell]; omega⟩
  case done =>
    rintro D s W hD ⟨h1, h2, h3⟩ hg hf hK
    have k1 : W.cell? ⟨w.heap.size, 0, none⟩ = some (.slice s.p (nw s.m).length s.cx) := h1.1.1
    have hgc : s.m = Nat.gcd m n := by
      have := hg.gcd
      rw [hf, Nat.gcd_zero_right] at this
      exact this
    have hbel : Below w.heap.size w (W.putObj D (.deferred none)) := h2.trans (belowK_b (w := W0) (by omega) _ D _ _ hD hK rfl rfl)
    have hmv : Moves (fun k => k = D) W (W.putObj D (.deferred none)) := Moves.of_grown (grownBy_putObj' W D _) (fun r e => by cases e; rfl)
    have hnt : Nt (W.putObj D (.deferred none)) s.p (nw s.m) := hg.nx.moves (S := fun k => k = D) (fun b o v hc e => by subst e; simp [World.cell?, hK] at hc) hmv
    have HF := Lib.hid (And.intro hgc (And.intro hK (And.intro hnt (And.intro hbel hg.cx))))
    clear h1 h2 h3 hg hf hK hgc hbel hmv hnt
    gi_wp2
    refine ⟨by simp, .inl ⟨_, _, rfl, run_takeDeferred HF.out.2.1, ?_⟩⟩
    obtain ⟨hgc, hK, hnt, hbel, hcx⟩ := HF.out
    refine ⟨_, results_tmp rfl _ _ _, s.p, s.cx, ?_, ?_, ?_, hbel⟩
    · rw [← hgc]; rfl
    · rw [← hgc]; exact hcx
    · rw [← hgc]; exact hnt

set_option maxHeartbeats 4000000 in
set_option maxRecDepth 100000 in
theorem gcdInt_any (na nb : Bool) (sa sb : ByteArray) (w : World) (ha : sa.size ≤ 262144) (hb : sb.size ≤ 262144) :
    Calls Tryz.prog 54 #[.agg #[.bool na, .string sa], .agg #[.bool nb, .string sb]] w (IntRes w (Nat.gcd (ival na sa).natAbs (ival nb sb).natAbs : Nat)) := by
  have hla := nw_be_length sa.data.toList
  have hlb := nw_be_length sb.data.toList
  rw [← Lib.size_eq] at hla hlb
  obtain ⟨m, hm⟩ : ∃ m, m = beVal sa.data.toList := ⟨_, rfl⟩
  obtain ⟨n, hn⟩ : ∃ n, n = beVal sb.data.toList := ⟨_, rfl⟩
  rw [ival_abs, ival_abs, ← hm, ← hn]
  rw [← hm] at hla
  rw [← hn] at hlb
  obtain ⟨g, hg⟩ : ∃ g, Nat.gcd m n = g := ⟨_, rfl⟩
  have hgl : (nw g).length ≤ 131072 := by
    have h1 : g ≤ m ∨ g = n := by
      rcases Nat.eq_zero_or_pos m with h | h
      · right; rw [← hg, h, Nat.gcd_zero_left]
      · left; rw [← hg]; exact Nat.gcd_le_left _ h
    rcases h1 with h | h
    · have := nw_length_mono h; omega
    · rw [h]; omega
  rw [hg]
  have HN := Lib.hid (And.intro hm (And.intro hn (And.intro hg (And.intro hgl (And.intro hla hlb)))))
  clear hm hn hg hgl hla hlb
  go_enter Tryz.func54, Tryz.ntmps54
  go_wp2_with fail
  -- the world in which the operands are loaded, by what holds of it
  obtain ⟨zs, hzs⟩ : ∃ zs : Array Value, #[Value.int .u64 0, .int .u64 0, .int .u64 0, .int .u64 0, .int .u64 0, .int .u64 0, .int .u64 0, .int .u64 0, .int .u64 0, .int .u64 0, .int .u64 0, .int .u64 0, .int .u64 0, .int .u64 0, .int .u64 0, .int .u64 0] = zs := ⟨_, rfl⟩
  have hz16 : zs.size = 16 := by rw [← hzs]; rfl
  rw [hzs]
  obtain ⟨W0, hW0⟩ : ∃ W0, ((((w.alloc (Obj.cells #[Value.bool na, Value.string sa] 23)).alloc (Obj.cells #[Value.bool nb, Value.string sb] 23)).alloc (Obj.cells #[Value.bool false, Value.string ⟨#[]⟩] 23)).alloc (Obj.cells zs 92)).alloc (Obj.cells zs 92) = W0 := ⟨_, rfl⟩
  have hs0 : W0.heap.size = w.heap.size + 1 + 1 + 1 + 1 + 1 := by rw [← hW0]; simp
  have tA : Two w.heap.size (.bool na) (.string sa) W0 := by
    rw [← hW0]
    exact (two_new w _ _ _).below (B0 := w.heap.size + 1) (((((Below.refl _ _).alloc (by simp) _).alloc (by simp) _).alloc (by simp) _).alloc (by simp) _) (by omega)
  have tB : Two (w.heap.size + 1) (.bool nb) (.string sb) W0 := by
    rw [← hW0]
    have h := two_new (w.alloc (Obj.cells #[Value.bool na, Value.string sa] 23)) (.bool nb) (.string sb) 23
    rw [World.size_alloc] at h
    exact h.below (B0 := w.heap.size + 1 + 1) ((((Below.refl _ _).alloc (by simp) _).alloc (by simp) _).alloc (by simp) _) (by omega)
  have tR : Two (w.heap.size + 1 + 1) (.bool false) (.string ⟨#[]⟩) W0 := by
    rw [← hW0]
    have h := two_new ((w.alloc (Obj.cells #[Value.bool na, Value.string sa] 23)).alloc (Obj.cells #[Value.bool nb, Value.string sb] 23)) (.bool false) (.string ⟨#[]⟩) 23
    rw [World.size_alloc, World.size_alloc] at h
    exact h.below (B0 := w.heap.size + 1 + 1 + 1) (((Below.refl _ _).alloc (by simp) _).alloc (by simp) _) (by omega)
  have rL : Room W0 (w.heap.size + 1 + 1 + 1) 16 := by
    rw [← hW0]
    have h := room_alloc (((w.alloc (Obj.cells #[Value.bool na, Value.string sa] 23)).alloc (Obj.cells #[Value.bool nb, Value.string sb] 23)).alloc (Obj.cells #[Value.bool false, Value.string ⟨#[]⟩] 23)) zs 92 16 hz16
    rw [World.size_alloc, World.size_alloc, World.size_alloc] at h
    exact h.below (B := w.heap.size + 1 + 1 + 1 + 1) ((Below.refl _ _).alloc (by simp) _) (by omega)
  have rR : Room W0 (w.heap.size + 1 + 1 + 1 + 1) 16 := by
    rw [← hW0]
    have h := room_alloc ((((w.alloc (Obj.cells #[Value.bool na, Value.string sa] 23)).alloc (Obj.cells #[Value.bool nb, Value.string sb] 23)).alloc (Obj.cells #[Value.bool false, Value.string ⟨#[]⟩] 23)).alloc (Obj.cells zs 92)) zs 92 16 hz16
    rw [World.size_alloc, World.size_alloc, World.size_alloc, World.size_alloc] at h
    exact h
  have b0 : Below w.heap.size w W0 := by
    rw [← hW0]
    exact (((((Below.refl _ _).alloc (Nat.le_refl _) _).alloc (by simp) _).alloc (by simp; omega) _).alloc (by simp; omega) _).alloc (by simp; omega) _
  rw [hW0]
  have kA := tA.2.1
  have kB := tB.2.1
  have hsd : W0.drew.heap.size = w.heap.size + 1 + 1 + 1 + 1 + 1 := hs0
  have tA' : Two w.heap.size (.bool na) (.string sa) W0.drew := tA
  have tB' : Two (w.heap.size + 1) (.bool nb) (.string sb) W0.drew := tB
  have tR' : Two (w.heap.size + 1 + 1) (.bool false) (.string ⟨#[]⟩) W0.drew := tR
  have rL' : Room W0.drew (w.heap.size + 1 + 1 + 1) 16 := rL
  have rR' : Room W0.drew (w.heap.size + 1 + 1 + 1 + 1) 16 := rR
  have H0 := Lib.hid (And.intro tA' (And.intro tB' (And.intro tR' (And.intro rL' (And.intro rR' (And.intro b0.drew hsd))))))
  clear tA tB tR rL rR tA' tB' tR' rL' rR' b0 hs0 hsd hW0 hzs hz16
  have tok1 : True := trivial
  go_region_held3 (fun w' => w'.cell? ⟨w.heap.size, 1, none⟩ = some (.string sa) ∧ w'.cell? ⟨w.heap.size + 1, 1, none⟩ = some (.string sb)) (refine ⟨?_, ?_⟩ <;> (first | assumption | (rw [World.cell?_setCell_other _ _ _ _ (by intro e; have := congrArg Addr.block e; simp at this <;> omega), World.cell?_setCell_other _ _ _ _ (by intro e; have := congrArg Addr.block e; simp at this <;> omega)]; assumption)))
    (first
    | (go_at_call 104; have _t := tok1; clear tok1; refine (load_any (w.heap.size + 1 + 1 + 1) sa _ (by omega) H0.out.2.2.2.1).mono ?_; intro e wL hL; rw [← HN.out.1] at hL; obtain ⟨gL, capL, rfl, hcL, _, rowL, hgL, hgrL⟩ := hL; have H1 := Lib.hid (And.intro rowL (And.intro hgL (And.intro hgrL hcL))); have kA1 := ((H0.out.1.grown hgrL (by omega)).2.1); have kB1 := ((H0.out.2.1.grown hgrL (by omega)).2.1); clear rowL hgL hgrL hcL)
    | (go_at_call 104; refine (load_any (w.heap.size + 1 + 1 + 1 + 1) sb _ (by omega) (H0.out.2.2.2.2.1.grown H1.out.2.2.1 (by omega))).mono ?_; intro e wR hR; rw [← HN.out.2.1] at hR; obtain ⟨gR, capR, rfl, hcR, _, rowR, hgR, hgrR⟩ := hR; have H2 := Lib.hid (And.intro rowR (And.intro hgR (And.intro hgrR hcR))); have kA2 := (((H0.out.1.grown H1.out.2.2.1 (by omega)).grown hgrR (by omega)).2.1); have kB2 := (((H0.out.2.1.grown H1.out.2.2.1 (by omega)).grown hgrR (by omega)).2.1); have kR2 := ((H0.out.2.2.1.grown H1.out.2.2.1 (by omega)).grown hgrR (by omega)); have bel2 := (H0.out.2.2.2.2.2.1.grown H1.out.2.2.1 (by have := H0.out.2.2.2.2.2.2; omega) (fun k e => by cases e; omega)).grown hgrR (by have := H0.out.2.2.2.2.2.2; have := H1.out.2.2.1.size; omega) (fun k e => by cases e; omega); have gLne : gL ≠ w.heap.size + 1 + 1 + 1 + 1 := H1.out.2.1.elim (fun h => by have := H0.out.2.2.2.2.2.2; omega) (fun h => by have := H0.out.2.2.2.2.2.2; omega); have rowL2 := H1.out.1.grown hgrR gLne; have H3 := Lib.hid (And.intro rowL2 (And.intro kR2 (And.intro bel2 (And.intro (H0.out.1.grown H1.out.2.2.1 (by omega)) (H0.out.2.1.grown H1.out.2.2.1 (by omega)))))); clear rowR hgR hgrR hcR rowL2 kR2 bel2 gLne)
    | (go_at_call 103; refine (gcd_any (some ⟨gL, 0, none⟩) (some ⟨gR, 0, none⟩) capL capR m n wR (.inr ⟨_, _, rfl, H3.out.1⟩) (.inr ⟨_, _, rfl, H2.out.1⟩) H1.out.2.2.2 H2.out.2.2.2 (by have := HN.out.2.2.2.2; omega) (by have := HN.out.2.2.2.2; omega)).mono ?_; intro e wG hG; rw [HN.out.2.2.1] at hG; obtain ⟨pG, cG, rfl, hcG, ntG, bG⟩ := hG; have H4 := Lib.hid (And.intro ntG bG); have kA3 := (bG.cell (p := ⟨w.heap.size, 1, none⟩) (World.block_lt_of_cell? wR _ kA2)).trans kA2; have kB3 := (bG.cell (p := ⟨w.heap.size + 1, 1, none⟩) (World.block_lt_of_cell? wR _ kB2)).trans kB2; clear ntG bG hcG)
    | (go_at_call 102; refine (signed_nat false pG g cG wG H4.out.1 HN.out.2.2.2.1).mono ?_; intro e wS hS; obtain ⟨he, bS⟩ := hS; subst he; have H5 := Lib.hid bS; have kA4 := (bS.cell (p := ⟨w.heap.size, 1, none⟩) (World.block_lt_of_cell? wG _ kA3)).trans kA3; have kB4 := (bS.cell (p := ⟨w.heap.size + 1, 1, none⟩) (World.block_lt_of_cell? wG _ kB3)).trans kB3; have kR4 := (H3.out.2.1.below H4.out.2 (Two.lt H3.out.2.1)).below bS (by have := Two.lt H3.out.2.1; have := H4.out.2.size; omega); obtain ⟨⟨r1, r2⟩, r3, r4⟩ := kR4; clear bS))
  have b1 := H3.out.2.2.1
  have b2 := H4.out.2
  have b3 := H5.out
  have hbel : Below w.heap.size w ((wS.setCell ⟨w.heap.size + 1 + 1, 0, none⟩ (.bool (ng (g : Int)))).setCell ⟨w.heap.size + 1 + 1, 1, none⟩ (.string (mg (g : Int)))) :=
    (((b1.trans (b2.mono b1.size)).trans (b3.mono (Nat.le_trans b1.size b2.size))).setCell (by show w.heap.size ≤ w.heap.size + 1 + 1; omega) _).setCell (by show w.heap.size ≤ w.heap.size + 1 + 1; omega) _
  have HBEL := Lib.hid hbel
  clear b1 b2 b3 hbel
  go_wp2_with fail
  refine bodyPost_ret (v := .agg #[.bool (ng (g : Int)), .string (mg (g : Int))]) (by simp [results, Tryz.results54, go_sem, r1, r3]) rfl ?_
  exact ⟨rfl, HBEL.out⟩
end Go.Proofs.YtpdhffjdgnpikaaGreatDoor
