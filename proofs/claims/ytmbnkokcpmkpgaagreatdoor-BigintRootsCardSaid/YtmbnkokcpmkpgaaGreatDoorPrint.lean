/- The contract of bigint.Print. -/
import Derived.Test.YtmbnkokcpmkpgaaGreatDoorDecimal
import Derived.Test.YtmbnkokcpmkpgaaGreatDoorRootFn
namespace Go.Proofs.YtmbnkokcpmkpgaaGreatDoor
open Go.RowKit Go.Shelf

/-- The text of an integer. -/
def txt (z : Int) : ByteArray := ⟨(Lib.itoa z).toArray⟩
theorem itoa_sgn (b : Bool) (n : Nat) (h : n ≠ 0) : Lib.itoa (sgn b n) = if b then 45 :: Lib.decDigits n else Lib.decDigits n := by
  cases b
  · exact Lib.itoa_nonneg n
  · exact Lib.itoa_neg n (by omega)
theorem itoa_nought (b : Bool) : Lib.itoa (sgn b 0) = [48] := by
  have e : Lib.itoa ((0 : Nat) : Int) = [48] := by rw [Lib.itoa_nonneg, Lib.decDigits_one (by omega)]; rfl
  cases b
  · exact e
  · exact e
theorem dec_few (m : Nat) (h0 : m ≠ 0) (h : (nw m).length ≤ 131072) : (Lib.decDigits m).length ≤ 5000000 := by
  have h2 := wv_lt (nw m) (nw_ok m)
  rw [wv_nw] at h2
  have h3 := ch_words (nw m).length m h2
  have h4 := ctext_length (ch m) (ch_lt m)
  rw [ctext_ch m h0] at h4
  omega

set_option maxHeartbeats 1000000 in
set_option maxRecDepth 100000 in
theorem print_any (na : Bool) (sa : ByteArray) (w : World) (ha : sa.size ≤ 262144) (htab : Tab w) :
    Calls Tryz.prog 42 #[.agg #[.bool na, .string sa]] w fun e w' => e = .returned (.string (txt (ival na sa))) ∧ Below w.heap.size w w' := by
  have HTB := Lib.hid htab
  clear htab
  go_enter Tryz.func42, Tryz.ntmps42
  go_wp2_with fail
  obtain ⟨zs, hzs⟩ : ∃ zs : Array Value, #[Value.int .u64 0, .int .u64 0, .int .u64 0, .int .u64 0, .int .u64 0, .int .u64 0, .int .u64 0, .int .u64 0, .int .u64 0, .int .u64 0, .int .u64 0, .int .u64 0, .int .u64 0, .int .u64 0, .int .u64 0, .int .u64 0] = zs := ⟨_, rfl⟩
  have hz16 : zs.size = 16 := by rw [← hzs]; rfl
  rw [hzs]
  obtain ⟨W0, hW0⟩ : ∃ W0, (w.alloc (Obj.cells #[Value.bool na, Value.string sa] 23)).alloc (Obj.cells zs 60) = W0 := ⟨_, rfl⟩
  have hs0 : W0.heap.size = w.heap.size + 1 + 1 := by rw [← hW0]; simp
  have tA : Two w.heap.size (.bool na) (.string sa) W0 := by
    rw [← hW0]
    exact (two_new w _ _ _).below (B0 := w.heap.size + 1) ((Below.refl _ _).alloc (by simp) _) (by omega)
  have rL : Room W0 (w.heap.size + 1) 16 := by
    rw [← hW0]
    have h := room_alloc (w.alloc (Obj.cells #[Value.bool na, Value.string sa] 23)) zs 60 16 hz16
    simp only [World.size_alloc] at h
    exact h
  have b0 : Below w.heap.size w W0 := by
    rw [← hW0]
    exact ((Below.refl _ _).alloc (Nat.le_refl _) _).alloc (by simp) _
  rw [hW0]
  have kA := tA.2.1
  have H0 := Lib.hid (And.intro tA (And.intro rL (And.intro b0 hs0)))
  clear tA rL b0 hs0 hW0 hzs hz16
  go_wp2_with fail
  refine (load_any (w.heap.size + 1) sa _ (by omega) H0.out.2.1).mono ?_
  intro e wL hL
  obtain ⟨gL, capL, rfl, capLge, capLm, rowL, hgL, hgrL⟩ := hL
  have cA := H0.out.1.grown hgrL (by omega)
  have cb : Below w.heap.size w wL := H0.out.2.2.1.grown hgrL (by have := H0.out.2.2.2; omega) (fun k e => by cases e; omega)
  have cz : w.heap.size + 1 + 1 ≤ wL.heap.size := by have := H0.out.2.2.2; have := hgrL.size; omega
  have gLge : w.heap.size ≤ gL := by have := H0.out.2.2.2; rcases hgL with h | h <;> omega
  have hla := nw_be_length sa.data.toList
  rw [← Lib.size_eq] at hla
  obtain ⟨m, hm⟩ : ∃ m, m = beVal sa.data.toList := ⟨_, rfl⟩
  have HM := Lib.hid hm
  rw [← hm] at hla rowL capLge
  rw [← hm]
  have kA := cA.1.1
  clear hgL hgrL H0 hm
  by_cases hm0 : m = 0
  · have HM0 := Lib.hid hm0
    have hlen : (nw m).length = 0 := by rw [hm0]; rfl
    rw [hlen]
    have HB := Lib.hid cb
    clear hm0 hlen capLge capLm rowL cA cb cz gLge hla
    go_wp2_with fail
    go_ret
    refine ⟨?_, HB.out⟩
    unfold txt
    rw [ival_sgn, ← HM.out, HM0.out, itoa_nought]
    rfl
  · have hpos : 0 < (nw m).length := by rw [List.length_pos_iff]; exact fun h => hm0 ((nw_eq_nil m).1 h)
    have hpi : ¬ (((nw m).length : Int) = 0) := by omega
    have htw : Tab wL := tab_kept (row := none) HTB.out ⟨cb.os, cb.tape, cb.output, cb.size, fun k hk _ => cb.block k hk⟩ (by simp)
    have htl := tab_lt HTB.out
    have hgl : gL < wL.heap.size := rowL.lt hpos
    have hdc := decimal_any gL capL m wL rowL hgl capLge capLm hm0 (by omega) htw (by omega)
    obtain ⟨D, hD⟩ : ∃ D : ByteArray, D = ⟨(Lib.decDigits m).toArray⟩ := ⟨_, rfl⟩
    rw [← hD] at hdc
    have hits := itoa_sgn na m hm0
    have hDs : D.size ≤ 5000000 := by
      rw [Lib.size_eq, hD]
      exact dec_few m hm0 (by omega)
    have HDC := Lib.hid hdc
    have HB := Lib.hid (And.intro cb (And.intro gLge (And.intro hits hD)))
    clear hdc hD hits htw htl hgl cb gLge rowL capLge capLm cA cz hla hm0
    cases na
    all_goals go_wp2_with fail
    all_goals refine HDC.out.mono ?_
    all_goals rintro e w2 ⟨rfl, hg2⟩
    all_goals have hbel : Below w.heap.size w w2 := HB.out.1.grown hg2 (HB.out.1.size) (fun k e => by cases e; exact HB.out.2.1)
    all_goals have HBEL := Lib.hid hbel
    all_goals clear hg2 hbel
    all_goals go_wp2_with fail
    all_goals go_ret
    all_goals refine ⟨?_, HBEL.out⟩
    all_goals unfold txt
    all_goals rw [ival_sgn, ← HM.out, HB.out.2.2.1]
    · rw [HB.out.2.2.2]; rfl
    · have e : (⟨#[45]⟩ : ByteArray) ++ D = ⟨(45 :: Lib.decDigits m).toArray⟩ := by
        rw [HB.out.2.2.2]
        apply ByteArray.ext
        rw [ByteArray.data_append]
        simp
      rw [if_pos trivial, ← e]
      rfl
end Go.Proofs.YtmbnkokcpmkpgaaGreatDoor
