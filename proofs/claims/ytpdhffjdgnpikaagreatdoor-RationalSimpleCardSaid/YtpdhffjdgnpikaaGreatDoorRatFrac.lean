/- The contracts of rational's small numbers: size, gcd, digits, fits, fractionOf. -/
import Derived.Test.YtpdhffjdgnpikaaGreatDoorRatNum
import Derived.Test.YtpdhffjdgnpikaaGreatDoorRef
import Derived.Outline
import Derived.Handy
import Derived.Deep.QuietTactic
import Derived.BigQuiet
namespace Go.Proofs.YtpdhffjdgnpikaaGreatDoor
open Go.RowKit Go.Shelf

set_option maxHeartbeats 1000000 in
set_option maxRecDepth 100000 in
theorem fsize_any (n : Int) (w : World) (h1 : -9223372036854775808 ≤ n) (h2 : n ≤ 9223372036854775807) :
    Calls Tryz.prog 112 #[.int .i64 n] w fun e w' => e = .returned (.int .u64 (n.natAbs : Nat)) ∧ w = w' := by
  by_cases h : n < 0
  · obtain ⟨m, rfl⟩ : ∃ m : Nat, n = -(m : Int) := ⟨n.natAbs, by omega⟩
    have hm : (-(m : Int)).natAbs = m := by omega
    have e1 : IntKind.u64.wrap (-(m : Int)) = ((18446744073709551616 - m : Nat) : Int) := by rw [IntKind.wrap_u64]; omega
    have e2 : IntKind.u64.wrap (-((18446744073709551616 - m : Nat) : Int)) = (m : Int) := by rw [IntKind.wrap_u64]; omega
    rw [hm]
    go_enter Tryz.func112, Tryz.ntmps112
    go_wp2_with fail
    go_ret
    exact ⟨rfl, rfl⟩
  · obtain ⟨m, rfl⟩ : ∃ m : Nat, n = (m : Int) := ⟨n.natAbs, by omega⟩
    have hw : IntKind.u64.wrap (m : Int) = (m : Int) := wrapU _ (by omega)
    rw [Int.natAbs_natCast]
    go_enter Tryz.func112, Tryz.ntmps112
    go_wp2_with fail
    go_ret
    exact ⟨rfl, rfl⟩

set_option maxHeartbeats 1000000 in
set_option maxRecDepth 100000 in
theorem fgcd_any (x y : Nat) (w : World) (hx : x < 18446744073709551616) (hy : y < 18446744073709551616) :
    Calls Tryz.prog 113 #[.int .u64 x, .int .u64 y] w fun e w' => e = .returned (.int .u64 (Nat.gcd x y : Nat)) ∧ Below w.heap.size w w' := by
  have HX := Lib.hid (And.intro hx hy)
  obtain ⟨g, hg⟩ : ∃ g, Nat.gcd x y = g := ⟨_, rfl⟩
  rw [hg]
  have HG := Lib.hid hg
  clear hx hy hg
  go_enter Tryz.func113, Tryz.ntmps113
  go_wp2_with fail
  go_loopw [0, 1] (fun a b wr => ∃ m n : Nat, a = .int .u64 (m : Nat) ∧ b = .int .u64 (n : Nat) ∧ m < 18446744073709551616 ∧ n < 18446744073709551616 ∧ Nat.gcd m n = g ∧ Below w.heap.size w wr) (fun _ b _ => (intOf b).toNat)
  case atStart => exact ⟨x, y, rfl, rfl, HX.out.1, HX.out.2, HG.out, Below.refl _ _⟩
  case round =>
    obtain ⟨m, n, rfl, rfl, hm, hn, hgm, hb⟩ := hrel
    have HB := Lib.hid hb
    have HM := Lib.hid (And.intro hm (And.intro hn hgm))
    clear hb hgm hm hn
    by_cases h0 : n = 0
    · subst h0
      go_wp2_with fail
      go_ret
      have h := HM.out.2.2
      rw [Nat.gcd_zero_right] at h
      exact ⟨by rw [h]; rfl, HB.out⟩
    · have N0 : ¬ ((n : Int) = 0) := by omega
      obtain ⟨r, hr⟩ : ∃ r, m % n = r := ⟨_, rfl⟩
      have hrn : r < n := by rw [← hr]; exact Nat.mod_lt _ (by omega)
      have A1 : (m : Int) % (n : Int) = (r : Int) := by rw [← hr]; rfl
      have A2 : (m : Int).tmod (n : Int) = (r : Int) := by rw [Int.tmod_eq_emod_of_nonneg (by omega)]; exact A1
      have A3 : IntKind.u64.wrap (r : Int) = (r : Int) := wrapU _ (by have := HM.out.2.1; omega)
      have HR := Lib.hid (And.intro hr hrn)
      clear hr hrn
      go_wp2_with fail
      go_region
      all_goals go_wp2_with fail
      refine ⟨⟨n, r, rfl, rfl, HM.out.2.1, by have := HM.out.2.1; have := HR.out.2; omega, ?_, HB.out.drew⟩, by have := HR.out.2; simp [intOf]; omega⟩
      rw [← HR.out.1, Nat.gcd_comm, ← Nat.gcd_rec]
      rw [Nat.gcd_comm]; exact HM.out.2.2

set_option maxHeartbeats 1000000 in
set_option maxRecDepth 100000 in
theorem fdigits_any (m : Nat) (w : World) (hm : m < 18446744073709551616) :
    Calls Tryz.prog 114 #[.int .u64 m] w fun e w' => e = .returned (.string ⟨(be m).toArray⟩) ∧ Below w.heap.size w w' := by
  have HM := Lib.hid hm
  by_cases hm0 : m = 0
  · subst hm0
    have hal : Tryz.prog.arrayLen 118 = 8 := by simp [Program.arrayLen, Tryz.underlying118]
    have hsl : ∀ W : World, (Instr.sliceAt 118 (.pointer (some ⟨w.heap.size, 0, none⟩)) (some (.int .i64 (8 : Int))) none none).run Tryz.prog W = .ok (.slice (some ⟨w.heap.size, 0, none⟩) 0 0) W := by
      intro W
      rw [run_sliceAt_array_l W 118 ⟨w.heap.size, 0, none⟩ (by simp [Program.arrayLen, Program.elem, Tryz.underlying118]) .i64 (8 : Int) (by omega) (by rw [hal]; omega)]
      go_simp
    have hcv := fun W : World => conv_bytes (cap := 0) (W := W) (b := w.heap.size) (k := 0) (l := []) (fun j hj => by simp at hj)
    simp only [List.length_nil] at hcv
    clear hal
    go_enter Tryz.func114, Tryz.ntmps114
    go_wp2_with fail
    obtain ⟨w1, hw1⟩ : ∃ V, w.alloc (Obj.cells #[Value.int IntKind.u8 0, Value.int IntKind.u8 0, Value.int IntKind.u8 0, Value.int IntKind.u8 0, Value.int IntKind.u8 0, Value.int IntKind.u8 0, Value.int IntKind.u8 0, Value.int IntKind.u8 0] 118) = V := ⟨_, rfl⟩
    have hbel : Below w.heap.size w w1 := by rw [← hw1]; exact (Below.refl _ _).alloc (Nat.le_refl _) _
    have HB := Lib.hid hbel
    rw [hw1]
    clear hw1 hbel
    go_loopw [0, 4] (fun v i wr => v = .int .u64 0 ∧ i = .int .i64 8 ∧ wr = w1) (fun _ _ _ => 0)
    case atStart => exact ⟨rfl, rfl, rfl⟩
    case round =>
      obtain ⟨rfl, rfl, rfl⟩ := hrel
      go_wp2_with fail
      go_ret
      exact ⟨rfl, HB.out⟩
  have hm1 : 0 < m := by omega
  clear hm hm0
  go_enter Tryz.func114, Tryz.ntmps114
  go_wp2_with fail
  obtain ⟨w1, hw1⟩ : ∃ V, w.alloc (Obj.cells #[Value.int IntKind.u8 0, Value.int IntKind.u8 0, Value.int IntKind.u8 0, Value.int IntKind.u8 0, Value.int IntKind.u8 0, Value.int IntKind.u8 0, Value.int IntKind.u8 0, Value.int IntKind.u8 0] 118) = V := ⟨_, rfl⟩
  have hroom : Room w1 w.heap.size 8 := by rw [← hw1]; exact room_alloc _ _ _ 8 rfl
  have hbel : Below w.heap.size w w1 := by rw [← hw1]; exact (Below.refl _ _).alloc (Nat.le_refl _) _
  have HR := Lib.hid hroom
  have HB := Lib.hid hbel
  rw [hw1]
  clear hw1 hroom hbel
  have hlen : (be m).length ≤ 8 := be_length_le 8 m (by have := HM.out; omega)
  have HL := Lib.hid hlen
  clear hlen
  go_loopw [0, 4] (fun v i wr => ∃ (n k : Nat) (L : List UInt8), n < 18446744073709551616 ∧ v = .int .u64 n ∧ i = .int .i64 k ∧ k + L.length = 8 ∧ be m = be n ++ L ∧ RowB wr w.heap.size k L ∧ Room wr w.heap.size 8 ∧ Below w.heap.size w wr) (fun v _ _ => (intOf v).toNat)
  case atStart => exact ⟨m, 8, [], HM.out, rfl, rfl, rfl, by simp, fun j hj => by simp at hj, HR.out, HB.out⟩
  case round =>
    obtain ⟨n, k, L, hn, rfl, rfl, hk, hbe, hrow, hrm, hb⟩ := hrel
    have HBE := Lib.hid hbe
    have HROW := Lib.hid hrow
    have HRM := Lib.hid hrm
    have HBB := Lib.hid hb
    clear hbe hrow hrm hb
    by_cases hp : 0 < n
    · have hL : L.length < 8 := by
        have h1 := congrArg List.length HBE.out
        have h2 := HL.out
        have h3 := be_length_gt 0 n (by simp; omega)
        rw [List.length_append] at h1
        omega
      obtain ⟨q, rfl⟩ : ∃ q, k = q + 1 := ⟨k - 1, by omega⟩
      have hq : q < 8 := by omega
      obtain ⟨v0, c1⟩ := Option.isSome_iff_exists.1 (HRM.out q hq).1
      have c2 := (HRM.out q hq).2
      go_wp2_with fail
      refine ⟨⟨n / 256, q, UInt8.ofNat (n % 256) :: L, by omega, by go_num, rfl, by simp; omega, ?_, rowB_front HROW.out HRM.out hq _ _ (by rw [toNat_ofNat]; omega), HRM.out.set hq, HBB.out.setCell (Nat.le_refl _) _⟩, by simp [intOf]; omega⟩
      rw [HBE.out, be_pos n (by omega), List.append_assoc]; rfl
    · obtain rfl : n = 0 := by omega
      have hL : be m = L := by rw [HBE.out, be_zero]; rfl
      have hpos : 0 < L.length := by rw [← hL]; exact be_length_gt 0 m (by simp; omega)
      have hk8 : ¬ 8 = k := by omega
      have hcv := conv_bytes (cap := L.length) HROW.out
      obtain ⟨s, hs⟩ : ∃ s : ByteArray, ⟨L.toArray⟩ = s := ⟨_, rfl⟩
      obtain ⟨ln, hln⟩ : ∃ n, L.length = n := ⟨_, rfl⟩
      rw [hs, hln] at hcv
      have HS := Lib.hid (show s = ⟨(be m).toArray⟩ by rw [hL, hs])
      have hal : Tryz.prog.arrayLen 118 = 8 := by simp [Program.arrayLen, Tryz.underlying118]
      have hsl : (Instr.sliceAt 118 (.pointer (some ⟨w.heap.size, 0, none⟩)) (some (.int .i64 (k : Int))) none none).run Tryz.prog wr = .ok (.slice (some ⟨w.heap.size, k, none⟩) ln ln) wr := by
        rw [run_sliceAt_array_l wr 118 ⟨w.heap.size, 0, none⟩ (by simp [Program.arrayLen, Program.elem, Tryz.underlying118]) .i64 (k : Int) (by omega) (by rw [hal]; omega)]
        go_simp
        rw [show ln = 8 - k by omega]
      clear hs hL hpos hln hal hk
      go_wp2_with fail
      go_ret
      exact ⟨ret_str HS.out, HBB.out⟩
end Go.Proofs.YtpdhffjdgnpikaaGreatDoor
