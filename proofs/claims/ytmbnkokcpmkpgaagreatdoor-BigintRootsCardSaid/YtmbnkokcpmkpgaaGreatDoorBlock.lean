/- The contracts of block.plus and block.minus. -/
import Derived.Test.YtmbnkokcpmkpgaaGreatDoorCmpNat
namespace Go.Proofs.YtmbnkokcpmkpgaaGreatDoor
open Go.RowKit

/-- Four words as a value. -/
abbrev blk (a b c d : Nat) : Value := .agg #[.int .u64 (a : Nat), .int .u64 (b : Nat), .int .u64 (c : Nat), .int .u64 (d : Nat)]

/-- The value of four words. -/
def vblk (a b c d : Nat) : Nat := a + 18446744073709551616 * (b + 18446744073709551616 * (c + 18446744073709551616 * d))

/-- 2^256. -/
def two256 : Nat := 115792089237316195423570985008687907853269984665640564039457584007913129639936

theorem idx (y0 y1 y2 y3 : Value) (w : World) :
    (Instr.index 82 (.agg #[y0, y1, y2, y3]) (.int .i64 0)).run Tryz.prog w = .ok y0 w ∧ (Instr.index 82 (.agg #[y0, y1, y2, y3]) (.int .i64 1)).run Tryz.prog w = .ok y1 w ∧
    (Instr.index 82 (.agg #[y0, y1, y2, y3]) (.int .i64 2)).run Tryz.prog w = .ok y2 w ∧ (Instr.index 82 (.agg #[y0, y1, y2, y3]) (.int .i64 3)).run Tryz.prog w = .ok y3 w :=
  ⟨by kernel_rfl, by kernel_rfl, by kernel_rfl, by kernel_rfl⟩

set_option maxHeartbeats 1000000 in
set_option maxRecDepth 100000 in
theorem plus_any (x0 x1 x2 x3 y0 y1 y2 y3 c : Nat) (w : World) (hx0 : x0 < 18446744073709551616) (hx1 : x1 < 18446744073709551616) (hx2 : x2 < 18446744073709551616) (hx3 : x3 < 18446744073709551616)
    (hy0 : y0 < 18446744073709551616) (hy1 : y1 < 18446744073709551616) (hy2 : y2 < 18446744073709551616) (hy3 : y3 < 18446744073709551616) (hc : c ≤ 1) :
    Calls Tryz.prog 83 #[blk x0 x1 x2 x3, blk y0 y1 y2 y3, .int .u64 c] w fun e w' => ∃ s0 s1 s2 s3 d : Nat, e = .returned (.tuple #[blk s0 s1 s2 s3, .int .u64 d]) ∧
      s0 < 18446744073709551616 ∧ s1 < 18446744073709551616 ∧ s2 < 18446744073709551616 ∧ s3 < 18446744073709551616 ∧ d ≤ 1 ∧
      vblk s0 s1 s2 s3 + two256 * d = vblk x0 x1 x2 x3 + vblk y0 y1 y2 y3 + c ∧ Below w.heap.size w w' := by
  obtain ⟨s0, c0, e0, l0, k0, r0⟩ := add64_ex x0 y0 c hx0 hy0 hc
  obtain ⟨s1, c1, e1, l1, k1, r1⟩ := add64_ex x1 y1 c0 hx1 hy1 k0
  obtain ⟨s2, c2, e2, l2, k2, r2⟩ := add64_ex x2 y2 c1 hx2 hy2 k1
  obtain ⟨s3, c3, e3, l3, k3, r3⟩ := add64_ex x3 y3 c2 hx3 hy3 k2
  have HE : s0 < 18446744073709551616 ∧ s1 < 18446744073709551616 ∧ s2 < 18446744073709551616 ∧ s3 < 18446744073709551616 ∧ c3 ≤ 1 ∧
      vblk s0 s1 s2 s3 + two256 * c3 = vblk x0 x1 x2 x3 + vblk y0 y1 y2 y3 + c := by
    refine ⟨l0, l1, l2, l3, k3, ?_⟩
    unfold vblk two256
    omega
  have HH := Lib.hid HE
  have i0 := fun w => (idx (.int .u64 (y0 : Nat)) (.int .u64 (y1 : Nat)) (.int .u64 (y2 : Nat)) (.int .u64 (y3 : Nat)) w).1
  have i1 := fun w => (idx (.int .u64 (y0 : Nat)) (.int .u64 (y1 : Nat)) (.int .u64 (y2 : Nat)) (.int .u64 (y3 : Nat)) w).2.1
  have i2 := fun w => (idx (.int .u64 (y0 : Nat)) (.int .u64 (y1 : Nat)) (.int .u64 (y2 : Nat)) (.int .u64 (y3 : Nat)) w).2.2.1
  have i3 := fun w => (idx (.int .u64 (y0 : Nat)) (.int .u64 (y1 : Nat)) (.int .u64 (y2 : Nat)) (.int .u64 (y3 : Nat)) w).2.2.2
  clear HE e0 e1 e2 e3 l0 l1 l2 l3 k0 k1 k2 k3 hx0 hx1 hx2 hx3 hy0 hy1 hy2 hy3 hc
  go_enter Tryz.func83, Tryz.ntmps83
  go_wp2_with fail
  refine wp_loop_rounds 5 ?_
  rw [rounds_succ]
  go_wp2_with fail
  rw [rounds_succ]
  go_wp2_with fail
  rw [rounds_succ]
  go_wp2_with fail
  rw [rounds_succ]
  go_wp2_with fail
  rw [rounds_succ]
  go_wp2_with fail
  refine bodyPost_ret (v := .tuple #[blk s0 s1 s2 s3, .int .u64 c3]) (by simp [results, Tryz.results83, go_sem]) rfl ⟨s0, s1, s2, s3, c3, rfl, HH.out.1, HH.out.2.1, HH.out.2.2.1, HH.out.2.2.2.1, HH.out.2.2.2.2.1, HH.out.2.2.2.2.2, ?_⟩
  exact ((((Below.refl _ _).alloc (Nat.le_refl _) _).alloc (by simp) _).alloc (by simp; omega) _).alloc (by simp; omega) _

set_option maxHeartbeats 1000000 in
set_option maxRecDepth 100000 in
theorem minus_any (x0 x1 x2 x3 y0 y1 y2 y3 c : Nat) (w : World) (hx0 : x0 < 18446744073709551616) (hx1 : x1 < 18446744073709551616) (hx2 : x2 < 18446744073709551616) (hx3 : x3 < 18446744073709551616)
    (hy0 : y0 < 18446744073709551616) (hy1 : y1 < 18446744073709551616) (hy2 : y2 < 18446744073709551616) (hy3 : y3 < 18446744073709551616) (hc : c ≤ 1) :
    Calls Tryz.prog 86 #[blk x0 x1 x2 x3, blk y0 y1 y2 y3, .int .u64 c] w fun e w' => ∃ s0 s1 s2 s3 d : Nat, e = .returned (.tuple #[blk s0 s1 s2 s3, .int .u64 d]) ∧
      s0 < 18446744073709551616 ∧ s1 < 18446744073709551616 ∧ s2 < 18446744073709551616 ∧ s3 < 18446744073709551616 ∧ d ≤ 1 ∧
      vblk x0 x1 x2 x3 + two256 * d = vblk s0 s1 s2 s3 + vblk y0 y1 y2 y3 + c ∧ Below w.heap.size w w' := by
  obtain ⟨s0, c0, e0, l0, k0, r0⟩ := sub64_ex x0 y0 c hx0 hy0 hc
  obtain ⟨s1, c1, e1, l1, k1, r1⟩ := sub64_ex x1 y1 c0 hx1 hy1 k0
  obtain ⟨s2, c2, e2, l2, k2, r2⟩ := sub64_ex x2 y2 c1 hx2 hy2 k1
  obtain ⟨s3, c3, e3, l3, k3, r3⟩ := sub64_ex x3 y3 c2 hx3 hy3 k2
  have HE : s0 < 18446744073709551616 ∧ s1 < 18446744073709551616 ∧ s2 < 18446744073709551616 ∧ s3 < 18446744073709551616 ∧ c3 ≤ 1 ∧
      vblk x0 x1 x2 x3 + two256 * c3 = vblk s0 s1 s2 s3 + vblk y0 y1 y2 y3 + c := by
    refine ⟨l0, l1, l2, l3, k3, ?_⟩
    unfold vblk two256
    omega
  have HH := Lib.hid HE
  have i0 := fun w => (idx (.int .u64 (y0 : Nat)) (.int .u64 (y1 : Nat)) (.int .u64 (y2 : Nat)) (.int .u64 (y3 : Nat)) w).1
  have i1 := fun w => (idx (.int .u64 (y0 : Nat)) (.int .u64 (y1 : Nat)) (.int .u64 (y2 : Nat)) (.int .u64 (y3 : Nat)) w).2.1
  have i2 := fun w => (idx (.int .u64 (y0 : Nat)) (.int .u64 (y1 : Nat)) (.int .u64 (y2 : Nat)) (.int .u64 (y3 : Nat)) w).2.2.1
  have i3 := fun w => (idx (.int .u64 (y0 : Nat)) (.int .u64 (y1 : Nat)) (.int .u64 (y2 : Nat)) (.int .u64 (y3 : Nat)) w).2.2.2
  clear HE e0 e1 e2 e3 l0 l1 l2 l3 k0 k1 k2 k3 hx0 hx1 hx2 hx3 hy0 hy1 hy2 hy3 hc
  go_enter Tryz.func86, Tryz.ntmps86
  go_wp2_with fail
  refine wp_loop_rounds 5 ?_
  rw [rounds_succ]
  go_wp2_with fail
  rw [rounds_succ]
  go_wp2_with fail
  rw [rounds_succ]
  go_wp2_with fail
  rw [rounds_succ]
  go_wp2_with fail
  rw [rounds_succ]
  go_wp2_with fail
  refine bodyPost_ret (v := .tuple #[blk s0 s1 s2 s3, .int .u64 c3]) (by simp [results, Tryz.results86, go_sem]) rfl ⟨s0, s1, s2, s3, c3, rfl, HH.out.1, HH.out.2.1, HH.out.2.2.1, HH.out.2.2.2.1, HH.out.2.2.2.2.1, HH.out.2.2.2.2.2, ?_⟩
  exact ((((Below.refl _ _).alloc (Nat.le_refl _) _).alloc (by simp) _).alloc (by simp; omega) _).alloc (by simp; omega) _
end Go.Proofs.YtmbnkokcpmkpgaaGreatDoor
