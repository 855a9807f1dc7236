/- Euclid's algorithm by words, and the mathematics of Lehmer's steps. Five cells of a block, and the contract of bigint.foresee. The contract of bigint.combine: x * p - y * q in the words of a new row. The contract of bigint.steps.apply. -/
import Derived.Test.YtpdhffjdgnpikaaGreatDoorDiv64
import Derived.Test.YtpdhffjdgnpikaaGreatDoorLong
namespace Go.Proofs.YtpdhffjdgnpikaaGreatDoor

/-- The state of the loop of Lehmer's algorithm. -/
structure Leh (a0 b0 a b nx ny lx ly : Nat) (odd : Bool) : Prop where
  ida : ly * a + ny * b = a0
  idb : lx * a + nx * b = b0
  det : (odd = true ∧ nx * ly = ny * lx + 1) ∨ (odd = false ∧ nx * ly + 1 = ny * lx)
  le1 : nx + lx ≤ ny + ly
  le2 : lx ≤ ly
  ba : b ≤ a
  pos : 1 ≤ ly
  pos2 : 1 ≤ nx + lx
  nz : ny = 0 ∨ 1 ≤ lx

/-- Steps that are certain for x and y. -/
structure Cert (x y sx sy nx ny : Nat) (odd : Bool) : Prop where
  c : (odd = false ∧ sy * y ≤ sx * x ∧ nx * x ≤ ny * y ∧ sx * ny = sy * nx + 1 ∧ ny * y - nx * x < sx * x - sy * y) ∨
    (odd = true ∧ sx * x ≤ sy * y ∧ ny * y ≤ nx * x ∧ sx * ny + 1 = sy * nx ∧ nx * x - ny * y < sy * y - sx * x)
  nz : sy = 0 ∨ 1 ≤ nx

theorem leh_zero (a0 b0 : Nat) (h : b0 ≤ a0) : Leh a0 b0 a0 b0 1 0 0 1 true :=
  ⟨by omega, by omega, .inl ⟨rfl, by omega⟩, by omega, by omega, h, by omega, by omega, .inl rfl⟩

theorem leh_step {a0 b0 a b nx ny lx ly : Nat} {odd : Bool} (h : Leh a0 b0 a b nx ny lx ly odd) (h1 : ly ≤ b) :
    Leh a0 b0 b (a % b) lx ly (nx + a / b * lx) (ny + a / b * ly) (!odd) := by
  have hb : 0 < b := by have := h.pos; omega
  have hq : 1 ≤ a / b := (Nat.one_le_div_iff hb).2 h.ba
  have hd : b * (a / b) + a % b = a := Nat.div_add_mod a b
  have hm := Nat.mod_lt a hb
  obtain ⟨ida, idb, det, le1, le2, ba, pos, pos2, nz⟩ := h
  generalize a / b = q at *
  generalize a % b = r at *
  subst hd
  have e1 : 1 * lx ≤ q * lx := Nat.mul_le_mul_right _ hq
  have e2 : 1 * ly ≤ q * ly := Nat.mul_le_mul_right _ hq
  have e3 : q * lx ≤ q * ly := Nat.mul_le_mul_left _ le2
  have e4 : (q - 1) * lx ≤ (q - 1) * ly := Nat.mul_le_mul_left _ le2
  rw [Nat.sub_mul, Nat.sub_mul] at e4
  refine ⟨by grind, by grind, ?_, by omega, by omega, by omega, by omega, by omega, by omega⟩
  rcases det with ⟨rfl, d⟩ | ⟨rfl, d⟩
  · exact .inr ⟨rfl, by grind⟩
  · exact .inl ⟨rfl, by grind⟩

theorem leh_bound {a0 b0 a b nx ny lx ly : Nat} {odd : Bool} (h : Leh a0 b0 a b nx ny lx ly odd) (h1 : 1 ≤ b) :
    nx ≤ b0 ∧ ny ≤ a0 ∧ lx ≤ b0 ∧ ly ≤ a0 ∧ a ≤ a0 ∧ ny + ly ≤ a0 := by
  obtain ⟨ida, idb, det, le1, le2, ba, pos, pos2, nz⟩ := h
  have t1 : nx * 1 ≤ nx * b := Nat.mul_le_mul_left _ h1
  have t2 : ny * 1 ≤ ny * b := Nat.mul_le_mul_left _ h1
  have t3 : lx * 1 ≤ lx * a := Nat.mul_le_mul_left _ (by omega)
  have t4 : ly * 1 ≤ ly * a := Nat.mul_le_mul_left _ (by omega)
  have t5 : 1 * a ≤ ly * a := Nat.mul_le_mul_right _ pos
  omega

theorem le_of_scaled {p q S : Nat} (hS : 0 < S) (h : p * S ≤ q * S) : p ≤ q := Nat.le_of_mul_le_mul_right h hS
theorem lt_of_scaled {p q S : Nat} (h : p * S < q * S) : p < q := Nat.lt_of_mul_lt_mul_right h

theorem leh_cert {a0 b0 a b nx ny lx ly x y S B u v : Nat} {odd : Bool} (h : Leh a0 b0 a b nx ny lx ly odd) (hS : 0 < S)
    (hx : x * S = a0 * B + u) (hu : u < B) (hy : y * S = b0 * B + v) (hv : v < B) (h1 : ly ≤ b) (h2 : ny + ly ≤ a - b) : Cert x y nx ny lx ly (!odd) := by
  obtain ⟨ida, idb, det, le1, le2, ba, pos, pos2, nz⟩ := h
  refine ⟨?_, nz⟩
  obtain ⟨d, hd⟩ : ∃ d, a = b + (ny + ly) + d := ⟨a - b - (ny + ly), by omega⟩
  obtain ⟨f, hf⟩ : ∃ f, b = ly + f := ⟨b - ly, by omega⟩
  have u1 : nx * u ≤ nx * B := Nat.mul_le_mul_left _ (by omega)
  have u2 : lx * u ≤ lx * B := Nat.mul_le_mul_left _ (by omega)
  have v1 : ny * v ≤ ny * B := Nat.mul_le_mul_left _ (by omega)
  have v2 : ly * v ≤ ly * B := Nat.mul_le_mul_left _ (by omega)
  have w1 : (nx + lx) * u < (nx + lx) * B := Nat.mul_lt_mul_of_pos_left hu (by omega)
  have w2 : (ny + ly) * v < (ny + ly) * B := Nat.mul_lt_mul_of_pos_left hv (by omega)
  have z1 : lx * B ≤ ly * B := Nat.mul_le_mul_right _ le2
  have z2 : (nx + lx) * B ≤ (ny + ly) * B := Nat.mul_le_mul_right _ le1
  have z3 : nx * B ≤ (ny + ly) * B := Nat.mul_le_mul_right _ (by omega)
  have xx (k : Nat) : k * x * S = k * a0 * B + k * u := by rw [Nat.mul_assoc, hx, Nat.mul_add, Nat.mul_assoc]
  have yy (k : Nat) : k * y * S = k * b0 * B + k * v := by rw [Nat.mul_assoc, hy, Nat.mul_add, Nat.mul_assoc]
  rw [Nat.add_mul] at w1 w2 z2 z3
  rw [Nat.add_mul] at w1 w2 z2
  rcases det with ⟨rfl, dt⟩ | ⟨rfl, dt⟩
  · have r1 : nx * a0 = ny * b0 + a := by grind
    have r2 : ly * b0 = lx * a0 + b := by grind
    have s1 : nx * a0 * B = ny * b0 * B + ((ly * B + f * B) + (ny * B + ly * B) + d * B) := by
      rw [r1, hd, hf]; grind
    have s2 : ly * b0 * B = lx * a0 * B + (ly * B + f * B) := by
      rw [r2, hf]; grind
    have c1 : ny * y ≤ nx * x := le_of_scaled hS (by rw [xx, yy, s1]; omega)
    have c2 : lx * x ≤ ly * y := le_of_scaled hS (by rw [xx, yy, s2]; omega)
    refine .inl ⟨rfl, c1, c2, dt, ?_⟩
    have c3 : ly * y + ny * y < nx * x + lx * x := lt_of_scaled (S := S) (by
      rw [Nat.add_mul, Nat.add_mul, xx, xx, yy, yy, s1, s2]; omega)
    omega
  · have r1 : ny * b0 = nx * a0 + a := by grind
    have r2 : lx * a0 = ly * b0 + b := by grind
    have s1 : ny * b0 * B = nx * a0 * B + ((ly * B + f * B) + (ny * B + ly * B) + d * B) := by
      rw [r1, hd, hf]; grind
    have s2 : lx * a0 * B = ly * b0 * B + (ly * B + f * B) := by
      rw [r2, hf]; grind
    have c1 : nx * x ≤ ny * y := le_of_scaled hS (by rw [xx, yy, s1]; omega)
    have c2 : ly * y ≤ lx * x := le_of_scaled hS (by rw [xx, yy, s2]; omega)
    refine .inr ⟨rfl, c1, c2, by omega, ?_⟩
    have c3 : lx * x + nx * x < ny * y + ly * y := lt_of_scaled (S := S) (by
      rw [Nat.add_mul, Nat.add_mul, xx, xx, yy, yy, s1, s2]; omega)
    omega

/-- The pair to which certain steps lead. -/
def stepA (x y sx sy : Nat) (odd : Bool) : Nat := if odd then sy * y - sx * x else sx * x - sy * y
def stepB (x y nx ny : Nat) (odd : Bool) : Nat := if odd then nx * x - ny * y else ny * y - nx * x

theorem gcd_eq_of {x y p q : Nat} (h1 : ∃ a b, x = a * p + b * q) (h2 : ∃ a b, y = a * p + b * q) (h3 : ∃ a b : Nat, a * x = b * y + p ∨ a * y = b * x + p) (h4 : ∃ a b : Nat, a * x = b * y + q ∨ a * y = b * x + q) :
    Nat.gcd p q = Nat.gcd x y := by
  apply Nat.dvd_antisymm
  · obtain ⟨a, b, e1⟩ := h1
    obtain ⟨c, d, e2⟩ := h2
    have t1 := Nat.gcd_dvd_left p q
    have t2 := Nat.gcd_dvd_right p q
    refine Nat.dvd_gcd ?_ ?_
    · rw [e1]; exact Nat.dvd_add (Nat.dvd_trans t1 (Nat.dvd_mul_left _ _)) (Nat.dvd_trans t2 (Nat.dvd_mul_left _ _))
    · rw [e2]; exact Nat.dvd_add (Nat.dvd_trans t1 (Nat.dvd_mul_left _ _)) (Nat.dvd_trans t2 (Nat.dvd_mul_left _ _))
  · have t1 := Nat.gcd_dvd_left x y
    have t2 := Nat.gcd_dvd_right x y
    have aux : ∀ a b z : Nat, a * x = b * y + z ∨ a * y = b * x + z → Nat.gcd x y ∣ z := by
      rintro a b z (e | e)
      · exact (Nat.dvd_add_right (Nat.dvd_trans t2 (Nat.dvd_mul_left _ b))).1 (e ▸ Nat.dvd_trans t1 (Nat.dvd_mul_left _ a))
      · exact (Nat.dvd_add_right (Nat.dvd_trans t1 (Nat.dvd_mul_left _ b))).1 (e ▸ Nat.dvd_trans t2 (Nat.dvd_mul_left _ a))
    refine Nat.dvd_gcd ?_ ?_
    · obtain ⟨a, b, e⟩ := h3
      exact aux a b p e
    · obtain ⟨a, b, e⟩ := h4
      exact aux a b q e

theorem cert_gcd {x y sx sy nx ny : Nat} {odd : Bool} (h : Cert x y sx sy nx ny odd) (hy : sy ≠ 0) :
    Nat.gcd (stepA x y sx sy odd) (stepB x y nx ny odd) = Nat.gcd x y ∧ stepB x y nx ny odd < stepA x y sx sy odd ∧ stepA x y sx sy odd ≤ y := by
  obtain ⟨c, nz⟩ := h
  have nz' : 1 ≤ nx := by omega
  rcases c with ⟨rfl, c1, c2, c3, c4⟩ | ⟨rfl, c1, c2, c3, c4⟩
  · simp only [stepA, stepB, Bool.false_eq_true, if_false]
    obtain ⟨p, hp⟩ : ∃ p, sx * x - sy * y = p := ⟨_, rfl⟩
    obtain ⟨q, hq⟩ : ∃ q, ny * y - nx * x = q := ⟨_, rfl⟩
    rw [hp, hq] at c4
    rw [hp, hq]
    have e1 : sx * x = sy * y + p := by omega
    have e2 : ny * y = nx * x + q := by omega
    have f1 : x = ny * p + sy * q := by
      have : (sx * ny) * x = (sy * nx) * x + (ny * p + sy * q) := by grind
      rw [c3] at this; grind
    have f2 : y = nx * p + sx * q := by
      have : (sx * ny) * y = (sy * nx) * y + (nx * p + sx * q) := by grind
      rw [c3] at this; grind
    have l1 : 1 * p ≤ nx * p := Nat.mul_le_mul_right _ nz'
    exact ⟨gcd_eq_of ⟨ny, sy, f1⟩ ⟨nx, sx, f2⟩ ⟨sx, sy, .inl e1⟩ ⟨ny, nx, .inr e2⟩, c4, by omega⟩
  · simp only [stepA, stepB, if_true]
    obtain ⟨p, hp⟩ : ∃ p, sy * y - sx * x = p := ⟨_, rfl⟩
    obtain ⟨q, hq⟩ : ∃ q, nx * x - ny * y = q := ⟨_, rfl⟩
    rw [hp, hq] at c4
    rw [hp, hq]
    have e1 : sy * y = sx * x + p := by omega
    have e2 : nx * x = ny * y + q := by omega
    have f1 : x = ny * p + sy * q := by
      have : (sy * nx) * x = (sx * ny) * x + (ny * p + sy * q) := by grind
      rw [← c3] at this; grind
    have f2 : y = nx * p + sx * q := by
      have : (sy * nx) * y = (sx * ny) * y + (nx * p + sx * q) := by grind
      rw [← c3] at this; grind
    have l1 : 1 * p ≤ nx * p := Nat.mul_le_mul_right _ nz'
    exact ⟨gcd_eq_of ⟨ny, sy, f1⟩ ⟨nx, sx, f2⟩ ⟨sy, sx, .inr e1⟩ ⟨nx, ny, .inl e2⟩, c4, by omega⟩
theorem pow64b (s : Nat) (hs : s ≤ 63) : (18446744073709551616 : Nat) = 2 ^ s * 2 ^ (64 - s) := by rw [← Nat.pow_add, show s + (64 - s) = 64 by omega]

theorem top_floor (t1 t0 r s k : Nat) (hr : r < 18446744073709551616 ^ k) (hs : s ≤ 63) :
    ((t1 * 18446744073709551616 + t0) * 18446744073709551616 ^ k + r) * 2 ^ s / 18446744073709551616 ^ (k + 1) = t1 * 2 ^ s + t0 / 2 ^ (64 - s) := by
  have hp : 0 < 18446744073709551616 ^ k := Nat.pow_pos (by omega)
  have h2 : 0 < 2 ^ s := Nat.two_pow_pos s
  have h3 : 0 < 2 ^ (64 - s) := Nat.two_pow_pos _
  rw [Nat.pow_succ, ← Nat.div_div_eq_div_mul]
  have e1 : ((t1 * 18446744073709551616 + t0) * 18446744073709551616 ^ k + r) * 2 ^ s = r * 2 ^ s + ((t1 * 18446744073709551616 + t0) * 2 ^ s) * 18446744073709551616 ^ k := by
    generalize 18446744073709551616 ^ k = P
    grind
  rw [e1, Nat.add_mul_div_right _ _ hp]
  have e2 : r * 2 ^ s / 18446744073709551616 ^ k < 2 ^ s := by
    rw [Nat.div_lt_iff_lt_mul hp, Nat.mul_comm]
    exact Nat.mul_lt_mul_of_pos_left hr h2
  generalize r * 2 ^ s / 18446744073709551616 ^ k = e at *
  have e3 := pow64b s hs
  rw [show (e + (t1 * 18446744073709551616 + t0) * 2 ^ s) / 18446744073709551616 = (e + (t1 * 18446744073709551616 + t0) * 2 ^ s) / (2 ^ s * 2 ^ (64 - s)) by rw [← e3]]
  rw [← Nat.div_div_eq_div_mul, Nat.add_mul_div_right _ _ h2, Nat.div_eq_of_lt e2, Nat.zero_add]
  rw [show t1 * 18446744073709551616 + t0 = t0 + (t1 * 2 ^ s) * 2 ^ (64 - s) by rw [e3]; grind]
  rw [Nat.add_mul_div_right _ _ h3, Nat.add_comm]
end Go.Proofs.YtpdhffjdgnpikaaGreatDoor

namespace Go.Proofs.YtpdhffjdgnpikaaGreatDoor
open Go.RowKit Go.Shelf

set_option maxHeartbeats 1000000 in
set_option maxRecDepth 100000 in
theorem wordGcd_any (x y : Nat) (w : World) (hx : x < 18446744073709551616) (hy : y < 18446744073709551616) :
    Calls Tryz.prog 206 #[.int .u64 x, .int .u64 y] w fun e w' => e = .returned (.int .u64 (Nat.gcd x y : Nat)) ∧ Below w.heap.size w w' := by
  have HX := Lib.hid (And.intro hx hy)
  obtain ⟨g, hg⟩ : ∃ g, Nat.gcd x y = g := ⟨_, rfl⟩
  rw [hg]
  have HG := Lib.hid hg
  clear hx hy hg
  go_enter Tryz.func206, Tryz.ntmps206
  go_wp2_with fail
  go_loopw [0, 1] (fun a b wr => ∃ m n : Nat, a = .int .u64 (m : Nat) ∧ b = .int .u64 (n : Nat) ∧ m < 18446744073709551616 ∧ n < 18446744073709551616 ∧ Nat.gcd m n = g ∧ Below w.heap.size w wr) (fun _ b _ => (intOf b).toNat)
  case atStart => exact ⟨x, y, rfl, rfl, HX.out.1, HX.out.2, HG.out, Below.refl _ _⟩
  case round =>
    obtain ⟨m, n, rfl, rfl, hm, hn, hgm, hb⟩ := hrel
    have HB := Lib.hid hb
    have HM := Lib.hid (And.intro hm (And.intro hn hgm))
    clear hb hgm hm hn
    by_cases h0 : n = 0
    · subst h0
      go_wp2_with fail
      go_ret
      have h := HM.out.2.2
      rw [Nat.gcd_zero_right] at h
      exact ⟨by rw [h]; rfl, HB.out⟩
    · have N0 : ¬ ((n : Int) = 0) := by omega
      obtain ⟨r, hr⟩ : ∃ r, m % n = r := ⟨_, rfl⟩
      have hrn : r < n := by rw [← hr]; exact Nat.mod_lt _ (by omega)
      have A1 : (m : Int) % (n : Int) = (r : Int) := by rw [← hr]; rfl
      have A2 : (m : Int).tmod (n : Int) = (r : Int) := by rw [Int.tmod_eq_emod_of_nonneg (by omega)]; exact A1
      have A3 : IntKind.u64.wrap (r : Int) = (r : Int) := wrapU _ (by have := HM.out.2.1; omega)
      have HR := Lib.hid (And.intro hr hrn)
      clear hr hrn
      go_wp2_with fail
      go_region
      all_goals go_wp2_with fail
      refine ⟨⟨n, r, rfl, rfl, HM.out.2.1, by have := HM.out.2.1; have := HR.out.2; omega, ?_, HB.out.drew⟩, by have := HR.out.2; simp [intOf]; omega⟩
      rw [← HR.out.1, Nat.gcd_comm, ← Nat.gcd_rec]
      rw [Nat.gcd_comm]; exact HM.out.2.2


theorem wv_topE (xs : List Nat) (n : Nat) (h : xs.length = n + 1) : wv xs = xs.getD n 0 * 18446744073709551616 ^ n + wv (xs.take n) := by
  have e : xs = xs.take n ++ [xs.getD n 0] := by rw [← take_snocW xs n (by omega), List.take_of_length_le (by omega)]
  have h2 := congrArg wv e
  rw [wv_snoc, List.length_take, Nat.min_eq_left (by omega)] at h2
  rw [h2, Nat.mul_comm, Nat.add_comm]
theorem wv_top3 (xs : List Nat) (k : Nat) (hl : xs.length ≤ k + 2) : wv xs = (xs.getD (k + 1) 0 * 18446744073709551616 + xs.getD k 0) * 18446744073709551616 ^ k + wv (xs.take k) := by
  have gz : ∀ j, xs.length ≤ j → xs.getD j 0 = 0 := fun j hj => by
    rw [List.getD_eq_getElem?_getD, List.getElem?_eq_none hj]; rfl
  by_cases h2 : xs.length = k + 2
  · rw [wv_topE xs (k + 1) h2, wv_topE (xs.take (k + 1)) k (by rw [List.length_take]; omega), List.take_take, Nat.min_eq_left (by omega)]
    have : (xs.take (k + 1)).getD k 0 = xs.getD k 0 := by
      rw [List.getD_eq_getElem?_getD, List.getD_eq_getElem?_getD, List.getElem?_take_of_lt (by omega)]
    rw [this, Nat.pow_succ, Nat.add_mul, Nat.mul_assoc, Nat.mul_comm (18446744073709551616 ^ k), Nat.add_assoc]
  · by_cases h1 : xs.length = k + 1
    · rw [gz (k + 1) (by omega), Nat.zero_mul, Nat.zero_add]; exact wv_topE xs k h1
    · rw [gz (k + 1) (by omega), gz k (by omega), List.take_of_length_le (by omega)]; simp

set_option maxHeartbeats 1000000 in
set_option maxRecDepth 100000 in
theorem top_any (p : Option Addr) (cx n s : Nat) (xs : List Nat) (w : World) (hx : Nt w p xs) (hox : Ok xs) (hn : 2 ≤ n) (hn2 : n ≤ 1048576) (hl : xs.length ≤ n) (hs : s ≤ 63)
    (hb : wv xs * 2 ^ s < 18446744073709551616 ^ n) :
    Calls Tryz.prog 230 #[.slice p xs.length cx, .int .i64 n, .int .i64 s] w fun e w' =>
      e = .returned (.int .u64 (wv xs * 2 ^ s / 18446744073709551616 ^ (n - 1) : Nat)) ∧ w = w' := by
  obtain ⟨k, rfl⟩ : ∃ k, n = k + 2 := ⟨n - 2, by omega⟩
  obtain ⟨t1, ht1⟩ : ∃ t, xs.getD (k + 1) 0 = t := ⟨_, rfl⟩
  obtain ⟨t0, ht0⟩ : ∃ t, xs.getD k 0 = t := ⟨_, rfl⟩
  have h1w : t1 < 18446744073709551616 := by rw [← ht1]; exact hox.getD _
  have h0w : t0 < 18446744073709551616 := by rw [← ht0]; exact hox.getD _
  have hv := wv_top3 xs k hl
  rw [ht1, ht0] at hv
  have htk : wv (xs.take k) < 18446744073709551616 ^ k := Nat.lt_of_lt_of_le (wv_lt _ (hox.take k)) (Nat.pow_le_pow_right (by omega) (by rw [List.length_take]; omega))
  have hf := top_floor t1 t0 (wv (xs.take k)) s k htk hs
  rw [← hv] at hf
  have hf' : wv xs * 2 ^ s / 18446744073709551616 ^ (k + 2 - 1) = t1 * 2 ^ s + t0 / 2 ^ (64 - s) := hf
  have hft : t1 * 2 ^ s + t0 / 2 ^ (64 - s) < 18446744073709551616 := by
    rw [← hf', Nat.div_lt_iff_lt_mul (Nat.pow_pos (by omega)), Nat.mul_comm 18446744073709551616, ← Nat.pow_succ]; exact hb
  rw [hf']
  obtain ⟨c, hc⟩ : ∃ c, t1 * 2 ^ s = c := ⟨_, rfl⟩
  obtain ⟨d, hd⟩ : ∃ d, t0 / 2 ^ (64 - s) = d := ⟨_, rfl⟩
  have hd2 : d < 2 ^ s := by
    rw [← hd, Nat.div_lt_iff_lt_mul (Nat.two_pow_pos _), ← pow64b s hs]; exact h0w
  have hcm : c % 2 ^ s = 0 := by rw [← hc]; exact Nat.mul_mod_left _ _
  rw [hc, hd] at hft
  rw [hc, hd]
  have G1 : IntKind.u64.wrap ((t1 : Int) * 2 ^ s) = (c : Int) := by
    rw [show (2 : Int) ^ s = ((2 ^ s : Nat) : Int) by rw [Int.natCast_pow]; rfl, ← Int.natCast_mul, hc]; exact wrapU _ (by omega)
  have G2 : (t0 : Int) / 2 ^ (64 - s) = (d : Int) := by rw [← hd, show (2 : Int) ^ (64 - s) = ((2 ^ (64 - s) : Nat) : Int) by rw [Int.natCast_pow]; rfl]; rfl
  have G3 : bits .or .u64 (c : Int) (d : Int) = ((c + d : Nat) : Int) := orU s c d hcm hd2 (by omega) (by omega)
  have G4 : bits .or .u64 (0 : Int) (d : Int) = (d : Int) := by
    have := orU s 0 d (Nat.zero_mod _) hd2 (by omega) (by omega)
    rw [Nat.zero_add] at this; exact this
  have I1 : ((k + 2 : Nat) : Int) - 1 = ((k + 1 : Nat) : Int) := by omega
  have I2 : ((k + 2 : Nat) : Int) - 2 = ((k : Nat) : Int) := by omega
  obtain ⟨n, hn'⟩ : ∃ n, k + 2 = n := ⟨_, rfl⟩
  obtain ⟨k1, hk1⟩ : ∃ k1, k + 1 = k1 := ⟨_, rfl⟩
  rw [hn', hk1] at I1
  rw [hn'] at I2
  rw [hn'] at hl hn2
  have J1 : (k : Int) < (n : Int) := by omega
  have J2 : (k1 : Int) < (n : Int) := by omega
  rw [hk1] at ht1
  have HH := Lib.hid (And.intro ht1 (And.intro ht0 (And.intro hc hd)))
  have HK := Lib.hid (And.intro hn' hk1)
  rw [hn']
  by_cases h2 : xs.length = n
  · rcases hx with hx0 | ⟨b, off, rfl, hr⟩
    · exfalso; rw [hx0] at h2; simp at h2; omega
    · have c1 := (hr k1 (by omega)).1
      have c0 := (hr k (by omega)).1
      rw [ht1] at c1
      rw [ht0] at c0
      rw [h2]
      have K1 : (k1 : Int) ≤ (n : Int) := by omega
      clear hf hf' hv htk hc hd hcm hd2 hft ht1 ht0 hk1 hr hn' h2 hox hb hl hn
      go_enter Tryz.func230, Tryz.ntmps230
      go_wp2_with fail
      go_ret
      exact ⟨rfl, rfl⟩
  · have hne : ¬ ((xs.length : Int) = (n : Int)) := by omega
    have hc0 : c = 0 := by
      rw [← HH.out.2.2.1, ← HH.out.1, List.getD_eq_getElem?_getD, List.getElem?_eq_none (by omega)]; simp
    rw [hc0, Nat.zero_add]
    by_cases h1 : xs.length = k1
    · rcases hx with hx0 | ⟨b, off, rfl, hr⟩
      · exfalso; rw [hx0] at h1; simp at h1; omega
      · have c0 := (hr k (by omega)).1
        rw [ht0] at c0
        rw [h1] at hne
        rw [h1]
        have J3 : (k : Int) < (k1 : Int) := by omega
        clear hf hf' hv htk hc hd hcm hd2 hft ht1 ht0 hk1 hr hn' h2 hox hb hl hn hc0 G3 h1
        go_enter Tryz.func230, Tryz.ntmps230
        go_wp2_with fail
        go_ret
        exact ⟨rfl, rfl⟩
    · have hlt : (xs.length : Int) < (k1 : Int) := by omega
      have hd0 : d = 0 := by
        rw [← HH.out.2.2.2, ← HH.out.2.1, List.getD_eq_getElem?_getD, List.getElem?_eq_none (by omega)]; simp
      rw [hd0]
      clear hf hf' hv htk hc hd hcm hd2 hft ht1 ht0 hk1 hn' h2 hox hb hl hn hc0 G3 h1 hx
      go_enter Tryz.func230, Tryz.ntmps230
      go_wp2_with fail
      go_ret
      exact ⟨rfl, rfl⟩
end Go.Proofs.YtpdhffjdgnpikaaGreatDoor

namespace Go.Proofs.YtpdhffjdgnpikaaGreatDoor
open Go.RowKit Go.Shelf

/-- The first five cells of a block hold these values. -/
def Five (W : World) (B : Nat) (vs : Nat → Value) : Prop := ∀ j, j < 5 → W.cell? ⟨B, j, none⟩ = some (vs j) ∧ W.frozen? ⟨B, j, none⟩ = false
theorem Five.below {W W' : World} {B0 B : Nat} {vs : Nat → Value} (h : Five W B vs) (hb : Below B0 W W') (hB : B < B0) : Five W' B vs := fun j hj =>
  ⟨(hb.cell (p := ⟨B, j, none⟩) hB).trans (h j hj).1, (hb.frozen (p := ⟨B, j, none⟩) hB).trans (h j hj).2⟩
theorem Five.drew {W : World} {B : Nat} {vs : Nat → Value} (h : Five W B vs) : Five W.drew B vs := h
theorem Five.set {W : World} {B : Nat} {vs : Nat → Value} (h : Five W B vs) (k : Nat) (hk : k < 5) (v : Value) : Five (W.setCell ⟨B, k, none⟩ v) B (fun j => if j = k then v else vs j) := by
  intro j hj
  show _ = some (if j = k then v else vs j) ∧ _
  rw [World.frozen?_setCell]
  by_cases hjk : j = k
  · subst hjk
    rw [World.cell?_setCell_same' _ _ _ (by rw [(h j hj).1]; rfl), if_pos rfl]
    exact ⟨rfl, (h j hj).2⟩
  · rw [World.cell?_setCell_other _ _ _ _ (by intro e; have := congrArg Addr.off e; simp at this; omega), if_neg hjk]
    exact h j hj
theorem Five.lt {W : World} {B : Nat} {vs : Nat → Value} (h : Five W B vs) : B < W.heap.size := World.block_lt_of_cell? W _ (h 0 (by omega)).1
def five (a b c d e : Value) : Nat → Value | 0 => a | 1 => b | 2 => c | 3 => d | _ => e
theorem five_new (w : World) (a b c d e : Value) (T : TypeId) : Five (w.alloc (.cells #[a, b, c, d, e] T)) w.heap.size (five a b c d e) := by
  have hh := heap_alloc_new w (.cells #[a, b, c, d, e] T)
  intro j hj
  simp only [World.cell?, World.frozen?, hh]
  rcases j with _ | _ | _ | _ | _ | j
  · simp [five]
  · simp [five]
  · simp [five]
  · simp [five]
  · simp [five]
  · omega
theorem Five.ext {W : World} {B : Nat} {vs us : Nat → Value} (h : Five W B vs) (e : ∀ j, j < 5 → vs j = us j) : Five W B us := fun j hj => by rw [← e j hj]; exact h j hj
theorem five_all {W : World} {B : Nat} {a b c d e a' b' c' d' e' : Value} (h : Five W B (five a b c d e)) :
    Five (((((W.setCell ⟨B, 0, none⟩ a').setCell ⟨B, 2, none⟩ c').setCell ⟨B, 1, none⟩ b').setCell ⟨B, 3, none⟩ d').setCell ⟨B, 4, none⟩ e') B (five a' b' c' d' e') := by
  refine (((((h.set 0 (by omega) a').set 2 (by omega) c').set 1 (by omega) b').set 3 (by omega) d').set 4 (by omega) e').ext ?_
  intro j hj
  rcases j with _ | _ | _ | _ | _ | j
  · rfl
  · rfl
  · rfl
  · rfl
  · rfl
  · omega

theorem five_all2 {W : World} {B : Nat} {a b c d e a' b' c' d' e' : Value} (h : Five W B (five a b c d e)) :
    Five (((((W.setCell ⟨B, 0, none⟩ a').setCell ⟨B, 1, none⟩ b').setCell ⟨B, 2, none⟩ c').setCell ⟨B, 3, none⟩ d').setCell ⟨B, 4, none⟩ e') B (five a' b' c' d' e') := by
  refine (((((h.set 0 (by omega) a').set 1 (by omega) b').set 2 (by omega) c').set 3 (by omega) d').set 4 (by omega) e').ext ?_
  intro j hj
  rcases j with _ | _ | _ | _ | _ | j
  · rfl
  · rfl
  · rfl
  · rfl
  · rfl
  · omega
theorem Five.other {W : World} {B B' o : Nat} {vs : Nat → Value} {u : Value} (h : Five W B vs) (hne : B ≠ B') : Five (W.setCell ⟨B', o, none⟩ u) B vs := fun j hj => by
  rw [World.cell?_setCell_other _ _ _ _ (by intro e; have := congrArg Addr.block e; simp at this; omega), World.frozen?_setCell]
  exact h j hj
theorem below_five {B C : Nat} {w W : World} {a b c d e : Value} {i j k l m : Nat} (h : Below B w W) (hC : B ≤ C) :
    Below B w (((((W.setCell ⟨C, i, none⟩ a).setCell ⟨C, j, none⟩ b).setCell ⟨C, k, none⟩ c).setCell ⟨C, l, none⟩ d).setCell ⟨C, m, none⟩ e) :=
  ((((h.setCell hC _).setCell hC _).setCell hC _).setCell hC _).setCell hC _

theorem norm_fit (xs : List Nat) (k s : Nat) (hl : xs.length = k + 1) (hox : Ok xs) (hs : s ≤ 63) (h : xs.getD k 0 * 2 ^ s < 18446744073709551616) : wv xs * 2 ^ s < 18446744073709551616 ^ (k + 1) := by
  have e := pow64b s hs
  have h1 : xs.getD k 0 < 2 ^ (64 - s) := by
    rw [show (18446744073709551616 : Nat) = 2 ^ (64 - s) * 2 ^ s by rw [Nat.mul_comm]; exact e] at h
    exact Nat.lt_of_mul_lt_mul_right h
  have h2 : wv (xs.take k) < 18446744073709551616 ^ k := Nat.lt_of_lt_of_le (wv_lt _ (hox.take k)) (Nat.pow_le_pow_right (by omega) (by rw [List.length_take]; omega))
  have h3 : wv xs < (xs.getD k 0 + 1) * 18446744073709551616 ^ k := by
    rw [wv_topE xs k hl, Nat.add_mul, Nat.one_mul]; omega
  have h4 : (xs.getD k 0 + 1) * 2 ^ s ≤ 18446744073709551616 := by
    rw [e, Nat.mul_comm]; exact Nat.mul_le_mul_left _ h1
  calc wv xs * 2 ^ s < (xs.getD k 0 + 1) * 18446744073709551616 ^ k * 2 ^ s := Nat.mul_lt_mul_of_pos_right h3 (Nat.two_pow_pos s)
    _ = 18446744073709551616 ^ k * ((xs.getD k 0 + 1) * 2 ^ s) := by rw [Nat.mul_comm (xs.getD k 0 + 1), Nat.mul_assoc]
    _ ≤ 18446744073709551616 ^ k * 18446744073709551616 := Nat.mul_le_mul_left _ h4
    _ = 18446744073709551616 ^ (k + 1) := (Nat.pow_succ _ _).symm

theorem leh_next {a0 b0 a b nx ny lx ly : Nat} {odd : Bool} (h : Leh a0 b0 a b nx ny lx ly odd) (h1 : ly ≤ b) :
    nx + a / b * lx ≤ b0 ∧ ny + a / b * ly ≤ a0 ∧ a / b * lx ≤ b0 ∧ a / b * ly ≤ a0 ∧ 1 ≤ b0 := by
  have hb : 1 ≤ b := by have := h.pos; omega
  have h2 := leh_step h h1
  have t1 : (nx + a / b * lx) * 1 ≤ (nx + a / b * lx) * b := Nat.mul_le_mul_left _ hb
  have t2 : (ny + a / b * ly) * 1 ≤ (ny + a / b * ly) * b := Nat.mul_le_mul_left _ hb
  have e1 := h2.ida
  have e2 := h2.idb
  have h3 := h.idb
  have t3 : nx * 1 ≤ nx * b := Nat.mul_le_mul_left _ hb
  have t4 : lx * 1 ≤ lx * a := Nat.mul_le_mul_left _ (by have := h.ba; omega)
  have := h.pos2
  omega

def Foreseen (w : World) (m n : Nat) (e : Ending) (w' : World) : Prop :=
  ∃ (sx sy nx ny : Nat) (odd : Bool), e = .returned (.agg #[.int .u64 (sx : Nat), .int .u64 (sy : Nat), .int .u64 (nx : Nat), .int .u64 (ny : Nat), .bool odd]) ∧
    (sx < 18446744073709551616 ∧ sy < 18446744073709551616 ∧ nx < 18446744073709551616 ∧ ny < 18446744073709551616) ∧
    (sy = 0 ∨ (Cert m n sx sy nx ny odd ∧ (nw m).length ≤ (nw n).length + 1)) ∧ Below w.heap.size w w'

theorem nw_long {n k s : Nat} (hs : s ≤ 63) (h : 18446744073709551616 ^ (k + 1) ≤ n * 2 ^ s) : k + 1 ≤ (nw n).length := by
  apply Decidable.byContradiction
  intro hc
  have h1 := wv_lt (nw n) (nw_ok n)
  rw [wv_nw] at h1
  have h2 : n < 18446744073709551616 ^ k := Nat.lt_of_lt_of_le h1 (Nat.pow_le_pow_right (by omega) (by omega))
  have h3 : 2 ^ s ≤ 2 ^ 63 := Nat.pow_le_pow_right (by omega) hs
  have h4 : n * 2 ^ s ≤ 18446744073709551616 ^ k * 2 ^ 63 := Nat.mul_le_mul (Nat.le_of_lt h2) h3
  have hp : 0 < 18446744073709551616 ^ k := Nat.pow_pos (by omega)
  rw [Nat.pow_succ] at h
  omega

set_option maxHeartbeats 4000000 in
set_option maxRecDepth 100000 in
theorem foresee_any (p q : Option Addr) (cx cy m n : Nat) (w : World) (hx : Nt w p (nw m)) (hy : Nt w q (nw n)) (hn : 18446744073709551616 ≤ n) (hle : n ≤ m) (hl : (nw m).length ≤ 262144) :
    Calls Tryz.prog 207 #[.slice p (nw m).length cx, .slice q (nw n).length cy] w (Foreseen w m n) := by
  obtain ⟨l, hlm⟩ : ∃ l, (nw m).length = l := ⟨_, rfl⟩
  obtain ⟨ln, hln⟩ : ∃ l, (nw n).length = l := ⟨_, rfl⟩
  have hlnm : ln ≤ l := by
    rw [← hln]; apply nw_length_le
    have h1 := wv_lt (nw m) (nw_ok m)
    rw [wv_nw, hlm] at h1
    omega
  have hl2 : 2 ≤ ln := by
    apply Decidable.byContradiction
    intro hc
    have h1 := wv_lt (nw n) (nw_ok n)
    rw [wv_nw, hln] at h1
    have : 18446744073709551616 ^ ln ≤ 18446744073709551616 ^ 1 := Nat.pow_le_pow_right (by omega) (by omega)
    omega
  obtain ⟨k, hk⟩ : ∃ k, l = k + 1 := ⟨l - 1, by omega⟩
  obtain ⟨t, ht⟩ : ∃ t, (nw m).getD k 0 = t := ⟨_, rfl⟩
  have htw : t < 18446744073709551616 := by rw [← ht]; exact (nw_ok m).getD k
  have ht0 : 0 < t := by
    have hm := wv_nw m
    apply Nat.pos_of_ne_zero
    intro h0
    rw [h0] at ht
    have h1 := wv_topE (nw m) k (by omega)
    rw [hm, ht, Nat.zero_mul, Nat.zero_add] at h1
    have h2 : m < 18446744073709551616 ^ k := by
      have h3 := wv_lt ((nw m).take k) ((nw_ok m).take k)
      rw [← h1, List.length_take, Nat.min_eq_left (by omega)] at h3
      exact h3
    have := nw_length_le k m h2
    omega
  obtain ⟨s, hs, hs1, hs2, hlz⟩ := lz_ex t ht0 htw
  have hfm : m * 2 ^ s < 18446744073709551616 ^ l := by
    have h := norm_fit (nw m) k s (by omega) (nw_ok m) hs (by rw [ht]; exact hs2)
    rw [wv_nw] at h
    rw [hk]; exact h
  have hfn : n * 2 ^ s < 18446744073709551616 ^ l := Nat.lt_of_le_of_lt (Nat.mul_le_mul_right _ hle) hfm
  obtain ⟨B, hB⟩ : ∃ B, 18446744073709551616 ^ (l - 1) = B := ⟨_, rfl⟩
  have hBp : 0 < B := by rw [← hB]; exact Nat.pow_pos (by omega)
  obtain ⟨a0, ha0⟩ : ∃ a, m * 2 ^ s / B = a := ⟨_, rfl⟩
  obtain ⟨b0, hb0⟩ : ∃ a, n * 2 ^ s / B = a := ⟨_, rfl⟩
  have hlB : 18446744073709551616 ^ l = 18446744073709551616 * B := by rw [← hB, Nat.mul_comm, ← Nat.pow_succ, show (l - 1).succ = l by omega]
  have ha64 : a0 < 18446744073709551616 := by rw [← ha0, Nat.div_lt_iff_lt_mul hBp, ← hlB]; exact hfm
  have hb64 : b0 ≤ a0 := by rw [← ha0, ← hb0]; exact Nat.div_le_div_right (Nat.mul_le_mul_right _ hle)
  have htx := fun W (hW : Below w.heap.size w W) => top_any p cx l s (nw m) W (hx.below hW) (nw_ok m) (by omega) (by omega) (by omega) hs (by rw [wv_nw]; exact hfm)
  have hty := fun W (hW : Below w.heap.size w W) => top_any q cy l s (nw n) W (hy.below hW) (nw_ok n) (by omega) (by omega) (by omega) hs (by rw [wv_nw]; exact hfn)
  rw [wv_nw, hB, ha0, hlm] at htx
  rw [wv_nw, hB, hb0, hln] at hty
  have hcert : ∀ (a b nx ny lx ly : Nat) (odd : Bool), Leh a0 b0 a b nx ny lx ly odd → ly ≤ b → ny + ly ≤ a - b → Cert m n nx ny lx ly (!odd) := fun _ _ _ _ _ _ _ h h1 h2 =>
    leh_cert h (Nat.two_pow_pos s) (B := B) (u := m * 2 ^ s % B) (v := n * 2 ^ s % B) (by rw [← ha0, Nat.mul_comm (_ / _)]; exact (Nat.div_add_mod _ _).symm) (Nat.mod_lt _ hBp) (by rw [← hb0, Nat.mul_comm (_ / _)]; exact (Nat.div_add_mod _ _).symm) (Nat.mod_lt _ hBp) h1 h2
  have hlong : 1 ≤ b0 → l ≤ ln + 1 := fun h => by
    rw [← hb0, Nat.one_le_div_iff hBp, ← hB, hk] at h
    have := nw_long (n := n) (k := k - 1) (s := s) hs (by rw [show k - 1 + 1 = k by omega]; simpa using h)
    omega
  have hcell : ∃ b off, p = some ⟨b, off, none⟩ ∧ b < w.heap.size ∧ w.cell? ⟨b, off + k, none⟩ = some (.int .u64 (t : Nat)) := by
    rcases hx with hx0 | ⟨b, off, rfl, hr⟩
    · rw [hx0] at hlm; simp at hlm; omega
    · exact ⟨b, off, rfl, hr.lt (by omega), by rw [← ht]; exact (hr k (by omega)).1⟩
  obtain ⟨b, off, rfl, hbw, hc⟩ := hcell
  have HLZ := Lib.hid hlz
  have HTX := Lib.hid htx
  have HTY := Lib.hid hty
  have HC := Lib.hid hcert
  have HLO := Lib.hid hlong
  have H0 := Lib.hid (And.intro ha64 hb64)
  have HLL := Lib.hid (And.intro hlm hln)
  have I1 : (l : Int) - 1 = (k : Int) := by omega
  have J1 : (k : Int) < (l : Int) := by omega
  have hlb : l ≤ 262144 := by omega
  rw [hlm, hln]
  have hcc : ∀ o, (w.alloc o).cell? ⟨b, off + k, none⟩ = some (.int .u64 (t : Nat)) := fun o => (((Below.refl w.heap.size w).alloc (Nat.le_refl _) o).cell (p := ⟨b, off + k, none⟩) hbw).trans hc
  clear hx hy hn hle hl hlm hln hlnm hl2 ht htw ht0 hs1 hs2 hlz hfm hfn hB hBp ha0 hb0 hlB ha64 hb64 htx hty hcert hlong hk hs
  go_enter Tryz.func207, Tryz.ntmps207
  go_wp2_with fail
  refine (HLZ.out _).mono ?_
  rintro e w' ⟨rfl, rfl⟩
  go_wp2_with fail
  refine (HTX.out _ ((Below.refl _ _).alloc (Nat.le_refl _) _)).mono ?_
  rintro e w' ⟨rfl, rfl⟩
  go_wp2_with fail
  refine (HTY.out _ ((Below.refl _ _).alloc (Nat.le_refl _) _)).mono ?_
  rintro e w' ⟨rfl, rfl⟩
  go_wp2_with fail
  go_loopw [7, 8, 10, 11] (fun va vb vlx vly wr => ∃ (a b nx ny lx ly sx sy : Nat) (odd : Bool), va = .int .u64 (a : Nat) ∧ vb = .int .u64 (b : Nat) ∧ vlx = .int .u64 (lx : Nat) ∧ vly = .int .u64 (ly : Nat) ∧
      Leh a0 b0 a b nx ny lx ly odd ∧ (nx ≤ a0 + 1 ∧ ny ≤ a0 ∧ a ≤ a0 ∧ b ≤ a0 ∧ lx ≤ a0 ∧ ly ≤ a0 + 1) ∧ (sx < 18446744073709551616 ∧ sy < 18446744073709551616 ∧ nx < 18446744073709551616 ∧ ny < 18446744073709551616) ∧
      (sy = 0 ∨ (Cert m n sx sy nx ny odd ∧ 1 ≤ b0)) ∧ Five wr (w.heap.size + 1) (five (.int .u64 (sx : Nat)) (.int .u64 (sy : Nat)) (.int .u64 (nx : Nat)) (.int .u64 (ny : Nat)) (.bool odd)) ∧
      Five wr w.heap.size (five (.int .u64 (0 : Nat)) (.int .u64 (0 : Nat)) (.int .u64 (0 : Nat)) (.int .u64 (0 : Nat)) (.bool false)) ∧ Below w.heap.size w wr) (fun _ vb _ _ _ => (intOf vb).toNat)
  case atStart =>
    have h0 := H0.out
    refine ⟨a0, b0, 1, 0, 0, 1, 0, 0, true, rfl, rfl, rfl, rfl, leh_zero _ _ h0.2, by omega, by omega, .inl rfl, ?_, ?_, ((Below.refl _ _).alloc (Nat.le_refl _) _).alloc (by simp) _⟩
    · have h := five_new (w.alloc (.cells #[.int .u64 (0 : Nat), .int .u64 (0 : Nat), .int .u64 (0 : Nat), .int .u64 (0 : Nat), .bool false] 183)) (.int .u64 (0 : Nat)) (.int .u64 (0 : Nat)) (.int .u64 (1 : Nat)) (.int .u64 (0 : Nat)) (.bool true) 183
      rw [World.size_alloc] at h
      exact h
    · exact (five_new w (.int .u64 (0 : Nat)) (.int .u64 (0 : Nat)) (.int .u64 (0 : Nat)) (.int .u64 (0 : Nat)) (.bool false) 183).below (B0 := w.heap.size + 1) ((Below.refl _ _).alloc (by simp) _) (by omega)
  case round =>
    obtain ⟨a, b, nx, ny, lx, ly, sx, sy, odd, rfl, rfl, rfl, rfl, hleh, hbnd, hsb, hcrt, hfv, hres, hbel⟩ := hrel
    have f0 := (hfv 0 (by omega)).1
    have f1 := (hfv 1 (by omega)).1
    have f2 := (hfv 2 (by omega)).1
    have f3 := (hfv 3 (by omega)).1
    have f4 := (hfv 4 (by omega)).1
    have g0 := (hfv 0 (by omega)).2
    have g1 := (hfv 1 (by omega)).2
    have g2 := (hfv 2 (by omega)).2
    have g3 := (hfv 3 (by omega)).2
    have g4 := (hfv 4 (by omega)).2
    simp only [five] at f0 f1 f2 f3 f4
    have z0 := (hres 0 (by omega)).1
    have z1 := (hres 1 (by omega)).1
    have z2 := (hres 2 (by omega)).1
    have z3 := (hres 3 (by omega)).1
    have z4 := (hres 4 (by omega)).1
    have y0 := (hres 0 (by omega)).2
    have y1 := (hres 1 (by omega)).2
    have y2 := (hres 2 (by omega)).2
    have y3 := (hres 3 (by omega)).2
    have y4 := (hres 4 (by omega)).2
    simp only [five] at z0 z1 z2 z3 z4
    obtain ⟨d, hd⟩ : ∃ d, a - b = d := ⟨_, rfl⟩
    have h0 := H0.out
    have hba := hleh.ba
    have D1 : IntKind.u64.wrap ((a : Int) - (b : Int)) = (d : Int) := by rw [show (a : Int) - (b : Int) = (d : Int) by omega]; exact wrapU _ (by omega)
    have HLEH := Lib.hid hleh
    have HB := Lib.hid (And.intro hbnd (And.intro hsb (And.intro hcrt (And.intro hfv (And.intro hres hbel)))))
    have HD := Lib.hid hd
    clear hleh hbnd hsb hcrt hfv hres hbel hd h0 hba
    by_cases c1 : ly ≤ b
    · obtain ⟨e, he⟩ : ∃ e, ny + ly = e := ⟨_, rfl⟩
      have hbd := leh_bound HLEH.out (by have := HLEH.out.pos; omega)
      have D2 : IntKind.u64.wrap ((ny : Int) + (ly : Int)) = (e : Int) := by rw [show (ny : Int) + (ly : Int) = (e : Int) by omega]; exact wrapU _ (by have := H0.out; omega)
      by_cases c2 : e ≤ d
      · obtain ⟨Q, hQ⟩ : ∃ q, a / b = q := ⟨_, rfl⟩
        obtain ⟨R, hR⟩ : ∃ r, a % b = r := ⟨_, rfl⟩
        have hb1 : 1 ≤ b := by have := HLEH.out.pos; omega
        have hRb : R < b := by rw [← hR]; exact Nat.mod_lt _ hb1
        have hnx := leh_next HLEH.out c1
        have hst := leh_step HLEH.out c1
        have hce := HC.out _ _ _ _ _ _ _ HLEH.out c1 (by rw [he, HD.out]; exact c2)
        rw [hQ] at hnx hst
        rw [hR] at hst
        obtain ⟨qx, hqx⟩ : ∃ z, Q * lx = z := ⟨_, rfl⟩
        obtain ⟨qy, hqy⟩ : ∃ z, Q * ly = z := ⟨_, rfl⟩
        rw [hqx, hqy] at hnx hst
        obtain ⟨zx, hzx⟩ : ∃ z, nx + qx = z := ⟨_, rfl⟩
        obtain ⟨zy, hzy⟩ : ∃ z, ny + qy = z := ⟨_, rfl⟩
        rw [hzx, hzy] at hnx hst
        have h0 := H0.out
        have hba := HLEH.out.ba
        have hQa : Q ≤ a := by rw [← hQ]; exact Nat.div_le_self _ _
        have N0 : ¬ ((b : Int) = 0) := by omega
        have Q1 : (a : Int) / (b : Int) = (Q : Int) := by rw [← hQ]; rfl
        have Q2 : (a : Int).tdiv (b : Int) = (Q : Int) := by rw [Int.tdiv_eq_ediv_of_nonneg (by omega)]; exact Q1
        have Q3 : IntKind.u64.wrap (Q : Int) = (Q : Int) := wrapU _ (by omega)
        have R1 : (a : Int) % (b : Int) = (R : Int) := by rw [← hR]; rfl
        have R2 : (a : Int).tmod (b : Int) = (R : Int) := by rw [Int.tmod_eq_emod_of_nonneg (by omega)]; exact R1
        have R3 : IntKind.u64.wrap (R : Int) = (R : Int) := wrapU _ (by omega)
        have M1 : IntKind.u64.wrap ((Q : Int) * (lx : Int)) = (qx : Int) := wrapU_mul _ _ _ hqx (by omega)
        have M2 : IntKind.u64.wrap ((Q : Int) * (ly : Int)) = (qy : Int) := wrapU_mul _ _ _ hqy (by omega)
        have S1 : IntKind.u64.wrap ((nx : Int) + (qx : Int)) = (zx : Int) := by rw [show (nx : Int) + (qx : Int) = (zx : Int) by omega]; exact wrapU _ (by omega)
        have S2 : IntKind.u64.wrap ((ny : Int) + (qy : Int)) = (zy : Int) := by rw [show (ny : Int) + (qy : Int) = (zy : Int) by omega]; exact wrapU _ (by omega)
        have HN := Lib.hid (And.intro hnx (And.intro hst (And.intro hce (And.intro hRb (And.intro hbd hb1)))))
        clear hnx hst hce hRb hbd hQ hR hqx hqy hzx hzy h0 hQa he hb1 hba
        go_wp2_with fail
        go_region
        all_goals go_wp2_with fail
        obtain ⟨hnx, hst, hce, hRb, hbd, hb1⟩ := HN.out
        obtain ⟨hbnd, hsb, hcrt, hfv, hres, hbel⟩ := HB.out
        have h0 := H0.out
        have hba := HLEH.out.ba
        refine ⟨⟨b, R, lx, ly, zx, zy, nx, ny, !odd, rfl, rfl, rfl, rfl, hst, by omega, by omega, .inr ⟨hce, hnx.2.2.2.2⟩, (five_all hfv).drew, ?_, ?_⟩, by simp [intOf]; omega⟩
        · exact (((((hres.other (by omega)).other (by omega)).other (by omega)).other (by omega)).other (by omega)).drew
        · exact (below_five hbel (by omega)).drew
      · clear hbd he
        go_wp2_with fail
        obtain ⟨hbnd, hsb, hcrt, hfv, hres, hbel⟩ := HB.out
        have q := five_all2 (a' := .int .u64 (sx : Nat)) (b' := .int .u64 (sy : Nat)) (c' := .int .u64 (nx : Nat)) (d' := .int .u64 (ny : Nat)) (e' := .bool odd) hres
        have q0 := (q 0 (by omega)).1
        have q1 := (q 1 (by omega)).1
        have q2 := (q 2 (by omega)).1
        have q3 := (q 3 (by omega)).1
        have q4 := (q 4 (by omega)).1
        simp only [five] at q0 q1 q2 q3 q4
        refine bodyPost_ret (v := .agg #[.int .u64 (sx : Nat), .int .u64 (sy : Nat), .int .u64 (nx : Nat), .int .u64 (ny : Nat), .bool odd]) (by simp [results, Tryz.results207, go_sem, q0, q1, q2, q3, q4]) rfl ?_
        exact ⟨sx, sy, nx, ny, odd, rfl, hsb, hcrt.imp id (fun t => ⟨t.1, by rw [HLL.out.1, HLL.out.2]; exact HLO.out t.2⟩), below_five hbel (Nat.le_refl _)⟩
    · go_wp2_with fail
      obtain ⟨hbnd, hsb, hcrt, hfv, hres, hbel⟩ := HB.out
      have q := five_all2 (a' := .int .u64 (sx : Nat)) (b' := .int .u64 (sy : Nat)) (c' := .int .u64 (nx : Nat)) (d' := .int .u64 (ny : Nat)) (e' := .bool odd) hres
      have q0 := (q 0 (by omega)).1
      have q1 := (q 1 (by omega)).1
      have q2 := (q 2 (by omega)).1
      have q3 := (q 3 (by omega)).1
      have q4 := (q 4 (by omega)).1
      simp only [five] at q0 q1 q2 q3 q4
      refine bodyPost_ret (v := .agg #[.int .u64 (sx : Nat), .int .u64 (sy : Nat), .int .u64 (nx : Nat), .int .u64 (ny : Nat), .bool odd]) (by simp [results, Tryz.results207, go_sem, q0, q1, q2, q3, q4]) rfl ?_
      exact ⟨sx, sy, nx, ny, odd, rfl, hsb, hcrt.imp id (fun t => ⟨t.1, by rw [HLL.out.1, HLL.out.2]; exact HLO.out t.2⟩), below_five hbel (Nat.le_refl _)⟩
end Go.Proofs.YtpdhffjdgnpikaaGreatDoor

namespace Go.Proofs.YtpdhffjdgnpikaaGreatDoor
open Go.RowKit Go.Shelf

/-- A row whose first words were written anew. -/
theorem row_after {w w' : World} {g k : Nat} {ts us : List Nat} (h : Row w g 0 ts) (hu : Row w' g 0 us) (hl : us.length = k) (ht : Touch w w' g 0 k) (hk : k ≤ ts.length) : Row w' g 0 (us ++ ts.drop k) := by
  refine hu.append ?_
  rw [hl]
  exact (h.drop k hk).apart ht (by omega)
theorem wv_splitC (xs : List Nat) (k : Nat) (hk : k ≤ xs.length) : wv xs = wv (xs.take k) + 18446744073709551616 ^ k * wv (xs.drop k) := by
  have h := wv_append (xs.take k) (xs.drop k)
  rwa [List.take_append_drop, List.length_take, Nat.min_eq_left hk] at h
theorem same_mod {z D M a b : Nat} (hz : z < M) (hD : D < M) (h : z + M * a = D + M * b) : z = D := by
  have h1 := congrArg (· % M) h
  simp only [Nat.add_mul_mod_self_left] at h1
  rwa [Nat.mod_eq_of_lt hz, Nat.mod_eq_of_lt hD] at h1
theorem sub_word (t d : Nat) (ht : t < 18446744073709551616) (hd : d < 18446744073709551616) :
    ∃ t2 e : Nat, t2 + d = t + 18446744073709551616 * e ∧ t2 < 18446744073709551616 ∧ IntKind.u64.wrap ((t : Int) - (d : Int)) = (t2 : Int) := by
  by_cases h : d ≤ t
  · exact ⟨t - d, 0, by omega, by omega, by rw [IntKind.wrap_u64]; omega⟩
  · exact ⟨t + 18446744073709551616 - d, 1, by omega, by omega, by rw [IntKind.wrap_u64]; omega⟩

/-- What combine leaves. -/
def Combined (w : World) (g L D : Nat) (e : Ending) (w' : World) : Prop :=
  (∃ v, e = .returned v) ∧ ∃ zs : List Nat, zs.length = L ∧ Ok zs ∧ wv zs = D ∧ Row w' g 0 zs ∧ Touch w w' g 0 L

/-- The second half: y * q is subtracted from a row. -/
theorem sub_done {M X c1 rs_v us_v D P Q Y d ly t t2 e : Nat} (hM : M = 18446744073709551616 ^ (ly + 1)) (h1 : rs_v + M * c1 = P * X) (hrs : rs_v = us_v + 18446744073709551616 ^ ly * t)
    (z : Nat) (h2 : z + Q * Y = us_v + 18446744073709551616 ^ ly * d) (h3 : t2 + d = t + 18446744073709551616 * e) (hD : P * X = Q * Y + D) : z + 18446744073709551616 ^ ly * t2 + M * c1 = D + M * e := by
  rw [hM, Nat.pow_succ]
  rw [hM, Nat.pow_succ] at h1
  generalize 18446744073709551616 ^ ly = p at *
  have h4 : p * (t2 + d) = p * (t + 18446744073709551616 * e) := by rw [h3]
  rw [Nat.mul_add, Nat.mul_add] at h4
  have h5 : p * (18446744073709551616 * e) = p * 18446744073709551616 * e := (Nat.mul_assoc _ _ _).symm
  omega

set_option maxHeartbeats 4000000 in
set_option maxRecDepth 100000 in
theorem combine_any (g ct : Nat) (p q : Option Addr) (cx cy L P Q D : Nat) (xs ys : List Nat) (w : World) (hr : Row w g 0 (List.replicate L 0)) (hct : L ≤ ct) (hx : Nt w p xs) (hy : Nt w q ys)
    (hxg : ∀ a, p = some a → a.block ≠ g) (hyg : ∀ a, q = some a → a.block ≠ g) (hox : Ok xs) (hoy : Ok ys) (hP : P < 18446744073709551616) (hQ : Q < 18446744073709551616)
    (hL : 2 ≤ L) (hL2 : L ≤ 262144) (hlen : (xs.length = L ∧ ys.length = L) ∨ (xs.length = L ∧ ys.length + 1 = L) ∨ (xs.length + 1 = L ∧ ys.length = L))
    (hD : P * wv xs = Q * wv ys + D) (hDL : D < 18446744073709551616 ^ L) :
    Calls Tryz.prog 231 #[.slice (some ⟨g, 0, none⟩) L ct, .slice p xs.length cx, .int .u64 P, .slice q ys.length cy, .int .u64 Q] w (Combined w g L D) := by
  obtain ⟨lx, hlx⟩ : ∃ l, xs.length = l := ⟨_, rfl⟩
  obtain ⟨ly, hly⟩ : ∃ l, ys.length = l := ⟨_, rfl⟩
  have hadd := addProduct_any g 0 ct p cx (List.replicate lx 0) xs P w (by have h := hr.take lx; rwa [List.take_replicate, Nat.min_eq_left (by omega)] at h) hx (fun _ => hxg) (by rw [List.length_replicate]; exact hlx) (by rw [List.length_replicate]; omega) (fun x hx => by rw [List.eq_of_mem_replicate hx]; decide) hox hP
  rw [List.length_replicate, hlx] at hadd
  rw [hlx, hly]
  rw [hlx, hly] at hlen
  have HADD := Lib.hid hadd
  have HR := Lib.hid hr
  have HX := Lib.hid (And.intro hx (And.intro hy (And.intro hxg (And.intro hyg (And.intro hox (And.intro hoy (And.intro hlx hly)))))))
  have HD := Lib.hid (And.intro hD (And.intro hDL (And.intro hP hQ)))
  have K1 : (L : Int) ≤ (ct : Int) := by omega
  have lxb : lx ≤ 262144 := by omega
  have lyb : ly ≤ 262144 := by omega
  have lxL : lx ≤ L := by omega
  have lyL : ly ≤ L := by omega
  have lx1 : 1 ≤ lx := by omega
  have ly1 : 1 ≤ ly := by omega
  have HLEN := Lib.hid hlen
  clear hadd hr hx hy hxg hyg hox hoy hlx hly hD hDL hP hQ hlen
  go_enter Tryz.func231, Tryz.ntmps231
  go_wp2_with fail
  refine HADD.out.mono ?_
  rintro e u1 ⟨us, c, rfl, hcw, hul, huok, huv, hurow, hut⟩
  rw [List.length_replicate] at huv hul hut
  rw [wv_zeros, Nat.zero_add] at huv
  rcases HLEN.out with ⟨hxL, hyL⟩ | ⟨hxL, hyL⟩ | ⟨hxL, hyL⟩
  · have hrs := hurow
    have hrl : us.length = L := by omega
    have hrok := huok
    have hrv := huv
    rw [hxL] at hrv
    have hT := hut
    rw [hxL] at hT
    obtain ⟨rs, hrse⟩ : ∃ rs, us = rs := ⟨_, rfl⟩
    rw [hrse] at hrs hrl hrok hrv
    obtain ⟨c1, hc1e⟩ : ∃ k, c = k := ⟨_, rfl⟩
    rw [hc1e] at hrv
    clear hurow hul huok huv hut hrse
    have hlx2 : ¬ ((lx : Int) < (L : Int)) := by omega
    clear hxL
    have HT := Lib.hid (And.intro hrs (And.intro hrl (And.intro hrok (And.intro hrv hT))))
    have hsub := subProduct_any g 0 ct q cy (rs.take ly) ys Q u1 (hrs.take ly) (HX.out.2.1.touch hT HX.out.2.2.2.1) (fun _ => HX.out.2.2.2.1) (by rw [List.length_take, HX.out.2.2.2.2.2.2.2]; omega) (by rw [List.length_take]; omega) (hrok.take ly) HX.out.2.2.2.2.2.1 HD.out.2.2.2
    rw [List.length_take, hrl, Nat.min_eq_left lyL, HX.out.2.2.2.2.2.2.2] at hsub
    have HSUB := Lib.hid hsub
    have HYL := Lib.hid hyL
    have hll : (ly : Int) ≥ (L : Int) := by omega
    clear hsub hrs hrl hrok hrv hT hyL
    go_wp2_with fail
    have hyL := HYL.out
    refine HSUB.out.mono ?_
    rintro e u2 ⟨vs, d, rfl, hdw, hvl, hvok, hvv, hvrow, hvt⟩
    obtain ⟨hrs, hrl, hrok, hrv, hT⟩ := HT.out
    rw [List.length_take, hrl, Nat.min_eq_left lyL] at hvl hvv hvt
    have hz : wv vs = D := by
      have h1 := HD.out.1
      have h2 : rs.take ly = rs := List.take_of_length_le (by omega)
      rw [h2] at hvv
      refine same_mod (M := 18446744073709551616 ^ L) (a := c1) (b := d) (by rw [← hyL, ← hvl]; exact wv_lt _ hvok) HD.out.2.1 ?_
      rw [hyL] at hvv
      omega
    have HZ := Lib.hid (And.intro hz (And.intro hvl (And.intro hvok (And.intro hvrow (hT.trans (hvt.wider (Nat.le_refl _) (by omega)))))))
    clear hz hvl hvok hvrow hT hvt hvv hrs hrl hrok hrv hdw hyL
    go_wp2_with fail
    refine bodyPost_ret (results_none rfl _ _ _) rfl ?_
    obtain ⟨hz, hvl, hvok, hvrow, hT⟩ := HZ.out
    have hyL := HYL.out
    exact ⟨⟨_, rfl⟩, vs, by omega, hvok, hz, hvrow, hT⟩
  · have hrs := hurow
    have hrl : us.length = L := by omega
    have hrok := huok
    have hrv := huv
    rw [hxL] at hrv
    have hT := hut
    rw [hxL] at hT
    obtain ⟨rs, hrse⟩ : ∃ rs, us = rs := ⟨_, rfl⟩
    rw [hrse] at hrs hrl hrok hrv
    obtain ⟨c1, hc1e⟩ : ∃ k, c = k := ⟨_, rfl⟩
    rw [hc1e] at hrv
    clear hurow hul huok huv hut hrse
    have hlx2 : ¬ ((lx : Int) < (L : Int)) := by omega
    clear hxL
    have HT := Lib.hid (And.intro hrs (And.intro hrl (And.intro hrok (And.intro hrv hT))))
    have hsub := subProduct_any g 0 ct q cy (rs.take ly) ys Q u1 (hrs.take ly) (HX.out.2.1.touch hT HX.out.2.2.2.1) (fun _ => HX.out.2.2.2.1) (by rw [List.length_take, HX.out.2.2.2.2.2.2.2]; omega) (by rw [List.length_take]; omega) (hrok.take ly) HX.out.2.2.2.2.2.1 HD.out.2.2.2
    rw [List.length_take, hrl, Nat.min_eq_left lyL, HX.out.2.2.2.2.2.2.2] at hsub
    have HSUB := Lib.hid hsub
    have HYL := Lib.hid hyL
    have hll : (ly : Int) < (L : Int) := by omega
    clear hsub hrs hrl hrok hrv hT hyL
    go_wp2_with fail
    have hyL := HYL.out
    refine HSUB.out.mono ?_
    rintro e u2 ⟨vs, d, rfl, hdw, hvl, hvok, hvv, hvrow, hvt⟩
    obtain ⟨hrs, hrl, hrok, hrv, hT⟩ := HT.out
    rw [List.length_take, hrl, Nat.min_eq_left lyL] at hvl hvv hvt
    obtain ⟨t, ht⟩ : ∃ t, rs.getD ly 0 = t := ⟨_, rfl⟩
    have htw : t < 18446744073709551616 := by rw [← ht]; exact hrok.getD _
    have hrow3 := row_after hrs hvrow hvl hvt (by omega)
    have hcl := hrow3 ly (by rw [List.length_append, List.length_drop]; omega)
    rw [mid_getD vs rs ly hvl (by omega), ht, Nat.zero_add] at hcl
    obtain ⟨hc1, hc2⟩ := hcl
    obtain ⟨t2, e2, het, ht2w, hwr⟩ := sub_word t d htw hdw
    have hrow4 := hrow3.set ly t2 (by rw [List.length_append, List.length_drop]; omega)
    rw [set_mid vs rs ly t2 hvl (by omega), Nat.zero_add, List.drop_of_length_le (by omega), List.append_nil] at hrow4
    have hz : wv (vs ++ [t2]) = D := by
      have h1 := HD.out.1
      have h2 := wv_splitC rs ly (by omega)
      have h3 : rs.drop ly = [t] := by
        rw [List.drop_eq_getElem_cons (by omega), List.drop_of_length_le (by omega), ← ht, List.getD_eq_getElem?_getD, List.getElem?_eq_getElem (by omega)]; rfl
      rw [h3] at h2
      simp only [wv] at h2
      rw [wv_snoc, hvl]
      refine same_mod (M := 18446744073709551616 ^ L) (a := c1) (b := e2) ?_ HD.out.2.1 (sub_done (ly := ly) (X := wv xs) (Y := wv ys) (P := P) (Q := Q) (rs_v := wv rs) (us_v := wv (rs.take ly)) (d := d) (t := t) (by rw [hyL]) hrv (by rw [h2]; simp) (wv vs) hvv het h1)
      have := wv_lt (vs ++ [t2]) (hvok.append (Ok.nil.cons ht2w))
      rw [wv_snoc, hvl, List.length_append, hvl] at this
      rw [← hyL]; exact this
    have hT2 := (hT.trans (hvt.wider (Nat.le_refl _) (by omega))).set (o := ly) (by omega) (by omega) (.int .u64 (t2 : Nat))
    have HZ := Lib.hid (And.intro hz (And.intro hvl (And.intro (hvok.append (Ok.nil.cons ht2w)) (And.intro hrow4 hT2))))
    have K3 : (ly : Int) < (L : Int) := by omega
    clear hz hvl hvok hvrow hT hvt hvv hrs hrl hrok hrv hdw hrow3 hrow4 hT2 ht htw ht2w het hyL
    go_wp2_with fail
    have hyL := HYL.out
    refine bodyPost_ret (results_none rfl _ _ _) rfl ?_
    obtain ⟨hz, hvl, hvok, hvrow, hT⟩ := HZ.out
    exact ⟨⟨_, rfl⟩, vs ++ [t2], by rw [List.length_append, hvl]; exact hyL, hvok, hz, hvrow, hT⟩
  · have hrow1 := row_after HR.out hurow hul hut (by rw [List.length_replicate]; omega)
    have hcl := hrow1 lx (by rw [List.length_append, List.length_drop, List.length_replicate]; omega)
    rw [Nat.zero_add] at hcl
    obtain ⟨hc1, hc2⟩ := hcl
    have hrow2 := hrow1.set lx c (by rw [List.length_append, List.length_drop, List.length_replicate]; omega)
    rw [set_mid us _ lx c hul (by rw [List.length_replicate]; omega), Nat.zero_add, List.drop_of_length_le (by rw [List.length_replicate]; omega), List.append_nil] at hrow2
    have hT2 := (hut.wider (off' := 0) (n' := L) (Nat.le_refl _) (by omega)).set (o := lx) (by omega) (by omega) (.int .u64 (c : Nat))
    have hv2 : wv (us ++ [c]) = P * wv xs := by rw [wv_snoc, hul]; exact huv
    have HU := Lib.hid (And.intro hrow2 (And.intro hT2 (And.intro hv2 (And.intro hul (huok.append (Ok.nil.cons hcw))))))
    have K2 : (lx : Int) < (L : Int) := by omega
    have HXL := Lib.hid (And.intro hxL hyL)
    clear hrow1 hrow2 hT2 hv2 hul huok huv hurow hut hcw hxL hyL
    go_wp2_with fail
    obtain ⟨hxL, hyL⟩ := HXL.out
    obtain ⟨hrs, hT, hrv, hul, hrok⟩ := HU.out
    have hrl : (us ++ [c]).length = L := by rw [List.length_append, hul]; exact hxL
    obtain ⟨c1, hc1e⟩ : ∃ k, 0 = k := ⟨_, rfl⟩
    rw [show wv (us ++ [c]) = wv (us ++ [c]) + 18446744073709551616 ^ L * c1 by rw [← hc1e]; omega] at hrv
    obtain ⟨rs, hrse⟩ : ∃ rs, us ++ [c] = rs := ⟨_, rfl⟩
    rw [hrse] at hrs hrl hrok hrv
    clear hrse hul hxL
    have HT := Lib.hid (And.intro hrs (And.intro hrl (And.intro hrok (And.intro hrv hT))))
    have hsub := subProduct_any g 0 ct q cy (rs.take ly) ys Q (u1.setCell ⟨g, lx, none⟩ (.int .u64 (c : Nat))) (hrs.take ly) (HX.out.2.1.touch hT HX.out.2.2.2.1) (fun _ => HX.out.2.2.2.1) (by rw [List.length_take, HX.out.2.2.2.2.2.2.2]; omega) (by rw [List.length_take]; omega) (hrok.take ly) HX.out.2.2.2.2.2.1 HD.out.2.2.2
    rw [List.length_take, hrl, Nat.min_eq_left lyL, HX.out.2.2.2.2.2.2.2] at hsub
    have HSUB := Lib.hid hsub
    have HYL := Lib.hid hyL
    have hll : (ly : Int) ≥ (L : Int) := by omega
    clear hsub hrs hrl hrok hrv hT hyL
    go_wp2_with fail
    have hyL := HYL.out
    refine HSUB.out.mono ?_
    rintro e u2 ⟨vs, d, rfl, hdw, hvl, hvok, hvv, hvrow, hvt⟩
    obtain ⟨hrs, hrl, hrok, hrv, hT⟩ := HT.out
    rw [List.length_take, hrl, Nat.min_eq_left lyL] at hvl hvv hvt
    have hz : wv vs = D := by
      have h1 := HD.out.1
      have h2 : rs.take ly = rs := List.take_of_length_le (by omega)
      rw [h2] at hvv
      refine same_mod (M := 18446744073709551616 ^ L) (a := c1) (b := d) (by rw [← hyL, ← hvl]; exact wv_lt _ hvok) HD.out.2.1 ?_
      rw [hyL] at hvv
      omega
    have HZ := Lib.hid (And.intro hz (And.intro hvl (And.intro hvok (And.intro hvrow (hT.trans (hvt.wider (Nat.le_refl _) (by omega)))))))
    clear hz hvl hvok hvrow hT hvt hvv hrs hrl hrok hrv hdw hyL
    go_wp2_with fail
    refine bodyPost_ret (results_none rfl _ _ _) rfl ?_
    obtain ⟨hz, hvl, hvok, hvrow, hT⟩ := HZ.out
    have hyL := HYL.out
    exact ⟨⟨_, rfl⟩, vs, by omega, hvok, hz, hvrow, hT⟩
end Go.Proofs.YtpdhffjdgnpikaaGreatDoor

namespace Go.Proofs.YtpdhffjdgnpikaaGreatDoor
open Go.RowKit Go.Shelf

/-- Two numbers, each in a slice. -/
def PairRes (w : World) (m n : Nat) (e : Ending) (w' : World) : Prop :=
  ∃ (pq : Option Addr) (cq : Nat) (pr : Option Addr) (cr : Nat), e = .returned (.tuple #[.slice pq (nw m).length cq, .slice pr (nw n).length cr]) ∧
    (nw m).length ≤ cq ∧ (nw n).length ≤ cr ∧ Nt w' pq (nw m) ∧ Nt w' pr (nw n) ∧ Below w.heap.size w w'

theorem Five.touch {w w' : World} {b off n B : Nat} {vs : Nat → Value} (h : Five w B vs) (ht : Touch w w' b off n) (hne : B ≠ b) : Five w' B vs := fun j hj => by
  have hlt := h.lt
  have hb := ht.grown.block B hlt (fun e => hne (Option.some.inj e))
  rw [World.cell?_of_block (w := w) (a := ⟨B, j, none⟩) hb, World.frozen?_of_block (w := w) (a := ⟨B, j, none⟩) hb]
  exact h j hj

theorem make_again (n : Nat) (hn : n ≤ 4194304) : ∀ w : World, (Instr.makeSlice 90 (.int .i64 (n : Int)) (.int .i64 (n : Int))).run Tryz.prog w = .ok (.slice (some ⟨w.heap.size, 0, none⟩) n n) (w.alloc (.cells (zerosU n) 85)) := make_full n hn

set_option maxHeartbeats 4000000 in
set_option maxRecDepth 100000 in
theorem apply_any (p q : Option Addr) (cx cy m n sx sy nx ny : Nat) (odd : Bool) (w : World) (hx : Nt w p (nw m)) (hy : Nt w q (nw n)) (hn : 18446744073709551616 ≤ n) (hle : n ≤ m) (hl : (nw m).length ≤ 262144)
    (hb : sx < 18446744073709551616 ∧ sy < 18446744073709551616 ∧ nx < 18446744073709551616 ∧ ny < 18446744073709551616) (hs0 : sy ≠ 0) (hc : Cert m n sx sy nx ny odd) (hlen : (nw m).length ≤ (nw n).length + 1) :
    Calls Tryz.prog 208 #[.agg #[.int .u64 (sx : Nat), .int .u64 (sy : Nat), .int .u64 (nx : Nat), .int .u64 (ny : Nat), .bool odd], .slice p (nw m).length cx, .slice q (nw n).length cy] w (PairRes w (stepA m n sx sy odd) (stepB m n nx ny odd)) := by
  obtain ⟨hgcd, hlt, hyA⟩ := cert_gcd hc hs0
  obtain ⟨l, hlm⟩ : ∃ l, (nw m).length = l := ⟨_, rfl⟩
  obtain ⟨ln, hln⟩ : ∃ l, (nw n).length = l := ⟨_, rfl⟩
  have hlnm : ln ≤ l := by
    rw [← hln, ← hlm]; exact nw_length_mono hle
  have hl2 : 2 ≤ ln := by rw [← hln]; exact nw_two hn
  obtain ⟨A, hA⟩ : ∃ A, stepA m n sx sy odd = A := ⟨_, rfl⟩
  obtain ⟨B, hB⟩ : ∃ B, stepB m n nx ny odd = B := ⟨_, rfl⟩
  rw [hA, hB]
  rw [hA, hB] at hlt
  rw [hA] at hyA
  have hmM : m < 18446744073709551616 ^ l := by
    have h1 := wv_lt (nw m) (nw_ok m)
    rw [wv_nw, hlm] at h1; exact h1
  have hAM : A < 18446744073709551616 ^ l := by omega
  have hBM : B < 18446744073709551616 ^ l := by omega
  have hpb : ∀ a, p = some a → a.block < w.heap.size := by
    rintro a rfl
    rcases hx with h | ⟨b, off, h, hr⟩
    · rw [h] at hlm; simp at hlm; omega
    · cases h; exact hr.lt (by omega)
  have hqb : ∀ a, q = some a → a.block < w.heap.size := by
    rintro a rfl
    rcases hy with h | ⟨b, off, h, hr⟩
    · rw [h] at hln; simp at hln; omega
    · cases h; exact hr.lt (by omega)
  rw [hlm, hln] at hlen
  rw [hlm] at hl
  have hcxy : ∀ (P Q D g : Nat) (W : World), P < 18446744073709551616 → Q < 18446744073709551616 → P * m = Q * n + D → D < 18446744073709551616 ^ l → Below w.heap.size w W → w.heap.size ≤ g → Row W g 0 (List.replicate l 0) →
      Calls Tryz.prog 231 #[.slice (some ⟨g, 0, none⟩) l l, .slice p l cx, .int .u64 (P : Nat), .slice q ln cy, .int .u64 (Q : Nat)] W (Combined W g l D) := fun P Q D g W hP hQ hD hDl hW hg hrow => by
    have h := combine_any g l p q cx cy l P Q D (nw m) (nw n) W hrow (Nat.le_refl _) (hx.below hW) (hy.below hW) (fun a ha => by have := hpb a ha; omega) (fun a ha => by have := hqb a ha; omega) (nw_ok m) (nw_ok n) hP hQ (by omega) hl (by rw [hlm, hln]; omega) (by rw [wv_nw, wv_nw]; exact hD) hDl
    rwa [hlm, hln] at h
  have hcyx : ∀ (P Q D g : Nat) (W : World), P < 18446744073709551616 → Q < 18446744073709551616 → P * n = Q * m + D → D < 18446744073709551616 ^ l → Below w.heap.size w W → w.heap.size ≤ g → Row W g 0 (List.replicate l 0) →
      Calls Tryz.prog 231 #[.slice (some ⟨g, 0, none⟩) l l, .slice q ln cy, .int .u64 (P : Nat), .slice p l cx, .int .u64 (Q : Nat)] W (Combined W g l D) := fun P Q D g W hP hQ hD hDl hW hg hrow => by
    have h := combine_any g l q p cy cx l P Q D (nw n) (nw m) W hrow (Nat.le_refl _) (hy.below hW) (hx.below hW) (fun a ha => by have := hqb a ha; omega) (fun a ha => by have := hpb a ha; omega) (nw_ok n) (nw_ok m) hP hQ (by omega) hl (by rw [hlm, hln]; omega) (by rw [wv_nw, wv_nw]; exact hD) hDl
    rwa [hlm, hln] at h
  have HXY := Lib.hid hcxy
  have HYX := Lib.hid hcyx
  have HL := Lib.hid (And.intro hlm (And.intro hln (And.intro hAM (And.intro hBM hb))))
  have hmk := make_full l (by omega)
  rw [hlm, hln]
  have hlb : l ≤ 262144 := hl
  have hc := hc.c
  simp only [stepA, stepB] at hA hB
  clear hx hy hn hle hl hb hs0 hgcd hlt hyA hlm hln hlnm hl2 hmM hAM hBM hpb hqb hlen hcxy hcyx
  have start : Five (w.alloc (.cells #[.int .u64 (sx : Nat), .int .u64 (sy : Nat), .int .u64 (nx : Nat), .int .u64 (ny : Nat), .bool odd] 183)) w.heap.size (five (.int .u64 (sx : Nat)) (.int .u64 (sy : Nat)) (.int .u64 (nx : Nat)) (.int .u64 (ny : Nat)) (.bool odd)) := five_new _ _ _ _ _ _ _
  have HS := Lib.hid start
  have HC := Lib.hid (And.intro hc (And.intro hA hB))
  clear start hc hA hB
  go_enter Tryz.func208, Tryz.ntmps208
  go_upto_region 1 with fail
  obtain ⟨W0, hW0⟩ : ∃ W0, (w.alloc (.cells #[.int .u64 (sx : Nat), .int .u64 (sy : Nat), .int .u64 (nx : Nat), .int .u64 (ny : Nat), .bool odd] 183)) = W0 := ⟨_, rfl⟩
  have hfv := HS.out
  rw [hW0] at hfv
  have hb0 : Below w.heap.size w W0 := by rw [← hW0]; exact (Below.refl _ _).alloc (Nat.le_refl _) _
  have hs0 : W0.heap.size = w.heap.size + 1 := by rw [← hW0]; simp
  rw [hW0]
  have HF := Lib.hid (And.intro hfv (And.intro hb0 hs0))
  clear HS hfv hb0 hs0 hW0
  go_cut [8, 9] from 10 to 16 (fun v8 v9 wc => ∃ g1 g2 : Nat, v8 = .slice (some ⟨g1, 0, none⟩) l l ∧ v9 = .slice (some ⟨g2, 0, none⟩) l l ∧ w.heap.size + 1 ≤ g1 ∧ w.heap.size + 1 ≤ g2 ∧ g1 ≠ g2 ∧ Row wc g1 0 (List.replicate l 0) ∧ Row wc g2 0 (List.replicate l 0) ∧
      Five wc w.heap.size (five (.int .u64 (sx : Nat)) (.int .u64 (sy : Nat)) (.int .u64 (nx : Nat)) (.int .u64 (ny : Nat)) (.bool odd)) ∧ Below w.heap.size w wc ∧ g1 < wc.heap.size ∧ g2 < wc.heap.size)
  case first =>
    go_region
    all_goals (go_wp2_with fail; go_meet)
    all_goals
      have r1 := ((row_zeros W0 l 85).alloc (.cells (zerosU l) 85)).drew
      have r2 := (row_zeros (W0.alloc (.cells (zerosU l) 85)) l 85).drew
      rw [World.size_alloc] at r2
      have hb2 : Below W0.heap.size W0 ((W0.alloc (.cells (zerosU l) 85)).alloc (.cells (zerosU l) 85)).drew := (((Below.refl _ _).alloc (Nat.le_refl _) _).alloc (by simp) _).drew
      have hz : ((W0.alloc (.cells (zerosU l) 85)).alloc (.cells (zerosU l) 85)).drew.heap.size = W0.heap.size + 2 := by simp
      have h0 := HF.out.2.2
    · exact ⟨_, _, rfl, rfl, by omega, by omega, by omega, r1, r2, HF.out.1.below hb2 (by omega), HF.out.2.1.trans (hb2.mono (by omega)), by omega, by omega⟩
    · exact ⟨_, _, rfl, rfl, by omega, by omega, by omega, r2, r1, HF.out.1.below hb2 (by omega), HF.out.2.1.trans (hb2.mono (by omega)), by omega, by omega⟩
  case rest =>
    obtain ⟨g1, g2, rfl, rfl, hg1, hg2, hne, hr1, hr2, hfv, hbel, hlt1, hlt2⟩ := hcut
    have c0 := (hfv 0 (by omega)).1
    have c1 := (hfv 1 (by omega)).1
    have c2 := (hfv 2 (by omega)).1
    have c3 := (hfv 3 (by omega)).1
    have c4 := (hfv 4 (by omega)).1
    simp only [five] at c0 c1 c2 c3 c4
    have HW := Lib.hid (And.intro hr1 (And.intro hr2 (And.intro hfv (And.intro hbel (And.intro hlt1 hlt2)))))
    have HG := Lib.hid (And.intro hg1 (And.intro hg2 hne))
    clear hr1 hr2 hfv hbel hlt1 hlt2 hg1 hg2 hne
    obtain ⟨hAM, hBM, hsx, hsy, hnx, hny⟩ := HL.out.2.2
    cases odd
    · have hd1 : sx * m = sy * n + A := by
        rcases HC.out.1 with ⟨_, h⟩ | ⟨h, _⟩
        · have e := HC.out.2.1
          simp only [Bool.false_eq_true, if_false] at e
          omega
        · exact absurd h (by decide)
      have hd2 : ny * n = nx * m + B := by
        rcases HC.out.1 with ⟨_, h⟩ | ⟨h, _⟩
        · have e := HC.out.2.2
          simp only [Bool.false_eq_true, if_false] at e
          omega
        · exact absurd h (by decide)
      have hcall1 := HXY.out sx sy A g1 wc hsx hsy hd1 hAM HW.out.2.2.2.1 (by have := HG.out.1; omega) HW.out.1
      have HC1 := Lib.hid hcall1
      have HD2 := Lib.hid hd2
      have HN := Lib.hid (And.intro hAM (And.intro hBM (And.intro hsx (And.intro hsy (And.intro hnx hny)))))
      clear hcall1 hd1 hd2 hAM hBM hsx hsy hnx hny
      go_wp2_with fail
      refine HC1.out.mono ?_
      rintro e u1 ⟨⟨v1, rfl⟩, zs, hzl, hzok, hzv, hzr, hzt⟩
      have hfv1 := HW.out.2.2.1.touch hzt (by have := HG.out.1; omega)
      have hr21 := HW.out.2.1.touch hzt (by have := HG.out.2.2; omega)
      have hbel1 := touch_below HW.out.2.2.2.1 hzt HW.out.2.2.2.1.size (by have := HG.out.1; omega)
      have d0 := (hfv1 0 (by omega)).1
      have d1 := (hfv1 1 (by omega)).1
      have d2 := (hfv1 2 (by omega)).1
      have d3 := (hfv1 3 (by omega)).1
      simp only [five] at d0 d1 d2 d3
      have hcall2 := HYX.out ny nx B g2 u1 HN.out.2.2.2.2.2 HN.out.2.2.2.2.1 HD2.out HN.out.2.1 hbel1 (by have := HG.out.2.1; omega) hr21
      have HC2 := Lib.hid hcall2
      have HZ := Lib.hid (And.intro hzl (And.intro hzok (And.intro hzv (And.intro hzr hbel1))))
      clear hcall2 hzl hzok hzv hzr hzt hfv1 hr21 hbel1 c0 c1 c2 c3 c4
      go_wp2_with fail
      refine HC2.out.mono ?_
      rintro e u2 ⟨⟨v2, rfl⟩, ys, hyl, hyok, hyv, hyr, hyt⟩
      obtain ⟨hzl, hzok, hzv, hzr, hbel1⟩ := HZ.out
      have hzr2 := hzr.touch hyt (by have := HG.out.2.2; omega)
      have hbel2 := touch_below hbel1 hyt hbel1.size (by have := HG.out.2.1; omega)
      have ht1 := trim_any (some ⟨g1, 0, none⟩) zs l u2 (.inr ⟨g1, 0, rfl, hzr2⟩) (by omega) (by omega) (by unfold maxLen; omega)
      have ht2 := trim_any (some ⟨g2, 0, none⟩) ys l u2 (.inr ⟨g2, 0, rfl, hyr⟩) (by omega) (by omega) (by unfold maxLen; omega)
      rw [hzl, trimW_length zs hzok, hzv] at ht1
      rw [hyl, trimW_length ys hyok, hyv] at ht2
      have HT1 := Lib.hid ht1
      have HT2 := Lib.hid ht2
      have HE := Lib.hid (And.intro hzl (And.intro hzok (And.intro hzv (And.intro hzr2 (And.intro hyl (And.intro hyok (And.intro hyv (And.intro hyr hbel2))))))))
      clear ht1 ht2 hzl hzok hzv hzr hzr2 hbel1 hbel2 hyl hyok hyv hyr hyt
      go_wp2_with fail
      refine HT1.out.mono ?_
      rintro e w' ⟨rfl, rfl⟩
      go_wp2_with fail
      refine HT2.out.mono ?_
      rintro e w' ⟨rfl, rfl⟩
      go_wp2_with fail
      go_ret2
      obtain ⟨hzl, hzok, hzv, hzr2, hyl, hyok, hyv, hyr, hbel2⟩ := HE.out
      have t1 := take_trimW zs hzok
      have t2 := take_trimW ys hyok
      rw [hzv] at t1
      rw [hyv] at t2
      have n1 : (nw A).length ≤ l := by rw [← t1, List.length_take]; omega
      have n2 : (nw B).length ≤ l := by rw [← t2, List.length_take]; omega
      exact ⟨_, _, _, _, rfl, n1, n2, .inr ⟨g1, 0, rfl, by rw [← t1]; exact hzr2.take _⟩, .inr ⟨g2, 0, rfl, by rw [← t2]; exact hyr.take _⟩, hbel2⟩
    · have hd1 : sy * n = sx * m + A := by
        rcases HC.out.1 with ⟨h, _⟩ | ⟨_, h⟩
        · exact absurd h (by decide)
        · have e := HC.out.2.1
          simp only [if_true] at e
          omega
      have hd2 : nx * m = ny * n + B := by
        rcases HC.out.1 with ⟨h, _⟩ | ⟨_, h⟩
        · exact absurd h (by decide)
        · have e := HC.out.2.2
          simp only [if_true] at e
          omega
      have hcall1 := HYX.out sy sx A g1 wc hsy hsx hd1 hAM HW.out.2.2.2.1 (by have := HG.out.1; omega) HW.out.1
      have HC1 := Lib.hid hcall1
      have HD2 := Lib.hid hd2
      have HN := Lib.hid (And.intro hAM (And.intro hBM (And.intro hsx (And.intro hsy (And.intro hnx hny)))))
      clear hcall1 hd1 hd2 hAM hBM hsx hsy hnx hny
      go_wp2_with fail
      refine HC1.out.mono ?_
      rintro e u1 ⟨⟨v1, rfl⟩, zs, hzl, hzok, hzv, hzr, hzt⟩
      have hfv1 := HW.out.2.2.1.touch hzt (by have := HG.out.1; omega)
      have hr21 := HW.out.2.1.touch hzt (by have := HG.out.2.2; omega)
      have hbel1 := touch_below HW.out.2.2.2.1 hzt HW.out.2.2.2.1.size (by have := HG.out.1; omega)
      have d0 := (hfv1 0 (by omega)).1
      have d1 := (hfv1 1 (by omega)).1
      have d2 := (hfv1 2 (by omega)).1
      have d3 := (hfv1 3 (by omega)).1
      simp only [five] at d0 d1 d2 d3
      have hcall2 := HXY.out nx ny B g2 u1 HN.out.2.2.2.2.1 HN.out.2.2.2.2.2 HD2.out HN.out.2.1 hbel1 (by have := HG.out.2.1; omega) hr21
      have HC2 := Lib.hid hcall2
      have HZ := Lib.hid (And.intro hzl (And.intro hzok (And.intro hzv (And.intro hzr hbel1))))
      clear hcall2 hzl hzok hzv hzr hzt hfv1 hr21 hbel1 c0 c1 c2 c3 c4
      go_wp2_with fail
      refine HC2.out.mono ?_
      rintro e u2 ⟨⟨v2, rfl⟩, ys, hyl, hyok, hyv, hyr, hyt⟩
      obtain ⟨hzl, hzok, hzv, hzr, hbel1⟩ := HZ.out
      have hzr2 := hzr.touch hyt (by have := HG.out.2.2; omega)
      have hbel2 := touch_below hbel1 hyt hbel1.size (by have := HG.out.2.1; omega)
      have ht1 := trim_any (some ⟨g1, 0, none⟩) zs l u2 (.inr ⟨g1, 0, rfl, hzr2⟩) (by omega) (by omega) (by unfold maxLen; omega)
      have ht2 := trim_any (some ⟨g2, 0, none⟩) ys l u2 (.inr ⟨g2, 0, rfl, hyr⟩) (by omega) (by omega) (by unfold maxLen; omega)
      rw [hzl, trimW_length zs hzok, hzv] at ht1
      rw [hyl, trimW_length ys hyok, hyv] at ht2
      have HT1 := Lib.hid ht1
      have HT2 := Lib.hid ht2
      have HE := Lib.hid (And.intro hzl (And.intro hzok (And.intro hzv (And.intro hzr2 (And.intro hyl (And.intro hyok (And.intro hyv (And.intro hyr hbel2))))))))
      clear ht1 ht2 hzl hzok hzv hzr hzr2 hbel1 hbel2 hyl hyok hyv hyr hyt
      go_wp2_with fail
      refine HT1.out.mono ?_
      rintro e w' ⟨rfl, rfl⟩
      go_wp2_with fail
      refine HT2.out.mono ?_
      rintro e w' ⟨rfl, rfl⟩
      go_wp2_with fail
      go_ret2
      obtain ⟨hzl, hzok, hzv, hzr2, hyl, hyok, hyv, hyr, hbel2⟩ := HE.out
      have t1 := take_trimW zs hzok
      have t2 := take_trimW ys hyok
      rw [hzv] at t1
      rw [hyv] at t2
      have n1 : (nw A).length ≤ l := by rw [← t1, List.length_take]; omega
      have n2 : (nw B).length ≤ l := by rw [← t2, List.length_take]; omega
      exact ⟨_, _, _, _, rfl, n1, n2, .inr ⟨g1, 0, rfl, by rw [← t1]; exact hzr2.take _⟩, .inr ⟨g2, 0, rfl, by rw [← t2]; exact hyr.take _⟩, hbel2⟩
end Go.Proofs.YtpdhffjdgnpikaaGreatDoor
