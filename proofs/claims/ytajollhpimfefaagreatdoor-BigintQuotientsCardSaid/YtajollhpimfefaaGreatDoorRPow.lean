/- The contract of the reference's power. -/
import Derived.Test.YtajollhpimfefaaGreatDoorRDivF
namespace Go.Proofs.YtajollhpimfefaaGreatDoor
open Go.RowKit Go.Shelf

theorem beVal_zeros (k : Nat) : beVal (List.replicate k 0) = 0 := by
 induction k with
 | zero => rfl
 | succ k ih => rw [List.replicate_succ', beVal_snoc, ih]; rfl
theorem beVal_cons0 (c : UInt8) (k : Nat) : beVal (c :: List.replicate k 0) = c.toNat * 256 ^ k := by
 have h := beVal_append [c] (List.replicate k 0)
 rw [List.length_replicate, beVal_zeros, Nat.add_zero] at h
 have e : beVal [c] = c.toNat := by simp [beVal]
 rw [e] at h
 exact h

def zerosB (n : Nat) : Array Value := madeCells (Value.int .u8 0).cells n
theorem zerosB_get (n j : Nat) (h : j < n) : (zerosB n)[j]? = some (.int .u8 0) := by
 unfold zerosB madeCells
 rw [Array.getElem?_map, Array.getElem?_eq_getElem (by simpa using h)]
 simp [Value.cells, Nat.mod_one]
theorem make_zerosB (n : Nat) (hn : n ≤ 4194304) (w : World) :
  (Instr.makeSlice 72 (.int .i64 n) (.int .i64 n)).run Tryz.prog w = .ok (.slice (some ⟨w.heap.size, 0, none⟩) n n) (w.alloc (.cells (zerosB n) 5)) := by
 obtain ⟨i0, hi0, hz0, hz1, hz2⟩ := info_parts infoB
 have h := run_make w 72 5 i0 (.int .u8 0) Tryz.underlying72 hi0 hz0 .i64 .i64 (n : Int) (n : Int) (by omega) (by omega) (by rw [hz2]; omega) (by omega)
 rw [hz1] at h
 simpa [zerosB] using h
theorem rowB_first (w : World) (k z : Nat) (hz : z < 256) (T : TypeId) : RowB (w.alloc (.cells ((zerosB (k + 1)).setIfInBounds 0 (.int .u8 (z : Int))) T)) w.heap.size 0 (UInt8.ofNat z :: List.replicate k 0) := by
 intro j hj
 rw [List.length_cons, List.length_replicate] at hj
 have hh := heap_alloc_new w (.cells ((zerosB (k + 1)).setIfInBounds 0 (.int .u8 (z : Int))) T)
 have hsz : (zerosB (k + 1)).size = k + 1 := size_madeCells _ _
 constructor
 ·simp only [World.cell?, hh]
  rcases j with _ | j
  ·simp [hsz, Nat.mod_eq_of_lt hz]
  ·have h1 := zerosB_get (k + 1) (j + 1) hj
   simp [h1, show j < k by omega]
 ·simp only [World.frozen?, hh]
  simp

set_option maxHeartbeats 1000000 in
set_option maxRecDepth 100000 in
theorem rpower_any (n : Nat) (w : World) (hn : n ≤ 100000) :
  Calls Tryz.prog 70 #[.int .i64 (n : Int)] w fun e w' => (∃ s : ByteArray, e = .returned (.agg #[.bool false, .string s]) ∧ beVal s.data.toList = 2 ^ n ∧ s.size = n / 8 + 1) ∧ Below w.heap.size w w' := by
 obtain ⟨k, hk⟩ : ∃ k, n / 8 = k := ⟨_, rfl⟩
 obtain ⟨m, hm⟩ : ∃ m, n % 8 = m := ⟨_, rfl⟩
 have hm8 : m < 8 := by omega
 obtain ⟨z, hz⟩ : ∃ z, 2 ^ m = z := ⟨_, rfl⟩
 have hz128 : z ≤ 128 := by rw [← hz]; exact Nat.pow_le_pow_right (n := 2) (j := 7) (by omega) (by omega)
 have hzi : (2 : Int) ^ m = (z : Int) := by rw [← hz, Int.natCast_pow]; rfl
 have D1 : (n : Int) / 8 = (k : Int) := by omega
 have D2 : (n : Int) % 8 = (m : Int) := by omega
 have D3 : (n : Int).tdiv 8 = (k : Int) := by rw [Int.tdiv_eq_ediv_of_nonneg (by omega)]; exact D1
 have D4 : (n : Int).tmod 8 = (m : Int) := by rw [Int.tmod_eq_emod_of_nonneg (by omega)]; exact D2
 have G1 : IntKind.u8.wrap (2 ^ m) = (z : Int) := by rw [hzi, IntKind.wrap_u8]; omega
 have G2 : IntKind.u64.wrap (m : Int) = (m : Int) := wrapU _ (by omega)
 obtain ⟨l, hl⟩ : ∃ l, k + 1 = l := ⟨_, rfl⟩
 have hli : (k : Int) + 1 = (l : Int) := by omega
 have hlb : l ≤ 20000 := by omega
 have hl1 : (0 : Int) < (l : Int) := by omega
 have HN := Lib.hid (And.intro hk (And.intro hm (And.intro hz hl)))
 clear hk hm hz hl
 have hmk := make_zerosB l (by omega)
 go_enter Tryz.func70, Tryz.ntmps70
 have hrow := rowB_first (w.alloc (.cells #[.bool false, .string ⟨#[]⟩] 23)) k z (by omega) 5
 have hcv := conv_bytes (cap := k + 1) hrow
 rw [List.length_cons, List.length_replicate, World.size_alloc, HN.out.2.2.2] at hcv
 obtain ⟨sp, hsp⟩ : ∃ s : ByteArray, (⟨(UInt8.ofNat z :: List.replicate k 0).toArray⟩ : ByteArray) = s := ⟨_, rfl⟩
 rw [hsp] at hcv
 have HSP := Lib.hid hsp
 have hz2 := zerosB_get l 0 (by omega)
 clear hrow hsp
 have tR : Two w.heap.size (.bool false) (.string sp) ((w.alloc (.cells #[.bool false, .string sp] 23)).alloc (.cells ((zerosB l).setIfInBounds 0 (.int .u8 (z : Int))) 5)) :=
  (two_new w (.bool false) (.string sp) 23).below ((Below.refl _ _).alloc (Nat.le_refl _) _) (by simp)
 have r5 := tR.1.1
 have r6 := tR.2.1
 clear tR
 go_wp2_with fail
 refine bodyPost_ret (v := .agg #[.bool false, .string sp]) (by simp [results, Tryz.results70, go_sem, r5, r6]) rfl ⟨⟨_, rfl, ?_, ?_⟩, ((Below.refl _ _).alloc (Nat.le_refl _) _).alloc (by simp) _⟩
 ·rw [← HSP.out]
  show beVal (UInt8.ofNat z :: List.replicate k 0) = 2 ^ n
  rw [beVal_cons0, toNat_ofNat, Nat.mod_eq_of_lt (by omega), ← HN.out.2.2.1, show (256 : Nat) = 2 ^ 8 from rfl, ← Nat.pow_mul, ← Nat.pow_add]
  congr 1
  have := HN.out.1
  have := HN.out.2.1
  omega
 ·rw [← HSP.out]
  show (UInt8.ofNat z :: List.replicate k 0).toArray.size = n / 8 + 1
  rw [List.size_toArray, List.length_cons, List.length_replicate, HN.out.1]
end Go.Proofs.YtajollhpimfefaaGreatDoor
