/- The contract of the reference's Parse. -/
import Derived.Test.YtajollhpimfefaaGreatDoorRText
namespace Go.Proofs.YtajollhpimfefaaGreatDoor
open Go.RowKit Go.Shelf

theorem beVal_noughts (k : Nat) : beVal (List.replicate k 0) = 0 := by
  induction k with
  | zero => rfl
  | succ k ih => rw [List.replicate_succ', beVal_snoc, ih]; rfl
def noughts (n : Nat) : Array Value := madeCells (Value.int .u8 0).cells n
theorem noughts_get (n j : Nat) (h : j < n) : (noughts n)[j]? = some (.int .u8 0) := by
  unfold noughts madeCells
  rw [Array.getElem?_map, Array.getElem?_eq_getElem (by simpa using h)]
  simp [Value.cells, Nat.mod_one]
theorem rowB_noughts (w : World) (n : Nat) (T : TypeId) : RowB (w.alloc (.cells (noughts n) T)) w.heap.size 0 (List.replicate n 0) := by
  intro j hj
  rw [List.length_replicate] at hj
  have hh := heap_alloc_new w (.cells (noughts n) T)
  constructor
  · simp only [World.cell?, hh]
    simp [noughts_get n j hj, hj]
  · simp only [World.frozen?, hh]
    simp
theorem make_noughts (n : Nat) (hn : n ≤ 4194304) (w : World) :
    (Instr.makeSlice 72 (.int .i64 n) (.int .i64 n)).run Tryz.prog w = .ok (.slice (some ⟨w.heap.size, 0, none⟩) n n) (w.alloc (.cells (noughts n) 5)) := by
  obtain ⟨i0, hi0, hz0, hz1, hz2⟩ := info_parts infoB
  have h := run_make w 72 5 i0 (.int .u8 0) Tryz.underlying72 hi0 hz0 .i64 .i64 (n : Int) (n : Int) (by omega) (by omega) (by rw [hz2]; omega) (by omega)
  rw [hz1] at h
  simpa [noughts] using h

theorem rparse_long (s : ByteArray) (w : World) (hs : s.size ≤ maxLen) (h : 65536 < s.size) :
    Calls Tryz.prog 41 #[.string s] w fun e w' => e = .returned (.tuple #[.agg #[.bool false, .string ⟨#[]⟩], .int .i64 4]) ∧ Below w.heap.size w w' := by
  unfold maxLen at hs
  have hl : (65536 : Int) < (s.size : Int) := by omega
  go_enter Tryz.func41, Tryz.ntmps41
  go_wp2_with fail
  refine bodyPost_ret (v := .tuple #[.agg #[.bool false, .string ⟨#[]⟩], .int .i64 4]) (by simp [results, Tryz.results41, go_sem]) rfl ⟨rfl, (Below.refl _ _).alloc (Nat.le_refl _) _⟩

theorem tail_of (s D : ByteArray) (c : UInt8) (h : s.data.toList = c :: D.data.toList) : s.extract 1 s.size = D ∧ s.size = D.size + 1 := by
  have hsz : s.size = D.size + 1 := by rw [Lib.size_eq, h, Lib.size_eq]; rfl
  refine ⟨?_, hsz⟩
  apply ba_ext
  simp only [ByteArray.data_extract, Array.toList_extract, List.extract_eq_take_drop]
  rw [h, List.drop_one, List.tail_cons, List.take_of_length_le (by rw [← Lib.size_eq]; omega)]
theorem first_of (s : ByteArray) (h0 : 0 < s.size) : s[0].toNat = (s.data.toList.getD 0 0).toNat := digit_at s 0 h0
theorem nonempty_of (D : ByteArray) (h0 : 0 < D.size) : D.toList.isEmpty = false := by
  rw [Lib.toList_data]
  cases e : D.data.toList with
  | nil => rw [Lib.size_eq, e] at h0; exact absurd h0 (by decide)
  | cons a l => rfl
theorem set_there (A B : List UInt8) (c c' : UInt8) (i : Nat) (hi : i = A.length) : (A ++ (c :: B)).set i c' = A ++ (c' :: B) := by
  subst hi
  rw [List.set_append_right _ _ (Nat.le_refl _), Nat.sub_self]
  rfl
theorem get_there (A B : List UInt8) (c : UInt8) (i : Nat) (hi : i = A.length) : (A ++ (c :: B)).getD i 0 = c := by
  subst hi
  rw [List.getD_eq_getElem?_getD, List.getElem?_append_right (Nat.le_refl _), Nat.sub_self]
  rfl
theorem carry_step (cy c vl vh P X : Nat) (h : cy * P + vl + 10 * (vh * 256 + c) * P = X) : (cy + 10 * c) / 256 * (P * 256) + ((cy + 10 * c) % 256 * P + vl) + 10 * vh * (P * 256) = X := by
  have e : (cy + 10 * c) / 256 * (P * 256) + (cy + 10 * c) % 256 * P = (cy + 10 * c) * P := by
    rw [Nat.mul_comm P 256, ← Nat.mul_assoc, ← Nat.add_mul, Nat.mul_comm _ 256, Nat.div_add_mod]
  rw [← h]
  generalize (cy + 10 * c) / 256 = a at *
  generalize (cy + 10 * c) % 256 = b at *
  grind

set_option maxHeartbeats 2000000 in
set_option maxRecDepth 100000 in
/-- Digits behind a sign. -/
theorem rparse_1 (s D : ByteArray) (w : World) (z : Int) (c0 : Nat) (hs : s.size ≤ 200) (h0 : 0 < D.size) (hsp : 0 < s.size) (hx : s.extract 1 s.size = D) (hc : s[0].toNat = 45) (hcn : ¬ c0 = 48) (hsd : (D.size : Int) < (s.size : Int)) (hcd : D[0].toNat = c0) (hda : ∀ j, j < D.size → DigitAt D j) (hz1 : sgn true (dv D.data.toList) = z) :
    Calls Tryz.prog 41 #[.string s] w fun e w' => e = .returned (.tuple #[.agg #[.bool (ng z), .string (mg z)], .int .i64 0]) ∧ Below w.heap.size w w' := by
  have hem := nonempty_of D h0
  have HD := Lib.hid (And.intro hda trivial)
  have HZ := Lib.hid hz1
  have hl : ¬ (65536 : Int) < (s.size : Int) := by omega
  have hsp1 : (0 : Int) < (s.size : Int) := by omega
  have hmk := make_noughts D.size (by omega)
  clear hda hz1
  go_enter Tryz.func41, Tryz.ntmps41
  go_wp2_with fail
  obtain ⟨W1, hW1⟩ : ∃ V, w.alloc (Obj.cells #[Value.bool false, Value.string ⟨#[]⟩] 23) = V := ⟨_, rfl⟩
  have tA : Two w.heap.size (.bool false) (.string ⟨#[]⟩) W1 := by rw [← hW1]; exact two_new _ _ _ _
  have hb1 : Below w.heap.size w W1 := by rw [← hW1]; exact (Below.refl _ _).alloc (Nat.le_refl _) _
  have H1 := Lib.hid (And.intro hb1 tA)
  rw [hW1]
  clear hW1 tA hb1
  go_loopw [3, 5] (fun e i wx => ∃ k : Nat, e = .int .i64 0 ∧ i = .int .i64 k ∧ k ≤ D.size ∧ wx = W1) (fun _ i _ => D.size - (intOf i).toNat)
  case atStart => exact ⟨0, rfl, rfl, Nat.zero_le _, rfl⟩
  case round =>
    obtain ⟨k, rfl, rfl, hk, rfl⟩ := hrel
    by_cases hlt : k < D.size
    · obtain ⟨c, hc⟩ : ∃ c, (D.data.toList.getD k 0).toNat = c := ⟨_, rfl⟩
      have va : D[k].toNat = c := by rw [digit_at D k hlt]; exact hc
      have hgg : 48 ≤ c ∧ c ≤ 57 := by have h := HD.out.1 k hlt; unfold DigitAt at h; rw [hc] at h; exact h
      have g1 : ¬ (c : Int) < 48 := by omega
      have g2 : ¬ (57 : Int) < (c : Int) := by omega
      clear hc
      go_wp2_with fail
      exact ⟨⟨k + 1, rfl, by go_num, by omega, trivial⟩, by simp [intOf]; omega⟩
    · go_wp2_with fail
      obtain ⟨W2, hW2⟩ : ∃ V, wr.alloc (Obj.cells (noughts D.size) 5) = V := ⟨_, rfl⟩
      obtain ⟨g, hg⟩ : ∃ g, wr.heap.size = g := ⟨_, rfl⟩
      have hr2 : RowB W2 g 0 (List.replicate D.size 0) := by rw [← hW2, ← hg]; exact rowB_noughts wr D.size _
      have hb2 : Below w.heap.size w W2 := by rw [← hW2]; exact H1.out.1.alloc H1.out.1.size _
      have hwg : w.heap.size < g := by rw [← hg]; exact H1.out.2.lt
      have tA : Two w.heap.size (.bool false) (.string ⟨#[]⟩) W2 := by rw [← hW2]; exact H1.out.2.below ((Below.refl wr.heap.size wr).alloc (Nat.le_refl _) _) H1.out.2.lt
      obtain ⟨n, hn⟩ : ∃ n, D.size = n := ⟨_, rfl⟩
      have hDl : D.data.toList.length = n := by rw [← hn, Lib.size_eq]
      rw [hn] at hr2
      have H2 := Lib.hid (And.intro hr2 (And.intro hb2 (And.intro hwg (And.intro tA hDl))))
      rw [hW2, hg, hn]
      clear hW2 hg hr2 hb2 hwg tA hDl hlt hk
      go_loopw [7, 8] (fun u i wx => ∃ (us k : Nat) (L : List UInt8), u = .int .i64 us ∧ i = .int .i64 k ∧ k ≤ n ∧ us ≤ k ∧ L.length = us ∧ beVal L = dv (D.data.toList.take k) ∧ RowB wx g 0 (List.replicate (n - us) 0 ++ L) ∧ Below g W2 wx) (fun _ i _ => n - (intOf i).toNat)
      case atStart => exact ⟨0, 0, [], rfl, rfl, Nat.zero_le _, Nat.le_refl _, rfl, rfl, by rw [List.append_nil]; exact H2.out.1, Below.refl _ _⟩
      case round =>
        obtain ⟨us, k, L, rfl, rfl, hk, huk, hL, hval, hrow, hbel⟩ := hrel
        have HV := Lib.hid (And.intro hL (And.intro hval (And.intro hrow hbel)))
        clear hL hval hrow hbel
        by_cases hlt : k < n
        · have hltD : k < D.size := by omega
          obtain ⟨c, hc⟩ : ∃ c, (D.data.toList.getD k 0).toNat = c := ⟨_, rfl⟩
          have va : D[k].toNat = c := by rw [digit_at D k hltD]; exact hc
          have hgg : 48 ≤ c ∧ c ≤ 57 := by have h := HD.out.1 k hltD; unfold DigitAt at h; rw [hc] at h; exact h
          obtain ⟨d, hd⟩ : ∃ d : Nat, (c : Int) - 48 = (d : Int) := ⟨c - 48, by omega⟩
          have hd9 : d ≤ 9 := by omega
          have HC := Lib.hid (And.intro hc hd)
          clear hc
          go_wp2_with fail
          go_loopw [9, 10] (fun cv kv wx => ∃ (j cy : Nat) (H Lo : List UInt8), cv = .int .i64 cy ∧ kv = .int .i64 ((j + 1 : Nat) : Int) ∧ H.length + j = us ∧ Lo.length = j ∧ cy ≤ 9 ∧ cy * 256 ^ j + beVal Lo + 10 * beVal H * 256 ^ j = d + 10 * beVal L ∧ RowB wx g 0 (List.replicate (n - us) 0 ++ (H ++ Lo)) ∧ Below g W2 wx) (fun _ kv _ => us + 1 - (intOf kv).toNat)
          case atStart =>
            have h := HV.out
            exact ⟨0, d, L, [], rfl, rfl, h.1, rfl, hd9, by simp [beVal_nil], by rw [List.append_nil]; exact h.2.2.1, h.2.2.2⟩
          case round =>
            obtain ⟨j, cy, H, Lo, rfl, rfl, hH, hLo, hcy, hval, hrow, hbel⟩ := hrel
            by_cases hj : j < us
            · obtain ⟨H', c2, rfl⟩ : ∃ a c, H = a ++ [c] := ⟨H.dropLast, H.getLast (fun e => by rw [e] at hH; simp at hH; omega), (List.dropLast_concat_getLast _).symm⟩
              rw [List.length_append, List.length_singleton] at hH
              rw [List.append_assoc, List.singleton_append, ← List.append_assoc] at hrow
              obtain ⟨q, hq⟩ : ∃ q, (List.replicate (n - us) (0 : UInt8) ++ H').length = q := ⟨_, rfl⟩
              have hqn : q + (j + 1) = n := by rw [← hq, List.length_append, List.length_replicate]; omega
              have hql : q < (List.replicate (n - us) (0 : UInt8) ++ H' ++ (c2 :: Lo)).length := by rw [List.length_append, hq]; simp
              have hcc := hrow q hql
              rw [get_there _ _ _ _ hq.symm, Nat.zero_add] at hcc
              obtain ⟨x, hx2⟩ : ∃ x, c2.toNat = x := ⟨_, rfl⟩
              have hx256 : x < 256 := by rw [← hx2]; exact UInt8.toNat_lt _
              rw [hx2] at hcc
              have hct := hcc.1
              have hcf := hcc.2
              obtain ⟨jj, hjj⟩ : ∃ jj, j + 1 = jj := ⟨_, rfl⟩
              rw [hjj]
              have hqi : (n : Int) - (jj : Int) = (q : Int) := by omega
              have hjl : (jj : Int) ≤ (us : Int) := by omega
              have hjl2 : jj ≤ n := by omega
              have hqn2 : q < n := by omega
              rw [beVal_snoc, hx2] at hval
              have hst := carry_step cy x _ _ _ _ hval
              have HW := Lib.hid (And.intro hH (And.intro hLo (And.intro hst (And.intro hrow (And.intro hbel (And.intro hq hql))))))
              have HJ := Lib.hid (And.intro hjj hqn)
              clear hH hLo hst hrow hbel hval hcc hq hql hqn hx2 hjj hj
              go_wp2_with fail
              obtain ⟨hjj, hqn⟩ := HJ.out
              subst hjj
              have h := HW.out
              refine ⟨⟨j + 1, (cy + 10 * x) / 256, H', UInt8.ofNat ((cy + 10 * x) % 256) :: Lo, congrArg (Value.int .i64) (by omega), by go_num, by have := h.1; omega, by rw [List.length_cons, h.2.1], by omega, ?_, ?_, h.2.2.2.2.1.setCell (Nat.le_refl _) _⟩, by simp [intOf]; omega⟩
              · rw [beVal_cons, toNat_ofNat, h.2.1, Nat.mod_mod, Nat.pow_succ]
                exact h.2.2.1
              · have hs := rowB_set h.2.2.2.1 q (UInt8.ofNat ((cy + 10 * x) % 256)) ((((cy + 10 * x) % 256 : Nat) : Int)) (by rw [toNat_ofNat, Nat.mod_mod]) q (by omega) h.2.2.2.2.2.2
                rw [set_there _ _ _ _ _ h.2.2.2.2.2.1.symm, List.append_assoc] at hs
                rw [show ((cy : Int) + 10 * (x : Int)) % 256 = (((cy + 10 * x) % 256 : Nat) : Int) by omega]
                exact hs
            · have hju : j = us := by omega
              subst hju
              have hH0 : H = [] := List.length_eq_zero_iff.1 (by omega)
              subst hH0
              rw [List.nil_append] at hrow
              rw [beVal_nil, Nat.mul_zero, Nat.zero_mul, Nat.add_zero] at hval
              have hdk : dv (D.data.toList.take (k + 1)) = cy * 256 ^ j + beVal Lo := by
                have h1 := HC.out
                rw [dv_take _ k (by rw [H2.out.2.2.2.2]; omega), hval, ← HV.out.2.1, h1.1]
                omega
              have hjl : ¬ ((j + 1 : Nat) : Int) ≤ (j : Int) := by omega
              by_cases hcp : 0 < cy
              · obtain ⟨uu, huu⟩ : ∃ u, j + 1 = u := ⟨_, rfl⟩
                obtain ⟨q, hq⟩ : ∃ q, n - uu = q := ⟨_, rfl⟩
                have hqi : (n : Int) - (uu : Int) = (q : Int) := by omega
                have hqn : q < n := by omega
                have hrr : List.replicate (n - j) (0 : UInt8) = List.replicate q 0 ++ [0] := by rw [show n - j = q + 1 by omega, List.replicate_succ']
                rw [hrr, List.append_assoc, List.singleton_append] at hrow
                have hql : q < (List.replicate q (0 : UInt8) ++ (0 :: Lo)).length := by rw [List.length_append, List.length_replicate]; simp
                have hcc := hrow q hql
                rw [get_there _ _ _ _ (by rw [List.length_replicate]), Nat.zero_add] at hcc
                have hct := hcc.1
                have hcf := hcc.2
                have hjj : (j : Int) + 1 = (uu : Int) := by omega
                have hcpi : (0 : Int) < (cy : Int) := by omega
                have hun : uu ≤ n := by omega
                have HW := Lib.hid (And.intro hLo (And.intro hdk (And.intro hrow (And.intro hbel (And.intro hql (And.intro huu hq))))))
                clear hH hLo hrow hbel hval hcc hql hdk hrr huu hq hj
                go_wp2_with fail
                have h := HW.out
                have hu := h.2.2.2.2.2.1
                have hq := h.2.2.2.2.2.2
                refine ⟨⟨uu, k + 1, UInt8.ofNat cy :: Lo, rfl, by go_num, by omega, by omega, by rw [List.length_cons, h.1]; exact hu, ?_, ?_, h.2.2.2.1.setCell (Nat.le_refl _) _⟩, by simp [intOf]; omega⟩
                · rw [beVal_cons, toNat_ofNat, Nat.mod_eq_of_lt (by omega), h.1]
                  exact h.2.1.symm
                · have hs := rowB_set h.2.2.1 q (UInt8.ofNat cy) (cy : Int) (by rw [toNat_ofNat, Nat.mod_eq_of_lt (by omega)]) q (by omega) h.2.2.2.2.1
                  rw [set_there _ _ _ _ _ (by rw [List.length_replicate])] at hs
                  rw [hq]
                  exact hs
              · have hc00 : cy = 0 := by omega
                subst hc00
                have HW := Lib.hid (And.intro hLo (And.intro hdk (And.intro hrow hbel)))
                clear hH hLo hrow hbel hval hdk hj hcp
                go_wp2_with fail
                have h := HW.out
                exact ⟨⟨j, k + 1, Lo, rfl, by go_num, by omega, by omega, h.1, by rw [h.2.1]; omega, h.2.2.1, h.2.2.2⟩, by simp [intOf]; omega⟩
        · have hkn : k = n := by omega
          subst hkn
          have h := HV.out
          have hXl : (List.replicate (k - us) (0 : UInt8) ++ L).length = k := by rw [List.length_append, List.length_replicate, h.1]; omega
          have hcv := conv_bytes (cap := k) h.2.2.1
          rw [hXl] at hcv
          obtain ⟨X, hX⟩ : ∃ X : ByteArray, (⟨(List.replicate (k - us) (0 : UInt8) ++ L).toArray⟩ : ByteArray) = X := ⟨_, rfl⟩
          rw [hX] at hcv
          have hiz : ival true X = z := by
            rw [← hX, ← HZ.out]
            show (if true then -((beVal (List.replicate (k - us) (0 : UInt8) ++ L) : Nat) : Int) else ((beVal (List.replicate (k - us) (0 : UInt8) ++ L) : Nat) : Int)) = sgn true _
            rw [beVal_append, beVal_noughts, Nat.zero_mul, Nat.zero_add, h.2.1, List.take_of_length_le (by rw [H2.out.2.2.2.2]; exact Nat.le_refl _)]
            rfl
          have hca := fun W => rcanonical_any true X W
          rw [hiz] at hca
          have tA := H2.out.2.2.2.1.below h.2.2.2 H2.out.2.2.1
          have hbl := H2.out.2.1.trans (h.2.2.2.mono (by have := H2.out.2.2.1; omega))
          have HB := Lib.hid (And.intro hbl tA)
          have HCA := Lib.hid hca
          clear h hXl hX hiz hca tA hbl
          go_wp2_with fail
          rw [show decide (k < s.size) = true from decide_eq_true (by omega)]
          refine (HCA.out _).mono ?_
          rintro e wA ⟨rfl, cA⟩
          have hbl := HB.out.1.trans (cA.mono HB.out.1.size)
          have tA := HB.out.2.below cA HB.out.2.lt
          have m1 := tA.1.1
          have m2 := tA.2.1
          have m3 := tA.1.2
          have m4 := tA.2.2
          have tB := two_set tA (.bool (ng z)) (.string (mg z))
          have y0 := tB.1.1
          have y1 := tB.2.1
          have hE : Below w.heap.size w ((wA.setCell ⟨w.heap.size, 0, none⟩ (.bool (ng z))).setCell ⟨w.heap.size, 1, none⟩ (.string (mg z))) := (hbl.setCell (Nat.le_refl _) _).setCell (Nat.le_refl _) _
          have HE := Lib.hid hE
          clear hbl tA tB cA hE
          go_wp2_with fail
          refine bodyPost_ret (v := .tuple #[.agg #[.bool (ng z), .string (mg z)], .int .i64 0]) (by simp [results, Tryz.results41, go_sem, y0, y1]) rfl ⟨rfl, ?_⟩
          exact HE.out

set_option maxHeartbeats 2000000 in
set_option maxRecDepth 100000 in
/-- Digits that do not begin with a nought. -/
theorem rparse_2 (s : ByteArray) (w : World) (z : Int) (c0 : Nat) (hs : s.size ≤ 200) (h0 : 0 < s.size) (hsp : 0 < s.size) (h45 : ¬ c0 = 45) (hcn : ¬ c0 = 48) (hcd : s[0].toNat = c0) (hda : ∀ j, j < s.size → DigitAt s j) (hz1 : sgn false (dv s.data.toList) = z) :
    Calls Tryz.prog 41 #[.string s] w fun e w' => e = .returned (.tuple #[.agg #[.bool (ng z), .string (mg z)], .int .i64 0]) ∧ Below w.heap.size w w' := by
  have hem := nonempty_of s h0
  have HD := Lib.hid (And.intro hda trivial)
  have HZ := Lib.hid hz1
  have hl : ¬ (65536 : Int) < (s.size : Int) := by omega
  have hsp1 : (0 : Int) < (s.size : Int) := by omega
  have hmk := make_noughts s.size (by omega)
  have hq1 : ¬ (c0 : Int) = 45 := by omega
  have hq2 : ¬ (c0 : Int) = 48 := by omega
  clear hda hz1
  go_enter Tryz.func41, Tryz.ntmps41
  go_wp2_with fail
  obtain ⟨W1, hW1⟩ : ∃ V, w.alloc (Obj.cells #[Value.bool false, Value.string ⟨#[]⟩] 23) = V := ⟨_, rfl⟩
  have tA : Two w.heap.size (.bool false) (.string ⟨#[]⟩) W1 := by rw [← hW1]; exact two_new _ _ _ _
  have hb1 : Below w.heap.size w W1 := by rw [← hW1]; exact (Below.refl _ _).alloc (Nat.le_refl _) _
  have H1 := Lib.hid (And.intro hb1 tA)
  rw [hW1]
  clear hW1 tA hb1
  go_loopw [3, 5] (fun e i wx => ∃ k : Nat, e = .int .i64 0 ∧ i = .int .i64 k ∧ k ≤ s.size ∧ wx = W1) (fun _ i _ => s.size - (intOf i).toNat)
  case atStart => exact ⟨0, rfl, rfl, Nat.zero_le _, rfl⟩
  case round =>
    obtain ⟨k, rfl, rfl, hk, rfl⟩ := hrel
    by_cases hlt : k < s.size
    · obtain ⟨c, hc⟩ : ∃ c, (s.data.toList.getD k 0).toNat = c := ⟨_, rfl⟩
      have va : s[k].toNat = c := by rw [digit_at s k hlt]; exact hc
      have hgg : 48 ≤ c ∧ c ≤ 57 := by have h := HD.out.1 k hlt; unfold DigitAt at h; rw [hc] at h; exact h
      have g1 : ¬ (c : Int) < 48 := by omega
      have g2 : ¬ (57 : Int) < (c : Int) := by omega
      clear hc
      go_wp2_with fail
      exact ⟨⟨k + 1, rfl, by go_num, by omega, trivial⟩, by simp [intOf]; omega⟩
    · go_wp2_with fail
      obtain ⟨W2, hW2⟩ : ∃ V, wr.alloc (Obj.cells (noughts s.size) 5) = V := ⟨_, rfl⟩
      obtain ⟨g, hg⟩ : ∃ g, wr.heap.size = g := ⟨_, rfl⟩
      have hr2 : RowB W2 g 0 (List.replicate s.size 0) := by rw [← hW2, ← hg]; exact rowB_noughts wr s.size _
      have hb2 : Below w.heap.size w W2 := by rw [← hW2]; exact H1.out.1.alloc H1.out.1.size _
      have hwg : w.heap.size < g := by rw [← hg]; exact H1.out.2.lt
      have tA : Two w.heap.size (.bool false) (.string ⟨#[]⟩) W2 := by rw [← hW2]; exact H1.out.2.below ((Below.refl wr.heap.size wr).alloc (Nat.le_refl _) _) H1.out.2.lt
      obtain ⟨n, hn⟩ : ∃ n, s.size = n := ⟨_, rfl⟩
      have hDl : s.data.toList.length = n := by rw [← hn, Lib.size_eq]
      rw [hn] at hr2
      have H2 := Lib.hid (And.intro hr2 (And.intro hb2 (And.intro hwg (And.intro tA hDl))))
      rw [hW2, hg, hn]
      clear hW2 hg hr2 hb2 hwg tA hDl hlt hk
      go_loopw [7, 8] (fun u i wx => ∃ (us k : Nat) (L : List UInt8), u = .int .i64 us ∧ i = .int .i64 k ∧ k ≤ n ∧ us ≤ k ∧ L.length = us ∧ beVal L = dv (s.data.toList.take k) ∧ RowB wx g 0 (List.replicate (n - us) 0 ++ L) ∧ Below g W2 wx) (fun _ i _ => n - (intOf i).toNat)
      case atStart => exact ⟨0, 0, [], rfl, rfl, Nat.zero_le _, Nat.le_refl _, rfl, rfl, by rw [List.append_nil]; exact H2.out.1, Below.refl _ _⟩
      case round =>
        obtain ⟨us, k, L, rfl, rfl, hk, huk, hL, hval, hrow, hbel⟩ := hrel
        have HV := Lib.hid (And.intro hL (And.intro hval (And.intro hrow hbel)))
        clear hL hval hrow hbel
        by_cases hlt : k < n
        · have hltD : k < s.size := by omega
          obtain ⟨c, hc⟩ : ∃ c, (s.data.toList.getD k 0).toNat = c := ⟨_, rfl⟩
          have va : s[k].toNat = c := by rw [digit_at s k hltD]; exact hc
          have hgg : 48 ≤ c ∧ c ≤ 57 := by have h := HD.out.1 k hltD; unfold DigitAt at h; rw [hc] at h; exact h
          obtain ⟨d, hd⟩ : ∃ d : Nat, (c : Int) - 48 = (d : Int) := ⟨c - 48, by omega⟩
          have hd9 : d ≤ 9 := by omega
          have HC := Lib.hid (And.intro hc hd)
          clear hc
          go_wp2_with fail
          go_loopw [9, 10] (fun cv kv wx => ∃ (j cy : Nat) (H Lo : List UInt8), cv = .int .i64 cy ∧ kv = .int .i64 ((j + 1 : Nat) : Int) ∧ H.length + j = us ∧ Lo.length = j ∧ cy ≤ 9 ∧ cy * 256 ^ j + beVal Lo + 10 * beVal H * 256 ^ j = d + 10 * beVal L ∧ RowB wx g 0 (List.replicate (n - us) 0 ++ (H ++ Lo)) ∧ Below g W2 wx) (fun _ kv _ => us + 1 - (intOf kv).toNat)
          case atStart =>
            have h := HV.out
            exact ⟨0, d, L, [], rfl, rfl, h.1, rfl, hd9, by simp [beVal_nil], by rw [List.append_nil]; exact h.2.2.1, h.2.2.2⟩
          case round =>
            obtain ⟨j, cy, H, Lo, rfl, rfl, hH, hLo, hcy, hval, hrow, hbel⟩ := hrel
            by_cases hj : j < us
            · obtain ⟨H', c2, rfl⟩ : ∃ a c, H = a ++ [c] := ⟨H.dropLast, H.getLast (fun e => by rw [e] at hH; simp at hH; omega), (List.dropLast_concat_getLast _).symm⟩
              rw [List.length_append, List.length_singleton] at hH
              rw [List.append_assoc, List.singleton_append, ← List.append_assoc] at hrow
              obtain ⟨q, hq⟩ : ∃ q, (List.replicate (n - us) (0 : UInt8) ++ H').length = q := ⟨_, rfl⟩
              have hqn : q + (j + 1) = n := by rw [← hq, List.length_append, List.length_replicate]; omega
              have hql : q < (List.replicate (n - us) (0 : UInt8) ++ H' ++ (c2 :: Lo)).length := by rw [List.length_append, hq]; simp
              have hcc := hrow q hql
              rw [get_there _ _ _ _ hq.symm, Nat.zero_add] at hcc
              obtain ⟨x, hx2⟩ : ∃ x, c2.toNat = x := ⟨_, rfl⟩
              have hx256 : x < 256 := by rw [← hx2]; exact UInt8.toNat_lt _
              rw [hx2] at hcc
              have hct := hcc.1
              have hcf := hcc.2
              obtain ⟨jj, hjj⟩ : ∃ jj, j + 1 = jj := ⟨_, rfl⟩
              rw [hjj]
              have hqi : (n : Int) - (jj : Int) = (q : Int) := by omega
              have hjl : (jj : Int) ≤ (us : Int) := by omega
              have hjl2 : jj ≤ n := by omega
              have hqn2 : q < n := by omega
              rw [beVal_snoc, hx2] at hval
              have hst := carry_step cy x _ _ _ _ hval
              have HW := Lib.hid (And.intro hH (And.intro hLo (And.intro hst (And.intro hrow (And.intro hbel (And.intro hq hql))))))
              have HJ := Lib.hid (And.intro hjj hqn)
              clear hH hLo hst hrow hbel hval hcc hq hql hqn hx2 hjj hj
              go_wp2_with fail
              obtain ⟨hjj, hqn⟩ := HJ.out
              subst hjj
              have h := HW.out
              refine ⟨⟨j + 1, (cy + 10 * x) / 256, H', UInt8.ofNat ((cy + 10 * x) % 256) :: Lo, congrArg (Value.int .i64) (by omega), by go_num, by have := h.1; omega, by rw [List.length_cons, h.2.1], by omega, ?_, ?_, h.2.2.2.2.1.setCell (Nat.le_refl _) _⟩, by simp [intOf]; omega⟩
              · rw [beVal_cons, toNat_ofNat, h.2.1, Nat.mod_mod, Nat.pow_succ]
                exact h.2.2.1
              · have hs := rowB_set h.2.2.2.1 q (UInt8.ofNat ((cy + 10 * x) % 256)) ((((cy + 10 * x) % 256 : Nat) : Int)) (by rw [toNat_ofNat, Nat.mod_mod]) q (by omega) h.2.2.2.2.2.2
                rw [set_there _ _ _ _ _ h.2.2.2.2.2.1.symm, List.append_assoc] at hs
                rw [show ((cy : Int) + 10 * (x : Int)) % 256 = (((cy + 10 * x) % 256 : Nat) : Int) by omega]
                exact hs
            · have hju : j = us := by omega
              subst hju
              have hH0 : H = [] := List.length_eq_zero_iff.1 (by omega)
              subst hH0
              rw [List.nil_append] at hrow
              rw [beVal_nil, Nat.mul_zero, Nat.zero_mul, Nat.add_zero] at hval
              have hdk : dv (s.data.toList.take (k + 1)) = cy * 256 ^ j + beVal Lo := by
                have h1 := HC.out
                rw [dv_take _ k (by rw [H2.out.2.2.2.2]; omega), hval, ← HV.out.2.1, h1.1]
                omega
              have hjl : ¬ ((j + 1 : Nat) : Int) ≤ (j : Int) := by omega
              by_cases hcp : 0 < cy
              · obtain ⟨uu, huu⟩ : ∃ u, j + 1 = u := ⟨_, rfl⟩
                obtain ⟨q, hq⟩ : ∃ q, n - uu = q := ⟨_, rfl⟩
                have hqi : (n : Int) - (uu : Int) = (q : Int) := by omega
                have hqn : q < n := by omega
                have hrr : List.replicate (n - j) (0 : UInt8) = List.replicate q 0 ++ [0] := by rw [show n - j = q + 1 by omega, List.replicate_succ']
                rw [hrr, List.append_assoc, List.singleton_append] at hrow
                have hql : q < (List.replicate q (0 : UInt8) ++ (0 :: Lo)).length := by rw [List.length_append, List.length_replicate]; simp
                have hcc := hrow q hql
                rw [get_there _ _ _ _ (by rw [List.length_replicate]), Nat.zero_add] at hcc
                have hct := hcc.1
                have hcf := hcc.2
                have hjj : (j : Int) + 1 = (uu : Int) := by omega
                have hcpi : (0 : Int) < (cy : Int) := by omega
                have hun : uu ≤ n := by omega
                have HW := Lib.hid (And.intro hLo (And.intro hdk (And.intro hrow (And.intro hbel (And.intro hql (And.intro huu hq))))))
                clear hH hLo hrow hbel hval hcc hql hdk hrr huu hq hj
                go_wp2_with fail
                have h := HW.out
                have hu := h.2.2.2.2.2.1
                have hq := h.2.2.2.2.2.2
                refine ⟨⟨uu, k + 1, UInt8.ofNat cy :: Lo, rfl, by go_num, by omega, by omega, by rw [List.length_cons, h.1]; exact hu, ?_, ?_, h.2.2.2.1.setCell (Nat.le_refl _) _⟩, by simp [intOf]; omega⟩
                · rw [beVal_cons, toNat_ofNat, Nat.mod_eq_of_lt (by omega), h.1]
                  exact h.2.1.symm
                · have hs := rowB_set h.2.2.1 q (UInt8.ofNat cy) (cy : Int) (by rw [toNat_ofNat, Nat.mod_eq_of_lt (by omega)]) q (by omega) h.2.2.2.2.1
                  rw [set_there _ _ _ _ _ (by rw [List.length_replicate])] at hs
                  rw [hq]
                  exact hs
              · have hc00 : cy = 0 := by omega
                subst hc00
                have HW := Lib.hid (And.intro hLo (And.intro hdk (And.intro hrow hbel)))
                clear hH hLo hrow hbel hval hdk hj hcp
                go_wp2_with fail
                have h := HW.out
                exact ⟨⟨j, k + 1, Lo, rfl, by go_num, by omega, by omega, h.1, by rw [h.2.1]; omega, h.2.2.1, h.2.2.2⟩, by simp [intOf]; omega⟩
        · have hkn : k = n := by omega
          subst hkn
          have h := HV.out
          have hXl : (List.replicate (k - us) (0 : UInt8) ++ L).length = k := by rw [List.length_append, List.length_replicate, h.1]; omega
          have hcv := conv_bytes (cap := k) h.2.2.1
          rw [hXl] at hcv
          obtain ⟨X, hX⟩ : ∃ X : ByteArray, (⟨(List.replicate (k - us) (0 : UInt8) ++ L).toArray⟩ : ByteArray) = X := ⟨_, rfl⟩
          rw [hX] at hcv
          have hiz : ival false X = z := by
            rw [← hX, ← HZ.out]
            show (if false then -((beVal (List.replicate (k - us) (0 : UInt8) ++ L) : Nat) : Int) else ((beVal (List.replicate (k - us) (0 : UInt8) ++ L) : Nat) : Int)) = sgn false _
            rw [beVal_append, beVal_noughts, Nat.zero_mul, Nat.zero_add, h.2.1, List.take_of_length_le (by rw [H2.out.2.2.2.2]; exact Nat.le_refl _)]
            rfl
          have hca := fun W => rcanonical_any false X W
          rw [hiz] at hca
          have tA := H2.out.2.2.2.1.below h.2.2.2 H2.out.2.2.1
          have hbl := H2.out.2.1.trans (h.2.2.2.mono (by have := H2.out.2.2.1; omega))
          have HB := Lib.hid (And.intro hbl tA)
          have HCA := Lib.hid hca
          clear h hXl hX hiz hca tA hbl
          go_wp2_with fail
          skip
          refine (HCA.out _).mono ?_
          rintro e wA ⟨rfl, cA⟩
          have hbl := HB.out.1.trans (cA.mono HB.out.1.size)
          have tA := HB.out.2.below cA HB.out.2.lt
          have m1 := tA.1.1
          have m2 := tA.2.1
          have m3 := tA.1.2
          have m4 := tA.2.2
          have tB := two_set tA (.bool (ng z)) (.string (mg z))
          have y0 := tB.1.1
          have y1 := tB.2.1
          have hE : Below w.heap.size w ((wA.setCell ⟨w.heap.size, 0, none⟩ (.bool (ng z))).setCell ⟨w.heap.size, 1, none⟩ (.string (mg z))) := (hbl.setCell (Nat.le_refl _) _).setCell (Nat.le_refl _) _
          have HE := Lib.hid hE
          clear hbl tA tB cA hE
          go_wp2_with fail
          refine bodyPost_ret (v := .tuple #[.agg #[.bool (ng z), .string (mg z)], .int .i64 0]) (by simp [results, Tryz.results41, go_sem, y0, y1]) rfl ⟨rfl, ?_⟩
          exact HE.out

set_option maxHeartbeats 2000000 in
set_option maxRecDepth 100000 in
/-- One digit, a nought. -/
theorem rparse_3 (s : ByteArray) (w : World) (z : Int) (c0 : Nat) (hs : s.size ≤ 200) (h0 : 0 < s.size) (hsp : 0 < s.size) (h48 : c0 = 48) (h1 : s.size = 1) (hcd : s[0].toNat = c0) (hda : ∀ j, j < s.size → DigitAt s j) (hz1 : sgn false (dv s.data.toList) = z) :
    Calls Tryz.prog 41 #[.string s] w fun e w' => e = .returned (.tuple #[.agg #[.bool (ng z), .string (mg z)], .int .i64 0]) ∧ Below w.heap.size w w' := by
  have hem := nonempty_of s h0
  have HD := Lib.hid (And.intro hda trivial)
  have HZ := Lib.hid hz1
  have hl : ¬ (65536 : Int) < (s.size : Int) := by omega
  have hsp1 : (0 : Int) < (s.size : Int) := by omega
  have hmk := make_noughts s.size (by omega)
  have hq3 : ¬ (1 : Int) < (s.size : Int) := by omega
  subst h48
  clear h1
  clear hda hz1
  go_enter Tryz.func41, Tryz.ntmps41
  go_wp2_with fail
  clear hq3
  obtain ⟨W1, hW1⟩ : ∃ V, w.alloc (Obj.cells #[Value.bool false, Value.string ⟨#[]⟩] 23) = V := ⟨_, rfl⟩
  have tA : Two w.heap.size (.bool false) (.string ⟨#[]⟩) W1 := by rw [← hW1]; exact two_new _ _ _ _
  have hb1 : Below w.heap.size w W1 := by rw [← hW1]; exact (Below.refl _ _).alloc (Nat.le_refl _) _
  have H1 := Lib.hid (And.intro hb1 tA)
  rw [hW1]
  clear hW1 tA hb1
  go_loopw [3, 5] (fun e i wx => ∃ k : Nat, e = .int .i64 0 ∧ i = .int .i64 k ∧ k ≤ s.size ∧ wx = W1) (fun _ i _ => s.size - (intOf i).toNat)
  case atStart => exact ⟨0, rfl, rfl, Nat.zero_le _, rfl⟩
  case round =>
    obtain ⟨k, rfl, rfl, hk, rfl⟩ := hrel
    by_cases hlt : k < s.size
    · obtain ⟨c, hc⟩ : ∃ c, (s.data.toList.getD k 0).toNat = c := ⟨_, rfl⟩
      have va : s[k].toNat = c := by rw [digit_at s k hlt]; exact hc
      have hgg : 48 ≤ c ∧ c ≤ 57 := by have h := HD.out.1 k hlt; unfold DigitAt at h; rw [hc] at h; exact h
      have g1 : ¬ (c : Int) < 48 := by omega
      have g2 : ¬ (57 : Int) < (c : Int) := by omega
      clear hc
      go_wp2_with fail
      exact ⟨⟨k + 1, rfl, by go_num, by omega, trivial⟩, by simp [intOf]; omega⟩
    · go_wp2_with fail
      obtain ⟨W2, hW2⟩ : ∃ V, wr.alloc (Obj.cells (noughts s.size) 5) = V := ⟨_, rfl⟩
      obtain ⟨g, hg⟩ : ∃ g, wr.heap.size = g := ⟨_, rfl⟩
      have hr2 : RowB W2 g 0 (List.replicate s.size 0) := by rw [← hW2, ← hg]; exact rowB_noughts wr s.size _
      have hb2 : Below w.heap.size w W2 := by rw [← hW2]; exact H1.out.1.alloc H1.out.1.size _
      have hwg : w.heap.size < g := by rw [← hg]; exact H1.out.2.lt
      have tA : Two w.heap.size (.bool false) (.string ⟨#[]⟩) W2 := by rw [← hW2]; exact H1.out.2.below ((Below.refl wr.heap.size wr).alloc (Nat.le_refl _) _) H1.out.2.lt
      obtain ⟨n, hn⟩ : ∃ n, s.size = n := ⟨_, rfl⟩
      have hDl : s.data.toList.length = n := by rw [← hn, Lib.size_eq]
      rw [hn] at hr2
      have H2 := Lib.hid (And.intro hr2 (And.intro hb2 (And.intro hwg (And.intro tA hDl))))
      rw [hW2, hg, hn]
      clear hW2 hg hr2 hb2 hwg tA hDl hlt hk
      go_loopw [7, 8] (fun u i wx => ∃ (us k : Nat) (L : List UInt8), u = .int .i64 us ∧ i = .int .i64 k ∧ k ≤ n ∧ us ≤ k ∧ L.length = us ∧ beVal L = dv (s.data.toList.take k) ∧ RowB wx g 0 (List.replicate (n - us) 0 ++ L) ∧ Below g W2 wx) (fun _ i _ => n - (intOf i).toNat)
      case atStart => exact ⟨0, 0, [], rfl, rfl, Nat.zero_le _, Nat.le_refl _, rfl, rfl, by rw [List.append_nil]; exact H2.out.1, Below.refl _ _⟩
      case round =>
        obtain ⟨us, k, L, rfl, rfl, hk, huk, hL, hval, hrow, hbel⟩ := hrel
        have HV := Lib.hid (And.intro hL (And.intro hval (And.intro hrow hbel)))
        clear hL hval hrow hbel
        by_cases hlt : k < n
        · have hltD : k < s.size := by omega
          obtain ⟨c, hc⟩ : ∃ c, (s.data.toList.getD k 0).toNat = c := ⟨_, rfl⟩
          have va : s[k].toNat = c := by rw [digit_at s k hltD]; exact hc
          have hgg : 48 ≤ c ∧ c ≤ 57 := by have h := HD.out.1 k hltD; unfold DigitAt at h; rw [hc] at h; exact h
          obtain ⟨d, hd⟩ : ∃ d : Nat, (c : Int) - 48 = (d : Int) := ⟨c - 48, by omega⟩
          have hd9 : d ≤ 9 := by omega
          have HC := Lib.hid (And.intro hc hd)
          clear hc
          go_wp2_with fail
          go_loopw [9, 10] (fun cv kv wx => ∃ (j cy : Nat) (H Lo : List UInt8), cv = .int .i64 cy ∧ kv = .int .i64 ((j + 1 : Nat) : Int) ∧ H.length + j = us ∧ Lo.length = j ∧ cy ≤ 9 ∧ cy * 256 ^ j + beVal Lo + 10 * beVal H * 256 ^ j = d + 10 * beVal L ∧ RowB wx g 0 (List.replicate (n - us) 0 ++ (H ++ Lo)) ∧ Below g W2 wx) (fun _ kv _ => us + 1 - (intOf kv).toNat)
          case atStart =>
            have h := HV.out
            exact ⟨0, d, L, [], rfl, rfl, h.1, rfl, hd9, by simp [beVal_nil], by rw [List.append_nil]; exact h.2.2.1, h.2.2.2⟩
          case round =>
            obtain ⟨j, cy, H, Lo, rfl, rfl, hH, hLo, hcy, hval, hrow, hbel⟩ := hrel
            by_cases hj : j < us
            · obtain ⟨H', c2, rfl⟩ : ∃ a c, H = a ++ [c] := ⟨H.dropLast, H.getLast (fun e => by rw [e] at hH; simp at hH; omega), (List.dropLast_concat_getLast _).symm⟩
              rw [List.length_append, List.length_singleton] at hH
              rw [List.append_assoc, List.singleton_append, ← List.append_assoc] at hrow
              obtain ⟨q, hq⟩ : ∃ q, (List.replicate (n - us) (0 : UInt8) ++ H').length = q := ⟨_, rfl⟩
              have hqn : q + (j + 1) = n := by rw [← hq, List.length_append, List.length_replicate]; omega
              have hql : q < (List.replicate (n - us) (0 : UInt8) ++ H' ++ (c2 :: Lo)).length := by rw [List.length_append, hq]; simp
              have hcc := hrow q hql
              rw [get_there _ _ _ _ hq.symm, Nat.zero_add] at hcc
              obtain ⟨x, hx2⟩ : ∃ x, c2.toNat = x := ⟨_, rfl⟩
              have hx256 : x < 256 := by rw [← hx2]; exact UInt8.toNat_lt _
              rw [hx2] at hcc
              have hct := hcc.1
              have hcf := hcc.2
              obtain ⟨jj, hjj⟩ : ∃ jj, j + 1 = jj := ⟨_, rfl⟩
              rw [hjj]
              have hqi : (n : Int) - (jj : Int) = (q : Int) := by omega
              have hjl : (jj : Int) ≤ (us : Int) := by omega
              have hjl2 : jj ≤ n := by omega
              have hqn2 : q < n := by omega
              rw [beVal_snoc, hx2] at hval
              have hst := carry_step cy x _ _ _ _ hval
              have HW := Lib.hid (And.intro hH (And.intro hLo (And.intro hst (And.intro hrow (And.intro hbel (And.intro hq hql))))))
              have HJ := Lib.hid (And.intro hjj hqn)
              clear hH hLo hst hrow hbel hval hcc hq hql hqn hx2 hjj hj
              go_wp2_with fail
              obtain ⟨hjj, hqn⟩ := HJ.out
              subst hjj
              have h := HW.out
              refine ⟨⟨j + 1, (cy + 10 * x) / 256, H', UInt8.ofNat ((cy + 10 * x) % 256) :: Lo, congrArg (Value.int .i64) (by omega), by go_num, by have := h.1; omega, by rw [List.length_cons, h.2.1], by omega, ?_, ?_, h.2.2.2.2.1.setCell (Nat.le_refl _) _⟩, by simp [intOf]; omega⟩
              · rw [beVal_cons, toNat_ofNat, h.2.1, Nat.mod_mod, Nat.pow_succ]
                exact h.2.2.1
              · have hs := rowB_set h.2.2.2.1 q (UInt8.ofNat ((cy + 10 * x) % 256)) ((((cy + 10 * x) % 256 : Nat) : Int)) (by rw [toNat_ofNat, Nat.mod_mod]) q (by omega) h.2.2.2.2.2.2
                rw [set_there _ _ _ _ _ h.2.2.2.2.2.1.symm, List.append_assoc] at hs
                rw [show ((cy : Int) + 10 * (x : Int)) % 256 = (((cy + 10 * x) % 256 : Nat) : Int) by omega]
                exact hs
            · have hju : j = us := by omega
              subst hju
              have hH0 : H = [] := List.length_eq_zero_iff.1 (by omega)
              subst hH0
              rw [List.nil_append] at hrow
              rw [beVal_nil, Nat.mul_zero, Nat.zero_mul, Nat.add_zero] at hval
              have hdk : dv (s.data.toList.take (k + 1)) = cy * 256 ^ j + beVal Lo := by
                have h1 := HC.out
                rw [dv_take _ k (by rw [H2.out.2.2.2.2]; omega), hval, ← HV.out.2.1, h1.1]
                omega
              have hjl : ¬ ((j + 1 : Nat) : Int) ≤ (j : Int) := by omega
              by_cases hcp : 0 < cy
              · obtain ⟨uu, huu⟩ : ∃ u, j + 1 = u := ⟨_, rfl⟩
                obtain ⟨q, hq⟩ : ∃ q, n - uu = q := ⟨_, rfl⟩
                have hqi : (n : Int) - (uu : Int) = (q : Int) := by omega
                have hqn : q < n := by omega
                have hrr : List.replicate (n - j) (0 : UInt8) = List.replicate q 0 ++ [0] := by rw [show n - j = q + 1 by omega, List.replicate_succ']
                rw [hrr, List.append_assoc, List.singleton_append] at hrow
                have hql : q < (List.replicate q (0 : UInt8) ++ (0 :: Lo)).length := by rw [List.length_append, List.length_replicate]; simp
                have hcc := hrow q hql
                rw [get_there _ _ _ _ (by rw [List.length_replicate]), Nat.zero_add] at hcc
                have hct := hcc.1
                have hcf := hcc.2
                have hjj : (j : Int) + 1 = (uu : Int) := by omega
                have hcpi : (0 : Int) < (cy : Int) := by omega
                have hun : uu ≤ n := by omega
                have HW := Lib.hid (And.intro hLo (And.intro hdk (And.intro hrow (And.intro hbel (And.intro hql (And.intro huu hq))))))
                clear hH hLo hrow hbel hval hcc hql hdk hrr huu hq hj
                go_wp2_with fail
                have h := HW.out
                have hu := h.2.2.2.2.2.1
                have hq := h.2.2.2.2.2.2
                refine ⟨⟨uu, k + 1, UInt8.ofNat cy :: Lo, rfl, by go_num, by omega, by omega, by rw [List.length_cons, h.1]; exact hu, ?_, ?_, h.2.2.2.1.setCell (Nat.le_refl _) _⟩, by simp [intOf]; omega⟩
                · rw [beVal_cons, toNat_ofNat, Nat.mod_eq_of_lt (by omega), h.1]
                  exact h.2.1.symm
                · have hs := rowB_set h.2.2.1 q (UInt8.ofNat cy) (cy : Int) (by rw [toNat_ofNat, Nat.mod_eq_of_lt (by omega)]) q (by omega) h.2.2.2.2.1
                  rw [set_there _ _ _ _ _ (by rw [List.length_replicate])] at hs
                  rw [hq]
                  exact hs
              · have hc00 : cy = 0 := by omega
                subst hc00
                have HW := Lib.hid (And.intro hLo (And.intro hdk (And.intro hrow hbel)))
                clear hH hLo hrow hbel hval hdk hj hcp
                go_wp2_with fail
                have h := HW.out
                exact ⟨⟨j, k + 1, Lo, rfl, by go_num, by omega, by omega, h.1, by rw [h.2.1]; omega, h.2.2.1, h.2.2.2⟩, by simp [intOf]; omega⟩
        · have hkn : k = n := by omega
          subst hkn
          have h := HV.out
          have hXl : (List.replicate (k - us) (0 : UInt8) ++ L).length = k := by rw [List.length_append, List.length_replicate, h.1]; omega
          have hcv := conv_bytes (cap := k) h.2.2.1
          rw [hXl] at hcv
          obtain ⟨X, hX⟩ : ∃ X : ByteArray, (⟨(List.replicate (k - us) (0 : UInt8) ++ L).toArray⟩ : ByteArray) = X := ⟨_, rfl⟩
          rw [hX] at hcv
          have hiz : ival false X = z := by
            rw [← hX, ← HZ.out]
            show (if false then -((beVal (List.replicate (k - us) (0 : UInt8) ++ L) : Nat) : Int) else ((beVal (List.replicate (k - us) (0 : UInt8) ++ L) : Nat) : Int)) = sgn false _
            rw [beVal_append, beVal_noughts, Nat.zero_mul, Nat.zero_add, h.2.1, List.take_of_length_le (by rw [H2.out.2.2.2.2]; exact Nat.le_refl _)]
            rfl
          have hca := fun W => rcanonical_any false X W
          rw [hiz] at hca
          have tA := H2.out.2.2.2.1.below h.2.2.2 H2.out.2.2.1
          have hbl := H2.out.2.1.trans (h.2.2.2.mono (by have := H2.out.2.2.1; omega))
          have HB := Lib.hid (And.intro hbl tA)
          have HCA := Lib.hid hca
          clear h hXl hX hiz hca tA hbl
          go_wp2_with fail
          skip
          refine (HCA.out _).mono ?_
          rintro e wA ⟨rfl, cA⟩
          have hbl := HB.out.1.trans (cA.mono HB.out.1.size)
          have tA := HB.out.2.below cA HB.out.2.lt
          have m1 := tA.1.1
          have m2 := tA.2.1
          have m3 := tA.1.2
          have m4 := tA.2.2
          have tB := two_set tA (.bool (ng z)) (.string (mg z))
          have y0 := tB.1.1
          have y1 := tB.2.1
          have hE : Below w.heap.size w ((wA.setCell ⟨w.heap.size, 0, none⟩ (.bool (ng z))).setCell ⟨w.heap.size, 1, none⟩ (.string (mg z))) := (hbl.setCell (Nat.le_refl _) _).setCell (Nat.le_refl _) _
          have HE := Lib.hid hE
          clear hbl tA tB cA hE
          go_wp2_with fail
          refine bodyPost_ret (v := .tuple #[.agg #[.bool (ng z), .string (mg z)], .int .i64 0]) (by simp [results, Tryz.results41, go_sem, y0, y1]) rfl ⟨rfl, ?_⟩
          exact HE.out

end Go.Proofs.YtajollhpimfefaaGreatDoor
