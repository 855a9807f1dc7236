/- The contracts of the reference's addMag, subMag, mulMag, Add, Sub and Mul. The contract of the reference's mulMag. -/
import Derived.Test.YtajollhpimfefaaGreatDoorRef
import Derived.Outline
import Derived.Handy
namespace Go.Proofs.YtajollhpimfefaaGreatDoor
open Go.RowKit Go.Shelf

/-- Zeroed bytes, made. -/
theorem make_bytes (n : Nat) (hn : n ≤ 4194304) (w : World) :
    ∃ arr : Array Value, arr.size = n ∧ (Instr.makeSlice 72 (.int .i64 n) (.int .i64 n)).run Tryz.prog w = .ok (.slice (some ⟨w.heap.size, 0, none⟩) n n) (w.alloc (.cells arr 5)) := by
  obtain ⟨i0, hi0, hz0, hz1, hz2⟩ := info_parts infoB
  have h := run_make w 72 5 i0 (.int .u8 0) Tryz.underlying72 hi0 hz0 .i64 .i64 (n : Int) (n : Int) (by omega) (by omega) (by rw [hz2]; omega) (by omega)
  rw [hz1] at h
  refine ⟨madeCells (Value.int .u8 0).cells n, size_madeCells _ _, ?_⟩
  simpa using h
/-- The byte with k bytes behind it. -/
theorem byte_back (l : List UInt8) (k : Nat) (h : k < l.length) : (l.getD (l.length - (k + 1)) 0).toNat = beVal l / 256 ^ k % 256 := by
  have hi : l.length - (k + 1) < l.length := by omega
  have e : l = l.take (l.length - (k + 1)) ++ (l[l.length - (k + 1)] :: l.drop (l.length - (k + 1) + 1)) := by
    rw [← List.drop_eq_getElem_cons hi, List.take_append_drop]
  have e2 := congrArg beVal e
  rw [beVal_append, beVal_cons, List.length_cons, List.length_drop, show l.length - (l.length - (k + 1) + 1) = k by omega, Nat.pow_succ] at e2
  have hb := beVal_lt (l.drop (l.length - (k + 1) + 1))
  rw [List.length_drop, show l.length - (l.length - (k + 1) + 1) = k by omega] at hb
  rw [List.getD_eq_getElem?_getD, List.getElem?_eq_getElem hi, Option.getD_some]
  have hc := l[l.length - (k + 1)].toNat_lt
  generalize l[l.length - (k + 1)].toNat = c at *
  generalize beVal (l.take (l.length - (k + 1))) = a at *
  generalize beVal (l.drop (l.length - (k + 1) + 1)) = d at *
  have hp : 0 < 256 ^ k := Nat.pow_pos (by omega)
  generalize 256 ^ k = p at *
  rw [e2, show a * (p * 256) + (c * p + d) = d + (a * 256 + c) * p by rw [Nat.add_mul, Nat.mul_assoc, Nat.mul_comm p 256]; omega, Nat.add_mul_div_right _ _ hp, Nat.div_eq_of_lt hb]
  omega
theorem byte_none (l : List UInt8) (k : Nat) (h : l.length ≤ k) : beVal l / 256 ^ k % 256 = 0 := by
  rw [Nat.div_eq_of_lt (Nat.lt_of_lt_of_le (beVal_lt l) (Nat.pow_le_pow_right (by omega) h))]
theorem mod_grow (n k : Nat) : n % 256 ^ (k + 1) = n % 256 ^ k + 256 ^ k * (n / 256 ^ k % 256) := by
  rw [Nat.pow_succ, Nat.mod_mul]
theorem str_back (s : ByteArray) (k : Nat) (h : k < s.size) (i : Nat) (hi : i = s.size - (k + 1)) (h' : i < s.size) : s[i].toNat = beVal s.data.toList / 256 ^ k % 256 := by
  have hl : s.size = s.data.toList.length := Lib.size_eq s
  rw [← byte_back s.data.toList k (by omega)]
  have hi2 : s.data.toList.length - (k + 1) = i := by omega
  rw [hi2, List.getD_eq_getElem?_getD, List.getElem?_eq_getElem (by omega), Option.getD_some]
  rfl

set_option maxHeartbeats 2000000 in
set_option maxRecDepth 100000 in
theorem addMag_any (sa sb : ByteArray) (w : World) (ha : sa.size ≤ 100000) (hb : sb.size ≤ 100000) :
    Calls Tryz.prog 62 #[.string sa, .string sb] w fun e w' => e = .returned (.string ⟨(be (beVal sa.data.toList + beVal sb.data.toList)).toArray⟩) ∧ Below w.heap.size w w' := by
  obtain ⟨n, hn⟩ : ∃ n, max sa.size sb.size + 1 = n := ⟨_, rfl⟩
  have hmx : max (sa.size : Int) (sb.size : Int) = ((max sa.size sb.size : Nat) : Int) := by omega
  have hn2 : ((max sa.size sb.size : Nat) : Int) + 1 = (n : Int) := by omega
  have hnl : sa.size < n ∧ sb.size < n ∧ n ≤ 100001 := by omega
  have HN := Lib.hid hnl
  obtain ⟨arr, harr, hmk⟩ := make_bytes n (by omega) w
  have hroom := room_alloc w arr 5 n harr
  have hbel : Below w.heap.size w (w.alloc (.cells arr 5)) := (Below.refl _ _).alloc (Nat.le_refl _) _
  have hn3 : n ≤ 100001 := hnl.2.2
  clear hn hnl
  obtain ⟨A, hA⟩ : ∃ A, beVal sa.data.toList = A := ⟨_, rfl⟩
  obtain ⟨B, hB⟩ : ∃ B, beVal sb.data.toList = B := ⟨_, rfl⟩
  have hdA : ∀ k, sa.size ≤ k → A / 256 ^ k % 256 = 0 := fun k h => by rw [← hA]; exact byte_none _ _ (by rw [← Lib.size_eq]; exact h)
  have hdB : ∀ k, sb.size ≤ k → B / 256 ^ k % 256 = 0 := fun k h => by rw [← hB]; exact byte_none _ _ (by rw [← Lib.size_eq]; exact h)
  have HDA := Lib.hid (And.intro hA hdA)
  have HDB := Lib.hid (And.intro hB hdB)
  have HR := Lib.hid (And.intro hroom hbel)
  rw [hA, hB]
  clear hA hB hdA hdB hroom hbel harr
  go_enter Tryz.func62, Tryz.ntmps62
  go_wp2_with fail
  go_loopw [7, 8] (fun v i wr => ∃ (k c : Nat) (L : List UInt8), v = .int .i64 c ∧ i = .int .i64 ((k + 1 : Nat) : Int) ∧ k ≤ n ∧ L.length = k ∧ c ≤ 1 ∧ A % 256 ^ k + B % 256 ^ k = c * 256 ^ k + beVal L ∧ RowB wr w.heap.size (n - k) L ∧ Room wr w.heap.size n ∧ Below w.heap.size w wr) (fun _ i _ => n + 1 - (intOf i).toNat)
  case atStart => exact ⟨0, 0, [], rfl, rfl, Nat.zero_le _, rfl, by omega, by simp [Nat.mod_one, beVal_nil], fun j hj => by simp at hj, HR.out.1, HR.out.2⟩
  case round =>
    obtain ⟨k, c, L, rfl, rfl, hk, hL, hc, hval, hrow, hrm, hb'⟩ := hrel
    have HV := Lib.hid (And.intro hL (And.intro hval (And.intro hrow (And.intro hrm hb'))))
    clear hL hval hrow hrm hb'
    have j1 : ((k + 1 : Nat) : Int) = (k : Int) + 1 := by omega
    by_cases hlt : k < n
    · obtain ⟨da, hda⟩ : ∃ d, A / 256 ^ k % 256 = d := ⟨_, rfl⟩
      obtain ⟨db, hdb⟩ : ∃ d, B / 256 ^ k % 256 = d := ⟨_, rfl⟩
      have hda256 : da < 256 := by rw [← hda]; exact Nat.mod_lt _ (by omega)
      have hdb256 : db < 256 := by rw [← hdb]; exact Nat.mod_lt _ (by omega)
      obtain ⟨q, hq⟩ : ∃ q, n - (k + 1) = q := ⟨_, rfl⟩
      have hqn : q < n := by omega
      have hqi : (n : Int) - ((k + 1 : Nat) : Int) = (q : Int) := by omega
      have hqk : n - k = q + 1 := by omega
      have hrow := HV.out.2.2.1
      rw [hqk] at hrow
      have HROW := Lib.hid hrow
      have HVD := Lib.hid (And.intro hda hdb)
      obtain ⟨v0, c1⟩ := Option.isSome_iff_exists.1 (HV.out.2.2.2.1 q hqn).1
      have c2 := (HV.out.2.2.2.1 q hqn).2
      have fin : ∀ t : Nat, t = c + da + db → ∀ wn, wn = wr.setCell ⟨w.heap.size, q, none⟩ (.int .u8 ((t % 256 : Nat) : Int)) → ∃ (k' c' : Nat) (L : List UInt8), (Value.int .i64 ((t / 256 : Nat) : Int)) = .int .i64 c' ∧ (Value.int .i64 ((k + 1 + 1 : Nat) : Int)) = .int .i64 ((k' + 1 : Nat) : Int) ∧ k' ≤ n ∧ L.length = k' ∧ c' ≤ 1 ∧ A % 256 ^ k' + B % 256 ^ k' = c' * 256 ^ k' + beVal L ∧ RowB wn w.heap.size (n - k') L ∧ Room wn w.heap.size n ∧ Below w.heap.size w wn := by
        intro t ht wn hwn
        subst hwn
        refine ⟨k + 1, t / 256, UInt8.ofNat (t % 256) :: L, rfl, rfl, by omega, by simp [HV.out.1], by omega, ?_, by rw [hq]; exact rowB_front HROW.out HV.out.2.2.2.1 hqn _ _ (by rw [toNat_ofNat]; omega), HV.out.2.2.2.1.set hqn, HV.out.2.2.2.2.setCell (Nat.le_refl _) _⟩
        have h1 := HV.out.2.1
        have h2 : 256 ^ k * t = 256 ^ k * c + 256 ^ k * da + 256 ^ k * db := by rw [ht, Nat.mul_add, Nat.mul_add]
        have h3 : 256 ^ k * t = 256 ^ k * 256 * (t / 256) + 256 ^ k * (t % 256) := by
          rw [Nat.mul_assoc, ← Nat.mul_add, Nat.div_add_mod]
        rw [mod_grow A k, mod_grow B k, HVD.out.1, HVD.out.2, beVal_cons, toNat_ofNat, HV.out.1, Nat.pow_succ, Nat.mod_mod, Nat.mul_comm (t / 256), Nat.mul_comm (t % 256)]
        rw [Nat.mul_comm c] at h1
        omega
      have FIN := Lib.hid fin
      clear fin hrow hqk
      by_cases hla : k < sa.size
      · have ia : (sa.size : Int) - ((k + 1 : Nat) : Int) = ((sa.size - (k + 1) : Nat) : Int) := by omega
        have la : sa.size - (k + 1) < sa.size := by omega
        have va := str_back sa k hla _ rfl la
        rw [HDA.out.1, HVD.out.1] at va
        by_cases hlb : k < sb.size
        · have ib : (sb.size : Int) - ((k + 1 : Nat) : Int) = ((sb.size - (k + 1) : Nat) : Int) := by omega
          have lb : sb.size - (k + 1) < sb.size := by omega
          have vb := str_back sb k hlb _ rfl lb
          rw [HDB.out.1, HVD.out.2] at vb
          go_wp2_with fail
          refine ⟨?_, by simp [intOf]; omega⟩
          have h := FIN.out (c + da + db) rfl _ rfl
          push_cast at h ⊢
          exact h
        · have hb0 : db = 0 := by rw [← HVD.out.2]; exact HDB.out.2 k (by omega)
          go_wp2_with fail
          refine ⟨?_, by simp [intOf]; omega⟩
          have h := FIN.out (c + da) (by omega) _ rfl
          push_cast at h ⊢
          exact h
      · have ha0 : da = 0 := by rw [← HVD.out.1]; exact HDA.out.2 k (by omega)
        by_cases hlb : k < sb.size
        · have ib : (sb.size : Int) - ((k + 1 : Nat) : Int) = ((sb.size - (k + 1) : Nat) : Int) := by omega
          have lb : sb.size - (k + 1) < sb.size := by omega
          have vb := str_back sb k hlb _ rfl lb
          rw [HDB.out.1, HVD.out.2] at vb
          go_wp2_with fail
          refine ⟨?_, by simp [intOf]; omega⟩
          have h := FIN.out (c + db) (by omega) _ rfl
          push_cast at h ⊢
          exact h
        · have hb0 : db = 0 := by rw [← HVD.out.2]; exact HDB.out.2 k (by omega)
          go_wp2_with fail
          refine ⟨?_, by simp [intOf]; omega⟩
          have h := FIN.out (c) (by omega) _ rfl
          push_cast at h ⊢
          rw [show (c : Int) % 256 = (c : Int) by omega] at h
          exact h
    · have hkn : k = n := by omega
      subst hkn
      have hnl := HN.out
      have hA := beVal_lt sa.data.toList
      have hB := beVal_lt sb.data.toList
      rw [HDA.out.1, ← Lib.size_eq] at hA
      rw [HDB.out.1, ← Lib.size_eq] at hB
      have pA : 256 ^ sa.size ≤ 256 ^ (k - 1) := Nat.pow_le_pow_right (by omega) (by omega)
      have pB : 256 ^ sb.size ≤ 256 ^ (k - 1) := Nat.pow_le_pow_right (by omega) (by omega)
      have pk : 256 ^ k = 256 ^ (k - 1) * 256 := by rw [← Nat.pow_succ]; congr 1; omega
      have hv := HV.out.2.1
      rw [Nat.mod_eq_of_lt (show A < 256 ^ k by omega), Nat.mod_eq_of_lt (show B < 256 ^ k by omega)] at hv
      have hc0 : c = 0 := by
        refine Classical.byContradiction fun h => ?_
        have : 1 * 256 ^ k ≤ c * 256 ^ k := Nat.mul_le_mul_right _ (by omega)
        omega
      rw [hc0, Nat.zero_mul, Nat.zero_add] at hv
      have hrow := HV.out.2.2.1
      rw [Nat.sub_self] at hrow
      have hcv := conv_bytes (cap := k) hrow
      rw [HV.out.1] at hcv
      have htr := rtrim_any ⟨L.toArray⟩ wr
      rw [show (⟨L.toArray⟩ : ByteArray).data.toList = L from rfl, strip_be, ← hv] at htr
      have HTR := Lib.hid htr
      clear htr hrow hv hc0 pk pA pB hA hB hnl
      go_wp2_with fail
      refine HTR.out.mono ?_
      rintro e w' ⟨rfl, rfl⟩
      go_wp2_with fail
      go_ret
      exact ⟨rfl, HV.out.2.2.2.2⟩

set_option maxHeartbeats 2000000 in
set_option maxRecDepth 100000 in
theorem subMag_any (sa sb : ByteArray) (w : World) (ha : sa.size ≤ 100000) (hb : sb.size ≤ 100000) (hle : beVal sb.data.toList ≤ beVal sa.data.toList) :
    Calls Tryz.prog 63 #[.string sa, .string sb] w fun e w' => e = .returned (.string ⟨(be (beVal sa.data.toList - beVal sb.data.toList)).toArray⟩) ∧ Below w.heap.size w w' := by
  obtain ⟨arr, harr, hmk⟩ := make_bytes sa.size (by omega) w
  have hroom := room_alloc w arr 5 sa.size harr
  have hbel : Below w.heap.size w (w.alloc (.cells arr 5)) := (Below.refl _ _).alloc (Nat.le_refl _) _
  obtain ⟨A, hA⟩ : ∃ A, beVal sa.data.toList = A := ⟨_, rfl⟩
  obtain ⟨B, hB⟩ : ∃ B, beVal sb.data.toList = B := ⟨_, rfl⟩
  have hdB : ∀ k, sb.size ≤ k → B / 256 ^ k % 256 = 0 := fun k h => by rw [← hB]; exact byte_none _ _ (by rw [← Lib.size_eq]; exact h)
  rw [hA, hB] at hle
  have HDA := Lib.hid hA
  have HDB := Lib.hid (And.intro hB (And.intro hdB hle))
  have HR := Lib.hid (And.intro hroom hbel)
  rw [hA, hB]
  clear hA hB hdB hroom hbel harr hle
  go_enter Tryz.func63, Tryz.ntmps63
  go_wp2_with fail
  go_loopw [6, 7] (fun v i wr => ∃ (k br : Nat) (L : List UInt8), v = .int .i64 br ∧ i = .int .i64 ((k + 1 : Nat) : Int) ∧ k ≤ sa.size ∧ L.length = k ∧ br ≤ 1 ∧ A % 256 ^ k + br * 256 ^ k = B % 256 ^ k + beVal L ∧ RowB wr w.heap.size (sa.size - k) L ∧ Room wr w.heap.size sa.size ∧ Below w.heap.size w wr) (fun _ i _ => sa.size + 1 - (intOf i).toNat)
  case atStart => exact ⟨0, 0, [], rfl, rfl, Nat.zero_le _, rfl, by omega, by simp [Nat.mod_one, beVal_nil], fun j hj => by simp at hj, HR.out.1, HR.out.2⟩
  case round =>
    obtain ⟨k, br, L, rfl, rfl, hk, hL, hc, hval, hrow, hrm, hb'⟩ := hrel
    have HV := Lib.hid (And.intro hL (And.intro hval (And.intro hrow (And.intro hrm hb'))))
    clear hL hval hrow hrm hb'
    have j1 : ((k + 1 : Nat) : Int) = (k : Int) + 1 := by omega
    by_cases hlt : k < sa.size
    · obtain ⟨da, hda⟩ : ∃ d, A / 256 ^ k % 256 = d := ⟨_, rfl⟩
      obtain ⟨db, hdb⟩ : ∃ d, B / 256 ^ k % 256 = d := ⟨_, rfl⟩
      have hda256 : da < 256 := by rw [← hda]; exact Nat.mod_lt _ (by omega)
      have hdb256 : db < 256 := by rw [← hdb]; exact Nat.mod_lt _ (by omega)
      obtain ⟨q, hq⟩ : ∃ q, sa.size - (k + 1) = q := ⟨_, rfl⟩
      have hqn : q < sa.size := by omega
      have hqi : (sa.size : Int) - ((k + 1 : Nat) : Int) = (q : Int) := by omega
      have hqk : sa.size - k = q + 1 := by omega
      have hrow := HV.out.2.2.1
      rw [hqk] at hrow
      have HROW := Lib.hid hrow
      have HVD := Lib.hid (And.intro hda hdb)
      obtain ⟨v0, c1⟩ := Option.isSome_iff_exists.1 (HV.out.2.2.2.1 q hqn).1
      have c2 := (HV.out.2.2.2.1 q hqn).2
      have fin : ∀ e br' : Nat, e < 256 → br' ≤ 1 → da + 256 * br' = e + br + db → ∀ wn, wn = wr.setCell ⟨w.heap.size, q, none⟩ (.int .u8 ((e : Nat) : Int)) → ∃ (k' c' : Nat) (L : List UInt8), (Value.int .i64 ((br' : Nat) : Int)) = .int .i64 c' ∧ (Value.int .i64 ((k + 1 + 1 : Nat) : Int)) = .int .i64 ((k' + 1 : Nat) : Int) ∧ k' ≤ sa.size ∧ L.length = k' ∧ c' ≤ 1 ∧ A % 256 ^ k' + c' * 256 ^ k' = B % 256 ^ k' + beVal L ∧ RowB wn w.heap.size (sa.size - k') L ∧ Room wn w.heap.size sa.size ∧ Below w.heap.size w wn := by
        intro e br' he hbr ht wn hwn
        subst hwn
        refine ⟨k + 1, br', UInt8.ofNat e :: L, rfl, rfl, by omega, by simp [HV.out.1], by omega, ?_, by rw [hq]; exact rowB_front HROW.out HV.out.2.2.2.1 hqn _ _ (by rw [toNat_ofNat, Nat.mod_eq_of_lt he]), HV.out.2.2.2.1.set hqn, HV.out.2.2.2.2.setCell (Nat.le_refl _) _⟩
        have h1 := HV.out.2.1
        have h2 : 256 ^ k * (da + 256 * br') = 256 ^ k * (e + br + db) := by rw [ht]
        rw [Nat.mul_add, Nat.mul_add, Nat.mul_add, ← Nat.mul_assoc] at h2
        rw [mod_grow A k, mod_grow B k, HVD.out.1, HVD.out.2, beVal_cons, toNat_ofNat, Nat.mod_eq_of_lt he, HV.out.1, Nat.pow_succ, Nat.mul_comm br', Nat.mul_comm e]
        rw [Nat.mul_comm br] at h1
        omega
      have FIN := Lib.hid fin
      clear fin hrow hqk
      have la : q < sa.size := hqn
      have va := str_back sa k hlt q hq.symm la
      rw [HDA.out, HVD.out.1] at va
      by_cases hlb : k < sb.size
      · have ib : (sb.size : Int) - ((k + 1 : Nat) : Int) = ((sb.size - (k + 1) : Nat) : Int) := by omega
        have lb : sb.size - (k + 1) < sb.size := by omega
        have vb := str_back sb k hlb _ rfl lb
        rw [HDB.out.1, HVD.out.2] at vb
        by_cases hsg : da < br + db
        · obtain ⟨e, he⟩ : ∃ e : Nat, (da : Int) - (br : Int) - (db : Int) + 256 = (e : Int) := ⟨(da + 256 - br - db), by omega⟩
          have hng : (da : Int) - (br : Int) - (db : Int) < 0 := by omega
          have he256 : e < 256 := by omega
          go_wp2_with fail
          refine ⟨?_, by simp [intOf]; omega⟩
          have h := FIN.out e 1 he256 (by omega) (by omega) _ rfl
          push_cast at h ⊢
          exact h
        · obtain ⟨e, he⟩ : ∃ e : Nat, (da : Int) - (br : Int) - (db : Int) = (e : Int) := ⟨(da - br - db), by omega⟩
          have hng : ¬ (e : Int) < 0 := by omega
          have he256 : e < 256 := by omega
          go_wp2_with fail
          refine ⟨?_, by simp [intOf]; omega⟩
          have h := FIN.out e 0 he256 (by omega) (by omega) _ rfl
          push_cast at h ⊢
          exact h
      · have hb0 : db = 0 := by rw [← HVD.out.2]; exact HDB.out.2.1 k (by omega)
        by_cases hsg : da < br + db
        · obtain ⟨e, he⟩ : ∃ e : Nat, (da : Int) - (br : Int) + 256 = (e : Int) := ⟨(da + 256 - br - db), by omega⟩
          have hng : (da : Int) - (br : Int) < 0 := by omega
          have he256 : e < 256 := by omega
          go_wp2_with fail
          refine ⟨?_, by simp [intOf]; omega⟩
          have h := FIN.out e 1 he256 (by omega) (by omega) _ rfl
          push_cast at h ⊢
          exact h
        · obtain ⟨e, he⟩ : ∃ e : Nat, (da : Int) - (br : Int) = (e : Int) := ⟨(da - br - db), by omega⟩
          have hng : ¬ (e : Int) < 0 := by omega
          have he256 : e < 256 := by omega
          go_wp2_with fail
          refine ⟨?_, by simp [intOf]; omega⟩
          have h := FIN.out e 0 he256 (by omega) (by omega) _ rfl
          push_cast at h ⊢
          exact h
    · have hkn : k = sa.size := by omega
      have hA := beVal_lt sa.data.toList
      rw [HDA.out, ← Lib.size_eq, ← hkn] at hA
      have hv := HV.out.2.1
      have hle := HDB.out.2.2
      rw [Nat.mod_eq_of_lt (show A < 256 ^ k by omega), Nat.mod_eq_of_lt (show B < 256 ^ k by omega)] at hv
      have hL := beVal_lt L
      rw [HV.out.1] at hL
      have hc0 : br = 0 := by
        refine Classical.byContradiction fun h => ?_
        have : 1 * 256 ^ k ≤ br * 256 ^ k := Nat.mul_le_mul_right _ (by omega)
        omega
      rw [hc0, Nat.zero_mul, Nat.add_zero] at hv
      have hrow := HV.out.2.2.1
      rw [hkn, Nat.sub_self] at hrow
      have hcv := conv_bytes (cap := sa.size) hrow
      rw [HV.out.1, hkn] at hcv
      have htr := rtrim_any ⟨L.toArray⟩ wr
      rw [show (⟨L.toArray⟩ : ByteArray).data.toList = L from rfl, strip_be, show beVal L = A - B by omega] at htr
      have HTR := Lib.hid htr
      clear htr hrow hv hc0 hA hL hle
      go_wp2_with fail
      refine HTR.out.mono ?_
      rintro e w' ⟨rfl, rfl⟩
      go_wp2_with fail
      go_ret
      exact ⟨rfl, HV.out.2.2.2.2⟩
end Go.Proofs.YtajollhpimfefaaGreatDoor

namespace Go.Proofs.YtajollhpimfefaaGreatDoor
open Go.RowKit Go.Shelf

/-- Numbers in memory, as ints. -/
def RowZ (w : World) (b : Nat) (xs : List Nat) : Prop := ∀ j, j < xs.length → w.cell? ⟨b, j, none⟩ = some (.int .i64 (xs.getD j 0 : Nat)) ∧ w.frozen? ⟨b, j, none⟩ = false
theorem RowZ.below {w w' : World} {b B : Nat} {xs : List Nat} (h : RowZ w b xs) (hb : Below B w w') (hB : b < B) : RowZ w' b xs := fun j hj =>
  ⟨(hb.cell (p := ⟨b, j, none⟩) hB).trans (h j hj).1, (hb.frozen (p := ⟨b, j, none⟩) hB).trans (h j hj).2⟩
theorem RowZ.other {W : World} {b B' o : Nat} {xs : List Nat} {u : Value} (h : RowZ W b xs) (hne : b ≠ B') : RowZ (W.setCell ⟨B', o, none⟩ u) b xs := fun j hj => by
  rw [World.frozen?_setCell, World.cell?_setCell_other _ _ _ _ (by intro e; have := congrArg Addr.block e; simp at this; omega)]
  exact h j hj
theorem RowZ.set {w : World} {b : Nat} {xs : List Nat} (h : RowZ w b xs) (k v : Nat) : RowZ (w.setCell ⟨b, k, none⟩ (.int .i64 v)) b (xs.set k v) := by
  intro j hj
  rw [List.length_set] at hj
  rw [World.frozen?_setCell]
  by_cases e : j = k
  · subst e
    rw [World.cell?_setCell_same' _ _ _ (by rw [(h j hj).1]; rfl)]
    refine ⟨?_, (h j hj).2⟩
    rw [List.getD_eq_getElem?_getD, List.getElem?_set_self hj]
    rfl
  · rw [World.cell?_setCell_other _ _ _ _ (by intro e'; have := congrArg Addr.off e'; simp at this; omega)]
    rw [List.getD_eq_getElem?_getD, List.getElem?_set_ne (fun e' => e e'.symm), ← List.getD_eq_getElem?_getD]
    exact h j hj
theorem infoI : (Tryz.prog.info? 3).map (fun i => (i.zero, i.size, i.bytes)) = some (some (.int .i64 0), 1, 8) := by kernel_rfl
theorem make_ints (n : Nat) (hn : n ≤ 4194304) (w : World) :
    ∃ w1 : World, (Instr.makeSlice 88 (.int .i64 n) (.int .i64 n)).run Tryz.prog w = .ok (.slice (some ⟨w.heap.size, 0, none⟩) n n) w1 ∧ RowZ w1 w.heap.size (List.replicate n 0) ∧ Below w.heap.size w w1 ∧ w1.heap.size = w.heap.size + 1 := by
  obtain ⟨i0, hi0, hz0, hz1, hz2⟩ := info_parts infoI
  have h := run_make w 88 3 i0 (.int .i64 0) Tryz.underlying88 hi0 hz0 .i64 .i64 (n : Int) (n : Int) (by omega) (by omega) (by rw [hz2]; omega) (by omega)
  rw [hz1] at h
  refine ⟨_, by simpa using h, ?_, (Below.refl _ _).alloc (Nat.le_refl _) _, by simp⟩
  intro j hj
  rw [List.length_replicate] at hj
  obtain ⟨arr, harr⟩ : ∃ arr, madeCells (Value.int .i64 0).cells n = arr := ⟨_, rfl⟩
  have hget : arr[j]? = some (.int .i64 0) := by
    rw [← harr]
    unfold madeCells
    rw [Array.getElem?_map, Array.getElem?_eq_getElem (by simpa using hj)]
    simp [Value.cells, Nat.mod_one]
  simp only [harr]
  have hh := heap_alloc_new w (.cells arr 3)
  constructor
  · simp only [World.cell?, hh]
    simp [hget, hj]
  · simp only [World.frozen?, hh]
    simp
theorem rowB_push {w : World} {g cap : Nat} {l : List UInt8} (h : RowB w g 0 l) (hr : Room w g cap) (hlt : l.length < cap) (c : UInt8) (v : Int) (hv : v = ((c.toNat : Nat) : Int)) : RowB (w.setCell ⟨g, l.length, none⟩ (.int .u8 v)) g 0 (l ++ [c]) := by
  subst hv
  intro j hj
  rw [List.length_append] at hj
  simp only [List.length_cons, List.length_nil] at hj
  rw [World.frozen?_setCell, Nat.zero_add]
  by_cases e : j = l.length
  · subst e
    rw [World.cell?_setCell_same' _ _ _ (hr _ hlt).1]
    refine ⟨?_, (hr _ hlt).2⟩
    rw [List.getD_eq_getElem?_getD, List.getElem?_append_right (Nat.le_refl _), Nat.sub_self]
    rfl
  · have hj2 : j < l.length := by omega
    rw [World.cell?_setCell_other _ _ _ _ (by intro e'; have := congrArg Addr.off e'; simp at this; omega)]
    have := h j hj2
    rw [Nat.zero_add] at this
    rw [List.getD_eq_getElem?_getD, List.getElem?_append_left hj2, ← List.getD_eq_getElem?_getD]
    exact this

theorem and255 (m : Nat) (h : m < 9223372036854775808) : bits .and .i64 (m : Int) 255 = ((m % 256 : Nat) : Int) := by
  show IntKind.i64.wrap ((BitVec.ofInt 64 (m : Int) &&& BitVec.ofInt 64 255).toNat : Int) = _
  rw [BitVec.toNat_and, ofInt_u64 m (by omega), show (BitVec.ofInt 64 255).toNat = 2 ^ 8 - 1 from rfl, Nat.and_two_pow_sub_one_eq_mod, IntKind.wrap_i64]
  omega
/-- The number with these digits at the base 256, the most significant one first. -/
def beN : List Nat → Nat
  | [] => 0
  | x :: xs => x * 256 ^ xs.length + beN xs
theorem beN_zeros : ∀ n : Nat, beN (List.replicate n 0) = 0
  | 0 => rfl
  | n + 1 => by rw [List.replicate_succ, beN, beN_zeros n, Nat.zero_mul]
theorem beN_set : ∀ (xs : List Nat) (j v : Nat), j < xs.length → beN (xs.set j v) + xs.getD j 0 * 256 ^ (xs.length - 1 - j) = beN xs + v * 256 ^ (xs.length - 1 - j)
  | [], j, v, h => by simp at h
  | x :: xs, 0, v, _ => by
    simp only [List.set_cons_zero, beN, List.length_cons, List.getD_cons_zero, Nat.add_sub_cancel, Nat.sub_zero]
    omega
  | x :: xs, j + 1, v, h => by
    have ih := beN_set xs j v (by simpa using h)
    simp only [List.set_cons_succ, beN, List.length_cons, List.getD_cons_succ, List.length_set]
    rw [show xs.length + 1 - 1 - (j + 1) = xs.length - 1 - j by omega]
    omega
/-- Digits at the base 256. -/
def Dg (xs : List Nat) : Prop := ∀ x ∈ xs, x < 256
theorem Dg.set {xs : List Nat} (h : Dg xs) (j v : Nat) (hv : v < 256) : Dg (xs.set j v) := fun x hx => by
  rcases List.mem_or_eq_of_mem_set hx with h' | h'
  · exact h x h'
  · omega
theorem Dg.getD {xs : List Nat} (h : Dg xs) (j : Nat) : xs.getD j 0 < 256 := by
  rw [List.getD_eq_getElem?_getD]
  cases e : xs[j]? with
  | none => simp
  | some x => exact h x (List.mem_of_getElem? e)
theorem beN_bytes : ∀ xs : List Nat, Dg xs → beVal (xs.map UInt8.ofNat) = beN xs
  | [], _ => rfl
  | x :: xs, h => by
    rw [List.map_cons, beVal_cons, beN_bytes xs (fun y hy => h y (List.mem_cons_of_mem _ hy)), List.length_map, toNat_ofNat, Nat.mod_eq_of_lt (h x List.mem_cons_self), beN]

set_option maxHeartbeats 2000000 in
set_option maxRecDepth 100000 in
theorem mulMag_any (sa sb : ByteArray) (w : World) (ha : sa.size ≤ 100000) (hb : sb.size ≤ 100000) :
    Calls Tryz.prog 65 #[.string sa, .string sb] w fun e w' => e = .returned (.string ⟨(be (beVal sa.data.toList * beVal sb.data.toList)).toArray⟩) ∧ Below w.heap.size w w' := by
  obtain ⟨n, hn⟩ : ∃ n, sa.size + sb.size = n := ⟨_, rfl⟩
  have hn2 : (sa.size : Int) + (sb.size : Int) = (n : Int) := by omega
  have hn3 : n ≤ 200000 := by omega
  obtain ⟨w1, hmk, hrow, hbel, hsz⟩ := make_ints n (by omega) w
  obtain ⟨A, hA⟩ : ∃ A, beVal sa.data.toList = A := ⟨_, rfl⟩
  obtain ⟨B, hB⟩ : ∃ B, beVal sb.data.toList = B := ⟨_, rfl⟩
  have hA2 := beVal_lt sa.data.toList
  have hB2 := beVal_lt sb.data.toList
  rw [hA, ← Lib.size_eq] at hA2
  rw [hB, ← Lib.size_eq] at hB2
  have HDA := Lib.hid (And.intro hA hA2)
  have HDB := Lib.hid (And.intro hB hB2)
  have HR := Lib.hid (And.intro hrow (And.intro hbel hsz))
  have HN := Lib.hid hn
  rw [hA, hB]
  clear hA hB hA2 hB2 hrow hbel hn hsz
  go_enter Tryz.func65, Tryz.ntmps65
  go_wp2_with fail
  go_loopw [6] (fun v wr => ∃ (m : Nat) (xs : List Nat), v = .int .i64 ((m : Int) - 1) ∧ m ≤ sa.size ∧ xs.length = n ∧ RowZ wr w.heap.size xs ∧ Dg xs ∧ (∀ j, j < m → xs.getD j 0 = 0) ∧ beN xs = (A % 256 ^ (sa.size - m)) * B ∧ Below w.heap.size w wr ∧ w1.heap.size ≤ wr.heap.size) (fun v _ => (intOf v + 1).toNat)
  case atStart => exact ⟨sa.size, List.replicate n 0, rfl, Nat.le_refl _, List.length_replicate, HR.out.1, (fun x hx => by rw [List.eq_of_mem_replicate hx]; omega), (fun j _ => by rw [List.getD_eq_getElem?_getD, List.getElem?_replicate]; split <;> rfl), by rw [beN_zeros, Nat.sub_self, Nat.pow_zero, Nat.mod_one, Nat.zero_mul], HR.out.2.1, Nat.le_refl _⟩
  case round =>
    obtain ⟨m, xs, rfl, hm, hxl, hxr, hxd, hxz, hxv, hxb, hxs⟩ := hrel
    have HX := Lib.hid (And.intro hxl (And.intro hxr (And.intro hxd (And.intro hxz (And.intro hxv (And.intro hxb hxs))))))
    clear hxl hxr hxd hxz hxv hxb hxs
    rcases m with _ | i
    · rename World => wX
      obtain ⟨arr, harr, hmk2⟩ := make_bytes n (by omega) wX
      have hroom := room_alloc wX arr 5 n harr
      have hbl : Below wX.heap.size wX (wX.alloc (.cells arr 5)) := (Below.refl _ _).alloc (Nat.le_refl _) _
      have hX := HX.out
      have hwlt : w.heap.size < wX.heap.size := by have := HR.out.2.2; have := hX.2.2.2.2.2.2; omega
      have hval := hX.2.2.2.2.1
      rw [Nat.sub_zero, Nat.mod_eq_of_lt HDA.out.2] at hval
      have hrz := hX.2.1.below hbl hwlt
      have hbw := hX.2.2.2.2.2.1.trans (hbl.mono (Nat.le_of_lt hwlt))
      have hxl := hX.1
      have hxd := hX.2.2.1
      have HX2 := Lib.hid (And.intro hroom (And.intro hrz (And.intro hbw (And.intro hval (And.intro hxl hxd)))))
      clear hX hroom hbl hval hrz hbw hxl hxd harr
      go_wp2_with fail
      go_loopw [10] (fun v wi => ∃ k : Nat, v = .int .i64 (k : Int) ∧ k ≤ n ∧ RowB wi wX.heap.size 0 ((xs.take k).map UInt8.ofNat) ∧ Room wi wX.heap.size n ∧ RowZ wi w.heap.size xs ∧ Below w.heap.size w wi) (fun v _ => n - (intOf v).toNat)
      case atStart => exact ⟨0, rfl, Nat.zero_le _, fun j hj => by simp at hj, HX2.out.1, HX2.out.2.1, HX2.out.2.2.1⟩
      case round =>
        obtain ⟨k, rfl, hk, hrb, hrm, hrz, hbw⟩ := hrel
        have HK := Lib.hid (And.intro hrb (And.intro hrm (And.intro hrz hbw)))
        clear hrb hrm hrz hbw
        by_cases hlt : k < n
        · obtain ⟨v0, c3⟩ := Option.isSome_iff_exists.1 (HK.out.2.1 k hlt).1
          have c4 := (HK.out.2.1 k hlt).2
          obtain ⟨o, ho⟩ : ∃ o, xs.getD k 0 = o := ⟨_, rfl⟩
          have hxk := HK.out.2.2.1 k (by rw [HX2.out.2.2.2.2.1]; exact hlt)
          have ho256 : o < 256 := by rw [← ho]; exact HX2.out.2.2.2.2.2.getD k
          rw [ho] at hxk
          have c1 := hxk.1
          have c2 := hxk.2
          have hne : w.heap.size ≠ wX.heap.size := by omega
          have fin : ∀ wn, wn = wr.setCell ⟨wX.heap.size, k, none⟩ (.int .u8 (o : Int)) → ∃ k' : Nat, Value.int .i64 ((k : Int) + 1) = .int .i64 (k' : Int) ∧ k' ≤ n ∧ RowB wn wX.heap.size 0 ((xs.take k').map UInt8.ofNat) ∧ Room wn wX.heap.size n ∧ RowZ wn w.heap.size xs ∧ Below w.heap.size w wn := by
            intro wn hwn
            subst hwn
            have hK := HK.out
            have hxl := HX2.out.2.2.2.2.1
            have hlen : ((xs.take k).map UInt8.ofNat).length = k := by rw [List.length_map, List.length_take]; omega
            have hp := rowB_push hK.1 hK.2.1 (by rw [hlen]; exact hlt) (UInt8.ofNat o) (o : Int) (by rw [toNat_ofNat, Nat.mod_eq_of_lt ho256])
            rw [hlen] at hp
            refine ⟨k + 1, by go_num, by omega, ?_, hK.2.1.set hlt, hK.2.2.1.other hne, hK.2.2.2.setCell (Nat.le_of_lt hwlt) _⟩
            have e : xs.take (k + 1) = xs.take k ++ [o] := by
              rw [List.take_succ_eq_append_getElem (by omega)]
              congr 2
              rw [← ho, List.getD_eq_getElem?_getD, List.getElem?_eq_getElem (by omega)]
              rfl
            rw [e, List.map_append]
            exact hp
          have FIN := Lib.hid fin
          clear fin hxk ho
          go_wp2_with fail
          exact ⟨FIN.out _ rfl, by simp [intOf]; omega⟩
        · have hkn : k = n := by omega
          subst hkn
          have hK := HK.out
          have hxl := HX2.out.2.2.2.2.1
          have hrow := hK.1
          rw [List.take_of_length_le (by omega)] at hrow
          have hcv := conv_bytes (cap := k) hrow
          rw [List.length_map, hxl] at hcv
          have htr := rtrim_any ⟨(xs.map UInt8.ofNat).toArray⟩ wr
          rw [show (⟨(xs.map UInt8.ofNat).toArray⟩ : ByteArray).data.toList = xs.map UInt8.ofNat from rfl, strip_be, beN_bytes xs HX2.out.2.2.2.2.2, HX2.out.2.2.2.1] at htr
          have HTR := Lib.hid htr
          clear htr hrow hK hxl
          go_wp2_with fail
          refine HTR.out.mono ?_
          rintro e w' ⟨rfl, rfl⟩
          go_wp2_with fail
          go_ret
          exact ⟨rfl, HK.out.2.2.2⟩
    · have j1 : ((i + 1 : Nat) : Int) - 1 = (i : Int) := by omega
      rw [j1]
      have hil : i < sa.size := by omega
      obtain ⟨t, ht⟩ : ∃ t, sa.size - (i + 1) = t := ⟨_, rfl⟩
      obtain ⟨ai, hai⟩ : ∃ d, A / 256 ^ t % 256 = d := ⟨_, rfl⟩
      have va := str_back sa t (by omega) i (by omega) hil
      rw [HDA.out.1, hai] at va
      have ha256 : ai < 256 := by rw [← hai]; exact Nat.mod_lt _ (by omega)
      have HT := Lib.hid (And.intro ht hai)
      clear ht hai
      go_wp2_with fail
      go_loopw [7, 8] (fun cv v wi => ∃ (p c : Nat) (ys : List Nat), cv = .int .i64 (c : Int) ∧ v = .int .i64 ((p : Int) - 1) ∧ p ≤ sb.size ∧ c < 256 ∧ ys.length = n ∧ RowZ wi w.heap.size ys ∧ Dg ys ∧ (∀ j, j < i + 1 → ys.getD j 0 = 0) ∧ beN ys + c * 256 ^ (t + (sb.size - p)) = (A % 256 ^ t) * B + 256 ^ t * ai * (B % 256 ^ (sb.size - p)) ∧ Below w.heap.size w wi ∧ w1.heap.size ≤ wi.heap.size) (fun _ v _ => (intOf v + 1).toNat)
      case atStart =>
        have h := HX.out
        exact ⟨sb.size, 0, xs, rfl, rfl, Nat.le_refl _, by omega, h.1, h.2.1, h.2.2.1, h.2.2.2.1, by rw [h.2.2.2.2.1, HT.out.1, Nat.sub_self]; simp [Nat.mod_one], h.2.2.2.2.2.1, h.2.2.2.2.2.2⟩
      case round =>
        obtain ⟨p, c, ys, rfl, rfl, hp, hc, hyl, hyr, hyd, hyz, hyv, hyb, hys⟩ := hrel
        have HY := Lib.hid (And.intro hyl (And.intro hyr (And.intro hyd (And.intro hyz (And.intro hyv (And.intro hyb hys))))))
        clear hyl hyr hyd hyz hyv hyb hys
        rcases p with _ | k
        · have hin : i < n := by have := HN.out; omega
          have hyi := HY.out.2.1 i (by rw [HY.out.1]; exact hin)
          rw [HY.out.2.2.2.1 i (by omega)] at hyi
          have c1 := hyi.1
          have c2 := hyi.2
          have fin : ∀ wn, wn = wr.setCell ⟨w.heap.size, i, none⟩ (.int .i64 (c : Int)) → ∃ (m : Nat) (xs : List Nat), Value.int .i64 ((i : Int) - 1) = .int .i64 ((m : Int) - 1) ∧ m ≤ sa.size ∧ xs.length = n ∧ RowZ wn w.heap.size xs ∧ Dg xs ∧ (∀ j, j < m → xs.getD j 0 = 0) ∧ beN xs = (A % 256 ^ (sa.size - m)) * B ∧ Below w.heap.size w wn ∧ w1.heap.size ≤ wn.heap.size := by
            intro wn hwn
            subst hwn
            have hY := HY.out
            refine ⟨i, ys.set i c, rfl, by omega, by rw [List.length_set]; exact hY.1, hY.2.1.set i c, hY.2.2.1.set i c hc, ?_, ?_, hY.2.2.2.2.2.1.setCell (Nat.le_refl _) _, by rw [World.size_setCell]; exact hY.2.2.2.2.2.2⟩
            · intro j hj
              rw [List.getD_eq_getElem?_getD, List.getElem?_set_ne (by omega), ← List.getD_eq_getElem?_getD]
              exact hY.2.2.2.1 j (by omega)
            · have h1 := beN_set ys i c (by rw [hY.1]; exact hin)
              have h2 := hY.2.2.2.2.1
              rw [Nat.sub_zero, Nat.mod_eq_of_lt HDB.out.2] at h2
              rw [hY.1, hY.2.2.2.1 i (by omega), Nat.zero_mul, Nat.add_zero, show n - 1 - i = t + sb.size by have := HN.out; have := HT.out.1; omega] at h1
              rw [h1, h2, show sa.size - i = t + 1 by have := HT.out.1; omega, mod_grow A t, HT.out.2, Nat.add_mul]
          have FIN := Lib.hid fin
          clear fin hyi
          go_wp2_with fail
          exact ⟨FIN.out _ rfl, by simp [intOf]⟩
        · have j2 : ((k + 1 : Nat) : Int) - 1 = (k : Int) := by omega
          rw [j2]
          have hkl : k < sb.size := by omega
          obtain ⟨s, hs⟩ : ∃ s, sb.size - (k + 1) = s := ⟨_, rfl⟩
          obtain ⟨bk, hbk⟩ : ∃ d, B / 256 ^ s % 256 = d := ⟨_, rfl⟩
          have vb := str_back sb s (by omega) k (by omega) hkl
          rw [HDB.out.1, hbk] at vb
          have hb256 : bk < 256 := by rw [← hbk]; exact Nat.mod_lt _ (by omega)
          obtain ⟨ps, hps⟩ : ∃ q, i + k + 1 = q := ⟨_, rfl⟩
          have hpn : ps < n := by have := HN.out; omega
          have hpi : (i : Int) + (k : Int) + 1 = (ps : Int) := by omega
          obtain ⟨o, ho⟩ : ∃ o, ys.getD ps 0 = o := ⟨_, rfl⟩
          have hyp := HY.out.2.1 ps (by rw [HY.out.1]; exact hpn)
          rw [ho] at hyp
          have c1 := hyp.1
          have c2 := hyp.2
          have ho256 : o < 256 := by rw [← ho]; exact HY.out.2.2.1.getD ps
          obtain ⟨ab, hab⟩ : ∃ x, ai * bk = x := ⟨_, rfl⟩
          have hab2 : ab ≤ 65025 := by rw [← hab]; exact Nat.mul_le_mul (show ai ≤ 255 by omega) (show bk ≤ 255 by omega)
          have hab3 : (ai : Int) * (bk : Int) = (ab : Int) := by rw [← hab]; push_cast; rfl
          obtain ⟨T, hT⟩ : ∃ T, c + (o + ab) = T := ⟨_, rfl⟩
          have hTi : (c : Int) + ((o : Int) + (ab : Int)) = (T : Int) := by omega
          obtain ⟨mo, hmo⟩ : ∃ x, T % 256 = x := ⟨_, rfl⟩
          obtain ⟨qo, hqo⟩ : ∃ x, T / 256 = x := ⟨_, rfl⟩
          have hand : bits .and .i64 (T : Int) 255 = (mo : Int) := by rw [and255 T (by omega), hmo]
          have hqi : (T : Int) / 256 = (qo : Int) := by omega
          have fin : ∀ wn, wn = (wr.setCell ⟨w.heap.size, ps, none⟩ (.int .i64 (mo : Int))).drew → ∃ (p c' : Nat) (ys : List Nat), Value.int .i64 (qo : Int) = .int .i64 (c' : Int) ∧ Value.int .i64 ((k : Int) - 1) = .int .i64 ((p : Int) - 1) ∧ p ≤ sb.size ∧ c' < 256 ∧ ys.length = n ∧ RowZ wn w.heap.size ys ∧ Dg ys ∧ (∀ j, j < i + 1 → ys.getD j 0 = 0) ∧ beN ys + c' * 256 ^ (t + (sb.size - p)) = (A % 256 ^ t) * B + 256 ^ t * ai * (B % 256 ^ (sb.size - p)) ∧ Below w.heap.size w wn ∧ w1.heap.size ≤ wn.heap.size := by
            intro wn hwn
            subst hwn
            have hY := HY.out
            refine ⟨k, qo, ys.set ps mo, rfl, rfl, by omega, by omega, by rw [List.length_set]; exact hY.1, hY.2.1.set ps mo, hY.2.2.1.set ps mo (by omega), ?_, ?_, (hY.2.2.2.2.2.1.setCell (Nat.le_refl _) _).drew, by show w1.heap.size ≤ (wr.setCell _ _).heap.size; rw [World.size_setCell]; exact hY.2.2.2.2.2.2⟩
            · intro j hj
              rw [List.getD_eq_getElem?_getD, List.getElem?_set_ne (by omega), ← List.getD_eq_getElem?_getD]
              exact hY.2.2.2.1 j hj
            · have h1 := beN_set ys ps mo (by rw [hY.1]; exact hpn)
              have h2 := hY.2.2.2.2.1
              rw [hs] at h2
              rw [hY.1, ho, show n - 1 - ps = t + s by have := HN.out; have := HT.out.1; omega] at h1
              rw [show sb.size - k = s + 1 by omega, mod_grow B s, hbk, Nat.mul_add (256 ^ t * ai)]
              have h3 : 256 ^ t * ai * (256 ^ s * bk) = ab * 256 ^ (t + s) := by
                rw [← hab, Nat.pow_add]
                simp only [Nat.mul_assoc, Nat.mul_comm, Nat.mul_left_comm]
              have h4 : qo * 256 ^ (t + (s + 1)) = (256 * qo) * 256 ^ (t + s) := by
                rw [← Nat.add_assoc, Nat.pow_succ]
                simp only [Nat.mul_assoc, Nat.mul_comm]
              have h5 : c * 256 ^ (t + s) + (o * 256 ^ (t + s) + ab * 256 ^ (t + s)) = (256 * qo) * 256 ^ (t + s) + mo * 256 ^ (t + s) := by
                rw [← Nat.add_mul, ← Nat.add_mul, ← Nat.add_mul]
                congr 1
                omega
              rw [h3, h4]
              omega
          have FIN := Lib.hid fin
          clear fin hs hbk ho hab hyp hT hmo hqo
          go_wp2_with fail
          go_region
          go_wp2_with fail
          exact ⟨FIN.out _ rfl, by simp [intOf]⟩
end Go.Proofs.YtajollhpimfefaaGreatDoor
