/- The contract of strconv.FormatUint at base 10. What every law of layer 1 needs of its frame: arguments of type api.Int opened and shut, the tables of the library laid in a world, and what the row's list gives. -/
import Derived.Test.YtpdhffjdgnpikaaGreatDoorNat
import Derived.Lib.ItoaNum
import Derived.Test.YtpdhffjdgnpikaaGreatDoorShelf
import Derived.Shelf.Strconv.Itoa3
import Derived.Lib.AppendIntMem
import Derived.Test.YtpdhffjdgnpikaaGreatDoorRows
import Derived.WalkKit
import Derived.ProofKit
import Derived.OpenShut
import Derived.Deep.DeepHandedRow
import Derived.Lib.LaidTab
import Derived.Lib.SmallJoins
namespace Go.Proofs.YtpdhffjdgnpikaaGreatDoor

/-- The last k decimal digits of a number. -/
def padF : Nat → Nat → List UInt8
  | 0, _ => []
  | k + 1, c => padF k (c / 10) ++ [UInt8.ofNat (48 + c % 10)]
theorem padF_length (k c : Nat) : (padF k c).length = k := by
  induction k generalizing c with
  | zero => rfl
  | succ k ih => rw [padF, List.length_append, ih]; rfl
theorem padF_zero (k : Nat) : padF k 0 = List.replicate k 48 := by
  induction k with
  | zero => rfl
  | succ k ih => rw [padF, Nat.zero_div, ih, List.replicate_succ']; rfl
theorem dec_split (k c m : Nat) (hm : 0 < m) (hc : c < 10 ^ k) : Lib.decDigits (c + 10 ^ k * m) = Lib.decDigits m ++ padF k c := by
  induction k generalizing c with
  | zero =>
    have : c = 0 := by simpa using hc
    subst this
    simp [padF]
  | succ k ih =>
    have hp : 0 < 10 ^ k := Nat.pow_pos (by omega)
    have hpm : 0 < 10 ^ k * m := Nat.mul_pos hp hm
    have e0 : 10 ^ (k + 1) * m = 10 * (10 ^ k * m) := by rw [Nat.pow_succ, Nat.mul_comm (10 ^ k) 10, Nat.mul_assoc]
    rw [Nat.pow_succ] at hc
    rw [e0]
    generalize hq : 10 ^ k * m = q at *
    have h10 : ¬ (c + 10 * q < 10) := by omega
    rw [Lib.decDigits, dif_neg h10, show (c + 10 * q) / 10 = c / 10 + q by omega, show (c + 10 * q) % 10 = c % 10 by omega, ih (c / 10) (by omega), padF, List.append_assoc]
theorem padF_eq (k c : Nat) (hc : c < 10 ^ (k + 1)) : padF (k + 1) c = List.replicate (k + 1 - Lib.nDigits c) 48 ++ Lib.decDigits c := by
  induction k generalizing c with
  | zero =>
    have h : c < 10 := by simpa using hc
    rw [padF, padF, Lib.nDigits_small h, Lib.decDigits_one h, Nat.mod_eq_of_lt h]; rfl
  | succ k ih =>
    rw [padF]
    by_cases h : c < 10
    · rw [show c / 10 = 0 by omega, padF_zero, Lib.nDigits_small h, Lib.decDigits_one h, Nat.mod_eq_of_lt h]; rfl
    · have e : Lib.decDigits c = Lib.decDigits (c / 10) ++ [UInt8.ofNat (48 + c % 10)] := by rw [Lib.decDigits, dif_neg h]
      rw [ih (c / 10) (by rw [Nat.pow_succ] at hc; omega), Lib.nDigits_big h, e, List.append_assoc, show k + 1 + 1 - (Lib.nDigits (c / 10) + 1) = k + 1 - Lib.nDigits (c / 10) by omega]

def chF : Nat → Nat → List Nat
  | 0, _ => []
  | k + 1, n => if n = 0 then [] else (n % 10000000000000000000) :: chF k (n / 10000000000000000000)
theorem chF_enough : ∀ (k k' n : Nat), n ≤ k → n ≤ k' → chF k n = chF k' n := by
  intro k
  induction k with
  | zero =>
    intro k' n h _
    have : n = 0 := by omega
    subst this
    cases k' <;> simp [chF]
  | succ k ih =>
    intro k' n h h'
    cases k' with
    | zero =>
      have : n = 0 := by omega
      subst this; simp [chF]
    | succ k' =>
      by_cases h0 : n = 0
      · simp [chF, h0]
      · simp only [chF, if_neg h0]
        rw [ih k' (n / 10000000000000000000) (by omega) (by omega)]
/-- The chunks of a number, the least significant one first. -/
def ch (n : Nat) : List Nat := chF n n
theorem ch_zero : ch 0 = [] := rfl
theorem ch_pos (n : Nat) (h : n ≠ 0) : ch n = (n % 10000000000000000000) :: ch (n / 10000000000000000000) := by
  unfold ch
  obtain ⟨k, rfl⟩ : ∃ k, n = k + 1 := ⟨n - 1, by omega⟩
  rw [chF, if_neg (by omega), chF_enough k ((k + 1) / 10000000000000000000) _ (by omega) (Nat.le_refl _)]
theorem ch_ne (n : Nat) (h : n ≠ 0) : ch n ≠ [] := by rw [ch_pos n h]; simp
theorem ch_lt (n : Nat) : ∀ c ∈ ch n, c < 10000000000000000000 := by
  induction n using Nat.strongRecOn with
  | ind n ih =>
    by_cases h0 : n = 0
    · subst h0; intro c hc; rw [ch_zero] at hc; cases hc
    · intro c hc
      rw [ch_pos n h0] at hc
      rcases List.mem_cons.1 hc with rfl | hc
      · exact Nat.mod_lt _ (by omega)
      · exact ih _ (by omega) c hc
/-- A number of so many words has at most twice as many chunks. -/
theorem ch_length (k n : Nat) (h : n < 10000000000000000000 ^ k) : (ch n).length ≤ k := by
  induction k generalizing n with
  | zero => simp at h; subst h; simp [ch_zero]
  | succ k ih =>
    by_cases h0 : n = 0
    · subst h0; simp [ch_zero]
    · rw [ch_pos n h0]
      have := ih (n / 10000000000000000000) (by rw [Nat.pow_succ] at h; omega)
      simp; omega
theorem ch_words (k n : Nat) (h : n < 18446744073709551616 ^ k) : (ch n).length ≤ 2 * k := by
  apply ch_length
  refine Nat.lt_of_lt_of_le h ?_
  rw [Nat.pow_mul]
  exact Nat.pow_le_pow_left (by decide) k

/-- The text of chunks: all but the last one have nineteen digits. -/
def ctext : List Nat → List UInt8
  | [] => []
  | c :: l => if l = [] then Lib.decDigits c else ctext l ++ padF 19 c
theorem ctext_one (c : Nat) : ctext [c] = Lib.decDigits c := by rw [ctext, if_pos rfl]
theorem ctext_more (c : Nat) (l : List Nat) (h : l ≠ []) : ctext (c :: l) = ctext l ++ padF 19 c := by rw [ctext, if_neg h]
theorem ctext_ch (n : Nat) (h : n ≠ 0) : ctext (ch n) = Lib.decDigits n := by
  induction n using Nat.strongRecOn with
  | ind n ih =>
    rw [ch_pos n h]
    by_cases h0 : n / 10000000000000000000 = 0
    · rw [h0, ch_zero, ctext_one, Nat.mod_eq_of_lt (by omega)]
    · rw [ctext_more _ _ (ch_ne _ h0), ih _ (by omega) h0]
      have := dec_split 19 (n % 10000000000000000000) (n / 10000000000000000000) (by omega) (by omega)
      rw [← this]
      congr 1
      have := Nat.div_add_mod n 10000000000000000000
      omega
theorem nDigits_le (k c : Nat) (h : c < 10 ^ (k + 1)) : Lib.nDigits c ≤ k + 1 := by
  induction k generalizing c with
  | zero =>
    have : c < 10 := by simpa using h
    rw [Lib.nDigits_small this]; omega
  | succ k ih =>
    by_cases h10 : c < 10
    · rw [Lib.nDigits_small h10]; omega
    · rw [Lib.nDigits_big h10]
      have := ih (c / 10) (by rw [Nat.pow_succ] at h; omega)
      omega
theorem ctext_length (l : List Nat) (h : ∀ c ∈ l, c < 10000000000000000000) : (ctext l).length ≤ 19 * l.length := by
  induction l with
  | nil => simp [ctext]
  | cons c l ih =>
    have h1 := ih (fun x hx => h x (List.mem_cons_of_mem _ hx))
    by_cases h0 : l = []
    · subst h0
      rw [ctext_one, Lib.decDigits_length]
      have := nDigits_le 18 c (h c List.mem_cons_self)
      simp; omega
    · rw [ctext_more _ _ h0, List.length_append, padF_length, List.length_cons]; omega
end Go.Proofs.YtpdhffjdgnpikaaGreatDoor

namespace Go.Proofs.YtpdhffjdgnpikaaGreatDoor
open Go.RowKit Go.Shelf Go.Sort

/-- The table of powers of ten that strconv reads. -/
def Tab (w : World) : Prop := Lib.TabIs Tryz.prog w "internal/strconv.uint64pow10" .u64 Lib.pow10Tab
theorem holds_zero0 (w : World) (T : TypeId) (nd : Nat) (hs : nd ≤ 24) : Holds (fun (b : UInt8) => Value.int .u8 (b.toNat : Int)) (w.alloc (.cells Lib.zeros24 T)) w.heap.size 0 (Array.replicate nd (0 : UInt8)) := fun j hj => by
  have hj' : j < nd := by simpa using hj
  refine ⟨?_, World.frozen?_alloc_new _ _ _ _⟩
  rw [World.cell?_alloc_new, Lib.zeros24_at _ (by omega), getElem!_pos _ j hj]
  simp
theorem put_below (w : World) (T : TypeId) (dk : Array UInt8) (k : Nat) : Below w.heap.size w ((putRow (fun (b : UInt8) => Value.int .u8 (b.toNat : Int)) (w.alloc (.cells Lib.zeros24 T)) w.heap.size 0 dk).drewN k) := by
  rw [alloc_eq_grow]
  obtain ⟨os', _, e⟩ := putRow_grow_new (fun (b : UInt8) => Value.int .u8 (b.toNat : Int)) w #[.cells Lib.zeros24 T] w.heap.size 0 dk (Nat.le_refl _)
  rw [e]
  exact Lib.below_grow _ w (Nat.le_refl _) k os'

set_option maxHeartbeats 6400000 in
set_option maxRecDepth 100000 in
theorem fmtI_any (u : Nat) (hu64 : u < 18446744073709551616) (w : World) (htab : Tab w) :
    Calls Tryz.prog 194 #[.int .u64 u, .int .i64 10] w fun e w' => e = .returned (.string ⟨(Lib.decDigits u).toArray⟩) ∧ Below w.heap.size w w' := by
  by_cases hs : u < 100
  · go_enter Tryz.func194, Tryz.ntmps194
    go_wp2_with (go_at_call 219; refine (Tryz.internal_strconv_small u hs _).mono ?_; rintro e w' ⟨rfl, rfl⟩)
    go_ret
    exact ⟨rfl, Below.refl _ _⟩
  · have hu1 : 1 ≤ u := by omega
    have hnd20 : Lib.nDigits u ≤ 20 := by have := Lib.numDigits_eq u hu1 hu64; split at this <;> omega
    have hal : Tryz.prog.arrayLen 192 = 24 := by simp [Program.arrayLen, Tryz.underlying192]
    have hsl1 : ∀ W, (Instr.sliceAt 192 (.pointer (some ⟨w.heap.size, 0, none⟩)) none (some (.int .i64 (Lib.nDigits u : Int))) none).run Tryz.prog W = .ok (.slice (some ⟨w.heap.size, 0, none⟩) (Lib.nDigits u) 24) W := fun W => by
      rw [run_sliceAt_array_h W 192 ⟨w.heap.size, 0, none⟩ (by simp [Program.arrayLen, Program.elem, Tryz.underlying192]) .i64 (Lib.nDigits u : Int) (by omega) (by rw [hal]; omega)]
      go_simp
    have hH0 := holds_zero0 w 192 (Lib.nDigits u) (by omega)
    have hfmt := Tryz.internal_strconv_formatBase10 w.heap.size 0 24 u (Array.replicate (Lib.nDigits u) 0) (w.alloc (.cells Lib.zeros24 192)) hH0 (by rw [Array.size_replicate]; exact Lib.lt_pow_nDigits u) hu64 (by rw [Array.size_replicate]; omega)
    rw [Array.size_replicate] at hfmt
    have HH0 := Lib.hid hH0
    have HT := Lib.hid htab
    clear hH0 hal htab
    go_enter Tryz.func194, Tryz.ntmps194
    go_wp2_with (go_at_call 220; refine (Tryz.internal_strconv_numDigits u hu1 hu64 _ (Lib.tabIs_alloc HT.out _)).mono ?_; rintro e w' ⟨rfl, rfl⟩)
    refine hfmt.mono ?_
    rintro e w' ⟨rfl, k, v', dk, rfl, hF⟩
    have hcv : (convert 110 9 (.slice (some ⟨w.heap.size, 0, none⟩) (Lib.nDigits u) 24)).run Tryz.prog ((putRow (fun (b : UInt8) => Value.int .u8 (b.toNat : Int)) (w.alloc (.cells Lib.zeros24 192)) w.heap.size 0 dk).drewN k) = .ok (.string ⟨(Lib.decDigits u).toArray⟩) ((putRow (fun (b : UInt8) => Value.int .u8 (b.toNat : Int)) (w.alloc (.cells Lib.zeros24 192)) w.heap.size 0 dk).drewN k) := by
      have h := run_convert_bytes_back (P := Tryz.prog) ((putRow (fun (b : UInt8) => Value.int .u8 (b.toNat : Int)) (w.alloc (.cells Lib.zeros24 192)) w.heap.size 0 dk).drewN k) 110 9 5 ⟨w.heap.size, 0, none⟩ 24 (Lib.decDigits u) Tryz.underlying110 Tryz.underlying5 Tryz.underlying9 (fun j hj => by
        rw [Lib.row_is_numeral hF j hj, Lib.add_plain, World.cell?_drewN]
        exact cell?_putRow (fun (b : UInt8) => Value.int .u8 (b.toNat : Int)) _ w.heap.size 0 _ dk HH0.out (by rw [hF.size, Array.size_replicate]) j (by rw [hF.size]; rw [Lib.decDigits_length] at hj; exact hj))
      rw [Lib.decDigits_length] at h
      exact h
    go_wp2
    go_ret
    exact ⟨rfl, put_below _ _ _ _⟩
theorem fmtU_any (u : Nat) (hu64 : u < 18446744073709551616) (w : World) (htab : Tab w) :
    Calls Tryz.prog 164 #[.int .u64 u, .int .i64 10] w fun e w' => e = .returned (.string ⟨(Lib.decDigits u).toArray⟩) ∧ Below w.heap.size w w' := by
  have HF := Lib.hid (fmtI_any u hu64 w htab)
  clear htab
  go_enter Tryz.func164, Tryz.ntmps164
  go_wp2_with fail
  refine HF.out.mono ?_
  rintro e w' ⟨rfl, hb⟩
  go_wp2_with fail
  go_ret
  exact ⟨rfl, hb⟩
end Go.Proofs.YtpdhffjdgnpikaaGreatDoor

namespace Go.Proofs.YtpdhffjdgnpikaaGreatDoor
open Go.ChangeShapes Go.WideShapes Go.ChangeAt Go.RowKit Go.Shelf Go.Lib Go.Joins
open Go.ChangeMaps (open_string shut_string)

theorem own : ownKnob Tryz.prog.godebug = none := by kernel_rfl
theorem cellsI : Tryz.prog.cellsOf 23 = 2 := by kernel_rfl
theorem cellsB : Tryz.prog.cellsOf 4 = 1 := by kernel_rfl
theorem cellsS : Tryz.prog.cellsOf 9 = 1 := by kernel_rfl
theorem cellsU : Tryz.prog.cellsOf 85 = 1 := by kernel_rfl
/-- How an api.Int reads. -/
def dI {H : Type} (n : Bool) (s : ByteArray) : DataW H := .agg [.lit (.bool n), .lit (.string s.data.toList)]

set_option maxRecDepth 100000 in
theorem open_int23 {H : Type} {enc : TypeId × Value → H} {w : World} {b0 base : Nat} {spare : Nat → Bool} {held : Bool} {v : Value} {d : DataW H} {p : List MemPlace}
    (hv : Value.okWide Tryz.prog w .any b0 23 v) (h : DataW.Trod enc Tryz.prog w base spare held 23 v d p) :
    ∃ n s, v = .agg #[.bool n, .string s] ∧ d = dI n s ∧ p = [] ∧ s.size ≤ maxLen := by
  obtain ⟨c0, c1, y0, y1, m, rfl, rfl, rfl, hy0, hy1⟩ := open_agg2 Tryz.underlying23 (by kernel_rfl) cellsI hv h
  obtain ⟨n, e0, rfl⟩ := DataW.trod_bool Tryz.underlying4 hy0
  obtain ⟨s, e1, rfl, hs⟩ := DataW.trod_string Tryz.underlying9 hy1
  simp at e0 e1
  subst e0 e1
  exact ⟨n, s, rfl, rfl, rfl, hs⟩
set_option maxRecDepth 100000 in
theorem shut_int23 {H : Type} {enc : TypeId × Value → H} {w : World} {base : Nat} {spare : Nat → Bool} {held : Bool} (n : Bool) (s : ByteArray) (hs : s.size ≤ maxLen) :
    DataW.Trod enc Tryz.prog w base spare held 23 (.agg #[.bool n, .string s]) (dI n s) [] :=
  shut_agg2 (y0 := (.lit (.bool n), [])) (y1 := (.lit (.string s.data.toList), [])) Tryz.underlying23 (by kernel_rfl) cellsI ⟨1, by simp [DataW.trod, Tryz.underlying4]⟩ ⟨1, by simp [DataW.trod, Tryz.underlying9, hs]⟩

/-- The end of a law whose arguments lie in no memory: nothing is asked of what is new. -/
theorem post_of_plain {H : Type} {enc : TypeId × Value → H} {P : Program} {f : Func} {s : ChangeSpec} {apart fresh handsOn again : Bool} {W W' : World} {args : Array Value} {v : Value} {ds gs : List (DataW H)} {before : List MemPlace}
    (hW : DataW.Whole enc P f.params.toList s.vars apart W args.toList ds gs before)
    (hres : ∀ (b : Nat) (sp : Nat → Bool) (hd : Bool), DataW.TrodAll enc P W' b sp hd f.resultTypes.toList (v.resultList f.resultTypes.size) (s.fn H (ds ++ gs)).results [])
    (hargs : ∀ sp : Nat → Bool, (∀ p ∈ before, sp p.block = true) → DataW.TrodAll enc P W' 0 sp true f.params.toList args.toList (s.fn H (ds ++ gs)).args [])
    (hvars : ∀ sp : Nat → Bool, (∀ p ∈ before, sp p.block = true) → DataW.TrodVars enc P W' sp s.vars (s.fn H (ds ++ gs)).vars [])
    (hps : before = []) (hk : W.keptBut W' (· ∈ before))
    (hok : ∀ (j : Nat) (t : TypeId) (r : Value), f.resultTypes[j]? = some t → (v.resultList f.resultTypes.size)[j]? = some r → Value.okWide P W' .any 0 t r) :
    s.post enc P f apart fresh handsOn again W args v W' := by
  have hold : ∀ p ∈ before, (fun b => decide (b < W.heap.size)) p.block = true := fun p hp => by rw [hps] at hp; cases hp
  refine ⟨ds, gs, before, [], [], [], hW, hres _ _ _, hargs _ hold, hvars _ hold, World.keptBut_mono (fun p hp => by rw [hps] at hp; cases hp) hk, fun _ => ?_⟩
  refine ⟨hok, _, _, ([] ++ []) ++ [], ⟨[] ++ [], [], trodAll_append (hargs _ (fun _ _ => rfl)) (hres _ _ _), hvars _ (fun _ _ => rfl), rfl, ?_, ?_⟩, ?_⟩
  · intro b off hp; simp at hp
  · intro _; simp
  · intro p hp _; simp at hp

/-! The tables of the library, laid in a world. -/
def litV : DataW Unit → Value
  | .lit (.int k z) => .int k z
  | _ => undef
def flat1 : DataW Unit → List Value
  | .agg l => l.map litV
  | _ => []
def flat2 : DataW Unit → List Value
  | .agg l => l.flatMap flat1
  | _ => []
def layIn (cs : List Value) : Obj → Obj
  | .cells _ t fz => .cells cs.toArray t fz
  | o => o
noncomputable def laidWorld (os : Os) : World :=
  { World.holding Tryz.prog os ⟨#[], #[], []⟩ with heap := (((((World.holding Tryz.prog os ⟨#[], #[], []⟩).heap.modify 5 (layIn (flat1 Rows.laid_internal_strconv_uint64pow10))).modify 3 (layIn (flat1 Rows.laid_unicode_utf8_first))).modify 4 (layIn (flat2 Rows.laid_unicode_utf8_acceptRanges))).modify 6 (layIn (flat1 Rows.laid_math_bits_deBruijn32tab))).modify 7 (layIn (flat1 Rows.laid_math_bits_deBruijn64tab)) }

theorem laid_tail {x : String × DataW Unit} {rest : List (String × DataW Unit)} {W : World} (h : laidMet Tryz.prog (x :: rest) W) : laidMet Tryz.prog rest W := by
  obtain ⟨ps, ⟨g', t', cs, fuel, p, q, _, _, _, _, h1, h2⟩, hnd, hall⟩ := h
  subst h2
  exact ⟨q, h1, (List.nodup_append.1 hnd).2.1, fun b off hp => hall b off (List.mem_append_right _ hp)⟩

/-- What a row of layer 1 lists. -/
def listed : List (String × DataW Unit) := [("math/bits.deBruijn32tab", Rows.laid_math_bits_deBruijn32tab), ("math/bits.deBruijn64tab", Rows.laid_math_bits_deBruijn64tab), ("internal/strconv.uint64pow10", Rows.laid_internal_strconv_uint64pow10), ("unicode/utf8.acceptRanges", Rows.laid_unicode_utf8_acceptRanges), ("unicode/utf8.first", Rows.laid_unicode_utf8_first)]
theorem gTab : Tryz.prog.globalNamed "internal/strconv.uint64pow10" = some 5 := by kernel_rfl
theorem gTabType : (Tryz.prog.globals[5]?).map (·.type) = some 208 := by kernel_rfl
theorem cellsTab : Tryz.prog.cellsOf 208 = 20 := by kernel_rfl
/-- What the row's list gives: the table of powers of ten. -/
theorem table {W : World} (h : laidMetH Tryz.prog listed W) : Tab W :=
  tabIs_of_head (zs := pow10Tab) gTab gTabType Tryz.underlying208 Tryz.underlying85 cellsU cellsTab (laid_tail (laid_tail (show laidMet Tryz.prog listed W from h)))
set_option maxRecDepth 100000 in
theorem laid_met (os : Os) (args : Array Value) : laidMet Tryz.prog listed ((laidWorld os).forCall (fun _ _ => 0) ⟨#[], args, []⟩).memory :=
  laidMet_of_run' 8 (by kernel_rfl) (by kernel_rfl)
end Go.Proofs.YtpdhffjdgnpikaaGreatDoor
