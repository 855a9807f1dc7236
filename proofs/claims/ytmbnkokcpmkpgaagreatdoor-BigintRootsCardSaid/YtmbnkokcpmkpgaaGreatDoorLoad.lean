/- The contract of bigint.load: the words of the number with base-256 digits, in the memory that is passed or in a new row. -/
import Derived.Test.YtmbnkokcpmkpgaaGreatDoorGrow
import Derived.Lib.JoinLaws
import Derived.OwnWalk
namespace Go.Proofs.YtmbnkokcpmkpgaaGreatDoor
open Go.RowKit

/-- A slice over the words of a number, in block b or a new one; no other block has turned. -/
def Loaded (w : World) (b n : Nat) (e : Ending) (w' : World) : Prop :=
  ∃ g cap, e = .returned (.slice (some ⟨g, 0, none⟩) (nw n).length cap) ∧ (nw n).length ≤ cap ∧ cap ≤ maxLen ∧ Row w' g 0 (nw n) ∧ (g = b ∨ w.heap.size ≤ g) ∧ w.grownBy w' (some b)

theorem grown_set (W : World) (g o : Nat) (v : Value) : W.grownBy (W.setCell ⟨g, o, none⟩ v) (some g) :=
  ⟨rfl, rfl, rfl, by simp [World.setCell], fun k _ hne => Below.heap_setCell _ _ _ _ (fun e => hne (by rw [e]))⟩
theorem grown_draws (W : World) (n : Nat) (r : Option Nat) : W.grownBy (W.drewN n) r := ⟨rfl, rfl, rfl, Nat.le_refl _, fun _ _ _ => rfl⟩
theorem grown_trans {a b c : World} {r : Option Nat} (h : a.grownBy b r) (k : b.grownBy c r) : a.grownBy c r :=
  ⟨k.os.trans h.os, k.tape.trans h.tape, k.output.trans h.output, Nat.le_trans h.size k.size, fun i hi hr => (k.block i (Nat.lt_of_lt_of_le hi h.size) hr).trans (h.block i hi hr)⟩
theorem room_lt {w : World} {g cap : Nat} (h : Room w g cap) (h0 : 0 < cap) : g < w.heap.size := by
  have h1 := (h 0 h0).1
  cases hc : w.cell? ⟨g, 0, none⟩ with
  | none => rw [hc] at h1; cases h1
  | some x => exact World.block_lt_of_cell? w _ hc
theorem Room.below {w w' : World} {g cap B : Nat} (h : Room w g cap) (hb : Below B w w') (hB : g < B) : Room w' g cap := fun j hj => by
  rw [hb.cell (p := ⟨g, j, none⟩) hB, hb.frozen (p := ⟨g, j, none⟩) hB]; exact h j hj
theorem Room.set {w : World} {g cap o : Nat} {v : Value} (h : Room w g cap) (_ho : o < cap) : Room (w.setCell ⟨g, o, none⟩ v) g cap := fun j hj => by
  rw [World.frozen?_setCell]
  refine ⟨?_, (h j hj).2⟩
  by_cases hjo : o = j
  · subst hjo
    rw [World.cell?_setCell_same' _ _ _ (h o hj).1]; rfl
  · rw [World.cell?_setCell_other _ _ _ _ (by intro e; cases e; exact hjo rfl)]; exact (h j hj).1
theorem Row.push {w : World} {g cap : Nat} {ws : List Nat} (h : Row w g 0 ws) (hr : Room w g cap) (hlt : ws.length < cap) (v : Nat) : Row (w.setCell ⟨g, ws.length, none⟩ (.int .u64 v)) g 0 (ws ++ [v]) := by
  intro j hj
  rw [World.frozen?_setCell, Nat.zero_add]
  rw [List.length_append, List.length_singleton] at hj
  by_cases hjo : j < ws.length
  · rw [World.cell?_setCell_other _ _ _ _ (by intro e; have := congrArg Addr.off e; simp at this; omega)]
    rw [List.getD_eq_getElem?_getD, List.getElem?_append_left hjo, ← List.getD_eq_getElem?_getD]
    have := h j hjo
    rw [Nat.zero_add] at this
    exact this
  · have hj' : j = ws.length := by omega
    subst hj'
    rw [World.cell?_setCell_same' _ _ _ (hr ws.length hlt).1]
    exact ⟨by simp, (hr ws.length hlt).2⟩
theorem below_draws (w : World) (n B : Nat) : Below B w (w.drewN n) := ⟨rfl, rfl, rfl, Nat.le_refl _, fun _ _ => rfl⟩
/-- One word more, appended within the capacity. -/
theorem push_all {w1 wr W : World} {g cap : Nat} {ws : List Nat} (hrow : Row wr g 0 ws) (hrm : Room wr g cap) (hlt : ws.length < cap) (hgr : w1.grownBy wr (some g)) (hb : Below wr.heap.size wr W) (v : Nat) :
    Row (W.setCell ⟨g, ws.length, none⟩ (.int .u64 v)) g 0 (ws ++ [v]) ∧ Room (W.setCell ⟨g, ws.length, none⟩ (.int .u64 v)) g cap ∧ w1.grownBy (W.setCell ⟨g, ws.length, none⟩ (.int .u64 v)) (some g) := by
  have hg := room_lt hrm (by omega)
  exact ⟨(hrow.below hb hg).push (hrm.below hb hg) hlt v, (hrm.below hb hg).set hlt,
    grown_trans hgr (grown_trans ⟨hb.os, hb.tape, hb.output, hb.size, fun k hk _ => hb.block k hk⟩ (grown_set _ _ _ _))⟩

theorem loaded_of {w w1 wr : World} {b g cap : Nat} {s : ByteArray} {ws : List Nat} (hws : ws = ld s.data.toList) (hld : wv (ld s.data.toList) = beVal s.data.toList ∧ Ok (ld s.data.toList) ∧ (ld s.data.toList).length = (s.data.toList.length + 7) / 8)
    (hrow : Row wr g 0 ws) (hlen : ws.length ≤ cap) (hmax : cap ≤ maxLen) (hb : Below w.heap.size w w1) (hg : g = b ∨ w.heap.size ≤ g) (hgr : w1.grownBy wr (some g)) :
    Loaded w b (beVal s.data.toList) (.returned (.slice (some ⟨g, 0, none⟩) (trimW ws) cap)) wr := by
  have hok : Ok ws := by rw [hws]; exact hld.2.1
  have e : nw (beVal s.data.toList) = ws.take (trimW ws) := by rw [take_trimW ws hok, hws, hld.1]
  have hl : (nw (beVal s.data.toList)).length = trimW ws := by rw [e, List.length_take]; have := trimW_le ws; omega
  refine ⟨g, cap, by rw [hl], by rw [hl]; have := trimW_le ws; omega, hmax, by rw [e]; exact hrow.take _, hg, ?_⟩
  exact ⟨hgr.os.trans hb.os, hgr.tape.trans hb.tape, hgr.output.trans hb.output, Nat.le_trans hb.size hgr.size, fun k hk hne =>
    (hgr.block k (Nat.lt_of_lt_of_le hk hb.size) (fun e => by
      have e' : k = g := Option.some.inj e
      rcases hg with h | h
      · exact hne (by rw [e', h])
      · omega)).trans (hb.block k hk)⟩

set_option maxHeartbeats 1000000 in
set_option maxRecDepth 100000 in
theorem load_any (b : Nat) (s : ByteArray) (w : World) (hs : s.size ≤ 1048576) (hroom : Room w b 16) :
    Calls Tryz.prog 58 #[.pointer (some ⟨b, 0, none⟩), .string s] w (Loaded w b (beVal s.data.toList)) := by
  have HR := Lib.hid hroom
  clear hroom
  go_enter Tryz.func58, Tryz.ntmps58
  go_wp2_with fail
  rw [show ((s.size : Int) + 8 - 1) / 8 = (((s.size + 7) / 8 : Nat) : Int) by omega]
  refine (growU_mem b 16 ((s.size + 7) / 8) w (by omega) (by omega) HR.out).mono ?_
  rintro e w1 ⟨g, cap, rfl, hcap, hmax, hroom1, hg, hbel⟩
  have HB := Lib.hid hbel
  have HG := Lib.hid hg
  have HR1 := Lib.hid hroom1
  clear hbel hg hroom1
  unfold maxLen at hmax
  go_wp2_with fail
  go_loopw [1, 5] (fun a x wr => ∃ (t : ByteArray) (ws : List Nat), a = .string t ∧ t.size ≤ s.size ∧ x = .slice (some ⟨g, 0, none⟩) ws.length cap ∧ ws ++ ld t.data.toList = ld s.data.toList ∧ Row wr g 0 ws ∧ Room wr g cap ∧ w1.grownBy wr (some g)) (fun a _ _ => strLen a)
  case atStart => exact ⟨s, [], rfl, Nat.le_refl _, rfl, rfl, fun j hj => by simp at hj, HR1.out, World.grownBy.refl _ _⟩
  case round =>
    obtain ⟨t, ws, rfl, hts, rfl, hws, hrow, hrm, hgr⟩ := hrel
    have HW := Lib.hid hws
    have HROW := Lib.hid hrow
    have HRM := Lib.hid hrm
    have HGR := Lib.hid hgr
    clear hws hrow hrm hgr
    by_cases h0 : t.size = 0
    · have hnil : t.data.toList = [] := List.eq_nil_of_length_eq_zero (by rw [← Lib.size_eq]; exact h0)
      have hemp : t.toList.isEmpty = true := by rw [Lib.toList_data, hnil]; rfl
      clear h0
      have hws : ws = ld s.data.toList := by rw [← HW.out, hnil, ld_nil, List.append_nil]
      have hld := wv_ld s.data.toList
      have hlen : ws.length ≤ cap := by rw [hws, hld.2.2, ← Lib.size_eq]; exact hcap
      have hlen2 : ws.length ≤ 1048576 := by rw [hws, hld.2.2, ← Lib.size_eq]; omega
      have HH := Lib.hid hws
      have HL := Lib.hid hld
      clear hws hld hnil
      go_wp2_with fail
      refine (trim_any (some ⟨g, 0, none⟩) ws cap wr (.inr ⟨g, 0, rfl, HROW.out⟩) hlen2 hlen (by unfold maxLen; exact hmax)).mono ?_
      rintro e w2 ⟨rfl, rfl⟩
      go_wp2_with fail
      go_ret
      exact loaded_of HH.out HL.out HROW.out (by omega) (by unfold maxLen; exact hmax) HB.out HG.out HGR.out
    · have hemp : t.toList.isEmpty = false := by
        rw [Lib.toList_data]
        cases hl : t.data.toList with
        | nil => exact absurd (by rw [Lib.size_eq, hl]; rfl) h0
        | cons _ _ => rfl
      have hpos : 0 < t.size := by omega
      clear h0
      obtain ⟨cut, hcut⟩ : ∃ cut, cut = t.size - 8 := ⟨_, rfl⟩
      have hc1 : cut < t.size := by omega
      have hc2 : t.size ≤ cut + 8 := by omega
      have HC := Lib.hid hcut
      go_wp2_with fail
      rw [show max ((t.size : Int) - 8) 0 = (cut : Int) by omega]
      simp only [Int.toNat_natCast]
      clear hcut
      have hwd := word_any (t.extract cut t.size) wr (by simp; omega)
      obtain ⟨v, hv⟩ : ∃ v, v = beVal (t.extract cut t.size).data.toList := ⟨_, rfl⟩
      rw [← hv] at hwd
      have HV := Lib.hid hv
      clear hv
      refine hwd.mono ?_
      clear hwd
      rintro e w2 ⟨rfl, nq, rfl⟩
      have hlt : ws.length < cap := by
        have h1 := (wv_ld s.data.toList).2.2
        have h2 : (ld t.data.toList).length = (t.size + 7) / 8 := by rw [(wv_ld t.data.toList).2.2, ← Lib.size_eq]
        have h3 := congrArg List.length HW.out
        rw [List.length_append, h1, h2, ← Lib.size_eq] at h3
        omega
      have HP := Lib.hid hlt
      have HRW : ∀ O, Room ((wr.drewN nq).alloc O) g cap := fun O => (HRM.out).below (B := wr.heap.size) (((Below.refl _ wr).trans (below_draws wr nq _)).alloc (Nat.le_refl _) O) (room_lt HRM.out (by omega))
      have HPA := fun O => push_all HROW.out HRM.out hlt HGR.out (W := (wr.drewN nq).alloc O) (((Below.refl _ wr).trans (below_draws wr nq _)).alloc (Nat.le_refl _) O) v
      have HQ := Lib.hid HPA
      have HRWh := Lib.hid HRW
      clear HPA HRW
      go_wp2_with (at_builtin; refine wpList_append_room1 _ rfl _ _ 54 54 rfl 51 _ 8 Tryz.underlying54 infoU g 0 ws.length cap rfl _ rfl 1 [.int .u64 v] ?src ?room ?cc ?ff ?_)
      case src => exact Src.ofSlice _ Tryz.underlying54 ⟨wr.heap.size, 0, none⟩ 1 1 _ rfl (cell_one_new _ _ _) (by simp [Value.oneCell'])
      case room => omega
      case cc => (intro j hj; obtain rfl : j = 0 := by simpa using hj); rw [Nat.zero_add, Nat.add_zero]; exact (HRWh.out _ ws.length HP.out).1
      case ff => (intro j hj; obtain rfl : j = 0 := by simpa using hj); rw [Nat.zero_add, Nat.add_zero]; exact (HRWh.out _ ws.length HP.out).2
      go_roundw
      case rel =>
        refine ⟨t.extract 0 cut, ws ++ [v], rfl, by simp; omega, by simp, ?_, (HQ.out _).1, (HQ.out _).2.1, (HQ.out _).2.2⟩
        have hne : t.data.toList ≠ [] := fun h => by rw [Lib.size_eq, h] at hpos; simp at hpos
        rw [← HW.out, ld_step t.data.toList hne, HV.out, Lib.extract_data, Lib.extract_data, ← Lib.size_eq, HC.out, List.drop_zero, Nat.sub_zero, List.append_assoc, List.take_of_length_le (by rw [List.length_drop, ← Lib.size_eq]; exact Nat.le_refl _)]
        rfl
      case measure => simp [strLen]; omega
end Go.Proofs.YtmbnkokcpmkpgaaGreatDoor
