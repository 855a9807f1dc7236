/- The contract of bigint.store: the base-256 digits of words. -/
import Derived.Test.YtmbnkokcpmkpgaaGreatDoorPush
import Derived.Lib.BufferRead
import Derived.Laws.IdiomStrings
import Derived.TacticsInMore
namespace Go.Proofs.YtmbnkokcpmkpgaaGreatDoor
open Go.RowKit Go.Shelf
attribute [local go_sem] Oper.semAt_some

theorem u8s_bytes8 (v : Nat) : u8s (bytes8 v) = [.int .u8 ((v : Int) / 72057594037927936 % 256), .int .u8 ((v : Int) / 281474976710656 % 256), .int .u8 ((v : Int) / 1099511627776 % 256), .int .u8 ((v : Int) / 4294967296 % 256), .int .u8 ((v : Int) / 16777216 % 256), .int .u8 ((v : Int) / 65536 % 256), .int .u8 ((v : Int) / 256 % 256), .int .u8 ((v : Int) % 256)] := by
  simp [u8s, bytes8]
theorem src8 (W : World) (v : Nat) : ∀ (x0 x1 x2 x3 x4 x5 x6 x7 : Value), x0 = .int .u8 ((v : Int) / 72057594037927936 % 256) → x1 = .int .u8 ((v : Int) / 281474976710656 % 256) → x2 = .int .u8 ((v : Int) / 1099511627776 % 256) → x3 = .int .u8 ((v : Int) / 4294967296 % 256) → x4 = .int .u8 ((v : Int) / 16777216 % 256) → x5 = .int .u8 ((v : Int) / 65536 % 256) → x6 = .int .u8 ((v : Int) / 256 % 256) → x7 = .int .u8 ((v : Int) % 256) →
    Src Tryz.prog 1 72 (.slice (some ⟨W.heap.size, 0, none⟩) 8 8) 8 (u8s (bytes8 v)) (W.alloc (.cells #[x0, x1, x2, x3, x4, x5, x6, x7] 5)) := by
  rintro _ _ _ _ _ _ _ _ rfl rfl rfl rfl rfl rfl rfl rfl
  exact Src.ofSlice _ Tryz.underlying72 ⟨W.heap.size, 0, none⟩ 8 8 _ rfl (by rw [u8s_bytes8]; exact block_new _ _ _) (by rw [u8s_bytes8]; simp [Value.oneCell'])
theorem drop_wat (xs : List Nat) (j : Nat) (h : j < xs.length) : bytesW (xs.drop j) = bytesW (xs.drop (j + 1)) ++ bytes8 (wat xs j) := by
  rw [List.drop_eq_getElem_cons h, bytesW_cons]
  congr 2
  unfold wat
  rw [List.getD_eq_getElem?_getD, List.getElem?_eq_getElem h]; rfl

set_option maxHeartbeats 300000 in
set_option maxRecDepth 100000 in
theorem store_any (p : Option Addr) (xs : List Nat) (cap : Nat) (w : World) (hx : Nt w p xs) (hok : Ok xs) (hn : xs.length ≤ 131072) :
    Calls Tryz.prog 77 #[.slice p xs.length cap] w fun e w' => e = .returned (.string ⟨(be (wv xs)).toArray⟩) ∧ Below w.heap.size w w' := by
  have HX := Lib.hid hx
  clear hx
  refine (callsIn_wide (n := 4)).1 ?_
  refine callsIn_of_wp_marks Tryz.func77 rfl trivial ?_ rfl
  simp only [Tryz.ntmps77, List.size_toArray, List.length_cons, List.length_nil, Nat.reduceAdd, Nat.reduceSub, Array.replicate_succ, Array.replicate_zero, List.push_toArray, List.append_toArray, List.nil_append, List.cons_append]
  gi_wp2_with fail
  have hr0 : Room (w.alloc (.cells Tryz.zeroCells116 116)) w.heap.size 128 := room_alloc _ _ _ 128 (by kernel_rfl)
  refine ⟨trivial, ?_⟩
  rw [show (8 : Int) * (xs.length : Int) = ((8 * xs.length : Nat) : Int) by omega]
  refine (callsIn_wide.2 (growB_mem w.heap.size 128 (8 * xs.length) _ (by omega) (by omega) hr0)).mono ?_
  clear hr0
  rintro e w1 ⟨g, cap1, rfl, hcap1, hmax1, hroom1, hg1, hbel1⟩
  have HB1 := Lib.hid hbel1
  have HG1 := Lib.hid hg1
  have HR1 := Lib.hid hroom1
  have hsz1 : w.heap.size + 1 ≤ w1.heap.size := by have := hbel1.size; simp at this; omega
  clear hbel1 hg1 hroom1
  unfold maxLen at hmax1
  gi_wp2_with (refine ⟨trivial, ?_⟩; gi_at_call 84; refine (callsIn_wide.2 (backN_make _ _ _ _)).mono ?_; rintro e w' ⟨rfl, rfl⟩)
  obtain ⟨W0, hW0⟩ : ∃ W0, (w1.alloc (Obj.cells #[Value.slice (some ⟨g, 0, none⟩) 0 cap1] 72)).alloc (Obj.cells #[Value.slice p xs.length cap] 55) = W0 := ⟨_, rfl⟩
  have hz0 : W0.heap.size = w1.heap.size + 2 := by rw [← hW0]; simp
  have hb0 : Below w1.heap.size w1 W0 := by rw [← hW0]; exact ((Below.refl _ w1).alloc (Nat.le_refl _) _).alloc (by simp) _
  have hbD : Box w1.heap.size (.slice (some ⟨g, 0, none⟩) 0 cap1) W0 := by
    rw [← hW0]
    exact (box_new w1 _ _).below (B0 := w1.heap.size + 1) ((Below.refl _ _).alloc (by simp) _) (by omega)
  have hbB : Box (w1.heap.size + 1) (.slice p xs.length cap) W0 := by
    rw [← hW0]
    have := box_new (w1.alloc (Obj.cells #[Value.slice (some ⟨g, 0, none⟩) 0 cap1] 72)) (.slice p xs.length cap) 55
    simpa using this
  rw [hW0]
  refine wide_back (N := xs.length) (xv := wat xs) rfl (enters_of Tryz.func112 (by kernel_rfl) rfl) rfl
    (backN_seq _ (w1.heap.size + 1) p xs.length cap (wat xs) (by omega)) (fun o o' => ?st)
    (fun j W => Box w1.heap.size (.slice (some ⟨g, 0, none⟩) (bytesW (xs.drop j)).length cap1) W ∧ RowB W g 0 (bytesW (xs.drop j)) ∧ Room W g cap1 ∧ Box (w1.heap.size + 1) (.slice p xs.length cap) W ∧ Nt W p xs ∧ (Below w.heap.size w W ∧ W0.heap.size ≤ W.heap.size))
    (fun _ => False) ?hI (fun _ _ _ _ h _ _ => h) ?h0 ?hRd ?a1 ?assign ?body ?done ?stop
  case st => exact ((hbB.below (B0 := W0.heap.size) (((Below.refl _ W0).alloc (Nat.le_refl _) _).alloc (by simp) _) (by omega))).1
  case hI =>
    intro s A B row hs hg hr
    obtain ⟨h1, h2, h3, h4, h5, h6⟩ := hs
    have hr' : ∀ r, row = some r → ∃ o : Obj, A.heap[r]? = some o ∧ o.isCells = false := fun r e => (hr r e).2
    exact ⟨h1.kept hg hr', h2.kept hg hr', h3.kept hg hr', h4.kept hg hr', h5.kept hg hr', ownFrom_belowW w W0.heap.size w.heap.size (by omega) s A B row h6 hg hr⟩
  case h0 =>
    have e : bytesW (xs.drop xs.length) = [] := by rw [List.drop_length]; rfl
    rw [e]
    have hww : Below w.heap.size w W0 := (((Below.refl _ w).alloc (Nat.le_refl _) _).trans (HB1.out.mono (by simp))).trans (hb0.mono (by omega))
    refine ⟨hbD, fun j hj => by simp at hj, ?_, hbB, HX.out.below hww, hww, Nat.le_refl _⟩
    by_cases hc0 : 0 < cap1
    · exact HR1.out.below hb0 (room_lt HR1.out hc0)
    · intro j hj; omega
  case hRd =>
    intro j W hj hs
    obtain ⟨h1, h2, h3, h4, h5, h6⟩ := hs
    rcases h5 with h5 | ⟨b, off, rfl, h5⟩
    · exfalso; rw [h5] at hj; simp at hj
    · exact ⟨h4.1, b, off, rfl, (h5 j hj).1⟩
  case assign =>
    intro l j W K hK
    gi_wp2
    exact hK
  case body =>
    intro l j W hj hs
    obtain ⟨h1, h2, h3, h4, h5, h6⟩ := hs
    obtain ⟨v, hv⟩ : ∃ v, v = wat xs j := ⟨_, rfl⟩
    obtain ⟨L, hL⟩ : ∃ L, L = (bytesW (xs.drop (j + 1))).length := ⟨_, rfl⟩
    have hLn : L = 8 * (xs.length - (j + 1)) := by rw [hL, bytesW_length, List.length_drop]
    have hroom8 : L + 8 ≤ cap1 := by omega
    have hgl : g < w1.heap.size := room_lt HR1.out (by omega)
    have hgw : w.heap.size ≤ g := by
      rcases HG1.out with h | h
      · omega
      · rw [World.size_alloc] at h; omega
    have hc1 := h1.1
    have hf1 := h1.2
    rw [← hL] at hc1 h1
    have hxne : ∀ a, p = some a → xs ≠ [] → a.block ≠ g := fun a ha hne => by
      rcases HX.out with h | ⟨b, off, rfl, h⟩
      · exact absurd h hne
      · cases ha
        have := h.lt (List.length_pos_iff.2 hne)
        show b ≠ g
        omega
    -- what holds behind the append of the word's bytes
    have hpush : ∀ (O : Obj) (W2 : World), W2 = (W.alloc O).setCells g L (u8s (bytes8 v)) →
        (Box w1.heap.size (.slice (some ⟨g, 0, none⟩) L cap1) W2) ∧ RowB W2 g 0 (bytesW (xs.drop j)) ∧ Room W2 g cap1 ∧ Box (w1.heap.size + 1) (.slice p xs.length cap) W2 ∧ Nt W2 p xs ∧ (Below w.heap.size w W2 ∧ W0.heap.size ≤ W2.heap.size) ∧ KeepsFrom W0.heap.size W W2 := by
      rintro O W2 rfl
      have hb : Below W.heap.size W (W.alloc O) := (Below.refl _ W).alloc (Nat.le_refl _) _
      have ht := touch_setCells g (u8s (bytes8 v)) L (W.alloc O)
      have hgW : g < W.heap.size := by have := h6.2; omega
      have hDW : w1.heap.size + 1 < W.heap.size := by have := h6.2; omega
      refine ⟨(h1.below hb (by omega)).touch ht (by omega), ?_, Room.setCells _ _ _ (h3.below hb hgW) (by rw [u8s_length]; exact hroom8), (h4.below hb (by omega)).touch ht (by omega), ?_, ⟨?_, ?_⟩, ?_⟩
      · rw [drop_wat xs j hj, ← hv, hL]
        exact rowB_setCells (h2.below hb hgW) (h3.below hb hgW) (by rw [← hL]; exact hroom8)
      · by_cases hne : xs = []
        · exact .inl hne
        · exact (h5.below hb).touch ht (fun a ha => hxne a ha hne)
      · exact touch_below (h6.1.alloc (by have := h6.1.size; omega) O) ht (by have := h6.1.size; simp; omega) hgw
      · have := ht.grown.size; simp at this; have := h6.2; omega
      · exact ((KeepsOthers.alloc W O).from _).trans (keeps_setCells _ _ _ _ _)
    have hroomW : ∀ O : Obj, Room (W.alloc O) g cap1 := fun O => h3.below ((Below.refl W.heap.size W).alloc (Nat.le_refl _) O) (by have := h6.2; omega)
    have HP := Lib.hid hpush
    have HRW := Lib.hid hroomW
    have HLn := Lib.hid (And.intro hL (And.intro hLn (And.intro hgl hgw)))
    rw [← hv]
    clear hpush hroomW h1 h2 h3 h4 h5 h6 hv hL hLn hxne hgl hgw
    gi_wp2_with (gi_at_builtin; (refine wpListIn_roomW _ rfl (.tmp 16) (.tmp 40) 72 72 rfl 5 (.int .u8 0) 1 Tryz.underlying72 infoB g L cap1 rfl _ rfl 8 (u8s (bytes8 v)) (src8 _ v _ _ _ _ _ _ _ _ rfl rfl rfl rfl rfl rfl rfl rfl) hroom8 (by rw [u8s_length]; exact Nat.le_refl 8) (HRW.out _) ?_); intro W2 hW2; have HW2 := Lib.hid (HP.out _ _ hW2); clear hW2; have hc2 := HW2.out.1.1; have hf2 := HW2.out.1.2)
    obtain ⟨p1, p2, p3, p4, p5, p6, p7⟩ := HW2.out
    obtain ⟨e1, e2, e3, e4⟩ := HLn.out
    have e5 : (bytesW (xs.drop j)).length = L + 8 := by rw [bytesW_length, List.length_drop]; omega
    refine ⟨p7.trans ((KeepsOthers.setCell _ _ _).from _), ?_, p2.other (by omega), p3.other (by omega), p4.other (by omega), p5.other (fun a ha hne => ?_), p6.1.setCell (by show w.heap.size ≤ w1.heap.size; omega) _, by simp [World.setCell]; exact p6.2⟩
    · rw [e5]; exact p1.set _
    · rcases HX.out with h | ⟨b, off, rfl, h⟩
      · exact absurd h hne
      · cases ha
        have := h.lt (List.length_pos_iff.2 hne)
        show b ≠ w1.heap.size
        omega
  case done =>
    intro D W hD hs hK
    obtain ⟨h1, h2, h3, h4, h5, h6⟩ := hs
    rw [List.drop_zero] at h1 h2
    have hc1 := h1.1
    have htb := trimB_any g 0 cap1 (bytesW xs) W h2 (by rw [bytesW_length]; exact hcap1) (by unfold maxLen; exact hmax1)
    have hnil := Lib.run_convert_nil_bytes (P := Tryz.prog) W 72 9 5 0 Tryz.underlying72 Tryz.underlying5 Tryz.underlying9
    have hbe : strip (bytesW xs) = be (wv xs) := by rw [strip_be, bytesW_val xs hok]
    have hsome : ∀ k c : Nat, (bytesW xs).drop k = strip (bytesW xs) → k < (bytesW xs).length →
        (convert 72 9 (.slice (some ⟨g, k, none⟩) ((bytesW xs).length - k) c)).run Tryz.prog W = .ok (.string ⟨(be (wv xs)).toArray⟩) W := fun k c hk hlt => by
      have h := run_convert_bytes_back (P := Tryz.prog) W 72 9 5 ⟨g, k, none⟩ c ((bytesW xs).drop k) Tryz.underlying72 Tryz.underlying5 Tryz.underlying9
        (fun i hi => by
          rw [Addr.add_lit]
          rw [List.length_drop] at hi
          have := (h2 (k + i) (by omega)).1
          rw [Nat.zero_add] at this
          rw [this]
          congr 2
          rw [List.getElem_drop, List.getD_eq_getElem?_getD, List.getElem?_eq_getElem (by omega)]; rfl)
      rw [List.length_drop] at h
      rw [h, hk, hbe]
    have HT := Lib.hid htb
    have HS := Lib.hid h6
    have HK := Lib.hid hK
    have HBE := Lib.hid hbe
    have HSO := Lib.hid hsome
    have fin : ∀ s : ByteArray, s = ⟨(be (wv xs)).toArray⟩ → Ending.returned (.string s) = .returned (.string ⟨(be (wv xs)).toArray⟩) := fun s h => by rw [h]
    have FIN := Lib.hid fin
    have hend : ∀ D', Below w.heap.size w (W.putObj D (.deferred D')) := fun D' => h6.1.trans (belowK_b (w := W0) (by omega) W D _ _ hD hK rfl rfl)
    have HEND := Lib.hid hend
    clear h1 h2 h3 h4 h5 h6 hK htb hbe hsome fin hend
    gi_wp2_with (refine ⟨trivial, ?_⟩; gi_at_call 108; refine (callsIn_wide.2 HT.out).mono ?_; rintro e w' ⟨rfl, (⟨hs, rfl⟩ | ⟨k, c, q1, q2, q3, q4, rfl⟩)⟩)
    · have hs' := HBE.out
      rw [hs] at hs'
      have HS2 := Lib.hid hs'
      clear hs'
      refine ⟨by simp, .inl ⟨_, _, rfl, run_takeDeferred HK.out, ?_⟩⟩
      refine ⟨_, results_tmp rfl _ _ _, ?_, HEND.out _⟩
      show Ending.returned (.string ⟨#[]⟩) = _
      exact FIN.out _ (by rw [← HS2.out])
    · have hc2 := HSO.out k c q2 q1
      rw [hc2]
      clear hc2
      gi_wp2_with fail
      refine ⟨by simp, .inl ⟨_, _, rfl, run_takeDeferred HK.out, ?_⟩⟩
      exact ⟨_, results_tmp rfl _ _ _, rfl, HEND.out _⟩
  case stop =>
    intro D W hD hs hK
    exact hs.elim
end Go.Proofs.YtmbnkokcpmkpgaaGreatDoor
