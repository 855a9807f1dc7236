/- The contract of bigint.Mul. -/
import Derived.Test.YtmbnkokcpmkpgaaGreatDoorSigned
namespace Go.Proofs.YtmbnkokcpmkpgaaGreatDoor
open Go.RowKit

theorem nw_be_length (l : List UInt8) : (nw (beVal l)).length ≤ (l.length + 7) / 8 := by
  obtain ⟨h1, h2, h3⟩ := wv_ld l
  rw [← h1, ← take_trimW _ h2, List.length_take, ← h3]; omega
theorem nw_mul_length (m n : Nat) : (nw (m * n)).length ≤ (nw m).length + (nw n).length := by
  apply nw_length_le
  have h1 := wv_lt (nw m) (nw_ok m)
  have h2 := wv_lt (nw n) (nw_ok n)
  rw [wv_nw] at h1 h2
  rw [Nat.pow_add]
  rcases Nat.eq_zero_or_pos n with h0 | h0
  · rw [h0, Nat.mul_zero]; exact Nat.mul_pos (Nat.pow_pos (by omega)) (Nat.pow_pos (by omega))
  · exact Nat.mul_lt_mul'' h1 h2
theorem mul_sign (na nb : Bool) (sa sb : ByteArray) : (if (na != nb) = true then -((beVal sa.data.toList * beVal sb.data.toList : Nat) : Int) else ((beVal sa.data.toList * beVal sb.data.toList : Nat) : Int)) = ival na sa * ival nb sb := by
  unfold ival
  cases na <;> cases nb <;> simp [Int.neg_mul, Int.mul_neg]

/-- What a call of load gives to whoever calls it: the words, in a block that is the memory passed or a new one. -/
theorem loaded_row {w w' : World} {b n : Nat} {e : Ending} (h : Loaded w b n e w') : ∃ g cap, e = .returned (.slice (some ⟨g, 0, none⟩) (nw n).length cap) ∧ Row w' g 0 (nw n) ∧ (g = b ∨ w.heap.size ≤ g) ∧ w.grownBy w' (some b) := by
  obtain ⟨g, cap, h1, _, _, h4, h5, h6⟩ := h
  exact ⟨g, cap, h1, h4, h5, h6⟩
theorem Row.grown {w w' : World} {b off r : Nat} {xs : List Nat} (h : Row w b off xs) (hg : w.grownBy w' (some r)) (hne : b ≠ r) : Row w' b off xs := fun j hj => by
  have hlt := h.lt (by omega)
  have hb := hg.block b hlt (fun e => hne (Option.some.inj e))
  rw [World.cell?_of_block (w := w) (a := ⟨b, off + j, none⟩) hb, World.frozen?_of_block (w := w) (a := ⟨b, off + j, none⟩) hb]
  exact h j hj
theorem Two.grown {W W' : World} {B r : Nat} {x y : Value} (h : Two B x y W) (hg : W.grownBy W' (some r)) (hne : B ≠ r) : Two B x y W' := by
  have hb := hg.block B h.lt (fun e => hne (Option.some.inj e))
  exact ⟨⟨(World.cell?_of_block (w := W) (a := ⟨B, 0, none⟩) hb).trans h.1.1, (World.frozen?_of_block (w := W) (a := ⟨B, 0, none⟩) hb).trans h.1.2⟩, ⟨(World.cell?_of_block (w := W) (a := ⟨B, 1, none⟩) hb).trans h.2.1, (World.frozen?_of_block (w := W) (a := ⟨B, 1, none⟩) hb).trans h.2.2⟩⟩
theorem Room.grown {W W' : World} {g cap r : Nat} (h : Room W g cap) (hg : W.grownBy W' (some r)) (hne : g ≠ r) : Room W' g cap := fun j hj => by
  have hlt := room_lt h (by omega)
  have hb := hg.block g hlt (fun e => hne (Option.some.inj e))
  rw [World.cell?_of_block (w := W) (a := ⟨g, j, none⟩) hb, World.frozen?_of_block (w := W) (a := ⟨g, j, none⟩) hb]
  exact h j hj

set_option maxHeartbeats 200000 in
set_option maxRecDepth 100000 in
theorem mul_any (na nb : Bool) (sa sb : ByteArray) (w : World) (ha : sa.size ≤ 262144) (hb : sb.size ≤ 262144) :
    Calls Tryz.prog 32 #[.agg #[.bool na, .string sa], .agg #[.bool nb, .string sb]] w (IntRes w (ival na sa * ival nb sb)) := by
  go_enter Tryz.func32, Tryz.ntmps32
  go_wp2_with fail
  -- the world in which the operands are loaded, by what holds of it
  obtain ⟨zs, hzs⟩ : ∃ zs : Array Value, #[Value.int .u64 0, .int .u64 0, .int .u64 0, .int .u64 0, .int .u64 0, .int .u64 0, .int .u64 0, .int .u64 0, .int .u64 0, .int .u64 0, .int .u64 0, .int .u64 0, .int .u64 0, .int .u64 0, .int .u64 0, .int .u64 0] = zs := ⟨_, rfl⟩
  have hz16 : zs.size = 16 := by rw [← hzs]; rfl
  rw [hzs]
  obtain ⟨W0, hW0⟩ : ∃ W0, ((((w.alloc (Obj.cells #[Value.bool na, Value.string sa] 23)).alloc (Obj.cells #[Value.bool nb, Value.string sb] 23)).alloc (Obj.cells #[Value.bool false, Value.string ⟨#[]⟩] 23)).alloc (Obj.cells zs 60)).alloc (Obj.cells zs 60) = W0 := ⟨_, rfl⟩
  have hs0 : W0.heap.size = w.heap.size + 1 + 1 + 1 + 1 + 1 := by rw [← hW0]; simp
  have tA : Two w.heap.size (.bool na) (.string sa) W0 := by
    rw [← hW0]
    exact (two_new w _ _ _).below (B0 := w.heap.size + 1) (((((Below.refl _ _).alloc (by simp) _).alloc (by simp) _).alloc (by simp) _).alloc (by simp) _) (by omega)
  have tB : Two (w.heap.size + 1) (.bool nb) (.string sb) W0 := by
    rw [← hW0]
    have h := two_new (w.alloc (Obj.cells #[Value.bool na, Value.string sa] 23)) (.bool nb) (.string sb) 23
    rw [World.size_alloc] at h
    exact h.below (B0 := w.heap.size + 1 + 1) ((((Below.refl _ _).alloc (by simp) _).alloc (by simp) _).alloc (by simp) _) (by omega)
  have tR : Two (w.heap.size + 1 + 1) (.bool false) (.string ⟨#[]⟩) W0 := by
    rw [← hW0]
    have h := two_new ((w.alloc (Obj.cells #[Value.bool na, Value.string sa] 23)).alloc (Obj.cells #[Value.bool nb, Value.string sb] 23)) (.bool false) (.string ⟨#[]⟩) 23
    rw [World.size_alloc, World.size_alloc] at h
    exact h.below (B0 := w.heap.size + 1 + 1 + 1) (((Below.refl _ _).alloc (by simp) _).alloc (by simp) _) (by omega)
  have rL : Room W0 (w.heap.size + 1 + 1 + 1) 16 := by
    rw [← hW0]
    have h := room_alloc (((w.alloc (Obj.cells #[Value.bool na, Value.string sa] 23)).alloc (Obj.cells #[Value.bool nb, Value.string sb] 23)).alloc (Obj.cells #[Value.bool false, Value.string ⟨#[]⟩] 23)) zs 60 16 hz16
    rw [World.size_alloc, World.size_alloc, World.size_alloc] at h
    exact h.below (B := w.heap.size + 1 + 1 + 1 + 1) ((Below.refl _ _).alloc (by simp) _) (by omega)
  have rR : Room W0 (w.heap.size + 1 + 1 + 1 + 1) 16 := by
    rw [← hW0]
    have h := room_alloc ((((w.alloc (Obj.cells #[Value.bool na, Value.string sa] 23)).alloc (Obj.cells #[Value.bool nb, Value.string sb] 23)).alloc (Obj.cells #[Value.bool false, Value.string ⟨#[]⟩] 23)).alloc (Obj.cells zs 60)) zs 60 16 hz16
    rw [World.size_alloc, World.size_alloc, World.size_alloc, World.size_alloc] at h
    exact h
  have b0 : Below w.heap.size w W0 := by
    rw [← hW0]
    exact (((((Below.refl _ _).alloc (Nat.le_refl _) _).alloc (by simp) _).alloc (by simp; omega) _).alloc (by simp; omega) _).alloc (by simp; omega) _
  rw [hW0]
  have kA := tA.2.1
  have kB := tB.2.1
  have hsd : W0.drew.heap.size = w.heap.size + 1 + 1 + 1 + 1 + 1 := hs0
  have tA' : Two w.heap.size (.bool na) (.string sa) W0.drew := tA
  have tB' : Two (w.heap.size + 1) (.bool nb) (.string sb) W0.drew := tB
  have tR' : Two (w.heap.size + 1 + 1) (.bool false) (.string ⟨#[]⟩) W0.drew := tR
  have rL' : Room W0.drew (w.heap.size + 1 + 1 + 1) 16 := rL
  have rR' : Room W0.drew (w.heap.size + 1 + 1 + 1 + 1) 16 := rR
  have H0 := Lib.hid (And.intro tA' (And.intro tB' (And.intro tR' (And.intro rL' (And.intro rR' (And.intro b0.drew hsd))))))
  clear tA tB tR rL rR tA' tB' tR' rL' rR' b0 hs0 hsd hW0 hzs hz16
  have tok1 : True := trivial
  go_region_held3 (fun w' => w'.cell? ⟨w.heap.size, 1, none⟩ = some (.string sa) ∧ w'.cell? ⟨w.heap.size + 1, 1, none⟩ = some (.string sb)) (go_keep)
    (first | (go_at_call 58; have _t := tok1; clear tok1; refine (load_any (w.heap.size + 1 + 1 + 1) sa _ (by omega) H0.out.2.2.2.1).mono ?_; intro e wL hL; obtain ⟨gL, capL, rfl, rowL, hgL, hgrL⟩ := loaded_row hL; have H1 := Lib.hid (And.intro rowL (And.intro hgL hgrL)); have kA1 := ((H0.out.1.grown hgrL (by omega)).2.1); have kB1 := ((H0.out.2.1.grown hgrL (by omega)).2.1); clear hL rowL hgL hgrL) | (go_at_call 58; refine (load_any (w.heap.size + 1 + 1 + 1 + 1) sb _ (by omega) (H0.out.2.2.2.2.1.grown H1.out.2.2 (by omega))).mono ?_; intro e wR hR; obtain ⟨gR, capR, rfl, rowR, hgR, hgrR⟩ := loaded_row hR; have H2 := Lib.hid (And.intro rowR (And.intro hgR hgrR)); have kA2 := (((H0.out.1.grown H1.out.2.2 (by omega)).grown hgrR (by omega)).2.1); have kB2 := (((H0.out.2.1.grown H1.out.2.2 (by omega)).grown hgrR (by omega)).2.1); clear hR rowR hgR hgrR))
  have h1 := H1.out
  have h2 := H2.out
  have h0 := H0.out
  obtain ⟨cA, cB, cR, _, _, cb, cs⟩ := h0
  have gLne : gL ≠ w.heap.size + 1 + 1 + 1 + 1 := by rcases h1.2.1 with h | h <;> omega
  have gLge : w.heap.size ≤ gL := by rcases h1.2.1 with h | h <;> omega
  have rowL2 := h1.1.grown h2.2.2 gLne
  have rowR2 := h2.1
  have cA2 := (cA.grown h1.2.2 (by omega)).grown h2.2.2 (by omega)
  have cB2 := (cB.grown h1.2.2 (by omega)).grown h2.2.2 (by omega)
  have cR2 := (cR.grown h1.2.2 (by omega)).grown h2.2.2 (by omega)
  have cb2 : Below w.heap.size w wR := (cb.grown h1.2.2 (by omega) (fun k e => by cases e; omega)).grown h2.2.2 (by have := h1.2.2.size; omega) (fun k e => by cases e; omega)
  have cz2 : w.heap.size + 1 + 1 + 1 + 1 + 1 ≤ wR.heap.size := by have := h1.2.2.size; have := h2.2.2.size; omega
  obtain ⟨sg, hsg⟩ : ∃ sg, (!(na == nb)) = sg := ⟨_, rfl⟩
  have kA := cA2.1.1
  have kB := cB2.1.1
  have hla := nw_be_length sa.data.toList
  have hlb := nw_be_length sb.data.toList
  rw [← Lib.size_eq] at hla hlb
  have hms := mul_sign na nb sa sb
  rw [show (na != nb) = sg from hsg] at hms
  obtain ⟨m, hm⟩ : ∃ m, m = beVal sa.data.toList := ⟨_, rfl⟩
  obtain ⟨n, hn⟩ : ∃ n, n = beVal sb.data.toList := ⟨_, rfl⟩
  rw [← hm] at hla hms rowL2
  rw [← hn] at hlb hms rowR2
  rw [← hm, ← hn]
  have rowL3 : Row wR.drew gL 0 (nw m) := rowL2
  have rowR3 : Row wR.drew gR 0 (nw n) := rowR2
  have hpr := product_any (some ⟨gL, 0, none⟩) (some ⟨gR, 0, none⟩) capL capR (nw m) (nw n) wR.drew (.inr ⟨_, _, rfl, rowL3⟩) (.inr ⟨_, _, rfl, rowR3⟩) (by omega) (by omega) (nw_ok _) (nw_ok _)
  rw [wv_nw, wv_nw] at hpr
  have HPR := Lib.hid hpr
  have hml := nw_mul_length m n
  have cA3 : Two w.heap.size (.bool na) (.string sa) wR.drew := cA2
  have cB3 : Two (w.heap.size + 1) (.bool nb) (.string sb) wR.drew := cB2
  have cR3 : Two (w.heap.size + 1 + 1) (.bool false) (.string ⟨#[]⟩) wR.drew := cR2
  have cz3 : w.heap.size + 1 + 1 + 1 + 1 + 1 ≤ wR.drew.heap.size := cz2
  have H3 := Lib.hid (And.intro cA3 (And.intro cB3 (And.intro cR3 (And.intro cb2.drew cz3))))
  have H4 := Lib.hid (And.intro hla (And.intro hlb hml))
  obtain ⟨z, hz⟩ : ∃ z, ival na sa * ival nb sb = z := ⟨_, rfl⟩
  rw [hz] at hms
  have HZ := Lib.hid hz
  have H5 := Lib.hid hms
  clear h1 h2 cA cB cR cb cs gLne gLge rowL2 rowR2 rowL3 rowR3 cA2 cB2 cR2 cb2 cz2 cA3 cB3 cR3 cz3 hla hlb hml hms hm hn hz hpr H0 H1 H2 kA1 kB1 kA2 kB2
  go_wp2_with fail
  have ne0 : ¬ (w.heap.size + 1 + 1 = w.heap.size) := by omega
  go_region_held3 (fun w' => w'.cell? ⟨w.heap.size, 0, none⟩ = some (.bool na) ∧ w'.cell? ⟨w.heap.size + 1, 0, none⟩ = some (.bool nb)) (go_keep)
    (first | (go_at_call 64; refine HPR.out.mono ?_; intro e wP hP; obtain ⟨gP, capP, rfl, _, _, rowP, gPge, bP⟩ := hP; have H6 := Lib.hid (And.intro rowP (And.intro gPge bP)); have kA3 := (H3.out.1.below bP (by have := H3.out.2.2.2.2; omega)).1.1; have kB3 := (H3.out.2.1.below bP (by have := H3.out.2.2.2.2; omega)).1.1; clear rowP gPge bP) | (go_at_call 50; have hsn := signed_nat sg (some ⟨gP, 0, none⟩) (m * n) capP wP (.inr ⟨_, _, rfl, H6.out.1⟩) (by have := H4.out; omega); rw [H5.out] at hsn; refine hsn.mono ?_; clear hsn; intro e wS hS; obtain ⟨he, bS⟩ := hS; subst he; have H7 := Lib.hid bS; have kA4 := ((H3.out.1.below H6.out.2.2 (by have := H3.out.2.2.2.2; omega)).below bS (by have := H3.out.2.2.2.2; have := H6.out.2.2.size; omega)).1.1; have kB4 := ((H3.out.2.1.below H6.out.2.2 (by have := H3.out.2.2.2.2; omega)).below bS (by have := H3.out.2.2.2.2; have := H6.out.2.2.size; omega)).1.1; have kR4 := ((H3.out.2.2.1.below H6.out.2.2 (by have := H3.out.2.2.2.2; omega)).below bS (by have := H3.out.2.2.2.2; have := H6.out.2.2.size; omega)); obtain ⟨⟨r1, r2⟩, r3, r4⟩ := kR4; clear bS))
  have hsz := H3.out.2.2.2.2
  have hbw := H3.out.2.2.2.1
  have hbP := H6.out.2.2
  have hbS := H7.out
  have hsP := hbP.size
  have hbel : Below w.heap.size w ((wS.setCell ⟨w.heap.size + 1 + 1, 0, none⟩ (.bool (ng z))).setCell ⟨w.heap.size + 1 + 1, 1, none⟩ (.string (mg z))) :=
    (((hbw.trans (hbP.mono (by omega))).trans (hbS.mono (by omega))).setCell (by show w.heap.size ≤ w.heap.size + 1 + 1; omega) _).setCell (by show w.heap.size ≤ w.heap.size + 1 + 1; omega) _
  have HBEL := Lib.hid hbel
  clear hsz hbw hbP hbS hsP hbel
  go_wp2_with fail
  refine bodyPost_ret (v := .agg #[.bool (ng z), .string (mg z)]) (by simp [results, Tryz.results32, go_sem, r1, r3]) rfl ?_
  rw [HZ.out]
  exact ⟨rfl, HBEL.out⟩
end Go.Proofs.YtmbnkokcpmkpgaaGreatDoor
