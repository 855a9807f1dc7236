/- The contract of rational's continued. -/
import Derived.Test.YtpdhffjdgnpikaaGreatDoorRatLaw
namespace Go.Proofs.YtpdhffjdgnpikaaGreatDoor
open Go.RowKit Go.Shelf

set_option maxHeartbeats 4000000 in
set_option maxRecDepth 100000 in
theorem continued_qt {nx ny nt ne nf nu nv np nq : Bool} {sx sy st se sf su sv sp sq : ByteArray} {x y t e f : Int}
    (hx : Val nx sx x) (hy : Val ny sy y) (ht : Val nt st t) (he : Val ne se e) (hf : Val nf sf f) (mu : Nam nu su (t * x)) (mv : Nam nv sv (t * y)) (zu : su.size ≤ 262144) (zv : sv.size ≤ 262144) (mp : Nam np sp (t * x + e)) (mq : Nam nq sq (t * y + f)) (w : World) :
    Calls Tryz.prog 126 #[.agg #[.bool nx, .string sx, .bool ny, .string sy], .agg #[.bool nt, .string st], .agg #[.bool ne, .string se, .bool nf, .string sf]] w fun e w' => e = .returned (.agg #[.bool np, .string sp, .bool nq, .string sq]) ∧ Below w.heap.size w w' := by
  have R1 := Lib.hid (mul_val ht hx rfl mu)
  have R2 := Lib.hid (add_val (nam_val mu zu) he rfl mp)
  have R3 := Lib.hid (mul_val ht hy rfl mv)
  have R4 := Lib.hid (add_val (nam_val mv zv) hf rfl mq)
  clear hx hy ht he hf mu mv mp mq zu zv
  go_enter Tryz.func126, Tryz.ntmps126
  go_wp2_with fail
  obtain ⟨W0, hW0⟩ : ∃ V, ((((w.alloc (Obj.cells #[Value.bool nx, Value.string sx, Value.bool ny, Value.string sy] 60)).alloc (Obj.cells #[Value.bool nt, Value.string st] 23)).alloc (Obj.cells #[Value.bool ne, Value.string se, Value.bool nf, Value.string sf] 60)).alloc (Obj.cells #[Value.bool false, Value.string ⟨#[]⟩, Value.bool false, Value.string ⟨#[]⟩] 60)) = V := ⟨_, rfl⟩
  have sW0 : W0.heap.size = w.heap.size + 1 + 1 + 1 + 1 := by rw [← hW0]; simp
  have k0 : Cells (w.heap.size) [.bool nx, .string sx, .bool ny, .string sy] W0 := by
    rw [← hW0]
    have h := cells_new w #[.bool nx, .string sx, .bool ny, .string sy] 60
    exact (((h.alloc (by simp; try omega) _).alloc (by simp; try omega) _).alloc (by simp; try omega) _)
  have k1 : Cells (w.heap.size + 1) [.bool nt, .string st] W0 := by
    rw [← hW0]
    have h := cells_new (w.alloc (Obj.cells #[Value.bool nx, Value.string sx, Value.bool ny, Value.string sy] 60)) #[.bool nt, .string st] 23
    simp only [World.size_alloc] at h
    exact ((h.alloc (by simp; try omega) _).alloc (by simp; try omega) _)
  have k2 : Cells (w.heap.size + 1 + 1) [.bool ne, .string se, .bool nf, .string sf] W0 := by
    rw [← hW0]
    have h := cells_new ((w.alloc (Obj.cells #[Value.bool nx, Value.string sx, Value.bool ny, Value.string sy] 60)).alloc (Obj.cells #[Value.bool nt, Value.string st] 23)) #[.bool ne, .string se, .bool nf, .string sf] 60
    simp only [World.size_alloc] at h
    exact (h.alloc (by simp; try omega) _)
  have k3 : Cells (w.heap.size + 1 + 1 + 1) [.bool false, .string ⟨#[]⟩, .bool false, .string ⟨#[]⟩] W0 := by
    rw [← hW0]
    have h := cells_new (((w.alloc (Obj.cells #[Value.bool nx, Value.string sx, Value.bool ny, Value.string sy] 60)).alloc (Obj.cells #[Value.bool nt, Value.string st] 23)).alloc (Obj.cells #[Value.bool ne, Value.string se, Value.bool nf, Value.string sf] 60)) #[.bool false, .string ⟨#[]⟩, .bool false, .string ⟨#[]⟩] 60
    simp only [World.size_alloc] at h
    exact h
  have bW0 : Below w.heap.size w W0 := by
    rw [← hW0]
    exact (((((Below.refl _ _).alloc (Nat.le_refl _) _).alloc (by simp; try omega) _).alloc (by simp; try omega) _).alloc (by simp; try omega) _)
  rw [hW0]
  clear hW0
  have l0 := k0.lt
  have m00 := (k0 0 _ rfl).1
  have m01 := (k0 1 _ rfl).1
  have m02 := (k0 2 _ rfl).1
  have m03 := (k0 3 _ rfl).1
  have l1 := k1.lt
  have m10 := (k1 0 _ rfl).1
  have m11 := (k1 1 _ rfl).1
  have l2 := k2.lt
  have m20 := (k2 0 _ rfl).1
  have m21 := (k2 1 _ rfl).1
  have m22 := (k2 2 _ rfl).1
  have m23 := (k2 3 _ rfl).1
  have l3 := k3.lt
  have HQ := Lib.hid (And.intro bW0 (And.intro k0 (And.intro k1 (And.intro k2 k3))))
  clear bW0 sW0 k0 k1 k2 k3
  have tok1 : True := trivial
  have tok2 : True := trivial
  have tok3 : True := trivial
  have tok4 : True := trivial
  have hRb : w.heap.size + 1 + 1 + 1 ≤ W0.heap.size := by omega
  go_region_held3 (fun w' => ∀ (a o : Nat), a < w.heap.size + 1 + 1 + 1 → w'.cell? ⟨a, o, none⟩ = W0.cell? ⟨a, o, none⟩) (first | with_reducible assumption | (intro _ _ _; rfl) | (repeat' (first | with_reducible assumption | with_reducible exact keepN_refl _ _ | with_reducible (refine keepN_drew ?_) | with_reducible (refine keepN_set ?_ ?_) | with_reducible (refine keepN_alloc ?_ ?_) | exact Nat.le_refl _ | omega | (intro _ _ _; rfl))))
    (first | (go_at_call 118; have _t := tok1; clear tok1; refine (R1.out _).mono ?_; rintro e u1 ⟨rfl, d1⟩; have E1 := Lib.hid (d1); have kS1 : ∀ (a o : Nat), a < w.heap.size + 1 + 1 + 1 → u1.cell? ⟨a, o, none⟩ = W0.cell? ⟨a, o, none⟩ := fun a o h => E1.out.cell (p := ⟨a, o, none⟩) (Nat.lt_of_lt_of_le h hRb); have hz1 : W0.heap.size ≤ u1.heap.size := E1.out.size; clear d1) | (go_at_call 117; have _t := tok2; clear tok2; refine (R2.out _).mono ?_; rintro e u2 ⟨rfl, d2⟩; have E2 := Lib.hid (E1.out.trans (d2.mono E1.out.size)); have kS2 : ∀ (a o : Nat), a < w.heap.size + 1 + 1 + 1 → u2.cell? ⟨a, o, none⟩ = W0.cell? ⟨a, o, none⟩ := fun a o h => E2.out.cell (p := ⟨a, o, none⟩) (Nat.lt_of_lt_of_le h hRb); have hz2 : W0.heap.size ≤ u2.heap.size := E2.out.size; clear d2) | (go_at_call 118; have _t := tok3; clear tok3; refine (R3.out _).mono ?_; rintro e u3 ⟨rfl, d3⟩; have E3 := Lib.hid (E2.out.trans (d3.mono E2.out.size)); have kS3 : ∀ (a o : Nat), a < w.heap.size + 1 + 1 + 1 → u3.cell? ⟨a, o, none⟩ = W0.cell? ⟨a, o, none⟩ := fun a o h => E3.out.cell (p := ⟨a, o, none⟩) (Nat.lt_of_lt_of_le h hRb); have hz3 : W0.heap.size ≤ u3.heap.size := E3.out.size; clear d3) | (go_at_call 117; have _t := tok4; clear tok4; refine (R4.out _).mono ?_; rintro e u4 ⟨rfl, d4⟩; have E4 := Lib.hid (E3.out.trans (d4.mono E3.out.size)); have kS4 : ∀ (a o : Nat), a < w.heap.size + 1 + 1 + 1 → u4.cell? ⟨a, o, none⟩ = W0.cell? ⟨a, o, none⟩ := fun a o h => E4.out.cell (p := ⟨a, o, none⟩) (Nat.lt_of_lt_of_le h hRb); have hz4 : W0.heap.size ≤ u4.heap.size := E4.out.size; clear d4; have kR := (show Cells _ _ W0.drew from HQ.out.2.2.2.2).below E4.out l3; obtain ⟨r00, r01⟩ := kR 0 _ rfl; obtain ⟨r10, r11⟩ := kR 1 _ rfl; obtain ⟨r20, r21⟩ := kR 2 _ rfl; obtain ⟨r30, r31⟩ := kR 3 _ rfl; clear kR))
  have kF0 := (show Cells _ _ W0.drew from HQ.out.2.2.2.2).below E4.out l3
  have kF1 := kF0.set (k := 0) (Value.bool np) _ rfl
  have kF2 := kF1.set (k := 1) (Value.string sp) _ rfl
  have kF3 := kF2.set (k := 2) (Value.bool nq) _ rfl
  have kF4 := kF3.set (k := 3) (Value.string sq) _ rfl
  have y0 := (kF4 0 _ rfl).1
  have y1 := (kF4 1 _ rfl).1
  have y2 := (kF4 2 _ rfl).1
  have y3 := (kF4 3 _ rfl).1
  have hbf := HQ.out.1.trans ((((Below.refl W0.heap.size W0).drew).trans E4.out).mono HQ.out.1.size)
  have hbg := (below_sets (below_sets (below_sets (below_sets hbf (show w.heap.size ≤ w.heap.size + 1 + 1 + 1 by omega) 0 (Value.bool np)) (show w.heap.size ≤ w.heap.size + 1 + 1 + 1 by omega) 1 (Value.string sp)) (show w.heap.size ≤ w.heap.size + 1 + 1 + 1 by omega) 2 (Value.bool nq)) (show w.heap.size ≤ w.heap.size + 1 + 1 + 1 by omega) 3 (Value.string sq))
  have HBG := Lib.hid hbg
  clear hbg hbf kF0 kF1 kF2 kF3 kF4
  go_wp2_with fail
  refine bodyPost_ret (v := .agg #[.bool np, .string sp, .bool nq, .string sq]) (by simp [results, Tryz.results126, go_sem, y0, y1, y2, y3]) rfl ⟨rfl, HBG.out⟩

end Go.Proofs.YtpdhffjdgnpikaaGreatDoor
