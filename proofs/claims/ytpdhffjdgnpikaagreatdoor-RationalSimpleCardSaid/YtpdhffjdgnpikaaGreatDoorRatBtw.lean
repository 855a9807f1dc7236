/- The contract of rational.between. -/
import Derived.Test.YtpdhffjdgnpikaaGreatDoorRatCont
import Derived.Deep.LoopGhost
namespace Go.Proofs.YtpdhffjdgnpikaaGreatDoor
open Go.RowKit Go.Shelf

theorem isDiv_nat (n d : Nat) (hd : 0 < d) : IsDiv (n : Int) (d : Int) ((n / d : Nat) : Int) ((n % d : Nat) : Int) := by
  have h := isDiv_floor (n : Int) d hd
  rwa [← Int.natCast_ediv, ← Int.natCast_emod] at h
theorem eqI_zero {b : Bool} {s : ByteArray} {z : Int} (h : Nam b s z) : eqI b s false ⟨#[]⟩ = decide (z = 0) := by
  obtain ⟨rfl, rfl⟩ := h
  exact eqI_ints z 0
theorem eqI_nam {b c : Bool} {s u : ByteArray} {z y : Int} (h : Nam b s z) (h' : Nam c u y) : eqI b s c u = decide (z = y) := by
  obtain ⟨rfl, rfl⟩ := h
  obtain ⟨rfl, rfl⟩ := h'
  exact eqI_ints z y
theorem nam_of {b : Bool} {s : ByteArray} {x M m : Nat} (h : Nam b s (x : Int)) (hx : x ≤ M) (hM : M < 256 ^ m) (hm : m ≤ 100000) : Val b s (x : Int) :=
  h.val (k := m) (show ((x : Nat) : Int).natAbs < _ by rw [Int.natAbs_natCast]; omega) (by omega)
/-- The arithmetic of between's loop. -/
structure Btw (P Q M k n1 d1 n2 d2 vn vd en ed p q : Nat) : Prop where
  mes : d1 + d2 ≤ k
  p1 : 0 < d1
  p2 : 0 < d2
  p3 : 0 < n1
  le : n1 * d2 ≤ n2 * d1
  sim : Simple n1 d1 n2 d2 p q
  num : P = vn * p + en * q
  den : Q = vd * p + ed * q
  b1 : n1 ≤ M
  b2 : d1 ≤ M
  b3 : n2 ≤ M
  b4 : d2 ≤ M
  b5 : vn ≤ M
  b6 : vd ≤ M
  b7 : en ≤ M
  b8 : ed ≤ M
  b9 : P ≤ M
  b10 : Q ≤ M
theorem Btw.step {P Q M k n1 d1 n2 d2 vn vd en ed p q : Nat} (h : Btw P Q M k n1 d1 n2 d2 vn vd en ed p q) (hr : ¬ n1 % d1 = 0) (hc : n1 / d1 = n2 / d2) :
    (∃ p' q', Btw P Q M (n2 % d2 + n1 % d1) d2 (n2 % d2) d1 (n1 % d1) (n1 / d1 * vn + en) (n1 / d1 * vd + ed) vn vd p' q') ∧ n2 % d2 + n1 % d1 < k := by
  have m1 := Nat.mod_lt n1 h.p1
  have m2 := Nat.mod_lt n2 h.p2
  have hm := h.mes
  refine ⟨?_, by omega⟩
  obtain ⟨hp, hl⟩ := simple_pair h.p1 h.p2 h.le hr hc
  obtain ⟨p', q', hs⟩ := simple_ex _ d2 (n2 % d2) d1 (n1 % d1) (Nat.le_refl _) hp (by omega) h.p2 hl
  obtain ⟨e1, e2⟩ := h.sim.same (simple_step h.p1 h.p2 hr hc hs)
  have hnum := h.num
  have hden := h.den
  rw [e1, e2] at hnum hden
  have p0 := hs.p0
  have f1 : P = (n1 / d1 * vn + en) * p' + vn * q' := by rw [hnum]; grind
  have f2 : Q = (n1 / d1 * vd + ed) * p' + vd * q' := by rw [hden]; grind
  have g1 : n1 / d1 * vn + en ≤ (n1 / d1 * vn + en) * p' := Nat.le_mul_of_pos_right _ p0
  have g2 : n1 / d1 * vd + ed ≤ (n1 / d1 * vd + ed) * p' := Nat.le_mul_of_pos_right _ p0
  have h9 := h.b9
  have h10 := h.b10
  have h2 := h.b2
  have h4 := h.b4
  exact ⟨p', q', ⟨Nat.le_refl _, hp, by omega, h.p2, hl, hs, f1, f2, h4, by omega, h2, by omega, by omega, by omega, h.b5, h.b6, h9, h10⟩⟩
theorem Btw.int {P Q M k n1 d1 n2 d2 vn vd en ed p q : Nat} (h : Btw P Q M k n1 d1 n2 d2 vn vd en ed p q) (hr : n1 % d1 = 0) : P = n1 / d1 * vn + en ∧ Q = n1 / d1 * vd + ed := by
  obtain ⟨e1, e2⟩ := h.sim.same (simple_int h.p1 h.p2 h.p3 h.le hr)
  have hnum := h.num
  have hden := h.den
  rw [e1, e2] at hnum hden
  exact ⟨by rw [hnum, Nat.mul_comm vn]; omega, by rw [hden, Nat.mul_comm vd]; omega⟩
theorem Btw.next {P Q M k n1 d1 n2 d2 vn vd en ed p q : Nat} (h : Btw P Q M k n1 d1 n2 d2 vn vd en ed p q) (hr : ¬ n1 % d1 = 0) (hc : ¬ n1 / d1 = n2 / d2) : P = (n1 / d1 + 1) * vn + en ∧ Q = (n1 / d1 + 1) * vd + ed := by
  obtain ⟨e1, e2⟩ := h.sim.same (simple_next h.p1 h.p2 h.le hr hc)
  have hnum := h.num
  have hden := h.den
  rw [e1, e2] at hnum hden
  exact ⟨by rw [hnum, Nat.mul_comm vn]; omega, by rw [hden, Nat.mul_comm vd]; omega⟩
theorem cont_nat {nx ny nt ne nf np nq : Bool} {sx sy st se sf sp sq : ByteArray} {x y t e f M m P Q : Nat} (hx : Val nx sx (x : Int)) (hy : Val ny sy (y : Int)) (ht : Val nt st (t : Int)) (he : Val ne se (e : Int)) (hf : Val nf sf (f : Int))
    (bx : x ≤ M) (by' : y ≤ M) (bt : t ≤ M + 1) (hM : M < 256 ^ m) (hm : m ≤ 100000) (eP : P = t * x + e) (eQ : Q = t * y + f) (mp : Nam np sp (P : Int)) (mq : Nam nq sq (Q : Int)) (w : World) :
    Calls Tryz.prog 126 #[.agg #[.bool nx, .string sx, .bool ny, .string sy], .agg #[.bool nt, .string st], .agg #[.bool ne, .string se, .bool nf, .string sf]] w fun e w' => e = .returned (.agg #[.bool np, .string sp, .bool nq, .string sq]) ∧ Below w.heap.size w w' := by
  obtain ⟨nu, su, mu⟩ := nam_ex ((t : Int) * (x : Int))
  obtain ⟨nv, sv, mv⟩ := nam_ex ((t : Int) * (y : Int))
  subst eP
  subst eQ
  rw [Int.natCast_add, Int.natCast_mul] at mp mq
  have z : ∀ j : Nat, j ≤ M + 1 → Sz (m + 1) (j : Int) := fun j hj => by
    show ((j : Nat) : Int).natAbs < _
    rw [Int.natAbs_natCast, Nat.pow_succ]
    have : 0 < 256 ^ m := Nat.pow_pos (by omega)
    omega
  exact continued_qt hx hy ht he hf mu mv (mu.val ((z t bt).mul (z x (by omega))) (by omega)).small (mv.val ((z t bt).mul (z y (by omega))) (by omega)).small mp mq w
set_option maxHeartbeats 20000000 in
set_option maxRecDepth 100000 in
theorem between_qt {na nb nc nd nP nQ : Bool} {sa sb sc sd sP sQ : ByteArray} {n1 d1 n2 d2 P Q M m : Nat} (va : Val na sa (n1 : Int)) (vb : Val nb sb (d1 : Int)) (vc : Val nc sc (n2 : Int)) (vd : Val nd sd (d2 : Int))
    (hd1 : 0 < d1) (hd2 : 0 < d2) (hn1 : 0 < n1) (hle : n1 * d2 ≤ n2 * d1) (hS : Simple n1 d1 n2 d2 P Q) (b1 : n1 ≤ M) (b2 : d1 ≤ M) (b3 : n2 ≤ M) (b4 : d2 ≤ M) (hM : M < 256 ^ m) (hm : m ≤ 100000)
    (mP : Nam nP sP (P : Int)) (mQ : Nam nQ sQ (Q : Int)) (w : World) :
    Calls Tryz.prog 86 #[.agg #[.bool na, .string sa, .bool nb, .string sb], .agg #[.bool nc, .string sc, .bool nd, .string sd]] w fun e w' => e = .returned (.agg #[.bool nP, .string sP, .bool nQ, .string sQ]) ∧ Below w.heap.size w w' := by
  have RZ := Lib.hid (fun W => of_lit 0 false ⟨#[]⟩ rfl rfl (by omega) (by omega) W)
  have RU := Lib.hid (fun W => of_lit 1 false ⟨#[1]⟩ rfl rfl (by omega) (by omega) W)
  have HMP := Lib.hid (And.intro mP mQ)
  have HM := Lib.hid (And.intro hM hm)
  have HB0 : Btw P Q M (d1 + d2) n1 d1 n2 d2 1 0 0 1 P Q := by
    have hl := hS.least n1 d1 hd1 (Nat.le_refl _) (by rw [Nat.mul_comm n1 d2] at *; omega)
    exact ⟨Nat.le_refl _, hd1, hd2, hn1, hle, hS, by omega, by omega, b1, b2, b3, b4, by omega, by omega, by omega, by omega, by omega, by omega⟩
  have HBT := Lib.hid HB0
  have HV := Lib.hid (And.intro va (And.intro vb (And.intro vc vd)))
  clear va vb vc vd hd1 hd2 hn1 hle hS b1 b2 b3 b4 hM hm mP mQ HB0
  go_enter Tryz.func86, Tryz.ntmps86
  go_wp2_with fail
  obtain ⟨W0, hW0⟩ : ∃ V, (((w.alloc (Obj.cells #[Value.bool na, Value.string sa, Value.bool nb, Value.string sb] 60)).alloc (Obj.cells #[Value.bool nc, Value.string sc, Value.bool nd, Value.string sd] 60)).alloc (Obj.cells #[Value.bool false, Value.string ⟨#[]⟩, Value.bool false, Value.string ⟨#[]⟩] 60)) = V := ⟨_, rfl⟩
  have sW0 : W0.heap.size = w.heap.size + 1 + 1 + 1 := by rw [← hW0]; simp
  have k0 : Cells (w.heap.size) [.bool na, .string sa, .bool nb, .string sb] W0 := by
    rw [← hW0]
    have h := cells_new w #[.bool na, .string sa, .bool nb, .string sb] 60
    exact ((h.alloc (by simp; try omega) _).alloc (by simp; try omega) _)
  have k1 : Cells (w.heap.size + 1) [.bool nc, .string sc, .bool nd, .string sd] W0 := by
    rw [← hW0]
    have h := cells_new (w.alloc (Obj.cells #[Value.bool na, Value.string sa, Value.bool nb, Value.string sb] 60)) #[.bool nc, .string sc, .bool nd, .string sd] 60
    simp only [World.size_alloc] at h
    exact (h.alloc (by simp; try omega) _)
  have k2 : Cells (w.heap.size + 1 + 1) [.bool false, .string ⟨#[]⟩, .bool false, .string ⟨#[]⟩] W0 := by
    rw [← hW0]
    have h := cells_new ((w.alloc (Obj.cells #[Value.bool na, Value.string sa, Value.bool nb, Value.string sb] 60)).alloc (Obj.cells #[Value.bool nc, Value.string sc, Value.bool nd, Value.string sd] 60)) #[.bool false, .string ⟨#[]⟩, .bool false, .string ⟨#[]⟩] 60
    simp only [World.size_alloc] at h
    exact h
  have bW0 : Below w.heap.size w W0 := by
    rw [← hW0]
    exact ((((Below.refl _ _).alloc (Nat.le_refl _) _).alloc (by simp; try omega) _).alloc (by simp; try omega) _)
  rw [hW0]
  clear hW0
  have HS0 := Lib.hid (And.intro bW0 (And.intro k0 (And.intro k1 k2)))
  clear bW0 k0 k1 k2
  refine (RZ.out _).mono ?_
  rintro e w1 ⟨rfl, c⟩
  have f := HS0.out.1.trans (c.mono HS0.out.1.size)
  have t0 := (HS0.out.2.1).below c (HS0.out.2.1).lt
  have t1 := (HS0.out.2.2.1).below c (HS0.out.2.2.1).lt
  have t2 := (HS0.out.2.2.2).below c (HS0.out.2.2.2).lt
  have HS1 := Lib.hid (And.intro f (And.intro t0 (And.intro t1 t2)))
  clear c f t0 t1 t2
  go_wp2_with fail
  refine (RU.out _).mono ?_
  rintro e w2 ⟨rfl, c⟩
  have f := HS1.out.1.trans (c.mono HS1.out.1.size)
  have t0 := (HS1.out.2.1).below c (HS1.out.2.1).lt
  have t1 := (HS1.out.2.2.1).below c (HS1.out.2.2.1).lt
  have t2 := (HS1.out.2.2.2).below c (HS1.out.2.2.2).lt
  have HS2 := Lib.hid (And.intro f (And.intro t0 (And.intro t1 t2)))
  clear c f t0 t1 t2
  go_wp2_with fail
  obtain ⟨w3, hw3⟩ : ∃ V, ((w2.alloc (Obj.cells #[Value.bool false, Value.string ⟨#[]⟩] 23)).alloc (Obj.cells #[Value.bool false, Value.string ⟨#[1]⟩] 23)) = V := ⟨_, rfl⟩
  obtain ⟨BZ, hBZ⟩ : ∃ B, w2.heap.size = B := ⟨_, rfl⟩
  obtain ⟨BU, hBU⟩ : ∃ B, BZ + 1 = B := ⟨_, rfl⟩
  have f : Below w.heap.size w w3 := by rw [← hw3]; exact ((HS2.out.1.alloc (by have := HS2.out.1.size; simp; try omega) _).alloc (by have := HS2.out.1.size; simp; try omega) _)
  have t0 : Cells (w.heap.size) [.bool na, .string sa, .bool nb, .string sb] w3 := by rw [← hw3]; exact ((((HS2.out.2.1).alloc (by have := (HS2.out.2.1).lt; simp; try omega) _)).alloc (by have := (HS2.out.2.1).lt; simp; try omega) _)
  have t1 : Cells (w.heap.size + 1) [.bool nc, .string sc, .bool nd, .string sd] w3 := by rw [← hw3]; exact ((((HS2.out.2.2.1).alloc (by have := (HS2.out.2.2.1).lt; simp; try omega) _)).alloc (by have := (HS2.out.2.2.1).lt; simp; try omega) _)
  have t2 : Cells (w.heap.size + 1 + 1) [.bool false, .string ⟨#[]⟩, .bool false, .string ⟨#[]⟩] w3 := by rw [← hw3]; exact ((((HS2.out.2.2.2).alloc (by have := (HS2.out.2.2.2).lt; simp; try omega) _)).alloc (by have := (HS2.out.2.2.2).lt; simp; try omega) _)
  have t3 : Cells BZ [.bool false, .string ⟨#[]⟩] w3 := by
    rw [← hw3, ← hBZ]
    have h := cells_new w2 #[.bool false, .string ⟨#[]⟩] 23
    (try simp only at h)
    exact (h.alloc (by simp; try omega) _)
  have t4 : Cells BU [.bool false, .string ⟨#[1]⟩] w3 := by
    rw [← hw3, ← hBU, ← hBZ]
    have h := cells_new (w2.alloc (Obj.cells #[Value.bool false, Value.string ⟨#[]⟩] 23)) #[.bool false, .string ⟨#[1]⟩] 23
    (try simp only [World.size_alloc] at h)
    exact h
  have xBZ0 : ¬ (w.heap.size) = BZ := by have := (HS2.out.2.1).lt; omega
  have xBZ1 : ¬ (w.heap.size + 1) = BZ := by have := (HS2.out.2.2.1).lt; omega
  have xBZ2 : ¬ (w.heap.size + 1 + 1) = BZ := by have := (HS2.out.2.2.2).lt; omega
  have gBZ : w.heap.size ≤ BZ := by have := HS2.out.1.size; omega
  have xBU0 : ¬ (w.heap.size) = BU := by have := (HS2.out.2.1).lt; omega
  have xBU1 : ¬ (w.heap.size + 1) = BU := by have := (HS2.out.2.2.1).lt; omega
  have xBU2 : ¬ (w.heap.size + 1 + 1) = BU := by have := (HS2.out.2.2.2).lt; omega
  have xBU3 : ¬ BZ = BU := by omega
  have gBU : w.heap.size ≤ BU := by have := HS2.out.1.size; omega
  have HS3 := Lib.hid (And.intro f (And.intro t0 (And.intro t1 (And.intro t2 (And.intro t3 t4)))))
  rw [hw3]
  (try rw [hBZ, hBU])
  clear hw3 hBU hBZ f t0 t1 t2 t3 t4
  refine wp_region_invA (fun a listed a' w' => ∃ t17 t18 t19 t20 t21 t22 t7 t8 : Value, a' = puts a [(17, t17), (18, t18), (19, t19), (20, t20), (21, t21), (22, t22), (7, t7), (8, t8)] ∧ Below (w3.heap.size) w3 w' ∧ (listed.getD 0 false = true → t17 = .agg #[.bool false, .string ⟨#[]⟩]) ∧ (listed.getD 1 false = true → t18 = .agg #[.bool false, .string ⟨#[1]⟩]) ∧ (listed.getD 2 false = true → t19 = .agg #[.bool false, .string ⟨#[]⟩, .bool false, .string ⟨#[1]⟩]) ∧ (listed.getD 3 false = true → t20 = .agg #[.bool false, .string ⟨#[1]⟩]) ∧ (listed.getD 4 false = true → t21 = .agg #[.bool false, .string ⟨#[]⟩]) ∧ (listed.getD 5 false = true → t22 = .agg #[.bool false, .string ⟨#[1]⟩, .bool false, .string ⟨#[]⟩]) ∧ (listed.getD 6 false = true → ∃ (B : Nat) (x0 x1 x2 x3 : Value), t7 = .pointer (some ⟨B, 0, none⟩) ∧ w3.heap.size ≤ B ∧ Cells B [x0, x1, x2, x3] w' ∧ (listed.getD 8 false = true → x0 = .bool false ∧ x1 = .string ⟨#[]⟩ ∧ x2 = .bool false ∧ x3 = .string ⟨#[1]⟩)) ∧ (listed.getD 7 false = true → ∃ (B : Nat) (x0 x1 x2 x3 : Value), t8 = .pointer (some ⟨B, 0, none⟩) ∧ w3.heap.size ≤ B ∧ Cells B [x0, x1, x2, x3] w' ∧ (listed.getD 9 false = true → x0 = .bool false ∧ x1 = .string ⟨#[1]⟩ ∧ x2 = .bool false ∧ x3 = .string ⟨#[]⟩)) ∧ (listed.getD 8 false = true → listed.getD 6 false = true) ∧ (listed.getD 9 false = true → listed.getD 7 false = true) ∧ (listed.getD 6 false = true → listed.getD 7 false = true → t7 ≠ t8)) (by kernel_rfl) (by kernel_rfl) ?_ ?_ ?_
  · exact ⟨undef, undef, undef, undef, undef, undef, undef, undef, (by kernel_rfl), (Below.refl _ _).drew, (fun h => getD_rep h), (fun h => getD_rep h), (fun h => getD_rep h), (fun h => getD_rep h), (fun h => getD_rep h), (fun h => getD_rep h), (fun h => getD_rep h), (fun h => getD_rep h), (fun h => getD_rep h), (fun h => getD_rep h), (fun h => getD_rep h)⟩
  · show InvSteps _ _ _ _ _ [0, 1, 2, 3, 4, 5, 6, 7, 8, 9]
    refine InvSteps.cons rfl (fun listed a w' K' hlt hun hdep hI hK => ?_) ?_
    · obtain ⟨t17, t18, t19, t20, t21, t22, t7, t8, ha, hb, h0, h1, h2, h3, h4, h5, h6, h7, s8_6, s9_7, d6_7⟩ := hI
      clear hdep
      have kc := (HS3.out.2.2.2.2.1).below hb (by have := (HS3.out.2.2.2.2.1).lt; omega)
      have kl := kc.lt
      have k0 := (kc 0 _ rfl).1
      have k1 := (kc 1 _ rfl).1
      clear kc
      rw [ha]
      clear ha a
      simp only [puts_cons, puts_nil, Act.put, List.setIfInBounds_toArray, List.set_cons_zero, List.set_cons_succ]
      go_simp
      exact hK.out _ _ ⟨(.agg #[.bool false, .string ⟨#[]⟩]), t18, t19, t20, t21, t22, t7, t8, (by kernel_rfl), hb, fun _ => rfl, fun h => h1 (getD_ne h (by decide : 0 ≠ 1)), fun h => h2 (getD_ne h (by decide : 0 ≠ 2)), fun h => h3 (getD_ne h (by decide : 0 ≠ 3)), fun h => h4 (getD_ne h (by decide : 0 ≠ 4)), fun h => h5 (getD_ne h (by decide : 0 ≠ 5)), fun h => by obtain ⟨B, x0, x1, x2, x3, e, hB, kc, hf⟩ := h6 (getD_ne h (by decide : 0 ≠ 6)); exact ⟨B, x0, x1, x2, x3, e, hB, kc, fun h => hf (getD_ne h (by decide : 0 ≠ 8))⟩, fun h => by obtain ⟨B, x0, x1, x2, x3, e, hB, kc, hf⟩ := h7 (getD_ne h (by decide : 0 ≠ 7)); exact ⟨B, x0, x1, x2, x3, e, hB, kc, fun h => hf (getD_ne h (by decide : 0 ≠ 9))⟩, fun h => getD_set_true (s8_6 (getD_ne h (by decide : 0 ≠ 8))), fun h => getD_set_true (s9_7 (getD_ne h (by decide : 0 ≠ 9))), fun h h2 => d6_7 (getD_ne h (by decide : 0 ≠ 6)) (getD_ne h2 (by decide : 0 ≠ 7))⟩
    refine InvSteps.cons rfl (fun listed a w' K' hlt hun hdep hI hK => ?_) ?_
    · obtain ⟨t17, t18, t19, t20, t21, t22, t7, t8, ha, hb, h0, h1, h2, h3, h4, h5, h6, h7, s8_6, s9_7, d6_7⟩ := hI
      clear hdep
      have kc := (HS3.out.2.2.2.2.2).below hb (by have := (HS3.out.2.2.2.2.2).lt; omega)
      have kl := kc.lt
      have k0 := (kc 0 _ rfl).1
      have k1 := (kc 1 _ rfl).1
      clear kc
      rw [ha]
      clear ha a
      simp only [puts_cons, puts_nil, Act.put, List.setIfInBounds_toArray, List.set_cons_zero, List.set_cons_succ]
      go_simp
      exact hK.out _ _ ⟨t17, (.agg #[.bool false, .string ⟨#[1]⟩]), t19, t20, t21, t22, t7, t8, (by kernel_rfl), hb, fun h => h0 (getD_ne h (by decide : 1 ≠ 0)), fun _ => rfl, fun h => h2 (getD_ne h (by decide : 1 ≠ 2)), fun h => h3 (getD_ne h (by decide : 1 ≠ 3)), fun h => h4 (getD_ne h (by decide : 1 ≠ 4)), fun h => h5 (getD_ne h (by decide : 1 ≠ 5)), fun h => by obtain ⟨B, x0, x1, x2, x3, e, hB, kc, hf⟩ := h6 (getD_ne h (by decide : 1 ≠ 6)); exact ⟨B, x0, x1, x2, x3, e, hB, kc, fun h => hf (getD_ne h (by decide : 1 ≠ 8))⟩, fun h => by obtain ⟨B, x0, x1, x2, x3, e, hB, kc, hf⟩ := h7 (getD_ne h (by decide : 1 ≠ 7)); exact ⟨B, x0, x1, x2, x3, e, hB, kc, fun h => hf (getD_ne h (by decide : 1 ≠ 9))⟩, fun h => getD_set_true (s8_6 (getD_ne h (by decide : 1 ≠ 8))), fun h => getD_set_true (s9_7 (getD_ne h (by decide : 1 ≠ 9))), fun h h2 => d6_7 (getD_ne h (by decide : 1 ≠ 6)) (getD_ne h2 (by decide : 1 ≠ 7))⟩
    refine InvSteps.cons rfl (fun listed a w' K' hlt hun hdep hI hK => ?_) ?_
    · obtain ⟨t17, t18, t19, t20, t21, t22, t7, t8, ha, hb, h0, h1, h2, h3, h4, h5, h6, h7, s8_6, s9_7, d6_7⟩ := hI
      have H0 := hdep ⟨0, Ground.data⟩ (by simp) rfl
      have H1 := hdep ⟨1, Ground.data⟩ (by simp) rfl
      clear hdep
      have g0 := h0 H0
      subst g0
      have g1 := h1 H1
      subst g1
      rw [ha]
      clear ha a
      simp only [puts_cons, puts_nil, Act.put, List.setIfInBounds_toArray, List.set_cons_zero, List.set_cons_succ]
      go_simp
      exact hK.out _ _ ⟨(.agg #[.bool false, .string ⟨#[]⟩]), (.agg #[.bool false, .string ⟨#[1]⟩]), (.agg #[.bool false, .string ⟨#[]⟩, .bool false, .string ⟨#[1]⟩]), t20, t21, t22, t7, t8, (by kernel_rfl), hb, fun _ => rfl, fun _ => rfl, fun _ => rfl, fun h => h3 (getD_ne h (by decide : 2 ≠ 3)), fun h => h4 (getD_ne h (by decide : 2 ≠ 4)), fun h => h5 (getD_ne h (by decide : 2 ≠ 5)), fun h => by obtain ⟨B, x0, x1, x2, x3, e, hB, kc, hf⟩ := h6 (getD_ne h (by decide : 2 ≠ 6)); exact ⟨B, x0, x1, x2, x3, e, hB, kc, fun h => hf (getD_ne h (by decide : 2 ≠ 8))⟩, fun h => by obtain ⟨B, x0, x1, x2, x3, e, hB, kc, hf⟩ := h7 (getD_ne h (by decide : 2 ≠ 7)); exact ⟨B, x0, x1, x2, x3, e, hB, kc, fun h => hf (getD_ne h (by decide : 2 ≠ 9))⟩, fun h => getD_set_true (s8_6 (getD_ne h (by decide : 2 ≠ 8))), fun h => getD_set_true (s9_7 (getD_ne h (by decide : 2 ≠ 9))), fun h h2 => d6_7 (getD_ne h (by decide : 2 ≠ 6)) (getD_ne h2 (by decide : 2 ≠ 7))⟩
    refine InvSteps.cons rfl (fun listed a w' K' hlt hun hdep hI hK => ?_) ?_
    · obtain ⟨t17, t18, t19, t20, t21, t22, t7, t8, ha, hb, h0, h1, h2, h3, h4, h5, h6, h7, s8_6, s9_7, d6_7⟩ := hI
      clear hdep
      have kc := (HS3.out.2.2.2.2.2).below hb (by have := (HS3.out.2.2.2.2.2).lt; omega)
      have kl := kc.lt
      have k0 := (kc 0 _ rfl).1
      have k1 := (kc 1 _ rfl).1
      clear kc
      rw [ha]
      clear ha a
      simp only [puts_cons, puts_nil, Act.put, List.setIfInBounds_toArray, List.set_cons_zero, List.set_cons_succ]
      go_simp
      exact hK.out _ _ ⟨t17, t18, t19, (.agg #[.bool false, .string ⟨#[1]⟩]), t21, t22, t7, t8, (by kernel_rfl), hb, fun h => h0 (getD_ne h (by decide : 3 ≠ 0)), fun h => h1 (getD_ne h (by decide : 3 ≠ 1)), fun h => h2 (getD_ne h (by decide : 3 ≠ 2)), fun _ => rfl, fun h => h4 (getD_ne h (by decide : 3 ≠ 4)), fun h => h5 (getD_ne h (by decide : 3 ≠ 5)), fun h => by obtain ⟨B, x0, x1, x2, x3, e, hB, kc, hf⟩ := h6 (getD_ne h (by decide : 3 ≠ 6)); exact ⟨B, x0, x1, x2, x3, e, hB, kc, fun h => hf (getD_ne h (by decide : 3 ≠ 8))⟩, fun h => by obtain ⟨B, x0, x1, x2, x3, e, hB, kc, hf⟩ := h7 (getD_ne h (by decide : 3 ≠ 7)); exact ⟨B, x0, x1, x2, x3, e, hB, kc, fun h => hf (getD_ne h (by decide : 3 ≠ 9))⟩, fun h => getD_set_true (s8_6 (getD_ne h (by decide : 3 ≠ 8))), fun h => getD_set_true (s9_7 (getD_ne h (by decide : 3 ≠ 9))), fun h h2 => d6_7 (getD_ne h (by decide : 3 ≠ 6)) (getD_ne h2 (by decide : 3 ≠ 7))⟩
    refine InvSteps.cons rfl (fun listed a w' K' hlt hun hdep hI hK => ?_) ?_
    · obtain ⟨t17, t18, t19, t20, t21, t22, t7, t8, ha, hb, h0, h1, h2, h3, h4, h5, h6, h7, s8_6, s9_7, d6_7⟩ := hI
      clear hdep
      have kc := (HS3.out.2.2.2.2.1).below hb (by have := (HS3.out.2.2.2.2.1).lt; omega)
      have kl := kc.lt
      have k0 := (kc 0 _ rfl).1
      have k1 := (kc 1 _ rfl).1
      clear kc
      rw [ha]
      clear ha a
      simp only [puts_cons, puts_nil, Act.put, List.setIfInBounds_toArray, List.set_cons_zero, List.set_cons_succ]
      go_simp
      exact hK.out _ _ ⟨t17, t18, t19, t20, (.agg #[.bool false, .string ⟨#[]⟩]), t22, t7, t8, (by kernel_rfl), hb, fun h => h0 (getD_ne h (by decide : 4 ≠ 0)), fun h => h1 (getD_ne h (by decide : 4 ≠ 1)), fun h => h2 (getD_ne h (by decide : 4 ≠ 2)), fun h => h3 (getD_ne h (by decide : 4 ≠ 3)), fun _ => rfl, fun h => h5 (getD_ne h (by decide : 4 ≠ 5)), fun h => by obtain ⟨B, x0, x1, x2, x3, e, hB, kc, hf⟩ := h6 (getD_ne h (by decide : 4 ≠ 6)); exact ⟨B, x0, x1, x2, x3, e, hB, kc, fun h => hf (getD_ne h (by decide : 4 ≠ 8))⟩, fun h => by obtain ⟨B, x0, x1, x2, x3, e, hB, kc, hf⟩ := h7 (getD_ne h (by decide : 4 ≠ 7)); exact ⟨B, x0, x1, x2, x3, e, hB, kc, fun h => hf (getD_ne h (by decide : 4 ≠ 9))⟩, fun h => getD_set_true (s8_6 (getD_ne h (by decide : 4 ≠ 8))), fun h => getD_set_true (s9_7 (getD_ne h (by decide : 4 ≠ 9))), fun h h2 => d6_7 (getD_ne h (by decide : 4 ≠ 6)) (getD_ne h2 (by decide : 4 ≠ 7))⟩
    refine InvSteps.cons rfl (fun listed a w' K' hlt hun hdep hI hK => ?_) ?_
    · obtain ⟨t17, t18, t19, t20, t21, t22, t7, t8, ha, hb, h0, h1, h2, h3, h4, h5, h6, h7, s8_6, s9_7, d6_7⟩ := hI
      have H3 := hdep ⟨3, Ground.data⟩ (by simp) rfl
      have H4 := hdep ⟨4, Ground.data⟩ (by simp) rfl
      clear hdep
      have g3 := h3 H3
      subst g3
      have g4 := h4 H4
      subst g4
      rw [ha]
      clear ha a
      simp only [puts_cons, puts_nil, Act.put, List.setIfInBounds_toArray, List.set_cons_zero, List.set_cons_succ]
      go_simp
      exact hK.out _ _ ⟨t17, t18, t19, (.agg #[.bool false, .string ⟨#[1]⟩]), (.agg #[.bool false, .string ⟨#[]⟩]), (.agg #[.bool false, .string ⟨#[1]⟩, .bool false, .string ⟨#[]⟩]), t7, t8, (by kernel_rfl), hb, fun h => h0 (getD_ne h (by decide : 5 ≠ 0)), fun h => h1 (getD_ne h (by decide : 5 ≠ 1)), fun h => h2 (getD_ne h (by decide : 5 ≠ 2)), fun _ => rfl, fun _ => rfl, fun _ => rfl, fun h => by obtain ⟨B, x0, x1, x2, x3, e, hB, kc, hf⟩ := h6 (getD_ne h (by decide : 5 ≠ 6)); exact ⟨B, x0, x1, x2, x3, e, hB, kc, fun h => hf (getD_ne h (by decide : 5 ≠ 8))⟩, fun h => by obtain ⟨B, x0, x1, x2, x3, e, hB, kc, hf⟩ := h7 (getD_ne h (by decide : 5 ≠ 7)); exact ⟨B, x0, x1, x2, x3, e, hB, kc, fun h => hf (getD_ne h (by decide : 5 ≠ 9))⟩, fun h => getD_set_true (s8_6 (getD_ne h (by decide : 5 ≠ 8))), fun h => getD_set_true (s9_7 (getD_ne h (by decide : 5 ≠ 9))), fun h h2 => d6_7 (getD_ne h (by decide : 5 ≠ 6)) (getD_ne h2 (by decide : 5 ≠ 7))⟩
    refine InvSteps.cons rfl (fun listed a w' K' hlt hun hdep hI hK => ?_) ?_
    · obtain ⟨t17, t18, t19, t20, t21, t22, t7, t8, ha, hb, h0, h1, h2, h3, h4, h5, h6, h7, s8_6, s9_7, d6_7⟩ := hI
      clear hdep
      rw [ha]
      clear ha a
      simp only [puts_cons, puts_nil, Act.put, List.setIfInBounds_toArray, List.set_cons_zero, List.set_cons_succ]
      go_simp
      exact hK.out _ _ ⟨t17, t18, t19, t20, t21, t22, (.pointer (some ⟨w'.heap.size, 0, none⟩)), t8, (by kernel_rfl), hb.alloc hb.size _, fun h => h0 (getD_ne h (by decide : 6 ≠ 0)), fun h => h1 (getD_ne h (by decide : 6 ≠ 1)), fun h => h2 (getD_ne h (by decide : 6 ≠ 2)), fun h => h3 (getD_ne h (by decide : 6 ≠ 3)), fun h => h4 (getD_ne h (by decide : 6 ≠ 4)), fun h => h5 (getD_ne h (by decide : 6 ≠ 5)), fun _ => ⟨_, _, _, _, _, rfl, hb.size, cells_new w' #[Value.bool false, Value.string ⟨#[]⟩, Value.bool false, Value.string ⟨#[]⟩] 60, fun h => by have h' := s8_6 (getD_ne h (by decide : 6 ≠ 8)); rw [hun] at h'; cases h'⟩, fun h => by obtain ⟨B, x0, x1, x2, x3, e, hB, kc, hf⟩ := h7 (getD_ne h (by decide : 6 ≠ 7)); exact ⟨B, x0, x1, x2, x3, e, hB, kc.alloc kc.lt _, fun h => hf (getD_ne h (by decide : 6 ≠ 9))⟩, fun _ => getD_self hlt, fun h => getD_set_true (s9_7 (getD_ne h (by decide : 6 ≠ 9))), fun _ h => by obtain ⟨B, _, _, _, _, e1, _, kc, _⟩ := h7 (getD_ne h (by decide : 6 ≠ 7)); intro e; rw [e1] at e; have := kc.lt; (simp at e) <;> omega⟩
    refine InvSteps.cons rfl (fun listed a w' K' hlt hun hdep hI hK => ?_) ?_
    · obtain ⟨t17, t18, t19, t20, t21, t22, t7, t8, ha, hb, h0, h1, h2, h3, h4, h5, h6, h7, s8_6, s9_7, d6_7⟩ := hI
      clear hdep
      rw [ha]
      clear ha a
      simp only [puts_cons, puts_nil, Act.put, List.setIfInBounds_toArray, List.set_cons_zero, List.set_cons_succ]
      go_simp
      exact hK.out _ _ ⟨t17, t18, t19, t20, t21, t22, t7, (.pointer (some ⟨w'.heap.size, 0, none⟩)), (by kernel_rfl), hb.alloc hb.size _, fun h => h0 (getD_ne h (by decide : 7 ≠ 0)), fun h => h1 (getD_ne h (by decide : 7 ≠ 1)), fun h => h2 (getD_ne h (by decide : 7 ≠ 2)), fun h => h3 (getD_ne h (by decide : 7 ≠ 3)), fun h => h4 (getD_ne h (by decide : 7 ≠ 4)), fun h => h5 (getD_ne h (by decide : 7 ≠ 5)), fun h => by obtain ⟨B, x0, x1, x2, x3, e, hB, kc, hf⟩ := h6 (getD_ne h (by decide : 7 ≠ 6)); exact ⟨B, x0, x1, x2, x3, e, hB, kc.alloc kc.lt _, fun h => hf (getD_ne h (by decide : 7 ≠ 8))⟩, fun _ => ⟨_, _, _, _, _, rfl, hb.size, cells_new w' #[Value.bool false, Value.string ⟨#[]⟩, Value.bool false, Value.string ⟨#[]⟩] 60, fun h => by have h' := s9_7 (getD_ne h (by decide : 7 ≠ 9)); rw [hun] at h'; cases h'⟩, fun h => getD_set_true (s8_6 (getD_ne h (by decide : 7 ≠ 8))), fun _ => getD_self hlt, fun h _ => by obtain ⟨B, _, _, _, _, e1, _, kc, _⟩ := h6 (getD_ne h (by decide : 7 ≠ 6)); intro e; rw [e1] at e; have := kc.lt; (simp at e) <;> omega⟩
    refine InvSteps.cons rfl (fun listed a w' K' hlt hun hdep hI hK => ?_) ?_
    · obtain ⟨t17, t18, t19, t20, t21, t22, t7, t8, ha, hb, h0, h1, h2, h3, h4, h5, h6, h7, s8_6, s9_7, d6_7⟩ := hI
      have H6 := hdep ⟨6, Ground.data⟩ (by simp) rfl
      have H2 := hdep ⟨2, Ground.data⟩ (by simp) rfl
      have H0 := hdep ⟨0, Ground.phase⟩ (by simp) rfl
      have H1 := hdep ⟨1, Ground.phase⟩ (by simp) rfl
      have H7 := hdep ⟨7, Ground.phase⟩ (by simp) rfl
      clear hdep
      have g2 := h2 H2
      subst g2
      have g0 := h0 H0
      subst g0
      have g1 := h1 H1
      subst g1
      obtain ⟨B, x0, x1, x2, x3, rfl, hB, kc, _⟩ := h6 H6
      obtain ⟨C7, w7_0, w7_1, w7_2, w7_3, rfl, q7, kd7, o7⟩ := h7 H7
      have kl := kc.lt
      have k0 := (kc 0 _ rfl).1
      have z0 := (kc 0 _ rfl).2
      have k1 := (kc 1 _ rfl).1
      have z1 := (kc 1 _ rfl).2
      have k2 := (kc 2 _ rfl).1
      have z2 := (kc 2 _ rfl).2
      have k3 := (kc 3 _ rfl).1
      have z3 := (kc 3 _ rfl).2
      rw [ha]
      clear ha a
      simp only [puts_cons, puts_nil, Act.put, List.setIfInBounds_toArray, List.set_cons_zero, List.set_cons_succ]
      go_simp
      have yc0 : Cells (B) [.bool false, x1, x2, x3] _ := (kc).set (k := 0) (Value.bool false) _ rfl
      have yc1 : Cells (B) [.bool false, .string ⟨#[]⟩, x2, x3] _ := (yc0).set (k := 1) (Value.string ⟨#[]⟩) _ rfl
      have yc2 : Cells (B) [.bool false, .string ⟨#[]⟩, .bool false, x3] _ := (yc1).set (k := 2) (Value.bool false) _ rfl
      have yc3 : Cells (B) [.bool false, .string ⟨#[]⟩, .bool false, .string ⟨#[1]⟩] _ := (yc2).set (k := 3) (Value.string ⟨#[1]⟩) _ rfl
      exact hK.out _ _ ⟨(.agg #[.bool false, .string ⟨#[]⟩]), (.agg #[.bool false, .string ⟨#[1]⟩]), (.agg #[.bool false, .string ⟨#[]⟩, .bool false, .string ⟨#[1]⟩]), t20, t21, t22, (.pointer (some ⟨B, 0, none⟩)), (.pointer (some ⟨C7, 0, none⟩)), (by kernel_rfl), (below_sets (below_sets (below_sets (below_sets hb hB 0 (Value.bool false)) hB 1 (Value.string ⟨#[]⟩)) hB 2 (Value.bool false)) hB 3 (Value.string ⟨#[1]⟩)), fun _ => rfl, fun _ => rfl, fun _ => rfl, fun h => h3 (getD_ne h (by decide : 8 ≠ 3)), fun h => h4 (getD_ne h (by decide : 8 ≠ 4)), fun h => h5 (getD_ne h (by decide : 8 ≠ 5)), fun _ => ⟨B, _, _, _, _, rfl, hB, yc3, fun _ => ⟨rfl, rfl, rfl, rfl⟩⟩, fun _ => ⟨C7, w7_0, w7_1, w7_2, w7_3, rfl, q7, ((((((((kd7).other (fun e => d6_7 H6 H7 (by rw [e])))).other (fun e => d6_7 H6 H7 (by rw [e])))).other (fun e => d6_7 H6 H7 (by rw [e])))).other (fun e => d6_7 H6 H7 (by rw [e]))), fun h => o7 (getD_ne h (by decide : 8 ≠ 9))⟩, fun _ => getD_set_true H6, fun h => getD_set_true (s9_7 (getD_ne h (by decide : 8 ≠ 9))), fun h h2 => d6_7 (getD_ne h (by decide : 8 ≠ 6)) (getD_ne h2 (by decide : 8 ≠ 7))⟩
    refine InvSteps.cons rfl (fun listed a w' K' hlt hun hdep hI hK => ?_) ?_
    · obtain ⟨t17, t18, t19, t20, t21, t22, t7, t8, ha, hb, h0, h1, h2, h3, h4, h5, h6, h7, s8_6, s9_7, d6_7⟩ := hI
      have H7 := hdep ⟨7, Ground.data⟩ (by simp) rfl
      have H5 := hdep ⟨5, Ground.data⟩ (by simp) rfl
      have H8 := hdep ⟨8, Ground.chain⟩ (by simp) rfl
      have H0 := hdep ⟨0, Ground.phase⟩ (by simp) rfl
      have H1 := hdep ⟨1, Ground.phase⟩ (by simp) rfl
      have H2 := hdep ⟨2, Ground.phase⟩ (by simp) rfl
      have H3 := hdep ⟨3, Ground.phase⟩ (by simp) rfl
      have H4 := hdep ⟨4, Ground.phase⟩ (by simp) rfl
      have H6 := hdep ⟨6, Ground.phase⟩ (by simp) rfl
      clear hdep
      have g5 := h5 H5
      subst g5
      have g0 := h0 H0
      subst g0
      have g1 := h1 H1
      subst g1
      have g2 := h2 H2
      subst g2
      have g3 := h3 H3
      subst g3
      have g4 := h4 H4
      subst g4
      obtain ⟨B, x0, x1, x2, x3, rfl, hB, kc, _⟩ := h7 H7
      obtain ⟨C6, w6_0, w6_1, w6_2, w6_3, rfl, q6, kd6, o6⟩ := h6 H6
      have kl := kc.lt
      have k0 := (kc 0 _ rfl).1
      have z0 := (kc 0 _ rfl).2
      have k1 := (kc 1 _ rfl).1
      have z1 := (kc 1 _ rfl).2
      have k2 := (kc 2 _ rfl).1
      have z2 := (kc 2 _ rfl).2
      have k3 := (kc 3 _ rfl).1
      have z3 := (kc 3 _ rfl).2
      rw [ha]
      clear ha a
      simp only [puts_cons, puts_nil, Act.put, List.setIfInBounds_toArray, List.set_cons_zero, List.set_cons_succ]
      go_simp
      have yc0 : Cells (B) [.bool false, x1, x2, x3] _ := (kc).set (k := 0) (Value.bool false) _ rfl
      have yc1 : Cells (B) [.bool false, .string ⟨#[1]⟩, x2, x3] _ := (yc0).set (k := 1) (Value.string ⟨#[1]⟩) _ rfl
      have yc2 : Cells (B) [.bool false, .string ⟨#[1]⟩, .bool false, x3] _ := (yc1).set (k := 2) (Value.bool false) _ rfl
      have yc3 : Cells (B) [.bool false, .string ⟨#[1]⟩, .bool false, .string ⟨#[]⟩] _ := (yc2).set (k := 3) (Value.string ⟨#[]⟩) _ rfl
      exact hK.out _ _ ⟨(.agg #[.bool false, .string ⟨#[]⟩]), (.agg #[.bool false, .string ⟨#[1]⟩]), (.agg #[.bool false, .string ⟨#[]⟩, .bool false, .string ⟨#[1]⟩]), (.agg #[.bool false, .string ⟨#[1]⟩]), (.agg #[.bool false, .string ⟨#[]⟩]), (.agg #[.bool false, .string ⟨#[1]⟩, .bool false, .string ⟨#[]⟩]), (.pointer (some ⟨C6, 0, none⟩)), (.pointer (some ⟨B, 0, none⟩)), (by kernel_rfl), (below_sets (below_sets (below_sets (below_sets hb hB 0 (Value.bool false)) hB 1 (Value.string ⟨#[1]⟩)) hB 2 (Value.bool false)) hB 3 (Value.string ⟨#[]⟩)), fun _ => rfl, fun _ => rfl, fun _ => rfl, fun _ => rfl, fun _ => rfl, fun _ => rfl, fun _ => ⟨C6, w6_0, w6_1, w6_2, w6_3, rfl, q6, ((((((((kd6).other (fun e => d6_7 H6 H7 (by rw [e])))).other (fun e => d6_7 H6 H7 (by rw [e])))).other (fun e => d6_7 H6 H7 (by rw [e])))).other (fun e => d6_7 H6 H7 (by rw [e]))), fun h => o6 (getD_ne h (by decide : 9 ≠ 8))⟩, fun _ => ⟨B, _, _, _, _, rfl, hB, yc3, fun _ => ⟨rfl, rfl, rfl, rfl⟩⟩, fun h => getD_set_true (s8_6 (getD_ne h (by decide : 9 ≠ 8))), fun _ => getD_set_true H7, fun h h2 => d6_7 (getD_ne h (by decide : 9 ≠ 6)) (getD_ne h2 (by decide : 9 ≠ 7))⟩
    exact InvSteps.nil
  · intro listed a w1 hl hI
    obtain ⟨t17, t18, t19, t20, t21, t22, t7, t8, ha, hb, h0, h1, h2, h3, h4, h5, h6, h7, s8_6, s9_7, d6_7⟩ := hI
    have H0 := hl 0 (by show 0 < 10; omega)
    have H1 := hl 1 (by show 1 < 10; omega)
    have H2 := hl 2 (by show 2 < 10; omega)
    have H3 := hl 3 (by show 3 < 10; omega)
    have H4 := hl 4 (by show 4 < 10; omega)
    have H5 := hl 5 (by show 5 < 10; omega)
    have H6 := hl 6 (by show 6 < 10; omega)
    have H7 := hl 7 (by show 7 < 10; omega)
    have H8 := hl 8 (by show 8 < 10; omega)
    have H9 := hl 9 (by show 9 < 10; omega)
    have g0 := h0 H0
    subst g0
    have g1 := h1 H1
    subst g1
    have g2 := h2 H2
    subst g2
    have g3 := h3 H3
    subst g3
    have g4 := h4 H4
    subst g4
    have g5 := h5 H5
    subst g5
    obtain ⟨B6, y6_0, y6_1, y6_2, y6_3, rfl, r6, c6, f6⟩ := h6 H6
    obtain ⟨rfl, rfl, rfl, rfl⟩ := f6 H8
    obtain ⟨B7, y7_0, y7_1, y7_2, y7_3, rfl, r7, c7, f7⟩ := h7 H7
    obtain ⟨rfl, rfl, rfl, rfl⟩ := f7 H9
    have e6_7 : B6 ≠ B7 := fun e => d6_7 H6 H7 (by rw [e])
    clear H0 H1 H2 H3 H4 H5 H6 H7 H8 H9 hl h0 h1 h2 h3 h4 h5 h6 h7 s8_6 s9_7 d6_7 f6 f7 listed
    rw [ha]
    clear ha a
    simp only [puts_cons, puts_nil, Act.put, List.setIfInBounds_toArray, List.set_cons_zero, List.set_cons_succ]
    have rE := Nat.le_trans HS3.out.1.size r6
    have rV := Nat.le_trans HS3.out.1.size r7
    have xE0 : ¬ (w.heap.size) = B6 := by have := (HS3.out.2.1).lt; omega
    have xV0 : ¬ (w.heap.size) = B7 := by have := (HS3.out.2.1).lt; omega
    have xE1 : ¬ (w.heap.size + 1) = B6 := by have := (HS3.out.2.2.1).lt; omega
    have xV1 : ¬ (w.heap.size + 1) = B7 := by have := (HS3.out.2.2.1).lt; omega
    have xE2 : ¬ (w.heap.size + 1 + 1) = B6 := by have := (HS3.out.2.2.2.1).lt; omega
    have xV2 : ¬ (w.heap.size + 1 + 1) = B7 := by have := (HS3.out.2.2.2.1).lt; omega
    have xE3 : ¬ (BZ) = B6 := by have := (HS3.out.2.2.2.2.1).lt; omega
    have xV3 : ¬ (BZ) = B7 := by have := (HS3.out.2.2.2.2.1).lt; omega
    have xE4 : ¬ (BU) = B6 := by have := (HS3.out.2.2.2.2.2).lt; omega
    have xV4 : ¬ (BU) = B7 := by have := (HS3.out.2.2.2.2.2).lt; omega
    have f := HS3.out.1.trans (hb.mono HS3.out.1.size)
    have t0 := (HS3.out.2.1).below hb (HS3.out.2.1).lt
    have t1 := (HS3.out.2.2.1).below hb (HS3.out.2.2.1).lt
    have t2 := (HS3.out.2.2.2.1).below hb (HS3.out.2.2.2.1).lt
    have t3 := (HS3.out.2.2.2.2.1).below hb (HS3.out.2.2.2.2.1).lt
    have t4 := (HS3.out.2.2.2.2.2).below hb (HS3.out.2.2.2.2.2).lt
    have HS4 := Lib.hid (And.intro f (And.intro t0 (And.intro t1 (And.intro t2 (And.intro t3 (And.intro t4 (And.intro c6 c7)))))))
    clear f hb t0 t1 t2 t3 t4 c6 c7
    clear r6 r7
    go_wp2_with fail
    go_loopg [] (d1 + d2) (fun k wr => ∃ (n1 d1 n2 d2 vn vd en ed p q : Nat) (na nb nc nd nv nx ny nz : Bool) (sa sb sc sd sv sx sy sz : ByteArray), Btw P Q M k n1 d1 n2 d2 vn vd en ed p q ∧ (Val na sa (n1 : Int) ∧ Val nb sb (d1 : Int) ∧ Val nc sc (n2 : Int) ∧ Val nd sd (d2 : Int) ∧ Val nv sv (vn : Int) ∧ Val nx sx (vd : Int) ∧ Val ny sy (en : Int) ∧ Val nz sz (ed : Int)) ∧ Below w.heap.size w wr ∧ Cells (w.heap.size) [.bool na, .string sa, .bool nb, .string sb] wr ∧ Cells (w.heap.size + 1) [.bool nc, .string sc, .bool nd, .string sd] wr ∧ Cells (w.heap.size + 1 + 1) [.bool false, .string ⟨#[]⟩, .bool false, .string ⟨#[]⟩] wr ∧ Cells (BZ) [.bool false, .string ⟨#[]⟩] wr ∧ Cells (BU) [.bool false, .string ⟨#[1]⟩] wr ∧ Cells (B6) [.bool ny, .string sy, .bool nz, .string sz] wr ∧ Cells (B7) [.bool nv, .string sv, .bool nx, .string sx] wr)
    case atStart =>
      exact ⟨n1, d1, n2, d2, 1, 0, 0, 1, P, Q, na, nb, nc, nd, false, false, false, false, sa, sb, sc, sd, ⟨#[1]⟩, ⟨#[]⟩, ⟨#[]⟩, ⟨#[1]⟩, HBT.out, ⟨HV.out.1, HV.out.2.1, HV.out.2.2.1, HV.out.2.2.2, ⟨rfl, by show 1 ≤ 262144; omega⟩, ⟨rfl, by show 0 ≤ 262144; omega⟩, ⟨rfl, by show 0 ≤ 262144; omega⟩, ⟨rfl, by show 1 ≤ 262144; omega⟩⟩, HS4.out.1, HS4.out.2.1, HS4.out.2.2.1, HS4.out.2.2.2.1, HS4.out.2.2.2.2.1, HS4.out.2.2.2.2.2.1, HS4.out.2.2.2.2.2.2.1, HS4.out.2.2.2.2.2.2.2⟩
    case round =>
      clear HBT HV
      obtain ⟨n1, d1, n2, d2, vn, vd, en, ed, p, q, na, nb, nc, nd, nv, nx, ny, nz, sa, sb, sc, sd, sv, sx, sy, sz, hB, hV, f, t0, t1, t2, t3, t4, t5, t6⟩ := hrel
      have HBT := Lib.hid hB
      have HV := Lib.hid hV
      have p1 := hB.p1
      have p2 := hB.p2
      obtain ⟨nt, st, mt⟩ := nam_ex ((n1 / d1 : Nat) : Int)
      obtain ⟨nr, sr, mr⟩ := nam_ex ((n1 % d1 : Nat) : Int)
      obtain ⟨ng, sg, mg⟩ := nam_ex ((n2 / d2 : Nat) : Int)
      obtain ⟨nm, sm, mm⟩ := nam_ex ((n2 % d2 : Nat) : Int)
      have RD1 := Lib.hid (fun W => divAll_val hV.1 hV.2.1 (by omega) (isDiv_nat n1 d1 p1) mt mr W)
      have RD2 := Lib.hid (fun W => divAll_val hV.2.2.1 hV.2.2.2.1 (by omega) (isDiv_nat n2 d2 p2) mg mm W)
      have e1 := eqI_zero mr
      have e2 := eqI_nam mt mg
      have HE := Lib.hid (And.intro e1 e2)
      have HN := Lib.hid (And.intro mt (And.intro mr (And.intro mg mm)))
      clear hB hV p1 p2 e1 e2 mt mr mg mm
      have HR := Lib.hid (And.intro f (And.intro t0 (And.intro t1 (And.intro t2 (And.intro t3 (And.intro t4 (And.intro t5 t6)))))))
      clear f t0 t1 t2 t3 t4 t5 t6 HS4
      have l0 := (HR.out.2.1).lt
      have m00 := (HR.out.2.1 0 _ rfl).1
      have m01 := (HR.out.2.1 1 _ rfl).1
      have m02 := (HR.out.2.1 2 _ rfl).1
      have m03 := (HR.out.2.1 3 _ rfl).1
      have l1 := (HR.out.2.2.1).lt
      have l2 := (HR.out.2.2.2.1).lt
      have l3 := (HR.out.2.2.2.2.1).lt
      have l4 := (HR.out.2.2.2.2.2.1).lt
      have l5 := (HR.out.2.2.2.2.2.2.1).lt
      have l6 := (HR.out.2.2.2.2.2.2.2).lt
      go_wp2_with fail
      clear l0 m00 m01 m02 m03 l1 l2 l3 l4 l5 l6
      refine (RD1.out _).mono ?_
      rintro e w5 ⟨rfl, c⟩
      have f := HR.out.1.trans (c.mono HR.out.1.size)
      have t0 := (HR.out.2.1).below c (HR.out.2.1).lt
      have t1 := (HR.out.2.2.1).below c (HR.out.2.2.1).lt
      have t2 := (HR.out.2.2.2.1).below c (HR.out.2.2.2.1).lt
      have t3 := (HR.out.2.2.2.2.1).below c (HR.out.2.2.2.2.1).lt
      have t4 := (HR.out.2.2.2.2.2.1).below c (HR.out.2.2.2.2.2.1).lt
      have t5 := (HR.out.2.2.2.2.2.2.1).below c (HR.out.2.2.2.2.2.2.1).lt
      have t6 := (HR.out.2.2.2.2.2.2.2).below c (HR.out.2.2.2.2.2.2.2).lt
      have HA1 := Lib.hid (And.intro f (And.intro t0 (And.intro t1 (And.intro t2 (And.intro t3 (And.intro t4 (And.intro t5 t6)))))))
      clear c f t0 t1 t2 t3 t4 t5 t6
      have l0 := (HA1.out.2.1).lt
      have l1 := (HA1.out.2.2.1).lt
      have m10 := (HA1.out.2.2.1 0 _ rfl).1
      have m11 := (HA1.out.2.2.1 1 _ rfl).1
      have m12 := (HA1.out.2.2.1 2 _ rfl).1
      have m13 := (HA1.out.2.2.1 3 _ rfl).1
      have l2 := (HA1.out.2.2.2.1).lt
      have l3 := (HA1.out.2.2.2.2.1).lt
      have l4 := (HA1.out.2.2.2.2.2.1).lt
      have l5 := (HA1.out.2.2.2.2.2.2.1).lt
      have l6 := (HA1.out.2.2.2.2.2.2.2).lt
      go_wp2_with fail
      clear l0 l1 m10 m11 m12 m13 l2 l3 l4 l5 l6
      obtain ⟨w6, hw6⟩ : ∃ V, ((w5.alloc (Obj.cells #[Value.bool nt, Value.string st] 23)).alloc (Obj.cells #[Value.bool nr, Value.string sr] 23)) = V := ⟨_, rfl⟩
      obtain ⟨BT, hBT⟩ : ∃ B, w5.heap.size = B := ⟨_, rfl⟩
      obtain ⟨BR, hBR⟩ : ∃ B, BT + 1 = B := ⟨_, rfl⟩
      have f : Below w.heap.size w w6 := by rw [← hw6]; exact ((HA1.out.1.alloc (by have := HA1.out.1.size; simp; try omega) _).alloc (by have := HA1.out.1.size; simp; try omega) _)
      have t0 : Cells (w.heap.size) [.bool na, .string sa, .bool nb, .string sb] w6 := by rw [← hw6]; exact ((((HA1.out.2.1).alloc (by have := (HA1.out.2.1).lt; simp; try omega) _)).alloc (by have := (HA1.out.2.1).lt; simp; try omega) _)
      have t1 : Cells (w.heap.size + 1) [.bool nc, .string sc, .bool nd, .string sd] w6 := by rw [← hw6]; exact ((((HA1.out.2.2.1).alloc (by have := (HA1.out.2.2.1).lt; simp; try omega) _)).alloc (by have := (HA1.out.2.2.1).lt; simp; try omega) _)
      have t2 : Cells (w.heap.size + 1 + 1) [.bool false, .string ⟨#[]⟩, .bool false, .string ⟨#[]⟩] w6 := by rw [← hw6]; exact ((((HA1.out.2.2.2.1).alloc (by have := (HA1.out.2.2.2.1).lt; simp; try omega) _)).alloc (by have := (HA1.out.2.2.2.1).lt; simp; try omega) _)
      have t3 : Cells (BZ) [.bool false, .string ⟨#[]⟩] w6 := by rw [← hw6]; exact ((((HA1.out.2.2.2.2.1).alloc (by have := (HA1.out.2.2.2.2.1).lt; simp; try omega) _)).alloc (by have := (HA1.out.2.2.2.2.1).lt; simp; try omega) _)
      have t4 : Cells (BU) [.bool false, .string ⟨#[1]⟩] w6 := by rw [← hw6]; exact ((((HA1.out.2.2.2.2.2.1).alloc (by have := (HA1.out.2.2.2.2.2.1).lt; simp; try omega) _)).alloc (by have := (HA1.out.2.2.2.2.2.1).lt; simp; try omega) _)
      have t5 : Cells (B6) [.bool ny, .string sy, .bool nz, .string sz] w6 := by rw [← hw6]; exact ((((HA1.out.2.2.2.2.2.2.1).alloc (by have := (HA1.out.2.2.2.2.2.2.1).lt; simp; try omega) _)).alloc (by have := (HA1.out.2.2.2.2.2.2.1).lt; simp; try omega) _)
      have t6 : Cells (B7) [.bool nv, .string sv, .bool nx, .string sx] w6 := by rw [← hw6]; exact ((((HA1.out.2.2.2.2.2.2.2).alloc (by have := (HA1.out.2.2.2.2.2.2.2).lt; simp; try omega) _)).alloc (by have := (HA1.out.2.2.2.2.2.2.2).lt; simp; try omega) _)
      have t7 : Cells BT [.bool nt, .string st] w6 := by
        rw [← hw6, ← hBT]
        have h := cells_new w5 #[.bool nt, .string st] 23
        (try simp only at h)
        exact (h.alloc (by simp; try omega) _)
      have t8 : Cells BR [.bool nr, .string sr] w6 := by
        rw [← hw6, ← hBR, ← hBT]
        have h := cells_new (w5.alloc (Obj.cells #[Value.bool nt, Value.string st] 23)) #[.bool nr, .string sr] 23
        (try simp only [World.size_alloc] at h)
        exact h
      have xBT0 : ¬ (w.heap.size) = BT := by have := (HA1.out.2.1).lt; omega
      have xBT1 : ¬ (w.heap.size + 1) = BT := by have := (HA1.out.2.2.1).lt; omega
      have xBT2 : ¬ (w.heap.size + 1 + 1) = BT := by have := (HA1.out.2.2.2.1).lt; omega
      have xBT3 : ¬ (BZ) = BT := by have := (HA1.out.2.2.2.2.1).lt; omega
      have xBT4 : ¬ (BU) = BT := by have := (HA1.out.2.2.2.2.2.1).lt; omega
      have xBT5 : ¬ (B6) = BT := by have := (HA1.out.2.2.2.2.2.2.1).lt; omega
      have xBT6 : ¬ (B7) = BT := by have := (HA1.out.2.2.2.2.2.2.2).lt; omega
      have gBT : w.heap.size ≤ BT := by have := HA1.out.1.size; omega
      have xBR0 : ¬ (w.heap.size) = BR := by have := (HA1.out.2.1).lt; omega
      have xBR1 : ¬ (w.heap.size + 1) = BR := by have := (HA1.out.2.2.1).lt; omega
      have xBR2 : ¬ (w.heap.size + 1 + 1) = BR := by have := (HA1.out.2.2.2.1).lt; omega
      have xBR3 : ¬ (BZ) = BR := by have := (HA1.out.2.2.2.2.1).lt; omega
      have xBR4 : ¬ (BU) = BR := by have := (HA1.out.2.2.2.2.2.1).lt; omega
      have xBR5 : ¬ (B6) = BR := by have := (HA1.out.2.2.2.2.2.2.1).lt; omega
      have xBR6 : ¬ (B7) = BR := by have := (HA1.out.2.2.2.2.2.2.2).lt; omega
      have xBR7 : ¬ BT = BR := by omega
      have gBR : w.heap.size ≤ BR := by have := HA1.out.1.size; omega
      have HA2 := Lib.hid (And.intro f (And.intro t0 (And.intro t1 (And.intro t2 (And.intro t3 (And.intro t4 (And.intro t5 (And.intro t6 (And.intro t7 t8)))))))))
      rw [hw6]
      (try rw [hBT, hBR])
      clear hw6 hBR hBT f t0 t1 t2 t3 t4 t5 t6 t7 t8
      refine (RD2.out _).mono ?_
      rintro e w7 ⟨rfl, c⟩
      have f := HA2.out.1.trans (c.mono HA2.out.1.size)
      have t0 := (HA2.out.2.1).below c (HA2.out.2.1).lt
      have t1 := (HA2.out.2.2.1).below c (HA2.out.2.2.1).lt
      have t2 := (HA2.out.2.2.2.1).below c (HA2.out.2.2.2.1).lt
      have t3 := (HA2.out.2.2.2.2.1).below c (HA2.out.2.2.2.2.1).lt
      have t4 := (HA2.out.2.2.2.2.2.1).below c (HA2.out.2.2.2.2.2.1).lt
      have t5 := (HA2.out.2.2.2.2.2.2.1).below c (HA2.out.2.2.2.2.2.2.1).lt
      have t6 := (HA2.out.2.2.2.2.2.2.2.1).below c (HA2.out.2.2.2.2.2.2.2.1).lt
      have t7 := (HA2.out.2.2.2.2.2.2.2.2.1).below c (HA2.out.2.2.2.2.2.2.2.2.1).lt
      have t8 := (HA2.out.2.2.2.2.2.2.2.2.2).below c (HA2.out.2.2.2.2.2.2.2.2.2).lt
      have HA3 := Lib.hid (And.intro f (And.intro t0 (And.intro t1 (And.intro t2 (And.intro t3 (And.intro t4 (And.intro t5 (And.intro t6 (And.intro t7 t8)))))))))
      clear c f t0 t1 t2 t3 t4 t5 t6 t7 t8
      have q1 := eql_int
      have q2 := neq_int
      have q3 := guard_int
      by_cases hr : n1 % d1 = 0
      · have e1 : eqI nr sr false ⟨#[]⟩ = true := by rw [HE.out.1, hr]; rfl
        have l0 := (HA3.out.2.1).lt
        have l1 := (HA3.out.2.2.1).lt
        have l2 := (HA3.out.2.2.2.1).lt
        have l3 := (HA3.out.2.2.2.2.1).lt
        have m30 := (HA3.out.2.2.2.2.1 0 _ rfl).1
        have m31 := (HA3.out.2.2.2.2.1 1 _ rfl).1
        have l4 := (HA3.out.2.2.2.2.2.1).lt
        have m40 := (HA3.out.2.2.2.2.2.1 0 _ rfl).1
        have m41 := (HA3.out.2.2.2.2.2.1 1 _ rfl).1
        have l5 := (HA3.out.2.2.2.2.2.2.1).lt
        have m50 := (HA3.out.2.2.2.2.2.2.1 0 _ rfl).1
        have m51 := (HA3.out.2.2.2.2.2.2.1 1 _ rfl).1
        have m52 := (HA3.out.2.2.2.2.2.2.1 2 _ rfl).1
        have m53 := (HA3.out.2.2.2.2.2.2.1 3 _ rfl).1
        have l6 := (HA3.out.2.2.2.2.2.2.2.1).lt
        have m60 := (HA3.out.2.2.2.2.2.2.2.1 0 _ rfl).1
        have m61 := (HA3.out.2.2.2.2.2.2.2.1 1 _ rfl).1
        have m62 := (HA3.out.2.2.2.2.2.2.2.1 2 _ rfl).1
        have m63 := (HA3.out.2.2.2.2.2.2.2.1 3 _ rfl).1
        have l7 := (HA3.out.2.2.2.2.2.2.2.2.1).lt
        have m70 := (HA3.out.2.2.2.2.2.2.2.2.1 0 _ rfl).1
        have m71 := (HA3.out.2.2.2.2.2.2.2.2.1 1 _ rfl).1
        have l8 := (HA3.out.2.2.2.2.2.2.2.2.2).lt
        have m80 := (HA3.out.2.2.2.2.2.2.2.2.2 0 _ rfl).1
        have m81 := (HA3.out.2.2.2.2.2.2.2.2.2 1 _ rfl).1
        go_wp2_with fail
        clear l0 l1 l2 l3 m30 m31 l4 m40 m41 l5 m50 m51 m52 m53 l6 m60 m61 m62 m63 l7 m70 m71 l8 m80 m81
        clear q1 q2 q3
        obtain ⟨w8, hw8⟩ : ∃ V, ((w7.alloc (Obj.cells #[Value.bool ng, Value.string sg] 23)).alloc (Obj.cells #[Value.bool nm, Value.string sm] 23)) = V := ⟨_, rfl⟩
        obtain ⟨BG, hBG⟩ : ∃ B, w7.heap.size = B := ⟨_, rfl⟩
        obtain ⟨BM, hBM⟩ : ∃ B, BG + 1 = B := ⟨_, rfl⟩
        have f : Below w.heap.size w w8 := by rw [← hw8]; exact ((HA3.out.1.alloc (by have := HA3.out.1.size; simp; try omega) _).alloc (by have := HA3.out.1.size; simp; try omega) _)
        have t0 : Cells (w.heap.size) [.bool na, .string sa, .bool nb, .string sb] w8 := by rw [← hw8]; exact ((((HA3.out.2.1).alloc (by have := (HA3.out.2.1).lt; simp; try omega) _)).alloc (by have := (HA3.out.2.1).lt; simp; try omega) _)
        have t1 : Cells (w.heap.size + 1) [.bool nc, .string sc, .bool nd, .string sd] w8 := by rw [← hw8]; exact ((((HA3.out.2.2.1).alloc (by have := (HA3.out.2.2.1).lt; simp; try omega) _)).alloc (by have := (HA3.out.2.2.1).lt; simp; try omega) _)
        have t2 : Cells (w.heap.size + 1 + 1) [.bool false, .string ⟨#[]⟩, .bool false, .string ⟨#[]⟩] w8 := by rw [← hw8]; exact ((((HA3.out.2.2.2.1).alloc (by have := (HA3.out.2.2.2.1).lt; simp; try omega) _)).alloc (by have := (HA3.out.2.2.2.1).lt; simp; try omega) _)
        have t3 : Cells (BZ) [.bool false, .string ⟨#[]⟩] w8 := by rw [← hw8]; exact ((((HA3.out.2.2.2.2.1).alloc (by have := (HA3.out.2.2.2.2.1).lt; simp; try omega) _)).alloc (by have := (HA3.out.2.2.2.2.1).lt; simp; try omega) _)
        have t4 : Cells (BU) [.bool false, .string ⟨#[1]⟩] w8 := by rw [← hw8]; exact ((((HA3.out.2.2.2.2.2.1).alloc (by have := (HA3.out.2.2.2.2.2.1).lt; simp; try omega) _)).alloc (by have := (HA3.out.2.2.2.2.2.1).lt; simp; try omega) _)
        have t5 : Cells (B6) [.bool ny, .string sy, .bool nz, .string sz] w8 := by rw [← hw8]; exact ((((HA3.out.2.2.2.2.2.2.1).alloc (by have := (HA3.out.2.2.2.2.2.2.1).lt; simp; try omega) _)).alloc (by have := (HA3.out.2.2.2.2.2.2.1).lt; simp; try omega) _)
        have t6 : Cells (B7) [.bool nv, .string sv, .bool nx, .string sx] w8 := by rw [← hw8]; exact ((((HA3.out.2.2.2.2.2.2.2.1).alloc (by have := (HA3.out.2.2.2.2.2.2.2.1).lt; simp; try omega) _)).alloc (by have := (HA3.out.2.2.2.2.2.2.2.1).lt; simp; try omega) _)
        have t7 : Cells (BT) [.bool nt, .string st] w8 := by rw [← hw8]; exact ((((HA3.out.2.2.2.2.2.2.2.2.1).alloc (by have := (HA3.out.2.2.2.2.2.2.2.2.1).lt; simp; try omega) _)).alloc (by have := (HA3.out.2.2.2.2.2.2.2.2.1).lt; simp; try omega) _)
        have t8 : Cells (BR) [.bool nr, .string sr] w8 := by rw [← hw8]; exact ((((HA3.out.2.2.2.2.2.2.2.2.2).alloc (by have := (HA3.out.2.2.2.2.2.2.2.2.2).lt; simp; try omega) _)).alloc (by have := (HA3.out.2.2.2.2.2.2.2.2.2).lt; simp; try omega) _)
        have t9 : Cells BG [.bool ng, .string sg] w8 := by
          rw [← hw8, ← hBG]
          have h := cells_new w7 #[.bool ng, .string sg] 23
          (try simp only at h)
          exact (h.alloc (by simp; try omega) _)
        have t10 : Cells BM [.bool nm, .string sm] w8 := by
          rw [← hw8, ← hBM, ← hBG]
          have h := cells_new (w7.alloc (Obj.cells #[Value.bool ng, Value.string sg] 23)) #[.bool nm, .string sm] 23
          (try simp only [World.size_alloc] at h)
          exact h
        have xBG0 : ¬ (w.heap.size) = BG := by have := (HA3.out.2.1).lt; omega
        have xBG1 : ¬ (w.heap.size + 1) = BG := by have := (HA3.out.2.2.1).lt; omega
        have xBG2 : ¬ (w.heap.size + 1 + 1) = BG := by have := (HA3.out.2.2.2.1).lt; omega
        have xBG3 : ¬ (BZ) = BG := by have := (HA3.out.2.2.2.2.1).lt; omega
        have xBG4 : ¬ (BU) = BG := by have := (HA3.out.2.2.2.2.2.1).lt; omega
        have xBG5 : ¬ (B6) = BG := by have := (HA3.out.2.2.2.2.2.2.1).lt; omega
        have xBG6 : ¬ (B7) = BG := by have := (HA3.out.2.2.2.2.2.2.2.1).lt; omega
        have xBG7 : ¬ (BT) = BG := by have := (HA3.out.2.2.2.2.2.2.2.2.1).lt; omega
        have xBG8 : ¬ (BR) = BG := by have := (HA3.out.2.2.2.2.2.2.2.2.2).lt; omega
        have gBG : w.heap.size ≤ BG := by have := HA3.out.1.size; omega
        have xBM0 : ¬ (w.heap.size) = BM := by have := (HA3.out.2.1).lt; omega
        have xBM1 : ¬ (w.heap.size + 1) = BM := by have := (HA3.out.2.2.1).lt; omega
        have xBM2 : ¬ (w.heap.size + 1 + 1) = BM := by have := (HA3.out.2.2.2.1).lt; omega
        have xBM3 : ¬ (BZ) = BM := by have := (HA3.out.2.2.2.2.1).lt; omega
        have xBM4 : ¬ (BU) = BM := by have := (HA3.out.2.2.2.2.2.1).lt; omega
        have xBM5 : ¬ (B6) = BM := by have := (HA3.out.2.2.2.2.2.2.1).lt; omega
        have xBM6 : ¬ (B7) = BM := by have := (HA3.out.2.2.2.2.2.2.2.1).lt; omega
        have xBM7 : ¬ (BT) = BM := by have := (HA3.out.2.2.2.2.2.2.2.2.1).lt; omega
        have xBM8 : ¬ (BR) = BM := by have := (HA3.out.2.2.2.2.2.2.2.2.2).lt; omega
        have xBM9 : ¬ BG = BM := by omega
        have gBM : w.heap.size ≤ BM := by have := HA3.out.1.size; omega
        have HA4 := Lib.hid (And.intro f (And.intro t0 (And.intro t1 (And.intro t2 (And.intro t3 (And.intro t4 (And.intro t5 (And.intro t6 (And.intro t7 (And.intro t8 (And.intro t9 t10)))))))))))
        rw [hw8]
        (try rw [hBG, hBM])
        clear hw8 hBM hBG f t0 t1 t2 t3 t4 t5 t6 t7 t8 t9 t10
        refine (cont_nat HV.out.2.2.2.2.1 HV.out.2.2.2.2.2.1 (nam_of HN.out.1 (Nat.le_trans (Nat.div_le_self _ _) HBT.out.b1) HM.out.1 HM.out.2) HV.out.2.2.2.2.2.2.1 HV.out.2.2.2.2.2.2.2 HBT.out.b5 HBT.out.b6 (Nat.le_succ_of_le (Nat.le_trans (Nat.div_le_self _ _) HBT.out.b1)) HM.out.1 HM.out.2 (HBT.out.int hr).1 (HBT.out.int hr).2 HMP.out.1 HMP.out.2 _).mono ?_
        rintro e w9 ⟨rfl, c⟩
        have f := HA4.out.1.trans (c.mono HA4.out.1.size)
        have t0 := (HA4.out.2.1).below c (HA4.out.2.1).lt
        have t1 := (HA4.out.2.2.1).below c (HA4.out.2.2.1).lt
        have t2 := (HA4.out.2.2.2.1).below c (HA4.out.2.2.2.1).lt
        have t3 := (HA4.out.2.2.2.2.1).below c (HA4.out.2.2.2.2.1).lt
        have t4 := (HA4.out.2.2.2.2.2.1).below c (HA4.out.2.2.2.2.2.1).lt
        have t5 := (HA4.out.2.2.2.2.2.2.1).below c (HA4.out.2.2.2.2.2.2.1).lt
        have t6 := (HA4.out.2.2.2.2.2.2.2.1).below c (HA4.out.2.2.2.2.2.2.2.1).lt
        have t7 := (HA4.out.2.2.2.2.2.2.2.2.1).below c (HA4.out.2.2.2.2.2.2.2.2.1).lt
        have t8 := (HA4.out.2.2.2.2.2.2.2.2.2.1).below c (HA4.out.2.2.2.2.2.2.2.2.2.1).lt
        have t9 := (HA4.out.2.2.2.2.2.2.2.2.2.2.1).below c (HA4.out.2.2.2.2.2.2.2.2.2.2.1).lt
        have t10 := (HA4.out.2.2.2.2.2.2.2.2.2.2.2).below c (HA4.out.2.2.2.2.2.2.2.2.2.2.2).lt
        have HA5 := Lib.hid (And.intro f (And.intro t0 (And.intro t1 (And.intro t2 (And.intro t3 (And.intro t4 (And.intro t5 (And.intro t6 (And.intro t7 (And.intro t8 (And.intro t9 t10)))))))))))
        clear c f t0 t1 t2 t3 t4 t5 t6 t7 t8 t9 t10
        (try clear gBG)
        (try clear gBM)
        (try clear gBR)
        (try clear gBT)
        (try clear gBU)
        (try clear gBZ)
        (try clear rE)
        (try clear rV)
        (try clear xBG0)
        (try clear xBG1)
        (try clear xBG2)
        (try clear xBG3)
        (try clear xBG4)
        (try clear xBG5)
        (try clear xBG6)
        (try clear xBG7)
        (try clear xBG8)
        (try clear xBM0)
        (try clear xBM1)
        (try clear xBM2)
        (try clear xBM3)
        (try clear xBM4)
        (try clear xBM5)
        (try clear xBM6)
        (try clear xBM7)
        (try clear xBM8)
        (try clear xBM9)
        (try clear xBR0)
        (try clear xBR1)
        (try clear xBR2)
        (try clear xBR3)
        (try clear xBR4)
        (try clear xBR5)
        (try clear xBR6)
        (try clear xBR7)
        (try clear xBT0)
        (try clear xBT1)
        (try clear xBT2)
        (try clear xBT3)
        (try clear xBT4)
        (try clear xBT5)
        (try clear xBT6)
        (try clear xBU0)
        (try clear xBU1)
        (try clear xBU2)
        (try clear xBU3)
        (try clear xBZ0)
        (try clear xBZ1)
        (try clear xBZ2)
        (try clear xE0)
        (try clear xE1)
        (try clear xE2)
        (try clear xE3)
        (try clear xE4)
        (try clear xV0)
        (try clear xV1)
        (try clear xV2)
        (try clear xV3)
        (try clear xV4)
        (try clear hr)
        (try clear e1)
        (try clear e2)
        (try clear hc)
        (try clear e6_7)
        have l2 := (HA5.out.2.2.2.1).lt
        have m20 := (HA5.out.2.2.2.1 0 _ rfl).1
        have z20 := (HA5.out.2.2.2.1 0 _ rfl).2
        have m21 := (HA5.out.2.2.2.1 1 _ rfl).1
        have z21 := (HA5.out.2.2.2.1 1 _ rfl).2
        have m22 := (HA5.out.2.2.2.1 2 _ rfl).1
        have z22 := (HA5.out.2.2.2.1 2 _ rfl).2
        have m23 := (HA5.out.2.2.2.1 3 _ rfl).1
        have z23 := (HA5.out.2.2.2.1 3 _ rfl).2
        go_wp2_with fail
        have yc0 : Cells (w.heap.size + 1 + 1) [.bool nP, .string ⟨#[]⟩, .bool false, .string ⟨#[]⟩] _ := (HA5.out.2.2.2.1).set (k := 0) (Value.bool nP) _ rfl
        have yc1 : Cells (w.heap.size + 1 + 1) [.bool nP, .string sP, .bool false, .string ⟨#[]⟩] _ := (yc0).set (k := 1) (Value.string sP) _ rfl
        have yc2 : Cells (w.heap.size + 1 + 1) [.bool nP, .string sP, .bool nQ, .string ⟨#[]⟩] _ := (yc1).set (k := 2) (Value.bool nQ) _ rfl
        have yc3 : Cells (w.heap.size + 1 + 1) [.bool nP, .string sP, .bool nQ, .string sQ] _ := (yc2).set (k := 3) (Value.string sQ) _ rfl
        have y0 := (yc3 0 _ rfl).1
        have y1 := (yc3 1 _ rfl).1
        have y2 := (yc3 2 _ rfl).1
        have y3 := (yc3 3 _ rfl).1
        refine bodyPost_ret (v := .agg #[.bool nP, .string sP, .bool nQ, .string sQ]) (by simp [results, Tryz.results86, go_sem, y0, y1, y2, y3]) rfl ⟨rfl, (below_sets (below_sets (below_sets (below_sets HA5.out.1 (show w.heap.size ≤ w.heap.size + 1 + 1 by omega) 0 (Value.bool nP)) (show w.heap.size ≤ w.heap.size + 1 + 1 by omega) 1 (Value.string sP)) (show w.heap.size ≤ w.heap.size + 1 + 1 by omega) 2 (Value.bool nQ)) (show w.heap.size ≤ w.heap.size + 1 + 1 by omega) 3 (Value.string sQ))⟩
      · have e1 : eqI nr sr false ⟨#[]⟩ = false := by rw [HE.out.1]; exact decide_eq_false (by omega)
        by_cases hc : n1 / d1 = n2 / d2
        · have e2 : eqI nt st ng sg = true := by rw [HE.out.2, hc]; exact decide_eq_true rfl
          obtain ⟨nN, sN, mN⟩ := nam_ex ((n1 / d1 * vn + en : Nat) : Int)
          obtain ⟨nO, sO, mO⟩ := nam_ex ((n1 / d1 * vd + ed : Nat) : Int)
          have HNO := Lib.hid (And.intro mN mO)
          clear mN mO
          have l0 := (HA3.out.2.1).lt
          have l1 := (HA3.out.2.2.1).lt
          have l2 := (HA3.out.2.2.2.1).lt
          have l3 := (HA3.out.2.2.2.2.1).lt
          have m30 := (HA3.out.2.2.2.2.1 0 _ rfl).1
          have m31 := (HA3.out.2.2.2.2.1 1 _ rfl).1
          have l4 := (HA3.out.2.2.2.2.2.1).lt
          have m40 := (HA3.out.2.2.2.2.2.1 0 _ rfl).1
          have m41 := (HA3.out.2.2.2.2.2.1 1 _ rfl).1
          have l5 := (HA3.out.2.2.2.2.2.2.1).lt
          have m50 := (HA3.out.2.2.2.2.2.2.1 0 _ rfl).1
          have m51 := (HA3.out.2.2.2.2.2.2.1 1 _ rfl).1
          have m52 := (HA3.out.2.2.2.2.2.2.1 2 _ rfl).1
          have m53 := (HA3.out.2.2.2.2.2.2.1 3 _ rfl).1
          have l6 := (HA3.out.2.2.2.2.2.2.2.1).lt
          have m60 := (HA3.out.2.2.2.2.2.2.2.1 0 _ rfl).1
          have m61 := (HA3.out.2.2.2.2.2.2.2.1 1 _ rfl).1
          have m62 := (HA3.out.2.2.2.2.2.2.2.1 2 _ rfl).1
          have m63 := (HA3.out.2.2.2.2.2.2.2.1 3 _ rfl).1
          have l7 := (HA3.out.2.2.2.2.2.2.2.2.1).lt
          have m70 := (HA3.out.2.2.2.2.2.2.2.2.1 0 _ rfl).1
          have m71 := (HA3.out.2.2.2.2.2.2.2.2.1 1 _ rfl).1
          have l8 := (HA3.out.2.2.2.2.2.2.2.2.2).lt
          have m80 := (HA3.out.2.2.2.2.2.2.2.2.2 0 _ rfl).1
          have m81 := (HA3.out.2.2.2.2.2.2.2.2.2 1 _ rfl).1
          go_wp2_with fail
          clear l0 l1 l2 l3 m30 m31 l4 m40 m41 l5 m50 m51 m52 m53 l6 m60 m61 m62 m63 l7 m70 m71 l8 m80 m81
          clear q1 q2 q3
          obtain ⟨w8, hw8⟩ : ∃ V, ((w7.alloc (Obj.cells #[Value.bool ng, Value.string sg] 23)).alloc (Obj.cells #[Value.bool nm, Value.string sm] 23)) = V := ⟨_, rfl⟩
          obtain ⟨BG, hBG⟩ : ∃ B, w7.heap.size = B := ⟨_, rfl⟩
          obtain ⟨BM, hBM⟩ : ∃ B, BG + 1 = B := ⟨_, rfl⟩
          have f : Below w.heap.size w w8 := by rw [← hw8]; exact ((HA3.out.1.alloc (by have := HA3.out.1.size; simp; try omega) _).alloc (by have := HA3.out.1.size; simp; try omega) _)
          have t0 : Cells (w.heap.size) [.bool na, .string sa, .bool nb, .string sb] w8 := by rw [← hw8]; exact ((((HA3.out.2.1).alloc (by have := (HA3.out.2.1).lt; simp; try omega) _)).alloc (by have := (HA3.out.2.1).lt; simp; try omega) _)
          have t1 : Cells (w.heap.size + 1) [.bool nc, .string sc, .bool nd, .string sd] w8 := by rw [← hw8]; exact ((((HA3.out.2.2.1).alloc (by have := (HA3.out.2.2.1).lt; simp; try omega) _)).alloc (by have := (HA3.out.2.2.1).lt; simp; try omega) _)
          have t2 : Cells (w.heap.size + 1 + 1) [.bool false, .string ⟨#[]⟩, .bool false, .string ⟨#[]⟩] w8 := by rw [← hw8]; exact ((((HA3.out.2.2.2.1).alloc (by have := (HA3.out.2.2.2.1).lt; simp; try omega) _)).alloc (by have := (HA3.out.2.2.2.1).lt; simp; try omega) _)
          have t3 : Cells (BZ) [.bool false, .string ⟨#[]⟩] w8 := by rw [← hw8]; exact ((((HA3.out.2.2.2.2.1).alloc (by have := (HA3.out.2.2.2.2.1).lt; simp; try omega) _)).alloc (by have := (HA3.out.2.2.2.2.1).lt; simp; try omega) _)
          have t4 : Cells (BU) [.bool false, .string ⟨#[1]⟩] w8 := by rw [← hw8]; exact ((((HA3.out.2.2.2.2.2.1).alloc (by have := (HA3.out.2.2.2.2.2.1).lt; simp; try omega) _)).alloc (by have := (HA3.out.2.2.2.2.2.1).lt; simp; try omega) _)
          have t5 : Cells (B6) [.bool ny, .string sy, .bool nz, .string sz] w8 := by rw [← hw8]; exact ((((HA3.out.2.2.2.2.2.2.1).alloc (by have := (HA3.out.2.2.2.2.2.2.1).lt; simp; try omega) _)).alloc (by have := (HA3.out.2.2.2.2.2.2.1).lt; simp; try omega) _)
          have t6 : Cells (B7) [.bool nv, .string sv, .bool nx, .string sx] w8 := by rw [← hw8]; exact ((((HA3.out.2.2.2.2.2.2.2.1).alloc (by have := (HA3.out.2.2.2.2.2.2.2.1).lt; simp; try omega) _)).alloc (by have := (HA3.out.2.2.2.2.2.2.2.1).lt; simp; try omega) _)
          have t7 : Cells (BT) [.bool nt, .string st] w8 := by rw [← hw8]; exact ((((HA3.out.2.2.2.2.2.2.2.2.1).alloc (by have := (HA3.out.2.2.2.2.2.2.2.2.1).lt; simp; try omega) _)).alloc (by have := (HA3.out.2.2.2.2.2.2.2.2.1).lt; simp; try omega) _)
          have t8 : Cells (BR) [.bool nr, .string sr] w8 := by rw [← hw8]; exact ((((HA3.out.2.2.2.2.2.2.2.2.2).alloc (by have := (HA3.out.2.2.2.2.2.2.2.2.2).lt; simp; try omega) _)).alloc (by have := (HA3.out.2.2.2.2.2.2.2.2.2).lt; simp; try omega) _)
          have t9 : Cells BG [.bool ng, .string sg] w8 := by
            rw [← hw8, ← hBG]
            have h := cells_new w7 #[.bool ng, .string sg] 23
            (try simp only at h)
            exact (h.alloc (by simp; try omega) _)
          have t10 : Cells BM [.bool nm, .string sm] w8 := by
            rw [← hw8, ← hBM, ← hBG]
            have h := cells_new (w7.alloc (Obj.cells #[Value.bool ng, Value.string sg] 23)) #[.bool nm, .string sm] 23
            (try simp only [World.size_alloc] at h)
            exact h
          have xBG0 : ¬ (w.heap.size) = BG := by have := (HA3.out.2.1).lt; omega
          have xBG1 : ¬ (w.heap.size + 1) = BG := by have := (HA3.out.2.2.1).lt; omega
          have xBG2 : ¬ (w.heap.size + 1 + 1) = BG := by have := (HA3.out.2.2.2.1).lt; omega
          have xBG3 : ¬ (BZ) = BG := by have := (HA3.out.2.2.2.2.1).lt; omega
          have xBG4 : ¬ (BU) = BG := by have := (HA3.out.2.2.2.2.2.1).lt; omega
          have xBG5 : ¬ (B6) = BG := by have := (HA3.out.2.2.2.2.2.2.1).lt; omega
          have xBG6 : ¬ (B7) = BG := by have := (HA3.out.2.2.2.2.2.2.2.1).lt; omega
          have xBG7 : ¬ (BT) = BG := by have := (HA3.out.2.2.2.2.2.2.2.2.1).lt; omega
          have xBG8 : ¬ (BR) = BG := by have := (HA3.out.2.2.2.2.2.2.2.2.2).lt; omega
          have gBG : w.heap.size ≤ BG := by have := HA3.out.1.size; omega
          have xBM0 : ¬ (w.heap.size) = BM := by have := (HA3.out.2.1).lt; omega
          have xBM1 : ¬ (w.heap.size + 1) = BM := by have := (HA3.out.2.2.1).lt; omega
          have xBM2 : ¬ (w.heap.size + 1 + 1) = BM := by have := (HA3.out.2.2.2.1).lt; omega
          have xBM3 : ¬ (BZ) = BM := by have := (HA3.out.2.2.2.2.1).lt; omega
          have xBM4 : ¬ (BU) = BM := by have := (HA3.out.2.2.2.2.2.1).lt; omega
          have xBM5 : ¬ (B6) = BM := by have := (HA3.out.2.2.2.2.2.2.1).lt; omega
          have xBM6 : ¬ (B7) = BM := by have := (HA3.out.2.2.2.2.2.2.2.1).lt; omega
          have xBM7 : ¬ (BT) = BM := by have := (HA3.out.2.2.2.2.2.2.2.2.1).lt; omega
          have xBM8 : ¬ (BR) = BM := by have := (HA3.out.2.2.2.2.2.2.2.2.2).lt; omega
          have xBM9 : ¬ BG = BM := by omega
          have gBM : w.heap.size ≤ BM := by have := HA3.out.1.size; omega
          have HA4 := Lib.hid (And.intro f (And.intro t0 (And.intro t1 (And.intro t2 (And.intro t3 (And.intro t4 (And.intro t5 (And.intro t6 (And.intro t7 (And.intro t8 (And.intro t9 t10)))))))))))
          rw [hw8]
          (try rw [hBG, hBM])
          clear hw8 hBM hBG f t0 t1 t2 t3 t4 t5 t6 t7 t8 t9 t10
          have HX := Lib.hid (And.intro gBG (And.intro gBM (And.intro gBR (And.intro gBT (And.intro gBU (And.intro gBZ (And.intro rE (And.intro rV (And.intro xBG0 (And.intro xBG1 (And.intro xBG2 (And.intro xBG3 (And.intro xBG4 (And.intro xBG5 (And.intro xBG6 (And.intro xBG7 (And.intro xBG8 (And.intro xBM0 (And.intro xBM1 (And.intro xBM2 (And.intro xBM3 (And.intro xBM4 (And.intro xBM5 (And.intro xBM6 (And.intro xBM7 (And.intro xBM8 (And.intro xBM9 (And.intro xBR0 (And.intro xBR1 (And.intro xBR2 (And.intro xBR3 (And.intro xBR4 (And.intro xBR5 (And.intro xBR6 (And.intro xBR7 (And.intro xBT0 (And.intro xBT1 (And.intro xBT2 (And.intro xBT3 (And.intro xBT4 (And.intro xBT5 (And.intro xBT6 (And.intro xBU0 (And.intro xBU1 (And.intro xBU2 (And.intro xBU3 (And.intro xBZ0 (And.intro xBZ1 (And.intro xBZ2 (And.intro xE0 (And.intro xE1 (And.intro xE2 (And.intro xE3 (And.intro xE4 (And.intro xV0 (And.intro xV1 (And.intro xV2 (And.intro xV3 (And.intro xV4 (e6_7))))))))))))))))))))))))))))))))))))))))))))))))))))))))))))
          clear gBG gBM gBR gBT gBU gBZ rE rV xBG0 xBG1 xBG2 xBG3 xBG4 xBG5 xBG6 xBG7 xBG8 xBM0 xBM1 xBM2 xBM3 xBM4 xBM5 xBM6 xBM7 xBM8 xBM9 xBR0 xBR1 xBR2 xBR3 xBR4 xBR5 xBR6 xBR7 xBT0 xBT1 xBT2 xBT3 xBT4 xBT5 xBT6 xBU0 xBU1 xBU2 xBU3 xBZ0 xBZ1 xBZ2 xE0 xE1 xE2 xE3 xE4 xV0 xV1 xV2 xV3 xV4 e6_7
          have hbase := HA4.out.1.size
          refine wp_region_invA (fun a listed a' w' => ∃ t59 t60 t61 t62 t63 : Value, a' = puts a [(59, t59), (60, t60), (61, t61), (62, t62), (63, t63)] ∧ Below (w.heap.size) w8 w' ∧ (listed.getD 0 false = true → t59 = .agg #[.bool nv, .string sv, .bool nx, .string sx]) ∧ (listed.getD 1 false = true → t60 = .agg #[.bool nv, .string sv, .bool nx, .string sx]) ∧ (listed.getD 2 false = true → t61 = .agg #[.bool nt, .string st]) ∧ (listed.getD 3 false = true → t62 = .agg #[.bool ny, .string sy, .bool nz, .string sz]) ∧ (listed.getD 4 false = true → t63 = .agg #[.bool nN, .string sN, .bool nO, .string sO]) ∧ Cells (B6) (if listed.getD 5 false = true then [.bool nv, .string sv, .bool nx, .string sx] else [.bool ny, .string sy, .bool nz, .string sz]) w' ∧ Cells (B7) (if listed.getD 6 false = true then [.bool nN, .string sN, .bool nO, .string sO] else [.bool nv, .string sv, .bool nx, .string sx]) w' ∧ Cells (w.heap.size) [.bool na, .string sa, .bool nb, .string sb] w' ∧ Cells (w.heap.size + 1) [.bool nc, .string sc, .bool nd, .string sd] w' ∧ Cells (w.heap.size + 1 + 1) [.bool false, .string ⟨#[]⟩, .bool false, .string ⟨#[]⟩] w' ∧ Cells (BZ) [.bool false, .string ⟨#[]⟩] w' ∧ Cells (BU) [.bool false, .string ⟨#[1]⟩] w' ∧ Cells (BT) [.bool nt, .string st] w' ∧ Cells (BR) [.bool nr, .string sr] w' ∧ Cells (BG) [.bool ng, .string sg] w' ∧ Cells (BM) [.bool nm, .string sm] w' ∧ (listed.getD 5 false = true → listed.getD 3 false = true) ∧ (listed.getD 6 false = true → listed.getD 0 false = true) ∧ (listed.getD 6 false = true → listed.getD 1 false = true)) (by kernel_rfl) (by kernel_rfl) ?_ ?_ ?_
          · exact ⟨u59, u60, u61, u62, u63, (by kernel_rfl), (Below.refl _ _).drew, (fun h => getD_rep h), (fun h => getD_rep h), (fun h => getD_rep h), (fun h => getD_rep h), (fun h => getD_rep h), (by rw [if_neg (fun h => getD_rep h)]; exact (show Cells _ _ w8.drew from HA4.out.2.2.2.2.2.2.1)), (by rw [if_neg (fun h => getD_rep h)]; exact (show Cells _ _ w8.drew from HA4.out.2.2.2.2.2.2.2.1)), (show Cells _ _ w8.drew from HA4.out.2.1), (show Cells _ _ w8.drew from HA4.out.2.2.1), (show Cells _ _ w8.drew from HA4.out.2.2.2.1), (show Cells _ _ w8.drew from HA4.out.2.2.2.2.1), (show Cells _ _ w8.drew from HA4.out.2.2.2.2.2.1), (show Cells _ _ w8.drew from HA4.out.2.2.2.2.2.2.2.2.1), (show Cells _ _ w8.drew from HA4.out.2.2.2.2.2.2.2.2.2.1), (show Cells _ _ w8.drew from HA4.out.2.2.2.2.2.2.2.2.2.2.1), (show Cells _ _ w8.drew from HA4.out.2.2.2.2.2.2.2.2.2.2.2), (fun h => getD_rep h), (fun h => getD_rep h), (fun h => getD_rep h)⟩
          · show InvSteps _ _ _ _ _ [0, 1, 2, 3, 4, 5, 6]
            refine InvSteps.cons rfl (fun listed a w' K' hlt hun hdep hI hK => ?_) ?_
            · obtain ⟨t59, t60, t61, t62, t63, ha, hb, h0, h1, h2, h3, h4, M5, M6, S0, S1, S2, S3, S4, S7, S8, S9, S10, s5_3, s6_0, s6_1⟩ := hI
              clear hdep
              have hu6 : ¬ listed.getD 6 false = true := fun h => by have h' := s6_0 h; rw [hun] at h'; cases h'
              have kc := M6
              rw [if_neg hu6] at kc
              have kl := kc.lt
              have k0 := (kc 0 _ rfl).1
              have k1 := (kc 1 _ rfl).1
              have k2 := (kc 2 _ rfl).1
              have k3 := (kc 3 _ rfl).1
              clear kc
              rw [ha]
              clear ha a
              simp only [puts_cons, puts_nil, Act.put, List.setIfInBounds_toArray, List.set_cons_zero, List.set_cons_succ]
              go_simp
              exact hK.out _ _ ⟨(.agg #[.bool nv, .string sv, .bool nx, .string sx]), t60, t61, t62, t63, (by kernel_rfl), hb, fun _ => rfl, fun h => h1 (getD_ne h (by decide : 0 ≠ 1)), fun h => h2 (getD_ne h (by decide : 0 ≠ 2)), fun h => h3 (getD_ne h (by decide : 0 ≠ 3)), fun h => h4 (getD_ne h (by decide : 0 ≠ 4)), (by rw [getD_set_ne false (by decide : 0 ≠ 5)]; exact M5), (by rw [getD_set_ne false (by decide : 0 ≠ 6)]; exact M6), S0, S1, S2, S3, S4, S7, S8, S9, S10, fun h => getD_set_true (s5_3 (getD_ne h (by decide : 0 ≠ 5))), fun _ => getD_self hlt, fun h => getD_set_true (s6_1 (getD_ne h (by decide : 0 ≠ 6)))⟩
            refine InvSteps.cons rfl (fun listed a w' K' hlt hun hdep hI hK => ?_) ?_
            · obtain ⟨t59, t60, t61, t62, t63, ha, hb, h0, h1, h2, h3, h4, M5, M6, S0, S1, S2, S3, S4, S7, S8, S9, S10, s5_3, s6_0, s6_1⟩ := hI
              clear hdep
              have hu6 : ¬ listed.getD 6 false = true := fun h => by have h' := s6_1 h; rw [hun] at h'; cases h'
              have kc := M6
              rw [if_neg hu6] at kc
              have kl := kc.lt
              have k0 := (kc 0 _ rfl).1
              have k1 := (kc 1 _ rfl).1
              have k2 := (kc 2 _ rfl).1
              have k3 := (kc 3 _ rfl).1
              clear kc
              rw [ha]
              clear ha a
              simp only [puts_cons, puts_nil, Act.put, List.setIfInBounds_toArray, List.set_cons_zero, List.set_cons_succ]
              go_simp
              exact hK.out _ _ ⟨t59, (.agg #[.bool nv, .string sv, .bool nx, .string sx]), t61, t62, t63, (by kernel_rfl), hb, fun h => h0 (getD_ne h (by decide : 1 ≠ 0)), fun _ => rfl, fun h => h2 (getD_ne h (by decide : 1 ≠ 2)), fun h => h3 (getD_ne h (by decide : 1 ≠ 3)), fun h => h4 (getD_ne h (by decide : 1 ≠ 4)), (by rw [getD_set_ne false (by decide : 1 ≠ 5)]; exact M5), (by rw [getD_set_ne false (by decide : 1 ≠ 6)]; exact M6), S0, S1, S2, S3, S4, S7, S8, S9, S10, fun h => getD_set_true (s5_3 (getD_ne h (by decide : 1 ≠ 5))), fun h => getD_set_true (s6_0 (getD_ne h (by decide : 1 ≠ 6))), fun _ => getD_self hlt⟩
            refine InvSteps.cons rfl (fun listed a w' K' hlt hun hdep hI hK => ?_) ?_
            · obtain ⟨t59, t60, t61, t62, t63, ha, hb, h0, h1, h2, h3, h4, M5, M6, S0, S1, S2, S3, S4, S7, S8, S9, S10, s5_3, s6_0, s6_1⟩ := hI
              clear hdep
              have kc := S7
              have kl := kc.lt
              have k0 := (kc 0 _ rfl).1
              have k1 := (kc 1 _ rfl).1
              clear kc
              rw [ha]
              clear ha a
              simp only [puts_cons, puts_nil, Act.put, List.setIfInBounds_toArray, List.set_cons_zero, List.set_cons_succ]
              go_simp
              exact hK.out _ _ ⟨t59, t60, (.agg #[.bool nt, .string st]), t62, t63, (by kernel_rfl), hb, fun h => h0 (getD_ne h (by decide : 2 ≠ 0)), fun h => h1 (getD_ne h (by decide : 2 ≠ 1)), fun _ => rfl, fun h => h3 (getD_ne h (by decide : 2 ≠ 3)), fun h => h4 (getD_ne h (by decide : 2 ≠ 4)), (by rw [getD_set_ne false (by decide : 2 ≠ 5)]; exact M5), (by rw [getD_set_ne false (by decide : 2 ≠ 6)]; exact M6), S0, S1, S2, S3, S4, S7, S8, S9, S10, fun h => getD_set_true (s5_3 (getD_ne h (by decide : 2 ≠ 5))), fun h => getD_set_true (s6_0 (getD_ne h (by decide : 2 ≠ 6))), fun h => getD_set_true (s6_1 (getD_ne h (by decide : 2 ≠ 6)))⟩
            refine InvSteps.cons rfl (fun listed a w' K' hlt hun hdep hI hK => ?_) ?_
            · obtain ⟨t59, t60, t61, t62, t63, ha, hb, h0, h1, h2, h3, h4, M5, M6, S0, S1, S2, S3, S4, S7, S8, S9, S10, s5_3, s6_0, s6_1⟩ := hI
              clear hdep
              have hu5 : ¬ listed.getD 5 false = true := fun h => by have h' := s5_3 h; rw [hun] at h'; cases h'
              have kc := M5
              rw [if_neg hu5] at kc
              have kl := kc.lt
              have k0 := (kc 0 _ rfl).1
              have k1 := (kc 1 _ rfl).1
              have k2 := (kc 2 _ rfl).1
              have k3 := (kc 3 _ rfl).1
              clear kc
              rw [ha]
              clear ha a
              simp only [puts_cons, puts_nil, Act.put, List.setIfInBounds_toArray, List.set_cons_zero, List.set_cons_succ]
              go_simp
              exact hK.out _ _ ⟨t59, t60, t61, (.agg #[.bool ny, .string sy, .bool nz, .string sz]), t63, (by kernel_rfl), hb, fun h => h0 (getD_ne h (by decide : 3 ≠ 0)), fun h => h1 (getD_ne h (by decide : 3 ≠ 1)), fun h => h2 (getD_ne h (by decide : 3 ≠ 2)), fun _ => rfl, fun h => h4 (getD_ne h (by decide : 3 ≠ 4)), (by rw [getD_set_ne false (by decide : 3 ≠ 5)]; exact M5), (by rw [getD_set_ne false (by decide : 3 ≠ 6)]; exact M6), S0, S1, S2, S3, S4, S7, S8, S9, S10, fun _ => getD_self hlt, fun h => getD_set_true (s6_0 (getD_ne h (by decide : 3 ≠ 6))), fun h => getD_set_true (s6_1 (getD_ne h (by decide : 3 ≠ 6)))⟩
            refine InvSteps.cons rfl (fun listed a w' K' hlt hun hdep hI hK => ?_) ?_
            · obtain ⟨t59, t60, t61, t62, t63, ha, hb, h0, h1, h2, h3, h4, M5, M6, S0, S1, S2, S3, S4, S7, S8, S9, S10, s5_3, s6_0, s6_1⟩ := hI
              have H1 := hdep ⟨1, Ground.data⟩ (by simp) rfl
              have H2 := hdep ⟨2, Ground.data⟩ (by simp) rfl
              have H3 := hdep ⟨3, Ground.data⟩ (by simp) rfl
              clear hdep
              have g1 := h1 H1
              subst g1
              have g2 := h2 H2
              subst g2
              have g3 := h3 H3
              subst g3
              rw [ha]
              clear ha a
              simp only [puts_cons, puts_nil, Act.put, List.setIfInBounds_toArray, List.set_cons_zero, List.set_cons_succ]
              go_simp
              refine (cont_nat HV.out.2.2.2.2.1 HV.out.2.2.2.2.2.1 (nam_of HN.out.1 (Nat.le_trans (Nat.div_le_self _ _) HBT.out.b1) HM.out.1 HM.out.2) HV.out.2.2.2.2.2.2.1 HV.out.2.2.2.2.2.2.2 HBT.out.b5 HBT.out.b6 (Nat.le_succ_of_le (Nat.le_trans (Nat.div_le_self _ _) HBT.out.b1)) HM.out.1 HM.out.2 rfl rfl HNO.out.1 HNO.out.2 _).mono ?_
              rintro e u ⟨rfl, c⟩
              go_simp
              exact hK.out _ _ ⟨t59, (.agg #[.bool nv, .string sv, .bool nx, .string sx]), (.agg #[.bool nt, .string st]), (.agg #[.bool ny, .string sy, .bool nz, .string sz]), (.agg #[.bool nN, .string sN, .bool nO, .string sO]), (by kernel_rfl), hb.trans (c.mono (Nat.le_trans hbase hb.size)), fun h => h0 (getD_ne h (by decide : 4 ≠ 0)), fun _ => rfl, fun _ => rfl, fun _ => rfl, fun _ => rfl, (by rw [getD_set_ne false (by decide : 4 ≠ 5)]; exact (M5).below c (by have := (HA4.out.2.2.2.2.2.2.1).lt; have := hb.size; omega)), (by rw [getD_set_ne false (by decide : 4 ≠ 6)]; exact (M6).below c (by have := (HA4.out.2.2.2.2.2.2.2.1).lt; have := hb.size; omega)), (S0).below c (S0).lt, (S1).below c (S1).lt, (S2).below c (S2).lt, (S3).below c (S3).lt, (S4).below c (S4).lt, (S7).below c (S7).lt, (S8).below c (S8).lt, (S9).below c (S9).lt, (S10).below c (S10).lt, fun h => getD_set_true (s5_3 (getD_ne h (by decide : 4 ≠ 5))), fun h => getD_set_true (s6_0 (getD_ne h (by decide : 4 ≠ 6))), fun h => getD_set_true (s6_1 (getD_ne h (by decide : 4 ≠ 6)))⟩
            refine InvSteps.cons rfl (fun listed a w' K' hlt hun hdep hI hK => ?_) ?_
            · obtain ⟨t59, t60, t61, t62, t63, ha, hb, h0, h1, h2, h3, h4, M5, M6, S0, S1, S2, S3, S4, S7, S8, S9, S10, s5_3, s6_0, s6_1⟩ := hI
              have H0 := hdep ⟨0, Ground.data⟩ (by simp) rfl
              have H4 := hdep ⟨4, Ground.chain⟩ (by simp) rfl
              have H3 := hdep ⟨3, Ground.phase⟩ (by simp) rfl
              clear hdep
              have g0 := h0 H0
              subst g0
              have g4 := h4 H4
              subst g4
              have g3 := h3 H3
              subst g3
              have kc := M5
              rw [if_neg (by rw [hun]; exact Bool.false_ne_true)] at kc
              have kl := kc.lt
              have k0 := (kc 0 _ rfl).1
              have z0 := (kc 0 _ rfl).2
              have k1 := (kc 1 _ rfl).1
              have z1 := (kc 1 _ rfl).2
              have k2 := (kc 2 _ rfl).1
              have z2 := (kc 2 _ rfl).2
              have k3 := (kc 3 _ rfl).1
              have z3 := (kc 3 _ rfl).2
              rw [ha]
              clear ha a
              simp only [puts_cons, puts_nil, Act.put, List.setIfInBounds_toArray, List.set_cons_zero, List.set_cons_succ]
              go_simp
              have yc0 : Cells (B6) [.bool nv, .string sy, .bool nz, .string sz] _ := (kc).set (k := 0) (Value.bool nv) _ rfl
              have yc1 : Cells (B6) [.bool nv, .string sv, .bool nz, .string sz] _ := (yc0).set (k := 1) (Value.string sv) _ rfl
              have yc2 : Cells (B6) [.bool nv, .string sv, .bool nx, .string sz] _ := (yc1).set (k := 2) (Value.bool nx) _ rfl
              have yc3 : Cells (B6) [.bool nv, .string sv, .bool nx, .string sx] _ := (yc2).set (k := 3) (Value.string sx) _ rfl
              exact hK.out _ _ ⟨(.agg #[.bool nv, .string sv, .bool nx, .string sx]), t60, t61, (.agg #[.bool ny, .string sy, .bool nz, .string sz]), (.agg #[.bool nN, .string sN, .bool nO, .string sO]), (by kernel_rfl), (below_sets (below_sets (below_sets (below_sets hb (show w.heap.size ≤ B6 from HX.out.2.2.2.2.2.2.1) 0 (Value.bool nv)) (show w.heap.size ≤ B6 from HX.out.2.2.2.2.2.2.1) 1 (Value.string sv)) (show w.heap.size ≤ B6 from HX.out.2.2.2.2.2.2.1) 2 (Value.bool nx)) (show w.heap.size ≤ B6 from HX.out.2.2.2.2.2.2.1) 3 (Value.string sx)), fun _ => rfl, fun h => h1 (getD_ne h (by decide : 5 ≠ 1)), fun h => h2 (getD_ne h (by decide : 5 ≠ 2)), fun _ => rfl, fun _ => rfl, (by rw [if_pos (getD_self hlt)]; exact yc3), (by rw [getD_set_ne false (by decide : 5 ≠ 6)]; exact ((((((((M6).other (Ne.symm HX.out.2.2.2.2.2.2.2.2.2.2.2.2.2.2.2.2.2.2.2.2.2.2.2.2.2.2.2.2.2.2.2.2.2.2.2.2.2.2.2.2.2.2.2.2.2.2.2.2.2.2.2.2.2.2.2.2.2.2.2))).other (Ne.symm HX.out.2.2.2.2.2.2.2.2.2.2.2.2.2.2.2.2.2.2.2.2.2.2.2.2.2.2.2.2.2.2.2.2.2.2.2.2.2.2.2.2.2.2.2.2.2.2.2.2.2.2.2.2.2.2.2.2.2.2.2))).other (Ne.symm HX.out.2.2.2.2.2.2.2.2.2.2.2.2.2.2.2.2.2.2.2.2.2.2.2.2.2.2.2.2.2.2.2.2.2.2.2.2.2.2.2.2.2.2.2.2.2.2.2.2.2.2.2.2.2.2.2.2.2.2.2))).other (Ne.symm HX.out.2.2.2.2.2.2.2.2.2.2.2.2.2.2.2.2.2.2.2.2.2.2.2.2.2.2.2.2.2.2.2.2.2.2.2.2.2.2.2.2.2.2.2.2.2.2.2.2.2.2.2.2.2.2.2.2.2.2.2))), ((((((((S0).other (HX.out.2.2.2.2.2.2.2.2.2.2.2.2.2.2.2.2.2.2.2.2.2.2.2.2.2.2.2.2.2.2.2.2.2.2.2.2.2.2.2.2.2.2.2.2.2.2.2.2.2.1))).other (HX.out.2.2.2.2.2.2.2.2.2.2.2.2.2.2.2.2.2.2.2.2.2.2.2.2.2.2.2.2.2.2.2.2.2.2.2.2.2.2.2.2.2.2.2.2.2.2.2.2.2.1))).other (HX.out.2.2.2.2.2.2.2.2.2.2.2.2.2.2.2.2.2.2.2.2.2.2.2.2.2.2.2.2.2.2.2.2.2.2.2.2.2.2.2.2.2.2.2.2.2.2.2.2.2.1))).other (HX.out.2.2.2.2.2.2.2.2.2.2.2.2.2.2.2.2.2.2.2.2.2.2.2.2.2.2.2.2.2.2.2.2.2.2.2.2.2.2.2.2.2.2.2.2.2.2.2.2.2.1)), ((((((((S1).other (HX.out.2.2.2.2.2.2.2.2.2.2.2.2.2.2.2.2.2.2.2.2.2.2.2.2.2.2.2.2.2.2.2.2.2.2.2.2.2.2.2.2.2.2.2.2.2.2.2.2.2.2.1))).other (HX.out.2.2.2.2.2.2.2.2.2.2.2.2.2.2.2.2.2.2.2.2.2.2.2.2.2.2.2.2.2.2.2.2.2.2.2.2.2.2.2.2.2.2.2.2.2.2.2.2.2.2.1))).other (HX.out.2.2.2.2.2.2.2.2.2.2.2.2.2.2.2.2.2.2.2.2.2.2.2.2.2.2.2.2.2.2.2.2.2.2.2.2.2.2.2.2.2.2.2.2.2.2.2.2.2.2.1))).other (HX.out.2.2.2.2.2.2.2.2.2.2.2.2.2.2.2.2.2.2.2.2.2.2.2.2.2.2.2.2.2.2.2.2.2.2.2.2.2.2.2.2.2.2.2.2.2.2.2.2.2.2.1)), ((((((((S2).other (HX.out.2.2.2.2.2.2.2.2.2.2.2.2.2.2.2.2.2.2.2.2.2.2.2.2.2.2.2.2.2.2.2.2.2.2.2.2.2.2.2.2.2.2.2.2.2.2.2.2.2.2.2.1))).other (HX.out.2.2.2.2.2.2.2.2.2.2.2.2.2.2.2.2.2.2.2.2.2.2.2.2.2.2.2.2.2.2.2.2.2.2.2.2.2.2.2.2.2.2.2.2.2.2.2.2.2.2.2.1))).other (HX.out.2.2.2.2.2.2.2.2.2.2.2.2.2.2.2.2.2.2.2.2.2.2.2.2.2.2.2.2.2.2.2.2.2.2.2.2.2.2.2.2.2.2.2.2.2.2.2.2.2.2.2.1))).other (HX.out.2.2.2.2.2.2.2.2.2.2.2.2.2.2.2.2.2.2.2.2.2.2.2.2.2.2.2.2.2.2.2.2.2.2.2.2.2.2.2.2.2.2.2.2.2.2.2.2.2.2.2.1)), ((((((((S3).other (HX.out.2.2.2.2.2.2.2.2.2.2.2.2.2.2.2.2.2.2.2.2.2.2.2.2.2.2.2.2.2.2.2.2.2.2.2.2.2.2.2.2.2.2.2.2.2.2.2.2.2.2.2.2.1))).other (HX.out.2.2.2.2.2.2.2.2.2.2.2.2.2.2.2.2.2.2.2.2.2.2.2.2.2.2.2.2.2.2.2.2.2.2.2.2.2.2.2.2.2.2.2.2.2.2.2.2.2.2.2.2.1))).other (HX.out.2.2.2.2.2.2.2.2.2.2.2.2.2.2.2.2.2.2.2.2.2.2.2.2.2.2.2.2.2.2.2.2.2.2.2.2.2.2.2.2.2.2.2.2.2.2.2.2.2.2.2.2.1))).other (HX.out.2.2.2.2.2.2.2.2.2.2.2.2.2.2.2.2.2.2.2.2.2.2.2.2.2.2.2.2.2.2.2.2.2.2.2.2.2.2.2.2.2.2.2.2.2.2.2.2.2.2.2.2.1)), ((((((((S4).other (HX.out.2.2.2.2.2.2.2.2.2.2.2.2.2.2.2.2.2.2.2.2.2.2.2.2.2.2.2.2.2.2.2.2.2.2.2.2.2.2.2.2.2.2.2.2.2.2.2.2.2.2.2.2.2.1))).other (HX.out.2.2.2.2.2.2.2.2.2.2.2.2.2.2.2.2.2.2.2.2.2.2.2.2.2.2.2.2.2.2.2.2.2.2.2.2.2.2.2.2.2.2.2.2.2.2.2.2.2.2.2.2.2.1))).other (HX.out.2.2.2.2.2.2.2.2.2.2.2.2.2.2.2.2.2.2.2.2.2.2.2.2.2.2.2.2.2.2.2.2.2.2.2.2.2.2.2.2.2.2.2.2.2.2.2.2.2.2.2.2.2.1))).other (HX.out.2.2.2.2.2.2.2.2.2.2.2.2.2.2.2.2.2.2.2.2.2.2.2.2.2.2.2.2.2.2.2.2.2.2.2.2.2.2.2.2.2.2.2.2.2.2.2.2.2.2.2.2.2.1)), ((((((((S7).other (Ne.symm HX.out.2.2.2.2.2.2.2.2.2.2.2.2.2.2.2.2.2.2.2.2.2.2.2.2.2.2.2.2.2.2.2.2.2.2.2.2.2.2.2.2.1))).other (Ne.symm HX.out.2.2.2.2.2.2.2.2.2.2.2.2.2.2.2.2.2.2.2.2.2.2.2.2.2.2.2.2.2.2.2.2.2.2.2.2.2.2.2.2.1))).other (Ne.symm HX.out.2.2.2.2.2.2.2.2.2.2.2.2.2.2.2.2.2.2.2.2.2.2.2.2.2.2.2.2.2.2.2.2.2.2.2.2.2.2.2.2.1))).other (Ne.symm HX.out.2.2.2.2.2.2.2.2.2.2.2.2.2.2.2.2.2.2.2.2.2.2.2.2.2.2.2.2.2.2.2.2.2.2.2.2.2.2.2.2.1)), ((((((((S8).other (Ne.symm HX.out.2.2.2.2.2.2.2.2.2.2.2.2.2.2.2.2.2.2.2.2.2.2.2.2.2.2.2.2.2.2.2.2.1))).other (Ne.symm HX.out.2.2.2.2.2.2.2.2.2.2.2.2.2.2.2.2.2.2.2.2.2.2.2.2.2.2.2.2.2.2.2.2.1))).other (Ne.symm HX.out.2.2.2.2.2.2.2.2.2.2.2.2.2.2.2.2.2.2.2.2.2.2.2.2.2.2.2.2.2.2.2.2.1))).other (Ne.symm HX.out.2.2.2.2.2.2.2.2.2.2.2.2.2.2.2.2.2.2.2.2.2.2.2.2.2.2.2.2.2.2.2.2.1)), ((((((((S9).other (Ne.symm HX.out.2.2.2.2.2.2.2.2.2.2.2.2.2.1))).other (Ne.symm HX.out.2.2.2.2.2.2.2.2.2.2.2.2.2.1))).other (Ne.symm HX.out.2.2.2.2.2.2.2.2.2.2.2.2.2.1))).other (Ne.symm HX.out.2.2.2.2.2.2.2.2.2.2.2.2.2.1)), ((((((((S10).other (Ne.symm HX.out.2.2.2.2.2.2.2.2.2.2.2.2.2.2.2.2.2.2.2.2.2.2.1))).other (Ne.symm HX.out.2.2.2.2.2.2.2.2.2.2.2.2.2.2.2.2.2.2.2.2.2.2.1))).other (Ne.symm HX.out.2.2.2.2.2.2.2.2.2.2.2.2.2.2.2.2.2.2.2.2.2.2.1))).other (Ne.symm HX.out.2.2.2.2.2.2.2.2.2.2.2.2.2.2.2.2.2.2.2.2.2.2.1)), fun _ => getD_set_true H3, fun h => getD_set_true (s6_0 (getD_ne h (by decide : 5 ≠ 6))), fun h => getD_set_true (s6_1 (getD_ne h (by decide : 5 ≠ 6)))⟩
            refine InvSteps.cons rfl (fun listed a w' K' hlt hun hdep hI hK => ?_) ?_
            · obtain ⟨t59, t60, t61, t62, t63, ha, hb, h0, h1, h2, h3, h4, M5, M6, S0, S1, S2, S3, S4, S7, S8, S9, S10, s5_3, s6_0, s6_1⟩ := hI
              have H4 := hdep ⟨4, Ground.data⟩ (by simp) rfl
              have H5 := hdep ⟨5, Ground.chain⟩ (by simp) rfl
              have H0 := hdep ⟨0, Ground.phase⟩ (by simp) rfl
              have H1 := hdep ⟨1, Ground.phase⟩ (by simp) rfl
              have H2 := hdep ⟨2, Ground.phase⟩ (by simp) rfl
              have H3 := hdep ⟨3, Ground.phase⟩ (by simp) rfl
              clear hdep
              have g4 := h4 H4
              subst g4
              have g0 := h0 H0
              subst g0
              have g1 := h1 H1
              subst g1
              have g2 := h2 H2
              subst g2
              have g3 := h3 H3
              subst g3
              have kc := M6
              rw [if_neg (by rw [hun]; exact Bool.false_ne_true)] at kc
              have kl := kc.lt
              have k0 := (kc 0 _ rfl).1
              have z0 := (kc 0 _ rfl).2
              have k1 := (kc 1 _ rfl).1
              have z1 := (kc 1 _ rfl).2
              have k2 := (kc 2 _ rfl).1
              have z2 := (kc 2 _ rfl).2
              have k3 := (kc 3 _ rfl).1
              have z3 := (kc 3 _ rfl).2
              rw [ha]
              clear ha a
              simp only [puts_cons, puts_nil, Act.put, List.setIfInBounds_toArray, List.set_cons_zero, List.set_cons_succ]
              go_simp
              have yc0 : Cells (B7) [.bool nN, .string sv, .bool nx, .string sx] _ := (kc).set (k := 0) (Value.bool nN) _ rfl
              have yc1 : Cells (B7) [.bool nN, .string sN, .bool nx, .string sx] _ := (yc0).set (k := 1) (Value.string sN) _ rfl
              have yc2 : Cells (B7) [.bool nN, .string sN, .bool nO, .string sx] _ := (yc1).set (k := 2) (Value.bool nO) _ rfl
              have yc3 : Cells (B7) [.bool nN, .string sN, .bool nO, .string sO] _ := (yc2).set (k := 3) (Value.string sO) _ rfl
              exact hK.out _ _ ⟨(.agg #[.bool nv, .string sv, .bool nx, .string sx]), (.agg #[.bool nv, .string sv, .bool nx, .string sx]), (.agg #[.bool nt, .string st]), (.agg #[.bool ny, .string sy, .bool nz, .string sz]), (.agg #[.bool nN, .string sN, .bool nO, .string sO]), (by kernel_rfl), (below_sets (below_sets (below_sets (below_sets hb (show w.heap.size ≤ B7 from HX.out.2.2.2.2.2.2.2.1) 0 (Value.bool nN)) (show w.heap.size ≤ B7 from HX.out.2.2.2.2.2.2.2.1) 1 (Value.string sN)) (show w.heap.size ≤ B7 from HX.out.2.2.2.2.2.2.2.1) 2 (Value.bool nO)) (show w.heap.size ≤ B7 from HX.out.2.2.2.2.2.2.2.1) 3 (Value.string sO)), fun _ => rfl, fun _ => rfl, fun _ => rfl, fun _ => rfl, fun _ => rfl, (by rw [getD_set_ne false (by decide : 6 ≠ 5)]; exact ((((((((M5).other (HX.out.2.2.2.2.2.2.2.2.2.2.2.2.2.2.2.2.2.2.2.2.2.2.2.2.2.2.2.2.2.2.2.2.2.2.2.2.2.2.2.2.2.2.2.2.2.2.2.2.2.2.2.2.2.2.2.2.2.2.2))).other (HX.out.2.2.2.2.2.2.2.2.2.2.2.2.2.2.2.2.2.2.2.2.2.2.2.2.2.2.2.2.2.2.2.2.2.2.2.2.2.2.2.2.2.2.2.2.2.2.2.2.2.2.2.2.2.2.2.2.2.2.2))).other (HX.out.2.2.2.2.2.2.2.2.2.2.2.2.2.2.2.2.2.2.2.2.2.2.2.2.2.2.2.2.2.2.2.2.2.2.2.2.2.2.2.2.2.2.2.2.2.2.2.2.2.2.2.2.2.2.2.2.2.2.2))).other (HX.out.2.2.2.2.2.2.2.2.2.2.2.2.2.2.2.2.2.2.2.2.2.2.2.2.2.2.2.2.2.2.2.2.2.2.2.2.2.2.2.2.2.2.2.2.2.2.2.2.2.2.2.2.2.2.2.2.2.2.2))), (by rw [if_pos (getD_self hlt)]; exact yc3), ((((((((S0).other (HX.out.2.2.2.2.2.2.2.2.2.2.2.2.2.2.2.2.2.2.2.2.2.2.2.2.2.2.2.2.2.2.2.2.2.2.2.2.2.2.2.2.2.2.2.2.2.2.2.2.2.2.2.2.2.2.1))).other (HX.out.2.2.2.2.2.2.2.2.2.2.2.2.2.2.2.2.2.2.2.2.2.2.2.2.2.2.2.2.2.2.2.2.2.2.2.2.2.2.2.2.2.2.2.2.2.2.2.2.2.2.2.2.2.2.1))).other (HX.out.2.2.2.2.2.2.2.2.2.2.2.2.2.2.2.2.2.2.2.2.2.2.2.2.2.2.2.2.2.2.2.2.2.2.2.2.2.2.2.2.2.2.2.2.2.2.2.2.2.2.2.2.2.2.1))).other (HX.out.2.2.2.2.2.2.2.2.2.2.2.2.2.2.2.2.2.2.2.2.2.2.2.2.2.2.2.2.2.2.2.2.2.2.2.2.2.2.2.2.2.2.2.2.2.2.2.2.2.2.2.2.2.2.1)), ((((((((S1).other (HX.out.2.2.2.2.2.2.2.2.2.2.2.2.2.2.2.2.2.2.2.2.2.2.2.2.2.2.2.2.2.2.2.2.2.2.2.2.2.2.2.2.2.2.2.2.2.2.2.2.2.2.2.2.2.2.2.1))).other (HX.out.2.2.2.2.2.2.2.2.2.2.2.2.2.2.2.2.2.2.2.2.2.2.2.2.2.2.2.2.2.2.2.2.2.2.2.2.2.2.2.2.2.2.2.2.2.2.2.2.2.2.2.2.2.2.2.1))).other (HX.out.2.2.2.2.2.2.2.2.2.2.2.2.2.2.2.2.2.2.2.2.2.2.2.2.2.2.2.2.2.2.2.2.2.2.2.2.2.2.2.2.2.2.2.2.2.2.2.2.2.2.2.2.2.2.2.1))).other (HX.out.2.2.2.2.2.2.2.2.2.2.2.2.2.2.2.2.2.2.2.2.2.2.2.2.2.2.2.2.2.2.2.2.2.2.2.2.2.2.2.2.2.2.2.2.2.2.2.2.2.2.2.2.2.2.2.1)), ((((((((S2).other (HX.out.2.2.2.2.2.2.2.2.2.2.2.2.2.2.2.2.2.2.2.2.2.2.2.2.2.2.2.2.2.2.2.2.2.2.2.2.2.2.2.2.2.2.2.2.2.2.2.2.2.2.2.2.2.2.2.2.1))).other (HX.out.2.2.2.2.2.2.2.2.2.2.2.2.2.2.2.2.2.2.2.2.2.2.2.2.2.2.2.2.2.2.2.2.2.2.2.2.2.2.2.2.2.2.2.2.2.2.2.2.2.2.2.2.2.2.2.2.1))).other (HX.out.2.2.2.2.2.2.2.2.2.2.2.2.2.2.2.2.2.2.2.2.2.2.2.2.2.2.2.2.2.2.2.2.2.2.2.2.2.2.2.2.2.2.2.2.2.2.2.2.2.2.2.2.2.2.2.2.1))).other (HX.out.2.2.2.2.2.2.2.2.2.2.2.2.2.2.2.2.2.2.2.2.2.2.2.2.2.2.2.2.2.2.2.2.2.2.2.2.2.2.2.2.2.2.2.2.2.2.2.2.2.2.2.2.2.2.2.2.1)), ((((((((S3).other (HX.out.2.2.2.2.2.2.2.2.2.2.2.2.2.2.2.2.2.2.2.2.2.2.2.2.2.2.2.2.2.2.2.2.2.2.2.2.2.2.2.2.2.2.2.2.2.2.2.2.2.2.2.2.2.2.2.2.2.1))).other (HX.out.2.2.2.2.2.2.2.2.2.2.2.2.2.2.2.2.2.2.2.2.2.2.2.2.2.2.2.2.2.2.2.2.2.2.2.2.2.2.2.2.2.2.2.2.2.2.2.2.2.2.2.2.2.2.2.2.2.1))).other (HX.out.2.2.2.2.2.2.2.2.2.2.2.2.2.2.2.2.2.2.2.2.2.2.2.2.2.2.2.2.2.2.2.2.2.2.2.2.2.2.2.2.2.2.2.2.2.2.2.2.2.2.2.2.2.2.2.2.2.1))).other (HX.out.2.2.2.2.2.2.2.2.2.2.2.2.2.2.2.2.2.2.2.2.2.2.2.2.2.2.2.2.2.2.2.2.2.2.2.2.2.2.2.2.2.2.2.2.2.2.2.2.2.2.2.2.2.2.2.2.2.1)), ((((((((S4).other (HX.out.2.2.2.2.2.2.2.2.2.2.2.2.2.2.2.2.2.2.2.2.2.2.2.2.2.2.2.2.2.2.2.2.2.2.2.2.2.2.2.2.2.2.2.2.2.2.2.2.2.2.2.2.2.2.2.2.2.2.1))).other (HX.out.2.2.2.2.2.2.2.2.2.2.2.2.2.2.2.2.2.2.2.2.2.2.2.2.2.2.2.2.2.2.2.2.2.2.2.2.2.2.2.2.2.2.2.2.2.2.2.2.2.2.2.2.2.2.2.2.2.2.1))).other (HX.out.2.2.2.2.2.2.2.2.2.2.2.2.2.2.2.2.2.2.2.2.2.2.2.2.2.2.2.2.2.2.2.2.2.2.2.2.2.2.2.2.2.2.2.2.2.2.2.2.2.2.2.2.2.2.2.2.2.2.1))).other (HX.out.2.2.2.2.2.2.2.2.2.2.2.2.2.2.2.2.2.2.2.2.2.2.2.2.2.2.2.2.2.2.2.2.2.2.2.2.2.2.2.2.2.2.2.2.2.2.2.2.2.2.2.2.2.2.2.2.2.2.1)), ((((((((S7).other (Ne.symm HX.out.2.2.2.2.2.2.2.2.2.2.2.2.2.2.2.2.2.2.2.2.2.2.2.2.2.2.2.2.2.2.2.2.2.2.2.2.2.2.2.2.2.1))).other (Ne.symm HX.out.2.2.2.2.2.2.2.2.2.2.2.2.2.2.2.2.2.2.2.2.2.2.2.2.2.2.2.2.2.2.2.2.2.2.2.2.2.2.2.2.2.1))).other (Ne.symm HX.out.2.2.2.2.2.2.2.2.2.2.2.2.2.2.2.2.2.2.2.2.2.2.2.2.2.2.2.2.2.2.2.2.2.2.2.2.2.2.2.2.2.1))).other (Ne.symm HX.out.2.2.2.2.2.2.2.2.2.2.2.2.2.2.2.2.2.2.2.2.2.2.2.2.2.2.2.2.2.2.2.2.2.2.2.2.2.2.2.2.2.1)), ((((((((S8).other (Ne.symm HX.out.2.2.2.2.2.2.2.2.2.2.2.2.2.2.2.2.2.2.2.2.2.2.2.2.2.2.2.2.2.2.2.2.2.1))).other (Ne.symm HX.out.2.2.2.2.2.2.2.2.2.2.2.2.2.2.2.2.2.2.2.2.2.2.2.2.2.2.2.2.2.2.2.2.2.1))).other (Ne.symm HX.out.2.2.2.2.2.2.2.2.2.2.2.2.2.2.2.2.2.2.2.2.2.2.2.2.2.2.2.2.2.2.2.2.2.1))).other (Ne.symm HX.out.2.2.2.2.2.2.2.2.2.2.2.2.2.2.2.2.2.2.2.2.2.2.2.2.2.2.2.2.2.2.2.2.2.1)), ((((((((S9).other (Ne.symm HX.out.2.2.2.2.2.2.2.2.2.2.2.2.2.2.1))).other (Ne.symm HX.out.2.2.2.2.2.2.2.2.2.2.2.2.2.2.1))).other (Ne.symm HX.out.2.2.2.2.2.2.2.2.2.2.2.2.2.2.1))).other (Ne.symm HX.out.2.2.2.2.2.2.2.2.2.2.2.2.2.2.1)), ((((((((S10).other (Ne.symm HX.out.2.2.2.2.2.2.2.2.2.2.2.2.2.2.2.2.2.2.2.2.2.2.2.1))).other (Ne.symm HX.out.2.2.2.2.2.2.2.2.2.2.2.2.2.2.2.2.2.2.2.2.2.2.2.1))).other (Ne.symm HX.out.2.2.2.2.2.2.2.2.2.2.2.2.2.2.2.2.2.2.2.2.2.2.2.1))).other (Ne.symm HX.out.2.2.2.2.2.2.2.2.2.2.2.2.2.2.2.2.2.2.2.2.2.2.2.1)), fun h => getD_set_true (s5_3 (getD_ne h (by decide : 6 ≠ 5))), fun _ => getD_set_true H0, fun _ => getD_set_true H1⟩
            exact InvSteps.nil
          · intro listed a w9 hl hI
            obtain ⟨t59, t60, t61, t62, t63, ha, hb, h0, h1, h2, h3, h4, M5, M6, S0, S1, S2, S3, S4, S7, S8, S9, S10, s5_3, s6_0, s6_1⟩ := hI
            have H0 := hl 0 (by show 0 < 7; omega)
            have H1 := hl 1 (by show 1 < 7; omega)
            have H2 := hl 2 (by show 2 < 7; omega)
            have H3 := hl 3 (by show 3 < 7; omega)
            have H4 := hl 4 (by show 4 < 7; omega)
            have H5 := hl 5 (by show 5 < 7; omega)
            have H6 := hl 6 (by show 6 < 7; omega)
            have g0 := h0 H0
            subst g0
            have g1 := h1 H1
            subst g1
            have g2 := h2 H2
            subst g2
            have g3 := h3 H3
            subst g3
            have g4 := h4 H4
            subst g4
            rw [if_pos H5] at M5
            rw [if_pos H6] at M6
            clear H0 H1 H2 H3 H4 H5 H6 hl h0 h1 h2 h3 h4 s5_3 s6_0 s6_1 listed
            rw [ha]
            clear ha a
            simp only [puts_cons, puts_nil, Act.put, List.setIfInBounds_toArray, List.set_cons_zero, List.set_cons_succ]
            clear hbase
            have f := HA4.out.1.trans (hb)
            have HA7 := Lib.hid (And.intro f (And.intro S0 (And.intro S1 (And.intro S2 (And.intro S3 (And.intro S4 (And.intro M5 (And.intro M6 (And.intro S7 (And.intro S8 (And.intro S9 S10)))))))))))
            clear f hb S0 S1 S2 S3 S4 M5 M6 S7 S8 S9 S10
            (try clear e1)
            (try clear e2)
            go_wp2_with fail
            have hbase := HA7.out.1.size
            refine wp_region_invA (fun a listed a' w' => ∃ t64 t65 t66 t67 t68 t69 t70 t71 : Value, a' = puts a [(64, t64), (65, t65), (66, t66), (67, t67), (68, t68), (69, t69), (70, t70), (71, t71)] ∧ Below (w.heap.size) w9 w' ∧ (listed.getD 0 false = true → t64 = .pointer (some ⟨w.heap.size + 1, 2, none⟩)) ∧ (listed.getD 1 false = true → t65 = .agg #[.bool nd, .string sd]) ∧ (listed.getD 2 false = true → t66 = .agg #[.bool nm, .string sm]) ∧ (listed.getD 3 false = true → t67 = .agg #[.bool nd, .string sd, .bool nm, .string sm]) ∧ (listed.getD 4 false = true → t68 = .pointer (some ⟨w.heap.size, 2, none⟩)) ∧ (listed.getD 5 false = true → t69 = .agg #[.bool nb, .string sb]) ∧ (listed.getD 6 false = true → t70 = .agg #[.bool nr, .string sr]) ∧ (listed.getD 7 false = true → t71 = .agg #[.bool nb, .string sb, .bool nr, .string sr]) ∧ Cells (w.heap.size) (if listed.getD 8 false = true then [.bool nd, .string sd, .bool nm, .string sm] else [.bool na, .string sa, .bool nb, .string sb]) w' ∧ Cells (w.heap.size + 1) (if listed.getD 9 false = true then [.bool nb, .string sb, .bool nr, .string sr] else [.bool nc, .string sc, .bool nd, .string sd]) w' ∧ Cells (w.heap.size + 1 + 1) [.bool false, .string ⟨#[]⟩, .bool false, .string ⟨#[]⟩] w' ∧ Cells (BZ) [.bool false, .string ⟨#[]⟩] w' ∧ Cells (BU) [.bool false, .string ⟨#[1]⟩] w' ∧ Cells (B6) [.bool nv, .string sv, .bool nx, .string sx] w' ∧ Cells (B7) [.bool nN, .string sN, .bool nO, .string sO] w' ∧ Cells (BT) [.bool nt, .string st] w' ∧ Cells (BR) [.bool nr, .string sr] w' ∧ Cells (BG) [.bool ng, .string sg] w' ∧ Cells (BM) [.bool nm, .string sm] w' ∧ (listed.getD 8 false = true → listed.getD 5 false = true) ∧ (listed.getD 9 false = true → listed.getD 1 false = true)) (by kernel_rfl) (by kernel_rfl) ?_ ?_ ?_
            · exact ⟨u64, u65, u66, u67, u68, u69, u70, u71, (by kernel_rfl), (Below.refl _ _).drew, (fun h => getD_rep h), (fun h => getD_rep h), (fun h => getD_rep h), (fun h => getD_rep h), (fun h => getD_rep h), (fun h => getD_rep h), (fun h => getD_rep h), (fun h => getD_rep h), (by rw [if_neg (fun h => getD_rep h)]; exact (show Cells _ _ w9.drew from HA7.out.2.1)), (by rw [if_neg (fun h => getD_rep h)]; exact (show Cells _ _ w9.drew from HA7.out.2.2.1)), (show Cells _ _ w9.drew from HA7.out.2.2.2.1), (show Cells _ _ w9.drew from HA7.out.2.2.2.2.1), (show Cells _ _ w9.drew from HA7.out.2.2.2.2.2.1), (show Cells _ _ w9.drew from HA7.out.2.2.2.2.2.2.1), (show Cells _ _ w9.drew from HA7.out.2.2.2.2.2.2.2.1), (show Cells _ _ w9.drew from HA7.out.2.2.2.2.2.2.2.2.1), (show Cells _ _ w9.drew from HA7.out.2.2.2.2.2.2.2.2.2.1), (show Cells _ _ w9.drew from HA7.out.2.2.2.2.2.2.2.2.2.2.1), (show Cells _ _ w9.drew from HA7.out.2.2.2.2.2.2.2.2.2.2.2), (fun h => getD_rep h), (fun h => getD_rep h)⟩
            · show InvSteps _ _ _ _ _ [0, 1, 2, 3, 4, 5, 6, 7, 8, 9]
              refine InvSteps.cons rfl (fun listed a w' K' hlt hun hdep hI hK => ?_) ?_
              · obtain ⟨t64, t65, t66, t67, t68, t69, t70, t71, ha, hb, h0, h1, h2, h3, h4, h5, h6, h7, M0, M1, S2, S3, S4, S5, S6, S7, S8, S9, S10, s8_5, s9_1⟩ := hI
                clear hdep
                rw [ha]
                clear ha a
                simp only [puts_cons, puts_nil, Act.put, List.setIfInBounds_toArray, List.set_cons_zero, List.set_cons_succ]
                go_simp
                exact hK.out _ _ ⟨(.pointer (some ⟨w.heap.size + 1, 2, none⟩)), t65, t66, t67, t68, t69, t70, t71, (by kernel_rfl), hb, fun _ => rfl, fun h => h1 (getD_ne h (by decide : 0 ≠ 1)), fun h => h2 (getD_ne h (by decide : 0 ≠ 2)), fun h => h3 (getD_ne h (by decide : 0 ≠ 3)), fun h => h4 (getD_ne h (by decide : 0 ≠ 4)), fun h => h5 (getD_ne h (by decide : 0 ≠ 5)), fun h => h6 (getD_ne h (by decide : 0 ≠ 6)), fun h => h7 (getD_ne h (by decide : 0 ≠ 7)), (by rw [getD_set_ne false (by decide : 0 ≠ 8)]; exact M0), (by rw [getD_set_ne false (by decide : 0 ≠ 9)]; exact M1), S2, S3, S4, S5, S6, S7, S8, S9, S10, fun h => getD_set_true (s8_5 (getD_ne h (by decide : 0 ≠ 8))), fun h => getD_set_true (s9_1 (getD_ne h (by decide : 0 ≠ 9)))⟩
              refine InvSteps.cons rfl (fun listed a w' K' hlt hun hdep hI hK => ?_) ?_
              · obtain ⟨t64, t65, t66, t67, t68, t69, t70, t71, ha, hb, h0, h1, h2, h3, h4, h5, h6, h7, M0, M1, S2, S3, S4, S5, S6, S7, S8, S9, S10, s8_5, s9_1⟩ := hI
                have H0 := hdep ⟨0, Ground.data⟩ (by simp) rfl
                clear hdep
                have g0 := h0 H0
                subst g0
                have hu9 : ¬ listed.getD 9 false = true := fun h => by have h' := s9_1 h; rw [hun] at h'; cases h'
                have kc := M1
                rw [if_neg hu9] at kc
                have kl := kc.lt
                have k0 := (kc 0 _ rfl).1
                have k1 := (kc 1 _ rfl).1
                have k2 := (kc 2 _ rfl).1
                have k3 := (kc 3 _ rfl).1
                clear kc
                rw [ha]
                clear ha a
                simp only [puts_cons, puts_nil, Act.put, List.setIfInBounds_toArray, List.set_cons_zero, List.set_cons_succ]
                go_simp
                exact hK.out _ _ ⟨(.pointer (some ⟨w.heap.size + 1, 2, none⟩)), (.agg #[.bool nd, .string sd]), t66, t67, t68, t69, t70, t71, (by kernel_rfl), hb, fun _ => rfl, fun _ => rfl, fun h => h2 (getD_ne h (by decide : 1 ≠ 2)), fun h => h3 (getD_ne h (by decide : 1 ≠ 3)), fun h => h4 (getD_ne h (by decide : 1 ≠ 4)), fun h => h5 (getD_ne h (by decide : 1 ≠ 5)), fun h => h6 (getD_ne h (by decide : 1 ≠ 6)), fun h => h7 (getD_ne h (by decide : 1 ≠ 7)), (by rw [getD_set_ne false (by decide : 1 ≠ 8)]; exact M0), (by rw [getD_set_ne false (by decide : 1 ≠ 9)]; exact M1), S2, S3, S4, S5, S6, S7, S8, S9, S10, fun h => getD_set_true (s8_5 (getD_ne h (by decide : 1 ≠ 8))), fun _ => getD_self hlt⟩
              refine InvSteps.cons rfl (fun listed a w' K' hlt hun hdep hI hK => ?_) ?_
              · obtain ⟨t64, t65, t66, t67, t68, t69, t70, t71, ha, hb, h0, h1, h2, h3, h4, h5, h6, h7, M0, M1, S2, S3, S4, S5, S6, S7, S8, S9, S10, s8_5, s9_1⟩ := hI
                clear hdep
                have kc := S10
                have kl := kc.lt
                have k0 := (kc 0 _ rfl).1
                have k1 := (kc 1 _ rfl).1
                clear kc
                rw [ha]
                clear ha a
                simp only [puts_cons, puts_nil, Act.put, List.setIfInBounds_toArray, List.set_cons_zero, List.set_cons_succ]
                go_simp
                exact hK.out _ _ ⟨t64, t65, (.agg #[.bool nm, .string sm]), t67, t68, t69, t70, t71, (by kernel_rfl), hb, fun h => h0 (getD_ne h (by decide : 2 ≠ 0)), fun h => h1 (getD_ne h (by decide : 2 ≠ 1)), fun _ => rfl, fun h => h3 (getD_ne h (by decide : 2 ≠ 3)), fun h => h4 (getD_ne h (by decide : 2 ≠ 4)), fun h => h5 (getD_ne h (by decide : 2 ≠ 5)), fun h => h6 (getD_ne h (by decide : 2 ≠ 6)), fun h => h7 (getD_ne h (by decide : 2 ≠ 7)), (by rw [getD_set_ne false (by decide : 2 ≠ 8)]; exact M0), (by rw [getD_set_ne false (by decide : 2 ≠ 9)]; exact M1), S2, S3, S4, S5, S6, S7, S8, S9, S10, fun h => getD_set_true (s8_5 (getD_ne h (by decide : 2 ≠ 8))), fun h => getD_set_true (s9_1 (getD_ne h (by decide : 2 ≠ 9)))⟩
              refine InvSteps.cons rfl (fun listed a w' K' hlt hun hdep hI hK => ?_) ?_
              · obtain ⟨t64, t65, t66, t67, t68, t69, t70, t71, ha, hb, h0, h1, h2, h3, h4, h5, h6, h7, M0, M1, S2, S3, S4, S5, S6, S7, S8, S9, S10, s8_5, s9_1⟩ := hI
                have H1 := hdep ⟨1, Ground.data⟩ (by simp) rfl
                have H2 := hdep ⟨2, Ground.data⟩ (by simp) rfl
                clear hdep
                have g1 := h1 H1
                subst g1
                have g2 := h2 H2
                subst g2
                rw [ha]
                clear ha a
                simp only [puts_cons, puts_nil, Act.put, List.setIfInBounds_toArray, List.set_cons_zero, List.set_cons_succ]
                go_simp
                exact hK.out _ _ ⟨t64, (.agg #[.bool nd, .string sd]), (.agg #[.bool nm, .string sm]), (.agg #[.bool nd, .string sd, .bool nm, .string sm]), t68, t69, t70, t71, (by kernel_rfl), hb, fun h => h0 (getD_ne h (by decide : 3 ≠ 0)), fun _ => rfl, fun _ => rfl, fun _ => rfl, fun h => h4 (getD_ne h (by decide : 3 ≠ 4)), fun h => h5 (getD_ne h (by decide : 3 ≠ 5)), fun h => h6 (getD_ne h (by decide : 3 ≠ 6)), fun h => h7 (getD_ne h (by decide : 3 ≠ 7)), (by rw [getD_set_ne false (by decide : 3 ≠ 8)]; exact M0), (by rw [getD_set_ne false (by decide : 3 ≠ 9)]; exact M1), S2, S3, S4, S5, S6, S7, S8, S9, S10, fun h => getD_set_true (s8_5 (getD_ne h (by decide : 3 ≠ 8))), fun h => getD_set_true (s9_1 (getD_ne h (by decide : 3 ≠ 9)))⟩
              refine InvSteps.cons rfl (fun listed a w' K' hlt hun hdep hI hK => ?_) ?_
              · obtain ⟨t64, t65, t66, t67, t68, t69, t70, t71, ha, hb, h0, h1, h2, h3, h4, h5, h6, h7, M0, M1, S2, S3, S4, S5, S6, S7, S8, S9, S10, s8_5, s9_1⟩ := hI
                clear hdep
                rw [ha]
                clear ha a
                simp only [puts_cons, puts_nil, Act.put, List.setIfInBounds_toArray, List.set_cons_zero, List.set_cons_succ]
                go_simp
                exact hK.out _ _ ⟨t64, t65, t66, t67, (.pointer (some ⟨w.heap.size, 2, none⟩)), t69, t70, t71, (by kernel_rfl), hb, fun h => h0 (getD_ne h (by decide : 4 ≠ 0)), fun h => h1 (getD_ne h (by decide : 4 ≠ 1)), fun h => h2 (getD_ne h (by decide : 4 ≠ 2)), fun h => h3 (getD_ne h (by decide : 4 ≠ 3)), fun _ => rfl, fun h => h5 (getD_ne h (by decide : 4 ≠ 5)), fun h => h6 (getD_ne h (by decide : 4 ≠ 6)), fun h => h7 (getD_ne h (by decide : 4 ≠ 7)), (by rw [getD_set_ne false (by decide : 4 ≠ 8)]; exact M0), (by rw [getD_set_ne false (by decide : 4 ≠ 9)]; exact M1), S2, S3, S4, S5, S6, S7, S8, S9, S10, fun h => getD_set_true (s8_5 (getD_ne h (by decide : 4 ≠ 8))), fun h => getD_set_true (s9_1 (getD_ne h (by decide : 4 ≠ 9)))⟩
              refine InvSteps.cons rfl (fun listed a w' K' hlt hun hdep hI hK => ?_) ?_
              · obtain ⟨t64, t65, t66, t67, t68, t69, t70, t71, ha, hb, h0, h1, h2, h3, h4, h5, h6, h7, M0, M1, S2, S3, S4, S5, S6, S7, S8, S9, S10, s8_5, s9_1⟩ := hI
                have H4 := hdep ⟨4, Ground.data⟩ (by simp) rfl
                clear hdep
                have g4 := h4 H4
                subst g4
                have hu8 : ¬ listed.getD 8 false = true := fun h => by have h' := s8_5 h; rw [hun] at h'; cases h'
                have kc := M0
                rw [if_neg hu8] at kc
                have kl := kc.lt
                have k0 := (kc 0 _ rfl).1
                have k1 := (kc 1 _ rfl).1
                have k2 := (kc 2 _ rfl).1
                have k3 := (kc 3 _ rfl).1
                clear kc
                rw [ha]
                clear ha a
                simp only [puts_cons, puts_nil, Act.put, List.setIfInBounds_toArray, List.set_cons_zero, List.set_cons_succ]
                go_simp
                exact hK.out _ _ ⟨t64, t65, t66, t67, (.pointer (some ⟨w.heap.size, 2, none⟩)), (.agg #[.bool nb, .string sb]), t70, t71, (by kernel_rfl), hb, fun h => h0 (getD_ne h (by decide : 5 ≠ 0)), fun h => h1 (getD_ne h (by decide : 5 ≠ 1)), fun h => h2 (getD_ne h (by decide : 5 ≠ 2)), fun h => h3 (getD_ne h (by decide : 5 ≠ 3)), fun _ => rfl, fun _ => rfl, fun h => h6 (getD_ne h (by decide : 5 ≠ 6)), fun h => h7 (getD_ne h (by decide : 5 ≠ 7)), (by rw [getD_set_ne false (by decide : 5 ≠ 8)]; exact M0), (by rw [getD_set_ne false (by decide : 5 ≠ 9)]; exact M1), S2, S3, S4, S5, S6, S7, S8, S9, S10, fun _ => getD_self hlt, fun h => getD_set_true (s9_1 (getD_ne h (by decide : 5 ≠ 9)))⟩
              refine InvSteps.cons rfl (fun listed a w' K' hlt hun hdep hI hK => ?_) ?_
              · obtain ⟨t64, t65, t66, t67, t68, t69, t70, t71, ha, hb, h0, h1, h2, h3, h4, h5, h6, h7, M0, M1, S2, S3, S4, S5, S6, S7, S8, S9, S10, s8_5, s9_1⟩ := hI
                clear hdep
                have kc := S8
                have kl := kc.lt
                have k0 := (kc 0 _ rfl).1
                have k1 := (kc 1 _ rfl).1
                clear kc
                rw [ha]
                clear ha a
                simp only [puts_cons, puts_nil, Act.put, List.setIfInBounds_toArray, List.set_cons_zero, List.set_cons_succ]
                go_simp
                exact hK.out _ _ ⟨t64, t65, t66, t67, t68, t69, (.agg #[.bool nr, .string sr]), t71, (by kernel_rfl), hb, fun h => h0 (getD_ne h (by decide : 6 ≠ 0)), fun h => h1 (getD_ne h (by decide : 6 ≠ 1)), fun h => h2 (getD_ne h (by decide : 6 ≠ 2)), fun h => h3 (getD_ne h (by decide : 6 ≠ 3)), fun h => h4 (getD_ne h (by decide : 6 ≠ 4)), fun h => h5 (getD_ne h (by decide : 6 ≠ 5)), fun _ => rfl, fun h => h7 (getD_ne h (by decide : 6 ≠ 7)), (by rw [getD_set_ne false (by decide : 6 ≠ 8)]; exact M0), (by rw [getD_set_ne false (by decide : 6 ≠ 9)]; exact M1), S2, S3, S4, S5, S6, S7, S8, S9, S10, fun h => getD_set_true (s8_5 (getD_ne h (by decide : 6 ≠ 8))), fun h => getD_set_true (s9_1 (getD_ne h (by decide : 6 ≠ 9)))⟩
              refine InvSteps.cons rfl (fun listed a w' K' hlt hun hdep hI hK => ?_) ?_
              · obtain ⟨t64, t65, t66, t67, t68, t69, t70, t71, ha, hb, h0, h1, h2, h3, h4, h5, h6, h7, M0, M1, S2, S3, S4, S5, S6, S7, S8, S9, S10, s8_5, s9_1⟩ := hI
                have H5 := hdep ⟨5, Ground.data⟩ (by simp) rfl
                have H6 := hdep ⟨6, Ground.data⟩ (by simp) rfl
                clear hdep
                have g5 := h5 H5
                subst g5
                have g6 := h6 H6
                subst g6
                rw [ha]
                clear ha a
                simp only [puts_cons, puts_nil, Act.put, List.setIfInBounds_toArray, List.set_cons_zero, List.set_cons_succ]
                go_simp
                exact hK.out _ _ ⟨t64, t65, t66, t67, t68, (.agg #[.bool nb, .string sb]), (.agg #[.bool nr, .string sr]), (.agg #[.bool nb, .string sb, .bool nr, .string sr]), (by kernel_rfl), hb, fun h => h0 (getD_ne h (by decide : 7 ≠ 0)), fun h => h1 (getD_ne h (by decide : 7 ≠ 1)), fun h => h2 (getD_ne h (by decide : 7 ≠ 2)), fun h => h3 (getD_ne h (by decide : 7 ≠ 3)), fun h => h4 (getD_ne h (by decide : 7 ≠ 4)), fun _ => rfl, fun _ => rfl, fun _ => rfl, (by rw [getD_set_ne false (by decide : 7 ≠ 8)]; exact M0), (by rw [getD_set_ne false (by decide : 7 ≠ 9)]; exact M1), S2, S3, S4, S5, S6, S7, S8, S9, S10, fun h => getD_set_true (s8_5 (getD_ne h (by decide : 7 ≠ 8))), fun h => getD_set_true (s9_1 (getD_ne h (by decide : 7 ≠ 9)))⟩
              refine InvSteps.cons rfl (fun listed a w' K' hlt hun hdep hI hK => ?_) ?_
              · obtain ⟨t64, t65, t66, t67, t68, t69, t70, t71, ha, hb, h0, h1, h2, h3, h4, h5, h6, h7, M0, M1, S2, S3, S4, S5, S6, S7, S8, S9, S10, s8_5, s9_1⟩ := hI
                have H3 := hdep ⟨3, Ground.data⟩ (by simp) rfl
                have H0 := hdep ⟨0, Ground.phase⟩ (by simp) rfl
                have H1 := hdep ⟨1, Ground.phase⟩ (by simp) rfl
                have H2 := hdep ⟨2, Ground.phase⟩ (by simp) rfl
                have H4 := hdep ⟨4, Ground.phase⟩ (by simp) rfl
                have H5 := hdep ⟨5, Ground.phase⟩ (by simp) rfl
                clear hdep
                have g3 := h3 H3
                subst g3
                have g0 := h0 H0
                subst g0
                have g1 := h1 H1
                subst g1
                have g2 := h2 H2
                subst g2
                have g4 := h4 H4
                subst g4
                have g5 := h5 H5
                subst g5
                have kc := M0
                rw [if_neg (by rw [hun]; exact Bool.false_ne_true)] at kc
                have kl := kc.lt
                have k0 := (kc 0 _ rfl).1
                have z0 := (kc 0 _ rfl).2
                have k1 := (kc 1 _ rfl).1
                have z1 := (kc 1 _ rfl).2
                have k2 := (kc 2 _ rfl).1
                have z2 := (kc 2 _ rfl).2
                have k3 := (kc 3 _ rfl).1
                have z3 := (kc 3 _ rfl).2
                rw [ha]
                clear ha a
                simp only [puts_cons, puts_nil, Act.put, List.setIfInBounds_toArray, List.set_cons_zero, List.set_cons_succ]
                go_simp
                have yc0 : Cells (w.heap.size) [.bool nd, .string sa, .bool nb, .string sb] _ := (kc).set (k := 0) (Value.bool nd) _ rfl
                have yc1 : Cells (w.heap.size) [.bool nd, .string sd, .bool nb, .string sb] _ := (yc0).set (k := 1) (Value.string sd) _ rfl
                have yc2 : Cells (w.heap.size) [.bool nd, .string sd, .bool nm, .string sb] _ := (yc1).set (k := 2) (Value.bool nm) _ rfl
                have yc3 : Cells (w.heap.size) [.bool nd, .string sd, .bool nm, .string sm] _ := (yc2).set (k := 3) (Value.string sm) _ rfl
                exact hK.out _ _ ⟨(.pointer (some ⟨w.heap.size + 1, 2, none⟩)), (.agg #[.bool nd, .string sd]), (.agg #[.bool nm, .string sm]), (.agg #[.bool nd, .string sd, .bool nm, .string sm]), (.pointer (some ⟨w.heap.size, 2, none⟩)), (.agg #[.bool nb, .string sb]), t70, t71, (by kernel_rfl), (below_sets (below_sets (below_sets (below_sets hb (show w.heap.size ≤ w.heap.size from by omega) 0 (Value.bool nd)) (show w.heap.size ≤ w.heap.size from by omega) 1 (Value.string sd)) (show w.heap.size ≤ w.heap.size from by omega) 2 (Value.bool nm)) (show w.heap.size ≤ w.heap.size from by omega) 3 (Value.string sm)), fun _ => rfl, fun _ => rfl, fun _ => rfl, fun _ => rfl, fun _ => rfl, fun _ => rfl, fun h => h6 (getD_ne h (by decide : 8 ≠ 6)), fun h => h7 (getD_ne h (by decide : 8 ≠ 7)), (by rw [if_pos (getD_self hlt)]; exact yc3), (by rw [getD_set_ne false (by decide : 8 ≠ 9)]; exact ((((((((M1).other (by omega))).other (by omega))).other (by omega))).other (by omega))), ((((((((S2).other (by omega))).other (by omega))).other (by omega))).other (by omega)), ((((((((S3).other (Ne.symm HX.out.2.2.2.2.2.2.2.2.2.2.2.2.2.2.2.2.2.2.2.2.2.2.2.2.2.2.2.2.2.2.2.2.2.2.2.2.2.2.2.2.2.2.2.2.2.2.1))).other (Ne.symm HX.out.2.2.2.2.2.2.2.2.2.2.2.2.2.2.2.2.2.2.2.2.2.2.2.2.2.2.2.2.2.2.2.2.2.2.2.2.2.2.2.2.2.2.2.2.2.2.1))).other (Ne.symm HX.out.2.2.2.2.2.2.2.2.2.2.2.2.2.2.2.2.2.2.2.2.2.2.2.2.2.2.2.2.2.2.2.2.2.2.2.2.2.2.2.2.2.2.2.2.2.2.1))).other (Ne.symm HX.out.2.2.2.2.2.2.2.2.2.2.2.2.2.2.2.2.2.2.2.2.2.2.2.2.2.2.2.2.2.2.2.2.2.2.2.2.2.2.2.2.2.2.2.2.2.2.1)), ((((((((S4).other (Ne.symm HX.out.2.2.2.2.2.2.2.2.2.2.2.2.2.2.2.2.2.2.2.2.2.2.2.2.2.2.2.2.2.2.2.2.2.2.2.2.2.2.2.2.2.2.1))).other (Ne.symm HX.out.2.2.2.2.2.2.2.2.2.2.2.2.2.2.2.2.2.2.2.2.2.2.2.2.2.2.2.2.2.2.2.2.2.2.2.2.2.2.2.2.2.2.1))).other (Ne.symm HX.out.2.2.2.2.2.2.2.2.2.2.2.2.2.2.2.2.2.2.2.2.2.2.2.2.2.2.2.2.2.2.2.2.2.2.2.2.2.2.2.2.2.2.1))).other (Ne.symm HX.out.2.2.2.2.2.2.2.2.2.2.2.2.2.2.2.2.2.2.2.2.2.2.2.2.2.2.2.2.2.2.2.2.2.2.2.2.2.2.2.2.2.2.1)), ((((((((S5).other (Ne.symm HX.out.2.2.2.2.2.2.2.2.2.2.2.2.2.2.2.2.2.2.2.2.2.2.2.2.2.2.2.2.2.2.2.2.2.2.2.2.2.2.2.2.2.2.2.2.2.2.2.2.2.1))).other (Ne.symm HX.out.2.2.2.2.2.2.2.2.2.2.2.2.2.2.2.2.2.2.2.2.2.2.2.2.2.2.2.2.2.2.2.2.2.2.2.2.2.2.2.2.2.2.2.2.2.2.2.2.2.1))).other (Ne.symm HX.out.2.2.2.2.2.2.2.2.2.2.2.2.2.2.2.2.2.2.2.2.2.2.2.2.2.2.2.2.2.2.2.2.2.2.2.2.2.2.2.2.2.2.2.2.2.2.2.2.2.1))).other (Ne.symm HX.out.2.2.2.2.2.2.2.2.2.2.2.2.2.2.2.2.2.2.2.2.2.2.2.2.2.2.2.2.2.2.2.2.2.2.2.2.2.2.2.2.2.2.2.2.2.2.2.2.2.1)), ((((((((S6).other (Ne.symm HX.out.2.2.2.2.2.2.2.2.2.2.2.2.2.2.2.2.2.2.2.2.2.2.2.2.2.2.2.2.2.2.2.2.2.2.2.2.2.2.2.2.2.2.2.2.2.2.2.2.2.2.2.2.2.2.1))).other (Ne.symm HX.out.2.2.2.2.2.2.2.2.2.2.2.2.2.2.2.2.2.2.2.2.2.2.2.2.2.2.2.2.2.2.2.2.2.2.2.2.2.2.2.2.2.2.2.2.2.2.2.2.2.2.2.2.2.2.1))).other (Ne.symm HX.out.2.2.2.2.2.2.2.2.2.2.2.2.2.2.2.2.2.2.2.2.2.2.2.2.2.2.2.2.2.2.2.2.2.2.2.2.2.2.2.2.2.2.2.2.2.2.2.2.2.2.2.2.2.2.1))).other (Ne.symm HX.out.2.2.2.2.2.2.2.2.2.2.2.2.2.2.2.2.2.2.2.2.2.2.2.2.2.2.2.2.2.2.2.2.2.2.2.2.2.2.2.2.2.2.2.2.2.2.2.2.2.2.2.2.2.2.1)), ((((((((S7).other (Ne.symm HX.out.2.2.2.2.2.2.2.2.2.2.2.2.2.2.2.2.2.2.2.2.2.2.2.2.2.2.2.2.2.2.2.2.2.2.2.1))).other (Ne.symm HX.out.2.2.2.2.2.2.2.2.2.2.2.2.2.2.2.2.2.2.2.2.2.2.2.2.2.2.2.2.2.2.2.2.2.2.2.1))).other (Ne.symm HX.out.2.2.2.2.2.2.2.2.2.2.2.2.2.2.2.2.2.2.2.2.2.2.2.2.2.2.2.2.2.2.2.2.2.2.2.1))).other (Ne.symm HX.out.2.2.2.2.2.2.2.2.2.2.2.2.2.2.2.2.2.2.2.2.2.2.2.2.2.2.2.2.2.2.2.2.2.2.2.1)), ((((((((S8).other (Ne.symm HX.out.2.2.2.2.2.2.2.2.2.2.2.2.2.2.2.2.2.2.2.2.2.2.2.2.2.2.2.1))).other (Ne.symm HX.out.2.2.2.2.2.2.2.2.2.2.2.2.2.2.2.2.2.2.2.2.2.2.2.2.2.2.2.1))).other (Ne.symm HX.out.2.2.2.2.2.2.2.2.2.2.2.2.2.2.2.2.2.2.2.2.2.2.2.2.2.2.2.1))).other (Ne.symm HX.out.2.2.2.2.2.2.2.2.2.2.2.2.2.2.2.2.2.2.2.2.2.2.2.2.2.2.2.1)), ((((((((S9).other (Ne.symm HX.out.2.2.2.2.2.2.2.2.1))).other (Ne.symm HX.out.2.2.2.2.2.2.2.2.1))).other (Ne.symm HX.out.2.2.2.2.2.2.2.2.1))).other (Ne.symm HX.out.2.2.2.2.2.2.2.2.1)), ((((((((S10).other (Ne.symm HX.out.2.2.2.2.2.2.2.2.2.2.2.2.2.2.2.2.2.1))).other (Ne.symm HX.out.2.2.2.2.2.2.2.2.2.2.2.2.2.2.2.2.2.1))).other (Ne.symm HX.out.2.2.2.2.2.2.2.2.2.2.2.2.2.2.2.2.2.1))).other (Ne.symm HX.out.2.2.2.2.2.2.2.2.2.2.2.2.2.2.2.2.2.1)), fun _ => getD_set_true H5, fun h => getD_set_true (s9_1 (getD_ne h (by decide : 8 ≠ 9)))⟩
              refine InvSteps.cons rfl (fun listed a w' K' hlt hun hdep hI hK => ?_) ?_
              · obtain ⟨t64, t65, t66, t67, t68, t69, t70, t71, ha, hb, h0, h1, h2, h3, h4, h5, h6, h7, M0, M1, S2, S3, S4, S5, S6, S7, S8, S9, S10, s8_5, s9_1⟩ := hI
                have H7 := hdep ⟨7, Ground.data⟩ (by simp) rfl
                have H8 := hdep ⟨8, Ground.chain⟩ (by simp) rfl
                have H0 := hdep ⟨0, Ground.phase⟩ (by simp) rfl
                have H1 := hdep ⟨1, Ground.phase⟩ (by simp) rfl
                have H2 := hdep ⟨2, Ground.phase⟩ (by simp) rfl
                have H3 := hdep ⟨3, Ground.phase⟩ (by simp) rfl
                have H4 := hdep ⟨4, Ground.phase⟩ (by simp) rfl
                have H5 := hdep ⟨5, Ground.phase⟩ (by simp) rfl
                have H6 := hdep ⟨6, Ground.phase⟩ (by simp) rfl
                clear hdep
                have g7 := h7 H7
                subst g7
                have g0 := h0 H0
                subst g0
                have g1 := h1 H1
                subst g1
                have g2 := h2 H2
                subst g2
                have g3 := h3 H3
                subst g3
                have g4 := h4 H4
                subst g4
                have g5 := h5 H5
                subst g5
                have g6 := h6 H6
                subst g6
                have kc := M1
                rw [if_neg (by rw [hun]; exact Bool.false_ne_true)] at kc
                have kl := kc.lt
                have k0 := (kc 0 _ rfl).1
                have z0 := (kc 0 _ rfl).2
                have k1 := (kc 1 _ rfl).1
                have z1 := (kc 1 _ rfl).2
                have k2 := (kc 2 _ rfl).1
                have z2 := (kc 2 _ rfl).2
                have k3 := (kc 3 _ rfl).1
                have z3 := (kc 3 _ rfl).2
                rw [ha]
                clear ha a
                simp only [puts_cons, puts_nil, Act.put, List.setIfInBounds_toArray, List.set_cons_zero, List.set_cons_succ]
                go_simp
                have yc0 : Cells (w.heap.size + 1) [.bool nb, .string sc, .bool nd, .string sd] _ := (kc).set (k := 0) (Value.bool nb) _ rfl
                have yc1 : Cells (w.heap.size + 1) [.bool nb, .string sb, .bool nd, .string sd] _ := (yc0).set (k := 1) (Value.string sb) _ rfl
                have yc2 : Cells (w.heap.size + 1) [.bool nb, .string sb, .bool nr, .string sd] _ := (yc1).set (k := 2) (Value.bool nr) _ rfl
                have yc3 : Cells (w.heap.size + 1) [.bool nb, .string sb, .bool nr, .string sr] _ := (yc2).set (k := 3) (Value.string sr) _ rfl
                exact hK.out _ _ ⟨(.pointer (some ⟨w.heap.size + 1, 2, none⟩)), (.agg #[.bool nd, .string sd]), (.agg #[.bool nm, .string sm]), (.agg #[.bool nd, .string sd, .bool nm, .string sm]), (.pointer (some ⟨w.heap.size, 2, none⟩)), (.agg #[.bool nb, .string sb]), (.agg #[.bool nr, .string sr]), (.agg #[.bool nb, .string sb, .bool nr, .string sr]), (by kernel_rfl), (below_sets (below_sets (below_sets (below_sets hb (show w.heap.size ≤ w.heap.size + 1 from by omega) 0 (Value.bool nb)) (show w.heap.size ≤ w.heap.size + 1 from by omega) 1 (Value.string sb)) (show w.heap.size ≤ w.heap.size + 1 from by omega) 2 (Value.bool nr)) (show w.heap.size ≤ w.heap.size + 1 from by omega) 3 (Value.string sr)), fun _ => rfl, fun _ => rfl, fun _ => rfl, fun _ => rfl, fun _ => rfl, fun _ => rfl, fun _ => rfl, fun _ => rfl, (by rw [getD_set_ne false (by decide : 9 ≠ 8)]; exact ((((((((M0).other (by omega))).other (by omega))).other (by omega))).other (by omega))), (by rw [if_pos (getD_self hlt)]; exact yc3), ((((((((S2).other (by omega))).other (by omega))).other (by omega))).other (by omega)), ((((((((S3).other (Ne.symm HX.out.2.2.2.2.2.2.2.2.2.2.2.2.2.2.2.2.2.2.2.2.2.2.2.2.2.2.2.2.2.2.2.2.2.2.2.2.2.2.2.2.2.2.2.2.2.2.2.1))).other (Ne.symm HX.out.2.2.2.2.2.2.2.2.2.2.2.2.2.2.2.2.2.2.2.2.2.2.2.2.2.2.2.2.2.2.2.2.2.2.2.2.2.2.2.2.2.2.2.2.2.2.2.1))).other (Ne.symm HX.out.2.2.2.2.2.2.2.2.2.2.2.2.2.2.2.2.2.2.2.2.2.2.2.2.2.2.2.2.2.2.2.2.2.2.2.2.2.2.2.2.2.2.2.2.2.2.2.1))).other (Ne.symm HX.out.2.2.2.2.2.2.2.2.2.2.2.2.2.2.2.2.2.2.2.2.2.2.2.2.2.2.2.2.2.2.2.2.2.2.2.2.2.2.2.2.2.2.2.2.2.2.2.1)), ((((((((S4).other (Ne.symm HX.out.2.2.2.2.2.2.2.2.2.2.2.2.2.2.2.2.2.2.2.2.2.2.2.2.2.2.2.2.2.2.2.2.2.2.2.2.2.2.2.2.2.2.2.1))).other (Ne.symm HX.out.2.2.2.2.2.2.2.2.2.2.2.2.2.2.2.2.2.2.2.2.2.2.2.2.2.2.2.2.2.2.2.2.2.2.2.2.2.2.2.2.2.2.2.1))).other (Ne.symm HX.out.2.2.2.2.2.2.2.2.2.2.2.2.2.2.2.2.2.2.2.2.2.2.2.2.2.2.2.2.2.2.2.2.2.2.2.2.2.2.2.2.2.2.2.1))).other (Ne.symm HX.out.2.2.2.2.2.2.2.2.2.2.2.2.2.2.2.2.2.2.2.2.2.2.2.2.2.2.2.2.2.2.2.2.2.2.2.2.2.2.2.2.2.2.2.1)), ((((((((S5).other (Ne.symm HX.out.2.2.2.2.2.2.2.2.2.2.2.2.2.2.2.2.2.2.2.2.2.2.2.2.2.2.2.2.2.2.2.2.2.2.2.2.2.2.2.2.2.2.2.2.2.2.2.2.2.2.1))).other (Ne.symm HX.out.2.2.2.2.2.2.2.2.2.2.2.2.2.2.2.2.2.2.2.2.2.2.2.2.2.2.2.2.2.2.2.2.2.2.2.2.2.2.2.2.2.2.2.2.2.2.2.2.2.2.1))).other (Ne.symm HX.out.2.2.2.2.2.2.2.2.2.2.2.2.2.2.2.2.2.2.2.2.2.2.2.2.2.2.2.2.2.2.2.2.2.2.2.2.2.2.2.2.2.2.2.2.2.2.2.2.2.2.1))).other (Ne.symm HX.out.2.2.2.2.2.2.2.2.2.2.2.2.2.2.2.2.2.2.2.2.2.2.2.2.2.2.2.2.2.2.2.2.2.2.2.2.2.2.2.2.2.2.2.2.2.2.2.2.2.2.1)), ((((((((S6).other (Ne.symm HX.out.2.2.2.2.2.2.2.2.2.2.2.2.2.2.2.2.2.2.2.2.2.2.2.2.2.2.2.2.2.2.2.2.2.2.2.2.2.2.2.2.2.2.2.2.2.2.2.2.2.2.2.2.2.2.2.1))).other (Ne.symm HX.out.2.2.2.2.2.2.2.2.2.2.2.2.2.2.2.2.2.2.2.2.2.2.2.2.2.2.2.2.2.2.2.2.2.2.2.2.2.2.2.2.2.2.2.2.2.2.2.2.2.2.2.2.2.2.2.1))).other (Ne.symm HX.out.2.2.2.2.2.2.2.2.2.2.2.2.2.2.2.2.2.2.2.2.2.2.2.2.2.2.2.2.2.2.2.2.2.2.2.2.2.2.2.2.2.2.2.2.2.2.2.2.2.2.2.2.2.2.2.1))).other (Ne.symm HX.out.2.2.2.2.2.2.2.2.2.2.2.2.2.2.2.2.2.2.2.2.2.2.2.2.2.2.2.2.2.2.2.2.2.2.2.2.2.2.2.2.2.2.2.2.2.2.2.2.2.2.2.2.2.2.2.1)), ((((((((S7).other (Ne.symm HX.out.2.2.2.2.2.2.2.2.2.2.2.2.2.2.2.2.2.2.2.2.2.2.2.2.2.2.2.2.2.2.2.2.2.2.2.2.1))).other (Ne.symm HX.out.2.2.2.2.2.2.2.2.2.2.2.2.2.2.2.2.2.2.2.2.2.2.2.2.2.2.2.2.2.2.2.2.2.2.2.2.1))).other (Ne.symm HX.out.2.2.2.2.2.2.2.2.2.2.2.2.2.2.2.2.2.2.2.2.2.2.2.2.2.2.2.2.2.2.2.2.2.2.2.2.1))).other (Ne.symm HX.out.2.2.2.2.2.2.2.2.2.2.2.2.2.2.2.2.2.2.2.2.2.2.2.2.2.2.2.2.2.2.2.2.2.2.2.2.1)), ((((((((S8).other (Ne.symm HX.out.2.2.2.2.2.2.2.2.2.2.2.2.2.2.2.2.2.2.2.2.2.2.2.2.2.2.2.2.1))).other (Ne.symm HX.out.2.2.2.2.2.2.2.2.2.2.2.2.2.2.2.2.2.2.2.2.2.2.2.2.2.2.2.2.1))).other (Ne.symm HX.out.2.2.2.2.2.2.2.2.2.2.2.2.2.2.2.2.2.2.2.2.2.2.2.2.2.2.2.2.1))).other (Ne.symm HX.out.2.2.2.2.2.2.2.2.2.2.2.2.2.2.2.2.2.2.2.2.2.2.2.2.2.2.2.2.1)), ((((((((S9).other (Ne.symm HX.out.2.2.2.2.2.2.2.2.2.1))).other (Ne.symm HX.out.2.2.2.2.2.2.2.2.2.1))).other (Ne.symm HX.out.2.2.2.2.2.2.2.2.2.1))).other (Ne.symm HX.out.2.2.2.2.2.2.2.2.2.1)), ((((((((S10).other (Ne.symm HX.out.2.2.2.2.2.2.2.2.2.2.2.2.2.2.2.2.2.2.1))).other (Ne.symm HX.out.2.2.2.2.2.2.2.2.2.2.2.2.2.2.2.2.2.2.1))).other (Ne.symm HX.out.2.2.2.2.2.2.2.2.2.2.2.2.2.2.2.2.2.2.1))).other (Ne.symm HX.out.2.2.2.2.2.2.2.2.2.2.2.2.2.2.2.2.2.2.1)), fun h => getD_set_true (s8_5 (getD_ne h (by decide : 9 ≠ 8))), fun _ => getD_set_true H1⟩
              exact InvSteps.nil
            · intro listed a w10 hl hI
              obtain ⟨t64, t65, t66, t67, t68, t69, t70, t71, ha, hb, h0, h1, h2, h3, h4, h5, h6, h7, M0, M1, S2, S3, S4, S5, S6, S7, S8, S9, S10, s8_5, s9_1⟩ := hI
              have H0 := hl 0 (by show 0 < 10; omega)
              have H1 := hl 1 (by show 1 < 10; omega)
              have H2 := hl 2 (by show 2 < 10; omega)
              have H3 := hl 3 (by show 3 < 10; omega)
              have H4 := hl 4 (by show 4 < 10; omega)
              have H5 := hl 5 (by show 5 < 10; omega)
              have H6 := hl 6 (by show 6 < 10; omega)
              have H7 := hl 7 (by show 7 < 10; omega)
              have H8 := hl 8 (by show 8 < 10; omega)
              have H9 := hl 9 (by show 9 < 10; omega)
              have g0 := h0 H0
              subst g0
              have g1 := h1 H1
              subst g1
              have g2 := h2 H2
              subst g2
              have g3 := h3 H3
              subst g3
              have g4 := h4 H4
              subst g4
              have g5 := h5 H5
              subst g5
              have g6 := h6 H6
              subst g6
              have g7 := h7 H7
              subst g7
              rw [if_pos H8] at M0
              rw [if_pos H9] at M1
              clear H0 H1 H2 H3 H4 H5 H6 H7 H8 H9 hl h0 h1 h2 h3 h4 h5 h6 h7 s8_5 s9_1 listed
              rw [ha]
              clear ha a
              simp only [puts_cons, puts_nil, Act.put, List.setIfInBounds_toArray, List.set_cons_zero, List.set_cons_succ]
              clear hbase
              have f := HA7.out.1.trans (hb)
              have HA8 := Lib.hid (And.intro f (And.intro M0 (And.intro M1 (And.intro S2 (And.intro S3 (And.intro S4 (And.intro S5 (And.intro S6 (And.intro S7 (And.intro S8 (And.intro S9 S10)))))))))))
              clear f hb M0 M1 S2 S3 S4 S5 S6 S7 S8 S9 S10
              go_wp2_with fail
              obtain ⟨⟨p', q', hB'⟩, hlt⟩ := HBT.out.step hr hc
              go_roundg (n2 % d2 + n1 % d1)
              case measure => have := HBT.out.mes; omega
              case rel =>
                exact ⟨d2, n2 % d2, d1, n1 % d1, n1 / d1 * vn + en, n1 / d1 * vd + ed, vn, vd, p', q', nd, nm, nb, nr, nN, nO, nv, nx, sd, sm, sb, sr, sN, sO, sv, sx, hB', ⟨HV.out.2.2.2.1, nam_of HN.out.2.2.2 hB'.b2 HM.out.1 HM.out.2, HV.out.2.1, nam_of HN.out.2.1 hB'.b4 HM.out.1 HM.out.2, nam_of HNO.out.1 hB'.b5 HM.out.1 HM.out.2, nam_of HNO.out.2 hB'.b6 HM.out.1 HM.out.2, HV.out.2.2.2.2.1, HV.out.2.2.2.2.2.1⟩, HA8.out.1, HA8.out.2.1, HA8.out.2.2.1, HA8.out.2.2.2.1, HA8.out.2.2.2.2.1, HA8.out.2.2.2.2.2.1, HA8.out.2.2.2.2.2.2.1, HA8.out.2.2.2.2.2.2.2.1⟩
        · have e2 : eqI nt st ng sg = false := by rw [HE.out.2]; exact decide_eq_false (by omega)
          obtain ⟨nN, sN, mN⟩ := nam_ex ((n1 / d1 + 1 : Nat) : Int)
          have HNO := Lib.hid mN
          clear mN
          have l0 := (HA3.out.2.1).lt
          have l1 := (HA3.out.2.2.1).lt
          have l2 := (HA3.out.2.2.2.1).lt
          have l3 := (HA3.out.2.2.2.2.1).lt
          have m30 := (HA3.out.2.2.2.2.1 0 _ rfl).1
          have m31 := (HA3.out.2.2.2.2.1 1 _ rfl).1
          have l4 := (HA3.out.2.2.2.2.2.1).lt
          have m40 := (HA3.out.2.2.2.2.2.1 0 _ rfl).1
          have m41 := (HA3.out.2.2.2.2.2.1 1 _ rfl).1
          have l5 := (HA3.out.2.2.2.2.2.2.1).lt
          have m50 := (HA3.out.2.2.2.2.2.2.1 0 _ rfl).1
          have m51 := (HA3.out.2.2.2.2.2.2.1 1 _ rfl).1
          have m52 := (HA3.out.2.2.2.2.2.2.1 2 _ rfl).1
          have m53 := (HA3.out.2.2.2.2.2.2.1 3 _ rfl).1
          have l6 := (HA3.out.2.2.2.2.2.2.2.1).lt
          have m60 := (HA3.out.2.2.2.2.2.2.2.1 0 _ rfl).1
          have m61 := (HA3.out.2.2.2.2.2.2.2.1 1 _ rfl).1
          have m62 := (HA3.out.2.2.2.2.2.2.2.1 2 _ rfl).1
          have m63 := (HA3.out.2.2.2.2.2.2.2.1 3 _ rfl).1
          have l7 := (HA3.out.2.2.2.2.2.2.2.2.1).lt
          have m70 := (HA3.out.2.2.2.2.2.2.2.2.1 0 _ rfl).1
          have m71 := (HA3.out.2.2.2.2.2.2.2.2.1 1 _ rfl).1
          have l8 := (HA3.out.2.2.2.2.2.2.2.2.2).lt
          have m80 := (HA3.out.2.2.2.2.2.2.2.2.2 0 _ rfl).1
          have m81 := (HA3.out.2.2.2.2.2.2.2.2.2 1 _ rfl).1
          go_wp2_with fail
          clear l0 l1 l2 l3 m30 m31 l4 m40 m41 l5 m50 m51 m52 m53 l6 m60 m61 m62 m63 l7 m70 m71 l8 m80 m81
          clear q1 q2 q3
          obtain ⟨w8, hw8⟩ : ∃ V, ((w7.alloc (Obj.cells #[Value.bool ng, Value.string sg] 23)).alloc (Obj.cells #[Value.bool nm, Value.string sm] 23)) = V := ⟨_, rfl⟩
          obtain ⟨BG, hBG⟩ : ∃ B, w7.heap.size = B := ⟨_, rfl⟩
          obtain ⟨BM, hBM⟩ : ∃ B, BG + 1 = B := ⟨_, rfl⟩
          have f : Below w.heap.size w w8 := by rw [← hw8]; exact ((HA3.out.1.alloc (by have := HA3.out.1.size; simp; try omega) _).alloc (by have := HA3.out.1.size; simp; try omega) _)
          have t0 : Cells (w.heap.size) [.bool na, .string sa, .bool nb, .string sb] w8 := by rw [← hw8]; exact ((((HA3.out.2.1).alloc (by have := (HA3.out.2.1).lt; simp; try omega) _)).alloc (by have := (HA3.out.2.1).lt; simp; try omega) _)
          have t1 : Cells (w.heap.size + 1) [.bool nc, .string sc, .bool nd, .string sd] w8 := by rw [← hw8]; exact ((((HA3.out.2.2.1).alloc (by have := (HA3.out.2.2.1).lt; simp; try omega) _)).alloc (by have := (HA3.out.2.2.1).lt; simp; try omega) _)
          have t2 : Cells (w.heap.size + 1 + 1) [.bool false, .string ⟨#[]⟩, .bool false, .string ⟨#[]⟩] w8 := by rw [← hw8]; exact ((((HA3.out.2.2.2.1).alloc (by have := (HA3.out.2.2.2.1).lt; simp; try omega) _)).alloc (by have := (HA3.out.2.2.2.1).lt; simp; try omega) _)
          have t3 : Cells (BZ) [.bool false, .string ⟨#[]⟩] w8 := by rw [← hw8]; exact ((((HA3.out.2.2.2.2.1).alloc (by have := (HA3.out.2.2.2.2.1).lt; simp; try omega) _)).alloc (by have := (HA3.out.2.2.2.2.1).lt; simp; try omega) _)
          have t4 : Cells (BU) [.bool false, .string ⟨#[1]⟩] w8 := by rw [← hw8]; exact ((((HA3.out.2.2.2.2.2.1).alloc (by have := (HA3.out.2.2.2.2.2.1).lt; simp; try omega) _)).alloc (by have := (HA3.out.2.2.2.2.2.1).lt; simp; try omega) _)
          have t5 : Cells (B6) [.bool ny, .string sy, .bool nz, .string sz] w8 := by rw [← hw8]; exact ((((HA3.out.2.2.2.2.2.2.1).alloc (by have := (HA3.out.2.2.2.2.2.2.1).lt; simp; try omega) _)).alloc (by have := (HA3.out.2.2.2.2.2.2.1).lt; simp; try omega) _)
          have t6 : Cells (B7) [.bool nv, .string sv, .bool nx, .string sx] w8 := by rw [← hw8]; exact ((((HA3.out.2.2.2.2.2.2.2.1).alloc (by have := (HA3.out.2.2.2.2.2.2.2.1).lt; simp; try omega) _)).alloc (by have := (HA3.out.2.2.2.2.2.2.2.1).lt; simp; try omega) _)
          have t7 : Cells (BT) [.bool nt, .string st] w8 := by rw [← hw8]; exact ((((HA3.out.2.2.2.2.2.2.2.2.1).alloc (by have := (HA3.out.2.2.2.2.2.2.2.2.1).lt; simp; try omega) _)).alloc (by have := (HA3.out.2.2.2.2.2.2.2.2.1).lt; simp; try omega) _)
          have t8 : Cells (BR) [.bool nr, .string sr] w8 := by rw [← hw8]; exact ((((HA3.out.2.2.2.2.2.2.2.2.2).alloc (by have := (HA3.out.2.2.2.2.2.2.2.2.2).lt; simp; try omega) _)).alloc (by have := (HA3.out.2.2.2.2.2.2.2.2.2).lt; simp; try omega) _)
          have t9 : Cells BG [.bool ng, .string sg] w8 := by
            rw [← hw8, ← hBG]
            have h := cells_new w7 #[.bool ng, .string sg] 23
            (try simp only at h)
            exact (h.alloc (by simp; try omega) _)
          have t10 : Cells BM [.bool nm, .string sm] w8 := by
            rw [← hw8, ← hBM, ← hBG]
            have h := cells_new (w7.alloc (Obj.cells #[Value.bool ng, Value.string sg] 23)) #[.bool nm, .string sm] 23
            (try simp only [World.size_alloc] at h)
            exact h
          have xBG0 : ¬ (w.heap.size) = BG := by have := (HA3.out.2.1).lt; omega
          have xBG1 : ¬ (w.heap.size + 1) = BG := by have := (HA3.out.2.2.1).lt; omega
          have xBG2 : ¬ (w.heap.size + 1 + 1) = BG := by have := (HA3.out.2.2.2.1).lt; omega
          have xBG3 : ¬ (BZ) = BG := by have := (HA3.out.2.2.2.2.1).lt; omega
          have xBG4 : ¬ (BU) = BG := by have := (HA3.out.2.2.2.2.2.1).lt; omega
          have xBG5 : ¬ (B6) = BG := by have := (HA3.out.2.2.2.2.2.2.1).lt; omega
          have xBG6 : ¬ (B7) = BG := by have := (HA3.out.2.2.2.2.2.2.2.1).lt; omega
          have xBG7 : ¬ (BT) = BG := by have := (HA3.out.2.2.2.2.2.2.2.2.1).lt; omega
          have xBG8 : ¬ (BR) = BG := by have := (HA3.out.2.2.2.2.2.2.2.2.2).lt; omega
          have gBG : w.heap.size ≤ BG := by have := HA3.out.1.size; omega
          have xBM0 : ¬ (w.heap.size) = BM := by have := (HA3.out.2.1).lt; omega
          have xBM1 : ¬ (w.heap.size + 1) = BM := by have := (HA3.out.2.2.1).lt; omega
          have xBM2 : ¬ (w.heap.size + 1 + 1) = BM := by have := (HA3.out.2.2.2.1).lt; omega
          have xBM3 : ¬ (BZ) = BM := by have := (HA3.out.2.2.2.2.1).lt; omega
          have xBM4 : ¬ (BU) = BM := by have := (HA3.out.2.2.2.2.2.1).lt; omega
          have xBM5 : ¬ (B6) = BM := by have := (HA3.out.2.2.2.2.2.2.1).lt; omega
          have xBM6 : ¬ (B7) = BM := by have := (HA3.out.2.2.2.2.2.2.2.1).lt; omega
          have xBM7 : ¬ (BT) = BM := by have := (HA3.out.2.2.2.2.2.2.2.2.1).lt; omega
          have xBM8 : ¬ (BR) = BM := by have := (HA3.out.2.2.2.2.2.2.2.2.2).lt; omega
          have xBM9 : ¬ BG = BM := by omega
          have gBM : w.heap.size ≤ BM := by have := HA3.out.1.size; omega
          have HA4 := Lib.hid (And.intro f (And.intro t0 (And.intro t1 (And.intro t2 (And.intro t3 (And.intro t4 (And.intro t5 (And.intro t6 (And.intro t7 (And.intro t8 (And.intro t9 t10)))))))))))
          rw [hw8]
          (try rw [hBG, hBM])
          clear hw8 hBM hBG f t0 t1 t2 t3 t4 t5 t6 t7 t8 t9 t10
          have HX := Lib.hid (And.intro gBG (And.intro gBM (And.intro gBR (And.intro gBT (And.intro gBU (And.intro gBZ (And.intro rE (And.intro rV (And.intro xBG0 (And.intro xBG1 (And.intro xBG2 (And.intro xBG3 (And.intro xBG4 (And.intro xBG5 (And.intro xBG6 (And.intro xBG7 (And.intro xBG8 (And.intro xBM0 (And.intro xBM1 (And.intro xBM2 (And.intro xBM3 (And.intro xBM4 (And.intro xBM5 (And.intro xBM6 (And.intro xBM7 (And.intro xBM8 (And.intro xBM9 (And.intro xBR0 (And.intro xBR1 (And.intro xBR2 (And.intro xBR3 (And.intro xBR4 (And.intro xBR5 (And.intro xBR6 (And.intro xBR7 (And.intro xBT0 (And.intro xBT1 (And.intro xBT2 (And.intro xBT3 (And.intro xBT4 (And.intro xBT5 (And.intro xBT6 (And.intro xBU0 (And.intro xBU1 (And.intro xBU2 (And.intro xBU3 (And.intro xBZ0 (And.intro xBZ1 (And.intro xBZ2 (And.intro xE0 (And.intro xE1 (And.intro xE2 (And.intro xE3 (And.intro xE4 (And.intro xV0 (And.intro xV1 (And.intro xV2 (And.intro xV3 (And.intro xV4 (e6_7))))))))))))))))))))))))))))))))))))))))))))))))))))))))))))
          clear gBG gBM gBR gBT gBU gBZ rE rV xBG0 xBG1 xBG2 xBG3 xBG4 xBG5 xBG6 xBG7 xBG8 xBM0 xBM1 xBM2 xBM3 xBM4 xBM5 xBM6 xBM7 xBM8 xBM9 xBR0 xBR1 xBR2 xBR3 xBR4 xBR5 xBR6 xBR7 xBT0 xBT1 xBT2 xBT3 xBT4 xBT5 xBT6 xBU0 xBU1 xBU2 xBU3 xBZ0 xBZ1 xBZ2 xE0 xE1 xE2 xE3 xE4 xV0 xV1 xV2 xV3 xV4 e6_7
          have hbase := HA4.out.1.size
          refine wp_region_invA (fun a listed a' w' => ∃ t53 t54 t55 t56 t57 t58 : Value, a' = puts a [(53, t53), (54, t54), (55, t55), (56, t56), (57, t57), (58, t58)] ∧ Below (w.heap.size) w8 w' ∧ (listed.getD 0 false = true → t53 = .agg #[.bool nv, .string sv, .bool nx, .string sx]) ∧ (listed.getD 1 false = true → t54 = .agg #[.bool nt, .string st]) ∧ (listed.getD 2 false = true → t55 = .agg #[.bool false, .string ⟨#[1]⟩]) ∧ (listed.getD 3 false = true → t56 = .agg #[.bool nN, .string sN]) ∧ (listed.getD 4 false = true → t57 = .agg #[.bool ny, .string sy, .bool nz, .string sz]) ∧ (listed.getD 5 false = true → t58 = .agg #[.bool nP, .string sP, .bool nQ, .string sQ]) ∧ Cells (w.heap.size + 1 + 1) (if listed.getD 6 false = true then [.bool nP, .string sP, .bool nQ, .string sQ] else [.bool false, .string ⟨#[]⟩, .bool false, .string ⟨#[]⟩]) w' ∧ Cells (w.heap.size) [.bool na, .string sa, .bool nb, .string sb] w' ∧ Cells (w.heap.size + 1) [.bool nc, .string sc, .bool nd, .string sd] w' ∧ Cells (BZ) [.bool false, .string ⟨#[]⟩] w' ∧ Cells (BU) [.bool false, .string ⟨#[1]⟩] w' ∧ Cells (B6) [.bool ny, .string sy, .bool nz, .string sz] w' ∧ Cells (B7) [.bool nv, .string sv, .bool nx, .string sx] w' ∧ Cells (BT) [.bool nt, .string st] w' ∧ Cells (BR) [.bool nr, .string sr] w' ∧ Cells (BG) [.bool ng, .string sg] w' ∧ Cells (BM) [.bool nm, .string sm] w') (by kernel_rfl) (by kernel_rfl) ?_ ?_ ?_
          · exact ⟨u53, u54, u55, u56, u57, u58, (by kernel_rfl), (Below.refl _ _).drew, (fun h => getD_rep h), (fun h => getD_rep h), (fun h => getD_rep h), (fun h => getD_rep h), (fun h => getD_rep h), (fun h => getD_rep h), (by rw [if_neg (fun h => getD_rep h)]; exact (show Cells _ _ w8.drew from HA4.out.2.2.2.1)), (show Cells _ _ w8.drew from HA4.out.2.1), (show Cells _ _ w8.drew from HA4.out.2.2.1), (show Cells _ _ w8.drew from HA4.out.2.2.2.2.1), (show Cells _ _ w8.drew from HA4.out.2.2.2.2.2.1), (show Cells _ _ w8.drew from HA4.out.2.2.2.2.2.2.1), (show Cells _ _ w8.drew from HA4.out.2.2.2.2.2.2.2.1), (show Cells _ _ w8.drew from HA4.out.2.2.2.2.2.2.2.2.1), (show Cells _ _ w8.drew from HA4.out.2.2.2.2.2.2.2.2.2.1), (show Cells _ _ w8.drew from HA4.out.2.2.2.2.2.2.2.2.2.2.1), (show Cells _ _ w8.drew from HA4.out.2.2.2.2.2.2.2.2.2.2.2)⟩
          · show InvSteps _ _ _ _ _ [0, 1, 2, 3, 4, 5, 6]
            refine InvSteps.cons rfl (fun listed a w' K' hlt hun hdep hI hK => ?_) ?_
            · obtain ⟨t53, t54, t55, t56, t57, t58, ha, hb, h0, h1, h2, h3, h4, h5, M2, S0, S1, S3, S4, S5, S6, S7, S8, S9, S10⟩ := hI
              clear hdep
              have kc := S6
              have kl := kc.lt
              have k0 := (kc 0 _ rfl).1
              have k1 := (kc 1 _ rfl).1
              have k2 := (kc 2 _ rfl).1
              have k3 := (kc 3 _ rfl).1
              clear kc
              rw [ha]
              clear ha a
              simp only [puts_cons, puts_nil, Act.put, List.setIfInBounds_toArray, List.set_cons_zero, List.set_cons_succ]
              go_simp
              exact hK.out _ _ ⟨(.agg #[.bool nv, .string sv, .bool nx, .string sx]), t54, t55, t56, t57, t58, (by kernel_rfl), hb, fun _ => rfl, fun h => h1 (getD_ne h (by decide : 0 ≠ 1)), fun h => h2 (getD_ne h (by decide : 0 ≠ 2)), fun h => h3 (getD_ne h (by decide : 0 ≠ 3)), fun h => h4 (getD_ne h (by decide : 0 ≠ 4)), fun h => h5 (getD_ne h (by decide : 0 ≠ 5)), (by rw [getD_set_ne false (by decide : 0 ≠ 6)]; exact M2), S0, S1, S3, S4, S5, S6, S7, S8, S9, S10⟩
            refine InvSteps.cons rfl (fun listed a w' K' hlt hun hdep hI hK => ?_) ?_
            · obtain ⟨t53, t54, t55, t56, t57, t58, ha, hb, h0, h1, h2, h3, h4, h5, M2, S0, S1, S3, S4, S5, S6, S7, S8, S9, S10⟩ := hI
              clear hdep
              have kc := S7
              have kl := kc.lt
              have k0 := (kc 0 _ rfl).1
              have k1 := (kc 1 _ rfl).1
              clear kc
              rw [ha]
              clear ha a
              simp only [puts_cons, puts_nil, Act.put, List.setIfInBounds_toArray, List.set_cons_zero, List.set_cons_succ]
              go_simp
              exact hK.out _ _ ⟨t53, (.agg #[.bool nt, .string st]), t55, t56, t57, t58, (by kernel_rfl), hb, fun h => h0 (getD_ne h (by decide : 1 ≠ 0)), fun _ => rfl, fun h => h2 (getD_ne h (by decide : 1 ≠ 2)), fun h => h3 (getD_ne h (by decide : 1 ≠ 3)), fun h => h4 (getD_ne h (by decide : 1 ≠ 4)), fun h => h5 (getD_ne h (by decide : 1 ≠ 5)), (by rw [getD_set_ne false (by decide : 1 ≠ 6)]; exact M2), S0, S1, S3, S4, S5, S6, S7, S8, S9, S10⟩
            refine InvSteps.cons rfl (fun listed a w' K' hlt hun hdep hI hK => ?_) ?_
            · obtain ⟨t53, t54, t55, t56, t57, t58, ha, hb, h0, h1, h2, h3, h4, h5, M2, S0, S1, S3, S4, S5, S6, S7, S8, S9, S10⟩ := hI
              clear hdep
              have kc := S4
              have kl := kc.lt
              have k0 := (kc 0 _ rfl).1
              have k1 := (kc 1 _ rfl).1
              clear kc
              rw [ha]
              clear ha a
              simp only [puts_cons, puts_nil, Act.put, List.setIfInBounds_toArray, List.set_cons_zero, List.set_cons_succ]
              go_simp
              exact hK.out _ _ ⟨t53, t54, (.agg #[.bool false, .string ⟨#[1]⟩]), t56, t57, t58, (by kernel_rfl), hb, fun h => h0 (getD_ne h (by decide : 2 ≠ 0)), fun h => h1 (getD_ne h (by decide : 2 ≠ 1)), fun _ => rfl, fun h => h3 (getD_ne h (by decide : 2 ≠ 3)), fun h => h4 (getD_ne h (by decide : 2 ≠ 4)), fun h => h5 (getD_ne h (by decide : 2 ≠ 5)), (by rw [getD_set_ne false (by decide : 2 ≠ 6)]; exact M2), S0, S1, S3, S4, S5, S6, S7, S8, S9, S10⟩
            refine InvSteps.cons rfl (fun listed a w' K' hlt hun hdep hI hK => ?_) ?_
            · obtain ⟨t53, t54, t55, t56, t57, t58, ha, hb, h0, h1, h2, h3, h4, h5, M2, S0, S1, S3, S4, S5, S6, S7, S8, S9, S10⟩ := hI
              have H1 := hdep ⟨1, Ground.data⟩ (by simp) rfl
              have H2 := hdep ⟨2, Ground.data⟩ (by simp) rfl
              clear hdep
              have g1 := h1 H1
              subst g1
              have g2 := h2 H2
              subst g2
              rw [ha]
              clear ha a
              simp only [puts_cons, puts_nil, Act.put, List.setIfInBounds_toArray, List.set_cons_zero, List.set_cons_succ]
              go_simp
              refine (add_val (nam_of HN.out.1 (Nat.le_trans (Nat.div_le_self _ _) HBT.out.b1) HM.out.1 HM.out.2) (show Val false ⟨#[1]⟩ 1 from ⟨rfl, by show 1 ≤ 262144; omega⟩) (by rw [Int.natCast_add]; rfl) HNO.out _).mono ?_
              rintro e u ⟨rfl, c⟩
              go_simp
              exact hK.out _ _ ⟨t53, (.agg #[.bool nt, .string st]), (.agg #[.bool false, .string ⟨#[1]⟩]), (.agg #[.bool nN, .string sN]), t57, t58, (by kernel_rfl), hb.trans (c.mono (Nat.le_trans hbase hb.size)), fun h => h0 (getD_ne h (by decide : 3 ≠ 0)), fun _ => rfl, fun _ => rfl, fun _ => rfl, fun h => h4 (getD_ne h (by decide : 3 ≠ 4)), fun h => h5 (getD_ne h (by decide : 3 ≠ 5)), (by rw [getD_set_ne false (by decide : 3 ≠ 6)]; exact (M2).below c (by have := (HA4.out.2.2.2.1).lt; have := hb.size; omega)), (S0).below c (S0).lt, (S1).below c (S1).lt, (S3).below c (S3).lt, (S4).below c (S4).lt, (S5).below c (S5).lt, (S6).below c (S6).lt, (S7).below c (S7).lt, (S8).below c (S8).lt, (S9).below c (S9).lt, (S10).below c (S10).lt⟩
            refine InvSteps.cons rfl (fun listed a w' K' hlt hun hdep hI hK => ?_) ?_
            · obtain ⟨t53, t54, t55, t56, t57, t58, ha, hb, h0, h1, h2, h3, h4, h5, M2, S0, S1, S3, S4, S5, S6, S7, S8, S9, S10⟩ := hI
              clear hdep
              have kc := S5
              have kl := kc.lt
              have k0 := (kc 0 _ rfl).1
              have k1 := (kc 1 _ rfl).1
              have k2 := (kc 2 _ rfl).1
              have k3 := (kc 3 _ rfl).1
              clear kc
              rw [ha]
              clear ha a
              simp only [puts_cons, puts_nil, Act.put, List.setIfInBounds_toArray, List.set_cons_zero, List.set_cons_succ]
              go_simp
              exact hK.out _ _ ⟨t53, t54, t55, t56, (.agg #[.bool ny, .string sy, .bool nz, .string sz]), t58, (by kernel_rfl), hb, fun h => h0 (getD_ne h (by decide : 4 ≠ 0)), fun h => h1 (getD_ne h (by decide : 4 ≠ 1)), fun h => h2 (getD_ne h (by decide : 4 ≠ 2)), fun h => h3 (getD_ne h (by decide : 4 ≠ 3)), fun _ => rfl, fun h => h5 (getD_ne h (by decide : 4 ≠ 5)), (by rw [getD_set_ne false (by decide : 4 ≠ 6)]; exact M2), S0, S1, S3, S4, S5, S6, S7, S8, S9, S10⟩
            refine InvSteps.cons rfl (fun listed a w' K' hlt hun hdep hI hK => ?_) ?_
            · obtain ⟨t53, t54, t55, t56, t57, t58, ha, hb, h0, h1, h2, h3, h4, h5, M2, S0, S1, S3, S4, S5, S6, S7, S8, S9, S10⟩ := hI
              have H0 := hdep ⟨0, Ground.data⟩ (by simp) rfl
              have H3 := hdep ⟨3, Ground.data⟩ (by simp) rfl
              have H4 := hdep ⟨4, Ground.data⟩ (by simp) rfl
              clear hdep
              have g0 := h0 H0
              subst g0
              have g3 := h3 H3
              subst g3
              have g4 := h4 H4
              subst g4
              rw [ha]
              clear ha a
              simp only [puts_cons, puts_nil, Act.put, List.setIfInBounds_toArray, List.set_cons_zero, List.set_cons_succ]
              go_simp
              refine (cont_nat HV.out.2.2.2.2.1 HV.out.2.2.2.2.2.1 (HNO.out.val (k := m + 1) (by show ((n1 / d1 + 1 : Nat) : Int).natAbs < _; rw [Int.natAbs_natCast, Nat.pow_succ]; have := HM.out.1; have := Nat.div_le_self n1 d1; have := HBT.out.b1; omega) (by have := HM.out.2; omega)) HV.out.2.2.2.2.2.2.1 HV.out.2.2.2.2.2.2.2 HBT.out.b5 HBT.out.b6 (Nat.succ_le_succ (Nat.le_trans (Nat.div_le_self _ _) HBT.out.b1)) HM.out.1 HM.out.2 (HBT.out.next hr hc).1 (HBT.out.next hr hc).2 HMP.out.1 HMP.out.2 _).mono ?_
              rintro e u ⟨rfl, c⟩
              go_simp
              exact hK.out _ _ ⟨(.agg #[.bool nv, .string sv, .bool nx, .string sx]), t54, t55, (.agg #[.bool nN, .string sN]), (.agg #[.bool ny, .string sy, .bool nz, .string sz]), (.agg #[.bool nP, .string sP, .bool nQ, .string sQ]), (by kernel_rfl), hb.trans (c.mono (Nat.le_trans hbase hb.size)), fun _ => rfl, fun h => h1 (getD_ne h (by decide : 5 ≠ 1)), fun h => h2 (getD_ne h (by decide : 5 ≠ 2)), fun _ => rfl, fun _ => rfl, fun _ => rfl, (by rw [getD_set_ne false (by decide : 5 ≠ 6)]; exact (M2).below c (by have := (HA4.out.2.2.2.1).lt; have := hb.size; omega)), (S0).below c (S0).lt, (S1).below c (S1).lt, (S3).below c (S3).lt, (S4).below c (S4).lt, (S5).below c (S5).lt, (S6).below c (S6).lt, (S7).below c (S7).lt, (S8).below c (S8).lt, (S9).below c (S9).lt, (S10).below c (S10).lt⟩
            refine InvSteps.cons rfl (fun listed a w' K' hlt hun hdep hI hK => ?_) ?_
            · obtain ⟨t53, t54, t55, t56, t57, t58, ha, hb, h0, h1, h2, h3, h4, h5, M2, S0, S1, S3, S4, S5, S6, S7, S8, S9, S10⟩ := hI
              have H5 := hdep ⟨5, Ground.data⟩ (by simp) rfl
              have H0 := hdep ⟨0, Ground.phase⟩ (by simp) rfl
              have H1 := hdep ⟨1, Ground.phase⟩ (by simp) rfl
              have H2 := hdep ⟨2, Ground.phase⟩ (by simp) rfl
              have H3 := hdep ⟨3, Ground.phase⟩ (by simp) rfl
              have H4 := hdep ⟨4, Ground.phase⟩ (by simp) rfl
              clear hdep
              have g5 := h5 H5
              subst g5
              have g0 := h0 H0
              subst g0
              have g1 := h1 H1
              subst g1
              have g2 := h2 H2
              subst g2
              have g3 := h3 H3
              subst g3
              have g4 := h4 H4
              subst g4
              have kc := M2
              rw [if_neg (by rw [hun]; exact Bool.false_ne_true)] at kc
              have kl := kc.lt
              have k0 := (kc 0 _ rfl).1
              have z0 := (kc 0 _ rfl).2
              have k1 := (kc 1 _ rfl).1
              have z1 := (kc 1 _ rfl).2
              have k2 := (kc 2 _ rfl).1
              have z2 := (kc 2 _ rfl).2
              have k3 := (kc 3 _ rfl).1
              have z3 := (kc 3 _ rfl).2
              rw [ha]
              clear ha a
              simp only [puts_cons, puts_nil, Act.put, List.setIfInBounds_toArray, List.set_cons_zero, List.set_cons_succ]
              go_simp
              have yc0 : Cells (w.heap.size + 1 + 1) [.bool nP, .string ⟨#[]⟩, .bool false, .string ⟨#[]⟩] _ := (kc).set (k := 0) (Value.bool nP) _ rfl
              have yc1 : Cells (w.heap.size + 1 + 1) [.bool nP, .string sP, .bool false, .string ⟨#[]⟩] _ := (yc0).set (k := 1) (Value.string sP) _ rfl
              have yc2 : Cells (w.heap.size + 1 + 1) [.bool nP, .string sP, .bool nQ, .string ⟨#[]⟩] _ := (yc1).set (k := 2) (Value.bool nQ) _ rfl
              have yc3 : Cells (w.heap.size + 1 + 1) [.bool nP, .string sP, .bool nQ, .string sQ] _ := (yc2).set (k := 3) (Value.string sQ) _ rfl
              exact hK.out _ _ ⟨(.agg #[.bool nv, .string sv, .bool nx, .string sx]), (.agg #[.bool nt, .string st]), (.agg #[.bool false, .string ⟨#[1]⟩]), (.agg #[.bool nN, .string sN]), (.agg #[.bool ny, .string sy, .bool nz, .string sz]), (.agg #[.bool nP, .string sP, .bool nQ, .string sQ]), (by kernel_rfl), (below_sets (below_sets (below_sets (below_sets hb (show w.heap.size ≤ w.heap.size + 1 + 1 from by omega) 0 (Value.bool nP)) (show w.heap.size ≤ w.heap.size + 1 + 1 from by omega) 1 (Value.string sP)) (show w.heap.size ≤ w.heap.size + 1 + 1 from by omega) 2 (Value.bool nQ)) (show w.heap.size ≤ w.heap.size + 1 + 1 from by omega) 3 (Value.string sQ)), fun _ => rfl, fun _ => rfl, fun _ => rfl, fun _ => rfl, fun _ => rfl, fun _ => rfl, (by rw [if_pos (getD_self hlt)]; exact yc3), ((((((((S0).other (by omega))).other (by omega))).other (by omega))).other (by omega)), ((((((((S1).other (by omega))).other (by omega))).other (by omega))).other (by omega)), ((((((((S3).other (Ne.symm HX.out.2.2.2.2.2.2.2.2.2.2.2.2.2.2.2.2.2.2.2.2.2.2.2.2.2.2.2.2.2.2.2.2.2.2.2.2.2.2.2.2.2.2.2.2.2.2.2.2.1))).other (Ne.symm HX.out.2.2.2.2.2.2.2.2.2.2.2.2.2.2.2.2.2.2.2.2.2.2.2.2.2.2.2.2.2.2.2.2.2.2.2.2.2.2.2.2.2.2.2.2.2.2.2.2.1))).other (Ne.symm HX.out.2.2.2.2.2.2.2.2.2.2.2.2.2.2.2.2.2.2.2.2.2.2.2.2.2.2.2.2.2.2.2.2.2.2.2.2.2.2.2.2.2.2.2.2.2.2.2.2.1))).other (Ne.symm HX.out.2.2.2.2.2.2.2.2.2.2.2.2.2.2.2.2.2.2.2.2.2.2.2.2.2.2.2.2.2.2.2.2.2.2.2.2.2.2.2.2.2.2.2.2.2.2.2.2.1)), ((((((((S4).other (Ne.symm HX.out.2.2.2.2.2.2.2.2.2.2.2.2.2.2.2.2.2.2.2.2.2.2.2.2.2.2.2.2.2.2.2.2.2.2.2.2.2.2.2.2.2.2.2.2.1))).other (Ne.symm HX.out.2.2.2.2.2.2.2.2.2.2.2.2.2.2.2.2.2.2.2.2.2.2.2.2.2.2.2.2.2.2.2.2.2.2.2.2.2.2.2.2.2.2.2.2.1))).other (Ne.symm HX.out.2.2.2.2.2.2.2.2.2.2.2.2.2.2.2.2.2.2.2.2.2.2.2.2.2.2.2.2.2.2.2.2.2.2.2.2.2.2.2.2.2.2.2.2.1))).other (Ne.symm HX.out.2.2.2.2.2.2.2.2.2.2.2.2.2.2.2.2.2.2.2.2.2.2.2.2.2.2.2.2.2.2.2.2.2.2.2.2.2.2.2.2.2.2.2.2.1)), ((((((((S5).other (Ne.symm HX.out.2.2.2.2.2.2.2.2.2.2.2.2.2.2.2.2.2.2.2.2.2.2.2.2.2.2.2.2.2.2.2.2.2.2.2.2.2.2.2.2.2.2.2.2.2.2.2.2.2.2.2.1))).other (Ne.symm HX.out.2.2.2.2.2.2.2.2.2.2.2.2.2.2.2.2.2.2.2.2.2.2.2.2.2.2.2.2.2.2.2.2.2.2.2.2.2.2.2.2.2.2.2.2.2.2.2.2.2.2.2.1))).other (Ne.symm HX.out.2.2.2.2.2.2.2.2.2.2.2.2.2.2.2.2.2.2.2.2.2.2.2.2.2.2.2.2.2.2.2.2.2.2.2.2.2.2.2.2.2.2.2.2.2.2.2.2.2.2.2.1))).other (Ne.symm HX.out.2.2.2.2.2.2.2.2.2.2.2.2.2.2.2.2.2.2.2.2.2.2.2.2.2.2.2.2.2.2.2.2.2.2.2.2.2.2.2.2.2.2.2.2.2.2.2.2.2.2.2.1)), ((((((((S6).other (Ne.symm HX.out.2.2.2.2.2.2.2.2.2.2.2.2.2.2.2.2.2.2.2.2.2.2.2.2.2.2.2.2.2.2.2.2.2.2.2.2.2.2.2.2.2.2.2.2.2.2.2.2.2.2.2.2.2.2.2.2.1))).other (Ne.symm HX.out.2.2.2.2.2.2.2.2.2.2.2.2.2.2.2.2.2.2.2.2.2.2.2.2.2.2.2.2.2.2.2.2.2.2.2.2.2.2.2.2.2.2.2.2.2.2.2.2.2.2.2.2.2.2.2.2.1))).other (Ne.symm HX.out.2.2.2.2.2.2.2.2.2.2.2.2.2.2.2.2.2.2.2.2.2.2.2.2.2.2.2.2.2.2.2.2.2.2.2.2.2.2.2.2.2.2.2.2.2.2.2.2.2.2.2.2.2.2.2.2.1))).other (Ne.symm HX.out.2.2.2.2.2.2.2.2.2.2.2.2.2.2.2.2.2.2.2.2.2.2.2.2.2.2.2.2.2.2.2.2.2.2.2.2.2.2.2.2.2.2.2.2.2.2.2.2.2.2.2.2.2.2.2.2.1)), ((((((((S7).other (Ne.symm HX.out.2.2.2.2.2.2.2.2.2.2.2.2.2.2.2.2.2.2.2.2.2.2.2.2.2.2.2.2.2.2.2.2.2.2.2.2.2.1))).other (Ne.symm HX.out.2.2.2.2.2.2.2.2.2.2.2.2.2.2.2.2.2.2.2.2.2.2.2.2.2.2.2.2.2.2.2.2.2.2.2.2.2.1))).other (Ne.symm HX.out.2.2.2.2.2.2.2.2.2.2.2.2.2.2.2.2.2.2.2.2.2.2.2.2.2.2.2.2.2.2.2.2.2.2.2.2.2.1))).other (Ne.symm HX.out.2.2.2.2.2.2.2.2.2.2.2.2.2.2.2.2.2.2.2.2.2.2.2.2.2.2.2.2.2.2.2.2.2.2.2.2.2.1)), ((((((((S8).other (Ne.symm HX.out.2.2.2.2.2.2.2.2.2.2.2.2.2.2.2.2.2.2.2.2.2.2.2.2.2.2.2.2.2.1))).other (Ne.symm HX.out.2.2.2.2.2.2.2.2.2.2.2.2.2.2.2.2.2.2.2.2.2.2.2.2.2.2.2.2.2.1))).other (Ne.symm HX.out.2.2.2.2.2.2.2.2.2.2.2.2.2.2.2.2.2.2.2.2.2.2.2.2.2.2.2.2.2.1))).other (Ne.symm HX.out.2.2.2.2.2.2.2.2.2.2.2.2.2.2.2.2.2.2.2.2.2.2.2.2.2.2.2.2.2.1)), ((((((((S9).other (Ne.symm HX.out.2.2.2.2.2.2.2.2.2.2.1))).other (Ne.symm HX.out.2.2.2.2.2.2.2.2.2.2.1))).other (Ne.symm HX.out.2.2.2.2.2.2.2.2.2.2.1))).other (Ne.symm HX.out.2.2.2.2.2.2.2.2.2.2.1)), ((((((((S10).other (Ne.symm HX.out.2.2.2.2.2.2.2.2.2.2.2.2.2.2.2.2.2.2.2.1))).other (Ne.symm HX.out.2.2.2.2.2.2.2.2.2.2.2.2.2.2.2.2.2.2.2.1))).other (Ne.symm HX.out.2.2.2.2.2.2.2.2.2.2.2.2.2.2.2.2.2.2.2.1))).other (Ne.symm HX.out.2.2.2.2.2.2.2.2.2.2.2.2.2.2.2.2.2.2.2.1))⟩
            exact InvSteps.nil
          · intro listed a w9 hl hI
            obtain ⟨t53, t54, t55, t56, t57, t58, ha, hb, h0, h1, h2, h3, h4, h5, M2, S0, S1, S3, S4, S5, S6, S7, S8, S9, S10⟩ := hI
            have H0 := hl 0 (by show 0 < 7; omega)
            have H1 := hl 1 (by show 1 < 7; omega)
            have H2 := hl 2 (by show 2 < 7; omega)
            have H3 := hl 3 (by show 3 < 7; omega)
            have H4 := hl 4 (by show 4 < 7; omega)
            have H5 := hl 5 (by show 5 < 7; omega)
            have H6 := hl 6 (by show 6 < 7; omega)
            have g0 := h0 H0
            subst g0
            have g1 := h1 H1
            subst g1
            have g2 := h2 H2
            subst g2
            have g3 := h3 H3
            subst g3
            have g4 := h4 H4
            subst g4
            have g5 := h5 H5
            subst g5
            rw [if_pos H6] at M2
            clear H0 H1 H2 H3 H4 H5 H6 hl h0 h1 h2 h3 h4 h5 listed
            rw [ha]
            clear ha a
            simp only [puts_cons, puts_nil, Act.put, List.setIfInBounds_toArray, List.set_cons_zero, List.set_cons_succ]
            clear hbase
            have f := HA4.out.1.trans (hb)
            have HA7 := Lib.hid (And.intro f (And.intro S0 (And.intro S1 (And.intro M2 (And.intro S3 (And.intro S4 (And.intro S5 (And.intro S6 (And.intro S7 (And.intro S8 (And.intro S9 S10)))))))))))
            clear f hb S0 S1 M2 S3 S4 S5 S6 S7 S8 S9 S10
            (try clear e1)
            (try clear e2)
            (try clear hr)
            (try clear hc)
            go_wp2_with fail
            have y0 := (HA7.out.2.2.2.1 0 _ rfl).1
            have y1 := (HA7.out.2.2.2.1 1 _ rfl).1
            have y2 := (HA7.out.2.2.2.1 2 _ rfl).1
            have y3 := (HA7.out.2.2.2.1 3 _ rfl).1
            refine bodyPost_ret (v := .agg #[.bool nP, .string sP, .bool nQ, .string sQ]) (by simp [results, Tryz.results86, go_sem, y0, y1, y2, y3]) rfl ⟨rfl, HA7.out.1⟩

end Go.Proofs.YtpdhffjdgnpikaaGreatDoor
