/- narrowslaw02.RationalFloors returns true. -/
import Derived.Test.YtpdhffjdgnpikaaGreatDoorRatSv
import Derived.Test.YtpdhffjdgnpikaaGreatDoorFloors
namespace Go.Proofs.YtpdhffjdgnpikaaGreatDoor
open Go.RowKit Go.Shelf

theorem floor_int (p : Rat) : p.floor = -(-p).floor ↔ p.den = 1 := by
  constructor
  · intro h
    have h1 := Rat.floor_le p
    have h2 := Rat.floor_le (-p)
    have h3 : ((p.floor : Int) : Rat) = p := by
      refine Rat.le_antisymm h1 ?_
      rw [h, Rat.intCast_neg]
      grind
    rw [← h3, Rat.den_intCast]
  · intro h
    have h1 : ((p.num : Int) : Rat) = p := by
      rw [← Rat.mkRat_one p.num, ← h, Rat.mkRat_self]
    rw [← h1, ← Rat.intCast_neg, Rat.floor_intCast, Rat.floor_intCast]
    omega
theorem floors_any (b : Bool) (s t : ByteArray) (w : World) (htab : Tab w) (hs : s.size ≤ maxLen) (ht : t.size ≤ maxLen) :
    Calls Tryz.prog 9 #[.agg #[.bool b, .string s, .string t]] w fun e w' => e = .returned (.bool true) ∧ Below w.heap.size w w' := by
  unfold maxLen at hs ht
  cases hg : ([(b, s, t)] : List (Bool × ByteArray × ByteArray)).any grt
  · have hsm := grt_false hg (b, s, t) (by simp)
    have hsm1 : s.size ≤ 60 := hsm.1
    have hsm2 : t.size ≤ 60 := hsm.2
    obtain ⟨p, hp⟩ : ∃ p, rval b s t = p := ⟨_, rfl⟩
    have v : RVal b s t p := ⟨hp, by omega, by omega⟩
    obtain ⟨k, hk0, hkb, zp⟩ : ∃ k, 1 ≤ k ∧ k ≤ 1000 ∧ RSz k p := ⟨61, by omega, by omega, by rw [← hp]; exact rsz_rval b s t 61 (by omega) (by omega) (by omega)⟩
    obtain ⟨nf, sf, mf⟩ := nam_ex p.floor
    obtain ⟨nc, sc, mc⟩ := nam_ex (-(-p).floor)
    obtain ⟨nz, sz, mz⟩ := nam_ex (-p).floor
    have zfl : ∀ q : Rat, RSz k q → Sz k q.floor := fun q hq => by
      rw [Rat.floor_def]
      have h1 : (q.num / (q.den : Int)).natAbs ≤ q.num.natAbs := Int.natAbs_ediv_le_natAbs _ _
      exact Nat.lt_of_le_of_lt h1 hq.1
    have vf := mf.val (zfl p zp) (by omega)
    have vz := mz.val (zfl (-p) (rsz_neg zp)) (by omega)
    obtain ⟨bl, sl, tl, ml⟩ := rnam_ex ((p.floor : Int) : Rat)
    have zl : RSz k ((p.floor : Int) : Rat) := ⟨by rw [Rat.num_intCast]; exact zfl p zp, by rw [Rat.den_intCast]; exact Nat.one_lt_pow (by omega) (by omega)⟩
    have vl := ml.toVal zl (by omega)
    obtain ⟨b1, s1, t1, m1⟩ := rnam_ex p
    have sz1 := m1.sizes zp
    have mo : RNam false ⟨#[1]⟩ ⟨#[]⟩ 1 := ⟨by decide +kernel, by decide +kernel, by decide +kernel⟩
    have vo : RVal false ⟨#[1]⟩ ⟨#[]⟩ 1 := ⟨mo.value, by show 1 ≤ 4000; omega, by show 0 ≤ 4000; omega⟩
    obtain ⟨ba, sa, ta, ma⟩ := rnam_ex (((p.floor : Int) : Rat) + 1)
    have za : RSz (k + 1 + 1) (((p.floor : Int) : Rat) + 1) := rsz_add zl (show RSz 1 (1 : Rat) from ⟨by decide +kernel, by decide +kernel⟩)
    have va := ma.toVal za (by omega)
    obtain ⟨bn, sn, tn, mn⟩ := rnam_ex (-p)
    have vn := mn.toVal (rsz_neg zp) (by omega)
    have vD : Val false (dvs t1) (p.den : Int) := ⟨by obtain ⟨h3, h4⟩ := m1.namD; rw [← h3, ← h4]; exact ival_mg _, dvs_size t1 262144 (by omega) (by omega)⟩
    obtain ⟨kk, oo, hk, c5⟩ := small_q vD
    have hk1 : kk = 1 ↔ p.den = 1 := by
      have := p.den_pos
      rcases hk with ⟨_, h, _⟩ | ⟨_, h, h2⟩ <;> omega
    have hle : cmpQ ((p.floor : Int) : Rat) p ≤ 0 := by
      unfold cmpQ
      split
      · omega
      · rw [if_neg (Rat.not_lt.2 (Rat.floor_le p))]; omega
    have hlt : cmpQ p (((p.floor : Int) : Rat) + 1) < 0 := by
      unfold cmpQ
      rw [if_pos]
      · omega
      · have h := (Rat.floor_lt_iff (a := p) (x := p.floor + 1)).1 (by omega)
        rw [Rat.intCast_add] at h
        exact h
    exact floors_small b s t nf nc bl ba bn nz b1 oo (decide (p.den = 1)) sf sc sl tl sa ta sn tn sz s1 (dvs t1) kk _ _ w htab (by omega) (by omega) hg hle hlt mc.eq
      (by rw [eqI_nam mf mc]; exact decide_eq_decide.2 (floor_int p)) (decide_eq_decide.2 hk1)
      (fun W => floor_q v rfl mf W) (fun W => ceil_q v rfl mc W) (fun W => whole_q vf ml W) (fun W => parts_q v m1 (by omega) W) c5
      (fun W => cmp_q vl v _ rfl W) (fun W => of_q (n := 1) (by omega) (by omega) rfl mo W) (fun W => add_q vl vo rfl ma W) (fun W => cmp_q v va _ rfl W)
      (fun W => neg_q v rfl mn W) (fun W => floor_q vn rfl mz W) (fun W => neg_val vz rfl mc W) (fun W hW => awake_any W hW)
  · exact floors_great b s t w htab (by omega) (by omega) hg (fun W hW => awake_any W hW)
end Go.Proofs.YtpdhffjdgnpikaaGreatDoor
