/- For any two numbers narrowslaw02.RationalSimple returns true, and its arguments read afterwards as before: the simplest number lies in the interval, and no number in it has a lesser denominator (numbers of up to 60 bytes; denominators up to 12 are tried). Conditions: those of the row itself; the library's tables are laid as its text lays them, which the card ties. -/
import Derived.Test.YtpdhffjdgnpikaaGreatDoorCards
import Derived.Test.YtpdhffjdgnpikaaGreatDoorTie
import Derived.Test.YtpdhffjdgnpikaaGreatDoorRatOpen
import Derived.Test.YtpdhffjdgnpikaaGreatDoorSimpleL
namespace Go.Proofs.YtpdhffjdgnpikaaGreatDoor.rationalSimple
open Go.ChangeShapes Go.WideShapes Go.ChangeAt Go.RowKit Go.Shelf Go.Lib
open Go.ChangeMaps (open_string shut_string)

set_option maxRecDepth 100000 in
theorem contract (H : Type) (enc : TypeId × Value → H) (W : World) (base : Nat) (args : Array Value) (ds gs : List (DataW H)) (before : List MemPlace)
    (hval : ∀ (j : Nat) t v, Tryz.f10.params[j]? = some t → args[j]? = some v → Value.okWide Tryz.prog W .any base t v)
    (hW : DataW.Whole enc Tryz.prog Tryz.f10.params.toList Rows.rationalSimpleSpec.vars false W args.toList ds gs before) (hL : laidMetH Tryz.prog Rows.rationalSimpleRow.laid W) :
    Calls Tryz.prog 10 args W fun e W' => ∃ v, e = .returned v ∧ Rows.rationalSimpleSpec.post enc Tryz.prog Tryz.f10 false true false false W args v W' := by
  have hW' := hW
  obtain ⟨p, q, hA0, hV, rfl, hfz, hnd⟩ := hW
  have hA : DataW.TrodAll enc Tryz.prog W 0 (fun _ => true) true Tryz.f10.params.toList args.toList ds p := hA0
  rw [Tryz.params10] at hA hval
  obtain ⟨v0, vs0, d0, ds0, p0, q0, hargs, rfl, rfl, h0, r0⟩ := trodAll_cons hA
  obtain ⟨v1, vs1, d1, ds1, p1, q1, rfl, rfl, rfl, h1, r1⟩ := trodAll_cons r0
  obtain ⟨rfl, rfl, rfl⟩ := trodAll_nil r1
  obtain rfl : args = #[v0, v1] := Array.toList_inj.1 hargs
  obtain ⟨rfl, rfl⟩ := trodVars_none hV
  obtain ⟨na, sa, ta, rfl, rfl, rfl, ha, ga⟩ := open_rat (hval 0 25 v0 rfl rfl) h0
  obtain ⟨nb, sb, tb, rfl, rfl, rfl, hb, gb⟩ := open_rat (hval 1 25 v1 rfl rfl) h1
  clear hA0
  simp only [List.append_nil] at hW'
  refine (simple_any na nb sa ta sb tb W (table hL) ha ga hb gb).mono fun e W' ⟨he, hg⟩ => ?_
  subst he
  exact ⟨_, rfl, post_of_plain hW' (fun _ _ _ => trodAll_cons_mk (shut_bool Tryz.underlying4 _) trodAll_mk0)
    (fun _ _ => trodAll_cons_mk (shut_rat na sa ta ha ga) (trodAll_cons_mk (shut_rat nb sb tb hb gb) trodAll_mk0)) (fun _ _ => rfl) rfl
    (hg.frame _) (ok_one (by kernel_rfl) rfl (okWide_bool_mk Tryz.underlying4 _))⟩

theorem reads (os : Os) {H : Type} (enc : TypeId × Value → H) : ∃ places, DataW.whole enc Tryz.prog ((laidWorld os).forCall (fun _ _ => 0) ⟨#[], #[.agg #[.bool false, .string .empty, .string .empty], .agg #[.bool false, .string .empty, .string .empty]], []⟩).memory Tryz.f10.params.toList Rows.rationalSimpleSpec.vars false #[Value.agg #[.bool false, .string .empty, .string .empty], Value.agg #[.bool false, .string .empty, .string .empty]].toList 8 = some ([dR false .empty .empty, dR false .empty .empty], [], places) :=
  ⟨[], by kernel_rfl⟩

set_option maxRecDepth 100000 in
theorem lifted (os : Os) (started : os.Started) (H : Type) (enc : TypeId × Value → H) (F : Stop.Interp) :
    ReturnsInHanded {} Tryz.checked os 10 .any ((OpenSpec.ofChange Rows.rationalSimpleSpec).preRow enc Tryz.prog Tryz.f10 Rows.rationalSimpleRow.domain false Rows.rationalSimpleRow.laid) (((OpenSpec.ofChange Rows.rationalSimpleSpec).at F).post enc Tryz.prog Tryz.f10 false true false false) := by
  obtain ⟨places, hx⟩ := reads os enc
  refine returnsInHanded_of_row (C := Tryz.checked) (s := OpenSpec.ofChange Rows.rationalSimpleSpec) own started (by kernel_rfl) Tryz.func10
    (witness_row_at (enc := enc) (C := Tryz.checked) false (laidWorld os) #[.agg #[.bool false, .string .empty, .string .empty], .agg #[.bool false, .string .empty, .string .empty]] rfl (by kernel_rfl) (by kernel_rfl) (by kernel_rfl)
      (OpenSpec.preRow_of_cond 8 hx (by kernel_rfl) (fun k hk => by cases hk) (by kernel_rfl) (laid_met os _))) ?_
  intro W base args ds gs before hval hW _ _ _ hL _ _
  exact contract H enc W base args ds gs before hval hW hL

theorem said : Rows.RationalSimpleSaid :=
  OpenClaim.holds_of_cond 10 Tryz.f10 rfl rfl rfl rfl rfl rfl rfl ⟨rfl, rfl, rfl, rfl, rfl⟩ rfl rfl rfl rfl rfl (by kernel_rfl) Tryz.func10 (by kernel_rfl)
    (of_decide_eq_true (by kernel_rfl)) (by unfold Func.isWrapper; first | (rw [if_pos (by decide +kernel)]; kernel_rfl) | (rw [if_neg (by decide +kernel)]; exact ⟨rfl, rfl⟩))
    (fun os started H enc _ F => by rw [OpenClaim.pre_eq_preRow]; exact lifted os started H enc F)

/-- No parameter wants a stand-in; the program's own looks are off: what the card asks. -/
theorem plain (f : FuncId) (fn : Func) (hf : Tryz.pinned.checked.prog.funcNamed "narrows/narrowslaw02.RationalSimple" = some f) (hfn : Tryz.pinned.checked.prog.funcs[f]? = some fn) :
    false = Tryz.pinned.checked.prog.looks [] ∧ ∀ (j : Nat) t, fn.params[j]? = some t → Tryz.pinned.checked.prog.wantsStandIn t = false := by
  obtain rfl : f = 10 := Option.some.inj ((show Tryz.prog.funcNamed "narrows/narrowslaw02.RationalSimple" = some 10 by kernel_rfl).symm.trans hf) |>.symm
  obtain rfl : fn = Tryz.f10 := (Option.some.inj (Tryz.func10.symm.trans hfn)).symm
  refine ⟨by kernel_rfl, fun j t ht => ?_⟩
  rw [Tryz.params10] at ht
  have hm : t ∈ [25, 25] := by simpa using Array.mem_of_getElem? ht
  have hall : ([25, 25].all fun u => !Tryz.prog.wantsStandIn u) = true := by kernel_rfl
  exact (show Tryz.prog.wantsStandIn t = false by simpa using List.all_eq_true.1 hall t hm)
end Go.Proofs.YtpdhffjdgnpikaaGreatDoor.rationalSimple

namespace Go.Proofs.YtpdhffjdgnpikaaGreatDoor
/-- The card. -/
theorem rationalSimple_card : Rows.RationalSimpleCardSaid :=
  Claim7.holds_tied_plain_at .later [] _ _ _ _ rationalSimple.said (fun _ h => by cases h) (by kernel_rfl) (fun _ h => by cases h) rationalSimple_row_tie rfl ⟨rfl, rfl⟩ (by kernel_rfl) rfl rationalSimple.plain (by kernel_rfl)
end Go.Proofs.YtpdhffjdgnpikaaGreatDoor
