/- The contract of bytes.TrimLeft at the zero byte, over a row of bytes. -/
import Derived.Test.YtmbnkokcpmkpgaaGreatDoorBytes
namespace Go.Proofs.YtmbnkokcpmkpgaaGreatDoor
open Go.RowKit

/-- What is left of a row of bytes without its leading zeros: nil, or the slice from the first other byte on. -/
def TrimRes (b off n cap : Nat) (l : List UInt8) (w : World) (e : Ending) (w' : World) : Prop :=
  w = w' ∧ ((strip l = [] ∧ e = .returned (.slice none 0 0)) ∨ ∃ k c, k < n ∧ l.drop k = strip l ∧ n - k ≤ c ∧ c ≤ cap ∧ e = .returned (.slice (some ⟨b, off + k, none⟩) (n - k) c))

theorem drop_zero_step (l : List UInt8) (k : Nat) (h : k < l.length) (h0 : ((l[k].toNat : Int) == 0) = true) (hs : strip (l.drop k) = strip l) : strip (l.drop (k + 1)) = strip l := by
  rw [← hs, List.drop_eq_getElem_cons h]
  have : l[k] = 0 := u8_zero _ h0
  rw [this, strip_zero]
theorem drop_other (l : List UInt8) (k : Nat) (h : k < l.length) (h0 : ((l[k].toNat : Int) == 0) = false) (hs : strip (l.drop k) = strip l) : l.drop k = strip l := by
  rw [← hs, List.drop_eq_getElem_cons h]
  rw [strip_other]
  exact u8_nonzero _ h0

set_option maxHeartbeats 1000000 in
set_option maxRecDepth 100000 in
theorem trimByteB_any (b off cap : Nat) (l : List UInt8) (w : World) (hr : RowB w b off l) (hc : l.length ≤ cap) (hcap : cap ≤ maxLen) :
    Calls Tryz.prog 132 #[.slice (some ⟨b, off, none⟩) l.length cap, .int .u8 0] w (TrimRes b off l.length cap l w) := by
  unfold maxLen at hcap
  have HRW := Lib.hid hr
  clear hr
  go_enter Tryz.func132, Tryz.ntmps132
  go_wp2
  go_loop [0] (fun v => ∃ (k c : Nat) (q : Option Addr), k ≤ l.length ∧ v = .slice q (l.length - k) c ∧ l.length - k ≤ c ∧ c ≤ cap ∧ (k < l.length → q = some ⟨b, off + k, none⟩) ∧ strip (l.drop k) = strip l) (fun v => sliceLen v)
  case atStart => exact ⟨0, cap, some ⟨b, off, none⟩, Nat.zero_le _, rfl, hc, Nat.le_refl _, fun _ => rfl, rfl⟩
  case round =>
    obtain ⟨k, c, q, hk, rfl, hcl, hcc, hq, hst⟩ := hrel
    have HS := Lib.hid hst
    clear hst
    by_cases hlt : k < l.length
    · obtain rfl := hq hlt
      have hcell := (HRW.out k hlt).1
      obtain ⟨m, hm⟩ : ∃ m, l.length - k = m + 1 := ⟨l.length - k - 1, by omega⟩
      have HM := Lib.hid hm
      have hm2 : k + m + 1 ≤ l.length := by omega
      have hm3 : m + 1 ≤ c := by omega
      rw [hm]
      clear hm hcl hq
      by_cases hc1 : c = 1
      · subst hc1
        go_wp2
        · have h0 : ((l[k].toNat : Int) == 0) = true := by assumption
          have hm := HM.out
          go_round
          case rel => exact ⟨k + 1, 0, some ⟨b, off + k, none⟩, by omega, by rw [show l.length - (k + 1) = 0 by omega], by omega, by omega, fun h => by omega, drop_zero_step l k hlt h0 HS.out⟩
          case measure => simp [sliceLen]
        · have h0 : ((l[k].toNat : Int) == 0) = false := by assumption
          have hm := HM.out
          go_ret
          exact ⟨rfl, .inr ⟨k, 1, hlt, drop_other l k hlt h0 HS.out, by omega, hcc, slice_eq hm.symm⟩⟩
      · have hc2 : 2 ≤ c := by omega
        go_wp2
        · have h0 : ((l[k].toNat : Int) == 0) = true := by assumption
          have hm := HM.out
          go_round
          case rel => exact ⟨k + 1, c - 1, some ⟨b, off + (k + 1), none⟩, by omega, by rw [show l.length - (k + 1) = m by omega]; rfl, by omega, by omega, fun _ => rfl, drop_zero_step l k hlt h0 HS.out⟩
          case measure => simp [sliceLen]
        · have h0 : ((l[k].toNat : Int) == 0) = false := by assumption
          have hm := HM.out
          go_ret
          exact ⟨rfl, .inr ⟨k, c, hlt, drop_other l k hlt h0 HS.out, by omega, hcc, slice_eq hm.symm⟩⟩
    · have e0 : l.length - k = 0 := by omega
      rw [e0]
      have hnil : strip l = [] := by rw [← HS.out, List.drop_eq_nil_of_le (by omega)]; rfl
      have HN := Lib.hid hnil
      clear hnil e0
      go_wp2
      go_ret
      exact ⟨rfl, .inl ⟨HN.out, rfl⟩⟩

set_option maxHeartbeats 1000000 in
set_option maxRecDepth 100000 in
theorem trimB_any (b off cap : Nat) (l : List UInt8) (w : World) (hr : RowB w b off l) (hc : l.length ≤ cap) (hcap : cap ≤ maxLen) :
    Calls Tryz.prog 108 #[.slice (some ⟨b, off, none⟩) l.length cap, .string ⟨#[0]⟩] w (TrimRes b off l.length cap l w) := by
  have hc1 := trimByteB_any b off cap l w hr hc hcap
  have HC := Lib.hid hc1
  clear hc1 hr
  by_cases h0 : l = []
  · subst h0
    go_enter Tryz.func108, Tryz.ntmps108
    go_wp2_with fail
    go_ret
    exact ⟨rfl, .inl ⟨rfl, rfl⟩⟩
  · have hpos : 0 < l.length := List.length_pos_iff.2 h0
    have t0 : ((l.length : Int) == 0) = false := by rw [beq_eq_false_iff_ne]; omega
    clear h0
    go_enter Tryz.func108, Tryz.ntmps108
    go_wp2_with fail
    refine HC.out.mono ?_
    rintro e w' ⟨rfl, (⟨hs, rfl⟩ | ⟨k, c, h1, h2, h3, h4, rfl⟩)⟩
    · have HH := Lib.hid hs
      clear hs
      go_wp2_with fail
      go_ret
      exact ⟨rfl, .inl ⟨HH.out, rfl⟩⟩
    · have HH := Lib.hid h2
      clear h2
      go_wp2_with fail
      go_ret
      exact ⟨rfl, .inr ⟨k, c, h1, HH.out, h3, h4, rfl⟩⟩
end Go.Proofs.YtmbnkokcpmkpgaaGreatDoor
