/- The reference's Is. -/
import Derived.Test.YtdlmbpoihnifiaaDoorProg
import Derived.Test.YtdlmbpoihnifiaaDoorDgMath
import Derived.Test.YtdlmbpoihnifiaaDoorStrs
import Derived.Test.YtdlmbpoihnifiaaDoorDgF
import Derived.WalkKit
import Derived.Below
import Derived.LoopTactic
import Derived.Outline
import Derived.Lib.Hide
import Derived.BigQuiet
import Derived.Deep.QuietTactic
namespace Go.Proofs.YtdlmbpoihnifiaaDoor
open Go.RowKit
set_option maxRecDepth 100000

theorem take_snoc {α : Type} (ss : List α) (d : α) (k : Nat) (h : k < ss.length) : ss.take (k + 1) = ss.take k ++ [ss.getD k d] := by
  rw [List.take_add_one, List.getElem?_eq_getElem h, List.getD_eq_getElem?_getD, List.getElem?_eq_getElem h]
  rfl

theorem digit_any (c : UInt8) (w : World) :
    Calls Tryd.prog 66 #[.int .u8 (c.toNat : Int)] w fun e w' => ∃ r : Int, e = .returned (.int .i64 r) ∧ (r < 0 ↔ Dg.isDig c = false) ∧ w = w' := by
  have hdef : Dg.isDig c = decide ((48 ≤ c.toNat ∧ c.toNat ≤ 57) ∨ (97 ≤ c.toNat ∧ c.toNat ≤ 102)) := by
    unfold Dg.isDig
    simp [Bool.decide_or, Bool.decide_and, UInt8.le_iff_toNat_le]
  have HD := Lib.hid hdef
  clear hdef
  have hlt := c.toNat_lt
  generalize c.toNat = n at *
  have hfin : ∀ r : Int, (r < 0 ↔ ¬ ((48 ≤ n ∧ n ≤ 57) ∨ (97 ≤ n ∧ n ≤ 102))) → (r < 0 ↔ Dg.isDig c = false) := fun r h => by
    rw [HD.out, decide_eq_false_iff_not]
    exact h
  have HF := Lib.hid hfin
  clear hfin
  rcases (show (48 ≤ n ∧ n ≤ 57) ∨ (97 ≤ n ∧ n ≤ 102) ∨ n < 48 ∨ (57 < n ∧ n < 97) ∨ 102 < n by omega) with ⟨h1, h2⟩ | ⟨h1, h2⟩ | h1 | ⟨h1, h2⟩ | h1
  case' inr.inl =>
    have h3 : ¬ n ≤ 57 := by omega
    have h4 : 48 ≤ n := by omega
  case' inr.inr.inl =>
    have h3 : ¬ 48 ≤ n := by omega
    have h4 : ¬ 97 ≤ n := by omega
  case' inr.inr.inr.inl =>
    have h3 : 48 ≤ n := by omega
    have h4 : ¬ 97 ≤ n := by omega
  case' inr.inr.inr.inr =>
    have h3 : 97 ≤ n := by omega
    have h4 : ¬ n ≤ 57 := by omega
  all_goals
    go_enter Tryd.func66, Tryd.ntmps66
    go_wp2
    go_ret
    exact ⟨_, rfl, HF.out _ (by omega), rfl⟩

theorem ris_any (s : ByteArray) (w : World) (hs : s.size ≤ maxLen) :
    Calls Tryd.prog 42 #[.string s] w fun e w' => e = .returned (.bool (Dg.isDigest s.data.toList)) ∧ w = w' := by
  unfold maxLen at hs
  have hl : s.data.toList.length = s.size := by simp
  have HL := Lib.hid hl
  clear hl
  go_enter Tryd.func42, Tryd.ntmps42
  go_wp2
  go_loop [3] (fun i => ∃ k : Nat, k ≤ 16 ∧ k ≤ s.size ∧ i = .int .i64 k ∧ (s.data.toList.take k).all Dg.isDig = true) (fun i => 16 - (intOf i).toNat)
  case atStart => exact ⟨0, by omega, by omega, rfl, rfl⟩
  case round =>
    obtain ⟨k, hk, hks, rfl, hall⟩ := hrel
    have HA := Lib.hid hall
    clear hall
    by_cases hlt : k < 16 ∧ k < s.size
    · obtain ⟨h16, hsz⟩ := hlt
      have ht := Lib.hid (take_byte s k hsz)
      go_wp2_with fail
      refine (digit_any s[k] w).mono ?_
      rintro e w1 ⟨r, rfl, hr, rfl⟩
      by_cases hd : r < 0
      · have hbad := Lib.hid (hr.1 hd)
        clear hr
        go_wp2
        go_ret
        refine ⟨?_, rfl⟩
        have : Dg.isDigest s.data.toList = false := by
          have hm : s[k] ∈ s.data.toList := by
            have : s[k] = s.data.toList[k]'(by simpa using hsz) := rfl
            rw [this]
            exact List.getElem_mem _
          unfold Dg.isDigest
          have : s.data.toList.all Dg.isDig = false := List.all_eq_false.2 ⟨_, hm, by rw [hbad.out]; decide⟩
          rw [this, Bool.and_false]
        rw [this]
        rfl
      · have hgood : Dg.isDig s[k] = true := by
          cases h : Dg.isDig s[k] with
          | true => rfl
          | false => exact absurd (hr.2 h) hd
        have HG := Lib.hid hgood
        clear hr hgood
        go_wp2
        refine ⟨⟨k + 1, by omega, by omega, by go_num, ?_⟩, by simp [intOf]; omega⟩
        rw [ht.out, List.all_append, HA.out]
        simpa using HG.out
    · have hfin : Dg.isDigest s.data.toList = ((s.size : Int) == 16) := by
        unfold Dg.isDigest
        rw [HL.out]
        by_cases h16 : s.size = 16
        · have h := HA.out
          rw [List.take_of_length_le (by rw [HL.out]; omega)] at h
          rw [h, h16]
          rfl
        · have e : (s.size == 16) = false := by simpa using h16
          rw [e, Bool.false_and]
          symm
          rw [beq_eq_false_iff_ne]
          omega
      have HF := Lib.hid hfin
      clear hfin
      by_cases h1 : k < s.size
      · have h2 : ¬ k < 16 := by omega
        clear hlt
        go_wp2
        go_ret
        exact ⟨by rw [HF.out]; rfl, rfl⟩
      · clear hlt
        go_wp2
        go_ret
        exact ⟨by rw [HF.out]; rfl, rfl⟩
end Go.Proofs.YtdlmbpoihnifiaaDoor
