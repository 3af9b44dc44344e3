/- short of the laws of layer 3. -/
import Derived.Test.YtokhdloebcadnaaDoorTrA
import Derived.Test.YtokhdloebcadnaaDoorFewW
import Derived.WalkKit
import Derived.Below
import Derived.LoopTactic
import Derived.Outline
import Derived.Lib.Hide
namespace Go.Proofs.YtokhdloebcadnaaDoor
open Go.RowKit
set_option maxRecDepth 100000
set_option linter.unusedSimpArgs false
set_option linter.unusedVariables false

def shortL (ss : List ByteArray) : Bool := ss.all fun s => decide (s.size ≤ 300)

theorem short_any (A : Option Addr) (c : Nat) (ss : List ByteArray) (w : World) (hs : Strs w w.heap.size A ss) (hn : ss.length ≤ maxLen) :
    Calls Tryd.prog 11 #[.slice A ss.length c] w fun e w' => e = .returned (.bool (shortL ss)) ∧ w = w' := by
  unfold maxLen at hn
  go_enter Tryd.func11, Tryd.ntmps11
  go_wp2
  go_loop [3] (fun i => ∃ k : Nat, k ≤ ss.length ∧ i = .int .i64 k ∧ Hid ((ss.take k).all (fun s => decide (s.size ≤ 300)) = true)) (fun i => ss.length - (intOf i).toNat)
  case atStart => exact ⟨0, by omega, rfl, Lib.hid rfl⟩
  case round =>
    obtain ⟨k, hk, rfl, HA⟩ := hrel
    by_cases hlt : k < ss.length
    · obtain ⟨ad, rfl, _, hc⟩ := hs k hlt
      have ht := Lib.hid (take_snoc ss ByteArray.empty k hlt)
      have hm : ss.getD k ByteArray.empty ∈ ss := by
        rw [List.getD_eq_getElem?_getD, List.getElem?_eq_getElem hlt]
        exact List.getElem_mem _
      have HM := Lib.hid hm
      clear hm
      generalize ss.getD k ByteArray.empty = x at *
      by_cases hx : x.size ≤ 300
      · have hxi : ¬ (300 : Int) < (x.size : Int) := by omega
        go_wp2_with fail
        exact ⟨⟨k + 1, by omega, by go_num, Lib.hid (by rw [ht.out, List.all_append, HA.out]; simpa using hx)⟩, by simp [intOf]; omega⟩
      · have hxi : (300 : Int) < (x.size : Int) := by omega
        have HF : Hid (shortL ss = false) := Lib.hid (List.all_eq_false.2 ⟨x, HM.out, by simpa using hx⟩)
        go_wp2_with fail
        go_ret
        exact ⟨by rw [HF.out]; rfl, rfl⟩
    · obtain rfl : k = ss.length := by omega
      have HF : Hid (shortL ss = true) := Lib.hid (by
        have h := HA.out
        rwa [List.take_length] at h)
      clear HA hs
      go_wp2_with fail
      go_ret
      exact ⟨by rw [HF.out]; rfl, rfl⟩

/-- short at a literal list. -/
theorem short_lit (w : World) (ss : List ByteArray) (b : Bool) (hb : shortL ss = b) (hn : ss.length ≤ 100) :
    Calls Tryd.prog 11 #[.slice (some ⟨w.heap.size, 0, none⟩) ss.length ss.length] (w.alloc (.cells (ss.map Value.string).toArray 9)) fun e w' => e = .returned (.bool b) ∧ Below w.heap.size w w' := by
  subst hb
  refine (short_any _ ss.length ss _ (strs_new w ss _) (by unfold maxLen; omega)).mono ?_
  rintro e w1 ⟨rfl, rfl⟩
  exact ⟨rfl, (Below.refl _ _).alloc (Nat.le_refl _) _⟩
end Go.Proofs.YtokhdloebcadnaaDoor
