/- few of the laws of layer 2. -/
import Derived.Test.YtkakbookioimhaaDoorTrL
import Derived.Test.YtkakbookioimhaaDoorDgS
import Derived.WalkKit
import Derived.Below
import Derived.Outline
import Derived.Lib.Hide
namespace Go.Proofs.YtkakbookioimhaaDoor
open Go.RowKit

def few20 (ss : List ByteArray) : Bool := decide (ss.length ≤ 20) && few ss 100

theorem few20_bounds {ss : List ByteArray} (h : few20 ss = true) : ss.length ≤ 20 ∧ ∀ s ∈ ss, s.size ≤ 1000000000 := by
  unfold few20 few at h
  rw [Bool.and_eq_true, Bool.and_eq_true, List.all_eq_true] at h
  refine ⟨of_decide_eq_true h.1, fun s hs => ?_⟩
  have := of_decide_eq_true (h.2.1 s hs)
  omega

theorem few20_any (A : Option Addr) (c : Nat) (ss : List ByteArray) (w : World) (hs : Strs w w.heap.size A ss) (hn : ss.length ≤ maxLen) :
    Calls Tryd.prog 10 #[.slice A ss.length c] w fun e w' => e = .returned (.bool (few20 ss)) ∧ w = w' := by
  have hf := few_any A c ss 100 w hs hn
  by_cases h : ss.length ≤ 20
  · have e : few20 ss = few ss 100 := by unfold few20; rw [decide_eq_true h, Bool.true_and]
    rw [e]
    have HF := Lib.hid hf
    clear hf hs e
    generalize ss.length = n at *
    generalize few ss 100 = b at *
    unfold maxLen at hn
    go_enter Tryd.func10, Tryd.ntmps10
    go_wp2_with fail
    refine HF.out.mono ?_
    rintro e w1 ⟨rfl, rfl⟩
    go_wp2
    go_ret
    exact ⟨rfl, rfl⟩
  · have e : few20 ss = false := by unfold few20; rw [decide_eq_false h, Bool.false_and]
    rw [e]
    clear hf hs e
    generalize ss.length = n at *
    unfold maxLen at hn
    go_enter Tryd.func10, Tryd.ntmps10
    go_wp2_with fail
    go_ret
    exact ⟨rfl, rfl⟩

theorem few20_yes (A : Option Addr) (c : Nat) (ss : List ByteArray) (w : World) (hs : Strs w w.heap.size A ss) (hn : ss.length ≤ maxLen) (h : few20 ss = true) :
    Calls Tryd.prog 10 #[.slice A ss.length c] w fun e w' => e = .returned (.bool true) ∧ w = w' := by
  have := few20_any A c ss w hs hn
  rwa [h] at this
theorem few20_no (A : Option Addr) (c : Nat) (ss : List ByteArray) (w : World) (hs : Strs w w.heap.size A ss) (hn : ss.length ≤ maxLen) (h : few20 ss = false) :
    Calls Tryd.prog 10 #[.slice A ss.length c] w fun e w' => e = .returned (.bool false) ∧ w = w' := by
  have := few20_any A c ss w hs hn
  rwa [h] at this

theorem bin_le_self : ∀ (N n : Nat), n ≤ N → Tr.bin n ≤ n
  | 0, n, h => by obtain rfl : n = 0 := by omega
                  rw [Tr.bin_zero]
                  exact Nat.le_refl _
  | N + 1, n, h => by
    by_cases h0 : n = 0
    · rw [h0, Tr.bin_zero]; exact Nat.le_refl _
    · rw [Tr.bin_pos (by omega)]
      have := bin_le_self N (n / 2) (by omega)
      omega
end Go.Proofs.YtkakbookioimhaaDoor
