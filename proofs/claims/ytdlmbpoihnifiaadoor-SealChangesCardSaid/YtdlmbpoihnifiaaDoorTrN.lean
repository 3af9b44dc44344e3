/- Sizes of joined texts; Same of two known lists. -/
import Derived.Test.YtdlmbpoihnifiaaDoorTrQ
import Derived.Test.YtdlmbpoihnifiaaDoorTrMath
import Derived.Test.YtdlmbpoihnifiaaDoorDgT
import Derived.Below
namespace Go.Proofs.YtdlmbpoihnifiaaDoor
open Go.RowKit

theorem jn_le {ss : List ByteArray} (hz : ∀ s ∈ ss, s.size ≤ 1000000000) (hl : ss.length ≤ 3) : (Tr.jn ss).size ≤ 140737488355328 := by
  rw [Tr.jn, Tr.size_mk]
  exact joined_bound 1000000000 ss hz (Nat.le_refl _) hl

theorem root_le (l : List ByteArray) : (Tr.root l).size ≤ 1000000000 := by rw [Tr.root_size]; omega

theorem texts_le : ∀ (N : Nat) (l : List ByteArray), l.length ≤ N → (∀ s ∈ l, s.size ≤ 1000000000) → ∀ s ∈ Tr.texts l, s.size ≤ 140737488355328
  | 0, l, h, hz => by
    obtain rfl : l = [] := List.eq_nil_of_length_eq_zero (by omega)
    rw [Tr.texts_nil]
    intro s hs
    rw [List.mem_singleton.1 hs]
    exact jn_le (sz1 (szl [_, _, _, _, _] (by decide))) (by simp)
  | N + 1, l, h, hz => by
    by_cases h1 : l.length ≤ 1
    · match l, h1 with
      | [], _ => exact texts_le N [] (by simp) hz
      | [x], _ =>
        rw [Tr.texts_one]
        intro s hs
        rw [List.mem_singleton.1 hs]
        exact jn_le (sz2 (szl [_, _, _, _] (by decide)) (hz x (by simp))) (by simp)
    · have l1 := Tr.half_lt (n := l.length) (by omega)
      have l2 := Tr.half_pos l.length
      rw [Tr.texts_two (by omega)]
      intro s hs
      rw [List.mem_append, List.mem_append] at hs
      rcases hs with (hs | hs) | hs
      · exact texts_le N _ (by simp; omega) (fun s h => hz s (List.mem_of_mem_take h)) s hs
      · exact texts_le N _ (by simp; omega) (fun s h => hz s (List.mem_of_mem_drop h)) s hs
      · rw [List.mem_singleton.1 hs]
        exact jn_le (sz3 (szl [_, _, _, _] (by decide)) (root_le _) (root_le _)) (by simp)

theorem same_val (A A' : Option Addr) (c c' k k' : Nat) (ss tt : List ByteArray) (hk : ss.length = k) (hk' : tt.length = k') (b : Bool) (hb : decide (ss = tt) = b) (w : World) (hs : Strs w w.heap.size A ss) (ht : Strs w w.heap.size A' tt) (hn : ss.length ≤ maxLen) :
    Calls Tryd.prog 21 #[.slice A k c, .slice A' k' c'] w fun e w' => e = .returned (.bool b) ∧ Below w.heap.size w w' := by
  subst hk hk' hb
  refine (same_any A A' c c' ss tt w hs ht hn).mono ?_
  rintro e w1 ⟨rfl, q, rfl⟩
  exact ⟨rfl, ⟨rfl, rfl, rfl, Nat.le_refl _, fun _ _ => rfl⟩⟩
end Go.Proofs.YtdlmbpoihnifiaaDoor
