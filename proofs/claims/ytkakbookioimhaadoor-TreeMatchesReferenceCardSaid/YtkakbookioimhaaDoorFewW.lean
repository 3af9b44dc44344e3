/- What Few says of sizes. -/
import Derived.Test.YtkakbookioimhaaDoorDgS
import Derived.Test.YtkakbookioimhaaDoorDgU
import Derived.Test.YtkakbookioimhaaDoorDgV
namespace Go.Proofs.YtkakbookioimhaaDoor
open Go.RowKit

theorem joined_le_room : ∀ ss : List ByteArray, (∀ s ∈ ss, s.size < 18446744073709551616) → (joined ss).length ≤ room ss
  | [], _ => by simp [joined, room]
  | s :: ss, h => by
    have ih := joined_le_room ss fun x hx => h x (List.mem_cons_of_mem _ hx)
    have hd := dec_length s.size (h s (List.mem_cons_self ..))
    have hs : s.data.toList.length = s.size := by simp
    unfold joined room at ih ⊢
    rw [List.map_cons, List.flatten_cons, List.map_cons, List.sum_cons, List.length_append]
    unfold part
    rw [List.length_append, List.length_cons, hs]
    unfold part at ih
    omega

theorem room_le (c : Nat) : ∀ ss : List ByteArray, (∀ s ∈ ss, s.size ≤ c) → room ss ≤ ss.length * (c + 21)
  | [], _ => by simp [room]
  | s :: ss, h => by
    have ih := room_le c ss fun x hx => h x (List.mem_cons_of_mem _ hx)
    have h1 := h s (List.mem_cons_self ..)
    unfold room at ih ⊢
    rw [List.map_cons, List.sum_cons, List.length_cons, Nat.add_mul]
    omega

theorem few_bounds (ss : List ByteArray) (h : few ss 200 = true) : (joined ss).length ≤ 6630 ∧ room ss ≤ 6630 ∧ ss.length ≤ 30 := by
  unfold few at h
  rw [Bool.and_eq_true, List.all_eq_true, decide_eq_true_eq] at h
  have h1 : ∀ s ∈ ss, s.size ≤ 200 := fun s hs => by
    have := of_decide_eq_true (h.1 s hs)
    omega
  have h2 := room_le 200 ss h1
  have h3 : ss.length * (200 + 21) ≤ 30 * (200 + 21) := Nat.mul_le_mul_right _ (by omega)
  have h4 := joined_le_room ss fun s hs => by have := h1 s hs; omega
  omega
end Go.Proofs.YtkakbookioimhaaDoor
