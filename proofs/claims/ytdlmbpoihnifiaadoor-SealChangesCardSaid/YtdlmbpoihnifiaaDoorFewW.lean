/- What Few says of sizes. -/
import Derived.Test.YtdlmbpoihnifiaaDoorDgS
import Derived.Test.YtdlmbpoihnifiaaDoorDgU
import Derived.Test.YtdlmbpoihnifiaaDoorDgV
namespace Go.Proofs.YtdlmbpoihnifiaaDoor
open Go.RowKit

theorem joined_le_room : ∀ ss : List ByteArray, (∀ s ∈ ss, s.size < 18446744073709551616) → (joined ss).length ≤ room ss
  | [], _ => by simp [joined, room]
  | s :: ss, h => by
    have ih := joined_le_room ss fun x hx => h x (List.mem_cons_of_mem _ hx)
    have hd := dec_length s.size (h s (List.mem_cons_self ..))
    have hs : s.data.toList.length = s.size := by simp
    unfold joined room at ih ⊢
    rw [List.map_cons, List.flatten_cons, List.map_cons, List.sum_cons, List.length_append]
    unfold part
    rw [List.length_append, List.length_cons, hs]
    unfold part at ih
    omega

theorem room_le (c : Nat) : ∀ ss : List ByteArray, (∀ s ∈ ss, s.size ≤ c) → room ss ≤ ss.length * (c + 21)
  | [], _ => by simp [room]
  | s :: ss, h => by
    have ih := room_le c ss fun x hx => h x (List.mem_cons_of_mem _ hx)
    have h1 := h s (List.mem_cons_self ..)
    unfold room at ih ⊢
    rw [List.map_cons, List.sum_cons, List.length_cons, Nat.add_mul]
    omega
end Go.Proofs.YtdlmbpoihnifiaaDoor
