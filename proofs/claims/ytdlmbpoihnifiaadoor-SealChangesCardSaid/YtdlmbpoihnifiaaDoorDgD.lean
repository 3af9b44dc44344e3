/- Chain and Is of the program. -/
import Derived.Test.YtdlmbpoihnifiaaDoorProg
import Derived.Test.YtdlmbpoihnifiaaDoorDgMath
import Derived.Test.YtdlmbpoihnifiaaDoorDgC
import Derived.WalkKit
import Derived.Below
import Derived.LoopTactic
import Derived.Outline
import Derived.Lib.Hide
namespace Go.Proofs.YtdlmbpoihnifiaaDoor
open Go.RowKit
set_option maxRecDepth 100000

theorem size_chain (l : List UInt8) (k : Nat) (hl : l.length ≤ maxLen) : (⟨(Dg.chain l k).toArray⟩ : ByteArray).size ≤ maxLen := by
  cases k with
  | zero => exact hl
  | succ k =>
    have h := Dg.chain_length l k
    show (Dg.chain l (k + 1)).length ≤ maxLen
    rw [h]
    unfold maxLen
    omega

set_option maxRecDepth 100000 in
theorem chain_any (s : ByteArray) (n : Int) (w : World) (hs : s.size ≤ maxLen) :
    Calls Tryd.prog 64 #[.string s, .int .i64 n] w fun e w' => e = .returned (.string ⟨(Dg.chain s.data.toList (min n 1000).toNat).toArray⟩) ∧ Below w.heap.size w w' := by
  have hsz := fun k => size_chain s.data.toList k (by simpa using hs)
  have HS := Lib.hid hsz
  have e0 : s = ⟨(Dg.chain s.data.toList 0).toArray⟩ := rfl
  have E0 := Lib.hid e0
  clear hsz hs e0
  generalize hM : (min n 1000).toNat = M
  have h1 : n ≤ 1000 → (n : Int) ≤ M := by omega
  have h2 : n ≤ 1000 → 0 < M → (M : Int) ≤ n := by omega
  have h3 : ¬ n ≤ 1000 → M = 1000 := by omega
  clear hM
  by_cases h : n ≤ 1000
  case' pos =>
    have a1 := h1 h
    have a2 : M = 0 ∨ (M : Int) ≤ n := by have := h2 h; omega
    clear h1 h2 h3
  case' neg =>
    have a1 : 1000 ≤ M := by have := h3 h; omega
    have a2 : M ≤ 1000 := by have := h3 h; omega
    clear h1 h2 h3
  all_goals
    go_enter Tryd.func64, Tryd.ntmps64
    go_wp2
    go_loopw [0, 7] (fun t i wr => ∃ k : Nat, k ≤ M ∧ i = .int .i64 k ∧ t = .string ⟨(Dg.chain s.data.toList k).toArray⟩ ∧ Below w.heap.size w wr) (fun _ i _ => M - (intOf i).toNat)
    case atStart => exact ⟨0, by omega, rfl, rfl, Below.refl _ _⟩
    case round =>
      obtain ⟨k, hk, rfl, rfl, hb⟩ := hrel
      by_cases hlt : k < M
      · go_wp2_with (first
          | (go_at_call 78; refine (sum_any _ _ (HS.out k)).mono ?_; rintro e w1 ⟨rfl, hb1⟩)
          | fail)
        exact ⟨⟨k + 1, by omega, by go_num, rfl, hb.trans (hb1.mono hb.size)⟩, by simp [intOf]; omega⟩
      · obtain rfl : k = M := by omega
        go_wp2
        go_ret
        exact ⟨rfl, hb⟩

end Go.Proofs.YtdlmbpoihnifiaaDoor
