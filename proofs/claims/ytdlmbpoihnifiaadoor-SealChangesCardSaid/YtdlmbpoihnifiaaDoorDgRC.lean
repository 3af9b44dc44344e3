/- The reference's Chain returns Dg.chain. -/
import Derived.Test.YtdlmbpoihnifiaaDoorProg
import Derived.Test.YtdlmbpoihnifiaaDoorDgMath
import Derived.Test.YtdlmbpoihnifiaaDoorDgA
import Derived.Test.YtdlmbpoihnifiaaDoorDgR
import Derived.Test.YtdlmbpoihnifiaaDoorStrs
import Derived.WalkKit
import Derived.Below
import Derived.LoopTactic
import Derived.Outline
import Derived.Lib.Hide
import Derived.Laws.BitsAllLaws
namespace Go.Proofs.YtdlmbpoihnifiaaDoor
open Go.RowKit
set_option maxRecDepth 100000

set_option maxRecDepth 100000 in
theorem rchain_any (s : ByteArray) (n : Int) (w : World) (hs : s.size ≤ 140737488355328) :
    Calls Tryd.prog 35 #[.string s, .int .i64 n] w fun e w' => e = .returned (.string ⟨(Dg.chain s.data.toList (min n 1000).toNat).toArray⟩) ∧ w = w' := by
  have hsz : ∀ k, (⟨(Dg.chain s.data.toList k).toArray⟩ : ByteArray).size ≤ 140737488355328 := fun k => by
    rw [bsize]
    cases k with
    | zero => simpa [Dg.chain] using hs
    | succ k => rw [Dg.chain_length]; omega
  have HS := Lib.hid hsz
  clear hsz hs
  generalize hM : (min n 1000).toNat = M
  have h1 : n ≤ 1000 → (n : Int) ≤ M := by omega
  have h2 : n ≤ 1000 → 0 < M → (M : Int) ≤ n := by omega
  have h3 : ¬ n ≤ 1000 → M = 1000 := by omega
  clear hM
  by_cases h : n ≤ 1000
  case' pos =>
    have a1 := h1 h
    have a2 : M = 0 ∨ (M : Int) ≤ n := by have := h2 h; omega
    clear h1 h2 h3
  case' neg =>
    have a1 : 1000 ≤ M := by have := h3 h; omega
    have a2 : M ≤ 1000 := by have := h3 h; omega
    clear h1 h2 h3
  all_goals
    go_enter Tryd.func35, Tryd.ntmps35
    go_wp2
    go_loop [0, 5] (fun t i => ∃ k : Nat, k ≤ M ∧ i = .int .i64 k ∧ t = .string ⟨(Dg.chain s.data.toList k).toArray⟩) (fun _ i => M - (intOf i).toNat)
    case atStart => exact ⟨0, by omega, rfl, rfl⟩
    case round =>
      obtain ⟨k, hk, rfl, rfl⟩ := hrel
      by_cases hlt : k < M
      · go_wp2_with (first
          | (go_at_call 25; refine (rsum_any _ _ (HS.out k)).mono ?_; rintro e w1 ⟨rfl, rfl⟩)
          | fail)
        exact ⟨⟨k + 1, by omega, by go_num, rfl⟩, by simp [intOf]; omega⟩
      · obtain rfl : k = M := by omega
        go_wp2
        go_ret
        exact ⟨rfl, rfl⟩
end Go.Proofs.YtdlmbpoihnifiaaDoor
