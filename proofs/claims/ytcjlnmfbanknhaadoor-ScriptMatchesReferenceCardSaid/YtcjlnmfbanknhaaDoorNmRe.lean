/- Layer 9, the reference: Word, Title. -/
import Derived.Test.YtcjlnmfbanknhaaDoorNmRd
set_option linter.unusedSimpArgs false
set_option linter.unusedVariables false
namespace Go.Proofs.YtcjlnmfbanknhaaDoor
open Go.RowKit Go.Shelf
set_option maxRecDepth 100000
set_option maxHeartbeats 1000000
theorem Nm.word_any (k : Int) (t : ByteArray) (w : World) (hm : t.size ≤ 1000) :
    Calls Tryd.prog 23 #[.int .i64 k, .string t] w fun e w' => e = .returned (.bool (Nm.isW (Nm.sc k) t.data.toList)) ∧ Below w.heap.size w w' := by
  have L1 := Lib.hid (Nm.rletters_any k t w hm)
  unfold Nm.LPost at L1
  obtain ⟨r, hr⟩ : ∃ r, Nm.isW (Nm.sc k) t.data.toList = r := ⟨_, rfl⟩
  rw [hr] at L1 ⊢
  clear hr
  cases r with
  | true =>
    go_enter Tryd.func23, Tryd.ntmps23
    go_wp2_with fail
    refine L1.out.mono ?_
    rintro e w1 ⟨g1, ⟨_, v, rfl, _⟩ | ⟨h, _⟩⟩
    · go_wp2
      go_ret
      exact ⟨rfl, g1⟩
    · cases h
  | false =>
    go_enter Tryd.func23, Tryd.ntmps23
    go_wp2_with fail
    refine L1.out.mono ?_
    rintro e w1 ⟨g1, ⟨h, _⟩ | ⟨_, rfl⟩⟩
    · cases h
    · go_wp2
      go_ret
      exact ⟨rfl, g1⟩
theorem Nm.title_any (s : Nat) (h1 : 1 ≤ s) (h4 : s ≤ 4) (w : World) :
    Calls Tryd.prog 25 #[.int .i64 (s : Int)] w fun e w' => e = .returned (.string (Nm.bt (Nm.title s))) ∧ Below w.heap.size w w' := by
  have hs : s = 1 ∨ s = 2 ∨ s = 3 ∨ s = 4 := by omega
  rcases hs with rfl | rfl | rfl | rfl
  all_goals
    go_enter Tryd.func25, Tryd.ntmps25
    go_wp2
    go_ret
    exact ⟨rfl, Below.refl _ _⟩
end Go.Proofs.YtcjlnmfbanknhaaDoor
