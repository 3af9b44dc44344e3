/- Layer 9: the library's Builder, Grow on a fresh one; strings.Join and strings.ToLower at short texts. -/
import Derived.Test.YtkddpealobeleaaGreatDoorNmA
import Derived.Test.YtkddpealobeleaaGreatDoorNmC
import Derived.Test.YtkddpealobeleaaGreatDoorBuild
import Derived.Test.YtkddpealobeleaaGreatDoorStrs
import Derived.Shelf.Strings.Builder2
set_option linter.unusedSimpArgs false
set_option linter.unusedVariables false
namespace Go.Proofs.YtkddpealobeleaaGreatDoor
open Go.RowKit Go.Shelf
set_option maxRecDepth 100000
set_option maxHeartbeats 1000000

theorem Nm.grow_fresh (B b n : Nat) (w : World) (hB : B ≤ b) (hbk : w.heap[b]? = some (.cells #[.pointer none, .slice none 0 0] 91 (0, 0))) (hBw : B ≤ w.heap.size) (hn : n ≤ 1000000) :
    Calls Tryz.prog 80 #[.pointer (some ⟨b, 0, none⟩), .int .i64 n] w fun e w' => e = .returned (.tuple #[]) ∧ Lib.IsBuilder 91 5 B b [] w' ∧ Below B w w' := by
  have hbk1 : (w.setCell ⟨b, 0, none⟩ (.pointer (some ⟨b, 0, none⟩))).heap[b]? = some (.cells #[.pointer (some ⟨b, 0, none⟩), .slice none 0 0] 91 (0, 0)) := by
    simp [World.setCell, Array.getElem?_modify, hbk]
  have hb1 : Below B w (w.setCell ⟨b, 0, none⟩ (.pointer (some ⟨b, 0, none⟩))) := (Below.refl B w).setCell (p := ⟨b, 0, none⟩) hB _
  have hU : Lib.BuilderAt 91 5 B b (.pointer (some ⟨b, 0, none⟩)) [] (w.setCell ⟨b, 0, none⟩ (.pointer (some ⟨b, 0, none⟩))) := ⟨hB, .slice none 0 0, hbk1, World.ownsRow_nil _ _ _ _, by simp [Value.ownBlock]⟩
  have c1 : (w.setCell ⟨b, 0, none⟩ (.pointer (some ⟨b, 0, none⟩))).cell? ⟨b, 1, none⟩ = some (.slice none 0 0) := by rw [Lib.cell_of_heap hbk1]; rfl
  have CC := Lib.hid (copyCheck_fresh b w (by rw [Lib.cell_of_heap hbk]; rfl) (by simp [World.shape?, hbk]) (Lib.frozen_of_heap hbk 0))
  have hBw1 : B ≤ (w.setCell ⟨b, 0, none⟩ (.pointer (some ⟨b, 0, none⟩))).heap.size := by simpa [World.setCell] using hBw
  obtain ⟨w1, hw1⟩ : ∃ w1, w.setCell ⟨b, 0, none⟩ (.pointer (some ⟨b, 0, none⟩)) = w1 := ⟨_, rfl⟩
  rw [hw1] at hbk1 hb1 hU c1 CC hBw1
  clear hw1 hbk
  have GF := Lib.hid (fun q => Tryz.Builder_grow_fresh B b n (w1.drewN q) hB hbk1 hBw1 (by omega))
  have c1q : ∀ q, (w1.drewN q).cell? ⟨b, 1, none⟩ = some (.slice none 0 0) := fun q => c1
  have hn0 : (0 : Int) ≤ (n : Int) := by omega
  go_enter Tryz.func80, Tryz.ntmps80
  by_cases h0 : 0 < n
  · have hd : decide ((0 : Int) < (n : Int)) = true := decide_eq_true (by omega)
    go_wp2_with (go_at_call 90; refine CC.out.mono ?_; rintro e w' ⟨rfl, rfl⟩)
    go_quiet (fail)
    go_wp2_with (go_at_call 124; refine (GF.out _).mono ?_; rintro e w' ⟨rfl, h1, h2⟩)
    go_end0
    exact ⟨rfl, .inr h1, (Nm.drewB hb1 _).trans h2⟩
  · obtain rfl : n = 0 := by omega
    go_wp2_with (go_at_call 90; refine CC.out.mono ?_; rintro e w' ⟨rfl, rfl⟩)
    go_quiet (fail)
    go_wp2
    go_end0
    exact ⟨rfl, .inr ⟨hU.1, _, hU.2.choose_spec⟩, Nm.drewB hb1 _⟩
end Go.Proofs.YtkddpealobeleaaGreatDoor
