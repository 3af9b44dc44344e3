/- Layer 8: all the variables that the program reads. -/
import Derived.Test.YtkbncdcphohmiaaGreatDoorMoU
set_option linter.unusedSimpArgs false
set_option linter.unusedVariables false
namespace Go.Proofs.YtkbncdcphohmiaaGreatDoor
open Go.RowKit
set_option maxRecDepth 100000

structure Mo.Pa (B : Nat) (w : World) : Prop where
  pm : Pm B w
  mx : Mx B w
  es : ∃ te pe, w.cell? ⟨3, 0, none⟩ = some (.iface te pe)
  esB : 3 < B
theorem Mo.Pa.bt {w w' : World} (h : Mo.Pa w.heap.size w) (hb : Below w.heap.size w w') : Mo.Pa w'.heap.size w' := by
  obtain ⟨h1, h2, ⟨te, pe, h3⟩, h4⟩ := h
  exact ⟨h1.bt hb, h2.bt hb, ⟨te, pe, (hb.cell (p := ⟨3, 0, none⟩) h4).trans h3⟩, Nat.lt_of_lt_of_le h4 hb.size⟩
end Go.Proofs.YtkbncdcphohmiaaGreatDoor
