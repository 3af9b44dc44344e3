/- A slice of strings that came in: its strings, and that its length is at most its capacity. -/
import Derived.Test.YtokhdloebcadnaaDoorLaw
namespace Go.Proofs.YtokhdloebcadnaaDoor
open Go.ChangeShapes Go.WideShapes Go.ChangeAt Go.RowKit
section
variable {H : Type} {enc : TypeId × Value → H} {P : Program}
theorem strs_cap {t e : TypeId} {w : World} {A : Option Addr} {n c : Nat} {d : DataW H} {ps : List MemPlace} (ht : P.underlying t = some (.slice e)) (he : P.underlying e = some .string) (hc : P.cellsOf e = 1)
    (h : DataW.Trod enc P w 0 (fun _ => true) true t (.slice A n c) d ps) :
    ∃ ss : List ByteArray, n = ss.length ∧ Strs w w.heap.size A ss ∧ ss.length ≤ c ∧ c ≤ maxLen := by
  obtain ⟨ss, rfl, hs, _⟩ := strs_of ht he hc h
  refine ⟨ss, rfl, hs, ?_⟩
  obtain ⟨fuel, hf⟩ := h
  rcases open_strings ht he hc hf with ⟨hcs, _⟩ | ⟨a, len, cap, ss', hcs, _, hl, hm, _⟩
  · simp [Value.cells] at hcs
    obtain ⟨_, h1, h2⟩ := hcs
    rw [h1, h2]
    simp [maxLen]
  · simp [Value.cells] at hcs
    obtain ⟨_, h1, h2⟩ := hcs
    rw [h1, h2]
    exact ⟨hl, hm⟩
end
end Go.Proofs.YtokhdloebcadnaaDoor
