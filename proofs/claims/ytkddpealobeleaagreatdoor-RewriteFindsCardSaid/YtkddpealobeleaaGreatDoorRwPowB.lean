/- Layer 10: small numbers that came in. -/
import Derived.Test.YtkddpealobeleaaGreatDoorRwPow
import Derived.Test.YtkddpealobeleaaGreatDoorRwFi
namespace Go.Proofs.YtkddpealobeleaaGreatDoor
open Go.ChangeShapes Go.WideShapes Go.ChangeAt Go.RowKit
set_option maxRecDepth 100000
theorem Rw.bytes_of {H : Type} {enc : TypeId × Value → H} {W : World} {base : Nat} {v : Value} {d : DataW H} {p : List MemPlace} (hv : Value.okWide Tryz.prog W .any base 47 v)
    (h : DataW.Trod enc Tryz.prog W 0 (fun _ => true) true 47 v d p) :
    ∃ (A : Option Addr) (c : Nat) (l : List Int), v = .slice A l.length c ∧ Rw.Ys W W.heap.size A l ∧ l.length ≤ c ∧ c ≤ maxLen := by
  obtain ⟨A, n, c, rfl⟩ := okWide_slice Tryz.underlying47 hv
  obtain ⟨fuel, hf⟩ := h
  rcases open_ints Tryz.underlying47 Tryz.underlying5 (by kernel_rfl) hf with ⟨h1, _⟩ | ⟨a, len, cap, zs, h1, _, hl, hm, hz, _, hc, hg⟩
  · simp [Value.cells] at h1
    obtain ⟨rfl, rfl, rfl⟩ := h1
    exact ⟨none, 0, [], rfl, fun k hk => absurd hk (by simp), by simp, by simp [maxLen]⟩
  · simp [Value.cells] at h1
    obtain ⟨rfl, rfl, rfl⟩ := h1
    simp only [if_true] at hz
    have e : (zs.take n).length = n := by rw [List.length_take]; omega
    refine ⟨some a, c, zs.take n, by rw [e], fun k hk => ?_, by rw [e]; omega, hm⟩
    have hk' := hk
    rw [e] at hk
    have h2 := hc k (by omega)
    have h3 : (zs.take n)[k] = zs.getD k 0 := by
      rw [List.getElem_take, List.getD_eq_getElem?_getD, List.getElem?_eq_getElem (by omega)]
      rfl
    have h4 := hg _ (List.mem_of_mem_take (List.getElem_mem hk'))
    have h5 : 0 ≤ (zs.take n)[k] ∧ (zs.take n)[k] ≤ 255 := by simpa [Lit.wf, IntKind.min, IntKind.max, IntKind.signed, IntKind.bits] using h4
    refine ⟨a, rfl, ?_, by rw [h3]; exact h2, h5.1, h5.2⟩
    have := Nm.cell_lt h2
    rwa [Rw.add_block] at this
end Go.Proofs.YtkddpealobeleaaGreatDoor
