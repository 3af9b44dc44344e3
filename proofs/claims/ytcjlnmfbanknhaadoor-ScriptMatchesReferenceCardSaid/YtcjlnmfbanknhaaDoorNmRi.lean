/- Layer 9, the reference's Parse: its memory, and its head. -/
import Derived.Test.YtcjlnmfbanknhaaDoorNmRf
import Derived.Deep.AppendLies
set_option linter.unusedSimpArgs false
set_option linter.unusedVariables false
namespace Go.Proofs.YtcjlnmfbanknhaaDoor
open Go.RowKit Go.Shelf
set_option maxRecDepth 100000
set_option maxHeartbeats 2000000
/-- The block of a name. -/
def Nm.B2 (W : World) (E : Nat) (x u : Value) : Prop := W.heap[E]? = some (.cells #[x, u] 24 (0, 0))
theorem Nm.B2.lt {W : World} {E : Nat} {x u : Value} (h : Nm.B2 W E x u) : E < W.heap.size := (Array.getElem?_eq_some_iff.1 h).1
theorem Nm.B2.c0 {W : World} {E : Nat} {x u : Value} (h : Nm.B2 W E x u) : W.cell? ⟨E, 0, none⟩ = some x := Nm.cell_h h 0
theorem Nm.B2.c1 {W : World} {E : Nat} {x u : Value} (h : Nm.B2 W E x u) : W.cell? ⟨E, 1, none⟩ = some u := Nm.cell_h h 1
theorem Nm.B2.f {W : World} {E : Nat} {x u : Value} (h : Nm.B2 W E x u) (i : Nat) : W.frozen? ⟨E, i, none⟩ = false := Lib.frozen_of_heap h i
theorem Nm.B2.s0 {W : World} {E : Nat} {x u : Value} (h : Nm.B2 W E x u) (k : Value) : Nm.B2 (W.setCell ⟨E, 0, none⟩ k) E k u := by
  unfold Nm.B2 at h ⊢
  simp [World.setCell, Array.getElem?_modify, h]
theorem Nm.B2.s1 {W : World} {E : Nat} {x u : Value} (h : Nm.B2 W E x u) (k : Value) : Nm.B2 (W.setCell ⟨E, 1, none⟩ k) E x k := by
  unfold Nm.B2 at h ⊢
  simp [World.setCell, Array.getElem?_modify, h]
theorem Nm.B2.below {W V : World} {E n : Nat} {x u : Value} (h : Nm.B2 W E x u) (hb : Below n W V) (hn : E < n) : Nm.B2 V E x u := (hb.block E hn).trans h
theorem Nm.row_ne {W : World} {B E : Nat} {v : Value} {l : List ByteArray} (h : OwnS W B v l) (hE : E < B) : some E ≠ v.ownBlock := fun e => by
  have := (OwnS.lt h E e.symm).1
  omega
theorem Nm.words_round (wr : World) (E B : Nat) (x u : Value) (l : List ByteArray) (r : ByteArray) (hE : Nm.B2 wr E x u) (hl : OwnS wr B u l) (hEB : E < B) (hB : B ≤ wr.heap.size) (hm : l.length ≤ 1000) :
    ∃ g cap w3, (Builtin.append_ #[22, 22] 22 #[u, .slice (some ⟨wr.heap.size, 0, none⟩) 1 1]).run Tryd.prog (wr.drew.alloc (.cells #[.string r] 9)) = .ok (.slice (some ⟨g, 0, none⟩) (l.length + 1) cap) w3 ∧
      Nm.B2 (wr.drew.alloc (.cells #[.string r] 9)) E x u ∧ Nm.B2 w3 E x u ∧
      (let w4 := w3.setCell ⟨E, 1, none⟩ (.slice (some ⟨g, 0, none⟩) (l.length + 1) cap)
       Nm.B2 w4 E x (.slice (some ⟨g, 0, none⟩) (l.length + 1) cap) ∧ OwnS w4 B (.slice (some ⟨g, 0, none⟩) (l.length + 1) cap) (l ++ [r]) ∧ Below E wr w4 ∧ B ≤ w4.heap.size) := by
  obtain ⟨i0, hi, hz0, hz1, hz2⟩ := info_parts infoStr
  have hEl := hE.lt
  have hED : Nm.B2 wr.drew E x u := hE
  have hEA : Nm.B2 (wr.drew.alloc (.cells #[.string r] 9)) E x u := (Below.heap_alloc _ _ _ hEl).trans hED
  have hrow : wr.drew.ownsRow B 9 1 u l.length (l.map Value.string) := hl
  have hrowA : (wr.drew.alloc (.cells #[.string r] 9)).ownsRow B 9 1 u l.length (l.map Value.string) := hrow.alloc _
  obtain ⟨v3, w3, hrun, hown, hgrow, _, _⟩ := run_append_own_at (P := Tryd.prog) (w := wr.drew.alloc (.cells #[.string r] 9)) B 22 22 9 i0 (.string ⟨#[]⟩) 1 16 Tryd.underlying22 hi hz0 hz1 hz2 rfl (by decide) u l.length (l.map Value.string)
    hrowA ⟨wr.heap.size, 0, none⟩ 1 1 [.string r] rfl (World.news_of_block (heap_alloc_new wr.drew _)) (all_one_str r) (by unfold maxLen; omega) (by omega) (by simp; omega)
  obtain ⟨g, cap, rfl⟩ := ownsRow_succ hown
  have hownE : OwnS w3 B (.slice (some ⟨g, 0, none⟩) (l.length + 1) cap) (l ++ [r]) := by
    unfold OwnS
    rw [List.length_append, List.map_append]
    exact hown
  have hne : some E ≠ u.ownBlock := Nm.row_ne hl hEB
  have hE3 : Nm.B2 w3 E x u := (hgrow.block E (by simp; omega) hne).trans hEA
  have hsz := hgrow.size
  simp only [World.size_alloc] at hsz
  have hszd : wr.drew.heap.size = wr.heap.size := rfl
  have hset : Below E w3 (w3.setCell ⟨E, 1, none⟩ (.slice (some ⟨g, 0, none⟩) (l.length + 1) cap)) := (Below.refl E w3).setCell (p := ⟨E, 1, none⟩) (Nat.le_refl _) _
  refine ⟨g, cap, w3, hrun, hEA, hE3, hE3.s1 _, ?_, ?_, ?_⟩
  · exact Nm.own_set hownE 1 _ hEB
  · refine (((Below.refl E wr).drew.alloc (by omega) _).grown hgrow (by simp; omega) fun j hj => ?_).trans hset
    have := (OwnS.lt hl j hj).1
    omega
  · have : (w3.setCell ⟨E, 1, none⟩ (.slice (some ⟨g, 0, none⟩) (l.length + 1) cap)).heap.size = w3.heap.size := by simp [World.setCell]
    omega
end Go.Proofs.YtcjlnmfbanknhaaDoor
