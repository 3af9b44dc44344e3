/- ScriptBlanks: what a further blank changes, and the walk. -/
import Derived.Test.YtcjlnmfbanknhaaDoorNmU
set_option linter.unusedSimpArgs false
set_option linter.unusedVariables false
namespace Go.Proofs.YtcjlnmfbanknhaaDoor
open Go.RowKit Go.Shelf
set_option maxRecDepth 100000
set_option maxHeartbeats 1000000
/-- What stands below a fresh block or a draw. -/
theorem Nm.al_size {a w : World} (h : Below a.heap.size a w) (o : Obj) : Below a.heap.size a (w.alloc o) := h.alloc h.size o
macro "nm_below " h:term : tactic => `(tactic| repeat (first | (with_reducible exact $h) | (with_reducible refine Below.drew ?_) | (with_reducible refine Nm.al_size ?_ _)))
theorem Nm.parse_cases (t : Nm.T) : ((Nm.parse t).e = 0 ∧ (Nm.parse t).a = 0 ∧ ∃ s, (Nm.parse t).s = s ∧ 1 ≤ s ∧ s ≤ 4 ∧ Nm.okN s (Nm.parse t).ws = true ∧ Nm.jl (Nm.parse t).ws + (Nm.title s).length ≤ t.length + 1) ∨ ((Nm.parse t).e ≠ 0 ∧ (Nm.parse t).s = 0 ∧ (Nm.parse t).ws = [] ∧ -1 ≤ (Nm.parse t).a ∧ (Nm.parse t).a ≤ (t.length : Int)) := by
  by_cases hl : 20000 < t.length
  · rw [Nm.parse_long hl]
    exact .inr ⟨by decide, rfl, rfl, by simp, by simp only; omega⟩
  · cases hf : Nm.find t with
    | none =>
      rw [Nm.parse_none (by omega) hf]
      exact .inr ⟨by decide, rfl, rfl, by simp, by simp only; omega⟩
    | some s =>
      obtain ⟨h1, h4, r, rfl⟩ := Nm.find_some hf
      rw [Nm.parse_title h1 h4 (by omega)]
      by_cases he : (Nm.scan s r [] [] 0).2.1 = 0
      · rw [if_pos he]
        have hv := Nm.scan_valid s r [] [] 0 [] (by simp) (by simp) rfl rfl rfl (by omega) (fun _ => rfl) (fun h => absurd rfl h) he
        have hj := Nm.scan_len s r [] [] 0
        refine .inl ⟨rfl, rfl, s, rfl, h1, h4, hv, ?_⟩
        rw [List.length_append]
        simp only [Nm.jl, List.length_nil] at hj ⊢
        omega
      · rw [if_neg he]
        exact .inr ⟨he, rfl, rfl, by simp only; omega, by simp only; omega⟩
theorem Nm.title_blank {s i : Nat} (h1 : 1 ≤ s) (h4 : s ≤ 4) : (Nm.title s)[i]? ≠ some 32 := by
  intro h
  have := List.mem_of_getElem? h
  have hs : s = 1 ∨ s = 2 ∨ s = 3 ∨ s = 4 := by omega
  rcases hs with rfl | rfl | rfl | rfl <;> revert this <;> decide
theorem Nm.edge_at {t : Nm.T} {k : Nat} (h : Nm.edge (t.drop k) = true) (hk : k < t.length) : t[k]? = some 32 := by
  rw [List.drop_eq_getElem_cons hk] at h
  rw [List.getElem?_eq_getElem hk]
  have : t[k] = 32 := by simpa [Nm.edge] using h
  rw [this]
theorem Nm.parse_blank {t : Nm.T} {k : Nat} (hl : t.length ≤ 2000) (hk : k ≤ t.length) (hm : Nm.edge (t.drop k) = true) (he : (Nm.parse t).e ≠ 5) :
    (Nm.parse (t.take k ++ 32 :: t.drop k)).e = (Nm.parse t).e ∧ (Nm.parse (t.take k ++ 32 :: t.drop k)).ws = (Nm.parse t).ws ∧ (Nm.parse (t.take k ++ 32 :: t.drop k)).s = (Nm.parse t).s := by
  cases hf : Nm.find t with
  | none =>
    rw [Nm.parse_none (by omega) hf] at he
    exact absurd rfl he
  | some s =>
    obtain ⟨h1, h4, r, rfl⟩ := Nm.find_some hf
    have hge : (Nm.title s).length ≤ k := by
      by_cases hlt : k < (Nm.title s).length
      · have := Nm.edge_at hm (by rw [List.length_append]; omega)
        rw [List.getElem?_append_left hlt] at this
        exact absurd this (Nm.title_blank h1 h4)
      · omega
    obtain ⟨j, rfl⟩ : ∃ j, k = (Nm.title s).length + j := ⟨k - (Nm.title s).length, by omega⟩
    rw [List.length_append] at hk hl
    rw [List.take_length_add_append, List.append_assoc, List.drop_length_add_append, Nm.parse_title h1 h4 (by simp only [List.length_append, List.length_cons, List.length_take, List.length_drop]; omega), Nm.parse_title h1 h4 (by simp only [List.length_append, List.length_cons, List.length_take, List.length_drop]; omega)]
    rw [List.drop_length_add_append] at hm
    have hs := Nm.scan_add s (r.take j) (r.drop j) hm [] [] 0
    rw [List.take_append_drop] at hs
    by_cases h0 : (Nm.scan s r [] [] 0).2.1 = 0
    · rw [if_pos h0, if_pos (by rw [← hs.2]; exact h0)]
      exact ⟨rfl, hs.1.symm, rfl⟩
    · rw [if_neg h0, if_neg (by rw [← hs.2]; exact h0)]
      exact ⟨hs.2.symm, rfl, rfl⟩
theorem Nm.same_true (k : Int) (A : Option Addr) (c : Nat) (B : Option Addr) (d : Nat) (ss : List ByteArray) (n : Nat) (hn : ss.length = n) (hl : n ≤ 20) (w : World) (ha : Strs w w.heap.size A ss) (hb : Strs w w.heap.size B ss) :
    Calls Tryd.prog 18 #[.agg #[.int .i64 k, .slice A n c], .agg #[.int .i64 k, .slice B n d]] w fun e w' => e = .returned (.bool true) ∧ Below w.heap.size w w' := by
  have := Nm.same_any k A c ss k B d ss w ha hb (by unfold maxLen; omega) (by unfold maxLen; omega)
  rw [hn] at this
  simpa using this
theorem Nm.parse_few (t : Nm.T) : (Nm.parse t).ws.length ≤ 6 := by
  rcases Nm.parse_cases t with ⟨_, _, s, _, _, _, h, _⟩ | ⟨_, _, h, _⟩
  · exact (Nm.okN_iff h).2.2
  · rw [h]; simp
theorem Nm.cell_h {V : World} {b : Nat} {c : Array Value} {T : TypeId} {fr : Nat × Nat} (h : V.heap[b]? = some (.cells c T fr)) (i : Nat) : V.cell? ⟨b, i, none⟩ = c[i]? := by simp [World.cell?, h]
theorem Nm.undrew {a w : World} (h : Below a.drew.heap.size a.drew w) : Below a.heap.size a w := ⟨h.os, h.tape, h.output, h.size, h.block⟩
theorem Nm.blank_facts {w w2 V : World} {ps : Int} {A : Option Addr} {m c : Nat} {ss : List ByteArray}
    (hb : Below w.heap.size w (w2.alloc (.cells #[.int .i64 ps, .slice A m c] 24)))
    (hs : Strs (w2.alloc (.cells #[.int .i64 ps, .slice A m c] 24)) (w2.alloc (.cells #[.int .i64 ps, .slice A m c] 24)).heap.size A ss)
    (hV : Below (w2.alloc (.cells #[.int .i64 ps, .slice A m c] 24)).heap.size (w2.alloc (.cells #[.int .i64 ps, .slice A m c] 24)) V) :
    V.cell? ⟨w2.heap.size, 0, none⟩ = some (.int .i64 ps) ∧ V.cell? ⟨w2.heap.size, 1, none⟩ = some (.slice A m c) ∧ Below w.heap.size w V ∧ Strs V V.heap.size A ss := by
  have z := (hV.block w2.heap.size (by simp)).trans (heap_alloc_new w2 _)
  exact ⟨by simp [World.cell?, z], by simp [World.cell?, z], Nm.Nb hb hV, Nm.sbt hs hV⟩
end Go.Proofs.YtcjlnmfbanknhaaDoor
