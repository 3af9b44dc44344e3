/- What operations on texts say of each other. -/
import Derived.Test.YtabebggkfjddbaaDoorNaN
set_option linter.unusedSimpArgs false
set_option linter.unusedVariables false
namespace Go.Proofs.YtabebggkfjddbaaDoor
open Go.RowKit
set_option maxRecDepth 100000

theorem sub_spec (s t : ByteArray) (h1 : isB s = true) (h2 : isB t = true) : subF s t = if nv s < nv t then (nil', 10) else (tx (nv s - nv t), 0) := by
  unfold subF
  rw [h1, h2]
  rfl

theorem sub_len (s t : ByteArray) : (subF s t).1.size ≤ maxLen := by
  unfold subF
  cases h : isB s && isB t
  · exact nil_len
  · rw [Bool.and_eq_true] at h
    have h1 := (isB_lt h.1).1
    rw [if_pos rfl]
    split
    · exact nil_len
    · exact tx_len (by omega)

theorem div_len (s t : ByteArray) : (divF s t).1.size ≤ maxLen ∧ (divF s t).2.1.size ≤ maxLen := by
  unfold divF
  cases h : isB s && isB t
  · exact ⟨nil_len, nil_len⟩
  · rw [Bool.and_eq_true] at h
    have h1 := (isB_lt h.1).1
    rw [if_pos rfl]
    split
    · exact ⟨nil_len, nil_len⟩
    · exact ⟨tx_len (Nat.lt_of_le_of_lt (Nat.div_le_self _ _) h1), tx_len (Nat.lt_of_le_of_lt (Nat.mod_le _ _) h1)⟩

theorem isB_txl {m : Nat} (h : m < LIM) : isB (tx m) = true := by rw [tx_isB, decide_eq_true h]

theorem nez {e : Int} (h : ¬ e = 0) : (e == 0) = false ∧ (e != 0) = true := by
  have : (e == 0) = false := by simpa using h
  exact ⟨this, by simp [bne, this]⟩

theorem op_zero {f : Nat → Nat → Nat} {s t x : ByteArray} {e : Int} (h : opF f s t = (x, e)) (h0 : e = 0) : isB s = true ∧ isB t = true ∧ x = tx (f (nv s) (nv t)) ∧ nv x = f (nv s) (nv t) ∧ f (nv s) (nv t) < LIM := by
  rcases op_spec f s t with ⟨h1, h2, h3, h4⟩ | ⟨_, h1, _⟩
  · rw [h] at h1
    have hx : x = tx (f (nv s) (nv t)) := congrArg Prod.fst h1
    exact ⟨h2, h3, hx, by rw [hx, nv_tx], h4⟩
  · rw [h] at h1
    exact absurd h0 h1

theorem op_fail {f : Nat → Nat → Nat} {s t x : ByteArray} {e : Int} (h : opF f s t = (x, e)) (h0 : e ≠ 0) : x = nil' := by
  rcases op_spec f s t with ⟨h1, _⟩ | ⟨h1, _⟩
  · rw [h] at h1
    exact absurd (congrArg Prod.snd h1) h0
  · rw [h] at h1
    exact h1

theorem op_isB {f : Nat → Nat → Nat} {s t x : ByteArray} {e : Int} (h : opF f s t = (x, e)) (hx : isB x = true) : e = 0 := by
  have := isB_op f s t (by rw [h]; exact hx)
  rw [h] at this
  exact congrArg Prod.snd this.1

theorem op_make {f : Nat → Nat → Nat} {s t x : ByteArray} {e : Int} (h : opF f s t = (x, e)) (h1 : isB s = true) (h2 : isB t = true) (h3 : f (nv s) (nv t) < LIM) : x = tx (f (nv s) (nv t)) ∧ e = 0 := by
  have := opF_ok f s t h1 h2 h3
  rw [h] at this
  exact ⟨congrArg Prod.fst this, congrArg Prod.snd this⟩

theorem op_comm (f : Nat → Nat → Nat) (s t : ByteArray) (hf : ∀ m n, f m n = f n m) : opF f s t = opF f t s := by
  unfold opF
  rw [Bool.and_comm, hf]
end Go.Proofs.YtabebggkfjddbaaDoor
