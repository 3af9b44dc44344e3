/- What operations on texts say of each other. -/
import Derived.Test.YtmnnaaifebajnaaGreatDoorNaM
set_option linter.unusedSimpArgs false
set_option linter.unusedVariables false
namespace Go.Proofs.YtmnnaaifebajnaaGreatDoor
open Go.RowKit
set_option maxRecDepth 100000

theorem small {n : Nat} (h : n < 10 ^ 100) : n < LIM := by
  unfold LIM
  exact Nat.lt_of_lt_of_le h (Nat.pow_le_pow_right (by omega) (by unfold DIGS; omega))

theorem tx_of (l : List UInt8) (n : Nat) (h : Na.isN l = true) (hv : Na.val l = n) : tx n = ⟨l.toArray⟩ := by
  unfold tx
  rw [← hv, Na.dec_val l h]

theorem opF_ok (f : Nat → Nat → Nat) (s t : ByteArray) (h1 : isB s = true) (h2 : isB t = true) (h3 : f (nv s) (nv t) < LIM) : opF f s t = (tx (f (nv s) (nv t)), 0) := by
  unfold opF sN eN
  rw [h1, h2, if_pos h3, if_pos h3]
  rfl

theorem opF_not (f : Nat → Nat → Nat) (s t : ByteArray) (h : ¬ (isB s = true ∧ isB t = true ∧ f (nv s) (nv t) < LIM)) : (opF f s t).1 = nil' ∧ (opF f s t).2 ≠ 0 := by
  unfold opF
  by_cases h1 : (isB s && isB t) = true
  · rw [if_pos h1]
    rw [Bool.and_eq_true] at h1
    have h3 : ¬ f (nv s) (nv t) < LIM := fun h3 => h ⟨h1.1, h1.2, h3⟩
    unfold sN eN
    rw [if_neg h3, if_neg h3]
    exact ⟨rfl, by decide⟩
  · rw [if_neg h1]
    exact ⟨rfl, by decide⟩

theorem op_spec (f : Nat → Nat → Nat) (s t : ByteArray) : (opF f s t = (tx (f (nv s) (nv t)), 0) ∧ isB s = true ∧ isB t = true ∧ f (nv s) (nv t) < LIM) ∨ ((opF f s t).1 = nil' ∧ (opF f s t).2 ≠ 0 ∧ ¬ (isB s = true ∧ isB t = true ∧ f (nv s) (nv t) < LIM)) := by
  by_cases h : isB s = true ∧ isB t = true ∧ f (nv s) (nv t) < LIM
  · exact .inl ⟨opF_ok f s t h.1 h.2.1 h.2.2, h⟩
  · exact .inr ⟨(opF_not f s t h).1, (opF_not f s t h).2, h⟩

theorem nil_len : nil'.size ≤ maxLen := by decide
theorem tx_len' {R : Nat} (h : R < LIM) : (tx R).size ≤ maxLen := tx_len h

theorem op_len (f : Nat → Nat → Nat) (s t : ByteArray) : (opF f s t).1.size ≤ maxLen := by
  rcases op_spec f s t with ⟨h, _, _, h3⟩ | ⟨h, _⟩
  · rw [h]; exact tx_len h3
  · rw [h]; exact nil_len

theorem isB_nil : isB nil' = false := by decide

theorem isB_op (f : Nat → Nat → Nat) (s t : ByteArray) (h : isB (opF f s t).1 = true) : opF f s t = (tx (f (nv s) (nv t)), 0) ∧ isB s = true ∧ isB t = true ∧ f (nv s) (nv t) < LIM := by
  rcases op_spec f s t with h1 | ⟨h1, _⟩
  · exact h1
  · rw [h1, isB_nil] at h
    cases h

theorem sub_spec (s t : ByteArray) (h1 : isB s = true) (h2 : isB t = true) : subF s t = if nv s < nv t then (nil', 10) else (tx (nv s - nv t), 0) := by
  unfold subF
  rw [h1, h2]
  rfl

theorem sub_len (s t : ByteArray) : (subF s t).1.size ≤ maxLen := by
  unfold subF
  cases h : isB s && isB t
  · exact nil_len
  · rw [Bool.and_eq_true] at h
    have h1 := (isB_lt h.1).1
    rw [if_pos rfl]
    split
    · exact nil_len
    · exact tx_len (by omega)

theorem div_len (s t : ByteArray) : (divF s t).1.size ≤ maxLen ∧ (divF s t).2.1.size ≤ maxLen := by
  unfold divF
  cases h : isB s && isB t
  · exact ⟨nil_len, nil_len⟩
  · rw [Bool.and_eq_true] at h
    have h1 := (isB_lt h.1).1
    rw [if_pos rfl]
    split
    · exact ⟨nil_len, nil_len⟩
    · exact ⟨tx_len (Nat.lt_of_le_of_lt (Nat.div_le_self _ _) h1), tx_len (Nat.lt_of_le_of_lt (Nat.mod_le _ _) h1)⟩

theorem isB_txl {m : Nat} (h : m < LIM) : isB (tx m) = true := by rw [tx_isB, decide_eq_true h]

theorem nez {e : Int} (h : ¬ e = 0) : (e == 0) = false ∧ (e != 0) = true := by
  have : (e == 0) = false := by simpa using h
  exact ⟨this, by simp [bne, this]⟩

theorem op_zero {f : Nat → Nat → Nat} {s t x : ByteArray} {e : Int} (h : opF f s t = (x, e)) (h0 : e = 0) : isB s = true ∧ isB t = true ∧ x = tx (f (nv s) (nv t)) ∧ nv x = f (nv s) (nv t) ∧ f (nv s) (nv t) < LIM := by
  rcases op_spec f s t with ⟨h1, h2, h3, h4⟩ | ⟨_, h1, _⟩
  · rw [h] at h1
    have hx : x = tx (f (nv s) (nv t)) := congrArg Prod.fst h1
    exact ⟨h2, h3, hx, by rw [hx, nv_tx], h4⟩
  · rw [h] at h1
    exact absurd h0 h1

theorem op_fail {f : Nat → Nat → Nat} {s t x : ByteArray} {e : Int} (h : opF f s t = (x, e)) (h0 : e ≠ 0) : x = nil' := by
  rcases op_spec f s t with ⟨h1, _⟩ | ⟨h1, _⟩
  · rw [h] at h1
    exact absurd (congrArg Prod.snd h1) h0
  · rw [h] at h1
    exact h1

theorem op_isB {f : Nat → Nat → Nat} {s t x : ByteArray} {e : Int} (h : opF f s t = (x, e)) (hx : isB x = true) : e = 0 := by
  have := isB_op f s t (by rw [h]; exact hx)
  rw [h] at this
  exact congrArg Prod.snd this.1

theorem op_make {f : Nat → Nat → Nat} {s t x : ByteArray} {e : Int} (h : opF f s t = (x, e)) (h1 : isB s = true) (h2 : isB t = true) (h3 : f (nv s) (nv t) < LIM) : x = tx (f (nv s) (nv t)) ∧ e = 0 := by
  have := opF_ok f s t h1 h2 h3
  rw [h] at this
  exact ⟨congrArg Prod.fst this, congrArg Prod.snd this⟩

theorem op_comm (f : Nat → Nat → Nat) (s t : ByteArray) (hf : ∀ m n, f m n = f n m) : opF f s t = opF f t s := by
  unfold opF
  rw [Bool.and_comm, hf]
def zr : ByteArray := ⟨#[48]⟩
theorem tx_zero : tx 0 = ⟨#[48]⟩ := tx_of [48] 0 (by decide) (by decide)

theorem ne48 {b : ByteArray} (h : b ≠ ⟨#[48]⟩) : (b.toList == [48]) = false := by
  have := bytes_ne h
  rwa [show (⟨#[48]⟩ : ByteArray).toList = [48] by rw [ByteArray.toList_eq]] at this

theorem nv_pos {b : ByteArray} (hb : isB b = true) (h : b ≠ ⟨#[48]⟩) : nv b ≠ 0 := fun e => by
  have := (isB_lt hb).2
  rw [e, tx_zero] at this
  exact h this.symm

theorem div_make {s t q r : ByteArray} {e : Int} (h : divF s t = (q, r, e)) (h1 : isB s = true) (h2 : isB t = true) (h0 : nv t ≠ 0) : q = tx (nv s / nv t) ∧ r = tx (nv s % nv t) ∧ e = 0 := by
  unfold divF at h
  rw [h1, h2] at h
  simp only [Bool.and_self, if_true, h0, if_false] at h
  injection h with h3 h4
  injection h4 with h5 h6
  exact ⟨h3.symm, h5.symm, h6.symm⟩

theorem cmp_make {s t : ByteArray} {c e : Int} (h : cmpF s t = (c, e)) (h1 : isB s = true) (h2 : isB t = true) : c = cmpN (nv s) (nv t) ∧ e = 0 := by
  unfold cmpF at h
  rw [h1, h2] at h
  simp only [Bool.and_self, if_true] at h
  injection h with h3 h4
  exact ⟨h3.symm, h4.symm⟩
end Go.Proofs.YtmnnaaifebajnaaGreatDoor
