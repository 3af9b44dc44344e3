/- Rational numbers as three parts: a sign and two texts; the valid ones are those of rational numbers whose parts are not too long. -/
import Derived.Test.YtmnnaaifebajnaaGreatDoorNaO
import Derived.Test.YtmnnaaifebajnaaGreatDoorRaMath
set_option linter.unusedSimpArgs false
set_option linter.unusedVariables false
namespace Go.Proofs.YtmnnaaifebajnaaGreatDoor
open Go.RowKit
open Ra (Fit)
set_option maxRecDepth 100000

abbrev R3 := Bool × ByteArray × ByteArray
def rf (q : Rat) : R3 := (decide (q < 0), tx q.num.natAbs, tx q.den)
def zeroR : R3 := (false, nil', nil')
def qv (r : R3) : Rat := Ra.mk r.1 (nv r.2.1) (nv r.2.2)
def vR (r : R3) : Bool := isB r.2.1 && isB r.2.2 && decide (nv r.2.2 ≠ 0) && decide (Nat.gcd (nv r.2.1) (nv r.2.2) = 1) && !(r.1 && decide (nv r.2.1 = 0))
def makeF (r : R3) : R3 × Int := if isB r.2.1 && isB r.2.2 then (if nv r.2.2 = 0 then (zeroR, 15) else (rf (qv r), 0)) else (zeroR, 1)

theorem qv_rf (q : Rat) : qv (rf q) = q := by
  unfold qv rf
  rw [nv_tx, nv_tx]
  exact Ra.mk_self q

theorem rf_inj {p q : Rat} (h : rf p = rf q) : p = q := by
  have := congrArg qv h
  rwa [qv_rf, qv_rf] at this

theorem abs_zero {q : Rat} : q.num.natAbs = 0 ↔ q = 0 := by
  rw [Int.natAbs_eq_zero, Rat.num_eq_zero]

theorem vR_rf (q : Rat) : vR (rf q) = true ↔ Fit LIM q := by
  unfold vR rf Ra.Fit
  simp only [tx_isB, nv_tx, Bool.and_eq_true, decide_eq_true_eq, Bool.not_eq_true', Bool.and_eq_false_iff, decide_eq_false_iff_not]
  constructor
  · intro h
    exact ⟨h.1.1.1.1, h.1.1.1.2⟩
  · intro h
    refine ⟨⟨⟨⟨h.1, h.2⟩, q.den_nz⟩, q.reduced⟩, ?_⟩
    by_cases h0 : q.num.natAbs = 0
    · left
      rw [abs_zero.1 h0]
      decide
    · exact .inr h0

theorem make_rf (r : R3) (h1 : isB r.2.1 = true) (h2 : isB r.2.2 = true) (h3 : nv r.2.2 ≠ 0) (h4 : Nat.gcd (nv r.2.1) (nv r.2.2) = 1) (h5 : (r.1 && decide (nv r.2.1 = 0)) = false) : rf (qv r) = r := by
  obtain ⟨s, n, d⟩ := r
  simp only at h1 h2 h3 h4 h5
  unfold rf qv
  simp only
  obtain ⟨k1, k2⟩ := Ra.mk_low s (nv n) (nv d) h3 h4
  rw [k1, k2, (isB_lt h1).2, (isB_lt h2).2]
  congr 1
  have := Ra.mk_neg s (nv n) (nv d) h3
  cases s
  · simp only [Bool.false_eq_true, false_and, iff_false] at this
    exact decide_eq_false this
  · have hn : nv n ≠ 0 := by simpa using h5
    exact decide_eq_true (this.2 ⟨rfl, hn⟩)

theorem vR_parts {r : R3} (h : vR r = true) : isB r.2.1 = true ∧ isB r.2.2 = true ∧ nv r.2.2 ≠ 0 ∧ Nat.gcd (nv r.2.1) (nv r.2.2) = 1 ∧ (r.1 && decide (nv r.2.1 = 0)) = false := by
  unfold vR at h
  simp only [Bool.and_eq_true, decide_eq_true_eq, Bool.not_eq_true'] at h
  exact ⟨h.1.1.1.1, h.1.1.1.2, h.1.1.2, h.1.2, h.2⟩

theorem vR_q {r : R3} (h : vR r = true) : Fit LIM (qv r) ∧ r = rf (qv r) := by
  obtain ⟨h1, h2, h3, h4, h5⟩ := vR_parts h
  have h6 := make_rf r h1 h2 h3 h4 h5
  refine ⟨?_, h6.symm⟩
  rw [← vR_rf, h6]
  exact h

theorem vR_ex {r : R3} (h : vR r = true) : ∃ q, Fit LIM q ∧ r = rf q := ⟨_, vR_q h⟩

theorem makeF_valid (r : R3) : vR r = decide ((makeF r).2 = 0 ∧ r = (makeF r).1) := by
  unfold makeF
  by_cases h12 : (isB r.2.1 && isB r.2.2) = true
  · rw [if_pos h12]
    by_cases h3 : nv r.2.2 = 0
    · rw [if_pos h3]
      unfold vR
      simp [h3]
    · rw [if_neg h3]
      simp only [true_and]
      by_cases h : r = rf (qv r)
      · rw [decide_eq_true h, h, vR_rf]
        rw [Bool.and_eq_true] at h12
        obtain ⟨k1, k2⟩ := Ra.mk_le r.1 (nv r.2.1) (nv r.2.2) h3
        exact ⟨Nat.lt_of_le_of_lt k1 (isB_lt h12.1).1, Nat.lt_of_le_of_lt k2 (isB_lt h12.2).1⟩
      · rw [decide_eq_false h]
        cases hv : vR r
        · rfl
        · exact absurd (vR_q hv).2 h
  · rw [if_neg h12]
    have : (isB r.2.1 && isB r.2.2) = false := by simpa using h12
    unfold vR
    rw [this]
    simp

theorem makeF_fit (r : R3) (h : (makeF r).2 = 0) : (makeF r).1 = rf (qv r) ∧ Fit LIM (qv r) ∧ nv r.2.2 ≠ 0 := by
  unfold makeF at h ⊢
  by_cases h12 : (isB r.2.1 && isB r.2.2) = true
  · rw [if_pos h12] at h ⊢
    by_cases h3 : nv r.2.2 = 0
    · rw [if_pos h3] at h
      cases h
    · rw [if_neg h3]
      rw [Bool.and_eq_true] at h12
      obtain ⟨k1, k2⟩ := Ra.mk_le r.1 (nv r.2.1) (nv r.2.2) h3
      exact ⟨rfl, ⟨Nat.lt_of_le_of_lt k1 (isB_lt h12.1).1, Nat.lt_of_le_of_lt k2 (isB_lt h12.2).1⟩, h3⟩
  · rw [if_neg h12] at h
    cases h

/- sizes -/
theorem tx_le (m k : Nat) (hk : 1 ≤ k) : (tx m).size ≤ k ↔ m < 10 ^ k := by
  rw [tx_size]
  exact Na.dec_len hk

theorem fit_size {q : Rat} {k : Nat} (hk : 1 ≤ k) : ((rf q).2.1.size ≤ k ∧ (rf q).2.2.size ≤ k) ↔ Fit (10 ^ k) q := by
  unfold rf Ra.Fit
  rw [tx_le _ _ hk, tx_le _ _ hk]

theorem rf_len {q : Rat} (h : Fit LIM q) : (rf q).2.1.size ≤ maxLen ∧ (rf q).2.2.size ≤ maxLen := ⟨tx_len h.1, tx_len h.2⟩

theorem lim_pow {k : Nat} (h : k ≤ 300) : 10 ^ k ≤ LIM := Nat.pow_le_pow_right (by omega) (by unfold DIGS; omega)
theorem fit_lim {q : Rat} {k : Nat} (hk : k ≤ 300) (h : Fit (10 ^ k) q) : Fit LIM q := h.mono (lim_pow hk)
end Go.Proofs.YtmnnaaifebajnaaGreatDoor
