/- Package ratio: bounds by digits; what the laws' walks want. -/
import Derived.Test.YtmnnaaifebajnaaGreatDoorRaHd
import Derived.Test.YtmnnaaifebajnaaGreatDoorRaSh
set_option linter.unusedSimpArgs false
set_option linter.unusedVariables false
namespace Go.Proofs.YtmnnaaifebajnaaGreatDoor
open Go.RowKit
open Ra (Fit)
set_option maxRecDepth 100000

def Dg (k : Nat) (q : Rat) : Prop := Fit (10 ^ k) q
theorem Dg.add {i j : Nat} {p q : Rat} (hp : Dg i p) (hq : Dg j q) : Dg (i + j + 1) (p + q) := by
  refine (Ra.Fit.add hp hq).mono ?_
  rw [← Nat.pow_add, Nat.pow_succ]
  generalize (10 : Nat) ^ (i + j) = P
  omega
theorem Dg.sub {i j : Nat} {p q : Rat} (hp : Dg i p) (hq : Dg j q) : Dg (i + j + 1) (p - q) := by
  refine (Ra.Fit.sub hp hq).mono ?_
  rw [← Nat.pow_add, Nat.pow_succ]
  generalize (10 : Nat) ^ (i + j) = P
  omega
theorem Dg.mul {i j : Nat} {p q : Rat} (hp : Dg i p) (hq : Dg j q) : Dg (i + j) (p * q) := by
  refine (Ra.Fit.mul hp hq).mono ?_
  rw [← Nat.pow_add]
  exact Nat.le_refl _
theorem Dg.div {i j : Nat} {p q : Rat} (hp : Dg i p) (hq : Dg j q) (h : q ≠ 0) : Dg (i + j) (p / q) := by
  refine (Ra.Fit.div hp hq h).mono ?_
  rw [← Nat.pow_add]
  exact Nat.le_refl _
theorem Dg.fit {k : Nat} {q : Rat} (h : Dg k q) (hk : k ≤ 140) : Fit L140 q := Ra.Fit.mono h (Nat.pow_le_pow_right (by omega) hk)
theorem Dg.lim {k : Nat} {q : Rat} (h : Dg k q) (hk : k ≤ 300) : Fit LIM q := Ra.Fit.mono h (lim_pow hk)
theorem dg_of {q : Rat} {k : Nat} (hk : 1 ≤ k) (h1 : (rf q).2.1.size ≤ k) (h2 : (rf q).2.2.size ≤ k) : Dg k q := (fit_size hk).1 ⟨h1, h2⟩
theorem start1 (w : World) (r1 : R3) (w1 : World) (h : w1 = w.alloc (ob r1)) : Below w.heap.size w w1 ∧ At w1 w.heap.size r1 := by
  subst h
  exact ⟨al _ _, At.ob _ _⟩
theorem rf_num0 (q : Rat) (h : q ≠ 0) : ((rf q).2.1.toList == [48]) = false := by
  have := tx_ne48 (fun e => h (abs_zero.1 e))
  unfold rf
  simpa using this
end Go.Proofs.YtmnnaaifebajnaaGreatDoor
