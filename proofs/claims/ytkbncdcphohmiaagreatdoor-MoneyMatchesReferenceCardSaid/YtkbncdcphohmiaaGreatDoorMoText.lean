/- The texts of amounts (layer 8): mathematics. Nothing of the program is imported. -/
import Derived.Test.YtkbncdcphohmiaaGreatDoorMoRate
import Derived.Test.YtkbncdcphohmiaaGreatDoorNaMath
set_option linter.unusedSimpArgs false
set_option linter.unusedVariables false
namespace Go.Proofs.YtkbncdcphohmiaaGreatDoor
open Go

/-- An amount: its currency's bytes and its units. -/
def Mo.proper (c : List UInt8) (u : Int) : Bool := Mo.ident c && (decide (-1000000000000 ≤ u) && decide (u ≤ 1000000000000))
def Mo.text (c : List UInt8) (u : Int) : List UInt8 := c ++ 32 :: Lib.itoa u
def Mo.cut : List UInt8 → Option (List UInt8 × List UInt8)
  | [] => none
  | c :: r => if c = 32 then some ([], r) else (Mo.cut r).map fun p => (c :: p.1, p.2)
def Mo.units : List UInt8 → Int
  | [] => 0
  | c :: r => if c = 45 then -((Na.val r : Nat) : Int) else ((Na.val (c :: r) : Nat) : Int)
/-- The amount with a text, if there is one. -/
def Mo.amt (l : List UInt8) : Option (List UInt8 × Int) := match Mo.cut l with
  | none => none
  | some (c, d) => if Mo.proper c (Mo.units d) = true ∧ Lib.itoa (Mo.units d) = d then some (c, Mo.units d) else none
theorem Mo.cut_app : ∀ (c d : List UInt8), (∀ x ∈ c, x ≠ 32) → Mo.cut (c ++ 32 :: d) = some (c, d)
  | [], d, _ => rfl
  | x :: c, d, h => by
    have ih := Mo.cut_app c d (fun y hy => h y (by simp [hy]))
    rw [List.cons_append, Mo.cut, if_neg (h x (by simp)), ih]
    rfl
theorem Mo.cut_some : ∀ {l c d : List UInt8}, Mo.cut l = some (c, d) → l = c ++ 32 :: d
  | [], c, d, h => by cases h
  | x :: l, c, d, h => by
    rw [Mo.cut] at h
    split at h
    · rename_i hx
      cases h
      rw [hx]
      rfl
    · cases hc : Mo.cut l with
      | none => rw [hc] at h; cases h
      | some p =>
        rw [hc] at h
        cases h
        rw [Mo.cut_some (c := p.1) (d := p.2) hc]
        rfl
theorem Mo.ident_no {c : List UInt8} (h : Mo.ident c = true) : ∀ x ∈ c, x ≠ 32 := by
  cases c with
  | nil => simp [Mo.ident] at h
  | cons a c =>
    simp only [Mo.ident, Bool.and_eq_true] at h
    intro x hx e
    subst e
    rcases List.mem_cons.1 hx with hx | hx
    · rw [← hx] at h
      exact absurd h.1 (by decide)
    · exact absurd (List.all_eq_true.1 h.2.1 _ hx) (by decide)
theorem Mo.units_itoa (u : Int) : Mo.units (Lib.itoa u) = u := by
  unfold Lib.itoa
  by_cases h : u < 0
  · rw [if_pos h]
    show (if (45 : UInt8) = 45 then -((Na.val (Lib.decDigits u.natAbs) : Nat) : Int) else ((Na.val (45 :: Lib.decDigits u.natAbs) : Nat) : Int)) = u
    rw [if_pos rfl, Na.val_dec]
    omega
  · rw [if_neg h]
    have ha := Na.dec_all u.toNat
    have hv := Na.val_dec u.toNat
    cases hd : Lib.decDigits u.toNat with
    | nil => exact absurd hd (Na.dec_ne _)
    | cons c r =>
      rw [hd] at ha hv
      have hc := (Na.isD_iff c).1 (List.all_eq_true.1 ha c (by simp))
      have hne : c ≠ 45 := fun e => by subst e; revert hc; decide
      show (if c = 45 then -((Na.val r : Nat) : Int) else ((Na.val (c :: r) : Nat) : Int)) = u
      rw [if_neg hne, hv]
      omega
theorem Mo.amt_text {c : List UInt8} {u : Int} (h : Mo.proper c u = true) : Mo.amt (Mo.text c u) = some (c, u) := by
  have hi : Mo.ident c = true := by
    simp only [Mo.proper, Bool.and_eq_true] at h
    exact h.1
  unfold Mo.amt Mo.text
  rw [Mo.cut_app c _ (Mo.ident_no hi)]
  simp only [Mo.units_itoa]
  rw [if_pos ⟨h, trivial⟩]
theorem Mo.amt_some {l c : List UInt8} {u : Int} (h : Mo.amt l = some (c, u)) : Mo.proper c u = true ∧ l = Mo.text c u := by
  unfold Mo.amt at h
  split at h
  · cases h
  · rename_i c' d hc
    split at h
    · rename_i hp
      cases h
      refine ⟨hp.1, ?_⟩
      unfold Mo.text
      rw [hp.2]
      exact Mo.cut_some hc
    · cases h
theorem Mo.text_inj {c c' : List UInt8} {u u' : Int} (h : Mo.proper c u = true) (h' : Mo.proper c' u' = true) (e : Mo.text c u = Mo.text c' u') : c = c' ∧ u = u' := by
  have h1 := Mo.amt_text h
  rw [e, Mo.amt_text h'] at h1
  cases h1
  exact ⟨rfl, rfl⟩
/-- The digits of an amount's units: at most 14 bytes. -/
theorem Mo.itoa_len {u : Int} (h1 : -1000000000000 ≤ u) (h2 : u ≤ 1000000000000) : (Lib.itoa u).length ≤ 14 ∧ 0 < (Lib.itoa u).length := by
  unfold Lib.itoa
  split
  · have h3 := (Na.dec_len (n := u.natAbs) (k := 13) (by omega)).2 (by omega)
    simp only [List.length_cons]
    omega
  · have h3 := (Na.dec_len (n := u.toNat) (k := 13) (by omega)).2 (by omega)
    have h4 : 0 < (Lib.decDigits u.toNat).length := Nat.pos_of_ne_zero fun e => Na.dec_ne u.toNat (List.length_eq_zero_iff.1 e)
    omega
end Go.Proofs.YtkbncdcphohmiaaGreatDoor
