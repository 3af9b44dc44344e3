/- Layer 9, the reference: Length, of lists. -/
import Derived.Test.YtcjlnmfbanknhaaDoorNmRa
set_option linter.unusedSimpArgs false
set_option linter.unusedVariables false
namespace Go.Proofs.YtcjlnmfbanknhaaDoor
open Go.RowKit Go.Shelf
set_option maxRecDepth 100000
set_option maxHeartbeats 1000000
theorem Nm.vow_ons {x : UInt8} (h : Nm.vow.contains x = true) : Nm.ons.contains x = false := by
  have := Nm.all_bytes (p := fun c => !Nm.vow.contains c || !Nm.ons.contains c) (by decide +kernel) x
  rw [h] at this
  simpa using this
theorem Nm.am_drop (t : Nm.T) (i j : Nat) (b : Nm.T) : Nm.am t (i + j) b = Nm.am (t.drop i) j b := by unfold Nm.am; rw [List.getElem?_drop]
theorem Nm.am_zero (l : Nm.T) (b : Nm.T) : Nm.am l 0 b = match l with
  | [] => false
  | x :: _ => b.contains x := by
  cases l <;> rfl
theorem Nm.ln_1 (l : Nm.T) : Nm.ln 1 l = if Nm.am l 0 Nm.small = true then 1 else 0 := by
  match l with
  | [] => rfl
  | [x] => rfl
  | x :: y :: u =>
    have : Nm.two 1 x y = false := rfl
    simp only [Nm.ln, this]
    rfl
theorem Nm.ln_3 (l : Nm.T) : Nm.ln 3 l = if Nm.am l 0 Nm.abj = true then 1 else 0 := by
  match l with
  | [] => rfl
  | [x] => rfl
  | x :: y :: u =>
    have : Nm.two 3 x y = false := rfl
    simp only [Nm.ln, this]
    rfl
theorem Nm.ln_2 (l : Nm.T) : Nm.ln 2 l = if Nm.am l 0 (Nm.small ++ Nm.caps) = true then (if Nm.am l 1 Nm.acc = true then 2 else 1) else 0 := by
  match l with
  | [] => rfl
  | [x] => simp only [Nm.ln, Nm.am, Nm.one, Nm.ab]; rfl
  | x :: y :: u =>
    simp only [Nm.ln, Nm.am, Nm.one, Nm.two, Nm.ab, List.getElem?_cons_zero, List.getElem?_cons_succ]
    rcases Bool.eq_false_or_eq_true (List.contains (Nm.small ++ Nm.caps) x) with h1 | h1 <;> rcases Bool.eq_false_or_eq_true (List.contains Nm.acc y) with h2 | h2 <;> simp only [h1, h2] <;> rfl
theorem Nm.ln_4 (l : Nm.T) : Nm.ln 4 l = if Nm.am l 0 Nm.vow = true then 1 else if Nm.am l 0 Nm.ons = true ∧ Nm.am l 1 Nm.vow = true then 2 else if Nm.am l 0 [110] = true then 1 else 0 := by
  have hone : ∀ x, Nm.one 4 x = (Nm.vow.contains x || ([110] : Nm.T).contains x) := fun x => by simp [Nm.one, Nm.ab]
  match l with
  | [] => rfl
  | [x] =>
    simp only [Nm.ln, hone, Nm.am, List.getElem?_cons_zero, List.getElem?_cons_succ, List.getElem?_nil]
    rcases Bool.eq_false_or_eq_true (List.contains Nm.vow x) with h1 | h1 <;> rcases Bool.eq_false_or_eq_true (List.contains ([110] : Nm.T) x) with h2 | h2 <;> simp only [h1, h2, Bool.or_true, Bool.or_false, Bool.false_eq_true, and_false, if_true, if_false]
  | x :: y :: u =>
    have hv := @Nm.vow_ons x
    simp only [Nm.ln, hone, Nm.am, Nm.two, Nm.ab, List.getElem?_cons_zero, List.getElem?_cons_succ]
    rcases Bool.eq_false_or_eq_true (List.contains Nm.vow x) with h1 | h1
    · have h5 := hv h1
      simp only [h1, h5, Bool.false_and, Bool.true_or, Bool.false_eq_true, if_true, if_false]
    · rcases Bool.eq_false_or_eq_true (List.contains Nm.ons x) with h2 | h2 <;> rcases Bool.eq_false_or_eq_true (List.contains Nm.vow y) with h3 | h3 <;> rcases Bool.eq_false_or_eq_true (List.contains ([110] : Nm.T) x) with h4 | h4 <;> simp only [h1, h2, h3, h4, Bool.or_true, Bool.or_false, Bool.and_true, Bool.and_false, Bool.false_eq_true, and_false, and_true, and_self, if_true, if_false]
theorem Nm.ln_0 (l : Nm.T) : Nm.ln 0 l = 0 := by
  match l with
  | [] => rfl
  | [x] => rfl
  | x :: y :: u => rfl
end Go.Proofs.YtcjlnmfbanknhaaDoor
