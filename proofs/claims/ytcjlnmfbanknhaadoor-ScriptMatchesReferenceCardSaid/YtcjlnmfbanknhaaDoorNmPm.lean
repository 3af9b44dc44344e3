/- The mathematics of layer 9: what Parse is. Nothing of the program is imported. -/
import Derived.Test.YtcjlnmfbanknhaaDoorNmK
set_option linter.unusedSimpArgs false
set_option linter.unusedVariables false
namespace Go.Proofs.YtcjlnmfbanknhaaDoor
/-- The script with whose word and colon a text begins. -/
def Nm.find (t : Nm.T) : Option Nat := if (Nm.title 1).isPrefixOf t then some 1 else if (Nm.title 2).isPrefixOf t then some 2 else if (Nm.title 3).isPrefixOf t then some 3 else if (Nm.title 4).isPrefixOf t then some 4 else none
structure Nm.PR where
  s : Nat
  ws : List Nm.T
  e : Int
  a : Int
  deriving DecidableEq
def Nm.parse (t : Nm.T) : Nm.PR :=
  if 20000 < t.length then ⟨0, [], 2, -1⟩ else
  match Nm.find t with
  | none => ⟨0, [], 5, 0⟩
  | some s => if (Nm.scan s (t.drop (Nm.title s).length) [] [] 0).2.1 = 0 then ⟨s, (Nm.scan s (t.drop (Nm.title s).length) [] [] 0).1, 0, 0⟩
      else ⟨0, [], (Nm.scan s (t.drop (Nm.title s).length) [] [] 0).2.1, ((t.length - (Nm.scan s (t.drop (Nm.title s).length) [] [] 0).2.2 : Nat) : Int)⟩
theorem Nm.find_some {t : Nm.T} {s : Nat} (h : Nm.find t = some s) : 1 ≤ s ∧ s ≤ 4 ∧ ∃ r, t = Nm.title s ++ r := by
  unfold Nm.find at h
  split at h
  · rename_i hp
    cases h
    exact ⟨by omega, by omega, by obtain ⟨r, hr⟩ := List.isPrefixOf_iff_prefix.1 hp; exact ⟨r, hr.symm⟩⟩
  · split at h
    · rename_i hp
      cases h
      exact ⟨by omega, by omega, by obtain ⟨r, hr⟩ := List.isPrefixOf_iff_prefix.1 hp; exact ⟨r, hr.symm⟩⟩
    · split at h
      · rename_i hp
        cases h
        exact ⟨by omega, by omega, by obtain ⟨r, hr⟩ := List.isPrefixOf_iff_prefix.1 hp; exact ⟨r, hr.symm⟩⟩
      · split at h
        · rename_i hp
          cases h
          exact ⟨by omega, by omega, by obtain ⟨r, hr⟩ := List.isPrefixOf_iff_prefix.1 hp; exact ⟨r, hr.symm⟩⟩
        · cases h
theorem Nm.find_title {s : Nat} (h1 : 1 ≤ s) (h4 : s ≤ 4) (r : Nm.T) : Nm.find (Nm.title s ++ r) = some s := by
  have : s = 1 ∨ s = 2 ∨ s = 3 ∨ s = 4 := by omega
  rcases this with rfl | rfl | rfl | rfl <;> simp [Nm.find, Nm.title, Nm.word, List.isPrefixOf]
theorem Nm.title_len {s : Nat} (h1 : 1 ≤ s) (h4 : s ≤ 4) : 6 ≤ (Nm.title s).length ∧ (Nm.title s).length ≤ 7 := by
  have : s = 1 ∨ s = 2 ∨ s = 3 ∨ s = 4 := by omega
  rcases this with rfl | rfl | rfl | rfl <;> decide
theorem Nm.parse_title {s : Nat} (h1 : 1 ≤ s) (h4 : s ≤ 4) {r : Nm.T} (hl : (Nm.title s ++ r).length ≤ 20000) :
    Nm.parse (Nm.title s ++ r) = if (Nm.scan s r [] [] 0).2.1 = 0 then ⟨s, (Nm.scan s r [] [] 0).1, 0, 0⟩ else ⟨0, [], (Nm.scan s r [] [] 0).2.1, (((Nm.title s ++ r).length - (Nm.scan s r [] [] 0).2.2 : Nat) : Int)⟩ := by
  unfold Nm.parse
  rw [if_neg (by omega), Nm.find_title h1 h4]
  simp only [List.drop_left]
theorem Nm.parse_none {t : Nm.T} (hl : t.length ≤ 20000) (h : Nm.find t = none) : Nm.parse t = ⟨0, [], 5, 0⟩ := by
  unfold Nm.parse
  rw [if_neg (by omega), h]
theorem Nm.parse_long {t : Nm.T} (hl : 20000 < t.length) : Nm.parse t = ⟨0, [], 2, -1⟩ := by
  unfold Nm.parse
  rw [if_pos hl]
end Go.Proofs.YtcjlnmfbanknhaaDoor
