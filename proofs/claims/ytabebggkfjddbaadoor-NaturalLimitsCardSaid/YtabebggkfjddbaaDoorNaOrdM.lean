/- NaturalOrder walked: mathematics. -/
import Derived.Test.YtabebggkfjddbaaDoorNaDivsW
set_option linter.unusedSimpArgs false
set_option linter.unusedVariables false
namespace Go.Proofs.YtabebggkfjddbaaDoor
open Go.RowKit
set_option maxRecDepth 100000

theorem sub_make {s t x : ByteArray} {e : Int} (h : subF s t = (x, e)) (h1 : isB s = true) (h2 : isB t = true) : e = if nv s < nv t then 10 else 0 := by
  rw [sub_spec s t h1 h2] at h
  split at h
  · rename_i hl; rw [if_pos hl]; exact (congrArg Prod.snd h).symm
  · rename_i hl; rw [if_neg hl]; exact (congrArg Prod.snd h).symm

theorem cmpN_cases (m n : Nat) : (cmpN m n = -1 ∧ m < n) ∨ (cmpN m n = 0 ∧ m = n) ∨ (cmpN m n = 1 ∧ n < m) := by
  unfold cmpN
  rcases Nat.lt_trichotomy m n with h | h | h
  · exact .inl ⟨if_pos h, h⟩
  · exact .inr (.inl ⟨by rw [if_neg (by omega), if_neg (by omega)], h⟩)
  · exact .inr (.inr ⟨by rw [if_neg (by omega), if_pos h], h⟩)

theorem cmpN_le {m n : Nat} (h : m ≤ n) : cmpN m n ≤ 0 := by
  rcases cmpN_cases m n with ⟨g, _⟩ | ⟨g, _⟩ | ⟨_, g⟩
  · rw [g]; omega
  · rw [g]; omega
  · omega

theorem cmpN_anti (m n : Nat) : cmpN n m = -cmpN m n := by
  rcases cmpN_cases m n with ⟨h, h1⟩ | ⟨h, h1⟩ | ⟨h, h1⟩ <;> rcases cmpN_cases n m with ⟨g, g1⟩ | ⟨g, g1⟩ | ⟨g, g1⟩ <;> rw [h, g] <;> omega

theorem cmpN_add (m n k : Nat) : cmpN (m + k) (n + k) = cmpN m n := by
  rcases cmpN_cases m n with ⟨h, h1⟩ | ⟨h, h1⟩ | ⟨h, h1⟩ <;> rcases cmpN_cases (m + k) (n + k) with ⟨g, g1⟩ | ⟨g, g1⟩ | ⟨g, g1⟩ <;> rw [h, g] <;> omega

theorem cmpN_mul (m n k : Nat) (hk : 0 < k) : cmpN (m * k) (n * k) = cmpN m n := by
  rcases cmpN_cases m n with ⟨h, h1⟩ | ⟨h, h1⟩ | ⟨h, h1⟩
  · have := Nat.mul_lt_mul_of_pos_right h1 hk
    rw [h]
    unfold cmpN
    rw [if_pos this]
  · rw [h, h1]
    unfold cmpN
    rw [if_neg (by omega), if_neg (by omega)]
  · have := Nat.mul_lt_mul_of_pos_right h1 hk
    rw [h]
    unfold cmpN
    rw [if_neg (by omega), if_pos this]

end Go.Proofs.YtabebggkfjddbaaDoor
