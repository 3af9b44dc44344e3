/- P1.6: different lists have different joined texts, and what follows for their digests. -/
import Derived.Test.YtdlmbpoihnifiaaDoorDgMath
import Derived.Test.YtdlmbpoihnifiaaDoorDgInj
import Derived.Test.YtdlmbpoihnifiaaDoorStrs
import Derived.Lib.ItoaNum
namespace Go.Proofs.YtdlmbpoihnifiaaDoor

theorem dec_digit : ∀ (u : Nat), ∀ c ∈ Lib.decDigits u, 48 ≤ c.toNat ∧ c.toNat ≤ 57 := by
  intro u
  induction u using Nat.strongRecOn with
  | _ u ih =>
    intro c hc
    have one : ∀ d : Nat, d < 10 → 48 ≤ (UInt8.ofNat (48 + d)).toNat ∧ (UInt8.ofNat (48 + d)).toNat ≤ 57 := fun d hd => by
      rw [UInt8.toNat_ofNat']
      omega
    rw [Lib.decDigits] at hc
    by_cases h : u < 10
    · rw [dif_pos h, List.mem_singleton] at hc
      subst hc
      exact one u h
    · rw [dif_neg h, List.mem_append, List.mem_singleton] at hc
      rcases hc with hc | rfl
      · exact ih (u / 10) (by omega) c hc
      · exact one _ (by omega)

def val (l : List UInt8) : Nat := l.foldl (fun a c => a * 10 + (c.toNat - 48)) 0
theorem val_snoc (l : List UInt8) (c : UInt8) : val (l ++ [c]) = val l * 10 + (c.toNat - 48) := by
  unfold val
  rw [List.foldl_append]
  rfl
theorem val_dec (u : Nat) : val (Lib.decDigits u) = u := by
  induction u using Nat.strongRecOn with
  | _ u ih =>
    have one : ∀ d : Nat, d < 10 → (UInt8.ofNat (48 + d)).toNat - 48 = d := fun d hd => by
      rw [UInt8.toNat_ofNat']
      omega
    rw [Lib.decDigits]
    by_cases h : u < 10
    · rw [dif_pos h]
      have := val_snoc [] (UInt8.ofNat (48 + u))
      rw [List.nil_append, one u h] at this
      rw [this]
      show 0 * 10 + u = u
      omega
    · rw [dif_neg h, val_snoc, ih (u / 10) (by omega), one _ (by omega)]
      omega
theorem dec_inj {u v : Nat} (h : Lib.decDigits u = Lib.decDigits v) : u = v := by
  rw [← val_dec u, ← val_dec v, h]

theorem split58 : ∀ (d e r t : List UInt8), (∀ c ∈ d, c ≠ 58) → (∀ c ∈ e, c ≠ 58) → d ++ 58 :: r = e ++ 58 :: t → d = e ∧ r = t
  | [], [], r, t, _, _, h => ⟨rfl, by simpa using h⟩
  | [], c :: e, r, t, _, he, h => by
    rw [List.nil_append, List.cons_append, List.cons.injEq] at h
    exact absurd h.1.symm (he c (List.mem_cons_self ..))
  | c :: d, [], r, t, hd, _, h => by
    rw [List.nil_append, List.cons_append, List.cons.injEq] at h
    exact absurd h.1 (hd c (List.mem_cons_self ..))
  | c :: d, c' :: e, r, t, hd, he, h => by
    rw [List.cons_append, List.cons_append, List.cons.injEq] at h
    obtain ⟨h1, h2⟩ := split58 d e r t (fun x hx => hd x (List.mem_cons_of_mem _ hx)) (fun x hx => he x (List.mem_cons_of_mem _ hx)) h.2
    exact ⟨by rw [h.1, h1], h2⟩

theorem dec_no58 (u : Nat) : ∀ c ∈ Lib.decDigits u, c ≠ 58 := by
  intro c hc e
  have := dec_digit u c hc
  rw [e] at this
  exact absurd this.2 (by decide)

theorem joined_cons (s : ByteArray) (ss : List ByteArray) : joined (s :: ss) = Lib.decDigits s.size ++ 58 :: (s.data.toList ++ joined ss) := by
  unfold joined
  rw [List.map_cons, List.flatten_cons]
  unfold part
  rw [List.append_assoc, List.cons_append]

theorem joined_inj : ∀ (ss tt : List ByteArray), joined ss = joined tt → ss = tt
  | [], [], _ => rfl
  | [], t :: tt, h => by
    rw [joined_cons] at h
    have := congrArg List.length h
    simp [joined] at this
  | s :: ss, [], h => by
    rw [joined_cons] at h
    have := congrArg List.length h
    simp [joined] at this
  | s :: ss, t :: tt, h => by
    rw [joined_cons, joined_cons] at h
    obtain ⟨h1, h2⟩ := split58 _ _ _ _ (dec_no58 _) (dec_no58 _) h
    have hsz := dec_inj h1
    have hl : s.data.toList.length = t.data.toList.length := by simpa using hsz
    obtain ⟨h3, h4⟩ := List.append_inj h2 hl
    rw [joined_inj ss tt h4, ByteArray.ext (Array.toList_inj.1 h3)]

/-- Two texts of one length n of at most 9 bytes that agree in the first 6: their lists of one element. -/
theorem sum_single (one two : ByteArray) (hl : one.size = two.size) (h9 : one.size ≤ 9) (h6 : one.data.toList.take 6 = two.data.toList.take 6) :
    Dg.sum (joined [one]) = Dg.sum (joined [two]) ↔ one = two := by
  refine ⟨fun h => ?_, fun h => by rw [h]⟩
  have e : ∀ x : ByteArray, x.size ≤ 9 → joined [x] = (UInt8.ofNat (48 + x.size) :: 58 :: x.data.toList.take 6) ++ x.data.toList.drop 6 ++ [] := by
    intro x hx
    rw [joined_cons, Lib.decDigits_one (by omega)]
    have : joined [] = [] := rfl
    rw [this]
    simp only [List.append_nil, List.cons_append, List.nil_append, List.take_append_drop]
  rw [e one h9, e two (by omega), hl, h6] at h
  apply ByteArray.ext
  apply Array.toList_inj.1
  have hlen : one.data.toList.length = two.data.toList.length := by simpa using hl
  have hl9 : one.data.toList.length ≤ 9 := by simpa using h9
  by_cases hs : two.size < 6
  · have h1 : one.data.toList.length ≤ 6 := by simp; omega
    have h2 : two.data.toList.length ≤ 6 := by simp; omega
    rw [List.take_of_length_le h1, List.take_of_length_le h2] at h6
    exact h6
  · have h2 : two.data.toList.length = two.size := by simp
    have hd := (Dg.sum_block _ _ _ _ 1 (by simp; omega) (by simp; omega) (by rw [List.length_drop]; omega) (by simp; omega)).1 h
    rw [← List.take_append_drop 6 one.data.toList, ← List.take_append_drop 6 two.data.toList, h6, hd]
end Go.Proofs.YtdlmbpoihnifiaaDoor
