/-
  Different texts, different digests, as far as the document promises it: mixing can be undone; hexadecimal digits tell the number; texts of at most 7 bytes; texts of one length that differ within one block. Nothing of the program is imported.
-/
import Derived.Test.YtdlmbpoihnifiaaDoorDgMath
namespace Go.Proofs.YtdlmbpoihnifiaaDoor.Dg

theorem xs_one (x d s : Nat) (hd : d = 2 ^ s) (h2 : x < 2 ^ (s + s)) : (x ^^^ x / d) ^^^ (x ^^^ x / d) / d = x := by
  subst hd
  apply Nat.eq_of_testBit_eq
  intro i
  simp only [Nat.testBit_xor, Nat.testBit_div_two_pow]
  have hf : x.testBit (i + s + s) = false := Nat.testBit_lt_two_pow (Nat.lt_of_lt_of_le h2 (Nat.pow_le_pow_right (by omega) (by omega)))
  rw [hf]
  cases x.testBit i <;> cases x.testBit (i + s) <;> rfl

theorem xs_two (x d s : Nat) (hd : d = 2 ^ s) (h3 : x < 2 ^ (s + s + s)) : (x ^^^ x / d) ^^^ (x ^^^ x / d) / d ^^^ (x ^^^ x / d) / d / d = x := by
  subst hd
  apply Nat.eq_of_testBit_eq
  intro i
  simp only [Nat.testBit_xor, Nat.testBit_div_two_pow]
  have hf : x.testBit (i + s + s + s) = false := Nat.testBit_lt_two_pow (Nat.lt_of_lt_of_le h3 (Nat.pow_le_pow_right (by omega) (by omega)))
  rw [hf]
  cases x.testBit i <;> cases x.testBit (i + s) <;> cases x.testBit (i + s + s) <;> rfl

theorem mul_back (x c v q : Nat) (h : c * v = 18446744073709551616 * q + 1) (hx : x < 18446744073709551616) : x * c % 18446744073709551616 * v % 18446744073709551616 = x := by
  rw [Nat.mod_mul_mod, Nat.mul_assoc, h, Nat.mul_add, Nat.mul_one, Nat.mul_left_comm, Nat.mul_add_mod, Nat.mod_eq_of_lt hx]

theorem inv1 : 2862933555777941757 * 16133697096952638549 = 18446744073709551616 * 2503948805982125087 + 1 := by decide
theorem inv2 : 3935559000370003845 * 13700500150304694605 = 18446744073709551616 * 2922961714037557739 + 1 := by decide

theorem xs_one_inj {x y d s : Nat} (hd : d = 2 ^ s) (hx : x < 2 ^ (s + s)) (hy : y < 2 ^ (s + s)) (h : x ^^^ x / d = y ^^^ y / d) : x = y := by
  rw [← xs_one x d s hd hx, ← xs_one y d s hd hy, h]
theorem xs_two_inj {x y d s : Nat} (hd : d = 2 ^ s) (hx : x < 2 ^ (s + s + s)) (hy : y < 2 ^ (s + s + s)) (h : x ^^^ x / d = y ^^^ y / d) : x = y := by
  rw [← xs_two x d s hd hx, ← xs_two y d s hd hy, h]
theorem mul_inj {x y c v q : Nat} (hc : c * v = 18446744073709551616 * q + 1) (hx : x < 18446744073709551616) (hy : y < 18446744073709551616)
    (h : x * c % 18446744073709551616 = y * c % 18446744073709551616) : x = y := by
  rw [← mul_back x c v q hc hx, ← mul_back y c v q hc hy, h]

theorem xs_lt {x d : Nat} (hx : x < 18446744073709551616) : x ^^^ x / d < 18446744073709551616 :=
  Nat.xor_lt_two_pow (n := 64) hx (Nat.lt_of_le_of_lt (Nat.div_le_self _ _) hx)

theorem mod_lt64 (x : Nat) : x % 18446744073709551616 < 18446744073709551616 := Nat.mod_lt _ (by decide)

theorem mix_inj {x y : Nat} (hx : x < 18446744073709551616) (hy : y < 18446744073709551616) (h : mix x = mix y) : x = y := by
  have key : ∀ c1 c2 d1 d2 : Nat, (∀ u v : Nat, u < 18446744073709551616 → v < 18446744073709551616 → u * c1 % 18446744073709551616 = v * c1 % 18446744073709551616 → u = v) →
      (∀ u v : Nat, u < 18446744073709551616 → v < 18446744073709551616 → u * c2 % 18446744073709551616 = v * c2 % 18446744073709551616 → u = v) →
      (∀ u v : Nat, u < 18446744073709551616 → v < 18446744073709551616 → u ^^^ u / d1 = v ^^^ v / d1 → u = v) →
      (∀ u v : Nat, u < 18446744073709551616 → v < 18446744073709551616 → u ^^^ u / d2 = v ^^^ v / d2 → u = v) →
      (let a := x * c1 % 18446744073709551616
       let b := a ^^^ a / d1
       let c := b * c2 % 18446744073709551616
       c ^^^ c / d2) =
      (let a := y * c1 % 18446744073709551616
       let b := a ^^^ a / d1
       let c := b * c2 % 18446744073709551616
       c ^^^ c / d2) → x = y := by
    intro c1 c2 d1 d2 k1 k2 k3 k4 h
    have h4 := k4 _ _ (mod_lt64 _) (mod_lt64 _) h
    have h3 := k2 _ _ (xs_lt (mod_lt64 _)) (xs_lt (mod_lt64 _)) h4
    have h2 := k3 _ _ (mod_lt64 _) (mod_lt64 _) h3
    exact k1 _ _ hx hy h2
  refine key 2862933555777941757 3935559000370003845 4294967296 536870912 (fun u v hu hv => mul_inj inv1 hu hv) (fun u v hu hv => mul_inj inv2 hu hv)
    (fun u v hu hv => xs_one_inj (s := 32) (by decide) hu hv) (fun u v hu hv => xs_two_inj (s := 29) (by decide) (Nat.lt_of_lt_of_le hu (by decide)) (Nat.lt_of_lt_of_le hv (by decide))) ?_
  exact h

theorem dig_inj {p q : Nat} (hp : p < 16) (hq : q < 16) (h : dig p = dig q) : p = q := by
  have : ∀ p q : Fin 16, dig p.1 = dig q.1 → p.1 = q.1 := by decide
  exact this ⟨p, hp⟩ ⟨q, hq⟩ h

theorem low_inj (n m : Nat) : ∀ k, low n k = low m k → n % 16 ^ k = m % 16 ^ k
  | 0, _ => by rw [Nat.pow_zero, Nat.mod_one, Nat.mod_one]
  | k + 1, h => by
    rw [low, low, List.cons.injEq] at h
    have h1 := dig_inj (Nat.mod_lt _ (by decide)) (Nat.mod_lt _ (by decide)) h.1
    rw [Nat.mod_pow_succ, Nat.mod_pow_succ, low_inj n m k h.2, h1]

theorem sum_state {l m : List UInt8} : sum l = sum m ↔ state l = state m := by
  refine ⟨fun h => ?_, fun h => by unfold sum; rw [h]⟩
  have := low_inj _ _ 16 h
  have e : (16 : Nat) ^ 16 = 18446744073709551616 := by decide
  rw [e, Nat.mod_eq_of_lt (state_lt l), Nat.mod_eq_of_lt (state_lt m)] at this
  exact this

theorem xor_cancel {a b c : Nat} (h : a ^^^ b = a ^^^ c) : b = c := by
  have := congrArg (a ^^^ ·) h
  simpa only [← Nat.xor_assoc, Nat.xor_self, Nat.zero_xor] using this

theorem num_inj {l m : List UInt8} : ∀ k, num l k = num m k → ∀ j, j < k → l.getD j 0 = m.getD j 0
  | 0, _, j, hj => absurd hj (by omega)
  | k + 1, h, j, hj => by
    rw [num, num] at h
    have h1 := (l.getD k 0).toNat_lt
    have h2 := (m.getD k 0).toNat_lt
    by_cases e : j = k
    · subst e
      exact UInt8.toNat_inj.1 (by omega)
    · exact num_inj k (by omega) j (by omega)

theorem ext_getD {l m : List UInt8} (hl : l.length = m.length) (h : ∀ j, j < l.length → l.getD j 0 = m.getD j 0) : l = m := by
  apply List.ext_getElem hl
  intro j h1 h2
  have := h j h1
  rw [List.getD_eq_getElem?_getD, List.getD_eq_getElem?_getD, List.getElem?_eq_getElem h1, List.getElem?_eq_getElem h2] at this
  exact this

/-- P1.3: texts of at most 7 bytes. -/
theorem sum_short {l m : List UInt8} (hl : l.length ≤ 7) (hm : m.length ≤ 7) : sum l = sum m ↔ l = m := by
  refine ⟨fun h => ?_, fun h => by rw [h]⟩
  have hs := sum_state.1 h
  have one : ∀ x : List UInt8, x.length ≤ 7 → state x = mix ((2611923443488327891 ^^^ x.length) ^^^ (num x 7 * 256)) ∧ (2611923443488327891 ^^^ x.length) ^^^ (num x 7 * 256) < 18446744073709551616 := by
    intro x hx
    have e0 : x.length / 8 + 1 = 0 + 1 := by omega
    have e1 : (x.getD 7 0).toNat = 0 := by
      rw [List.getD_eq_getElem?_getD, List.getElem?_eq_none (by omega)]
      rfl
    have e2 : num x 8 = num x 7 * 256 := by
      show num x 7 * 256 + (x.getD 7 0).toNat = _
      rw [e1, Nat.add_zero]
    have hn := num_lt x 8
    refine ⟨?_, ?_⟩
    · unfold state
      rw [e0]
      show mix (_ ^^^ num (x.drop (8 * 0)) 8) = _
      rw [Nat.mul_zero, List.drop_zero, e2]
      rfl
    · rw [← e2]
      exact Nat.xor_lt_two_pow (n := 64) (start_lt x (by omega)) hn
  obtain ⟨e1, b1⟩ := one l hl
  obtain ⟨e2, b2⟩ := one m hm
  rw [e1, e2] at hs
  have hx := mix_inj b1 b2 hs
  rw [Nat.xor_assoc, Nat.xor_assoc] at hx
  have hx2 := xor_cancel hx
  have hlen : l.length = m.length := by
    have := congrArg (· % 2 ^ 8) hx2
    simp only [Nat.xor_mod_two_pow] at this
    have p256 : (2 : Nat) ^ 8 = 256 := by decide
    rw [p256, Nat.mul_mod_left, Nat.mul_mod_left, Nat.xor_zero, Nat.xor_zero, Nat.mod_eq_of_lt (by omega), Nat.mod_eq_of_lt (by omega)] at this
    exact this
  rw [hlen] at hx2
  have hn := xor_cancel hx2
  have h7 : num l 7 = num m 7 := by omega
  exact ext_getD hlen fun j hj => num_inj 7 h7 j (by omega)

/-- Two lists whose blocks agree but for number p. -/
theorem absorb_other (st : Nat) (hst : st < 18446744073709551616) (L M : List UInt8) (p : Nat) (h : ∀ j, j ≠ p → num (L.drop (8 * j)) 8 = num (M.drop (8 * j)) 8) :
    ∀ k, (k ≤ p → absorb st L k = absorb st M k) ∧ (p < k → (absorb st L k = absorb st M k ↔ num (L.drop (8 * p)) 8 = num (M.drop (8 * p)) 8))
  | 0 => ⟨fun _ => rfl, fun h => absurd h (by omega)⟩
  | k + 1 => by
    obtain ⟨i1, i2⟩ := absorb_other st hst L M p h k
    have hb : ∀ x y : Nat, x < 18446744073709551616 → y < 18446744073709551616 → x ^^^ y < 18446744073709551616 := fun x y hx hy => Nat.xor_lt_two_pow (n := 64) hx hy
    refine ⟨fun hk => ?_, fun hk => ?_⟩
    · show mix _ = mix _
      rw [i1 (by omega), h k (by omega)]
    · show mix _ = mix _ ↔ _
      by_cases e : k = p
      · subst e
        rw [i1 (Nat.le_refl _)]
        refine ⟨fun hm => ?_, fun hm => by rw [hm]⟩
        exact xor_cancel (mix_inj (hb _ _ (absorb_lt st hst _ _) (num_lt _ 8)) (hb _ _ (absorb_lt st hst _ _) (num_lt _ 8)) hm)
      · rw [← i2 (by omega), h k e]
        refine ⟨fun hm => ?_, fun hm => by rw [hm]⟩
        have := mix_inj (hb _ _ (absorb_lt st hst _ _) (num_lt _ 8)) (hb _ _ (absorb_lt st hst _ _) (num_lt _ 8)) hm
        rw [Nat.xor_comm, Nat.xor_comm (absorb st M k)] at this
        exact xor_cancel this

theorem getD_mid (P X R : List UInt8) (p j : Nat) (hP : P.length = 8 * p) (hj : j < X.length) : ((P ++ X ++ R).drop (8 * p)).getD j 0 = X.getD j 0 := by
  rw [List.getD_eq_getElem?_getD, List.getD_eq_getElem?_getD, List.getElem?_drop, List.append_assoc, List.getElem?_append_right (by omega), show 8 * p + j - P.length = j by omega, List.getElem?_append_left hj]

/-- P1.4: texts of one length that differ within one block alone. -/
theorem sum_block (P A B R : List UInt8) (p : Nat) (hP : P.length = 8 * p) (hAB : A.length = B.length) (hA : A.length ≤ 8) (h64 : (P ++ B ++ R).length < 18446744073709551616) : sum (P ++ A ++ R) = sum (P ++ B ++ R) ↔ A = B := by
  refine ⟨fun h => ?_, fun h => by rw [h]⟩
  have hs := sum_state.1 h
  have hlen : (P ++ A ++ R).length = (P ++ B ++ R).length := by simp [hAB]
  have hblocks : ∀ j, j ≠ p → num ((P ++ A ++ R).drop (8 * j)) 8 = num ((P ++ B ++ R).drop (8 * j)) 8 := by
    intro j hj
    apply num_congr
    intro i hi
    simp only [List.getD_eq_getElem?_getD, List.getElem?_drop]
    rcases Nat.lt_or_gt_of_ne hj with h1 | h1
    · rw [List.append_assoc, List.append_assoc, List.getElem?_append_left (by omega), List.getElem?_append_left (by omega)]
    · rw [List.getElem?_append_right (by simp; omega), List.getElem?_append_right (by simp; omega)]
      simp [hAB]
  unfold state at hs
  rw [hlen] at hs
  by_cases h0 : A = []
  · subst h0
    have : B = [] := List.eq_nil_of_length_eq_zero (by simpa using hAB.symm)
    rw [this]
  · have hpos : 0 < A.length := List.length_pos_iff.2 h0
    have hk := (absorb_other _ (start_lt _ h64) (P ++ A ++ R) (P ++ B ++ R) p hblocks ((P ++ B ++ R).length / 8 + 1)).2 (by simp; omega)
    have hn := num_inj 8 (hk.1 hs)
    refine ext_getD hAB fun j hj => ?_
    have := hn j (by omega)
    rw [getD_mid P A R p j hP hj, getD_mid P B R p j hP (by omega)] at this
    exact this
end Go.Proofs.YtdlmbpoihnifiaaDoor.Dg
