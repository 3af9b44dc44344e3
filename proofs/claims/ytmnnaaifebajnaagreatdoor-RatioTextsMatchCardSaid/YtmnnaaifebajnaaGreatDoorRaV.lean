/- Package ratio: the sum of two numbers, not reduced. -/
import Derived.Test.YtmnnaaifebajnaaGreatDoorRaS
set_option linter.unusedSimpArgs false
set_option linter.unusedVariables false
namespace Go.Proofs.YtmnnaaifebajnaaGreatDoor
open Go.RowKit
open Ra (Fit)
set_option maxRecDepth 100000

/- The sum of two rational numbers, not reduced. -/
def sumT (p q : Rat) : Bool × Nat × Nat :=
  if p = -q then (false, 0, 1)
  else if (decide (p < 0) == decide (q < 0)) = true then (decide (p < 0), p.num.natAbs * q.den + q.num.natAbs * p.den, p.den * q.den)
  else if q.num.natAbs * p.den < p.num.natAbs * q.den then (decide (p < 0), p.num.natAbs * q.den - q.num.natAbs * p.den, p.den * q.den)
  else (decide (q < 0), q.num.natAbs * p.den - p.num.natAbs * q.den, p.den * q.den)

theorem sumT_mk (p q : Rat) : Ra.mk (sumT p q).1 (sumT p q).2.1 (sumT p q).2.2 = p + q ∧ (sumT p q).2.2 ≠ 0 := by
  have hd : p.den ≠ 0 := p.den_nz
  have hd' : q.den ≠ 0 := q.den_nz
  have hm : p.den * q.den ≠ 0 := Nat.mul_ne_zero hd hd'
  have ep := Ra.mk_self p
  have eq := Ra.mk_self q
  unfold sumT
  by_cases h0 : p = -q
  · rw [if_pos h0]
    refine ⟨?_, by simp⟩
    rw [(Ra.mk_zero false 0 1 (by omega)).2 rfl, h0]
    grind
  · rw [if_neg h0]
    by_cases h1 : (decide (p < 0) == decide (q < 0)) = true
    · rw [if_pos h1]
      refine ⟨?_, hm⟩
      have h2 : decide (p < 0) = decide (q < 0) := by simpa using h1
      have := Ra.mk_add_same (decide (p < 0)) p.num.natAbs p.den q.num.natAbs q.den hd hd'
      rw [ep] at this
      rw [h2, eq] at this
      rw [h2]
      exact this.symm
    · rw [if_neg h1]
      have h2 : decide (q < 0) = !decide (p < 0) := by
        cases k1 : decide (p < 0) <;> cases k2 : decide (q < 0) <;> simp_all
      by_cases h3 : q.num.natAbs * p.den < p.num.natAbs * q.den
      · rw [if_pos h3]
        refine ⟨?_, hm⟩
        have := Ra.mk_add_ge (decide (p < 0)) p.num.natAbs p.den q.num.natAbs q.den hd hd' (by omega)
        rw [ep, ← h2, eq] at this
        exact this.symm
      · rw [if_neg h3]
        refine ⟨?_, hm⟩
        have := Ra.mk_add_le (decide (p < 0)) p.num.natAbs p.den q.num.natAbs q.den hd hd' (by omega)
        rw [ep, ← h2, eq] at this
        exact this.symm

theorem two_lim : 2 * (L140 * L140) ≤ LIM := by
  have h := pow_mul_lim 141 140 (by omega)
  rw [Nat.pow_succ, Nat.mul_right_comm] at h
  unfold L140
  generalize (10 : Nat) ^ 140 * 10 ^ 140 = P at *
  omega
theorem sumT_lt (p q : Rat) (hp : Fit L140 p) (hq : Fit L140 q) : (sumT p q).2.1 < LIM ∧ (sumT p q).2.2 < LIM := by
  have h1 : p.num.natAbs * q.den < L140 * L140 := Ra.mul_lt hp.1 hq.2
  have h2 : q.num.natAbs * p.den < L140 * L140 := Ra.mul_lt hq.1 hp.2
  have h3 : p.den * q.den < L140 * L140 := Ra.mul_lt hp.2 hq.2
  have h4 := two_lim
  generalize L140 * L140 = P at *
  unfold sumT
  split
  · dsimp only; omega
  · split
    · dsimp only; omega
    · split
      · dsimp only; omega
      · dsimp only; omega

def sumR (p q : Rat) : R3 := ((sumT p q).1, tx (sumT p q).2.1, tx (sumT p q).2.2)

theorem add_tx (a b : Nat) (w : World) (hp : Pow w.heap.size w) (ha : a < LIM) (hb : b < LIM) (h : a + b < LIM) :
    Calls Tryz.prog 68 #[.string (tx a), .string (tx b)] w fun e w' => e = .returned (.tuple #[.string (tx (a + b)), .int .i64 0]) ∧ Below w.heap.size w w' := by
  have := addF (tx a) (tx b) w (tx_len ha) (tx_len hb) hp
  rw [opF_ok _ _ _ (isB_txl ha) (isB_txl hb) (by rw [nv_tx, nv_tx]; exact h), nv_tx, nv_tx] at this
  exact this
theorem sub_tx (a b : Nat) (w : World) (hp : Pow w.heap.size w) (ha : a < LIM) (hb : b < LIM) (h : b ≤ a) :
    Calls Tryz.prog 55 #[.string (tx a), .string (tx b)] w fun e w' => e = .returned (.tuple #[.string (tx (a - b)), .int .i64 0]) ∧ Below w.heap.size w w' := by
  have := subtractF (tx a) (tx b) w (tx_len ha) (tx_len hb) hp
  rw [sub_spec _ _ (isB_txl ha) (isB_txl hb), nv_tx, nv_tx, if_neg (by omega)] at this
  exact this
theorem cmp_tx (a b : Nat) (w : World) (hp : Pow w.heap.size w) (ha : a < LIM) (hb : b < LIM) :
    Calls Tryz.prog 67 #[.string (tx a), .string (tx b)] w fun e w' => e = .returned (.tuple #[.int .i64 (cmpN a b), .int .i64 0]) ∧ Below w.heap.size w w' := by
  have := compareF (tx a) (tx b) w (tx_len ha) (tx_len hb)
  obtain ⟨h1, h2⟩ := cmp_make (s := tx a) (t := tx b) (c := (cmpF (tx a) (tx b)).1) (e := (cmpF (tx a) (tx b)).2) rfl (isB_txl ha) (isB_txl hb)
  rw [h1, h2, nv_tx, nv_tx] at this
  exact this

theorem toList_eq {x y : ByteArray} (h : x.toList = y.toList) : x = y := by
  rcases Decidable.em (x = y) with e | e
  · exact e
  · have := bytes_ne e
    rw [h] at this
    simp at this
theorem cmpN_pos {m n : Nat} (h : n < m) : 0 < cmpN m n := by
  unfold cmpN
  rw [if_neg (by omega), if_pos h]
  omega
theorem cmpN_not {m n : Nat} (h : ¬ n < m) : ¬ 0 < cmpN m n := by
  unfold cmpN
  rw [if_neg h]
  split <;> omega
theorem sum_rf (p q : Rat) (w : World) (hP : Pw w.heap.size w) (hp : Fit L140 p) (hq : Fit L140 q) :
    Calls Tryz.prog 42 #[rV (rf p), rV (rf q)] w fun e w' => e = .returned (.tuple #[rV (sumR p q), .int .i64 0]) ∧ Below w.heap.size w w' := by
  have OP := Lib.hid (fun v (h : Below w.heap.size w v) => opposite_rf q v (hP.bt h).2)
  by_cases h0 : p = -q
  · have : sumR p q = (false, ⟨#[48]⟩, ⟨#[49]⟩) := by
      unfold sumR sumT
      rw [if_pos h0, tx_zero, tx_one]
    rw [this]
    rw [← h0] at OP
    exact sum_same _ _ _ _ _ _ w hP.2 OP
  · have hne : rf p ≠ rf (-q) := fun h => h0 (rf_inj h)
    have hq2 : ((rf p).1 == (rf (-q)).1 && ((rf p).2.1.toList == (rf (-q)).2.1.toList && (rf p).2.2.toList == (rf (-q)).2.2.toList)) = false := by
      rw [← Bool.not_eq_true]
      intro hh
      simp only [Bool.and_eq_true, beq_iff_eq] at hh
      apply hne
      refine Prod.ext hh.1 (Prod.ext ?_ ?_)
      · exact toList_eq hh.2.1
      · exact toList_eq hh.2.2
    have la : p.num.natAbs < LIM := Nat.lt_of_lt_of_le hp.1 (lim_pow (by omega))
    have M1 := Lib.hid (fun v (h : Below w.heap.size w v) => mul_tx p.num.natAbs q.den v (hP.bt h).1 hp.1 hq.2)
    have M2 := Lib.hid (fun v (h : Below w.heap.size w v) => mul_tx q.num.natAbs p.den v (hP.bt h).1 hq.1 hp.2)
    have M3 := Lib.hid (fun v (h : Below w.heap.size w v) => mul_tx p.den q.den v (hP.bt h).1 hp.2 hq.2)
    have l1 : p.num.natAbs * q.den < LIM := mul_lim hp.1 hq.2
    have l2 : q.num.natAbs * p.den < LIM := mul_lim hq.1 hp.2
    have CM := Lib.hid (fun v (h : Below w.heap.size w v) => cmp_tx (p.num.natAbs * q.den) (q.num.natAbs * p.den) v (hP.bt h).1 l1 l2)
    obtain ⟨t1, _⟩ := sumT_lt p q hp hq
    unfold sumR
    unfold sumT at t1 ⊢
    rw [if_neg h0] at t1 ⊢
    by_cases h1 : (decide (p < 0) == decide (q < 0)) = true
    · rw [if_pos h1] at t1 ⊢
      refine sum_run (decide (p < 0)) (decide (q < 0)) _ _ _ _ _ _ _ _ _ _ _ _ _ w OP hq2 M1 M2 M3 CM ?_
      exact .inl ⟨h1, rfl, Lib.hid (fun v h => add_tx _ _ v (hP.bt h).1 l1 l2 t1)⟩
    · rw [if_neg h1] at t1 ⊢
      have h1' : (decide (p < 0) == decide (q < 0)) = false := by simpa using h1
      by_cases h3 : q.num.natAbs * p.den < p.num.natAbs * q.den
      · rw [if_pos h3]
        refine sum_run (decide (p < 0)) (decide (q < 0)) _ _ _ _ _ _ _ _ _ _ _ _ _ w OP hq2 M1 M2 M3 CM ?_
        exact .inr (.inl ⟨h1', cmpN_pos h3, rfl, Lib.hid (fun v h => sub_tx _ _ v (hP.bt h).1 l1 l2 (by omega))⟩)
      · rw [if_neg h3]
        refine sum_run (decide (p < 0)) (decide (q < 0)) _ _ _ _ _ _ _ _ _ _ _ _ _ w OP hq2 M1 M2 M3 CM ?_
        exact .inr (.inr ⟨h1', cmpN_not h3, rfl, Lib.hid (fun v h => sub_tx _ _ v (hP.bt h).1 l2 l1 (by omega))⟩)
end Go.Proofs.YtmnnaaifebajnaaGreatDoor
