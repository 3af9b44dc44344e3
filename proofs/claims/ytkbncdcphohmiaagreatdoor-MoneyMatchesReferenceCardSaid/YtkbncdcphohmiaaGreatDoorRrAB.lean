import Derived.Test.YtkbncdcphohmiaaGreatDoorNrG
import Derived.Test.YtkbncdcphohmiaaGreatDoorRaAF
import Derived.Test.YtkbncdcphohmiaaGreatDoorRaO
import Derived.Test.YtkbncdcphohmiaaGreatDoorRaOf
/- The reference of layer 5: Valid, reduce, size, Of, Make, long, Neg. Printed by gen/rr_a.py. -/
set_option linter.unusedSimpArgs false
set_option linter.unusedVariables false
namespace Go.Proofs.YtkbncdcphohmiaaGreatDoor
open Go.RowKit
open Ra (Fit)
set_option maxRecDepth 100000

theorem tx48 (m : Nat) : ((tx m).toList == [48]) = decide (m = 0) := by
  by_cases h : m = 0
  · subst h
    rw [tx_zero, decide_eq_true rfl, ByteArray.toList_eq]
    rfl
  · rw [decide_eq_false h]
    exact ne48 fun e => h (tx_inj (e.trans tx_zero.symm))
theorem ne49' {b : ByteArray} (h : b ≠ ⟨#[49]⟩) : (b.toList == [49]) = false := by
  rw [beq_eq_false_iff_ne]
  intro e
  apply h
  rw [ByteArray.toList_eq] at e
  exact ByteArray.ext (Array.toList_inj.1 e)
theorem tx49 (m : Nat) : ((tx m).toList == [49]) = decide (m = 1) := by
  by_cases h : m = 1
  · subst h
    rw [tx_one, decide_eq_true rfl, ByteArray.toList_eq]
    rfl
  · rw [decide_eq_false h]
    exact ne49' fun e => h (tx_inj (e.trans tx_one.symm))

set_option maxHeartbeats 1000000 in
theorem rvalid_any (r : R3) (w : World) (hn : r.2.1.size ≤ 1000) (hd : r.2.2.size ≤ 1000) :
    Calls Tryz.prog 49 #[rV r] w fun e w' => e = .returned (.bool (vR r)) ∧ Below w.heap.size w w' := by
  obtain ⟨s, n, d⟩ := r
  simp only at hn hd
  have I1 := Lib.hid (fun w' => ris_any n w' hn)
  have I2 := Lib.hid (fun w' => ris_any d w' hd)
  have hb0 := al w (.cells #[.bool s, .string n, .string d] 32)
  have A0 := At.new w s n d
  obtain ⟨c0, c1, c2, _, _, _⟩ := A0.cells
  have GC := Lib.hid (fun w' => rgcd_any n d w' hn hd)
  clear hn hd
  unfold rV vR
  simp only
  rcases Bool.eq_false_or_eq_true (isB n) with h1 | h1
  rotate_left
  · rw [h1] at I1 ⊢
    simp only [Bool.false_and]
    go_enter Tryz.func49, Tryz.ntmps49
    go_wp2_with fail
    refine (I1.out _).mono ?_
    rintro e w1 ⟨rfl, rfl⟩
    go_wp2_with fail
    go_ret
    exact ⟨rfl, hb0⟩
  rcases Bool.eq_false_or_eq_true (isB d) with h2 | h2
  rotate_left
  · rw [h1] at I1 ⊢
    rw [h2] at I2 ⊢
    simp only [Bool.true_and, Bool.false_and]
    go_enter Tryz.func49, Tryz.ntmps49
    go_wp2_with fail
    refine (I1.out _).mono ?_
    rintro e w1 ⟨rfl, rfl⟩
    go_wp2_with fail
    refine (I2.out _).mono ?_
    rintro e w1 ⟨rfl, rfl⟩
    go_wp2_with fail
    go_ret
    exact ⟨rfl, hb0⟩
  obtain ⟨a, ha, rfl⟩ := isB_tx h1
  obtain ⟨b, hb, rfl⟩ := isB_tx h2
  rw [h1] at I1
  rw [h2] at I2
  rw [h1, h2, nv_tx, nv_tx, Bool.and_self, Bool.true_and]
  have hg := rgcd_lim ha hb
  have ho : opF Nat.gcd (tx a) (tx b) = (tx (Nat.gcd a b), 0) := by rw [opF_ok _ _ _ h1 h2 (by rw [nv_tx, nv_tx]; exact hg), nv_tx, nv_tx]
  rw [ho] at GC
  dsimp only at GC
  have z1 := tx48 a
  have z2 := tx48 b
  have z3 := tx49 (Nat.gcd a b)
  clear ho hg h1 h2 ha hb
  generalize tx (Nat.gcd a b) = g at *
  generalize tx a = n at *
  generalize tx b = d at *
  by_cases hz : b = 0
  · rw [decide_eq_true hz] at z2
    rw [decide_eq_false (show ¬ b ≠ 0 from fun h => h hz)]
    simp only [Bool.false_and]
    clear hz
    go_enter Tryz.func49, Tryz.ntmps49
    go_wp2_with fail
    refine (I1.out _).mono ?_
    rintro e w1 ⟨rfl, rfl⟩
    go_wp2_with fail
    refine (I2.out _).mono ?_
    rintro e w1 ⟨rfl, rfl⟩
    go_wp2_with fail
    go_ret
    exact ⟨rfl, hb0⟩
  · rw [decide_eq_false hz] at z2
    rw [decide_eq_true (show b ≠ 0 from hz), Bool.true_and]
    clear hz
    rcases Bool.eq_false_or_eq_true (s && decide (a = 0)) with h3 | h3
    · obtain ⟨rfl, h4⟩ := Bool.and_eq_true_iff.1 h3
      rw [h4] at z1
      rw [h3, Bool.not_true, Bool.and_false]
      clear h3 h4
      go_enter Tryz.func49, Tryz.ntmps49
      go_wp2_with fail
      refine (I1.out _).mono ?_
      rintro e w1 ⟨rfl, rfl⟩
      go_wp2_with fail
      refine (I2.out _).mono ?_
      rintro e w1 ⟨rfl, rfl⟩
      go_wp2_with fail
      go_ret
      exact ⟨rfl, hb0⟩
    · rw [h3, Bool.not_false, Bool.and_true]
      rw [← z3]
      have hs : s = false ∨ (s = true ∧ (n.toList == [48]) = false) := by
        cases s
        · exact .inl rfl
        · exact .inr ⟨rfl, by rw [z1]; simpa using h3⟩
      clear h3 z1 z3
      cases hg1 : (g.toList == [49])
      all_goals rcases hs with rfl | ⟨rfl, z1⟩
      all_goals
        go_enter Tryz.func49, Tryz.ntmps49
        go_wp2_with fail
        refine (I1.out _).mono ?_
        rintro e w1 ⟨rfl, rfl⟩
        go_wp2_with fail
        refine (I2.out _).mono ?_
        rintro e w1 ⟨rfl, rfl⟩
        go_wp2_with fail
        refine (GC.out _).mono ?_
        rintro e w1 ⟨rfl, hb1⟩
        have hb2 := Nb hb0 hb1
        go_wp2_with fail
        go_ret
        exact ⟨rfl, hb2⟩

end Go.Proofs.YtkbncdcphohmiaaGreatDoor

/- The reference of layer 5: reduce, size, Of, Make, long, Neg. -/
set_option linter.unusedSimpArgs false
set_option linter.unusedVariables false
namespace Go.Proofs.YtkbncdcphohmiaaGreatDoor
open Go.RowKit
open Ra (Fit)
set_option maxRecDepth 100000

theorem rf_mk (s : Bool) (a b : Nat) (hb0 : b ≠ 0) : rf (Ra.mk s a b) = (s && !decide (a / Nat.gcd a b = 0), tx (a / Nat.gcd a b), tx (b / Nat.gcd a b)) := by
  unfold rf
  rw [Ra.mk_abs _ _ _ hb0, Ra.mk_den _ _ _ hb0]
  congr 1
  have h1 := Ra.mk_neg s a b hb0
  have hg0 : 0 < Nat.gcd a b := Nat.pos_of_ne_zero fun e => hb0 (Nat.eq_zero_of_gcd_eq_zero_right e)
  have h2 : a / Nat.gcd a b = 0 ↔ a = 0 := by
    constructor
    · intro h
      have := Nat.div_mul_cancel (Nat.gcd_dvd_left a b)
      rw [h, Nat.zero_mul] at this
      exact this.symm
    · intro h
      rw [h, Nat.zero_div]
  cases s <;> by_cases h : a = 0 <;> simp_all

theorem divF_ok (a b : Nat) (ha : a < LIM) (hb : b < LIM) (h0 : b ≠ 0) : divF (tx a) (tx b) = (tx (a / b), tx (a % b), 0) := by
  unfold divF
  rw [isB_txl ha, isB_txl hb, nv_tx, nv_tx, Bool.and_self, if_pos rfl, if_neg h0]

set_option maxHeartbeats 1000000 in
theorem rreduce (s : Bool) (a b : Nat) (w : World) (ha : a < LIM) (hb : b < LIM) (hb0 : b ≠ 0) :
    Calls Tryz.prog 72 #[.bool s, .string (tx a), .string (tx b)] w fun e w' => e = .returned (.tuple #[rV (rf (Ra.mk s a b)), .int .i64 0]) ∧ Below w.heap.size w w' := by
  have hg0 : Nat.gcd a b ≠ 0 := fun e => hb0 (Nat.eq_zero_of_gcd_eq_zero_right e)
  have hg := rgcd_lim ha hb
  have s1 : (tx a).size ≤ 1000 := by have := sz300 ha; omega
  have s2 : (tx b).size ≤ 1000 := by have := sz300 hb; omega
  have s3 : (tx (Nat.gcd a b)).size ≤ 1000 := by have := sz300 hg; omega
  have GC := Lib.hid (fun v => rgcd_any (tx a) (tx b) v s1 s2)
  have D1 := Lib.hid (fun v => rdiv_any (tx a) (tx (Nat.gcd a b)) v s1 s3)
  have D2 := Lib.hid (fun v => rdiv_any (tx b) (tx (Nat.gcd a b)) v s2 s3)
  rw [opF_ok _ _ _ (isB_txl ha) (isB_txl hb) (by rw [nv_tx, nv_tx]; exact hg), nv_tx, nv_tx] at GC
  rw [divF_ok _ _ ha hg hg0] at D1
  rw [divF_ok _ _ hb hg hg0] at D2
  dsimp only at GC D1 D2
  rw [rf_mk s a b hb0]
  have z := tx48 (a / Nat.gcd a b)
  rw [← z]
  clear s1 s2 s3 ha hb hb0 hg0 hg z
  generalize tx (a / Nat.gcd a b) = x1 at *
  generalize tx (a % Nat.gcd a b) = x2 at *
  generalize tx (b / Nat.gcd a b) = y1 at *
  generalize tx (b % Nat.gcd a b) = y2 at *
  generalize tx (Nat.gcd a b) = gg at *
  generalize tx a = x at *
  generalize tx b = y at *
  unfold rV
  dsimp only
  have HA := Lib.hid (At.new w false nil' nil')
  have hb0 := al w (.cells #[.bool false, .string nil', .string nil'] 32)
  unfold nil' at HA hb0
  have hs : s = false ∨ (s = true ∧ (x1.toList == [48]) = true) ∨ (s = true ∧ (x1.toList == [48]) = false) := by
    cases s
    · exact .inl rfl
    · cases h : (x1.toList == [48])
      · exact .inr (.inr ⟨rfl, rfl⟩)
      · exact .inr (.inl ⟨rfl, rfl⟩)
  rcases hs with rfl | ⟨rfl, z⟩ | ⟨rfl, z⟩
  rotate_left
  · rw [z]
    go_enter Tryz.func72, Tryz.ntmps72
    go_wp2_with fail
    refine (GC.out _).mono ?_
    rintro e w1 ⟨rfl, hb1⟩
    have hc1 := Nb hb0 hb1
    go_wp2_with fail
    refine (D1.out _).mono ?_
    rintro e w2 ⟨rfl, hb2⟩
    have hc2 := Nb hc1 hb2
    have hd2 := Nb hb1 hb2
    go_wp2_with fail
    refine (D2.out _).mono ?_
    rintro e w3 ⟨rfl, hb3⟩
    have hc3 := Nb hc2 hb3
    have A1 := HA.out.bt (Nb hd2 hb3)
    obtain ⟨c0, c1, c2, f0, f1, f2⟩ := A1.cells
    clear hb1 hb2 hb3 hc1 hc2 hd2
    go_wp2_with fail
    exact bodyPost_ret (out2 Tryz.results72 _ _ _ _ _ rfl rfl (A1.set _ _ _)) rfl ⟨rfl, Bset hc3 _ _ _⟩
  · rw [z]
    go_enter Tryz.func72, Tryz.ntmps72
    go_wp2_with fail
    refine (GC.out _).mono ?_
    rintro e w1 ⟨rfl, hb1⟩
    have hc1 := Nb hb0 hb1
    go_wp2_with fail
    refine (D1.out _).mono ?_
    rintro e w2 ⟨rfl, hb2⟩
    have hc2 := Nb hc1 hb2
    have hd2 := Nb hb1 hb2
    go_wp2_with fail
    refine (D2.out _).mono ?_
    rintro e w3 ⟨rfl, hb3⟩
    have hc3 := Nb hc2 hb3
    have A1 := HA.out.bt (Nb hd2 hb3)
    obtain ⟨c0, c1, c2, f0, f1, f2⟩ := A1.cells
    clear hb1 hb2 hb3 hc1 hc2 hd2
    go_wp2_with fail
    exact bodyPost_ret (out2 Tryz.results72 _ _ _ _ _ rfl rfl (A1.set _ _ _)) rfl ⟨rfl, Bset hc3 _ _ _⟩
  · rw [Bool.false_and]
    go_enter Tryz.func72, Tryz.ntmps72
    go_wp2_with fail
    refine (GC.out _).mono ?_
    rintro e w1 ⟨rfl, hb1⟩
    have hc1 := Nb hb0 hb1
    go_wp2_with fail
    refine (D1.out _).mono ?_
    rintro e w2 ⟨rfl, hb2⟩
    have hc2 := Nb hc1 hb2
    have hd2 := Nb hb1 hb2
    go_wp2_with fail
    refine (D2.out _).mono ?_
    rintro e w3 ⟨rfl, hb3⟩
    have hc3 := Nb hc2 hb3
    have A1 := HA.out.bt (Nb hd2 hb3)
    obtain ⟨c0, c1, c2, f0, f1, f2⟩ := A1.cells
    clear hb1 hb2 hb3 hc1 hc2 hd2
    go_wp2_with fail
    exact bodyPost_ret (out2 Tryz.results72 _ _ _ _ _ rfl rfl (A1.set _ _ _)) rfl ⟨rfl, Bset hc3 _ _ _⟩
end Go.Proofs.YtkbncdcphohmiaaGreatDoor

/- The reference of layer 5: size, Of, Make, long, Neg. -/
set_option linter.unusedSimpArgs false
set_option linter.unusedVariables false
namespace Go.Proofs.YtkbncdcphohmiaaGreatDoor
open Go.RowKit
open Ra (Fit)
set_option maxRecDepth 100000

theorem rsize (n : Int) (w : World) (h0 : -9223372036854775808 ≤ n) (h1 : n ≤ 9223372036854775807) :
    Calls Tryz.prog 73 #[.int .i64 n] w fun e w' => e = .returned (.string (tx n.natAbs)) ∧ Below w.heap.size w w' := by
  by_cases h : 0 ≤ n
  · obtain ⟨k, rfl⟩ : ∃ k : Nat, n = (k : Int) := ⟨n.toNat, by omega⟩
    have O := Lib.hid (rof_any k w (by omega))
    rw [Int.natAbs_natCast]
    go_enter Tryz.func73, Tryz.ntmps73
    go_wp2_with fail
    refine O.out.mono ?_
    rintro e w1 ⟨rfl, hb1⟩
    go_wp2_with fail
    go_ret
    exact ⟨rfl, hb1⟩
  · obtain ⟨k, rfl⟩ : ∃ k : Nat, n = -(k : Int) - 1 := ⟨(-(n + 1)).toNat, by omega⟩
    have hk : k < LIM := Nat.lt_of_le_of_lt (show k ≤ 9223372036854775807 by omega) (small (by decide))
    have hk1 : k + 1 < LIM := Nat.lt_of_le_of_lt (show k + 1 ≤ 9223372036854775808 by omega) (small (by decide))
    have O := Lib.hid (fun v => rof_any k v (by omega))
    have A := Lib.hid (fun v => radd_any (tx k) (tx 1) v (by have := sz300 hk; omega) (by rw [tx_one]; decide))
    rw [opF_ok _ _ _ (isB_txl hk) (isB_txl (small (by decide))) (by rw [nv_tx, nv_tx]; exact hk1), nv_tx, nv_tx] at A
    dsimp only at A
    rw [tx_one] at A
    rw [show (-(k : Int) - 1).natAbs = k + 1 by omega]
    have hw1 : IntKind.i64.wrap (-(k : Int) - 1 + 1) = -(k : Int) := by rw [IntKind.wrap_i64]; omega
    have hw2 : IntKind.i64.wrap (-(-(k : Int))) = (k : Int) := by rw [IntKind.wrap_i64]; omega
    generalize tx (k + 1) = R at *
    generalize tx k = t at *
    clear hk hk1
    go_enter Tryz.func73, Tryz.ntmps73
    go_wp2_with fail
    refine (O.out _).mono ?_
    rintro e w1 ⟨rfl, hb1⟩
    go_wp2_with fail
    refine (A.out _).mono ?_
    rintro e w2 ⟨rfl, hb2⟩
    have hc2 := Nb hb1 hb2
    go_wp2_with fail
    go_ret
    exact ⟨rfl, hc2⟩

theorem rlong (r : R3) (w : World) (hn : r.2.1.size ≤ maxLen) (hd : r.2.2.size ≤ maxLen) :
    Calls Tryz.prog 74 #[rV r] w fun e w' => e = .returned (.bool (lg r)) ∧ Below w.heap.size w w' := by
  obtain ⟨s, n, d⟩ := r
  unfold rV lg
  simp only at hn hd ⊢
  unfold maxLen at hn hd
  by_cases k1 : 140 < n.size
  · have k1' : (140 : Int) < n.size := by omega
    rw [decide_eq_true k1, Bool.true_or]
    go_enter Tryz.func74, Tryz.ntmps74
    go_wp2_with fail
    go_ret
    exact ⟨rfl, al _ _⟩
  · have k1' : ¬ (140 : Int) < n.size := by omega
    rw [decide_eq_false k1, Bool.false_or]
    by_cases k2 : 140 < d.size
    · have k2' : (140 : Int) < d.size := by omega
      rw [decide_eq_true k2]
      go_enter Tryz.func74, Tryz.ntmps74
      go_wp2_with fail
      go_ret
      exact ⟨rfl, al _ _⟩
    · have k2' : ¬ (140 : Int) < d.size := by omega
      rw [decide_eq_false k2]
      go_enter Tryz.func74, Tryz.ntmps74
      go_wp2_with fail
      go_ret
      exact ⟨rfl, al _ _⟩

theorem neg_rf (q : Rat) : rf (-q) = (!decide (q < 0) && !decide (q.num.natAbs = 0), tx q.num.natAbs, tx q.den) := by
  unfold rf
  simp only [Rat.neg_num, Rat.neg_den, Int.natAbs_neg]
  congr 1
  by_cases h0 : q = 0
  · subst h0
    rfl
  · have h2 : ¬ q.num.natAbs = 0 := fun e => h0 (abs_zero.1 e)
    rw [decide_eq_false h2]
    by_cases h1 : q < 0
    · have h3 : ¬ -q < 0 := by grind
      rw [decide_eq_true h1, decide_eq_false h3]
      rfl
    · have h3 : -q < 0 := by grind
      rw [decide_eq_false h1, decide_eq_true h3]
      rfl

theorem rneg (q : Rat) (w : World) :
    Calls Tryz.prog 90 #[rV (rf q)] w fun e w' => e = .returned (rV (rf (-q))) ∧ Below w.heap.size w w' := by
  rw [neg_rf]
  unfold rV rf
  simp only
  rw [← tx48]
  generalize decide (q < 0) = s
  generalize tx q.num.natAbs = n
  generalize tx q.den = d
  cases s <;> cases hz : (n.toList == [48])
  all_goals
    simp only [Bool.not_true, Bool.not_false, Bool.and_true, Bool.and_false]
    go_enter Tryz.func90, Tryz.ntmps90
    go_wp2_with fail
    first
      | exact bodyPost_ret (v := .agg #[.bool false, .string n, .string d]) (by simp [results, Tryz.results90, go_sem]) rfl ⟨rfl, al2 _ _ _⟩
      | exact bodyPost_ret (v := .agg #[.bool true, .string n, .string d]) (by simp [results, Tryz.results90, go_sem]) rfl ⟨rfl, al2 _ _ _⟩

theorem rof (m n : Int) (w : World) (hm : -9223372036854775808 ≤ m ∧ m ≤ 9223372036854775807) (hn : -9223372036854775808 ≤ n ∧ n ≤ 9223372036854775807) :
    Calls Tryz.prog 42 #[.int .i64 m, .int .i64 n] w fun e w' => e = .returned (.tuple #[rV (ofF5 m n).1, .int .i64 (ofF5 m n).2]) ∧ Below w.heap.size w w' := by
  unfold ofF5
  have HA := Lib.hid (At.new w false nil' nil')
  have hb0 := al w (.cells #[.bool false, .string nil', .string nil'] 32)
  by_cases h0 : n = 0
  · rw [if_pos h0]
    subst h0
    have A1 := HA.out
    unfold nil' at HA hb0 A1
    obtain ⟨c0, c1, c2, f0, f1, f2⟩ := A1.cells
    go_enter Tryz.func42, Tryz.ntmps42
    go_wp2_with fail
    exact bodyPost_ret (out2 Tryz.results42 _ _ _ _ _ rfl rfl A1) rfl ⟨rfl, hb0⟩
  · rw [if_neg h0, ← mk_int m n]
    unfold nil' at HA hb0
    have k1 : m.natAbs < LIM := Nat.lt_of_le_of_lt (show m.natAbs ≤ 9223372036854775808 by omega) (small (by decide))
    have k2 : n.natAbs < LIM := Nat.lt_of_le_of_lt (show n.natAbs ≤ 9223372036854775808 by omega) (small (by decide))
    have k3 : n.natAbs ≠ 0 := by omega
    have S1 := Lib.hid (fun v => rsize m v hm.1 hm.2)
    have S2 := Lib.hid (fun v => rsize n v hn.1 hn.2)
    have R := Lib.hid (fun v => rreduce (decide (m < 0) != decide (n < 0)) m.natAbs n.natAbs v k1 k2 k3)
    generalize rf (Ra.mk (decide (m < 0) != decide (n < 0)) m.natAbs n.natAbs) = r at *
    obtain ⟨s1, n1, d1⟩ := r
    generalize tx m.natAbs = x at *
    generalize tx n.natAbs = y at *
    unfold rV at R ⊢
    simp only at R ⊢
    clear k1 k2 k3 hm hn
    by_cases j1 : m < 0 <;> by_cases j2 : n < 0
    all_goals
      simp only [decide_true, decide_false, j1, j2, bne_self_eq_false, Bool.true_bne, Bool.false_bne, Bool.not_false] at R
      go_enter Tryz.func42, Tryz.ntmps42
      go_wp2_with fail
      refine (S1.out _).mono ?_
      rintro e w1 ⟨rfl, hb1⟩
      go_wp2_with fail
      refine (S2.out _).mono ?_
      rintro e w2 ⟨rfl, hb2⟩
      have hd2 := Nb hb1 hb2
      go_wp2_with fail
      refine (R.out _).mono ?_
      rintro e w3 ⟨rfl, hb3⟩
      have hd3 := Nb hd2 hb3
      have hc3 := Nb hb0 hd3
      have A1 := HA.out.bt hd3
      obtain ⟨c0, c1, c2, f0, f1, f2⟩ := A1.cells
      clear hb1 hb2 hb3 hd2 hd3
      go_wp2_with fail
      exact bodyPost_ret (out2 Tryz.results42 _ _ _ _ _ rfl rfl (A1.set _ _ _)) rfl ⟨rfl, Bset hc3 _ _ _⟩

end Go.Proofs.YtkbncdcphohmiaaGreatDoor
