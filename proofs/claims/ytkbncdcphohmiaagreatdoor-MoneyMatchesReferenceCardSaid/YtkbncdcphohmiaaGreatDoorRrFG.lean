import Derived.Test.YtkbncdcphohmiaaGreatDoorRrDE
import Derived.Test.YtkbncdcphohmiaaGreatDoorRaQ
/- The reference of layer 5: Add, Sub, Mul, Div at all numbers. -/
set_option linter.unusedSimpArgs false
set_option linter.unusedVariables false
namespace Go.Proofs.YtkbncdcphohmiaaGreatDoor
open Go.RowKit
open Ra (Fit)
set_option maxRecDepth 100000

abbrev CallsV (f : Nat) (args : Array Value) (v : Value) : Prop := Hid (∀ W, Calls Tryz.prog f args W fun e w' => e = .returned v ∧ Below W.heap.size W w')
theorem sz1000 {m : Nat} (h : m < LIM) : (tx m).size ≤ 1000 := by have := sz300 h; omega
theorem nmul (m n : Nat) (hm : m < LIM) (hn : n < LIM) (h : m * n < LIM) : CallsV 75 #[.string (tx m), .string (tx n)] (.tuple #[.string (tx (m * n)), .int .i64 0]) := by
  refine Lib.hid fun v => ?_
  have := rmul_any (tx m) (tx n) v (sz1000 hm) (sz1000 hn)
  rw [opF_ok _ _ _ (isB_txl hm) (isB_txl hn) (by rw [nv_tx, nv_tx]; exact h), nv_tx, nv_tx] at this
  exact this
theorem nadd (m n : Nat) (hm : m < LIM) (hn : n < LIM) (h : m + n < LIM) : CallsV 87 #[.string (tx m), .string (tx n)] (.tuple #[.string (tx (m + n)), .int .i64 0]) := by
  refine Lib.hid fun v => ?_
  have := radd_any (tx m) (tx n) v (sz1000 hm) (sz1000 hn)
  rw [opF_ok _ _ _ (isB_txl hm) (isB_txl hn) (by rw [nv_tx, nv_tx]; exact h), nv_tx, nv_tx] at this
  exact this
theorem nsub (m n : Nat) (hm : m < LIM) (hn : n < LIM) (h : n ≤ m) : CallsV 88 #[.string (tx m), .string (tx n)] (.tuple #[.string (tx (m - n)), .int .i64 0]) := by
  refine Lib.hid fun v => ?_
  have := rsub_any (tx m) (tx n) v (sz1000 hm) (sz1000 hn)
  rw [show subF (tx m) (tx n) = (tx (m - n), 0) by unfold subF; rw [isB_txl hm, isB_txl hn, nv_tx, nv_tx, Bool.and_self, if_pos rfl, if_neg (by omega)]] at this
  exact this
theorem ncmp (m n : Nat) (hm : m < LIM) (hn : n < LIM) : CallsV 125 #[.string (tx m), .string (tx n)] (.tuple #[.int .i64 (cmpN m n), .int .i64 0]) := by
  refine Lib.hid fun v => ?_
  have := rcompare_any (tx m) (tx n) v (sz1000 hm) (sz1000 hn)
  rw [show cmpF (tx m) (tx n) = (cmpN m n, 0) by unfold cmpF; rw [isB_txl hm, isB_txl hn, nv_tx, nv_tx, Bool.and_self, if_pos rfl]] at this
  exact this

theorem ml (n : ByteArray) (h : n.size ≤ 1000) : n.size ≤ maxLen := by unfold maxLen; omega
theorem q_bad (f : Rat → Rat → Rat) (z : Bool) (a b : R3) (h : (vR a && vR b) = false) : opQ f z a b = (zeroR, 1) := by unfold opQ; rw [if_pos h]

theorem radd_rat (p q : Rat) (hp : Fit LIM p) (hq : Fit LIM q) (w : World) :
    Calls Tryz.prog 89 #[rV (rf p), rV (rf q)] w fun e w' => e = .returned (.tuple #[rV (opQ (· + ·) false (rf p) (rf q)).1, .int .i64 (opQ (· + ·) false (rf p) (rf q)).2]) ∧ Below w.heap.size w w' := by
  have k1 : (rf p).2.1.size ≤ 1000 := sz1000 hp.1
  have k2 : (rf p).2.2.size ≤ 1000 := sz1000 hp.2
  have j1 : (rf q).2.1.size ≤ 1000 := sz1000 hq.1
  have j2 : (rf q).2.2.size ≤ 1000 := sz1000 hq.2
  have VA := Lib.hid (fun v => rvalid_any (rf p) v k1 k2)
  have VB := Lib.hid (fun v => rvalid_any (rf q) v j1 j2)
  have LA := Lib.hid (fun v => rlong (rf p) v (ml _ k1) (ml _ k2))
  have LB := Lib.hid (fun v => rlong (rf q) v (ml _ j1) (ml _ j2))
  have vp := (vR_rf p).2 hp
  have vq := (vR_rf q).2 hq
  rw [vp] at VA
  rw [vq] at VB
  unfold opQ
  rw [vp, vq, qv_rf, qv_rf, if_neg (by simp), if_neg (by simp)]
  cases hl1 : lg (rf p)
  rotate_left
  · rw [hl1] at LA
    rw [Bool.true_or, if_pos rfl]
    exact radd_l1 _ _ _ _ _ _ w VA VB LA
  cases hl2 : lg (rf q)
  rotate_left
  · rw [hl1] at LA
    rw [hl2] at LB
    rw [Bool.or_true, if_pos rfl]
    exact radd_l2 _ _ _ _ _ _ w VA VB LA LB
  rw [hl1] at LA
  rw [hl2] at LB
  rw [Bool.or_false, if_neg (by simp)]
  dsimp only
  have l1 := (lg_rf p).1 hl1
  have l2 := (lg_rf q).1 hl2
  have h1 : p.num.natAbs * q.den < L140 * L140 := Ra.mul_lt l1.1 l2.2
  have h2 : q.num.natAbs * p.den < L140 * L140 := Ra.mul_lt l2.1 l1.2
  have h3 : p.den * q.den < L140 * L140 := Ra.mul_lt l1.2 l2.2
  have h4 := two_lim
  have hd : p.den ≠ 0 := p.den_nz
  have hd' : q.den ≠ 0 := q.den_nz
  have hm : p.den * q.den ≠ 0 := Nat.mul_ne_zero hd hd'
  have ep := Ra.mk_self p
  have eq := Ra.mk_self q
  have g1 := Ra.mk_add_same (decide (p < 0)) p.num.natAbs p.den q.num.natAbs q.den hd hd'
  have g2 := Ra.mk_add_ge (decide (p < 0)) p.num.natAbs p.den q.num.natAbs q.den hd hd'
  have g3 := Ra.mk_add_le (decide (p < 0)) p.num.natAbs p.den q.num.natAbs q.den hd hd'
  have M1 := nmul p.num.natAbs q.den hp.1 hq.2 (by omega)
  have M2 := nmul q.num.natAbs p.den hq.1 hp.2 (by omega)
  have M3 := nmul p.den q.den hp.2 hq.2 (by omega)
  obtain ⟨X, hX⟩ : ∃ X, X = p.num.natAbs * q.den := ⟨_, rfl⟩
  obtain ⟨Y, hY⟩ : ∃ Y, Y = q.num.natAbs * p.den := ⟨_, rfl⟩
  obtain ⟨D, hD⟩ : ∃ D, D = p.den * q.den := ⟨_, rfl⟩
  rw [← hX] at h1 M1 g1 g2 g3
  rw [← hY] at h2 M2 g1 g2 g3
  rw [← hD] at h3 M3 g1 g2 g3 hm
  by_cases hs : decide (q < 0) = decide (p < 0)
  · rw [← hs, eq] at g1
    rw [hs, ep] at g1
    rw [g1]
    have AD := nadd X Y (by omega) (by omega) (by omega)
    have RD := Lib.hid (fun v => rreduce (decide (p < 0)) (X + Y) D v (by omega) (by omega) hm)
    have VB' : CallsV 49 #[rV (decide (p < 0), tx q.num.natAbs, tx q.den)] (.bool true) := by rw [← hs]; exact VB
    have LB' : CallsV 74 #[rV (decide (p < 0), tx q.num.natAbs, tx q.den)] (.bool false) := by rw [← hs]; exact LB
    have := radd_same (decide (p < 0)) (tx p.num.natAbs) (tx p.den) (tx q.num.natAbs) (tx q.den) (tx X) (tx Y) (tx D) (tx (X + Y)) _ _ _ w VA VB' LA LB' M1 M2 M3 AD RD
    rw [show rf q = (decide (p < 0), tx q.num.natAbs, tx q.den) by rw [← hs]; rfl]
    exact this
  · have hs2 : decide (q < 0) = !decide (p < 0) := by
      cases k1 : decide (p < 0) <;> cases k2 : decide (q < 0) <;> simp_all
    have VB' : CallsV 49 #[rV (!decide (p < 0), tx q.num.natAbs, tx q.den)] (.bool true) := by rw [← hs2]; exact VB
    have LB' : CallsV 74 #[rV (!decide (p < 0), tx q.num.natAbs, tx q.den)] (.bool false) := by rw [← hs2]; exact LB
    have CM := ncmp X Y (by omega) (by omega)
    rw [ep, ← hs2, eq] at g2 g3
    rw [show rf q = (!decide (p < 0), tx q.num.natAbs, tx q.den) by rw [← hs2]; rfl]
    by_cases hc : X < Y
    · rw [show cmpN X Y = -1 by unfold cmpN; rw [if_pos hc]] at CM
      rw [g3 (by omega), hs2]
      have SU := nsub Y X (by omega) (by omega) (by omega)
      have RD := Lib.hid (fun v => rreduce (!decide (p < 0)) (Y - X) D v (by omega) (by omega) hm)
      exact radd_less (decide (p < 0)) (tx p.num.natAbs) (tx p.den) (tx q.num.natAbs) (tx q.den) (-1) (by omega) (tx X) (tx Y) (tx D) (tx (Y - X)) _ _ _ w VA VB' LA LB' M1 M2 M3 CM SU RD
    · rw [g2 (by omega)]
      have SU := nsub X Y (by omega) (by omega) (by omega)
      have RD := Lib.hid (fun v => rreduce (decide (p < 0)) (X - Y) D v (by omega) (by omega) hm)
      exact radd_more (decide (p < 0)) (tx p.num.natAbs) (tx p.den) (tx q.num.natAbs) (tx q.den) _ (cmp_ge X Y hc) (tx X) (tx Y) (tx D) (tx (X - Y)) _ _ _ w VA VB' LA LB' M1 M2 M3 CM SU RD

theorem rmul_rat (p q : Rat) (hp : Fit LIM p) (hq : Fit LIM q) (w : World) :
    Calls Tryz.prog 43 #[rV (rf p), rV (rf q)] w fun e w' => e = .returned (.tuple #[rV (opQ (· * ·) false (rf p) (rf q)).1, .int .i64 (opQ (· * ·) false (rf p) (rf q)).2]) ∧ Below w.heap.size w w' := by
  have k1 : (rf p).2.1.size ≤ 1000 := sz1000 hp.1
  have k2 : (rf p).2.2.size ≤ 1000 := sz1000 hp.2
  have j1 : (rf q).2.1.size ≤ 1000 := sz1000 hq.1
  have j2 : (rf q).2.2.size ≤ 1000 := sz1000 hq.2
  have VA := Lib.hid (fun v => rvalid_any (rf p) v k1 k2)
  have VB := Lib.hid (fun v => rvalid_any (rf q) v j1 j2)
  have LA := Lib.hid (fun v => rlong (rf p) v (ml _ k1) (ml _ k2))
  have LB := Lib.hid (fun v => rlong (rf q) v (ml _ j1) (ml _ j2))
  have vp := (vR_rf p).2 hp
  have vq := (vR_rf q).2 hq
  rw [vp] at VA
  rw [vq] at VB
  unfold opQ
  rw [vp, vq, qv_rf, qv_rf, if_neg (by simp), if_neg (by simp)]
  cases hl1 : lg (rf p)
  rotate_left
  · rw [hl1] at LA
    rw [Bool.true_or, if_pos rfl]
    exact rmul_l1 _ _ _ _ _ _ w VA VB LA
  cases hl2 : lg (rf q)
  rotate_left
  · rw [hl1] at LA
    rw [hl2] at LB
    rw [Bool.or_true, if_pos rfl]
    exact rmul_l2 _ _ _ _ _ _ w VA VB LA LB
  rw [hl1] at LA
  rw [hl2] at LB
  rw [Bool.or_false, if_neg (by simp)]
  dsimp only
  have l1 := (lg_rf p).1 hl1
  have l2 := (lg_rf q).1 hl2
  have h1 : p.num.natAbs * q.num.natAbs < L140 * L140 := Ra.mul_lt l1.1 l2.1
  have h3 : p.den * q.den < L140 * L140 := Ra.mul_lt l1.2 l2.2
  have h4 := two_lim
  have hm : p.den * q.den ≠ 0 := Nat.mul_ne_zero p.den_nz q.den_nz
  rw [← prodR_mk p q]
  have M1 := nmul p.num.natAbs q.num.natAbs hp.1 hq.1 (by omega)
  have M2 := nmul p.den q.den hp.2 hq.2 (by omega)
  have RD := Lib.hid (fun v => rreduce (decide (p < 0) != decide (q < 0)) (p.num.natAbs * q.num.natAbs) (p.den * q.den) v (by omega) (by omega) hm)
  exact rmul_ok (decide (p < 0)) (decide (q < 0)) (tx p.num.natAbs) (tx p.den) (tx q.num.natAbs) (tx q.den) _ _ _ _ _ w VA VB LA LB M1 M2 RD

theorem radd_q (a b : R3) (w : World) (ha : a.2.1.size ≤ 1000 ∧ a.2.2.size ≤ 1000) (hb : b.2.1.size ≤ 1000 ∧ b.2.2.size ≤ 1000) :
    Calls Tryz.prog 89 #[rV a, rV b] w fun e w' => e = .returned (.tuple #[rV (opQ (· + ·) false a b).1, .int .i64 (opQ (· + ·) false a b).2]) ∧ Below w.heap.size w w' := by
  have VA := Lib.hid (fun v => rvalid_any a v ha.1 ha.2)
  have VB := Lib.hid (fun v => rvalid_any b v hb.1 hb.2)
  cases hva : vR a
  · rw [hva] at VA
    rw [q_bad _ _ _ _ (by rw [hva]; rfl)]
    exact radd_v1 _ _ _ _ _ _ w VA
  cases hvb : vR b
  · rw [hva] at VA
    rw [hvb] at VB
    rw [q_bad _ _ _ _ (by rw [hva, hvb]; rfl)]
    exact radd_v2 _ _ _ _ _ _ w VA VB
  obtain ⟨p, hp, rfl⟩ := vR_ex hva
  obtain ⟨q, hq, rfl⟩ := vR_ex hvb
  exact radd_rat p q hp hq w

theorem rmul_q (a b : R3) (w : World) (ha : a.2.1.size ≤ 1000 ∧ a.2.2.size ≤ 1000) (hb : b.2.1.size ≤ 1000 ∧ b.2.2.size ≤ 1000) :
    Calls Tryz.prog 43 #[rV a, rV b] w fun e w' => e = .returned (.tuple #[rV (opQ (· * ·) false a b).1, .int .i64 (opQ (· * ·) false a b).2]) ∧ Below w.heap.size w w' := by
  have VA := Lib.hid (fun v => rvalid_any a v ha.1 ha.2)
  have VB := Lib.hid (fun v => rvalid_any b v hb.1 hb.2)
  cases hva : vR a
  · rw [hva] at VA
    rw [q_bad _ _ _ _ (by rw [hva]; rfl)]
    exact rmul_v1 _ _ _ _ _ _ w VA
  cases hvb : vR b
  · rw [hva] at VA
    rw [hvb] at VB
    rw [q_bad _ _ _ _ (by rw [hva, hvb]; rfl)]
    exact rmul_v2 _ _ _ _ _ _ w VA VB
  obtain ⟨p, hp, rfl⟩ := vR_ex hva
  obtain ⟨q, hq, rfl⟩ := vR_ex hvb
  exact rmul_rat p q hp hq w

theorem q_sub (p q : Rat) (hp : Fit LIM p) (hq : Fit LIM q) : opQ (· + ·) false (rf p) (rf (-q)) = opQ (· - ·) false (rf p) (rf q) := by
  unfold opQ
  rw [(vR_rf p).2 hp, (vR_rf q).2 hq, (vR_rf (-q)).2 hq.neg, lg_neg, qv_rf, qv_rf, qv_rf]
  simp [Rat.sub_eq_add_neg]

theorem rsub_q (a b : R3) (w : World) (ha : a.2.1.size ≤ 1000 ∧ a.2.2.size ≤ 1000) (hb : b.2.1.size ≤ 1000 ∧ b.2.2.size ≤ 1000) :
    Calls Tryz.prog 51 #[rV a, rV b] w fun e w' => e = .returned (.tuple #[rV (opQ (· - ·) false a b).1, .int .i64 (opQ (· - ·) false a b).2]) ∧ Below w.heap.size w w' := by
  have VA := Lib.hid (fun v => rvalid_any a v ha.1 ha.2)
  have VB := Lib.hid (fun v => rvalid_any b v hb.1 hb.2)
  cases hva : vR a
  · rw [hva] at VA
    rw [q_bad _ _ _ _ (by rw [hva]; rfl)]
    exact rsub_v1 _ _ _ _ _ _ w VA
  cases hvb : vR b
  · rw [hva] at VA
    rw [hvb] at VB
    rw [q_bad _ _ _ _ (by rw [hva, hvb]; rfl)]
    exact rsub_v2 _ _ _ _ _ _ w VA VB
  rw [hva] at VA
  rw [hvb] at VB
  obtain ⟨p, hp, rfl⟩ := vR_ex hva
  obtain ⟨q, hq, rfl⟩ := vR_ex hvb
  have NG := Lib.hid (fun v => rneg q v)
  have AD := Lib.hid (fun v => radd_rat p (-q) hp hq.neg v)
  rw [q_sub p q hp hq] at AD
  exact rsub_ok _ _ _ _ _ _ _ _ _ _ _ _ _ w VA VB NG AD

theorem rec_rf (q : Rat) (h0 : q ≠ 0) : recR q = rf q⁻¹ := by
  have hn : q.num.natAbs ≠ 0 := fun e => h0 (abs_zero.1 e)
  have e := Ra.mk_inv (decide (q < 0)) q.num.natAbs q.den hn q.den_nz
  rw [Ra.mk_self] at e
  rw [← e, rf_mk _ _ _ hn, Nat.gcd_comm, Ra.self_gcd, Nat.div_one, Nat.div_one]
  unfold recR
  rw [decide_eq_false q.den_nz, Bool.not_false, Bool.and_true]
theorem q_div (p q : Rat) (hp : Fit LIM p) (hq : Fit LIM q) (h0 : q ≠ 0) : opQ (· * ·) false (rf p) (rf q⁻¹) = opQ (· / ·) true (rf p) (rf q) := by
  have h1 : lg (rf q⁻¹) = lg (rf q) := by rw [← rec_rf q h0]; exact lg_rec q
  unfold opQ
  rw [(vR_rf p).2 hp, (vR_rf q).2 hq, (vR_rf q⁻¹).2 (hq.inv h0), h1, qv_rf, qv_rf, qv_rf]
  simp [h0, Rat.div_def]

end Go.Proofs.YtkbncdcphohmiaaGreatDoor

/- The reference of layer 5: Compare and Floor. Printed by gen/rr_g.py. -/
set_option linter.unusedSimpArgs false
set_option linter.unusedVariables false
namespace Go.Proofs.YtkbncdcphohmiaaGreatDoor
open Go.RowKit
open Ra (Fit)
set_option maxRecDepth 100000

set_option maxHeartbeats 1000000 in
theorem rfl_no (n d : ByteArray) (s : Bool) (w : World)
    (V : Hid (∀ v, Calls Tryz.prog 49 #[rV (s, n, d)] v fun e w' => e = .returned (.bool false) ∧ Below v.heap.size v w')) :
    Calls Tryz.prog 50 #[rV (s, n, d)] w fun e w' => e = .returned (.tuple #[.int .i64 0, .int .i64 1]) ∧ Below w.heap.size w w' := by
  have hb0 := al w (.cells #[.bool s, .string n, .string d] 32)
  have A0 := At.new w s n d
  unfold rV at V ⊢
  simp only at V ⊢
  obtain ⟨a0, a1, a2, _, _, _⟩ := A0.cells
  go_enter Tryz.func50, Tryz.ntmps50
  go_wp2_with fail
  refine (V.out _).mono ?_
  rintro e w1 ⟨rfl, g1⟩
  have hb1 := Nb hb0 g1
  have A1 := A0.bt g1
  clear a0 a1 a2 A0 hb0 g1
  obtain ⟨a0, a1, a2, _, _, _⟩ := A1.cells
  go_wp2_with fail
  go_ret2
  exact ⟨rfl, hb1⟩

set_option maxHeartbeats 1000000 in
theorem rfl_pos (n d : ByteArray) (q r : ByteArray) (k : Int) (w : World)
    (V : Hid (∀ v, Calls Tryz.prog 49 #[rV (false, n, d)] v fun e w' => e = .returned (.bool true) ∧ Below v.heap.size v w'))
    (DV : Hid (∀ v, Calls Tryz.prog 85 #[.string n, .string d] v fun e w' => e = .returned (.tuple #[.string q, .string r, .int .i64 0]) ∧ Below v.heap.size v w'))
    (I : Hid (∀ v, Calls Tryz.prog 86 #[.string q] v fun e w' => e = .returned (.tuple #[.int .i64 k, .int .i64 0]) ∧ Below v.heap.size v w')) :
    Calls Tryz.prog 50 #[rV (false, n, d)] w fun e w' => e = .returned (.tuple #[.int .i64 k, .int .i64 0]) ∧ Below w.heap.size w w' := by
  have hb0 := al w (.cells #[.bool false, .string n, .string d] 32)
  have A0 := At.new w false n d
  unfold rV at V ⊢
  simp only at V ⊢
  obtain ⟨a0, a1, a2, _, _, _⟩ := A0.cells
  go_enter Tryz.func50, Tryz.ntmps50
  go_wp2_with fail
  refine (V.out _).mono ?_
  rintro e w1 ⟨rfl, g1⟩
  have hb1 := Nb hb0 g1
  have A1 := A0.bt g1
  clear a0 a1 a2 A0 hb0 g1
  obtain ⟨a0, a1, a2, _, _, _⟩ := A1.cells
  go_wp2_with fail
  refine (DV.out _).mono ?_
  rintro e w2 ⟨rfl, g2⟩
  have hb2 := Nb hb1 g2
  have A2 := A1.bt g2
  clear a0 a1 a2 A1 hb1 g2
  obtain ⟨a0, a1, a2, _, _, _⟩ := A2.cells
  go_wp2_with fail
  refine (I.out _).mono ?_
  rintro e w3 ⟨rfl, g3⟩
  have hb3 := Nb hb2 g3
  have A3 := A2.bt g3
  clear a0 a1 a2 A2 hb2 g3
  obtain ⟨a0, a1, a2, _, _, _⟩ := A3.cells
  go_wp2_with fail
  go_ret2
  exact ⟨rfl, hb3⟩

set_option maxHeartbeats 1000000 in
theorem rfl_posbad (n d : ByteArray) (q r : ByteArray) (w : World)
    (V : Hid (∀ v, Calls Tryz.prog 49 #[rV (false, n, d)] v fun e w' => e = .returned (.bool true) ∧ Below v.heap.size v w'))
    (DV : Hid (∀ v, Calls Tryz.prog 85 #[.string n, .string d] v fun e w' => e = .returned (.tuple #[.string q, .string r, .int .i64 0]) ∧ Below v.heap.size v w'))
    (I : Hid (∀ v, Calls Tryz.prog 86 #[.string q] v fun e w' => e = .returned (.tuple #[.int .i64 0, .int .i64 10]) ∧ Below v.heap.size v w')) :
    Calls Tryz.prog 50 #[rV (false, n, d)] w fun e w' => e = .returned (.tuple #[.int .i64 0, .int .i64 10]) ∧ Below w.heap.size w w' := by
  have hb0 := al w (.cells #[.bool false, .string n, .string d] 32)
  have A0 := At.new w false n d
  unfold rV at V ⊢
  simp only at V ⊢
  obtain ⟨a0, a1, a2, _, _, _⟩ := A0.cells
  go_enter Tryz.func50, Tryz.ntmps50
  go_wp2_with fail
  refine (V.out _).mono ?_
  rintro e w1 ⟨rfl, g1⟩
  have hb1 := Nb hb0 g1
  have A1 := A0.bt g1
  clear a0 a1 a2 A0 hb0 g1
  obtain ⟨a0, a1, a2, _, _, _⟩ := A1.cells
  go_wp2_with fail
  refine (DV.out _).mono ?_
  rintro e w2 ⟨rfl, g2⟩
  have hb2 := Nb hb1 g2
  have A2 := A1.bt g2
  clear a0 a1 a2 A1 hb1 g2
  obtain ⟨a0, a1, a2, _, _, _⟩ := A2.cells
  go_wp2_with fail
  refine (I.out _).mono ?_
  rintro e w3 ⟨rfl, g3⟩
  have hb3 := Nb hb2 g3
  have A3 := A2.bt g3
  clear a0 a1 a2 A2 hb2 g3
  obtain ⟨a0, a1, a2, _, _, _⟩ := A3.cells
  go_wp2_with fail
  go_ret2
  exact ⟨rfl, hb3⟩

set_option maxHeartbeats 1000000 in
theorem rfl_neg0 (n d : ByteArray) (q r p : ByteArray) (k : Int) (z : (r.toList == [48]) = true) (hk : 0 ≤ k ∧ k ≤ 9223372036854775807) (w : World)
    (V : Hid (∀ v, Calls Tryz.prog 49 #[rV (true, n, d)] v fun e w' => e = .returned (.bool true) ∧ Below v.heap.size v w'))
    (DV : Hid (∀ v, Calls Tryz.prog 85 #[.string n, .string d] v fun e w' => e = .returned (.tuple #[.string q, .string r, .int .i64 0]) ∧ Below v.heap.size v w'))
    (SB : Hid (∀ v, Calls Tryz.prog 88 #[.string q, .string ⟨#[49]⟩] v fun e w' => e = .returned (.tuple #[.string p, .int .i64 0]) ∧ Below v.heap.size v w'))
    (I : Hid (∀ v, Calls Tryz.prog 86 #[.string p] v fun e w' => e = .returned (.tuple #[.int .i64 k, .int .i64 0]) ∧ Below v.heap.size v w')) :
    Calls Tryz.prog 50 #[rV (true, n, d)] w fun e w' => e = .returned (.tuple #[.int .i64 (-k - 1), .int .i64 0]) ∧ Below w.heap.size w w' := by
  have hb0 := al w (.cells #[.bool true, .string n, .string d] 32)
  have A0 := At.new w true n d
  unfold rV at V ⊢
  simp only at V ⊢
  obtain ⟨a0, a1, a2, _, _, _⟩ := A0.cells
  go_enter Tryz.func50, Tryz.ntmps50
  go_wp2_with fail
  refine (V.out _).mono ?_
  rintro e w1 ⟨rfl, g1⟩
  have hb1 := Nb hb0 g1
  have A1 := A0.bt g1
  clear a0 a1 a2 A0 hb0 g1
  obtain ⟨a0, a1, a2, _, _, _⟩ := A1.cells
  go_wp2_with fail
  refine (DV.out _).mono ?_
  rintro e w2 ⟨rfl, g2⟩
  have hb2 := Nb hb1 g2
  have A2 := A1.bt g2
  clear a0 a1 a2 A1 hb1 g2
  obtain ⟨a0, a1, a2, _, _, _⟩ := A2.cells
  go_wp2_with fail
  refine (SB.out _).mono ?_
  rintro e w3 ⟨rfl, g3⟩
  have hb3 := Nb hb2 g3
  have A3 := A2.bt g3
  clear a0 a1 a2 A2 hb2 g3
  obtain ⟨a0, a1, a2, _, _, _⟩ := A3.cells
  go_wp2_with fail
  refine (I.out _).mono ?_
  rintro e w4 ⟨rfl, g4⟩
  have hb4 := Nb hb3 g4
  have A4 := A3.bt g4
  clear a0 a1 a2 A3 hb3 g4
  obtain ⟨a0, a1, a2, _, _, _⟩ := A4.cells
  go_wp2_with fail
  go_ret2
  exact ⟨rfl, hb4⟩

set_option maxHeartbeats 1000000 in
theorem rfl_neg0bad (n d : ByteArray) (q r p : ByteArray) (z : (r.toList == [48]) = true) (w : World)
    (V : Hid (∀ v, Calls Tryz.prog 49 #[rV (true, n, d)] v fun e w' => e = .returned (.bool true) ∧ Below v.heap.size v w'))
    (DV : Hid (∀ v, Calls Tryz.prog 85 #[.string n, .string d] v fun e w' => e = .returned (.tuple #[.string q, .string r, .int .i64 0]) ∧ Below v.heap.size v w'))
    (SB : Hid (∀ v, Calls Tryz.prog 88 #[.string q, .string ⟨#[49]⟩] v fun e w' => e = .returned (.tuple #[.string p, .int .i64 0]) ∧ Below v.heap.size v w'))
    (I : Hid (∀ v, Calls Tryz.prog 86 #[.string p] v fun e w' => e = .returned (.tuple #[.int .i64 0, .int .i64 10]) ∧ Below v.heap.size v w')) :
    Calls Tryz.prog 50 #[rV (true, n, d)] w fun e w' => e = .returned (.tuple #[.int .i64 0, .int .i64 10]) ∧ Below w.heap.size w w' := by
  have hb0 := al w (.cells #[.bool true, .string n, .string d] 32)
  have A0 := At.new w true n d
  unfold rV at V ⊢
  simp only at V ⊢
  obtain ⟨a0, a1, a2, _, _, _⟩ := A0.cells
  go_enter Tryz.func50, Tryz.ntmps50
  go_wp2_with fail
  refine (V.out _).mono ?_
  rintro e w1 ⟨rfl, g1⟩
  have hb1 := Nb hb0 g1
  have A1 := A0.bt g1
  clear a0 a1 a2 A0 hb0 g1
  obtain ⟨a0, a1, a2, _, _, _⟩ := A1.cells
  go_wp2_with fail
  refine (DV.out _).mono ?_
  rintro e w2 ⟨rfl, g2⟩
  have hb2 := Nb hb1 g2
  have A2 := A1.bt g2
  clear a0 a1 a2 A1 hb1 g2
  obtain ⟨a0, a1, a2, _, _, _⟩ := A2.cells
  go_wp2_with fail
  refine (SB.out _).mono ?_
  rintro e w3 ⟨rfl, g3⟩
  have hb3 := Nb hb2 g3
  have A3 := A2.bt g3
  clear a0 a1 a2 A2 hb2 g3
  obtain ⟨a0, a1, a2, _, _, _⟩ := A3.cells
  go_wp2_with fail
  refine (I.out _).mono ?_
  rintro e w4 ⟨rfl, g4⟩
  have hb4 := Nb hb3 g4
  have A4 := A3.bt g4
  clear a0 a1 a2 A3 hb3 g4
  obtain ⟨a0, a1, a2, _, _, _⟩ := A4.cells
  go_wp2_with fail
  go_ret2
  exact ⟨rfl, hb4⟩

set_option maxHeartbeats 1000000 in
theorem rfl_neg1 (n d : ByteArray) (q q2 r p : ByteArray) (k : Int) (z : (r.toList == [48]) = false) (hk : 0 ≤ k ∧ k ≤ 9223372036854775807) (w : World)
    (V : Hid (∀ v, Calls Tryz.prog 49 #[rV (true, n, d)] v fun e w' => e = .returned (.bool true) ∧ Below v.heap.size v w'))
    (DV : Hid (∀ v, Calls Tryz.prog 85 #[.string n, .string d] v fun e w' => e = .returned (.tuple #[.string q, .string r, .int .i64 0]) ∧ Below v.heap.size v w'))
    (AD : Hid (∀ v, Calls Tryz.prog 87 #[.string q, .string ⟨#[49]⟩] v fun e w' => e = .returned (.tuple #[.string q2, .int .i64 0]) ∧ Below v.heap.size v w'))
    (SB : Hid (∀ v, Calls Tryz.prog 88 #[.string q2, .string ⟨#[49]⟩] v fun e w' => e = .returned (.tuple #[.string p, .int .i64 0]) ∧ Below v.heap.size v w'))
    (I : Hid (∀ v, Calls Tryz.prog 86 #[.string p] v fun e w' => e = .returned (.tuple #[.int .i64 k, .int .i64 0]) ∧ Below v.heap.size v w')) :
    Calls Tryz.prog 50 #[rV (true, n, d)] w fun e w' => e = .returned (.tuple #[.int .i64 (-k - 1), .int .i64 0]) ∧ Below w.heap.size w w' := by
  have hb0 := al w (.cells #[.bool true, .string n, .string d] 32)
  have A0 := At.new w true n d
  unfold rV at V ⊢
  simp only at V ⊢
  obtain ⟨a0, a1, a2, _, _, _⟩ := A0.cells
  go_enter Tryz.func50, Tryz.ntmps50
  go_wp2_with fail
  refine (V.out _).mono ?_
  rintro e w1 ⟨rfl, g1⟩
  have hb1 := Nb hb0 g1
  have A1 := A0.bt g1
  clear a0 a1 a2 A0 hb0 g1
  obtain ⟨a0, a1, a2, _, _, _⟩ := A1.cells
  go_wp2_with fail
  refine (DV.out _).mono ?_
  rintro e w2 ⟨rfl, g2⟩
  have hb2 := Nb hb1 g2
  have A2 := A1.bt g2
  clear a0 a1 a2 A1 hb1 g2
  obtain ⟨a0, a1, a2, _, _, _⟩ := A2.cells
  go_wp2_with fail
  refine (AD.out _).mono ?_
  rintro e w3 ⟨rfl, g3⟩
  have hb3 := Nb hb2 g3
  have A3 := A2.bt g3
  clear a0 a1 a2 A2 hb2 g3
  obtain ⟨a0, a1, a2, _, _, _⟩ := A3.cells
  go_wp2_with fail
  refine (SB.out _).mono ?_
  rintro e w4 ⟨rfl, g4⟩
  have hb4 := Nb hb3 g4
  have A4 := A3.bt g4
  clear a0 a1 a2 A3 hb3 g4
  obtain ⟨a0, a1, a2, _, _, _⟩ := A4.cells
  go_wp2_with fail
  refine (I.out _).mono ?_
  rintro e w5 ⟨rfl, g5⟩
  have hb5 := Nb hb4 g5
  have A5 := A4.bt g5
  clear a0 a1 a2 A4 hb4 g5
  obtain ⟨a0, a1, a2, _, _, _⟩ := A5.cells
  go_wp2_with fail
  go_ret2
  exact ⟨rfl, hb5⟩

set_option maxHeartbeats 1000000 in
theorem rfl_neg1bad (n d : ByteArray) (q q2 r p : ByteArray) (z : (r.toList == [48]) = false) (w : World)
    (V : Hid (∀ v, Calls Tryz.prog 49 #[rV (true, n, d)] v fun e w' => e = .returned (.bool true) ∧ Below v.heap.size v w'))
    (DV : Hid (∀ v, Calls Tryz.prog 85 #[.string n, .string d] v fun e w' => e = .returned (.tuple #[.string q, .string r, .int .i64 0]) ∧ Below v.heap.size v w'))
    (AD : Hid (∀ v, Calls Tryz.prog 87 #[.string q, .string ⟨#[49]⟩] v fun e w' => e = .returned (.tuple #[.string q2, .int .i64 0]) ∧ Below v.heap.size v w'))
    (SB : Hid (∀ v, Calls Tryz.prog 88 #[.string q2, .string ⟨#[49]⟩] v fun e w' => e = .returned (.tuple #[.string p, .int .i64 0]) ∧ Below v.heap.size v w'))
    (I : Hid (∀ v, Calls Tryz.prog 86 #[.string p] v fun e w' => e = .returned (.tuple #[.int .i64 0, .int .i64 10]) ∧ Below v.heap.size v w')) :
    Calls Tryz.prog 50 #[rV (true, n, d)] w fun e w' => e = .returned (.tuple #[.int .i64 0, .int .i64 10]) ∧ Below w.heap.size w w' := by
  have hb0 := al w (.cells #[.bool true, .string n, .string d] 32)
  have A0 := At.new w true n d
  unfold rV at V ⊢
  simp only at V ⊢
  obtain ⟨a0, a1, a2, _, _, _⟩ := A0.cells
  go_enter Tryz.func50, Tryz.ntmps50
  go_wp2_with fail
  refine (V.out _).mono ?_
  rintro e w1 ⟨rfl, g1⟩
  have hb1 := Nb hb0 g1
  have A1 := A0.bt g1
  clear a0 a1 a2 A0 hb0 g1
  obtain ⟨a0, a1, a2, _, _, _⟩ := A1.cells
  go_wp2_with fail
  refine (DV.out _).mono ?_
  rintro e w2 ⟨rfl, g2⟩
  have hb2 := Nb hb1 g2
  have A2 := A1.bt g2
  clear a0 a1 a2 A1 hb1 g2
  obtain ⟨a0, a1, a2, _, _, _⟩ := A2.cells
  go_wp2_with fail
  refine (AD.out _).mono ?_
  rintro e w3 ⟨rfl, g3⟩
  have hb3 := Nb hb2 g3
  have A3 := A2.bt g3
  clear a0 a1 a2 A2 hb2 g3
  obtain ⟨a0, a1, a2, _, _, _⟩ := A3.cells
  go_wp2_with fail
  refine (SB.out _).mono ?_
  rintro e w4 ⟨rfl, g4⟩
  have hb4 := Nb hb3 g4
  have A4 := A3.bt g4
  clear a0 a1 a2 A3 hb3 g4
  obtain ⟨a0, a1, a2, _, _, _⟩ := A4.cells
  go_wp2_with fail
  refine (I.out _).mono ?_
  rintro e w5 ⟨rfl, g5⟩
  have hb5 := Nb hb4 g5
  have A5 := A4.bt g5
  clear a0 a1 a2 A4 hb4 g5
  obtain ⟨a0, a1, a2, _, _, _⟩ := A5.cells
  go_wp2_with fail
  go_ret2
  exact ⟨rfl, hb5⟩

set_option maxHeartbeats 1000000 in
theorem rcm_err (a b : R3) (s3 : Bool) (n3 d3 : ByteArray) (n : Int) (he : n ≠ 0) (he2 : (n == 0) = false) (w : World)
    (O : Hid (∀ v, Calls Tryz.prog 51 #[rV a, rV b] v fun e w' => e = .returned (.tuple #[rV (s3, n3, d3), .int .i64 n]) ∧ Below v.heap.size v w')) :
    Calls Tryz.prog 52 #[rV a, rV b] w fun e w' => e = .returned (.tuple #[.int .i64 0, .int .i64 n]) ∧ Below w.heap.size w w' := by
  obtain ⟨s1, n1, d1⟩ := a
  obtain ⟨s2, n2, d2⟩ := b
  obtain ⟨hb2, A2, D2⟩ := startB w (s1, n1, d1) (s2, n2, d2) _ rfl
  unfold ob at hb2 A2 D2
  unfold rV at O ⊢
  simp only at O hb2 A2 D2 ⊢
  obtain ⟨a0, a1, a2, _, _, _⟩ := A2.cells
  obtain ⟨b0, b1, b2, _, _, _⟩ := D2.cells
  go_enter Tryz.func52, Tryz.ntmps52
  go_wp2_with fail
  refine (O.out _).mono ?_
  rintro e w4 ⟨rfl, g4⟩
  have hb4 := Nb hb2 g4
  have X5 := At.new w4 s3 n3 d3
  have hb5 := Nb hb4 (al w4 (.cells #[.bool s3, .string n3, .string d3] 32))
  clear a0 a1 a2 b0 b1 b2 A2 D2 hb2
  obtain ⟨x0, x1, x2, _, _, _⟩ := X5.cells
  go_wp2_with fail
  go_ret2
  exact ⟨rfl, hb5⟩

set_option maxHeartbeats 1000000 in
theorem rcm_zero (a b : R3) (s3 : Bool) (n3 d3 : ByteArray) (z : (n3.toList == [48]) = true) (w : World)
    (O : Hid (∀ v, Calls Tryz.prog 51 #[rV a, rV b] v fun e w' => e = .returned (.tuple #[rV (s3, n3, d3), .int .i64 0]) ∧ Below v.heap.size v w')) :
    Calls Tryz.prog 52 #[rV a, rV b] w fun e w' => e = .returned (.tuple #[.int .i64 0, .int .i64 0]) ∧ Below w.heap.size w w' := by
  obtain ⟨s1, n1, d1⟩ := a
  obtain ⟨s2, n2, d2⟩ := b
  obtain ⟨hb2, A2, D2⟩ := startB w (s1, n1, d1) (s2, n2, d2) _ rfl
  unfold ob at hb2 A2 D2
  unfold rV at O ⊢
  simp only at O hb2 A2 D2 ⊢
  obtain ⟨a0, a1, a2, _, _, _⟩ := A2.cells
  obtain ⟨b0, b1, b2, _, _, _⟩ := D2.cells
  go_enter Tryz.func52, Tryz.ntmps52
  go_wp2_with fail
  refine (O.out _).mono ?_
  rintro e w4 ⟨rfl, g4⟩
  have hb4 := Nb hb2 g4
  have X5 := At.new w4 s3 n3 d3
  have hb5 := Nb hb4 (al w4 (.cells #[.bool s3, .string n3, .string d3] 32))
  clear a0 a1 a2 b0 b1 b2 A2 D2 hb2
  obtain ⟨x0, x1, x2, _, _, _⟩ := X5.cells
  go_wp2_with fail
  go_ret2
  exact ⟨rfl, hb5⟩

set_option maxHeartbeats 1000000 in
theorem rcm_neg (a b : R3) (n3 d3 : ByteArray) (z : (n3.toList == [48]) = false) (w : World)
    (O : Hid (∀ v, Calls Tryz.prog 51 #[rV a, rV b] v fun e w' => e = .returned (.tuple #[rV (true, n3, d3), .int .i64 0]) ∧ Below v.heap.size v w')) :
    Calls Tryz.prog 52 #[rV a, rV b] w fun e w' => e = .returned (.tuple #[.int .i64 (-1), .int .i64 0]) ∧ Below w.heap.size w w' := by
  obtain ⟨s1, n1, d1⟩ := a
  obtain ⟨s2, n2, d2⟩ := b
  obtain ⟨hb2, A2, D2⟩ := startB w (s1, n1, d1) (s2, n2, d2) _ rfl
  unfold ob at hb2 A2 D2
  unfold rV at O ⊢
  simp only at O hb2 A2 D2 ⊢
  obtain ⟨a0, a1, a2, _, _, _⟩ := A2.cells
  obtain ⟨b0, b1, b2, _, _, _⟩ := D2.cells
  go_enter Tryz.func52, Tryz.ntmps52
  go_wp2_with fail
  refine (O.out _).mono ?_
  rintro e w4 ⟨rfl, g4⟩
  have hb4 := Nb hb2 g4
  have X5 := At.new w4 true n3 d3
  have hb5 := Nb hb4 (al w4 (.cells #[.bool true, .string n3, .string d3] 32))
  clear a0 a1 a2 b0 b1 b2 A2 D2 hb2
  obtain ⟨x0, x1, x2, _, _, _⟩ := X5.cells
  go_wp2_with fail
  go_ret2
  exact ⟨rfl, hb5⟩

set_option maxHeartbeats 1000000 in
theorem rcm_pos (a b : R3) (n3 d3 : ByteArray) (z : (n3.toList == [48]) = false) (w : World)
    (O : Hid (∀ v, Calls Tryz.prog 51 #[rV a, rV b] v fun e w' => e = .returned (.tuple #[rV (false, n3, d3), .int .i64 0]) ∧ Below v.heap.size v w')) :
    Calls Tryz.prog 52 #[rV a, rV b] w fun e w' => e = .returned (.tuple #[.int .i64 1, .int .i64 0]) ∧ Below w.heap.size w w' := by
  obtain ⟨s1, n1, d1⟩ := a
  obtain ⟨s2, n2, d2⟩ := b
  obtain ⟨hb2, A2, D2⟩ := startB w (s1, n1, d1) (s2, n2, d2) _ rfl
  unfold ob at hb2 A2 D2
  unfold rV at O ⊢
  simp only at O hb2 A2 D2 ⊢
  obtain ⟨a0, a1, a2, _, _, _⟩ := A2.cells
  obtain ⟨b0, b1, b2, _, _, _⟩ := D2.cells
  go_enter Tryz.func52, Tryz.ntmps52
  go_wp2_with fail
  refine (O.out _).mono ?_
  rintro e w4 ⟨rfl, g4⟩
  have hb4 := Nb hb2 g4
  have X5 := At.new w4 false n3 d3
  have hb5 := Nb hb4 (al w4 (.cells #[.bool false, .string n3, .string d3] 32))
  clear a0 a1 a2 b0 b1 b2 A2 D2 hb2
  obtain ⟨x0, x1, x2, _, _, _⟩ := X5.cells
  go_wp2_with fail
  go_ret2
  exact ⟨rfl, hb5⟩

theorem rcompare_q (a b : R3) (w : World) (ha : a.2.1.size ≤ 1000 ∧ a.2.2.size ≤ 1000) (hb : b.2.1.size ≤ 1000 ∧ b.2.2.size ≤ 1000) :
    Calls Tryz.prog 52 #[rV a, rV b] w fun e w' => e = .returned (.tuple #[.int .i64 (cmpQ a b).1, .int .i64 (cmpQ a b).2]) ∧ Below w.heap.size w w' := by
  have O := fun v => rsub_q a b v ha hb
  unfold cmpQ
  unfold opQ at O
  by_cases hv : (vR a && vR b) = false
  · rw [if_pos hv]
    simp only [if_pos hv] at O
    exact rcm_err a b _ _ _ 1 (by omega) rfl w (Lib.hid O)
  · rw [if_neg hv]
    simp only [if_neg hv, Bool.false_and, Bool.false_eq_true, if_false] at O
    by_cases hl : (lg a || lg b) = true
    · rw [if_pos hl]
      simp only [if_pos hl] at O
      exact rcm_err a b _ _ _ 2 (by omega) rfl w (Lib.hid O)
    · rw [if_neg hl]
      simp only [if_neg hl] at O
      generalize qv a - qv b = q at *
      unfold sgn
      have z := tx48 q.num.natAbs
      by_cases h0 : q = 0
      · rw [if_pos h0]
        rw [decide_eq_true (abs_zero.2 h0)] at z
        exact rcm_zero a b _ _ _ z w (Lib.hid O)
      · rw [if_neg h0]
        rw [decide_eq_false (fun e => h0 (abs_zero.1 e))] at z
        unfold rf at O
        by_cases h1 : q < 0
        · rw [if_pos h1]
          rw [decide_eq_true h1] at O
          exact rcm_neg a b _ _ z w (Lib.hid O)
        · rw [if_neg h1]
          rw [decide_eq_false h1] at O
          exact rcm_pos a b _ _ z w (Lib.hid O)

theorem nint (m : Nat) (hm : m < LIM) : CallsV 86 #[.string (tx m)] (.tuple #[.int .i64 (if m < 9223372036854775808 then (m : Int) else 0), .int .i64 (if m < 9223372036854775808 then 0 else 10)]) := by
  refine Lib.hid fun v => ?_
  have := rint_any (tx m) v (sz1000 hm)
  unfold intF at this
  rw [isB_txl hm, if_pos rfl, nv_tx] at this
  by_cases h : m < 9223372036854775808
  · rw [if_pos h] at this
    rw [if_pos h, if_pos h]
    exact this
  · rw [if_neg h] at this
    rw [if_neg h, if_neg h]
    exact this
theorem ndiv (m n : Nat) (hm : m < LIM) (hn : n < LIM) (h0 : n ≠ 0) : CallsV 85 #[.string (tx m), .string (tx n)] (.tuple #[.string (tx (m / n)), .string (tx (m % n)), .int .i64 0]) := by
  refine Lib.hid fun v => ?_
  have := rdiv_any (tx m) (tx n) v (sz1000 hm) (sz1000 hn)
  rw [divF_ok m n hm hn h0] at this
  exact this
theorem ceil_zero (m d : Nat) (hd : 0 < d) (hm : 1 ≤ m) (h : m % d = 0) : m / d - 1 = (m - 1) / d ∧ 1 ≤ m / d := by
  have e := Nat.div_add_mod m d
  rw [h, Nat.add_zero] at e
  generalize hk : m / d = k at *
  have hk1 : 1 ≤ k := by
    rcases Nat.eq_zero_or_pos k with rfl | h
    · simp at e; omega
    · exact h
  refine ⟨?_, hk1⟩
  obtain ⟨j, rfl⟩ : ∃ j, k = j + 1 := ⟨k - 1, by omega⟩
  rw [Nat.mul_add, Nat.mul_one] at e
  rw [show m - 1 = (d - 1) + d * j by omega, Nat.add_mul_div_left _ _ hd, Nat.div_eq_of_lt (by omega)]
  omega
theorem ceil_pos (m d : Nat) (hd : 0 < d) (h : m % d ≠ 0) : m / d = (m - 1) / d ∧ m / d + 1 ≤ m := by
  have e := Nat.div_add_mod m d
  have l := Nat.mod_lt m hd
  generalize m / d = k at *
  generalize m % d = r at *
  refine ⟨?_, ?_⟩
  · rw [show m - 1 = (r - 1) + d * k by omega, Nat.add_mul_div_left _ _ hd, Nat.div_eq_of_lt (by omega)]
    omega
  · have : 1 * k ≤ d * k := Nat.mul_le_mul_right k hd
    omega

theorem rfloor_q (a : R3) (w : World) (ha : a.2.1.size ≤ 1000 ∧ a.2.2.size ≤ 1000) :
    Calls Tryz.prog 50 #[rV a] w fun e w' => e = .returned (.tuple #[.int .i64 (floorF a).1, .int .i64 (floorF a).2]) ∧ Below w.heap.size w w' := by
  have V := Lib.hid (fun v => rvalid_any a v ha.1 ha.2)
  unfold floorF
  cases hv : vR a
  · rw [hv] at V
    rw [if_pos rfl]
    exact rfl_no _ _ _ w V
  · rw [hv] at V
    rw [if_neg (by simp)]
    obtain ⟨q, hq, rfl⟩ := vR_ex hv
    rw [qv_rf]
    have hd : 0 < q.den := Nat.pos_of_ne_zero q.den_nz
    have DV := ndiv q.num.natAbs q.den hq.1 hq.2 q.den_nz
    have l0 : q.num.natAbs / q.den < LIM := Nat.lt_of_le_of_lt (Nat.div_le_self _ _) hq.1
    have one : 1 < LIM := small (by decide)
    unfold rf at V ⊢
    by_cases h0 : q < 0
    · obtain ⟨e1, e2⟩ := floor_neg' q h0
      rw [decide_eq_true h0] at V ⊢
      have l2 : (q.num.natAbs - 1) / q.den < LIM := Nat.lt_of_le_of_lt (Nat.div_le_self _ _) (by have := hq.1; omega)
      have I := nint _ l2
      rw [e1]
      have z := tx48 (q.num.natAbs % q.den)
      by_cases hr : q.num.natAbs % q.den = 0
      · rw [decide_eq_true hr] at z
        obtain ⟨c1, c2⟩ := ceil_zero _ _ hd e2 hr
        have SB := nsub (q.num.natAbs / q.den) 1 l0 one c2
        rw [c1, tx_one] at SB
        by_cases h1 : (q.num.natAbs - 1) / q.den < 9223372036854775808
        · rw [if_pos h1, if_pos h1] at I
          rw [if_pos (by generalize (q.num.natAbs - 1) / q.den = k at *; omega)]
          have hk : (0 : Int) ≤ (((q.num.natAbs - 1) / q.den : Nat) : Int) ∧ (((q.num.natAbs - 1) / q.den : Nat) : Int) ≤ 9223372036854775807 := by
            clear e1 I
            generalize (q.num.natAbs - 1) / q.den = k at h1 ⊢
            omega
          rw [show ∀ k : Int, -1 - k = -k - 1 from fun k => by omega]
          exact rfl_neg0 _ _ _ _ _ _ z hk w V DV SB I
        · rw [if_neg h1, if_neg h1] at I
          rw [if_neg (by generalize (q.num.natAbs - 1) / q.den = k at *; omega)]
          exact rfl_neg0bad _ _ _ _ _ z w V DV SB I
      · rw [decide_eq_false hr] at z
        obtain ⟨c1, c2⟩ := ceil_pos _ _ hd hr
        have AD := nadd (q.num.natAbs / q.den) 1 l0 one (by have := hq.1; omega)
        have SB := nsub (q.num.natAbs / q.den + 1) 1 (by have := hq.1; omega) one (Nat.le_add_left 1 _)
        rw [Nat.add_sub_cancel, c1, tx_one] at SB
        rw [c1, tx_one] at AD
        rw [c1] at DV
        by_cases h1 : (q.num.natAbs - 1) / q.den < 9223372036854775808
        · rw [if_pos h1, if_pos h1] at I
          rw [if_pos (by generalize (q.num.natAbs - 1) / q.den = k at *; omega)]
          have hk : (0 : Int) ≤ (((q.num.natAbs - 1) / q.den : Nat) : Int) ∧ (((q.num.natAbs - 1) / q.den : Nat) : Int) ≤ 9223372036854775807 := by
            clear e1 I
            generalize (q.num.natAbs - 1) / q.den = k at h1 ⊢
            omega
          rw [show ∀ k : Int, -1 - k = -k - 1 from fun k => by omega]
          exact rfl_neg1 _ _ _ _ _ _ _ z hk w V DV AD SB I
        · rw [if_neg h1, if_neg h1] at I
          rw [if_neg (by generalize (q.num.natAbs - 1) / q.den = k at *; omega)]
          exact rfl_neg1bad _ _ _ _ _ _ z w V DV AD SB I
    · have e1 := floor_nonneg q h0
      rw [decide_eq_false h0] at V ⊢
      have I := nint _ l0
      rw [e1]
      by_cases h1 : q.num.natAbs / q.den < 9223372036854775808
      · rw [if_pos h1, if_pos h1] at I
        rw [if_pos (by generalize q.num.natAbs / q.den = k at *; omega)]
        exact rfl_pos _ _ _ _ _ w V DV I
      · rw [if_neg h1, if_neg h1] at I
        rw [if_neg (by generalize q.num.natAbs / q.den = k at *; omega)]
        exact rfl_posbad _ _ _ _ w V DV I
end Go.Proofs.YtkbncdcphohmiaaGreatDoor
