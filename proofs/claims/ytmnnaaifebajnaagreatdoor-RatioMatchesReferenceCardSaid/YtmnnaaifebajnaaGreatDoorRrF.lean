/- The reference of layer 5: Add, Sub, Mul, Div at all numbers. -/
import Derived.Test.YtmnnaaifebajnaaGreatDoorRrD
import Derived.Test.YtmnnaaifebajnaaGreatDoorRrE
import Derived.Test.YtmnnaaifebajnaaGreatDoorRaQ
set_option linter.unusedSimpArgs false
set_option linter.unusedVariables false
namespace Go.Proofs.YtmnnaaifebajnaaGreatDoor
open Go.RowKit
open Ra (Fit)
set_option maxRecDepth 100000

abbrev CallsV (f : Nat) (args : Array Value) (v : Value) : Prop := Hid (∀ W, Calls Tryz.prog f args W fun e w' => e = .returned v ∧ Below W.heap.size W w')
theorem sz1000 {m : Nat} (h : m < LIM) : (tx m).size ≤ 1000 := by have := sz300 h; omega
theorem nmul (m n : Nat) (hm : m < LIM) (hn : n < LIM) (h : m * n < LIM) : CallsV 45 #[.string (tx m), .string (tx n)] (.tuple #[.string (tx (m * n)), .int .i64 0]) := by
  refine Lib.hid fun v => ?_
  have := rmul_any (tx m) (tx n) v (sz1000 hm) (sz1000 hn)
  rw [opF_ok _ _ _ (isB_txl hm) (isB_txl hn) (by rw [nv_tx, nv_tx]; exact h), nv_tx, nv_tx] at this
  exact this
theorem nadd (m n : Nat) (hm : m < LIM) (hn : n < LIM) (h : m + n < LIM) : CallsV 46 #[.string (tx m), .string (tx n)] (.tuple #[.string (tx (m + n)), .int .i64 0]) := by
  refine Lib.hid fun v => ?_
  have := radd_any (tx m) (tx n) v (sz1000 hm) (sz1000 hn)
  rw [opF_ok _ _ _ (isB_txl hm) (isB_txl hn) (by rw [nv_tx, nv_tx]; exact h), nv_tx, nv_tx] at this
  exact this
theorem nsub (m n : Nat) (hm : m < LIM) (hn : n < LIM) (h : n ≤ m) : CallsV 48 #[.string (tx m), .string (tx n)] (.tuple #[.string (tx (m - n)), .int .i64 0]) := by
  refine Lib.hid fun v => ?_
  have := rsub_any (tx m) (tx n) v (sz1000 hm) (sz1000 hn)
  rw [show subF (tx m) (tx n) = (tx (m - n), 0) by unfold subF; rw [isB_txl hm, isB_txl hn, nv_tx, nv_tx, Bool.and_self, if_pos rfl, if_neg (by omega)]] at this
  exact this
theorem ncmp (m n : Nat) (hm : m < LIM) (hn : n < LIM) : CallsV 47 #[.string (tx m), .string (tx n)] (.tuple #[.int .i64 (cmpN m n), .int .i64 0]) := by
  refine Lib.hid fun v => ?_
  have := rcompare_any (tx m) (tx n) v (sz1000 hm) (sz1000 hn)
  rw [show cmpF (tx m) (tx n) = (cmpN m n, 0) by unfold cmpF; rw [isB_txl hm, isB_txl hn, nv_tx, nv_tx, Bool.and_self, if_pos rfl]] at this
  exact this

theorem ml (n : ByteArray) (h : n.size ≤ 1000) : n.size ≤ maxLen := by unfold maxLen; omega
theorem q_bad (f : Rat → Rat → Rat) (z : Bool) (a b : R3) (h : (vR a && vR b) = false) : opQ f z a b = (zeroR, 1) := by unfold opQ; rw [if_pos h]

theorem radd_rat (p q : Rat) (hp : Fit LIM p) (hq : Fit LIM q) (w : World) :
    Calls Tryz.prog 15 #[rV (rf p), rV (rf q)] w fun e w' => e = .returned (.tuple #[rV (opQ (· + ·) false (rf p) (rf q)).1, .int .i64 (opQ (· + ·) false (rf p) (rf q)).2]) ∧ Below w.heap.size w w' := by
  have k1 : (rf p).2.1.size ≤ 1000 := sz1000 hp.1
  have k2 : (rf p).2.2.size ≤ 1000 := sz1000 hp.2
  have j1 : (rf q).2.1.size ≤ 1000 := sz1000 hq.1
  have j2 : (rf q).2.2.size ≤ 1000 := sz1000 hq.2
  have VA := Lib.hid (fun v => rvalid_any (rf p) v k1 k2)
  have VB := Lib.hid (fun v => rvalid_any (rf q) v j1 j2)
  have LA := Lib.hid (fun v => rlong (rf p) v (ml _ k1) (ml _ k2))
  have LB := Lib.hid (fun v => rlong (rf q) v (ml _ j1) (ml _ j2))
  have vp := (vR_rf p).2 hp
  have vq := (vR_rf q).2 hq
  rw [vp] at VA
  rw [vq] at VB
  unfold opQ
  rw [vp, vq, qv_rf, qv_rf, if_neg (by simp), if_neg (by simp)]
  cases hl1 : lg (rf p)
  rotate_left
  · rw [hl1] at LA
    rw [Bool.true_or, if_pos rfl]
    exact radd_l1 _ _ _ _ _ _ w VA VB LA
  cases hl2 : lg (rf q)
  rotate_left
  · rw [hl1] at LA
    rw [hl2] at LB
    rw [Bool.or_true, if_pos rfl]
    exact radd_l2 _ _ _ _ _ _ w VA VB LA LB
  rw [hl1] at LA
  rw [hl2] at LB
  rw [Bool.or_false, if_neg (by simp)]
  dsimp only
  have l1 := (lg_rf p).1 hl1
  have l2 := (lg_rf q).1 hl2
  have h1 : p.num.natAbs * q.den < L140 * L140 := Ra.mul_lt l1.1 l2.2
  have h2 : q.num.natAbs * p.den < L140 * L140 := Ra.mul_lt l2.1 l1.2
  have h3 : p.den * q.den < L140 * L140 := Ra.mul_lt l1.2 l2.2
  have h4 := two_lim
  have hd : p.den ≠ 0 := p.den_nz
  have hd' : q.den ≠ 0 := q.den_nz
  have hm : p.den * q.den ≠ 0 := Nat.mul_ne_zero hd hd'
  have ep := Ra.mk_self p
  have eq := Ra.mk_self q
  have g1 := Ra.mk_add_same (decide (p < 0)) p.num.natAbs p.den q.num.natAbs q.den hd hd'
  have g2 := Ra.mk_add_ge (decide (p < 0)) p.num.natAbs p.den q.num.natAbs q.den hd hd'
  have g3 := Ra.mk_add_le (decide (p < 0)) p.num.natAbs p.den q.num.natAbs q.den hd hd'
  have M1 := nmul p.num.natAbs q.den hp.1 hq.2 (by omega)
  have M2 := nmul q.num.natAbs p.den hq.1 hp.2 (by omega)
  have M3 := nmul p.den q.den hp.2 hq.2 (by omega)
  obtain ⟨X, hX⟩ : ∃ X, X = p.num.natAbs * q.den := ⟨_, rfl⟩
  obtain ⟨Y, hY⟩ : ∃ Y, Y = q.num.natAbs * p.den := ⟨_, rfl⟩
  obtain ⟨D, hD⟩ : ∃ D, D = p.den * q.den := ⟨_, rfl⟩
  rw [← hX] at h1 M1 g1 g2 g3
  rw [← hY] at h2 M2 g1 g2 g3
  rw [← hD] at h3 M3 g1 g2 g3 hm
  by_cases hs : decide (q < 0) = decide (p < 0)
  · rw [← hs, eq] at g1
    rw [hs, ep] at g1
    rw [g1]
    have AD := nadd X Y (by omega) (by omega) (by omega)
    have RD := Lib.hid (fun v => rreduce (decide (p < 0)) (X + Y) D v (by omega) (by omega) hm)
    have VB' : CallsV 17 #[rV (decide (p < 0), tx q.num.natAbs, tx q.den)] (.bool true) := by rw [← hs]; exact VB
    have LB' : CallsV 44 #[rV (decide (p < 0), tx q.num.natAbs, tx q.den)] (.bool false) := by rw [← hs]; exact LB
    have := radd_same (decide (p < 0)) (tx p.num.natAbs) (tx p.den) (tx q.num.natAbs) (tx q.den) (tx X) (tx Y) (tx D) (tx (X + Y)) _ _ _ w VA VB' LA LB' M1 M2 M3 AD RD
    rw [show rf q = (decide (p < 0), tx q.num.natAbs, tx q.den) by rw [← hs]; rfl]
    exact this
  · have hs2 : decide (q < 0) = !decide (p < 0) := by
      cases k1 : decide (p < 0) <;> cases k2 : decide (q < 0) <;> simp_all
    have VB' : CallsV 17 #[rV (!decide (p < 0), tx q.num.natAbs, tx q.den)] (.bool true) := by rw [← hs2]; exact VB
    have LB' : CallsV 44 #[rV (!decide (p < 0), tx q.num.natAbs, tx q.den)] (.bool false) := by rw [← hs2]; exact LB
    have CM := ncmp X Y (by omega) (by omega)
    rw [ep, ← hs2, eq] at g2 g3
    rw [show rf q = (!decide (p < 0), tx q.num.natAbs, tx q.den) by rw [← hs2]; rfl]
    by_cases hc : X < Y
    · rw [show cmpN X Y = -1 by unfold cmpN; rw [if_pos hc]] at CM
      rw [g3 (by omega), hs2]
      have SU := nsub Y X (by omega) (by omega) (by omega)
      have RD := Lib.hid (fun v => rreduce (!decide (p < 0)) (Y - X) D v (by omega) (by omega) hm)
      exact radd_less (decide (p < 0)) (tx p.num.natAbs) (tx p.den) (tx q.num.natAbs) (tx q.den) (-1) (by omega) (tx X) (tx Y) (tx D) (tx (Y - X)) _ _ _ w VA VB' LA LB' M1 M2 M3 CM SU RD
    · rw [g2 (by omega)]
      have SU := nsub X Y (by omega) (by omega) (by omega)
      have RD := Lib.hid (fun v => rreduce (decide (p < 0)) (X - Y) D v (by omega) (by omega) hm)
      exact radd_more (decide (p < 0)) (tx p.num.natAbs) (tx p.den) (tx q.num.natAbs) (tx q.den) _ (cmp_ge X Y hc) (tx X) (tx Y) (tx D) (tx (X - Y)) _ _ _ w VA VB' LA LB' M1 M2 M3 CM SU RD

theorem rmul_rat (p q : Rat) (hp : Fit LIM p) (hq : Fit LIM q) (w : World) :
    Calls Tryz.prog 21 #[rV (rf p), rV (rf q)] w fun e w' => e = .returned (.tuple #[rV (opQ (· * ·) false (rf p) (rf q)).1, .int .i64 (opQ (· * ·) false (rf p) (rf q)).2]) ∧ Below w.heap.size w w' := by
  have k1 : (rf p).2.1.size ≤ 1000 := sz1000 hp.1
  have k2 : (rf p).2.2.size ≤ 1000 := sz1000 hp.2
  have j1 : (rf q).2.1.size ≤ 1000 := sz1000 hq.1
  have j2 : (rf q).2.2.size ≤ 1000 := sz1000 hq.2
  have VA := Lib.hid (fun v => rvalid_any (rf p) v k1 k2)
  have VB := Lib.hid (fun v => rvalid_any (rf q) v j1 j2)
  have LA := Lib.hid (fun v => rlong (rf p) v (ml _ k1) (ml _ k2))
  have LB := Lib.hid (fun v => rlong (rf q) v (ml _ j1) (ml _ j2))
  have vp := (vR_rf p).2 hp
  have vq := (vR_rf q).2 hq
  rw [vp] at VA
  rw [vq] at VB
  unfold opQ
  rw [vp, vq, qv_rf, qv_rf, if_neg (by simp), if_neg (by simp)]
  cases hl1 : lg (rf p)
  rotate_left
  · rw [hl1] at LA
    rw [Bool.true_or, if_pos rfl]
    exact rmul_l1 _ _ _ _ _ _ w VA VB LA
  cases hl2 : lg (rf q)
  rotate_left
  · rw [hl1] at LA
    rw [hl2] at LB
    rw [Bool.or_true, if_pos rfl]
    exact rmul_l2 _ _ _ _ _ _ w VA VB LA LB
  rw [hl1] at LA
  rw [hl2] at LB
  rw [Bool.or_false, if_neg (by simp)]
  dsimp only
  have l1 := (lg_rf p).1 hl1
  have l2 := (lg_rf q).1 hl2
  have h1 : p.num.natAbs * q.num.natAbs < L140 * L140 := Ra.mul_lt l1.1 l2.1
  have h3 : p.den * q.den < L140 * L140 := Ra.mul_lt l1.2 l2.2
  have h4 := two_lim
  have hm : p.den * q.den ≠ 0 := Nat.mul_ne_zero p.den_nz q.den_nz
  rw [← prodR_mk p q]
  have M1 := nmul p.num.natAbs q.num.natAbs hp.1 hq.1 (by omega)
  have M2 := nmul p.den q.den hp.2 hq.2 (by omega)
  have RD := Lib.hid (fun v => rreduce (decide (p < 0) != decide (q < 0)) (p.num.natAbs * q.num.natAbs) (p.den * q.den) v (by omega) (by omega) hm)
  exact rmul_ok (decide (p < 0)) (decide (q < 0)) (tx p.num.natAbs) (tx p.den) (tx q.num.natAbs) (tx q.den) _ _ _ _ _ w VA VB LA LB M1 M2 RD

theorem radd_q (a b : R3) (w : World) (ha : a.2.1.size ≤ 1000 ∧ a.2.2.size ≤ 1000) (hb : b.2.1.size ≤ 1000 ∧ b.2.2.size ≤ 1000) :
    Calls Tryz.prog 15 #[rV a, rV b] w fun e w' => e = .returned (.tuple #[rV (opQ (· + ·) false a b).1, .int .i64 (opQ (· + ·) false a b).2]) ∧ Below w.heap.size w w' := by
  have VA := Lib.hid (fun v => rvalid_any a v ha.1 ha.2)
  have VB := Lib.hid (fun v => rvalid_any b v hb.1 hb.2)
  cases hva : vR a
  · rw [hva] at VA
    rw [q_bad _ _ _ _ (by rw [hva]; rfl)]
    exact radd_v1 _ _ _ _ _ _ w VA
  cases hvb : vR b
  · rw [hva] at VA
    rw [hvb] at VB
    rw [q_bad _ _ _ _ (by rw [hva, hvb]; rfl)]
    exact radd_v2 _ _ _ _ _ _ w VA VB
  obtain ⟨p, hp, rfl⟩ := vR_ex hva
  obtain ⟨q, hq, rfl⟩ := vR_ex hvb
  exact radd_rat p q hp hq w

theorem rmul_q (a b : R3) (w : World) (ha : a.2.1.size ≤ 1000 ∧ a.2.2.size ≤ 1000) (hb : b.2.1.size ≤ 1000 ∧ b.2.2.size ≤ 1000) :
    Calls Tryz.prog 21 #[rV a, rV b] w fun e w' => e = .returned (.tuple #[rV (opQ (· * ·) false a b).1, .int .i64 (opQ (· * ·) false a b).2]) ∧ Below w.heap.size w w' := by
  have VA := Lib.hid (fun v => rvalid_any a v ha.1 ha.2)
  have VB := Lib.hid (fun v => rvalid_any b v hb.1 hb.2)
  cases hva : vR a
  · rw [hva] at VA
    rw [q_bad _ _ _ _ (by rw [hva]; rfl)]
    exact rmul_v1 _ _ _ _ _ _ w VA
  cases hvb : vR b
  · rw [hva] at VA
    rw [hvb] at VB
    rw [q_bad _ _ _ _ (by rw [hva, hvb]; rfl)]
    exact rmul_v2 _ _ _ _ _ _ w VA VB
  obtain ⟨p, hp, rfl⟩ := vR_ex hva
  obtain ⟨q, hq, rfl⟩ := vR_ex hvb
  exact rmul_rat p q hp hq w

theorem q_sub (p q : Rat) (hp : Fit LIM p) (hq : Fit LIM q) : opQ (· + ·) false (rf p) (rf (-q)) = opQ (· - ·) false (rf p) (rf q) := by
  unfold opQ
  rw [(vR_rf p).2 hp, (vR_rf q).2 hq, (vR_rf (-q)).2 hq.neg, lg_neg, qv_rf, qv_rf, qv_rf]
  simp [Rat.sub_eq_add_neg]

theorem rsub_q (a b : R3) (w : World) (ha : a.2.1.size ≤ 1000 ∧ a.2.2.size ≤ 1000) (hb : b.2.1.size ≤ 1000 ∧ b.2.2.size ≤ 1000) :
    Calls Tryz.prog 19 #[rV a, rV b] w fun e w' => e = .returned (.tuple #[rV (opQ (· - ·) false a b).1, .int .i64 (opQ (· - ·) false a b).2]) ∧ Below w.heap.size w w' := by
  have VA := Lib.hid (fun v => rvalid_any a v ha.1 ha.2)
  have VB := Lib.hid (fun v => rvalid_any b v hb.1 hb.2)
  cases hva : vR a
  · rw [hva] at VA
    rw [q_bad _ _ _ _ (by rw [hva]; rfl)]
    exact rsub_v1 _ _ _ _ _ _ w VA
  cases hvb : vR b
  · rw [hva] at VA
    rw [hvb] at VB
    rw [q_bad _ _ _ _ (by rw [hva, hvb]; rfl)]
    exact rsub_v2 _ _ _ _ _ _ w VA VB
  rw [hva] at VA
  rw [hvb] at VB
  obtain ⟨p, hp, rfl⟩ := vR_ex hva
  obtain ⟨q, hq, rfl⟩ := vR_ex hvb
  have NG := Lib.hid (fun v => rneg q v)
  have AD := Lib.hid (fun v => radd_rat p (-q) hp hq.neg v)
  rw [q_sub p q hp hq] at AD
  exact rsub_ok _ _ _ _ _ _ _ _ _ _ _ _ _ w VA VB NG AD

theorem rec_rf (q : Rat) (h0 : q ≠ 0) : recR q = rf q⁻¹ := by
  have hn : q.num.natAbs ≠ 0 := fun e => h0 (abs_zero.1 e)
  have e := Ra.mk_inv (decide (q < 0)) q.num.natAbs q.den hn q.den_nz
  rw [Ra.mk_self] at e
  rw [← e, rf_mk _ _ _ hn, Nat.gcd_comm, Ra.self_gcd, Nat.div_one, Nat.div_one]
  unfold recR
  rw [decide_eq_false q.den_nz, Bool.not_false, Bool.and_true]
theorem q_div (p q : Rat) (hp : Fit LIM p) (hq : Fit LIM q) (h0 : q ≠ 0) : opQ (· * ·) false (rf p) (rf q⁻¹) = opQ (· / ·) true (rf p) (rf q) := by
  have h1 : lg (rf q⁻¹) = lg (rf q) := by rw [← rec_rf q h0]; exact lg_rec q
  unfold opQ
  rw [(vR_rf p).2 hp, (vR_rf q).2 hq, (vR_rf q⁻¹).2 (hq.inv h0), h1, qv_rf, qv_rf, qv_rf]
  simp [h0, Rat.div_def]

theorem rdiv_q (a b : R3) (w : World) (ha : a.2.1.size ≤ 1000 ∧ a.2.2.size ≤ 1000) (hb : b.2.1.size ≤ 1000 ∧ b.2.2.size ≤ 1000) :
    Calls Tryz.prog 23 #[rV a, rV b] w fun e w' => e = .returned (.tuple #[rV (opQ (· / ·) true a b).1, .int .i64 (opQ (· / ·) true a b).2]) ∧ Below w.heap.size w w' := by
  have VA := Lib.hid (fun v => rvalid_any a v ha.1 ha.2)
  have VB := Lib.hid (fun v => rvalid_any b v hb.1 hb.2)
  cases hva : vR a
  · rw [hva] at VA
    rw [q_bad _ _ _ _ (by rw [hva]; rfl)]
    exact rdiv_v1 _ _ _ _ _ _ w VA
  cases hvb : vR b
  · rw [hva] at VA
    rw [hvb] at VB
    rw [q_bad _ _ _ _ (by rw [hva, hvb]; rfl)]
    exact rdiv_v2 _ _ _ _ _ _ w VA VB
  rw [hva] at VA
  rw [hvb] at VB
  obtain ⟨p, hp, rfl⟩ := vR_ex hva
  obtain ⟨q, hq, rfl⟩ := vR_ex hvb
  have z := tx48 q.num.natAbs
  by_cases h0 : q = 0
  · rw [decide_eq_true (abs_zero.2 h0)] at z
    rw [show opQ (· / ·) true (rf p) (rf q) = (zeroR, 15) by
      unfold opQ
      rw [hva, hvb, qv_rf, qv_rf, if_neg (by simp), if_pos (by rw [h0]; rfl)]]
    exact rdiv_zero _ _ _ _ _ _ z w VA VB
  · rw [decide_eq_false (fun e => h0 (abs_zero.1 e))] at z
    have MU := Lib.hid (fun v => rmul_rat p q⁻¹ hp (hq.inv h0) v)
    rw [q_div p q hp hq h0, ← rec_rf q h0] at MU
    exact rdiv_ok _ _ _ _ _ _ z _ _ _ _ w VA VB MU
end Go.Proofs.YtmnnaaifebajnaaGreatDoor
