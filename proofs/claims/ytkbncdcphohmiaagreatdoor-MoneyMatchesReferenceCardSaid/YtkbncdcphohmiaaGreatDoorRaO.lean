/- Package ratio: Add, Sub, Mul, Div at all numbers. -/
import Derived.Test.YtkbncdcphohmiaaGreatDoorRaSV
import Derived.Test.YtkbncdcphohmiaaGreatDoorRaAF
import Derived.Test.YtkbncdcphohmiaaGreatDoorRaGG
set_option linter.unusedSimpArgs false
set_option linter.unusedVariables false
namespace Go.Proofs.YtkbncdcphohmiaaGreatDoor
open Go.RowKit
open Ra (Fit)
set_option maxRecDepth 100000

def lg (r : R3) : Bool := decide (140 < r.2.1.size) || decide (140 < r.2.2.size)
theorem lg_rf (q : Rat) : lg (rf q) = false ↔ Fit L140 q := by
  unfold lg L140
  rw [Bool.or_eq_false_iff, decide_eq_false_iff_not, decide_eq_false_iff_not]
  have := fit_size (q := q) (k := 140) (by omega)
  constructor
  · intro h
    exact this.1 ⟨by omega, by omega⟩
  · intro h
    have := this.2 h
    omega
theorem lg_neg (q : Rat) : lg (rf (-q)) = lg (rf q) := by
  unfold lg rf
  simp only [Rat.neg_num, Rat.neg_den, Int.natAbs_neg]
def limT (b : Bool) (r : R3) : R3 × Int := if b then (zeroR, 2) else (r, 0)

theorem of_bad (ft fj : Nat) (a b : R3) (w : World) (hP : Pw w.heap.size w) (ha : a.2.1.size ≤ maxLen ∧ a.2.2.size ≤ maxLen) (hb : b.2.1.size ≤ maxLen ∧ b.2.2.size ≤ maxLen) (h : (vR a && vR b) = false) :
    Calls Tryz.prog 61 #[oV ft fj, rV a, rV b] w fun e w' => e = .returned (.tuple #[rV zeroR, .int .i64 1]) ∧ Below w.heap.size w w' := by
  have VA := Lib.hid (fun v (h : Below w.heap.size w v) => valid_any a v (hP.bt h) ha.1 ha.2)
  have VB := Lib.hid (fun v (h : Below w.heap.size w v) => valid_any b v (hP.bt h) hb.1 hb.2)
  obtain ⟨s, x, z⟩ := a
  obtain ⟨t, y, u⟩ := b
  cases h1 : vR (s, x, z)
  · rw [h1] at VA
    exact of_bad1 ft fj s t x z y u w VA
  · rw [h1, Bool.true_and] at h
    rw [h1] at VA
    rw [h] at VB
    exact of_bad2 ft fj s t x z y u w VA VB

theorem prod_lt {p q r t : Nat} (h1 : p < L140) (h2 : q < L140) (h3 : r < L140) (h4 : t < L140) : p * q < LIM ∧ r * t < LIM := ⟨mul_lim h1 h2, mul_lim h3 h4⟩
def prodR (p q : Rat) : R3 := (decide (p < 0) != decide (q < 0), tx (p.num.natAbs * q.num.natAbs), tx (p.den * q.den))
def quotR (p q : Rat) : R3 := (decide (p < 0) != decide (q < 0), tx (p.num.natAbs * q.den), tx (p.den * q.num.natAbs))
def recR (q : Rat) : R3 := (decide (q < 0), tx q.den, tx q.num.natAbs)
theorem lg_rec (q : Rat) : lg (recR q) = lg (rf q) := by
  unfold lg recR rf
  rw [Bool.or_comm]

theorem of_add (p q : Rat) (w : World) (hP : Pw w.heap.size w) (hp : Fit LIM p) (hq : Fit LIM q) :
    Calls Tryz.prog 61 #[oV 59 62, rV (rf p), rV (rf q)] w fun e w' => e = .returned (.tuple #[rV (limT (lg (rf p) || lg (rf q)) (sumR p q)).1, .int .i64 (limT (lg (rf p) || lg (rf q)) (sumR p q)).2]) ∧ Below w.heap.size w w' := by
  have kp := rf_len hp
  have kq := rf_len hq
  have VA := Lib.hid (fun v (h : Below w.heap.size w v) => valid_any (rf p) v (hP.bt h) kp.1 kp.2)
  have VB := Lib.hid (fun v (h : Below w.heap.size w v) => valid_any (rf q) v (hP.bt h) kq.1 kq.2)
  rw [(vR_rf p).2 hp] at VA
  rw [(vR_rf q).2 hq] at VB
  have TN : Hid (∀ v, Below w.heap.size w v → Calls Tryz.prog 59 #[rV (rf q)] v fun e w' => e = .returned (rV (rf q)) ∧ Below v.heap.size v w') := Lib.hid (fun v h => same_any _ _ _ v)
  have kt : (rf q).2.1.size ≤ maxLen ∧ (rf q).2.2.size ≤ maxLen := by
    exact kq
  have LA := Lib.hid (fun v (h : Below w.heap.size w v) => isLong_any (rf p).1 (rf p).2.1 (rf p).2.2 (lg (rf p)) v rfl kp.1 kp.2)
  have LB := Lib.hid (fun v (h : Below w.heap.size w v) => isLong_any (rf q).1 (rf q).2.1 (rf q).2.2 (lg (rf q)) v rfl kt.1 kt.2)
  have et : lg (rf q) = lg (rf q) := rfl
  cases h1 : lg (rf p)
  · cases h2 : lg (rf q)
    · rw [h1] at LA
      rw [et, h2] at LB
      rw [lg_rf] at h1 h2
      
      have JN : Hid (∀ v, Below w.heap.size w v → Calls Tryz.prog 62 #[rV (rf p), rV (rf q)] v fun e w' => e = .returned (.tuple #[rV (sumR p q), .int .i64 0]) ∧ Below v.heap.size v w') := Lib.hid (fun v h => sum_rf p q v (hP.bt h) h1 h2)
      exact of_ok_add _ _ _ _ _ _ _ _ _ _ _ _ w VA VB TN (tx_ne48 q.den_nz) LA LB JN
    · rw [h1] at LA
      rw [et, h2] at LB
      exact of_long2_add _ _ _ _ _ _ _ _ _ w VA VB TN (tx_ne48 q.den_nz) LA LB
  · rw [h1] at LA
    exact of_long1_add _ _ _ _ _ _ _ _ _ w VA VB TN (tx_ne48 q.den_nz) LA

theorem of_sub (p q : Rat) (w : World) (hP : Pw w.heap.size w) (hp : Fit LIM p) (hq : Fit LIM q) :
    Calls Tryz.prog 61 #[oV 64 62, rV (rf p), rV (rf q)] w fun e w' => e = .returned (.tuple #[rV (limT (lg (rf p) || lg (rf q)) (sumR p (-q))).1, .int .i64 (limT (lg (rf p) || lg (rf q)) (sumR p (-q))).2]) ∧ Below w.heap.size w w' := by
  have kp := rf_len hp
  have kq := rf_len hq
  have VA := Lib.hid (fun v (h : Below w.heap.size w v) => valid_any (rf p) v (hP.bt h) kp.1 kp.2)
  have VB := Lib.hid (fun v (h : Below w.heap.size w v) => valid_any (rf q) v (hP.bt h) kq.1 kq.2)
  rw [(vR_rf p).2 hp] at VA
  rw [(vR_rf q).2 hq] at VB
  have TN : Hid (∀ v, Below w.heap.size w v → Calls Tryz.prog 64 #[rV (rf q)] v fun e w' => e = .returned (rV (rf (-q))) ∧ Below v.heap.size v w') := Lib.hid (fun v h => opposite_rf q v (hP.bt h).2)
  have kt : (rf (-q)).2.1.size ≤ maxLen ∧ (rf (-q)).2.2.size ≤ maxLen := by
    exact rf_len hq.neg
  have LA := Lib.hid (fun v (h : Below w.heap.size w v) => isLong_any (rf p).1 (rf p).2.1 (rf p).2.2 (lg (rf p)) v rfl kp.1 kp.2)
  have LB := Lib.hid (fun v (h : Below w.heap.size w v) => isLong_any (rf (-q)).1 (rf (-q)).2.1 (rf (-q)).2.2 (lg (rf (-q))) v rfl kt.1 kt.2)
  have et : lg (rf (-q)) = lg (rf q) := lg_neg q
  cases h1 : lg (rf p)
  · cases h2 : lg (rf q)
    · rw [h1] at LA
      rw [et, h2] at LB
      rw [lg_rf] at h1 h2
      have h2n := h2.neg
      have JN : Hid (∀ v, Below w.heap.size w v → Calls Tryz.prog 62 #[rV (rf p), rV (rf (-q))] v fun e w' => e = .returned (.tuple #[rV (sumR p (-q)), .int .i64 0]) ∧ Below v.heap.size v w') := Lib.hid (fun v h => sum_rf p (-q) v (hP.bt h) h1 h2n)
      exact of_ok_sub _ _ _ _ _ _ _ _ _ _ _ _ w VA VB TN (tx_ne48 (-q).den_nz) LA LB JN
    · rw [h1] at LA
      rw [et, h2] at LB
      exact of_long2_sub _ _ _ _ _ _ _ _ _ w VA VB TN (tx_ne48 (-q).den_nz) LA LB
  · rw [h1] at LA
    exact of_long1_sub _ _ _ _ _ _ _ _ _ w VA VB TN (tx_ne48 (-q).den_nz) LA

theorem of_mul (p q : Rat) (w : World) (hP : Pw w.heap.size w) (hp : Fit LIM p) (hq : Fit LIM q) :
    Calls Tryz.prog 61 #[oV 59 60, rV (rf p), rV (rf q)] w fun e w' => e = .returned (.tuple #[rV (limT (lg (rf p) || lg (rf q)) (prodR p q)).1, .int .i64 (limT (lg (rf p) || lg (rf q)) (prodR p q)).2]) ∧ Below w.heap.size w w' := by
  have kp := rf_len hp
  have kq := rf_len hq
  have VA := Lib.hid (fun v (h : Below w.heap.size w v) => valid_any (rf p) v (hP.bt h) kp.1 kp.2)
  have VB := Lib.hid (fun v (h : Below w.heap.size w v) => valid_any (rf q) v (hP.bt h) kq.1 kq.2)
  rw [(vR_rf p).2 hp] at VA
  rw [(vR_rf q).2 hq] at VB
  have TN : Hid (∀ v, Below w.heap.size w v → Calls Tryz.prog 59 #[rV (rf q)] v fun e w' => e = .returned (rV (rf q)) ∧ Below v.heap.size v w') := Lib.hid (fun v h => same_any _ _ _ v)
  have kt : (rf q).2.1.size ≤ maxLen ∧ (rf q).2.2.size ≤ maxLen := by
    exact kq
  have LA := Lib.hid (fun v (h : Below w.heap.size w v) => isLong_any (rf p).1 (rf p).2.1 (rf p).2.2 (lg (rf p)) v rfl kp.1 kp.2)
  have LB := Lib.hid (fun v (h : Below w.heap.size w v) => isLong_any (rf q).1 (rf q).2.1 (rf q).2.2 (lg (rf q)) v rfl kt.1 kt.2)
  have et : lg (rf q) = lg (rf q) := rfl
  cases h1 : lg (rf p)
  · cases h2 : lg (rf q)
    · rw [h1] at LA
      rw [et, h2] at LB
      rw [lg_rf] at h1 h2
      
      have JN : Hid (∀ v, Below w.heap.size w v → Calls Tryz.prog 60 #[rV (rf p), rV (rf q)] v fun e w' => e = .returned (.tuple #[rV (prodR p q), .int .i64 0]) ∧ Below v.heap.size v w') := Lib.hid (fun v h => product_any (decide (p < 0)) (decide (q < 0)) p.num.natAbs p.den q.num.natAbs q.den v (hP.bt h) h1.1 h1.2 h2.1 h2.2)
      exact of_ok_mul _ _ _ _ _ _ _ _ _ _ _ _ w VA VB TN (tx_ne48 q.den_nz) LA LB JN
    · rw [h1] at LA
      rw [et, h2] at LB
      exact of_long2_mul _ _ _ _ _ _ _ _ _ w VA VB TN (tx_ne48 q.den_nz) LA LB
  · rw [h1] at LA
    exact of_long1_mul _ _ _ _ _ _ _ _ _ w VA VB TN (tx_ne48 q.den_nz) LA

theorem of_div (p q : Rat) (w : World) (hP : Pw w.heap.size w) (hp : Fit LIM p) (hq : Fit LIM q) (h0 : q ≠ 0) :
    Calls Tryz.prog 61 #[oV 71 60, rV (rf p), rV (rf q)] w fun e w' => e = .returned (.tuple #[rV (limT (lg (rf p) || lg (rf q)) (quotR p q)).1, .int .i64 (limT (lg (rf p) || lg (rf q)) (quotR p q)).2]) ∧ Below w.heap.size w w' := by
  have kp := rf_len hp
  have kq := rf_len hq
  have VA := Lib.hid (fun v (h : Below w.heap.size w v) => valid_any (rf p) v (hP.bt h) kp.1 kp.2)
  have VB := Lib.hid (fun v (h : Below w.heap.size w v) => valid_any (rf q) v (hP.bt h) kq.1 kq.2)
  rw [(vR_rf p).2 hp] at VA
  rw [(vR_rf q).2 hq] at VB
  have TN : Hid (∀ v, Below w.heap.size w v → Calls Tryz.prog 71 #[rV (rf q)] v fun e w' => e = .returned (rV (recR q)) ∧ Below v.heap.size v w') := Lib.hid (fun v h => reciprocal_any _ _ _ v)
  have kt : (recR q).2.1.size ≤ maxLen ∧ (recR q).2.2.size ≤ maxLen := by
    exact ⟨kq.2, kq.1⟩
  have LA := Lib.hid (fun v (h : Below w.heap.size w v) => isLong_any (rf p).1 (rf p).2.1 (rf p).2.2 (lg (rf p)) v rfl kp.1 kp.2)
  have LB := Lib.hid (fun v (h : Below w.heap.size w v) => isLong_any (recR q).1 (recR q).2.1 (recR q).2.2 (lg (recR q)) v rfl kt.1 kt.2)
  have et : lg (recR q) = lg (rf q) := lg_rec q
  cases h1 : lg (rf p)
  · cases h2 : lg (rf q)
    · rw [h1] at LA
      rw [et, h2] at LB
      rw [lg_rf] at h1 h2
      
      have JN : Hid (∀ v, Below w.heap.size w v → Calls Tryz.prog 60 #[rV (rf p), rV (recR q)] v fun e w' => e = .returned (.tuple #[rV (quotR p q), .int .i64 0]) ∧ Below v.heap.size v w') := Lib.hid (fun v h => product_any (decide (p < 0)) (decide (q < 0)) p.num.natAbs p.den q.den q.num.natAbs v (hP.bt h) h1.1 h1.2 h2.2 h2.1)
      exact of_ok_div _ _ _ _ _ _ _ _ _ _ _ _ w VA VB TN (tx_ne48 (fun e => h0 (abs_zero.1 e))) LA LB JN
    · rw [h1] at LA
      rw [et, h2] at LB
      exact of_long2_div _ _ _ _ _ _ _ _ _ w VA VB TN (tx_ne48 (fun e => h0 (abs_zero.1 e))) LA LB
  · rw [h1] at LA
    exact of_long1_div _ _ _ _ _ _ _ _ _ w VA VB TN (tx_ne48 (fun e => h0 (abs_zero.1 e))) LA

theorem of_div0 (p : Rat) (w : World) (hP : Pw w.heap.size w) (hp : Fit LIM p) :
    Calls Tryz.prog 61 #[oV 71 60, rV (rf p), rV (rf 0)] w fun e w' => e = .returned (.tuple #[rV zeroR, .int .i64 15]) ∧ Below w.heap.size w w' := by
  have hq : Fit LIM (0 : Rat) := by
    have := hp.2
    have := p.den_nz
    exact ⟨show 0 < LIM by omega, show 1 < LIM by omega⟩
  have kp := rf_len hp
  have kq := rf_len hq
  have VA := Lib.hid (fun v (h : Below w.heap.size w v) => valid_any (rf p) v (hP.bt h) kp.1 kp.2)
  have VB := Lib.hid (fun v (h : Below w.heap.size w v) => valid_any (rf 0) v (hP.bt h) kq.1 kq.2)
  rw [(vR_rf p).2 hp] at VA
  rw [(vR_rf 0).2 hq] at VB
  have TN := Lib.hid (fun v (_ : Below w.heap.size w v) => reciprocal_any (rf 0).1 (rf 0).2.1 (rf 0).2.2 v)
  rw [rf_zero] at VB TN ⊢
  exact of_zero _ _ _ _ _ _ _ _ w VA VB TN

/- What an operation says of two numbers as they come; and what reducing makes of it. -/
def opQ (f : Rat → Rat → Rat) (z : Bool) (a b : R3) : R3 × Int :=
  if (vR a && vR b) = false then (zeroR, 1)
  else if (z && decide (qv b = 0)) = true then (zeroR, 15)
  else if (lg a || lg b) = true then (zeroR, 2)
  else (rf (f (qv a) (qv b)), 0)

theorem prodR_mk (p q : Rat) : Ra.mk (decide (p < 0) != decide (q < 0)) (p.num.natAbs * q.num.natAbs) (p.den * q.den) = p * q := by
  rw [← Ra.mk_mul, Ra.mk_self, Ra.mk_self]
theorem quotR_mk (p q : Rat) (h0 : q ≠ 0) : Ra.mk (decide (p < 0) != decide (q < 0)) (p.num.natAbs * q.den) (p.den * q.num.natAbs) = p / q := by
  rw [← Ra.mk_mul, Ra.mk_self, Ra.mk_inv _ _ _ (fun e => h0 (abs_zero.1 e)) q.den_nz, Ra.mk_self, Rat.div_def]

theorem runAdd (a b : R3) (r : R3) (n : Int) (r' : R3) (n' : Int) (w : World)
    (O : Hid (∀ v, Below w.heap.size w v → Calls Tryz.prog 61 #[oV 59 62, rV a, rV b] v fun e w' => e = .returned (.tuple #[rV r, .int .i64 n]) ∧ Below v.heap.size v w'))
    (Rd : Hid (∀ v, Below w.heap.size w v → Calls Tryz.prog 58 #[rV r, .int .i64 n] v fun e w' => e = .returned (.tuple #[rV r', .int .i64 n']) ∧ Below v.heap.size v w')) :
    Calls Tryz.prog 28 #[rV a, rV b] w fun e w' => e = .returned (.tuple #[rV r', .int .i64 n']) ∧ Below w.heap.size w w' := by
  obtain ⟨s1, n1, d1⟩ := a
  obtain ⟨s2, n2, d2⟩ := b
  obtain ⟨s3, n3, d3⟩ := r
  obtain ⟨s4, n4, d4⟩ := r'
  unfold rV oV at O
  unfold rV at Rd ⊢
  simp only at O Rd ⊢
  obtain ⟨hb3, A3, D3, R3, n3⟩ := start3 w (s1, n1, d1) (s2, n2, d2) (false, nil', nil') _ rfl
  unfold ob nil' at hb3 A3 D3 R3 n3
  simp only at hb3 A3 D3 R3 n3
  obtain ⟨a0, a1, a2, _, _, _⟩ := A3.cells
  obtain ⟨b0, b1, b2, _, _, _⟩ := D3.cells
  go_enter Tryz.func28, Tryz.ntmps28
  go_wp2_with fail
  refine (O.out _ hb3).mono ?_
  rintro e w4 ⟨rfl, g4⟩
  have hb4 := Nb hb3 g4
  have R4 := R3.bt g4
  clear a0 a1 a2 b0 b1 b2 A3 D3 R3 hb3
  go_wp2_with fail
  refine (Rd.out _ hb4).mono ?_
  rintro e w5 ⟨rfl, g5⟩
  have hb5 := Nb hb4 g5
  have R5 := R4.bt g5
  clear R4 hb4
  obtain ⟨r0, r1, r2, f0, f1, f2⟩ := R5.cells
  go_wp2_with fail
  exact bodyPost_ret (out2 Tryz.results28 _ _ _ _ _ rfl rfl (R5.set _ _ _)) rfl ⟨rfl, Bset2 hb5 (by omega) _ _ _⟩

theorem opAdd (a b : R3) (w : World) (hP : Pw w.heap.size w) (ha : a.2.1.size ≤ maxLen ∧ a.2.2.size ≤ maxLen) (hb : b.2.1.size ≤ maxLen ∧ b.2.2.size ≤ maxLen) :
    Calls Tryz.prog 28 #[rV a, rV b] w fun e w' => e = .returned (.tuple #[rV (opQ (· + ·) false a b).1, .int .i64 (opQ (· + ·) false a b).2]) ∧ Below w.heap.size w w' := by
  unfold opQ
  by_cases hv : (vR a && vR b) = false
  · rw [if_pos hv]
    exact runAdd a b _ _ _ _ w (Lib.hid (fun v h => of_bad _ _ a b v (hP.bt h) ha hb hv)) (Lib.hid (fun v _ => reduced_bad _ _ _ _ v (by omega)))
  · rw [if_neg hv]
    have hv : vR a = true ∧ vR b = true := by simpa using hv
    obtain ⟨p, hp, rfl⟩ := vR_ex hv.1
    obtain ⟨q, hq, rfl⟩ := vR_ex hv.2
    rw [qv_rf, qv_rf]
    rw [if_neg (by simp)]
    have O := fun v (h : Below w.heap.size w v) => of_add p q v (hP.bt h) hp hq
    cases hl : (lg (rf p) || lg (rf q))
    · rw [if_neg (by simp)]
      simp only [hl, limT, Bool.false_eq_true, if_false] at O
      dsimp only
      rw [Bool.or_eq_false_iff] at hl
      have l1 := (lg_rf p).1 hl.1
      have l2 := (lg_rf q).1 hl.2
      have M : Ra.mk (sumT p q).1 (sumT p q).2.1 (sumT p q).2.2 = p + q ∧ (sumT p q).2.2 ≠ 0 ∧ (sumT p q).2.1 < LIM ∧ (sumT p q).2.2 < LIM := (by have := (sumT_mk p q); exact ⟨this.1, this.2, sumT_lt p q l1 l2⟩)
      rw [← M.1]
      exact runAdd _ _ _ _ _ _ w (Lib.hid O) (Lib.hid (fun v h => reduced_ok _ _ _ v (hP.bt h) M.2.2.1 M.2.2.2 M.2.1))
    · rw [if_pos rfl]
      simp only [hl, limT, if_true] at O
      exact runAdd _ _ zeroR 2 _ _ w (Lib.hid O) (Lib.hid (fun v _ => reduced_bad _ _ _ _ v (by omega)))

theorem runSub (a b : R3) (r : R3) (n : Int) (r' : R3) (n' : Int) (w : World)
    (O : Hid (∀ v, Below w.heap.size w v → Calls Tryz.prog 61 #[oV 64 62, rV a, rV b] v fun e w' => e = .returned (.tuple #[rV r, .int .i64 n]) ∧ Below v.heap.size v w'))
    (Rd : Hid (∀ v, Below w.heap.size w v → Calls Tryz.prog 58 #[rV r, .int .i64 n] v fun e w' => e = .returned (.tuple #[rV r', .int .i64 n']) ∧ Below v.heap.size v w')) :
    Calls Tryz.prog 30 #[rV a, rV b] w fun e w' => e = .returned (.tuple #[rV r', .int .i64 n']) ∧ Below w.heap.size w w' := by
  obtain ⟨s1, n1, d1⟩ := a
  obtain ⟨s2, n2, d2⟩ := b
  obtain ⟨s3, n3, d3⟩ := r
  obtain ⟨s4, n4, d4⟩ := r'
  unfold rV oV at O
  unfold rV at Rd ⊢
  simp only at O Rd ⊢
  obtain ⟨hb3, A3, D3, R3, n3⟩ := start3 w (s1, n1, d1) (s2, n2, d2) (false, nil', nil') _ rfl
  unfold ob nil' at hb3 A3 D3 R3 n3
  simp only at hb3 A3 D3 R3 n3
  obtain ⟨a0, a1, a2, _, _, _⟩ := A3.cells
  obtain ⟨b0, b1, b2, _, _, _⟩ := D3.cells
  go_enter Tryz.func30, Tryz.ntmps30
  go_wp2_with fail
  refine (O.out _ hb3).mono ?_
  rintro e w4 ⟨rfl, g4⟩
  have hb4 := Nb hb3 g4
  have R4 := R3.bt g4
  clear a0 a1 a2 b0 b1 b2 A3 D3 R3 hb3
  go_wp2_with fail
  refine (Rd.out _ hb4).mono ?_
  rintro e w5 ⟨rfl, g5⟩
  have hb5 := Nb hb4 g5
  have R5 := R4.bt g5
  clear R4 hb4
  obtain ⟨r0, r1, r2, f0, f1, f2⟩ := R5.cells
  go_wp2_with fail
  exact bodyPost_ret (out2 Tryz.results30 _ _ _ _ _ rfl rfl (R5.set _ _ _)) rfl ⟨rfl, Bset2 hb5 (by omega) _ _ _⟩

theorem opSub (a b : R3) (w : World) (hP : Pw w.heap.size w) (ha : a.2.1.size ≤ maxLen ∧ a.2.2.size ≤ maxLen) (hb : b.2.1.size ≤ maxLen ∧ b.2.2.size ≤ maxLen) :
    Calls Tryz.prog 30 #[rV a, rV b] w fun e w' => e = .returned (.tuple #[rV (opQ (· - ·) false a b).1, .int .i64 (opQ (· - ·) false a b).2]) ∧ Below w.heap.size w w' := by
  unfold opQ
  by_cases hv : (vR a && vR b) = false
  · rw [if_pos hv]
    exact runSub a b _ _ _ _ w (Lib.hid (fun v h => of_bad _ _ a b v (hP.bt h) ha hb hv)) (Lib.hid (fun v _ => reduced_bad _ _ _ _ v (by omega)))
  · rw [if_neg hv]
    have hv : vR a = true ∧ vR b = true := by simpa using hv
    obtain ⟨p, hp, rfl⟩ := vR_ex hv.1
    obtain ⟨q, hq, rfl⟩ := vR_ex hv.2
    rw [qv_rf, qv_rf]
    rw [if_neg (by simp)]
    have O := fun v (h : Below w.heap.size w v) => of_sub p q v (hP.bt h) hp hq
    cases hl : (lg (rf p) || lg (rf q))
    · rw [if_neg (by simp)]
      simp only [hl, limT, Bool.false_eq_true, if_false] at O
      dsimp only
      rw [Bool.or_eq_false_iff] at hl
      have l1 := (lg_rf p).1 hl.1
      have l2 := (lg_rf q).1 hl.2
      have M : Ra.mk (sumT p (-q)).1 (sumT p (-q)).2.1 (sumT p (-q)).2.2 = p - q ∧ (sumT p (-q)).2.2 ≠ 0 ∧ (sumT p (-q)).2.1 < LIM ∧ (sumT p (-q)).2.2 < LIM := (by have := (sumT_mk p (-q)); exact ⟨by rw [Rat.sub_eq_add_neg]; exact this.1, this.2, sumT_lt p (-q) l1 l2.neg⟩)
      rw [← M.1]
      exact runSub _ _ _ _ _ _ w (Lib.hid O) (Lib.hid (fun v h => reduced_ok _ _ _ v (hP.bt h) M.2.2.1 M.2.2.2 M.2.1))
    · rw [if_pos rfl]
      simp only [hl, limT, if_true] at O
      exact runSub _ _ zeroR 2 _ _ w (Lib.hid O) (Lib.hid (fun v _ => reduced_bad _ _ _ _ v (by omega)))

theorem runMul (a b : R3) (r : R3) (n : Int) (r' : R3) (n' : Int) (w : World)
    (O : Hid (∀ v, Below w.heap.size w v → Calls Tryz.prog 61 #[oV 59 60, rV a, rV b] v fun e w' => e = .returned (.tuple #[rV r, .int .i64 n]) ∧ Below v.heap.size v w'))
    (Rd : Hid (∀ v, Below w.heap.size w v → Calls Tryz.prog 58 #[rV r, .int .i64 n] v fun e w' => e = .returned (.tuple #[rV r', .int .i64 n']) ∧ Below v.heap.size v w')) :
    Calls Tryz.prog 27 #[rV a, rV b] w fun e w' => e = .returned (.tuple #[rV r', .int .i64 n']) ∧ Below w.heap.size w w' := by
  obtain ⟨s1, n1, d1⟩ := a
  obtain ⟨s2, n2, d2⟩ := b
  obtain ⟨s3, n3, d3⟩ := r
  obtain ⟨s4, n4, d4⟩ := r'
  unfold rV oV at O
  unfold rV at Rd ⊢
  simp only at O Rd ⊢
  obtain ⟨hb3, A3, D3, R3, n3⟩ := start3 w (s1, n1, d1) (s2, n2, d2) (false, nil', nil') _ rfl
  unfold ob nil' at hb3 A3 D3 R3 n3
  simp only at hb3 A3 D3 R3 n3
  obtain ⟨a0, a1, a2, _, _, _⟩ := A3.cells
  obtain ⟨b0, b1, b2, _, _, _⟩ := D3.cells
  go_enter Tryz.func27, Tryz.ntmps27
  go_wp2_with fail
  refine (O.out _ hb3).mono ?_
  rintro e w4 ⟨rfl, g4⟩
  have hb4 := Nb hb3 g4
  have R4 := R3.bt g4
  clear a0 a1 a2 b0 b1 b2 A3 D3 R3 hb3
  go_wp2_with fail
  refine (Rd.out _ hb4).mono ?_
  rintro e w5 ⟨rfl, g5⟩
  have hb5 := Nb hb4 g5
  have R5 := R4.bt g5
  clear R4 hb4
  obtain ⟨r0, r1, r2, f0, f1, f2⟩ := R5.cells
  go_wp2_with fail
  exact bodyPost_ret (out2 Tryz.results27 _ _ _ _ _ rfl rfl (R5.set _ _ _)) rfl ⟨rfl, Bset2 hb5 (by omega) _ _ _⟩

theorem opMul (a b : R3) (w : World) (hP : Pw w.heap.size w) (ha : a.2.1.size ≤ maxLen ∧ a.2.2.size ≤ maxLen) (hb : b.2.1.size ≤ maxLen ∧ b.2.2.size ≤ maxLen) :
    Calls Tryz.prog 27 #[rV a, rV b] w fun e w' => e = .returned (.tuple #[rV (opQ (· * ·) false a b).1, .int .i64 (opQ (· * ·) false a b).2]) ∧ Below w.heap.size w w' := by
  unfold opQ
  by_cases hv : (vR a && vR b) = false
  · rw [if_pos hv]
    exact runMul a b _ _ _ _ w (Lib.hid (fun v h => of_bad _ _ a b v (hP.bt h) ha hb hv)) (Lib.hid (fun v _ => reduced_bad _ _ _ _ v (by omega)))
  · rw [if_neg hv]
    have hv : vR a = true ∧ vR b = true := by simpa using hv
    obtain ⟨p, hp, rfl⟩ := vR_ex hv.1
    obtain ⟨q, hq, rfl⟩ := vR_ex hv.2
    rw [qv_rf, qv_rf]
    rw [if_neg (by simp)]
    have O := fun v (h : Below w.heap.size w v) => of_mul p q v (hP.bt h) hp hq
    cases hl : (lg (rf p) || lg (rf q))
    · rw [if_neg (by simp)]
      simp only [hl, limT, Bool.false_eq_true, if_false] at O
      dsimp only
      rw [Bool.or_eq_false_iff] at hl
      have l1 := (lg_rf p).1 hl.1
      have l2 := (lg_rf q).1 hl.2
      have M : Ra.mk (decide (p < 0) != decide (q < 0)) (p.num.natAbs * q.num.natAbs) (p.den * q.den) = p * q ∧ (p.den * q.den) ≠ 0 ∧ (p.num.natAbs * q.num.natAbs) < LIM ∧ (p.den * q.den) < LIM := ⟨prodR_mk p q, Nat.mul_ne_zero p.den_nz q.den_nz, prod_lt l1.1 l2.1 l1.2 l2.2⟩
      rw [← M.1]
      exact runMul _ _ _ _ _ _ w (Lib.hid O) (Lib.hid (fun v h => reduced_ok _ _ _ v (hP.bt h) M.2.2.1 M.2.2.2 M.2.1))
    · rw [if_pos rfl]
      simp only [hl, limT, if_true] at O
      exact runMul _ _ zeroR 2 _ _ w (Lib.hid O) (Lib.hid (fun v _ => reduced_bad _ _ _ _ v (by omega)))

theorem runDiv (a b : R3) (r : R3) (n : Int) (r' : R3) (n' : Int) (w : World)
    (O : Hid (∀ v, Below w.heap.size w v → Calls Tryz.prog 61 #[oV 71 60, rV a, rV b] v fun e w' => e = .returned (.tuple #[rV r, .int .i64 n]) ∧ Below v.heap.size v w'))
    (Rd : Hid (∀ v, Below w.heap.size w v → Calls Tryz.prog 58 #[rV r, .int .i64 n] v fun e w' => e = .returned (.tuple #[rV r', .int .i64 n']) ∧ Below v.heap.size v w')) :
    Calls Tryz.prog 40 #[rV a, rV b] w fun e w' => e = .returned (.tuple #[rV r', .int .i64 n']) ∧ Below w.heap.size w w' := by
  obtain ⟨s1, n1, d1⟩ := a
  obtain ⟨s2, n2, d2⟩ := b
  obtain ⟨s3, n3, d3⟩ := r
  obtain ⟨s4, n4, d4⟩ := r'
  unfold rV oV at O
  unfold rV at Rd ⊢
  simp only at O Rd ⊢
  obtain ⟨hb3, A3, D3, R3, n3⟩ := start3 w (s1, n1, d1) (s2, n2, d2) (false, nil', nil') _ rfl
  unfold ob nil' at hb3 A3 D3 R3 n3
  simp only at hb3 A3 D3 R3 n3
  obtain ⟨a0, a1, a2, _, _, _⟩ := A3.cells
  obtain ⟨b0, b1, b2, _, _, _⟩ := D3.cells
  go_enter Tryz.func40, Tryz.ntmps40
  go_wp2_with fail
  refine (O.out _ hb3).mono ?_
  rintro e w4 ⟨rfl, g4⟩
  have hb4 := Nb hb3 g4
  have R4 := R3.bt g4
  clear a0 a1 a2 b0 b1 b2 A3 D3 R3 hb3
  go_wp2_with fail
  refine (Rd.out _ hb4).mono ?_
  rintro e w5 ⟨rfl, g5⟩
  have hb5 := Nb hb4 g5
  have R5 := R4.bt g5
  clear R4 hb4
  obtain ⟨r0, r1, r2, f0, f1, f2⟩ := R5.cells
  go_wp2_with fail
  exact bodyPost_ret (out2 Tryz.results40 _ _ _ _ _ rfl rfl (R5.set _ _ _)) rfl ⟨rfl, Bset2 hb5 (by omega) _ _ _⟩

theorem opDiv (a b : R3) (w : World) (hP : Pw w.heap.size w) (ha : a.2.1.size ≤ maxLen ∧ a.2.2.size ≤ maxLen) (hb : b.2.1.size ≤ maxLen ∧ b.2.2.size ≤ maxLen) :
    Calls Tryz.prog 40 #[rV a, rV b] w fun e w' => e = .returned (.tuple #[rV (opQ (· / ·) true a b).1, .int .i64 (opQ (· / ·) true a b).2]) ∧ Below w.heap.size w w' := by
  unfold opQ
  by_cases hv : (vR a && vR b) = false
  · rw [if_pos hv]
    exact runDiv a b _ _ _ _ w (Lib.hid (fun v h => of_bad _ _ a b v (hP.bt h) ha hb hv)) (Lib.hid (fun v _ => reduced_bad _ _ _ _ v (by omega)))
  · rw [if_neg hv]
    have hv : vR a = true ∧ vR b = true := by simpa using hv
    obtain ⟨p, hp, rfl⟩ := vR_ex hv.1
    obtain ⟨q, hq, rfl⟩ := vR_ex hv.2
    rw [qv_rf, qv_rf]
    by_cases h0 : q = 0
    · subst h0
      rw [if_pos (by simp)]
      exact runDiv _ _ _ _ _ _ w (Lib.hid (fun v h => of_div0 p v (hP.bt h) hp)) (Lib.hid (fun v _ => reduced_bad _ _ _ _ v (by omega)))
    · rw [if_neg (by simpa using h0)]
      have O := fun v (h : Below w.heap.size w v) => of_div p q v (hP.bt h) hp hq h0
      cases hl : (lg (rf p) || lg (rf q))
      · rw [if_neg (by simp)]
        simp only [hl, limT, Bool.false_eq_true, if_false] at O
        dsimp only
        rw [Bool.or_eq_false_iff] at hl
        have l1 := (lg_rf p).1 hl.1
        have l2 := (lg_rf q).1 hl.2
        have M : Ra.mk (decide (p < 0) != decide (q < 0)) (p.num.natAbs * q.den) (p.den * q.num.natAbs) = p / q ∧ (p.den * q.num.natAbs) ≠ 0 ∧ (p.num.natAbs * q.den) < LIM ∧ (p.den * q.num.natAbs) < LIM := ⟨quotR_mk p q h0, Nat.mul_ne_zero p.den_nz (fun e => h0 (abs_zero.1 e)), prod_lt l1.1 l2.2 l1.2 l2.1⟩
        rw [← M.1]
        exact runDiv _ _ _ _ _ _ w (Lib.hid O) (Lib.hid (fun v h => reduced_ok _ _ _ v (hP.bt h) M.2.2.1 M.2.2.2 M.2.1))
      · rw [if_pos rfl]
        simp only [hl, limT, if_true] at O
        exact runDiv _ _ zeroR 2 _ _ w (Lib.hid O) (Lib.hid (fun v _ => reduced_bad _ _ _ _ v (by omega)))
end Go.Proofs.YtkbncdcphohmiaaGreatDoor

