/- The mathematics of rational numbers: the number of a sign and two natural numbers; sums, products, reciprocals; bounds. Nothing of the program is imported. -/
set_option linter.unusedSimpArgs false
set_option linter.unusedVariables false
namespace Go.Proofs.YtkbncdcphohmiaaGreatDoor.Ra

/- The rational number of a sign and two numbers. -/
def mk (neg : Bool) (n d : Nat) : Rat := mkRat (if neg then -(n : Int) else n) d

theorem mk_abs (neg : Bool) (n d : Nat) (hd : d ≠ 0) : (mk neg n d).num.natAbs = n / Nat.gcd n d := by
  unfold mk
  rw [Rat.num_mkRat, if_neg hd]
  have hdv : ((Nat.gcd d (if neg then -(n : Int) else n).natAbs : Nat) : Int) ∣ (if neg then -(n : Int) else n) := by
    rw [← Int.dvd_natAbs, Int.ofNat_dvd]
    exact Nat.gcd_dvd_right _ _
  rw [Int.natAbs_ediv_of_dvd hdv, Int.natAbs_natCast]
  have : (if neg then -(n : Int) else n).natAbs = n := by cases neg <;> simp
  rw [this, Nat.gcd_comm]

theorem mk_den (neg : Bool) (n d : Nat) (hd : d ≠ 0) : (mk neg n d).den = d / Nat.gcd n d := by
  unfold mk
  rw [Rat.den_mkRat, if_neg hd]
  have : (if neg then -(n : Int) else n).natAbs = n := by cases neg <;> simp
  rw [this, Nat.gcd_comm]

theorem mk_zero (neg : Bool) (n d : Nat) (hd : d ≠ 0) : mk neg n d = 0 ↔ n = 0 := by
  unfold mk
  rw [Rat.mkRat_eq_zero hd]
  cases neg <;> simp

theorem mk_div (neg : Bool) (n d : Nat) : mk neg n d = (if neg then -(n : Rat) else n) / d := by
  unfold mk
  rw [Rat.mkRat_eq_div]
  cases neg
  · simp only [Bool.false_eq_true, if_false]; rfl
  · simp only [if_true, Rat.intCast_neg]; rfl

theorem mk_nonneg (n d : Nat) : 0 ≤ mk false n d := by
  rw [mk_div]
  simp only [Bool.false_eq_true, if_false]
  rw [Rat.div_def]
  by_cases hd : d = 0
  · subst hd; simp
  · exact Rat.mul_nonneg Rat.natCast_nonneg (Rat.le_of_lt (Rat.inv_pos.2 (Rat.natCast_pos.2 (by omega))))

theorem mk_true (n d : Nat) : mk true n d = - mk false n d := by
  unfold mk
  rw [Rat.neg_mkRat]
  simp

theorem mk_neg (neg : Bool) (n d : Nat) (hd : d ≠ 0) : mk neg n d < 0 ↔ (neg = true ∧ n ≠ 0) := by
  have h0 := mk_nonneg n d
  have hz := mk_zero false n d hd
  cases neg
  · simp only [Bool.false_eq_true, false_and, iff_false]
    exact Rat.not_lt.2 h0
  · rw [mk_true]
    simp only [true_and]
    constructor
    · intro h e
      rw [hz.2 e] at h
      exact Rat.lt_irrefl h
    · intro h
      have h1 : mk false n d ≠ 0 := fun e => h (hz.1 e)
      have h2 : 0 < mk false n d := Rat.lt_of_le_of_ne h0 (Ne.symm h1)
      grind

theorem mk_self (q : Rat) : mk (decide (q < 0)) q.num.natAbs q.den = q := by
  have h := Rat.mkRat_self q
  unfold mk
  have hn : (if decide (q < 0) = true then -(q.num.natAbs : Int) else (q.num.natAbs : Int)) = q.num := by
    have := Rat.num_nonneg (q := q)
    by_cases hq : q < 0
    · rw [if_pos (by simpa using hq)]
      have : ¬ 0 ≤ q.num := by rw [this]; exact Rat.not_le.2 hq
      omega
    · rw [if_neg (by simpa using hq)]
      have : 0 ≤ q.num := by rw [this]; exact Rat.not_lt.1 hq
      omega
  rw [hn, h]

/- A quotient of numbers without a common divisor is in lowest terms. -/
theorem mk_low (neg : Bool) (n d : Nat) (hd : d ≠ 0) (h : Nat.gcd n d = 1) : (mk neg n d).num.natAbs = n ∧ (mk neg n d).den = d := by
  rw [mk_abs neg n d hd, mk_den neg n d hd, h, Nat.div_one, Nat.div_one]
  exact ⟨rfl, rfl⟩

theorem self_gcd (q : Rat) : Nat.gcd q.num.natAbs q.den = 1 := q.reduced

theorem mk_eq (s s' : Bool) (n d n' d' : Nat) (hd : d ≠ 0) (hd' : d' ≠ 0) : mk s n d = mk s' n' d' ↔ (if s then -(n : Int) else n) * d' = (if s' then -(n' : Int) else n') * d := by
  unfold mk
  exact Rat.mkRat_eq_iff hd hd'

theorem mk_add (s s' : Bool) (n d n' d' : Nat) (hd : d ≠ 0) (hd' : d' ≠ 0) : mk s n d + mk s' n' d' = mkRat ((if s then -(n : Int) else n) * d' + (if s' then -(n' : Int) else n') * d) (d * d') := by
  unfold mk
  exact Rat.mkRat_add_mkRat _ _ hd hd'

theorem mk_add_same (s : Bool) (n d n' d' : Nat) (hd : d ≠ 0) (hd' : d' ≠ 0) : mk s n d + mk s n' d' = mk s (n * d' + n' * d) (d * d') := by
  rw [mk_add s s n d n' d' hd hd']
  unfold mk
  cases s
  · simp
  · simp only [if_true]
    congr 1
    push_cast
    grind

theorem mk_add_ge (s : Bool) (n d n' d' : Nat) (hd : d ≠ 0) (hd' : d' ≠ 0) (h : n' * d ≤ n * d') : mk s n d + mk (!s) n' d' = mk s (n * d' - n' * d) (d * d') := by
  rw [mk_add s (!s) n d n' d' hd hd']
  unfold mk
  cases s
  · simp only [Bool.not_false, Bool.false_eq_true, if_false, if_true]
    rw [Int.ofNat_sub h]
    congr 1
    push_cast
    grind
  · simp only [Bool.not_true, Bool.false_eq_true, if_false, if_true]
    rw [Int.ofNat_sub h]
    congr 1
    push_cast
    grind

theorem mk_add_le (s : Bool) (n d n' d' : Nat) (hd : d ≠ 0) (hd' : d' ≠ 0) (h : n * d' ≤ n' * d) : mk s n d + mk (!s) n' d' = mk (!s) (n' * d - n * d') (d * d') := by
  have := mk_add_ge (!s) n' d' n d hd' hd h
  rw [Bool.not_not] at this
  rw [Rat.add_comm, this, Nat.mul_comm d' d]

theorem mk_mul (s s' : Bool) (n d n' d' : Nat) : mk s n d * mk s' n' d' = mk (s != s') (n * n') (d * d') := by
  unfold mk
  rw [Rat.mkRat_mul_mkRat]
  cases s <;> cases s' <;> simp [Int.neg_mul, Int.mul_neg]

theorem mk_opp (s : Bool) (n d : Nat) : mk (!s) n d = - mk s n d := by
  cases s
  · exact mk_true n d
  · rw [mk_true]; simp

theorem mk_inv (s : Bool) (n d : Nat) (hn : n ≠ 0) (hd : d ≠ 0) : mk s d n = (mk s n d)⁻¹ := by
  have h1 : mk s n d * mk s d n = 1 := by
    rw [mk_mul]
    rw [mk_div]
    simp
    rw [Rat.mul_comm (d : Rat) n, Rat.div_def]
    have h1 : (n : Rat) ≠ 0 := by
      intro h
      have := congrArg Rat.num h
      simp at this
      omega
    have h2 : (d : Rat) ≠ 0 := by
      intro h
      have := congrArg Rat.num h
      simp at this
      omega
    exact Rat.mul_inv_cancel _ (fun h => by rcases Rat.mul_eq_zero.1 h with h | h <;> contradiction)
  exact (Rat.inv_eq_of_mul_eq_one h1).symm

theorem num_mul_le (p q : Rat) : (p * q).num.natAbs ≤ p.num.natAbs * q.num.natAbs ∧ (p * q).den ≤ p.den * q.den := by
  have h := mk_mul (decide (p < 0)) (decide (q < 0)) p.num.natAbs p.den q.num.natAbs q.den
  rw [mk_self, mk_self] at h
  have hd : p.den * q.den ≠ 0 := Nat.mul_ne_zero p.den_nz q.den_nz
  rw [h, mk_abs _ _ _ hd, mk_den _ _ _ hd]
  exact ⟨Nat.div_le_self _ _, Nat.div_le_self _ _⟩

def Fit (K : Nat) (q : Rat) : Prop := q.num.natAbs < K ∧ q.den < K

theorem Fit.mono {K L : Nat} {q : Rat} (h : Fit K q) (hl : K ≤ L) : Fit L q := ⟨Nat.lt_of_lt_of_le h.1 hl, Nat.lt_of_lt_of_le h.2 hl⟩

theorem Fit.pos {K : Nat} {q : Rat} (h : Fit K q) : 0 < K := Nat.lt_of_le_of_lt (Nat.zero_le _) h.1

theorem mul_lt {a b A B : Nat} (ha : a < A) (hb : b < B) : a * b < A * B :=
  Nat.lt_of_le_of_lt (Nat.mul_le_mul_left a (Nat.le_of_lt hb)) (Nat.mul_lt_mul_of_pos_right ha (Nat.lt_of_le_of_lt (Nat.zero_le _) hb))

theorem mk_le (s : Bool) (n d : Nat) (hd : d ≠ 0) : (mk s n d).num.natAbs ≤ n ∧ (mk s n d).den ≤ d := by
  rw [mk_abs _ _ _ hd, mk_den _ _ _ hd]
  exact ⟨Nat.div_le_self _ _, Nat.div_le_self _ _⟩

theorem Fit.mul {A B : Nat} {p q : Rat} (hp : Fit A p) (hq : Fit B q) : Fit (A * B) (p * q) := by
  obtain ⟨h1, h2⟩ := num_mul_le p q
  exact ⟨Nat.lt_of_le_of_lt h1 (mul_lt hp.1 hq.1), Nat.lt_of_le_of_lt h2 (mul_lt hp.2 hq.2)⟩

theorem Fit.neg {A : Nat} {p : Rat} (hp : Fit A p) : Fit A (-p) := by
  unfold Fit
  rw [Rat.neg_num, Rat.neg_den, Int.natAbs_neg]
  exact hp

theorem add_form (p q : Rat) : ∃ s N, N ≤ p.num.natAbs * q.den + q.num.natAbs * p.den ∧ p + q = mk s N (p.den * q.den) := by
  have h := Rat.add_def' p q
  refine ⟨decide (p.num * q.den + q.num * p.den < 0), (p.num * q.den + q.num * p.den).natAbs, ?_, ?_⟩
  · refine Nat.le_trans (Int.natAbs_add_le _ _) ?_
    rw [Int.natAbs_mul, Int.natAbs_mul, Int.natAbs_natCast, Int.natAbs_natCast]
    exact Nat.le_refl _
  · rw [h]
    unfold mk
    congr 1
    by_cases hl : p.num * q.den + q.num * p.den < 0
    · rw [decide_eq_true hl, if_pos rfl]; omega
    · rw [decide_eq_false hl]; simp only [Bool.false_eq_true, if_false]; omega

theorem Fit.add {A B : Nat} {p q : Rat} (hp : Fit A p) (hq : Fit B q) : Fit (2 * (A * B)) (p + q) := by
  obtain ⟨s, N, hN, he⟩ := add_form p q
  have hd : p.den * q.den ≠ 0 := Nat.mul_ne_zero p.den_nz q.den_nz
  obtain ⟨h1, h2⟩ := mk_le s N (p.den * q.den) hd
  rw [he]
  have m1 := mul_lt hp.1 hq.2
  have m2 := mul_lt hq.1 hp.2
  have m3 := mul_lt hp.2 hq.2
  rw [Nat.mul_comm B A] at m2
  exact ⟨by omega, by omega⟩

theorem Fit.sub {A B : Nat} {p q : Rat} (hp : Fit A p) (hq : Fit B q) : Fit (2 * (A * B)) (p - q) := by
  rw [Rat.sub_eq_add_neg]
  exact hp.add hq.neg

theorem Fit.inv {B : Nat} {q : Rat} (hq : Fit B q) (h0 : q ≠ 0) : Fit B q⁻¹ := by
  have hn : q.num ≠ 0 := fun h => h0 (Rat.num_eq_zero.1 h)
  unfold Fit
  rw [Rat.num_inv, Rat.den_inv, if_neg hn, Int.natAbs_mul, Int.natAbs_natCast, Int.natAbs_sign_of_ne_zero hn, Nat.one_mul]
  exact ⟨hq.2, hq.1⟩

theorem Fit.div {A B : Nat} {p q : Rat} (hp : Fit A p) (hq : Fit B q) (h0 : q ≠ 0) : Fit (A * B) (p / q) := by
  rw [Rat.div_def]
  exact hp.mul (hq.inv h0)

end Go.Proofs.YtkbncdcphohmiaaGreatDoor.Ra
