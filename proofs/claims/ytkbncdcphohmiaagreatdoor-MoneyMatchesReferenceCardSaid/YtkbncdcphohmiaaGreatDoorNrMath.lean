/- Digits in tens, the least one first; texts without their leading zeros; the order of texts. Nothing of the program is imported. -/
import Derived.Test.YtkbncdcphohmiaaGreatDoorNaMath
set_option linter.unusedSimpArgs false
set_option linter.unusedVariables false
namespace Go.Proofs.YtkbncdcphohmiaaGreatDoor.Na

/- The digit of a number at a place from the right. -/
def dgt (m i : Nat) : Nat := m / 10 ^ i % 10
theorem dgt_lt (m i : Nat) : dgt m i < 10 := Nat.mod_lt _ (by omega)

theorem dec_len1 (n : Nat) : 1 ≤ (Lib.decDigits n).length := by
  have := isN_pos (dec_isN n)
  omega
theorem lt_dec (n : Nat) : n < 10 ^ (Lib.decDigits n).length := (dec_len (dec_len1 n)).1 (Nat.le_refl _)

theorem dgt_zero (m i : Nat) (h : (Lib.decDigits m).length ≤ i) : dgt m i = 0 := by
  unfold dgt
  have h1 := lt_dec m
  have h2 : 10 ^ (Lib.decDigits m).length ≤ 10 ^ i := Nat.pow_le_pow_right (by omega) h
  rw [Nat.div_eq_of_lt (by omega)]

/- The value of the digits from a place on, and up to a place. -/
theorem val_rev : ∀ (l : List UInt8) (i : Nat), l.all isD = true → i < l.length → val l / 10 ^ i % 10 = dv (l.getD (l.length - 1 - i) 0) := by
  intro l
  induction l using rev_ind with
  | h0 => intro i _ h; simp at h
  | h1 l c ih =>
    intro i hall hi
    have hall2 : l.all isD = true ∧ isD c = true := by simpa using hall
    rw [val_snoc]
    have hd := dv_lt hall2.2
    cases i with
    | zero =>
      simp
      omega
    | succ i =>
      have h1 : (val l * 10 + dv c) / 10 ^ (i + 1) = val l / 10 ^ i := by
        rw [Nat.pow_succ, Nat.mul_comm (10 ^ i) 10, ← Nat.div_div_eq_div_mul]
        congr 1
        omega
      rw [h1]
      have hl : i < l.length := by simpa using hi
      rw [ih i hall2.1 hl]
      have e : (l ++ [c]).length - 1 - (i + 1) = l.length - 1 - i := by simp; omega
      rw [e]
      congr 1
      rw [List.getD_eq_getElem?_getD, List.getD_eq_getElem?_getD, List.getElem?_append_left (by omega)]

theorem dec_dgt (m i : Nat) (h : i < (Lib.decDigits m).length) : dv ((Lib.decDigits m).getD ((Lib.decDigits m).length - 1 - i) 0) = dgt m i := by
  rw [← val_rev _ i (dec_all m) h, val_dec]
  rfl

/- Digits, the least one first. -/
def lt10 (l : List Nat) : Nat := l.foldr (fun d a => d + 10 * a) 0
theorem lt10_nil : lt10 [] = 0 := rfl
theorem lt10_cons (d : Nat) (l : List Nat) : lt10 (d :: l) = d + 10 * lt10 l := rfl
theorem lt10_snoc : ∀ (l : List Nat) (d : Nat), lt10 (l ++ [d]) = lt10 l + 10 ^ l.length * d
  | [], d => by simp [lt10]
  | c :: l, d => by
    rw [List.cons_append, lt10_cons, lt10_snoc l d, lt10_cons, List.length_cons, Nat.pow_succ, Nat.mul_add, Nat.mul_comm (10 ^ l.length) 10, Nat.mul_assoc]
    omega
theorem lt10_lt : ∀ l : List Nat, (∀ d ∈ l, d < 10) → lt10 l < 10 ^ l.length
  | [], _ => by simp [lt10]
  | c :: l, h => by
    have h1 := lt10_lt l (fun d hd => h d (by simp [hd]))
    have h2 := h c (by simp)
    rw [lt10_cons, List.length_cons, Nat.pow_succ]
    omega
theorem mod_step (m k : Nat) : m % 10 ^ (k + 1) = m % 10 ^ k + 10 ^ k * dgt m k := by
  unfold dgt
  rw [Nat.pow_succ, Nat.mod_mul]

/- Digits as characters, the greatest one first. -/
def chars (l : List Nat) : List UInt8 := (l.map fun d => UInt8.ofNat (48 + d)).reverse
theorem chars_len (l : List Nat) : (chars l).length = l.length := by unfold chars; simp
theorem chars_all (l : List Nat) (h : ∀ d ∈ l, d < 10) : (chars l).all isD = true := by
  unfold chars
  rw [List.all_reverse, List.all_map, List.all_eq_true]
  intro d hd
  exact (of_dig d (h d hd)).1
theorem val_chars : ∀ l : List Nat, (∀ d ∈ l, d < 10) → val (chars l) = lt10 l
  | [], _ => rfl
  | c :: l, h => by
    have h1 := val_chars l (fun d hd => h d (by simp [hd]))
    unfold chars at h1 ⊢
    rw [List.map_cons, List.reverse_cons, val_snoc, h1, (of_dig c (h c (by simp))).2, lt10_cons]
    omega

/- Leading zeros. -/
def trimL : List UInt8 → List UInt8
  | [] => []
  | [c] => [c]
  | c :: d :: l => if c = 48 then trimL (d :: l) else c :: d :: l
theorem trimL_val : ∀ l : List UInt8, val (trimL l) = val l
  | [] => rfl
  | [c] => rfl
  | c :: d :: l => by
    unfold trimL
    split
    · rename_i h
      rw [trimL_val (d :: l)]
      have := val_append [c] (d :: l)
      rw [h] at this ⊢
      rw [show [48] ++ d :: l = 48 :: d :: l from rfl, val_one] at this
      rw [this]
      simp [dv]
    · rfl
theorem trimL_isN : ∀ l : List UInt8, l ≠ [] → l.all isD = true → isN (trimL l) = true
  | [], h, _ => absurd rfl h
  | [c], _, h => by
    unfold trimL isN
    rw [h]
    rfl
  | c :: d :: l, _, h => by
    unfold trimL
    split
    · exact trimL_isN (d :: l) (by simp) (by simp only [List.all_cons, Bool.and_eq_true] at h ⊢; exact h.2)
    · rename_i hc
      unfold isN
      rw [h]
      simp [hc]
theorem trimL_dec (l : List UInt8) (h0 : l ≠ []) (h : l.all isD = true) : trimL l = Lib.decDigits (val l) := by
  rw [← trimL_val l]
  exact (dec_val _ (trimL_isN l h0 h)).symm

/- The order of texts of numbers. -/
theorem val_cons (c : UInt8) (l : List UInt8) : val (c :: l) = dv c * 10 ^ l.length + val l := by
  have := val_append [c] l
  rw [val_one] at this
  exact this
theorem less_val : ∀ (x y : List UInt8), x.all isD = true → y.all isD = true → x.length = y.length → Op.bytesLess x y = decide (val x < val y)
  | [], [], _, _, _ => by unfold Op.bytesLess; simp
  | [], _ :: _, _, _, h => by simp at h
  | _ :: _, [], _, _, h => by simp at h
  | a :: x, b :: y, hx, hy, hl => by
    simp only [List.all_cons, Bool.and_eq_true] at hx hy
    have hl2 : x.length = y.length := by simpa using hl
    have ih := less_val x y hx.2 hy.2 hl2
    have vx := val_lt x hx.2
    have vy := val_lt y hy.2
    rw [hl2] at vx
    unfold Op.bytesLess
    rw [ih, val_cons, val_cons, hl2]
    have ha := (isD_iff a).1 hx.1
    have hb := (isD_iff b).1 hy.1
    generalize 10 ^ y.length = P at *
    have e1 : (a < b) ↔ dv a < dv b := by
      rw [UInt8.lt_iff_toNat_lt]
      unfold dv
      omega
    have e2 : (a = b) ↔ dv a = dv b := by
      constructor
      · intro h; rw [h]
      · intro h
        apply UInt8.toNat_inj.1
        unfold dv at h
        omega
    by_cases h1 : dv a < dv b
    · have : dv a * P + P ≤ dv b * P := by
        have := Nat.mul_le_mul_right P (show dv a + 1 ≤ dv b by omega)
        rw [Nat.add_mul, Nat.one_mul] at this
        exact this
      rw [decide_eq_true (e1.2 h1), Bool.true_or, decide_eq_true (by omega)]
    · by_cases h2 : dv a = dv b
      · have ab := e2.2 h2
        subst ab
        have : ¬ a < a := by rw [UInt8.lt_iff_toNat_lt]; omega
        rw [decide_eq_false this, Bool.false_or]
        simp
      · have : dv b * P + P ≤ dv a * P := by
          have := Nat.mul_le_mul_right P (show dv b + 1 ≤ dv a by omega)
          rw [Nat.add_mul, Nat.one_mul] at this
          exact this
        have n1 : ¬ a < b := fun h => h1 (e1.1 h)
        have n2 : (a == b) = false := by
          rw [beq_eq_false_iff_ne]
          exact fun h => h2 (e2.1 h)
        rw [decide_eq_false n1, n2, Bool.false_and, Bool.false_or]
        exact (decide_eq_false (by omega)).symm
theorem len_lt (m n : Nat) (h : (Lib.decDigits m).length < (Lib.decDigits n).length) : m < n := by
  have h1 := lt_dec m
  have h2 : ¬ n < 10 ^ (Lib.decDigits m).length := fun k => by
    have := (dec_len (dec_len1 m)).2 k
    omega
  omega

/- Adding and taking away, digit by digit. -/
theorem plus_step (ds : List Nat) (m n k cy t : Nat) (hk : ds.length = k) (h : lt10 ds + 10 ^ k * cy = m % 10 ^ k + n % 10 ^ k) (ht : t = dgt m k + dgt n k + cy) :
    lt10 (ds ++ [t % 10]) + 10 ^ (k + 1) * (t / 10) = m % 10 ^ (k + 1) + n % 10 ^ (k + 1) := by
  rw [lt10_snoc, hk, mod_step, mod_step, Nat.pow_succ]
  have e : 10 ^ k * (t % 10) + 10 ^ k * 10 * (t / 10) = 10 ^ k * dgt m k + 10 ^ k * dgt n k + 10 ^ k * cy := by
    rw [Nat.mul_assoc, ← Nat.mul_add, ← Nat.mul_add, ← Nat.mul_add, Nat.mod_add_div, ht]
  omega
theorem plus_end (ds : List Nat) (m n M cy : Nat) (h : lt10 ds + 10 ^ (M + 1) * cy = m % 10 ^ (M + 1) + n % 10 ^ (M + 1)) (hm : m < 10 ^ M) (hn : n < 10 ^ M) : lt10 ds = m + n := by
  rw [Nat.pow_succ] at h
  rw [Nat.mod_eq_of_lt (by omega), Nat.mod_eq_of_lt (by omega)] at h
  cases cy with
  | zero => omega
  | succ c =>
    rw [Nat.mul_add, Nat.mul_one] at h
    omega
theorem minus_pos (ds : List Nat) (m n k bo t : Nat) (hk : ds.length = k) (h : lt10 ds + n % 10 ^ k = m % 10 ^ k + 10 ^ k * bo) (ht : t + dgt n k + bo = dgt m k) :
    lt10 (ds ++ [t]) + n % 10 ^ (k + 1) = m % 10 ^ (k + 1) + 10 ^ (k + 1) * 0 := by
  rw [lt10_snoc, hk, mod_step, mod_step, ← ht, Nat.mul_add, Nat.mul_add, Nat.mul_zero]
  omega
theorem minus_neg (ds : List Nat) (m n k bo t : Nat) (hk : ds.length = k) (h : lt10 ds + n % 10 ^ k = m % 10 ^ k + 10 ^ k * bo) (ht : t + dgt n k + bo = dgt m k + 10) :
    lt10 (ds ++ [t]) + n % 10 ^ (k + 1) = m % 10 ^ (k + 1) + 10 ^ (k + 1) * 1 := by
  have e : 10 ^ k * t + 10 ^ k * dgt n k + 10 ^ k * bo = 10 ^ k * dgt m k + 10 ^ k * 10 := by
    rw [← Nat.mul_add, ← Nat.mul_add, ← Nat.mul_add, ht]
  rw [lt10_snoc, hk, mod_step, mod_step, Nat.pow_succ, Nat.mul_one]
  omega
theorem minus_end (ds : List Nat) (m n L bo : Nat) (hk : ds.length = L) (hd : ∀ d ∈ ds, d < 10) (h : lt10 ds + n % 10 ^ L = m % 10 ^ L + 10 ^ L * bo) (hm : m < 10 ^ L) (hn : n ≤ m) : lt10 ds = m - n := by
  have h1 := lt10_lt ds hd
  rw [hk] at h1
  rw [Nat.mod_eq_of_lt (by omega), Nat.mod_eq_of_lt (by omega)] at h
  cases bo with
  | zero => omega
  | succ c =>
    rw [Nat.mul_add, Nat.mul_one] at h
    omega

/- Dividing, digit by digit. -/
theorem over_step (pre n d : Nat) (hn : 0 < n) (hd : d < 10) : (pre * 10 + d) / n = (pre / n) * 10 + ((pre % n) * 10 + d) / n ∧ (pre * 10 + d) % n = ((pre % n) * 10 + d) % n ∧ ((pre % n) * 10 + d) / n < 10 := by
  have h1 := Nat.mod_lt pre hn
  have h2 := Nat.div_add_mod pre n
  have e : pre * 10 + d = ((pre % n) * 10 + d) + n * ((pre / n) * 10) := by
    rw [← Nat.mul_assoc]
    omega
  refine ⟨?_, ?_, ?_⟩
  · rw [e, Nat.add_mul_div_left _ _ hn]
    omega
  · rw [e, Nat.add_mul_mod_self_left]
  · rw [Nat.div_lt_iff_lt_mul hn]
    omega
theorem div_found (x n j : Nat) (hn : 0 < n) (h1 : j * n ≤ x) (h2 : x - j * n < n) : x / n = j ∧ x % n = x - j * n := by
  have h3 : x = (x - j * n) + n * j := by rw [Nat.mul_comm n j]; omega
  have h4 : x / n = j := by
    rw [h3, Nat.add_mul_div_left _ _ hn, Nat.div_eq_of_lt h2]
    omega
  refine ⟨h4, ?_⟩
  rw [h3, Nat.add_mul_mod_self_left, Nat.mod_eq_of_lt h2]
  omega
theorem div_less (x n j : Nat) (h1 : x < 10 * n) (h2 : n ≤ x - j * n) : j < 9 ∧ (j + 1) * n ≤ x := by
  refine ⟨?_, ?_⟩
  · rcases Nat.lt_or_ge j 9 with h | h
    · exact h
    · have : 9 * n ≤ j * n := Nat.mul_le_mul_right n h
      omega
  · rw [Nat.add_mul, Nat.one_mul]
    omega

/- Multiplying, digit by digit. -/
theorem lt10_set : ∀ (L : List Nat) (p u : Nat), p < L.length → lt10 (L.set p u) + 10 ^ p * L.getD p 0 = lt10 L + 10 ^ p * u
  | [], p, u, h => by simp at h
  | c :: L, 0, u, _ => by
    simp [lt10_cons]
    omega
  | c :: L, p + 1, u, h => by
    have ih := lt10_set L p u (by simpa using h)
    rw [List.set_cons_succ, lt10_cons, lt10_cons, Nat.pow_succ, Nat.mul_comm (10 ^ p) 10, Nat.mul_assoc, Nat.mul_assoc, show (c :: L).getD (p + 1) 0 = L.getD p 0 from rfl]
    omega
theorem lt10_zeros (k : Nat) : lt10 (List.replicate k 0) = 0 := by
  induction k with
  | zero => rfl
  | succ k ih => rw [List.replicate_succ, lt10_cons, ih]
theorem times_step (L : List Nat) (m n k j z x : Nat) (hp : k + j < L.length) (hz : L.getD (k + j) 0 = z) (hx : x = dgt m k * dgt n j)
    (h : lt10 L = (m % 10 ^ k) * n + 10 ^ k * (dgt m k * (n % 10 ^ j))) : lt10 (L.set (k + j) (z + x)) = (m % 10 ^ k) * n + 10 ^ k * (dgt m k * (n % 10 ^ (j + 1))) := by
  have h1 := lt10_set L (k + j) (z + x) hp
  rw [hz, h, Nat.mul_add (10 ^ (k + j)) z x] at h1
  rw [mod_step n j, Nat.mul_add (dgt m k), Nat.mul_add (10 ^ k)]
  have e : 10 ^ k * (dgt m k * (10 ^ j * dgt n j)) = 10 ^ (k + j) * x := by
    rw [hx, Nat.pow_add, Nat.mul_left_comm (dgt m k), Nat.mul_assoc]
  rw [e]
  omega
theorem times_row (m n k lb : Nat) (hn : n < 10 ^ lb) : (m % 10 ^ k) * n + 10 ^ k * (dgt m k * (n % 10 ^ lb)) = (m % 10 ^ (k + 1)) * n := by
  rw [Nat.mod_eq_of_lt hn, mod_step, Nat.add_mul, Nat.mul_assoc]
theorem getD_set (L : List Nat) (p u i : Nat) (hp : p < L.length) : (L.set p u).getD i 0 = if i = p then u else L.getD i 0 := by
  rw [List.getD_eq_getElem?_getD, List.getD_eq_getElem?_getD, List.getElem?_set]
  by_cases h : p = i
  · subst h
    rw [if_pos rfl, if_pos rfl, if_pos hp]
    rfl
  · rw [if_neg h, if_neg (Ne.symm h)]
theorem carry_val (L : List Nat) (i : Nat) (hi : i + 1 < L.length) : lt10 ((L.set (i + 1) (L.getD (i + 1) 0 + L.getD i 0 / 10)).set i (L.getD i 0 % 10)) = lt10 L := by
  have h1 := lt10_set L (i + 1) (L.getD (i + 1) 0 + L.getD i 0 / 10) hi
  have h2 := lt10_set (L.set (i + 1) (L.getD (i + 1) 0 + L.getD i 0 / 10)) i (L.getD i 0 % 10) (by rw [List.length_set]; omega)
  rw [getD_set _ _ _ _ hi, if_neg (by omega)] at h2
  rw [Nat.mul_add] at h1
  have e : 10 ^ i * L.getD i 0 = 10 ^ (i + 1) * (L.getD i 0 / 10) + 10 ^ i * (L.getD i 0 % 10) := by
    rw [Nat.pow_succ, Nat.mul_assoc, ← Nat.mul_add, Nat.div_add_mod]
  omega
theorem last_zero (L : List Nat) (N m : Nat) (hN : L.length = N + 1) (h : lt10 L = m) (hm : m < 10 ^ N) : L.getD N 0 = 0 := by
  have h1 := lt10_set L N 0 (by omega)
  rcases Nat.eq_zero_or_pos (L.getD N 0) with k | k
  · exact k
  · have : 10 ^ N * 1 ≤ 10 ^ N * L.getD N 0 := Nat.mul_le_mul_left _ k
    omega
theorem all_small (L : List Nat) (N : Nat) (hN : L.length = N + 1) (h1 : ∀ i, i < N → L.getD i 0 < 10) (h2 : L.getD N 0 = 0) : ∀ d ∈ L, d < 10 := by
  intro d hd
  obtain ⟨i, hi, rfl⟩ := List.getElem_of_mem hd
  have e : L[i] = L.getD i 0 := by rw [List.getD_eq_getElem?_getD, List.getElem?_eq_getElem hi]; rfl
  rw [e]
  by_cases h : i < N
  · exact h1 i h
  · rw [show i = N by omega, h2]
    omega
end Go.Proofs.YtkbncdcphohmiaaGreatDoor.Na
