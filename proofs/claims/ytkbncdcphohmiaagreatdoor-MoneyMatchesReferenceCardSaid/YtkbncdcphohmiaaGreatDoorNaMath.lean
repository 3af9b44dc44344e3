/- The mathematics of natural numbers in digits and limbs: a text of digits and its value; a list of limbs of six digits, the least first, and its value. Nothing of the program is imported. -/
import Derived.Lib.ItoaNum
set_option linter.unusedSimpArgs false
set_option linter.unusedVariables false
namespace Go.Proofs.YtkbncdcphohmiaaGreatDoor.Na
open Go

/-! ### texts of digits -/
def dv (c : UInt8) : Nat := c.toNat - 48
def val (l : List UInt8) : Nat := l.foldl (fun n c => n * 10 + dv c) 0
def isD (c : UInt8) : Bool := decide (48 ≤ c.toNat) && decide (c.toNat ≤ 57)
def isN (l : List UInt8) : Bool := l.all isD && (decide (l.length = 1) || (decide (1 < l.length) && decide (l.head? ≠ some 48)))

theorem val_nil : val [] = 0 := rfl
theorem val_snoc (l : List UInt8) (c : UInt8) : val (l ++ [c]) = val l * 10 + dv c := by simp [val]
theorem val_one (c : UInt8) : val [c] = dv c := by simp [val]

theorem rev_ind {α : Type} {P : List α → Prop} (h0 : P []) (h1 : ∀ l c, P l → P (l ++ [c])) (l : List α) : P l := by
  have : ∀ l : List α, P l.reverse := by
    intro l
    induction l with
    | nil => simpa using h0
    | cons c r ih => rw [List.reverse_cons]; exact h1 _ _ ih
  have h := this l.reverse
  rwa [List.reverse_reverse] at h

theorem val_append (a b : List UInt8) : val (a ++ b) = val a * 10 ^ b.length + val b := by
  refine rev_ind (P := fun b => val (a ++ b) = val a * 10 ^ b.length + val b) (by simp [val_nil]) ?_ b
  intro l c ih
  rw [← List.append_assoc, val_snoc, ih, val_snoc, List.length_append, List.length_singleton, Nat.pow_succ, Nat.add_mul, Nat.mul_assoc]
  omega

theorem isD_iff (c : UInt8) : isD c = true ↔ 48 ≤ c.toNat ∧ c.toNat ≤ 57 := by simp [isD]
theorem dv_lt {c : UInt8} (h : isD c = true) : dv c < 10 := by
  have := (isD_iff c).1 h
  unfold dv
  omega

theorem val_lt : ∀ l : List UInt8, l.all isD = true → val l < 10 ^ l.length := by
  refine rev_ind (by simp [val_nil]) ?_
  intro l c ih h
  rw [List.all_append, Bool.and_eq_true] at h
  have h1 := ih h.1
  have h2 := dv_lt (c := c) (by simpa using h.2)
  rw [val_snoc, List.length_append, List.length_singleton, Nat.pow_succ]
  omega

theorem of_dig (d : Nat) (h : d < 10) : isD (UInt8.ofNat (48 + d)) = true ∧ dv (UInt8.ofNat (48 + d)) = d := by
  have : (UInt8.ofNat (48 + d)).toNat = 48 + d := by simp; omega
  unfold isD dv
  rw [this]
  simp
  omega

theorem dig_of {c : UInt8} (h : isD c = true) : UInt8.ofNat (48 + dv c) = c := by
  have h1 := (isD_iff c).1 h
  apply UInt8.toNat_inj.1
  unfold dv
  simp
  omega

theorem dec_lt {n : Nat} (h : n < 10) : Lib.decDigits n = [UInt8.ofNat (48 + n)] := by rw [Lib.decDigits, dif_pos h]
theorem dec_ge {n : Nat} (h : ¬ n < 10) : Lib.decDigits n = Lib.decDigits (n / 10) ++ [UInt8.ofNat (48 + n % 10)] := by rw [Lib.decDigits, dif_neg h]

theorem dec_ne (n : Nat) : Lib.decDigits n ≠ [] := by
  by_cases h : n < 10
  · rw [dec_lt h]; simp
  · rw [dec_ge h]; simp

theorem val_dec (n : Nat) : val (Lib.decDigits n) = n := by
  induction n using Nat.strongRecOn with
  | ind n ih =>
    by_cases h : n < 10
    · rw [dec_lt h, val_one, (of_dig n h).2]
    · rw [dec_ge h, val_snoc, ih (n / 10) (by omega), (of_dig (n % 10) (by omega)).2]; omega

theorem dec_all (n : Nat) : (Lib.decDigits n).all isD = true := by
  induction n using Nat.strongRecOn with
  | ind n ih =>
    by_cases h : n < 10
    · rw [dec_lt h]; simpa using (of_dig n h).1
    · rw [dec_ge h, List.all_append, ih (n / 10) (by omega)]; simpa using (of_dig (n % 10) (by omega)).1

theorem dec_head (n : Nat) (h : 0 < n) : (Lib.decDigits n).head? ≠ some 48 := by
  induction n using Nat.strongRecOn with
  | ind n ih =>
    by_cases h1 : n < 10
    · rw [dec_lt h1]
      intro h2
      have h3 : UInt8.ofNat (48 + n) = 48 := by simpa using h2
      have := (of_dig n h1).2
      rw [h3] at this
      simp [dv] at this
      omega
    · rw [dec_ge h1]
      have h2 := ih (n / 10) (by omega) (by omega)
      cases h3 : Lib.decDigits (n / 10) with
      | nil => exact absurd h3 (dec_ne _)
      | cons c r => rw [h3] at h2; simpa using h2

theorem dec_isN (n : Nat) : isN (Lib.decDigits n) = true := by
  unfold isN
  rw [dec_all, Bool.true_and]
  by_cases h : n < 10
  · rw [dec_lt h]; simp
  · have h1 := dec_head n (by omega)
    have h2 : 1 < (Lib.decDigits n).length := by
      rw [dec_ge h, List.length_append]
      have := dec_ne (n / 10)
      cases h3 : Lib.decDigits (n / 10) with
      | nil => exact absurd h3 this
      | cons c r => simp
    simp [h1, h2]

theorem isN_all {l : List UInt8} (h : isN l = true) : l.all isD = true := by
  unfold isN at h
  rw [Bool.and_eq_true] at h
  exact h.1

theorem isN_pos {l : List UInt8} (h : isN l = true) : 0 < l.length := by
  unfold isN at h
  simp at h
  omega

theorem dec_val : ∀ l : List UInt8, isN l = true → Lib.decDigits (val l) = l := by
  refine rev_ind (by intro h; simp [isN] at h) ?_
  intro l c ih h
  have hc : isD c = true := by
    have := isN_all h
    rw [List.all_append, Bool.and_eq_true] at this
    simpa using this.2
  have hl : l.all isD = true := by
    have := isN_all h
    rw [List.all_append, Bool.and_eq_true] at this
    exact this.1
  cases hlc : l with
  | nil =>
    subst hlc
    rw [List.nil_append, val_one, dec_lt (dv_lt hc), dig_of hc]
  | cons d r =>
    have hd : d ≠ 48 := by
      intro e
      rw [hlc, e] at h
      simp [isN] at h
    have hN : isN l = true := by
      unfold isN
      rw [hl, Bool.true_and, hlc]
      cases r <;> simp [hd]
    have h1 := ih hN
    have hpos : 0 < val l := by
      refine Nat.pos_of_ne_zero fun e => ?_
      rw [e, dec_lt (by omega), hlc] at h1
      simp at h1
      exact hd h1.1.symm
    rw [← hlc, val_snoc, dec_ge (by omega)]
    have hdv := dv_lt hc
    rw [show (val l * 10 + dv c) / 10 = val l by omega, show (val l * 10 + dv c) % 10 = dv c by omega, h1, dig_of hc]

theorem dec_len {n k : Nat} (hk : 1 ≤ k) : (Lib.decDigits n).length ≤ k ↔ n < 10 ^ k := by
  constructor
  · intro h
    have := val_lt _ (dec_all n)
    rw [val_dec] at this
    exact Nat.lt_of_lt_of_le this (Nat.pow_le_pow_right (by omega) h)
  · induction k using Nat.strongRecOn generalizing n with
    | ind k ih =>
      intro h
      by_cases h1 : n < 10
      · rw [dec_lt h1]; simpa using hk
      · rw [dec_ge h1, List.length_append, List.length_singleton]
        obtain ⟨j, rfl⟩ : ∃ j, k = j + 1 := ⟨k - 1, by omega⟩
        by_cases hj : j = 0
        · subst hj; simp at h; omega
        · have := ih j (by omega) (n := n / 10) (by omega) (by rw [Nat.pow_succ] at h; omega)
          omega

theorem dec_zero : Lib.decDigits 0 = [48] := by rw [dec_lt (by omega)]; rfl

theorem dec_inj {m n : Nat} (h : Lib.decDigits m = Lib.decDigits n) : m = n := by
  have := congrArg val h
  rwa [val_dec, val_dec] at this

/-- Six more digits behind a number that is not 0. -/
def pad6 (d : Nat) : List UInt8 := (Lib.decDigits (1000000 + d)).drop 1

theorem pad6_facts (d : Nat) (h : d < 1000000) : (pad6 d).length = 6 ∧ val (pad6 d) = d ∧ (pad6 d).all isD = true := by
  have h7 : (Lib.decDigits (1000000 + d)).length = 7 := by
    have h1 := (dec_len (n := 1000000 + d) (k := 7) (by omega)).2 (by omega)
    have h2 : ¬ (Lib.decDigits (1000000 + d)).length ≤ 6 := fun h3 => by
      have := (dec_len (n := 1000000 + d) (k := 6) (by omega)).1 h3
      omega
    omega
  have hall := dec_all (1000000 + d)
  have hv := val_dec (1000000 + d)
  unfold pad6
  cases hc : Lib.decDigits (1000000 + d) with
  | nil => rw [hc] at h7; simp at h7
  | cons c r =>
    rw [hc] at h7 hall hv
    have hr : r.length = 6 := by simpa using h7
    have hra : r.all isD = true := by simp at hall; simpa using hall.2
    have := val_append [c] r
    rw [List.singleton_append, hv, hr, val_one] at this
    have h2 := val_lt r hra
    rw [hr] at h2
    refine ⟨by simpa using hr, ?_, by simpa using hra⟩
    simp only [List.drop_one, List.tail_cons]
    have : dv c = 1 ∨ dv c = 0 ∨ 2 ≤ dv c := by omega
    rcases this with h3 | h3 | h3
    · rw [h3] at *; omega
    · rw [h3] at *; omega
    · have : 2 * 10 ^ 6 ≤ dv c * 10 ^ 6 := Nat.mul_le_mul_right _ h3
      omega

theorem dec_step (n d : Nat) (hn : 0 < n) (hd : d < 1000000) : Lib.decDigits (d + 1000000 * n) = Lib.decDigits n ++ pad6 d := by
  obtain ⟨h1, h2, h3⟩ := pad6_facts d hd
  have hv : val (Lib.decDigits n ++ pad6 d) = d + 1000000 * n := by
    rw [val_append, h1, h2, val_dec]
    omega
  rw [← hv]
  refine dec_val _ ?_
  unfold isN
  have hh := dec_head n hn
  cases hc : Lib.decDigits n with
  | nil => exact absurd hc (dec_ne n)
  | cons c r =>
    have ha := dec_all n
    rw [hc] at ha hh
    rw [List.all_append, ha, h3]
    have : 1 < (c :: r ++ pad6 d).length := by simp [h1]
    simp at hh
    simp [h1, hh]

/-! ### limbs -/
def lv (l : List Nat) : Nat := l.foldr (fun d a => d + 1000000 * a) 0
def lim (n : Nat) : List Nat := if h : n = 0 then [] else n % 1000000 :: lim (n / 1000000)
termination_by n
decreasing_by omega

theorem lv_nil : lv [] = 0 := rfl
theorem lv_cons (d : Nat) (l : List Nat) : lv (d :: l) = d + 1000000 * lv l := rfl
theorem lim_zero : lim 0 = [] := by rw [lim, dif_pos rfl]
theorem lim_pos {n : Nat} (h : n ≠ 0) : lim n = n % 1000000 :: lim (n / 1000000) := by rw [lim, dif_neg h]

theorem lv_lim (n : Nat) : lv (lim n) = n := by
  induction n using Nat.strongRecOn with
  | ind n ih =>
    by_cases h : n = 0
    · subst h; rw [lim_zero, lv_nil]
    · rw [lim_pos h, lv_cons, ih (n / 1000000) (by omega)]; omega

theorem lim_lt (n : Nat) : ∀ d ∈ lim n, d < 1000000 := by
  induction n using Nat.strongRecOn with
  | ind n ih =>
    by_cases h : n = 0
    · subst h; rw [lim_zero]; simp
    · rw [lim_pos h]
      intro d hd
      rcases List.mem_cons.1 hd with rfl | hd
      · omega
      · exact ih (n / 1000000) (by omega) d hd

theorem lv_append (a b : List Nat) : lv (a ++ b) = lv a + 1000000 ^ a.length * lv b := by
  induction a with
  | nil => simp [lv_nil]
  | cons d l ih => rw [List.cons_append, lv_cons, ih, lv_cons, List.length_cons, Nat.pow_succ, Nat.mul_add, Nat.mul_comm (1000000 ^ l.length) 1000000, Nat.mul_assoc]; omega

theorem lv_lt : ∀ l : List Nat, (∀ d ∈ l, d < 1000000) → lv l < 1000000 ^ l.length
  | [], _ => by simp [lv_nil]
  | d :: l, h => by
    have h1 := lv_lt l fun d hd => h d (List.mem_cons_of_mem _ hd)
    have h2 := h d List.mem_cons_self
    rw [lv_cons, List.length_cons, Nat.pow_succ]
    omega

theorem lv_zeros (k : Nat) : lv (List.replicate k 0) = 0 := by
  induction k with
  | zero => rfl
  | succ k ih => rw [List.replicate_succ, lv_cons, ih]

/-- The limbs of a number that ends with no zero are its own. -/
theorem lim_lv : ∀ l : List Nat, (∀ d ∈ l, d < 1000000) → (∀ h : l ≠ [], l.getLast h ≠ 0) → lim (lv l) = l
  | [], _, _ => by rw [lv_nil, lim_zero]
  | d :: l, h, hl => by
    have h2 := h d List.mem_cons_self
    have hz : lv (d :: l) ≠ 0 := by
      rw [lv_cons]
      cases hc : l with
      | nil =>
        subst hc
        have := hl (by simp)
        simp at this
        rw [lv_nil]
        omega
      | cons e r =>
        have h3 := lim_lv l (fun d hd => h d (List.mem_cons_of_mem _ hd)) (fun hn => by have := hl (by simp); rwa [List.getLast_cons hn] at this)
        rw [← hc]
        intro e0
        have : lv l = 0 := by omega
        rw [this, lim_zero, hc] at h3
        simp at h3
    have h3 := lim_lv l (fun d hd => h d (List.mem_cons_of_mem _ hd)) (fun hn => by have := hl (by simp); rwa [List.getLast_cons hn] at this)
    rw [lim_pos hz, lv_cons, show (d + 1000000 * lv l) % 1000000 = d by omega, show (d + 1000000 * lv l) / 1000000 = lv l by omega, h3]

theorem lim_last (n : Nat) : ∀ h : lim n ≠ [], (lim n).getLast h ≠ 0 := by
  induction n using Nat.strongRecOn with
  | ind n ih =>
    intro h
    by_cases h0 : n = 0
    · subst h0; exact absurd lim_zero h
    · have e := lim_pos h0
      by_cases h1 : n / 1000000 = 0
      · have e2 : lim n = [n % 1000000] := by rw [e, h1, lim_zero]
        have : (lim n).getLast h = n % 1000000 := by simp [e2]
        rw [this]
        omega
      · have hn : lim (n / 1000000) ≠ [] := by rw [lim_pos h1]; simp
        have : (lim n).getLast h = (lim (n / 1000000)).getLast hn := by simp [e, List.getLast_cons hn]
        rw [this]
        exact ih (n / 1000000) (by omega) hn

theorem lim_length {n k : Nat} : (lim n).length ≤ k ↔ n < 1000000 ^ k := by
  constructor
  · intro h
    have := lv_lt _ (lim_lt n)
    rw [lv_lim] at this
    exact Nat.lt_of_lt_of_le this (Nat.pow_le_pow_right (by omega) h)
  · induction k generalizing n with
    | zero =>
      intro h
      have : n = 0 := by simpa using h
      subst this
      rw [lim_zero]
      simp
    | succ k ih =>
      intro h
      by_cases h0 : n = 0
      · subst h0; rw [lim_zero]; simp
      · rw [lim_pos h0, List.length_cons]
        have := ih (n := n / 1000000) (by rw [Nat.pow_succ] at h; omega)
        omega

theorem lim_nil {n : Nat} : lim n = [] ↔ n = 0 := by
  constructor
  · intro h
    have := lv_lim n
    rw [h, lv_nil] at this
    exact this.symm
  · rintro rfl
    exact lim_zero

/-- A number with more limbs is greater. -/
theorem lim_longer {m n : Nat} (h : (lim m).length < (lim n).length) : m < n := by
  refine Nat.lt_of_not_le fun h1 => ?_
  have h2 := (lim_length (n := m) (k := (lim m).length)).1 (Nat.le_refl _)
  have := (lim_length (n := n) (k := (lim m).length)).2 (Nat.lt_of_le_of_lt h1 h2)
  omega

theorem take_succ' (l : List Nat) (k : Nat) (h : k < l.length) : l.take (k + 1) = l.take k ++ [l.getD k 0] := by
  rw [List.take_add_one, List.getElem?_eq_getElem h, List.getD_eq_getElem?_getD, List.getElem?_eq_getElem h]
  rfl

theorem drop_cons' (l : List Nat) (k : Nat) (h : k < l.length) : l.drop k = l.getD k 0 :: l.drop (k + 1) := by
  rw [List.drop_eq_getElem_cons h, List.getD_eq_getElem?_getD, List.getElem?_eq_getElem h]
  rfl

theorem lv_take (l : List Nat) (k : Nat) (h : k < l.length) : lv (l.take (k + 1)) = lv (l.take k) + 1000000 ^ k * l.getD k 0 := by
  rw [take_succ' l k h, lv_append, List.length_take, Nat.min_eq_left (by omega), lv_cons, lv_nil, Nat.mul_zero, Nat.add_zero]

theorem lv_drop (l : List Nat) (k : Nat) (h : k < l.length) : lv (l.drop k) = l.getD k 0 + 1000000 * lv (l.drop (k + 1)) := by
  rw [drop_cons' l k h, lv_cons]

theorem lv_split (l : List Nat) (k : Nat) (h : k ≤ l.length) : lv l = lv (l.take k) + 1000000 ^ k * lv (l.drop k) := by
  have := lv_append (l.take k) (l.drop k)
  rw [List.take_append_drop, List.length_take, Nat.min_eq_left h] at this
  exact this

theorem getD_lt {l : List Nat} {M : Nat} (h : ∀ d ∈ l, d < M) (k : Nat) (hk : k < l.length) : l.getD k 0 < M := by
  rw [List.getD_eq_getElem?_getD, List.getElem?_eq_getElem hk]
  exact h _ (List.getElem_mem hk)

/-- The greatest different limb decides. -/
theorem lv_cmp (a b : List Nat) (ha : ∀ d ∈ a, d < 1000000) (hb : ∀ d ∈ b, d < 1000000) (hl : a.length = b.length) (k : Nat) (hk : k < a.length) (he : a.drop (k + 1) = b.drop (k + 1)) (hlt : a.getD k 0 < b.getD k 0) : lv a < lv b := by
  have e1 := lv_split a k (by omega)
  have e2 := lv_split b k (by omega)
  rw [lv_drop a k hk] at e1
  rw [lv_drop b k (by omega)] at e2
  have h1 : lv (a.take k) < 1000000 ^ k := by
    have := lv_lt (a.take k) fun d hd => ha d (List.mem_of_mem_take hd)
    rwa [List.length_take, Nat.min_eq_left (by omega)] at this
  rw [he] at e1
  have h2 : 1000000 ^ k * (a.getD k 0 + 1000000 * lv (b.drop (k + 1)) + 1) ≤ 1000000 ^ k * (b.getD k 0 + 1000000 * lv (b.drop (k + 1))) := Nat.mul_le_mul_left _ (by omega)
  rw [Nat.mul_add, Nat.mul_one] at h2
  omega

/-! ### limbs outside of their range -/
def lz (l : List Int) : Int := l.foldr (fun d a => d + 1000000 * a) 0
theorem lz_nil : lz [] = 0 := rfl
theorem lz_cons (d : Int) (l : List Int) : lz (d :: l) = d + 1000000 * lz l := rfl

theorem lz_nat (l : List Nat) : lz (l.map fun n : Nat => (n : Int)) = (lv l : Int) := by
  induction l with
  | nil => rfl
  | cons d l ih => rw [List.map_cons, lz_cons, ih, lv_cons]; omega

theorem lz_set : ∀ (l : List Int) (k : Nat) (x : Int), k < l.length → lz (l.set k x) = lz l + ((1000000 ^ k : Nat) : Int) * (x - l.getD k 0)
  | [], _, _, h => by simp at h
  | d :: l, 0, x, _ => by simp [lz_cons]; omega
  | d :: l, k + 1, x, h => by
    have := lz_set l k x (by simpa using h)
    rw [List.set_cons_succ, lz_cons, this, lz_cons, List.getD_cons_succ, Nat.pow_succ, Int.mul_add, Nat.mul_comm, Int.natCast_mul, ← Int.mul_assoc]
    rw [show ((1000000 : Nat) : Int) = 1000000 from rfl]
    generalize (1000000 : Int) * ((1000000 ^ k : Nat) : Int) * (x - l.getD k 0) = t
    omega

theorem lz_drop (l : List Int) (k : Nat) (h : k < l.length) : lz (l.drop k) = l.getD k 0 + 1000000 * lz (l.drop (k + 1)) := by
  rw [List.drop_eq_getElem_cons h, lz_cons, List.getD_eq_getElem?_getD, List.getElem?_eq_getElem h]
  rfl

theorem lz_zeros (k : Nat) : lz (List.replicate k 0) = 0 := by
  induction k with
  | zero => rfl
  | succ k ih => rw [List.replicate_succ, lz_cons, ih]; rfl

theorem lz_app (a b : List Int) : lz (a ++ b) = lz a + ((1000000 ^ a.length : Nat) : Int) * lz b := by
  induction a with
  | nil => simp [lz_nil]
  | cons d l ih =>
    rw [List.cons_append, lz_cons, ih, lz_cons, List.length_cons, Nat.pow_succ, Int.mul_add, Nat.mul_comm, Int.natCast_mul, ← Int.mul_assoc]
    rw [show ((1000000 : Nat) : Int) = 1000000 from rfl]
    omega

/-- What carrying does in one place. -/
theorem carry_step (p : List Nat) (k : Nat) (c x rest n : Int) (hk : p.length = k)
    (h : (lv p : Int) + ((1000000 ^ k : Nat) : Int) * (c + (x + 1000000 * rest)) = n) :
    (lv (p ++ [((x + c) % 1000000).toNat]) : Int) + ((1000000 ^ (k + 1) : Nat) : Int) * ((x + c) / 1000000 + rest) = n := by
  have e1 : lv (p ++ [((x + c) % 1000000).toNat]) = lv p + 1000000 ^ k * ((x + c) % 1000000).toNat := by
    rw [lv_append, hk, lv_cons, lv_nil, Nat.mul_zero, Nat.add_zero]
  rw [e1, Nat.pow_succ, ← h]
  have e2 : (((x + c) % 1000000).toNat : Int) = (x + c) % 1000000 := Int.toNat_of_nonneg (by omega)
  rw [Int.natCast_add, Int.natCast_mul, e2, Int.natCast_mul, Int.mul_assoc, Int.add_assoc, ← Int.mul_add]
  congr 2
  rw [show ((1000000 : Nat) : Int) = 1000000 from rfl]
  omega

theorem carry_end (p : List Nat) (k n : Nat) (c : Int) (hk : p.length = k) (hp : ∀ d ∈ p, d < 1000000)
    (h : (lv p : Int) + ((1000000 ^ k : Nat) : Int) * c = (n : Int)) (hn : n < 1000000 ^ k) : lv p = n := by
  have h1 := lv_lt p hp
  rw [hk] at h1
  generalize 1000000 ^ k = B at *
  have h2 : c = 0 := by
    rcases Int.lt_trichotomy c 0 with h3 | h3 | h3
    · have : (B : Int) * c ≤ (B : Int) * (-1) := Int.mul_le_mul_of_nonneg_left (by omega) (by omega)
      omega
    · exact h3
    · have : (B : Int) * 1 ≤ (B : Int) * c := Int.mul_le_mul_of_nonneg_left (by omega) (by omega)
      omega
  rw [h2] at h
  simp at h
  omega

/-- What is left when the zeros at the end are gone. -/
theorem lim_trim (l : List Nat) (k : Nat) (hk : k ≤ l.length) (hl : ∀ d ∈ l, d < 1000000) (hz : l.drop k = List.replicate (l.length - k) 0) (hd : k = 0 ∨ l.getD (k - 1) 0 ≠ 0) : lim (lv l) = l.take k := by
  have e : lv l = lv (l.take k) := by
    rw [lv_split l k hk, hz, lv_zeros]
    omega
  rw [e]
  refine lim_lv _ (fun d hd => hl d (List.mem_of_mem_take hd)) ?_
  intro hn
  rcases hd with rfl | hd
  · simp at hn
  · have hk0 : k ≠ 0 := fun e => hn (by rw [e]; simp)
    have hlt : k - 1 < l.length := by omega
    rw [List.getLast_eq_getElem, List.getElem_take]
    rw [List.getD_eq_getElem?_getD, List.getElem?_eq_getElem hlt] at hd
    simp only [List.length_take, Nat.min_eq_left hk]
    exact hd

theorem drop_zero_step (l : List Nat) (k : Nat) (hk : k < l.length) (hz : l.drop (k + 1) = List.replicate (l.length - (k + 1)) 0) (h0 : l.getD k 0 = 0) : l.drop k = List.replicate (l.length - k) 0 := by
  rw [drop_cons' l k hk, hz, h0, ← List.replicate_succ]
  congr 1
  omega

/-- .. whatever was there is its own beginning. -/
theorem lim_take : ∀ l : List Nat, (∀ d ∈ l, d < 1000000) → lim (lv l) = l.take (lim (lv l)).length := by
  refine rev_ind (by intro _; simp [lv_nil, lim_zero]) ?_
  intro l c ih h
  by_cases hc : c = 0
  · have e : lv (l ++ [c]) = lv l := by rw [lv_append, hc, lv_cons, lv_nil]; omega
    have hl := ih fun d hd => h d (List.mem_append_left _ hd)
    rw [e, List.take_append_of_le_length]
    · exact hl
    · rw [hl, List.length_take]; omega
  · have e := lim_lv (l ++ [c]) h (fun _ => by simpa using hc)
    rw [e, List.take_length]

/-! ### one limb of a quotient -/
theorem quot_between (r b P d e : Nat) (hP : 0 < P) (hd : d = r / P) (he : e = b / P) (hpos : 0 < e) : d / (e + 1) ≤ r / b ∧ r / b ≤ d / e := by
  have hb : 0 < b := by
    refine Nat.pos_of_ne_zero fun h => ?_
    rw [h, Nat.zero_div] at he
    omega
  constructor
  · rw [Nat.le_div_iff_mul_le hb]
    have h1 : b < (e + 1) * P := by
      rw [he]
      have := Nat.lt_div_mul_add (a := b) hP
      rw [Nat.add_mul, Nat.one_mul]
      omega
    calc d / (e + 1) * b ≤ d / (e + 1) * ((e + 1) * P) := Nat.mul_le_mul_left _ (Nat.le_of_lt h1)
      _ = d / (e + 1) * (e + 1) * P := by rw [Nat.mul_assoc]
      _ ≤ d * P := Nat.mul_le_mul_right _ (Nat.div_mul_le_self _ _)
      _ ≤ r := by rw [hd]; exact Nat.div_mul_le_self _ _
  · rw [Nat.le_div_iff_mul_le hpos, hd, Nat.le_div_iff_mul_le hP, Nat.mul_assoc]
    have h1 : e * P ≤ b := by rw [he]; exact Nat.div_mul_le_self _ _
    exact Nat.le_trans (Nat.mul_le_mul_left _ h1) (Nat.div_mul_le_self _ _)

theorem lv_drop_div (l : List Nat) (k : Nat) (hl : ∀ d ∈ l, d < 1000000) (hk : k ≤ l.length) : lv (l.drop k) = lv l / 1000000 ^ k := by
  have h1 := lv_split l k hk
  have h2 : lv (l.take k) < 1000000 ^ k := by
    have := lv_lt (l.take k) fun d hd => hl d (List.mem_of_mem_take hd)
    rwa [List.length_take, Nat.min_eq_left hk] at this
  rw [h1, Nat.add_mul_div_left _ _ (Nat.pos_of_ne_zero (by omega)), Nat.div_eq_of_lt h2, Nat.zero_add]

theorem lv_drop_all (n k : Nat) : lv ((lim n).drop k) = n / 1000000 ^ k := by
  rcases Nat.lt_or_ge (lim n).length k with h | h
  · rw [List.drop_eq_nil_of_le (by omega), lv_nil]
    exact (Nat.div_eq_of_lt (lim_length.1 (by omega))).symm
  · rw [lv_drop_div (lim n) k (lim_lt n) h, lv_lim]

theorem lim_drop (n k : Nat) : lim (lv ((lim n).drop k)) = (lim n).drop k := by
  refine lim_lv _ (fun d hd => lim_lt n d (List.mem_of_mem_drop hd)) ?_
  intro h
  have h0 : lim n ≠ [] := fun e => h (by rw [e]; simp)
  have := lim_last n h0
  rwa [List.getLast_drop]

/-- One round of the long division. -/
theorem round_eq (m n i R x Q : Nat) (hm : lv ((lim m).drop (i + 1)) = Q * n + R) (hx : x = (lim m).getD i 0) (hi : i < (lim m).length) (hn : 0 < n) :
    lv ((lim m).drop i) = ((x + 1000000 * R) / n + 1000000 * Q) * n + ((x + 1000000 * R) - n * ((x + 1000000 * R) / n)) := by
  rw [lv_drop (lim m) i hi, hm, ← hx, Nat.add_mul]
  have h1 := Nat.div_add_mod (x + 1000000 * R) n
  have h2 : n * ((x + 1000000 * R) / n) ≤ x + 1000000 * R := Nat.mul_div_le _ _
  rw [Nat.mul_comm ((x + 1000000 * R) / n) n, Nat.mul_assoc 1000000 Q n]
  generalize n * ((x + 1000000 * R) / n) = t at *
  omega

theorem round_lt (n R x : Nat) (hR : R < n) (hx : x < 1000000) : x + 1000000 * R < 1000000 * n ∧ (x + 1000000 * R) / n < 1000000 ∧ (x + 1000000 * R) - n * ((x + 1000000 * R) / n) < n := by
  have h1 : x + 1000000 * R < 1000000 * n := by omega
  refine ⟨h1, (Nat.div_lt_iff_lt_mul (by omega)).2 h1, ?_⟩
  have h2 := Nat.div_add_mod (x + 1000000 * R) n
  have h3 := Nat.mod_lt (x + 1000000 * R) (show 0 < n by omega)
  omega

theorem quot_rem (m n Q R : Nat) (h : m = Q * n + R) (hR : R < n) : m / n = Q ∧ m % n = R := by
  rw [h, Nat.mul_comm]
  exact ⟨by rw [Nat.mul_add_div (by omega), Nat.div_eq_of_lt hR, Nat.add_zero], by rw [Nat.mul_add_mod, Nat.mod_eq_of_lt hR]⟩

theorem lv_set_drop (q : List Nat) (i x : Nat) (hi : i < q.length) : lv ((q.set i x).drop i) = x + 1000000 * lv (q.drop (i + 1)) := by
  rw [lv_drop _ i (by simpa using hi)]
  congr 1
  · rw [List.getD_eq_getElem?_getD, List.getElem?_set_self hi]; rfl
  · rw [List.drop_set, if_pos (by omega)]

/-- The two first limbs leave a quotient of at most one limb's bound. -/
theorem high_le (r b k : Nat) (hr : r < 1000000 * b) (hb : 1000000 ^ (k + 1) ≤ b) : (r / 1000000 ^ k) / (b / 1000000 ^ k) ≤ 1000000 := by
  have hP : 0 < 1000000 ^ k := Nat.pos_of_ne_zero (by simp)
  have he : 1000000 ≤ b / 1000000 ^ k := by
    rw [Nat.le_div_iff_mul_le hP, Nat.mul_comm, ← Nat.pow_succ]
    exact hb
  generalize hE : b / 1000000 ^ k = e at *
  have h1 : b < (e + 1) * 1000000 ^ k := by
    have := Nat.lt_div_mul_add (a := b) hP
    rw [hE] at this
    rw [Nat.add_mul, Nat.one_mul]
    exact this
  have h2 : r / 1000000 ^ k < 1000000 * (e + 1) := by
    rw [Nat.div_lt_iff_lt_mul hP]
    calc r < 1000000 * b := hr
      _ ≤ 1000000 * ((e + 1) * 1000000 ^ k) := Nat.mul_le_mul_left _ (Nat.le_of_lt h1)
      _ = 1000000 * (e + 1) * 1000000 ^ k := by rw [Nat.mul_assoc]
  have h3 : r / 1000000 ^ k < (1000000 + 1) * e := by omega
  have := (Nat.div_lt_iff_lt_mul (by omega : 0 < e)).2 h3
  omega

theorem lim_ge {n k : Nat} (h : k < (lim n).length) : 1000000 ^ k ≤ n := by
  refine Nat.le_of_not_lt fun h1 => ?_
  have := lim_length.2 h1
  omega

/-- Between two bounds the first place at which the test holds tells the quotient. -/
theorem found (r b low high k q : Nat) (hb : 0 < b) (hq : q = r / b) (h1 : low ≤ q) (h2 : q ≤ high) (hk : k ≤ high - low) (h3 : k = 0 ∨ ¬ r < b * (low + (k - 1) + 1)) (h4 : k = high - low ∨ r < b * (low + k + 1)) : low + k = q := by
  have h5 : low + k ≤ q := by
    rcases h3 with rfl | h3
    · omega
    · rcases Nat.eq_zero_or_pos k with rfl | hp
      · omega
      · rw [hq, Nat.le_div_iff_mul_le hb, Nat.mul_comm]
        have : low + (k - 1) + 1 = low + k := by omega
        rw [this] at h3
        omega
  have h6 : q ≤ low + k := by
    rcases h4 with rfl | h4
    · omega
    · have : q < low + k + 1 := by
        rw [hq, Nat.div_lt_iff_lt_mul hb, Nat.mul_comm]
        exact h4
      omega
  omega

end Go.Proofs.YtkbncdcphohmiaaGreatDoor.Na
