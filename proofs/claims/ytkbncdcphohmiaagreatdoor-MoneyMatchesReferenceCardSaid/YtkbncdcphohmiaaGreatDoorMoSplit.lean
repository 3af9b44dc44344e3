/- The mathematics of dividing units by largest remainders (layer 8). Nothing of the program is imported. -/
import Derived.Below
set_option linter.unusedSimpArgs false
set_option linter.unusedVariables false
namespace Go.Proofs.YtkbncdcphohmiaaGreatDoor
/-! ### who gets one of the units that are left -/
/-- The place j comes before the place i: a greater remainder, or the same one further ahead. -/
def Mo.bf (r : Nat → Nat) (j i : Nat) : Bool := decide (r i < r j) || (decide (r j = r i) && decide (j < i))
def Mo.cnt (n : Nat) (p : Nat → Bool) : Nat := ((List.range n).filter p).length
def Mo.rank (r : Nat → Nat) (n i : Nat) : Nat := Mo.cnt n (fun j => Mo.bf r j i)
theorem Mo.bf_iff (r : Nat → Nat) (j i : Nat) : Mo.bf r j i = true ↔ r i < r j ∨ (r j = r i ∧ j < i) := by
  simp [Mo.bf]
theorem Mo.bf_irr (r : Nat → Nat) (i : Nat) : Mo.bf r i i = false := by
  cases h : Mo.bf r i i with
  | false => rfl
  | true => have := (Mo.bf_iff r i i).1 h; omega
theorem Mo.bf_trans {r : Nat → Nat} {a b c : Nat} (h1 : Mo.bf r a b = true) (h2 : Mo.bf r b c = true) : Mo.bf r a c = true := by
  rw [Mo.bf_iff] at *
  omega
theorem Mo.bf_total (r : Nat → Nat) {a b : Nat} (h : a ≠ b) : Mo.bf r a b = true ∨ Mo.bf r b a = true := by
  rw [Mo.bf_iff, Mo.bf_iff]
  omega
theorem Mo.filter_le {α : Type} (p q : α → Bool) : ∀ l : List α, (∀ x ∈ l, p x = true → q x = true) → (l.filter p).length ≤ (l.filter q).length
  | [], _ => by simp
  | x :: l, h => by
    have ih := Mo.filter_le p q l (fun y hy => h y (by simp [hy]))
    simp only [List.filter_cons]
    cases hp : p x
    · cases hq : q x <;> simp <;> omega
    · rw [h x (by simp) hp]
      simp
      omega
theorem Mo.filter_lt {α : Type} (p q : α → Bool) : ∀ l : List α, (∀ x ∈ l, p x = true → q x = true) → (∃ x ∈ l, p x = false ∧ q x = true) → (l.filter p).length < (l.filter q).length
  | [], _, h => by obtain ⟨x, hx, _⟩ := h; simp at hx
  | x :: l, h, hx => by
    have hle := Mo.filter_le p q l (fun y hy => h y (by simp [hy]))
    simp only [List.filter_cons]
    obtain ⟨y, hy, h1, h2⟩ := hx
    rcases List.mem_cons.1 hy with rfl | hy
    · rw [h1, h2]
      simp
      omega
    · have ih := Mo.filter_lt p q l (fun z hz => h z (by simp [hz])) ⟨y, hy, h1, h2⟩
      cases hp : p x
      · cases hq : q x <;> simp <;> omega
      · rw [h x (by simp) hp]
        simp
        omega
theorem Mo.cnt_le {n : Nat} {p q : Nat → Bool} (h : ∀ x, x < n → p x = true → q x = true) : Mo.cnt n p ≤ Mo.cnt n q := Mo.filter_le p q _ (fun x hx => h x (List.mem_range.1 hx))
theorem Mo.cnt_lt {n : Nat} {p q : Nat → Bool} (h : ∀ x, x < n → p x = true → q x = true) (y : Nat) (hy : y < n) (h1 : p y = false) (h2 : q y = true) : Mo.cnt n p < Mo.cnt n q :=
  Mo.filter_lt p q _ (fun x hx => h x (List.mem_range.1 hx)) ⟨y, List.mem_range.2 hy, h1, h2⟩
theorem Mo.cnt_congr {n : Nat} {p q : Nat → Bool} (h : ∀ x, x < n → p x = q x) : Mo.cnt n p = Mo.cnt n q :=
  Nat.le_antisymm (Mo.cnt_le fun x hx hp => by rw [← h x hx]; exact hp) (Mo.cnt_le fun x hx hp => by rw [h x hx]; exact hp)
theorem Mo.cnt_all {n : Nat} {p : Nat → Bool} (h : ∀ x, x < n → p x = true) : Mo.cnt n p = n := by
  unfold Mo.cnt
  rw [List.filter_eq_self.2 (fun x hx => h x (List.mem_range.1 hx)), List.length_range]
theorem Mo.cnt_none {n : Nat} {p : Nat → Bool} (h : ∀ x, x < n → p x = false) : Mo.cnt n p = 0 := by
  unfold Mo.cnt
  rw [List.filter_eq_nil_iff.2 (fun x hx => by rw [h x (List.mem_range.1 hx)]; simp)]
  rfl
theorem Mo.cnt_succ (n : Nat) (p : Nat → Bool) : Mo.cnt (n + 1) p = Mo.cnt n p + if p n then 1 else 0 := by
  unfold Mo.cnt
  rw [List.range_succ, List.filter_append, List.length_append]
  cases h : p n <;> simp [h]
/-- One more. -/
theorem Mo.cnt_one {n : Nat} {p q : Nat → Bool} (b : Nat) (hb : b < n) (h1 : p b = false) (h2 : q b = true) (h : ∀ x, x < n → x ≠ b → p x = q x) : Mo.cnt n q = Mo.cnt n p + 1 := by
  induction n with
  | zero => omega
  | succ n ih =>
    rw [Mo.cnt_succ, Mo.cnt_succ]
    by_cases hbn : b = n
    · subst hbn
      rw [h1, h2, Mo.cnt_congr (p := q) (q := p) (fun x hx => (h x (by omega) (by omega)).symm)]
      simp
    · rw [ih (by omega) (fun x hx hne => h x (by omega) hne), h n (by omega) (fun e => hbn e.symm)]
      cases q n <;> simp <;> omega
theorem Mo.rank_lt {r : Nat → Nat} {n a b : Nat} (ha : a < n) (h : Mo.bf r a b = true) : Mo.rank r n a < Mo.rank r n b :=
  Mo.cnt_lt (fun _ _ hx => Mo.bf_trans hx h) a ha (Mo.bf_irr r a) h
theorem Mo.rank_inj {r : Nat → Nat} {n a b : Nat} (ha : a < n) (hb : b < n) (h : Mo.rank r n a = Mo.rank r n b) : a = b := by
  by_cases hab : a = b
  · exact hab
  · rcases Mo.bf_total r hab with h1 | h1
    · have := Mo.rank_lt (n := n) ha h1; omega
    · have := Mo.rank_lt (n := n) hb h1; omega
/-- The first of the greatest among those that have nothing yet has the next rank. -/
theorem Mo.next {r : Nat → Nat} {n t b : Nat} (hc : Mo.cnt n (fun i => decide (Mo.rank r n i < t)) = t) (hb : b < n) (hnew : ¬ Mo.rank r n b < t) (hmax : ∀ j, j < n → j ≠ b → ¬ Mo.rank r n j < t → Mo.bf r b j = true) :
    Mo.rank r n b = t ∧ Mo.cnt n (fun i => decide (Mo.rank r n i < t + 1)) = t + 1 := by
  have e : ∀ j, j < n → Mo.bf r j b = decide (Mo.rank r n j < t) := fun j hj => by
    by_cases hjb : j = b
    · subst hjb
      rw [Mo.bf_irr, decide_eq_false hnew]
    · by_cases hch : Mo.rank r n j < t
      · rw [decide_eq_true hch]
        rcases Mo.bf_total r hjb with h | h
        · exact h
        · have := Mo.rank_lt (n := n) hb h
          omega
      · rw [decide_eq_false hch]
        have h := hmax j hj hjb hch
        cases h2 : Mo.bf r j b with
        | false => rfl
        | true => have := Mo.bf_trans h h2; rw [Mo.bf_irr] at this; cases this
  have hr : Mo.rank r n b = t := by
    unfold Mo.rank
    rw [Mo.cnt_congr e]
    exact hc
  refine ⟨hr, ?_⟩
  rw [Mo.cnt_one (p := fun i => decide (Mo.rank r n i < t)) b hb (decide_eq_false hnew) (decide_eq_true (by omega)) (fun x hx hne => ?_), hc]
  have : Mo.rank r n x ≠ t := fun e => hne (Mo.rank_inj hx hb (e.trans hr.symm))
  by_cases h : Mo.rank r n x < t
  · rw [decide_eq_true h, decide_eq_true (by omega)]
  · rw [decide_eq_false h, decide_eq_false (by omega)]
/-- There is a first one of the greatest. -/
theorem Mo.ex_first (r : Nat → Nat) (p : Nat → Bool) : ∀ n, (∃ i, i < n ∧ p i = true) → ∃ b, b < n ∧ p b = true ∧ ∀ j, j < n → j ≠ b → p j = true → Mo.bf r b j = true
  | 0, h => by obtain ⟨i, h, _⟩ := h; omega
  | n + 1, h => by
    by_cases hex : ∃ i, i < n ∧ p i = true
    · obtain ⟨b, hb, hp, hm⟩ := Mo.ex_first r p n hex
      by_cases hn : p n = true
      · rcases Mo.bf_total r (a := b) (b := n) (by omega) with h1 | h1
        · refine ⟨b, by omega, hp, fun j hj hne hpj => ?_⟩
          by_cases hjn : j = n
          · rw [hjn]; exact h1
          · exact hm j (by omega) hne hpj
        · refine ⟨n, by omega, hn, fun j hj hne hpj => ?_⟩
          by_cases hjb : j = b
          · rw [hjb]; exact h1
          · exact Mo.bf_trans h1 (hm j (by omega) hjb hpj)
      · refine ⟨b, by omega, hp, fun j hj hne hpj => ?_⟩
        by_cases hjn : j = n
        · rw [hjn] at hpj; exact absurd hpj hn
        · exact hm j (by omega) hne hpj
    · obtain ⟨i, hi, hpi⟩ := h
      have hin : i = n := by
        by_cases h : i < n
        · exact absurd ⟨i, h, hpi⟩ hex
        · omega
      subst hin
      refine ⟨i, by omega, hpi, fun j hj hne hpj => ?_⟩
      exact absurd ⟨j, by omega, hpj⟩ hex
theorem Mo.cnt_rank (r : Nat → Nat) (n : Nat) : ∀ t, t ≤ n → Mo.cnt n (fun i => decide (Mo.rank r n i < t)) = t
  | 0, _ => Mo.cnt_none fun x _ => by simp
  | t + 1, h => by
    have hc := Mo.cnt_rank r n t (by omega)
    have hex : ∃ i, i < n ∧ (!decide (Mo.rank r n i < t)) = true := by
      refine Classical.byContradiction fun hno => ?_
      have : Mo.cnt n (fun i => decide (Mo.rank r n i < t)) = n := Mo.cnt_all fun x hx => by
        cases hd : decide (Mo.rank r n x < t) with
        | true => rfl
        | false => exact absurd ⟨x, hx, by rw [hd]; rfl⟩ hno
      omega
    obtain ⟨b, hb, hp, hm⟩ := Mo.ex_first r _ n hex
    exact (Mo.next hc hb (by simpa using hp) (fun j hj hne hnj => hm j hj hne (by simpa using hnj))).2
/-! ### sums -/
def Mo.sum (n : Nat) (f : Nat → Nat) : Nat := ((List.range n).map f).sum
theorem Mo.sum_succ (n : Nat) (f : Nat → Nat) : Mo.sum (n + 1) f = Mo.sum n f + f n := by
  unfold Mo.sum
  rw [List.range_succ, List.map_append, List.sum_append]
  simp
theorem Mo.sum_zero (f : Nat → Nat) : Mo.sum 0 f = 0 := rfl
theorem Mo.sum_add (n : Nat) (f g : Nat → Nat) : Mo.sum n (fun i => f i + g i) = Mo.sum n f + Mo.sum n g := by
  induction n with
  | zero => rfl
  | succ n ih => rw [Mo.sum_succ, Mo.sum_succ, Mo.sum_succ, ih]; omega
theorem Mo.sum_mul (n c : Nat) (f : Nat → Nat) : Mo.sum n (fun i => c * f i) = c * Mo.sum n f := by
  induction n with
  | zero => simp [Mo.sum_zero]
  | succ n ih => rw [Mo.sum_succ, Mo.sum_succ, ih, Nat.mul_add]
theorem Mo.sum_congr {n : Nat} {f g : Nat → Nat} (h : ∀ i, i < n → f i = g i) : Mo.sum n f = Mo.sum n g := by
  induction n with
  | zero => rfl
  | succ n ih => rw [Mo.sum_succ, Mo.sum_succ, ih (fun i hi => h i (by omega)), h n (by omega)]
theorem Mo.sum_cnt (n : Nat) (p : Nat → Bool) : Mo.sum n (fun i => if p i then 1 else 0) = Mo.cnt n p := by
  induction n with
  | zero => rfl
  | succ n ih => rw [Mo.sum_succ, Mo.cnt_succ, ih]
theorem Mo.sum_le_cnt (n s : Nat) (f : Nat → Nat) (h : ∀ i, i < n → f i < s) : Mo.sum n f + Mo.cnt n (fun i => decide (0 < f i)) ≤ Mo.cnt n (fun i => decide (0 < f i)) * s := by
  induction n with
  | zero => simp [Mo.sum_zero, Mo.cnt]
  | succ n ih =>
    have ih := ih (fun i hi => h i (by omega))
    have hn := h n (by omega)
    rw [Mo.sum_succ, Mo.cnt_succ]
    by_cases h0 : 0 < f n
    · simp only [decide_eq_true h0, if_true]
      rw [Nat.add_mul]
      omega
    · simp only [decide_eq_false h0]
      simp
      omega
/-! ### the division of units -/
def Mo.fl (u s : Nat) (p : Nat → Nat) (i : Nat) : Nat := u * p i / s
def Mo.rm (u s : Nat) (p : Nat → Nat) (i : Nat) : Nat := u * p i % s
def Mo.left (u s : Nat) (p : Nat → Nat) (n : Nat) : Nat := u - Mo.sum n (Mo.fl u s p)
def Mo.out (u s : Nat) (p : Nat → Nat) (n i : Nat) : Nat := Mo.fl u s p i + if decide (Mo.rank (Mo.rm u s p) n i < Mo.left u s p n) then 1 else 0
structure Mo.Fit (u s n : Nat) (p : Nat → Nat) : Prop where
  tot : Mo.sum n p = s
  pos : 0 < s
theorem Mo.Fit.split {u s n : Nat} {p : Nat → Nat} (h : Mo.Fit u s n p) : s * Mo.sum n (Mo.fl u s p) + Mo.sum n (Mo.rm u s p) = u * s := by
  rw [← Mo.sum_mul, ← Mo.sum_add, ← h.tot, ← Mo.sum_mul]
  exact Mo.sum_congr fun i _ => Nat.div_add_mod (u * p i) _
theorem Mo.Fit.le {u s n : Nat} {p : Nat → Nat} (h : Mo.Fit u s n p) : Mo.sum n (Mo.fl u s p) ≤ u := by
  have := h.split
  have hs := h.pos
  rw [Nat.mul_comm u s] at this
  exact Nat.le_of_mul_le_mul_left (Nat.le.intro this) hs
theorem Mo.Fit.left_mul {u s n : Nat} {p : Nat → Nat} (h : Mo.Fit u s n p) : s * Mo.left u s p n = Mo.sum n (Mo.rm u s p) := by
  have h1 := h.split
  have h2 := h.le
  unfold Mo.left
  rw [Nat.mul_sub, Nat.mul_comm s u]
  omega
theorem Mo.Fit.left_cnt {u s n : Nat} {p : Nat → Nat} (h : Mo.Fit u s n p) : Mo.left u s p n ≤ Mo.cnt n (fun i => decide (0 < Mo.rm u s p i)) := by
  have h1 := h.left_mul
  have h2 := Mo.sum_le_cnt n s (Mo.rm u s p) (fun i _ => Nat.mod_lt _ h.pos)
  have hs := h.pos
  generalize Mo.cnt n (fun i => decide (0 < Mo.rm u s p i)) = q at *
  generalize Mo.left u s p n = l at *
  rw [← h1, Nat.mul_comm q s] at h2
  exact Nat.le_of_mul_le_mul_left (Nat.le_trans (Nat.le_add_right _ _) h2) hs
theorem Mo.cnt_bound (n : Nat) (p : Nat → Bool) : Mo.cnt n p ≤ n := by
  unfold Mo.cnt
  exact Nat.le_trans (List.length_filter_le _ _) (by simp)
theorem Mo.Fit.total {u s n : Nat} {p : Nat → Nat} (h : Mo.Fit u s n p) : Mo.sum n (Mo.out u s p n) = u := by
  have hl := Nat.le_trans h.left_cnt (Mo.cnt_bound n _)
  have h2 := h.le
  unfold Mo.out
  rw [Mo.sum_add, Mo.sum_cnt, Mo.cnt_rank _ _ _ hl]
  unfold Mo.left at *
  omega
/-- Nothing is given where nothing remains. -/
theorem Mo.Fit.none {u s n : Nat} {p : Nat → Nat} (h : Mo.Fit u s n p) {i : Nat} (h0 : Mo.rm u s p i = 0) : ¬ Mo.rank (Mo.rm u s p) n i < Mo.left u s p n := by
  have hl := h.left_cnt
  have hr : Mo.cnt n (fun j => decide (0 < Mo.rm u s p j)) ≤ Mo.rank (Mo.rm u s p) n i := Mo.cnt_le fun x hx hp => by
    rw [Mo.bf_iff]
    left
    rw [h0]
    exact of_decide_eq_true hp
  omega
theorem Mo.Fit.zero {u s n : Nat} {p : Nat → Nat} (h : Mo.Fit u s n p) {i : Nat} (h0 : p i = 0) : Mo.out u s p n i = 0 := by
  have hr : Mo.rm u s p i = 0 := by unfold Mo.rm; rw [h0]; simp
  unfold Mo.out
  rw [decide_eq_false (h.none hr)]
  unfold Mo.fl
  rw [h0]
  simp
theorem Mo.Fit.share {u s n : Nat} {p : Nat → Nat} (h : Mo.Fit u s n p) (i : Nat) : Mo.out u s p n i * s + 1 ≤ u * p i + s ∧ u * p i + 1 ≤ Mo.out u s p n i * s + s := by
  have hd := Nat.div_add_mod (u * p i) s
  have hm := Nat.mod_lt (u * p i) h.pos
  have e : Mo.fl u s p i * s = s * (u * p i / s) := Nat.mul_comm _ _
  by_cases hg : Mo.rank (Mo.rm u s p) n i < Mo.left u s p n
  · have hr : u * p i % s ≠ 0 := fun h0 => h.none (i := i) h0 hg
    unfold Mo.out
    rw [decide_eq_true hg, if_pos rfl, Nat.add_mul, e]
    omega
  · unfold Mo.out
    rw [decide_eq_false hg]
    simp only [Bool.false_eq_true, if_false, Nat.add_zero]
    rw [e]
    omega
theorem Mo.Fit.mono {u s n : Nat} {p : Nat → Nat} (h : Mo.Fit u s n p) {i k : Nat} (hi : i < n) (hk : k < n) (hp : p k < p i) : Mo.out u s p n k ≤ Mo.out u s p n i := by
  have hle : u * p k ≤ u * p i := Nat.mul_le_mul_left u (by omega)
  have hf : Mo.fl u s p k ≤ Mo.fl u s p i := Nat.div_le_div_right hle
  unfold Mo.out
  by_cases he : Mo.fl u s p k = Mo.fl u s p i
  · by_cases hg : Mo.rank (Mo.rm u s p) n k < Mo.left u s p n
    · have hr : Mo.rm u s p k ≠ 0 := fun h0 => h.none h0 hg
      have hu : 0 < u := Nat.pos_of_ne_zero fun e => hr (by unfold Mo.rm; rw [e]; simp)
      have hlt : u * p k < u * p i := Nat.mul_lt_mul_of_pos_left hp hu
      have d1 := Nat.div_add_mod (u * p i) s
      have d2 := Nat.div_add_mod (u * p k) s
      have hrm : Mo.rm u s p k < Mo.rm u s p i := by
        unfold Mo.rm Mo.fl at *
        rw [he] at d2
        omega
      have := Mo.rank_lt (n := n) hi ((Mo.bf_iff (Mo.rm u s p) i k).2 (.inl hrm))
      rw [decide_eq_true hg, decide_eq_true (by omega)]
      simp
      omega
    · rw [decide_eq_false hg]
      simp only [Bool.false_eq_true, if_false, Nat.add_zero]
      omega
  · have : Mo.fl u s p k < Mo.fl u s p i := by omega
    split <;> split <;> omega
end Go.Proofs.YtkbncdcphohmiaaGreatDoor
