/- The mathematics of the library's stable sort: insertion in blocks, and the merging of two sorted blocks by rotations. Nothing of the program is imported. -/
import Derived.Sort.LotA
set_option linter.unusedSimpArgs false
set_option linter.unusedVariables false
namespace Go.Proofs.YtkbncdcphohmiaaGreatDoor
open Go.Sort
section
variable {α : Type} [Inhabited α]

/-- By the order, and those that are equal by their places at the start. -/
def Sb.prB (lt : α → α → Bool) (ix : α → Nat) (x y : α) : Bool := lt x y || (!lt y x && decide (ix x < ix y))
omit [Inhabited α] in
theorem Sb.prB_iff (lt : α → α → Bool) (ix : α → Nat) (x y : α) : Sb.prB lt ix x y = true ↔ lt x y = true ∨ (lt y x = false ∧ ix x < ix y) := by
  simp [Sb.prB]
omit [Inhabited α] in
theorem Sb.prB_no (lt : α → α → Bool) (ix : α → Nat) (x y : α) : Sb.prB lt ix x y = false ↔ lt x y = false ∧ (lt y x = true ∨ ix y ≤ ix x) := by
  cases h : Sb.prB lt ix x y with
  | true =>
    have := (Sb.prB_iff lt ix x y).1 h
    constructor
    · intro h; cases h
    · rintro ⟨h1, h2⟩
      rcases this with h3 | ⟨h3, h4⟩
      · rw [h1] at h3; cases h3
      · rcases h2 with h2 | h2
        · rw [h3] at h2; cases h2
        · omega
  | false =>
    refine ⟨fun _ => ?_, fun _ => rfl⟩
    have hn : ¬ (lt x y = true ∨ (lt y x = false ∧ ix x < ix y)) := fun h' => by rw [(Sb.prB_iff lt ix x y).2 h'] at h; cases h
    constructor
    · cases h1 : lt x y with
      | true => exact absurd (.inl h1) hn
      | false => rfl
    · cases h2 : lt y x with
      | true => exact .inl rfl
      | false =>
        right
        by_cases h3 : ix y ≤ ix x
        · exact h3
        · exact absurd (.inr ⟨h2, by omega⟩) hn
omit [Inhabited α] in
theorem Sb.swo {lt : α → α → Bool} (hS : SWO lt) (ix : α → Nat) : SWO (Sb.prB lt ix) where
  irrefl x := (Sb.prB_no lt ix x x).2 ⟨hS.irrefl x, .inr (Nat.le_refl _)⟩
  trans x y z h1 h2 := by
    rw [Sb.prB_iff] at *
    rcases h1 with h1 | ⟨h1, i1⟩
    · rcases h2 with h2 | ⟨h2, i2⟩
      · exact .inl (hS.trans _ _ _ h1 h2)
      · left
        cases h : lt x z with
        | true => rfl
        | false =>
          have := hS.ntrans x z y h h2
          rw [h1] at this; cases this
    · rcases h2 with h2 | ⟨h2, i2⟩
      · left
        cases h : lt x z with
        | true => rfl
        | false =>
          have := hS.ntrans y x z h1 h
          rw [h2] at this; cases this
      · by_cases h : lt x z = true
        · exact .inl h
        · exact .inr ⟨hS.ntrans _ _ _ h2 h1, by omega⟩
  ntrans x y z h1 h2 := by
    rw [Sb.prB_no] at *
    refine ⟨hS.ntrans _ _ _ h1.1 h2.1, ?_⟩
    rcases h1.2 with h3 | h3
    · left
      cases h : lt z x with
      | true => rfl
      | false =>
        have := hS.ntrans y z x h2.1 h
        rw [h3] at this; cases this
    · rcases h2.2 with h4 | h4
      · left
        cases h : lt z x with
        | true => rfl
        | false =>
          have := hS.ntrans z x y h h1.1
          rw [h4] at this; cases this
      · right; omega

/-- Places: each one before b stands further ahead at the start than each later one. -/
def Sb.LR (ix : α → Nat) (a m b : Nat) (d : Array α) : Prop := ∀ i j, a ≤ i → i < m → m ≤ j → j < b → ix d[i]! < ix d[j]!
def Sb.Cross (pr : α → α → Bool) (a m b : Nat) (d : Array α) : Prop := ∀ i j, a ≤ i → i < m → m ≤ j → j < b → pr d[j]! d[i]! = false

theorem Sb.LR.perm {ix : α → Nat} {a m b : Nat} {d d' : Array α} (h : Sb.LR ix a m b d) (hb : b ≤ d.size) (hm : m ≤ b) (h1 : PermIn a m d d') : Sb.LR ix a m b d' := fun i j h2 h3 h4 h5 => by
  rw [h1.2.1 j (.inr h4)]
  exact permIn_all d d' a m (fun x => ix x < ix d[j]!) (by omega) h1 (fun k h6 h7 => h k j h6 h7 h4 h5) i h2 h3
theorem Sb.LR.perm' {ix : α → Nat} {a m b : Nat} {d d' : Array α} (h : Sb.LR ix a m b d) (hb : b ≤ d.size) (h1 : PermIn m b d d') : Sb.LR ix a m b d' := fun i j h2 h3 h4 h5 => by
  rw [h1.2.1 i (.inl h3)]
  exact permIn_all d d' m b (fun x => ix d[i]! < ix x) hb h1 (fun k h6 h7 => h i k h2 h3 h6 h7) j h4 h5
theorem Sb.Cross.perm {pr : α → α → Bool} {a m b : Nat} {d d' : Array α} (h : Sb.Cross pr a m b d) (hb : b ≤ d.size) (hm : m ≤ b) (h1 : PermIn a m d d') : Sb.Cross pr a m b d' := fun i j h2 h3 h4 h5 => by
  rw [h1.2.1 j (.inr h4)]
  exact permIn_all d d' a m (fun x => pr d[j]! x = false) (by omega) h1 (fun k h6 h7 => h k j h6 h7 h4 h5) i h2 h3
theorem Sb.Cross.perm' {pr : α → α → Bool} {a m b : Nat} {d d' : Array α} (h : Sb.Cross pr a m b d) (hb : b ≤ d.size) (h1 : PermIn m b d d') : Sb.Cross pr a m b d' := fun i j h2 h3 h4 h5 => by
  rw [h1.2.1 i (.inl h3)]
  exact permIn_all d d' m b (fun x => pr x d[i]! = false) hb h1 (fun k h6 h7 => h i k h2 h3 h6 h7) j h4 h5
theorem Sb.Cross.sorted {pr : α → α → Bool} {a m b : Nat} {d : Array α} (h : Sb.Cross pr a m b d) (h1 : SortedIn pr a m d) (h2 : SortedIn pr m b d) : SortedIn pr a b d := fun i j hi hij hj => by
  by_cases h3 : j < m
  · exact h1 i j hi hij h3
  · by_cases h4 : m ≤ i
    · exact h2 i j h4 hij hj
    · exact h i j hi (by omega) (by omega) hj
/-- What lies outside of the places that are permuted is as sorted as before. -/
theorem Sb.sorted_out {pr : α → α → Bool} {a b p q : Nat} {d d' : Array α} (h : SortedIn pr p q d) (h1 : PermIn a b d d') (ho : q ≤ a ∨ b ≤ p) : SortedIn pr p q d' := fun i j hi hij hj => by
  rw [h1.2.1 i (by omega), h1.2.1 j (by omega)]
  exact h i j hi hij hj
theorem Sb.lr_out {ix : α → Nat} {a b p m q : Nat} {d d' : Array α} (h : Sb.LR ix p m q d) (h1 : PermIn a b d d') (ho : q ≤ a ∨ b ≤ p) : Sb.LR ix p m q d' := fun i j hi him hmj hj => by
  rw [h1.2.1 i (by omega), h1.2.1 j (by omega)]
  exact h i j hi him hmj hj

/-! ### exchanging two stretches, and rotating -/
/-- The first n of the two stretches are exchanged. -/
structure Sb.Swp (d d' : Array α) (p q n : Nat) : Prop where
  size : d'.size = d.size
  left : ∀ t, t < n → d'[p + t]! = d[q + t]!
  right : ∀ t, t < n → d'[q + t]! = d[p + t]!
  out : ∀ k, (k < p ∨ p + n ≤ k) → (k < q ∨ q + n ≤ k) → d'[k]! = d[k]!
theorem Sb.Swp.start (d : Array α) (p q : Nat) : Sb.Swp d d p q 0 := ⟨rfl, fun t h => by omega, fun t h => by omega, fun _ _ _ => rfl⟩
theorem Sb.Swp.step {d d' : Array α} {p q n N : Nat} (h : Sb.Swp d d' p q n) (hn : n < N) (hpq : p + N ≤ q) (hq : q + N ≤ d.size) : Sb.Swp d (swp d' (p + n) (q + n)) p q (n + 1) := by
  have hs := h.size
  have g := swp_get d' (i := p + n) (j := q + n) (by omega) (by omega)
  refine ⟨by rw [size_swp, hs], fun t ht => ?_, fun t ht => ?_, fun k h1 h2 => ?_⟩
  · rw [g]
    by_cases e : t = n
    · subst e
      rw [if_neg (by omega), if_pos rfl]
      exact h.out _ (by omega) (by omega)
    · rw [if_neg (by omega), if_neg (by omega)]
      exact h.left t (by omega)
  · rw [g]
    by_cases e : t = n
    · subst e
      rw [if_pos rfl]
      exact h.out _ (by omega) (by omega)
    · rw [if_neg (by omega), if_neg (by omega)]
      exact h.right t (by omega)
  · rw [g, if_neg (by omega), if_neg (by omega)]
    exact h.out k (by omega) (by omega)
/-- What rotating brings to a place: first the stretch from m to b, then that from a to m. -/
def Sb.rot (a m b : Nat) (d : Array α) (k : Nat) : α := if a ≤ k ∧ k < a + (b - m) then d[k + (m - a)]! else if a + (b - m) ≤ k ∧ k < b then d[k - (b - m)]! else d[k]!
/-- On the way: what is still to be rotated is i places up to m, and j places from m on. -/
structure Sb.Rot (R : Nat → α) (m i j : Nat) (d : Array α) : Prop where
  le : i ≤ m
  first : ∀ k, m - i ≤ k → k < m - i + j → R k = d[k + i]!
  last : ∀ k, m - i + j ≤ k → k < m + j → R k = d[k - j]!
  out : ∀ k, k < m - i ∨ m + j ≤ k → R k = d[k]!
theorem Sb.Rot.start (a m b : Nat) (d : Array α) (h1 : a ≤ m) (h2 : m ≤ b) : Sb.Rot (Sb.rot a m b d) m (m - a) (b - m) d := by
  refine ⟨by omega, fun k h3 h4 => ?_, fun k h3 h4 => ?_, fun k h3 => ?_⟩
  · unfold Sb.rot
    rw [if_pos (by omega)]
  · unfold Sb.rot
    rw [if_neg (by omega), if_pos (by omega)]
  · unfold Sb.rot
    rw [if_neg (by omega), if_neg (by omega)]
theorem Sb.Rot.down {R : Nat → α} {m i j : Nat} {d d' : Array α} (h : Sb.Rot R m i j d) (hij : j < i) (hs : Sb.Swp d d' (m - i) m j) : Sb.Rot R m (i - j) j d' := by
  have hle := h.le
  refine ⟨by omega, fun k h3 h4 => ?_, fun k h3 h4 => ?_, fun k h3 => ?_⟩
  · rw [h.last k (by omega) (by omega)]
    have := hs.right (k - j - (m - i)) (by omega)
    rw [show m + (k - j - (m - i)) = k + (i - j) by omega, show m - i + (k - j - (m - i)) = k - j by omega] at this
    exact this.symm
  · rw [h.last k (by omega) (by omega)]
    exact (hs.out (k - j) (by omega) (by omega)).symm
  · by_cases hk : m - i ≤ k ∧ k < m - i + j
    · rw [h.first k hk.1 hk.2]
      have := hs.left (k - (m - i)) (by omega)
      rw [show m - i + (k - (m - i)) = k by omega, show m + (k - (m - i)) = k + i by omega] at this
      exact this.symm
    · rw [h.out k (by omega)]
      exact (hs.out k (by omega) (by omega)).symm
theorem Sb.Rot.up {R : Nat → α} {m i j : Nat} {d d' : Array α} (h : Sb.Rot R m i j d) (hij : i < j) (hs : Sb.Swp d d' (m - i) (m + j - i) i) : Sb.Rot R m i (j - i) d' := by
  have hle := h.le
  refine ⟨hle, fun k h3 h4 => ?_, fun k h3 h4 => ?_, fun k h3 => ?_⟩
  · rw [h.first k (by omega) (by omega)]
    exact (hs.out (k + i) (by omega) (by omega)).symm
  · by_cases hk : k < m - i + j
    · rw [h.first k (by omega) hk]
      have := hs.left (k + i - j - (m - i)) (by omega)
      rw [show m - i + (k + i - j - (m - i)) = k - (j - i) by omega, show m + j - i + (k + i - j - (m - i)) = k + i by omega] at this
      exact this.symm
    · omega
  · by_cases hk : m + (j - i) ≤ k ∧ k < m + j
    · rw [h.last k (by omega) hk.2]
      have := hs.right (k - (m + j - i)) (by omega)
      rw [show m + j - i + (k - (m + j - i)) = k by omega, show m - i + (k - (m + j - i)) = k - j by omega] at this
      exact this.symm
    · rw [h.out k (by omega)]
      exact (hs.out k (by omega) (by omega)).symm
theorem Sb.Rot.fin {R : Nat → α} {m i : Nat} {d d' : Array α} (h : Sb.Rot R m i i d) (hs : Sb.Swp d d' (m - i) m i) : ∀ k, R k = d'[k]! := by
  have hle := h.le
  intro k
  by_cases h1 : m - i ≤ k ∧ k < m
  · rw [h.first k h1.1 (by omega)]
    have := hs.left (k - (m - i)) (by omega)
    rw [show m - i + (k - (m - i)) = k by omega, show m + (k - (m - i)) = k + i by omega] at this
    exact this.symm
  · by_cases h2 : m ≤ k ∧ k < m + i
    · rw [h.last k (by omega) h2.2]
      have := hs.right (k - m) (by omega)
      rw [show m + (k - m) = k by omega, show m - i + (k - m) = k - i by omega] at this
      exact this.symm
    · rw [h.out k (by omega)]
      exact (hs.out k (by omega) (by omega)).symm

/-! ### merging -/
section
variable {lt : α → α → Bool} {ix : α → Nat}
omit [Inhabited α] in
/-- The first element of the right part is not less than that of the left one, or it is less. -/
theorem Sb.le_of_not {x y : α} (hS : SWO lt) (hi : ix x < ix y) (h : lt y x = false) : Sb.prB lt ix y x = false := (Sb.prB_no lt ix y x).2 ⟨h, by
  by_cases h2 : lt x y = true
  · exact .inl h2
  · exact .inr (by omega)⟩
omit [Inhabited α] in
theorem Sb.le_of_lt {x y : α} (hS : SWO lt) (h : lt y x = true) : Sb.prB lt ix x y = false := (Sb.prB_no lt ix x y).2 ⟨hS.asymmA h, .inl h⟩
theorem Sb.sorted_le {pr : α → α → Bool} (hS : SWO pr) {a b : Nat} {d : Array α} (h : SortedIn pr a b d) {i j : Nat} (hi : a ≤ i) (hij : i ≤ j) (hj : j < b) : pr d[j]! d[i]! = false := by
  by_cases e : i = j
  · subst e; exact hS.irrefl _
  · exact h i j hi (by omega) hj

/-- The parts behind the rotation, and that all of the first half stand before all of the second one. -/
theorem Sb.rotated {a m b mid s e : Nat} {d d' : Array α} (hS : SWO lt) (h1 : SortedIn (Sb.prB lt ix) a m d) (h2 : SortedIn (Sb.prB lt ix) m b d) (hlr : Sb.LR ix a m b d)
    (has : a ≤ s) (hsm : s ≤ m) (hme : m ≤ e) (heb : e ≤ b) (hmid : mid = s + (e - m)) (hd : ∀ k, d'[k]! = Sb.rot s m e d k)
    (b1 : a < s → e < b → Sb.prB lt ix d[e]! d[s - 1]! = false) (b2 : m < e → s < m → Sb.prB lt ix d[s]! d[e - 1]! = false) :
    SortedIn (Sb.prB lt ix) a s d' ∧ SortedIn (Sb.prB lt ix) s mid d' ∧ Sb.LR ix a s mid d' ∧ SortedIn (Sb.prB lt ix) mid e d' ∧ SortedIn (Sb.prB lt ix) e b d' ∧ Sb.LR ix mid e b d' ∧ Sb.Cross (Sb.prB lt ix) a mid b d' := by
  have hP := Sb.swo hS ix
  have g1 : ∀ k, k < s → d'[k]! = d[k]! := fun k hk => by rw [hd]; unfold Sb.rot; rw [if_neg (by omega), if_neg (by omega)]
  have g2 : ∀ k, s ≤ k → k < mid → d'[k]! = d[k + (m - s)]! := fun k h3 h4 => by rw [hd]; unfold Sb.rot; rw [if_pos (by omega)]
  have g3 : ∀ k, mid ≤ k → k < e → d'[k]! = d[k - (e - m)]! := fun k h3 h4 => by rw [hd]; unfold Sb.rot; rw [if_neg (by omega), if_pos (by omega)]
  have g4 : ∀ k, e ≤ k → d'[k]! = d[k]! := fun k hk => by rw [hd]; unfold Sb.rot; rw [if_neg (by omega), if_neg (by omega)]
  refine ⟨fun i j h3 h4 h5 => ?_, fun i j h3 h4 h5 => ?_, fun i j h3 h4 h5 h6 => ?_, fun i j h3 h4 h5 => ?_, fun i j h3 h4 h5 => ?_, fun i j h3 h4 h5 h6 => ?_, fun i j h3 h4 h5 h6 => ?_⟩
  · rw [g1 i (by omega), g1 j h5]; exact h1 i j h3 h4 (by omega)
  · rw [g2 i h3 (by omega), g2 j (by omega) h5]; exact h2 _ _ (by omega) (by omega) (by omega)
  · rw [g1 i h4, g2 j h5 h6]; exact hlr _ _ h3 (by omega) (by omega) (by omega)
  · rw [g3 i h3 (by omega), g3 j (by omega) h5]; exact h1 _ _ (by omega) (by omega) (by omega)
  · rw [g4 i h3, g4 j (by omega)]; exact h2 _ _ (by omega) h4 h5
  · rw [g3 i h3 h4, g4 j h5]; exact hlr _ _ (by omega) (by omega) (by omega) h6
  · by_cases his : i < s
    · rw [g1 i his]
      by_cases hje : j < e
      · rw [g3 j h5 hje]; exact h1 _ _ h3 (by omega) (by omega)
      · rw [g4 j (by omega)]
        have c1 := Sb.sorted_le hP h1 h3 (show i ≤ s - 1 by omega) (by omega)
        have c2 := Sb.sorted_le hP h2 hme (show e ≤ j by omega) h6
        exact hP.ntrans _ _ _ c2 (hP.ntrans _ _ _ (b1 (by omega) (by omega)) c1)
    · rw [g2 i (by omega) h4]
      by_cases hje : j < e
      · rw [g3 j h5 hje]
        have c1 := Sb.sorted_le hP h2 (show m ≤ i + (m - s) by omega) (show i + (m - s) ≤ e - 1 by omega) (by omega)
        have c2 := Sb.sorted_le hP h1 has (show s ≤ j - (e - m) by omega) (by omega)
        exact hP.ntrans _ _ _ c2 (hP.ntrans _ _ _ (b2 (by omega) (by omega)) c1)
      · rw [g4 j (by omega)]
        exact h2 _ _ (by omega) (by omega) h6

/-- One element on the left: it has gone up to the place before i. -/
theorem Sb.one_left {a b i : Nat} {d d' : Array α} (hS : SWO lt) (h2 : SortedIn (Sb.prB lt ix) (a + 1) b d) (hlr : Sb.LR ix a (a + 1) b d) (hi : a + 1 ≤ i) (hib : i ≤ b)
    (b1 : i = a + 1 ∨ lt d[i - 1]! d[a]! = true) (b2 : i = b ∨ lt d[i]! d[a]! = false)
    (g1 : ∀ t, a ≤ t → t < i - 1 → d'[t]! = d[t + 1]!) (g2 : d'[i - 1]! = d[a]!) (g3 : ∀ t, i ≤ t → d'[t]! = d[t]!) : SortedIn (Sb.prB lt ix) a b d' := by
  have hP := Sb.swo hS ix
  have lo : ∀ t, a + 1 ≤ t → t < i → Sb.prB lt ix d[a]! d[t]! = false := fun t h3 h4 => by
    rcases b1 with h | h
    · omega
    · exact hP.ntrans _ _ _ (Sb.le_of_lt hS h) (Sb.sorted_le hP h2 h3 (show t ≤ i - 1 by omega) (by omega))
  have hi' : ∀ t, i ≤ t → t < b → Sb.prB lt ix d[t]! d[a]! = false := fun t h3 h4 => by
    rcases b2 with h | h
    · omega
    · exact hP.ntrans _ _ _ (Sb.sorted_le hP h2 hi h3 h4) (Sb.le_of_not hS (hlr a i (Nat.le_refl _) (by omega) hi (by omega)) h)
  intro p q hp hpq hq
  by_cases hq1 : q < i - 1
  · rw [g1 p hp (by omega), g1 q (by omega) hq1]; exact h2 _ _ (by omega) (by omega) (by omega)
  · by_cases hq2 : q = i - 1
    · rw [g1 p hp (by omega), hq2, g2]; exact lo _ (by omega) (by omega)
    · rw [g3 q (by omega)]
      by_cases hp1 : p < i - 1
      · rw [g1 p hp hp1]; exact h2 _ _ (by omega) (by omega) hq
      · by_cases hp2 : p = i - 1
        · rw [hp2, g2]; exact hi' q (by omega) hq
        · rw [g3 p (by omega)]; exact h2 _ _ (by omega) hpq hq

/-- One element on the right: it has gone down to the place i. -/
theorem Sb.one_right {a m i : Nat} {d d' : Array α} (hS : SWO lt) (h1 : SortedIn (Sb.prB lt ix) a m d) (hlr : Sb.LR ix a m (m + 1) d) (hi : a ≤ i) (him : i ≤ m)
    (b1 : i = a ∨ lt d[m]! d[i - 1]! = false) (b2 : i = m ∨ lt d[m]! d[i]! = true)
    (g1 : ∀ t, i < t → t ≤ m → d'[t]! = d[t - 1]!) (g2 : d'[i]! = d[m]!) (g3 : ∀ t, t < i → d'[t]! = d[t]!) : SortedIn (Sb.prB lt ix) a (m + 1) d' := by
  have hP := Sb.swo hS ix
  have lo : ∀ t, a ≤ t → t < i → Sb.prB lt ix d[m]! d[t]! = false := fun t h3 h4 => by
    rcases b1 with h | h
    · omega
    · exact hP.ntrans _ _ _ (Sb.le_of_not hS (hlr (i - 1) m (by omega) (by omega) (Nat.le_refl _) (by omega)) h) (Sb.sorted_le hP h1 h3 (show t ≤ i - 1 by omega) (by omega))
  have hi' : ∀ t, i ≤ t → t < m → Sb.prB lt ix d[t]! d[m]! = false := fun t h3 h4 => by
    rcases b2 with h | h
    · omega
    · exact hP.ntrans _ _ _ (Sb.sorted_le hP h1 hi h3 h4) (Sb.le_of_lt hS h)
  intro p q hp hpq hq
  by_cases hp1 : i < p
  · rw [g1 p hp1 (by omega), g1 q (by omega) (by omega)]; exact h1 _ _ (by omega) (by omega) (by omega)
  · by_cases hp2 : p = i
    · rw [hp2, g2, g1 q (by omega) (by omega)]; exact hi' _ (by omega) (by omega)
    · rw [g3 p (by omega)]
      by_cases hq1 : q < i
      · rw [g3 q hq1]; exact h1 _ _ hp hpq (by omega)
      · by_cases hq2 : q = i
        · rw [hq2, g2]; exact lo p hp (by omega)
        · rw [g1 q (by omega) (by omega)]; exact h1 _ _ hp (by omega) (by omega)

/-! ### insertion -/
theorem Sb.inner (hS : SWO lt) (a : Nat) : ∀ (j : Nat) (d : Array α), j < d.size → (∀ k, a ≤ k → k < j → ix d[k]! < ix d[j]!) → insInner lt a j d = insInner (Sb.prB lt ix) a j d
  | 0, d, _, _ => by rw [insInner, insInner]
  | j + 1, d, hj, h => by
    rw [insInner, insInner]
    by_cases ha : a ≤ j
    · have hix := h j ha (by omega)
      have e : Sb.prB lt ix d[j + 1]! d[j]! = lt d[j + 1]! d[j]! := by
        cases h1 : lt d[j + 1]! d[j]! with
        | true => exact (Sb.prB_iff lt ix _ _).2 (.inl h1)
        | false => exact Sb.le_of_not hS hix h1
      rw [e]
      split
      · have g := swp_get d (i := j + 1) (j := j) hj (by omega)
        refine Sb.inner hS a j _ (by rw [size_swp]; omega) fun k h1 h2 => ?_
        rw [g, g, if_neg (by omega), if_neg (by omega), if_pos rfl]
        exact h k h1 (by omega)
      · rfl
    · have e : decide (j + 1 > a) = false := decide_eq_false (by omega)
      simp [e]
theorem Sb.out_eq (lt : α → α → Bool) (a b i : Nat) (d : Array α) : insOuter lt a b i d = if i < b then insOuter lt a b (i + 1) (insInner lt a i d) else d := by rw [insOuter]
theorem Sb.outer (hS : SWO lt) (a b : Nat) (d0 : Array α) (hb : b ≤ d0.size) (h0 : ∀ i j, a ≤ i → i < j → j < b → ix d0[i]! < ix d0[j]!) : ∀ (n i : Nat) (d : Array α), b - i ≤ n → a < i → PermIn a i d0 d → i ≤ b → insOuter lt a b i d = insOuter (Sb.prB lt ix) a b i d
  | n, i, d, hn, hai, hp, hib => by
    by_cases h : i < b
    · have hs := hp.1
      have e := Sb.inner (ix := ix) hS a i d (by omega) (fun k h1 h2 => by
        rw [hp.2.1 i (.inr (Nat.le_refl _))]
        exact permIn_all d0 d a i (fun x => ix x < ix d0[i]!) (by omega) hp (fun q h3 h4 => h0 q i h3 h4 h) k h1 h2)
      cases n with
      | zero => omega
      | succ n =>
        rw [Sb.out_eq lt, Sb.out_eq (Sb.prB lt ix), if_pos h, if_pos h, e]
        refine Sb.outer hS a b d0 hb h0 n (i + 1) _ (by omega) (by omega) ?_ (by omega)
        refine permIn_trans _ _ _ _ _ (permIn_mono _ _ a i a (i + 1) (Nat.le_refl _) (by omega) (by omega) hp) ?_
        exact innerPerm (Sb.prB lt ix) a (i + 1) i d (by omega) (by omega)
    · rw [Sb.out_eq lt, Sb.out_eq (Sb.prB lt ix), if_neg h, if_neg h]
where
  innerPerm (lt : α → α → Bool) (a b : Nat) : ∀ (j : Nat) (d : Array α), j < b → b ≤ d.size → PermIn a b d (insInner lt a j d)
    | 0, d, _, _ => by rw [insInner]; exact permIn_refl _ _ _
    | j + 1, d, hj, hb => by
      rw [insInner]
      split
      · rename_i h
        have ha : a ≤ j := by
          have := (Bool.and_eq_true _ _).mp h |>.1
          have := of_decide_eq_true this
          omega
        exact permIn_trans _ _ _ _ _ (swp_permIn d a b (j + 1) j (by omega) hj ha (by omega) hb) (innerPerm lt a b j _ (by omega) (by rw [size_swp]; exact hb))
      · exact permIn_refl _ _ _
/-- The insertion sort of elements that stand in the order of their places. -/
theorem Sb.insertion (hS : SWO lt) (a b : Nat) (d : Array α) (hab : a ≤ b) (hb : b ≤ d.size) (h0 : ∀ i j, a ≤ i → i < j → j < b → ix d[i]! < ix d[j]!) :
    PermIn a b d (insertionSort lt d a b) ∧ SortedIn (Sb.prB lt ix) a b (insertionSort lt d a b) := by
  have e : insertionSort lt d a b = insertionSort (Sb.prB lt ix) d a b := by
    unfold insertionSort
    by_cases h : a < b
    · refine Sb.outer hS a b d hb h0 (b - (a + 1)) (a + 1) d (Nat.le_refl _) (by omega) (permIn_refl _ _ _) (by omega)
    · rw [Sb.out_eq lt, Sb.out_eq (Sb.prB lt ix), if_neg (by omega), if_neg (by omega)]
  rw [e]
  exact insertionSort_holds (Sb.swo hS ix) d a b hab hb
end
end
end Go.Proofs.YtkbncdcphohmiaaGreatDoor
