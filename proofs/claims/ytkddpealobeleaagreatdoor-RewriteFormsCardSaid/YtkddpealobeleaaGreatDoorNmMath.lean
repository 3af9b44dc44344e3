/- The mathematics of layer 9: letters, words, folded forms, and what the text of a name is, as lists of bytes. Nothing of the program is imported. -/
import Derived.Below
set_option linter.unusedSimpArgs false
set_option linter.unusedVariables false
namespace Go.Proofs.YtkddpealobeleaaGreatDoor
/-! ### letters -/
structure Nm.Al where
  al : List UInt8
  fi : List UInt8
  se : List UInt8
abbrev Nm.T := List UInt8
def Nm.small : Nm.T := [97, 98, 99, 100, 101, 102, 103, 104, 105, 106, 107, 108, 109, 110, 111, 112, 113, 114, 115, 116, 117, 118, 119, 120, 121, 122]
def Nm.caps : Nm.T := [65, 66, 67, 68, 69, 70, 71, 72, 73, 74, 75, 76, 77, 78, 79, 80, 81, 82, 83, 84, 85, 86, 87, 88, 89, 90]
def Nm.acc : Nm.T := [39, 96, 94]
def Nm.abj : Nm.T := [98, 100, 102, 103, 104, 106, 107, 108, 109, 110, 112, 113, 114, 115, 116, 119, 120, 121, 122, 39]
def Nm.vow : Nm.T := [97, 105, 117, 101, 111]
def Nm.ons : Nm.T := [107, 115, 116, 110, 104, 109, 121, 114, 119, 103, 122, 100, 98, 112]
/-- The bytes of the letters of a script. -/
def Nm.ab : Nat → Nm.Al
  | 1 => ⟨Nm.small, [], []⟩
  | 2 => ⟨Nm.small ++ Nm.caps, Nm.small ++ Nm.caps, Nm.acc⟩
  | 3 => ⟨Nm.abj, [], []⟩
  | 4 => ⟨Nm.vow ++ [110], Nm.ons, Nm.vow⟩
  | _ => ⟨[], [], []⟩
def Nm.one (s : Nat) (x : UInt8) : Bool := (Nm.ab s).al.contains x
def Nm.two (s : Nat) (x y : UInt8) : Bool := (Nm.ab s).fi.contains x && (Nm.ab s).se.contains y
/-- The length of the letter with which a text begins; 0 if none does. -/
def Nm.ln (s : Nat) : Nm.T → Nat
  | [] => 0
  | [x] => if Nm.one s x then 1 else 0
  | x :: y :: _ => if Nm.two s x y then 2 else if Nm.one s x then 1 else 0
/-- The letters with which a text begins, and what is left. -/
def Nm.rd (s : Nat) : Nm.T → List Nm.T × Nm.T
  | [] => ([], [])
  | [x] => if Nm.one s x then ([[x]], []) else ([], [x])
  | x :: y :: u => if Nm.two s x y then ([x, y] :: (Nm.rd s u).1, (Nm.rd s u).2)
      else if Nm.one s x then ([x] :: (Nm.rd s (y :: u)).1, (Nm.rd s (y :: u)).2) else ([], x :: y :: u)
theorem Nm.ln_le (s : Nat) : ∀ l, Nm.ln s l ≤ l.length
  | [] => by simp [Nm.ln]
  | [x] => by simp only [Nm.ln]; split <;> simp
  | x :: y :: u => by simp only [Nm.ln]; split <;> (try split) <;> simp <;> omega
theorem Nm.ln_two (s : Nat) (l : Nm.T) : Nm.ln s l ≤ 2 := by
  match l with
  | [] => simp [Nm.ln]
  | [x] => simp only [Nm.ln]; split <;> simp
  | x :: y :: u => simp only [Nm.ln]; split <;> (try split) <;> simp
theorem Nm.rd_stop {s : Nat} {l : Nm.T} (h : Nm.ln s l = 0) : Nm.rd s l = ([], l) := by
  match l, h with
  | [], _ => rfl
  | [x], h =>
    simp only [Nm.ln, Nm.rd] at *
    split at h
    · cases h
    · rename_i hx
      rw [if_neg hx]
  | x :: y :: u, h =>
    simp only [Nm.ln, Nm.rd] at *
    split at h
    · cases h
    · split at h
      · cases h
      · rename_i h1 h2
        rw [if_neg h1, if_neg h2]
theorem Nm.rd_step {s : Nat} {l : Nm.T} (h : Nm.ln s l ≠ 0) : Nm.rd s l = (l.take (Nm.ln s l) :: (Nm.rd s (l.drop (Nm.ln s l))).1, (Nm.rd s (l.drop (Nm.ln s l))).2) := by
  match l, h with
  | [], h => exact absurd rfl h
  | [x], h =>
    simp only [Nm.ln, Nm.rd] at *
    split
    · simp [Nm.rd]
    · rename_i hx
      exact absurd (if_neg hx) h
  | x :: y :: u, h =>
    simp only [Nm.ln, Nm.rd] at *
    split
    · simp
    · rename_i h1
      rw [if_neg h1] at h
      split
      · simp
      · rename_i hx
        exact absurd (if_neg hx) h
/-- Induction along the letters of a text. -/
theorem Nm.ind (s : Nat) {p : Nm.T → Prop} (h0 : ∀ l, Nm.ln s l = 0 → p l) (h1 : ∀ l, Nm.ln s l ≠ 0 → p (l.drop (Nm.ln s l)) → p l) : ∀ l, p l := by
  have key : ∀ n l, List.length l ≤ n → p l := by
    intro n
    induction n with
    | zero =>
      intro l hl
      have hl0 : l = [] := List.eq_nil_of_length_eq_zero (by omega)
      subst hl0
      exact h0 _ rfl
    | succ n ih =>
      intro l hl
      by_cases h : Nm.ln s l = 0
      · exact h0 l h
      · have := Nm.ln_le s l
        exact h1 l h (ih _ (by rw [List.length_drop]; omega))
  exact fun l => key l.length l (Nat.le_refl _)
/-- A letter is there just as well if the text ends behind it. -/
theorem Nm.ln_take {s : Nat} {l : Nm.T} {m : Nat} (h : Nm.ln s l ≠ 0) (hm : Nm.ln s l ≤ m) : Nm.ln s (l.take m) = Nm.ln s l := by
  match l, h, m, hm with
  | [], h, _, _ => exact absurd rfl h
  | [x], h, 0, hm => exact absurd (Nat.le_zero.1 hm) h
  | [x], h, m + 1, hm => simp
  | x :: y :: u, h, 0, hm => exact absurd (Nat.le_zero.1 hm) h
  | x :: y :: u, h, 1, hm =>
    simp only [Nm.ln, List.take_succ_cons, List.take_zero] at *
    split at hm
    · omega
    · rename_i h1
      rw [if_neg h1] at h ⊢
  | x :: y :: u, h, m + 2, hm => simp [Nm.ln]
/-- What stands behind changes a letter only if it makes one of two bytes of it. -/
theorem Nm.ln_app {s : Nat} {l r : Nm.T} (h : Nm.ln s l ≠ 0) (hr : ∀ x y u, l = [x] → r = y :: u → Nm.two s x y = false) : Nm.ln s (l ++ r) = Nm.ln s l := by
  match l, h, hr with
  | [], h, _ => exact absurd rfl h
  | [x], h, hr =>
    match r, hr with
    | [], _ => simp
    | y :: u, hr =>
      have := hr x y u rfl rfl
      simp [Nm.ln, this]
  | x :: y :: u, h, _ => simp [Nm.ln]
theorem Nm.rd_join (s : Nat) : ∀ l, (Nm.rd s l).1.flatten ++ (Nm.rd s l).2 = l := by
  refine Nm.ind s (fun l h => by rw [Nm.rd_stop h]; rfl) (fun l h ih => ?_)
  rw [Nm.rd_step h, List.flatten_cons, List.append_assoc, ih, List.take_append_drop]
theorem Nm.rd_rest (s : Nat) : ∀ l, Nm.ln s (Nm.rd s l).2 = 0 := by
  refine Nm.ind s (fun l h => by rw [Nm.rd_stop h]; exact h) (fun l h ih => ?_)
  rw [Nm.rd_step h]; exact ih
theorem Nm.rd_len (s : Nat) : ∀ l, (Nm.rd s l).1.length ≤ l.length := by
  refine Nm.ind s (fun l h => by rw [Nm.rd_stop h]; simp) (fun l h ih => ?_)
  have := Nm.ln_le s l
  rw [List.length_drop] at ih
  rw [Nm.rd_step h, List.length_cons]; omega
/-- Each letter is one by itself. -/
theorem Nm.rd_each (s : Nat) : ∀ l, ∀ x ∈ (Nm.rd s l).1, Nm.rd s x = ([x], []) := by
  refine Nm.ind s (fun l h => by rw [Nm.rd_stop h]; simp) (fun l h ih => ?_)
  rw [Nm.rd_step h]
  intro x hx
  rcases List.mem_cons.1 hx with rfl | hx
  · have e := Nm.ln_take h (Nat.le_refl _)
    have hl := Nm.ln_le s l
    rw [Nm.rd_step (by rw [e]; exact h), e, List.take_take, Nat.min_self, List.drop_eq_nil_of_le (by rw [List.length_take]; omega)]
    rfl
  · exact ih x hx
/-- What is read stays as it is if the text ends behind it. -/
theorem Nm.rd_cut (s : Nat) : ∀ l, Nm.rd s (Nm.rd s l).1.flatten = ((Nm.rd s l).1, []) := by
  refine Nm.ind s (fun l h => by rw [Nm.rd_stop h]; rfl) (fun l h ih => ?_)
  have hl := Nm.ln_le s l
  have hj := Nm.rd_join s (l.drop (Nm.ln s l))
  rw [Nm.rd_step h, List.flatten_cons]
  generalize hF : (Nm.rd s (l.drop (Nm.ln s l))).1.flatten = F at *
  have e2 : l.take (Nm.ln s l) ++ F = l.take (Nm.ln s l + F.length) := by
    rw [List.take_add, ← hj, List.take_append_of_le_length (Nat.le_refl _), List.take_length]
  have e := Nm.ln_take (m := Nm.ln s l + F.length) h (by omega)
  have hd : (l.take (Nm.ln s l + F.length)).drop (Nm.ln s l) = F := by
    rw [← e2, List.drop_append_of_le_length (by rw [List.length_take]; omega), List.drop_eq_nil_of_le (by rw [List.length_take]; omega), List.nil_append]
  rw [e2, Nm.rd_step (by rw [e]; exact h), e, hd, ih, List.take_take, Nat.min_eq_left (by omega)]
/-! ### words -/
/-- Is it a word? -/
def Nm.isW (s : Nat) (w : Nm.T) : Bool := (Nm.rd s w).2.isEmpty && (decide (1 ≤ (Nm.rd s w).1.length) && decide ((Nm.rd s w).1.length ≤ 12))
def Nm.ls (s : Nat) (w : Nm.T) : List Nm.T := (Nm.rd s w).1
theorem Nm.isW_iff {s : Nat} {w : Nm.T} : Nm.isW s w = true ↔ Nm.rd s w = (Nm.ls s w, []) ∧ 1 ≤ (Nm.ls s w).length ∧ (Nm.ls s w).length ≤ 12 := by
  unfold Nm.isW Nm.ls
  simp only [Bool.and_eq_true, List.isEmpty_iff, decide_eq_true_eq]
  refine and_congr_left' ?_
  constructor
  · intro h
    exact Prod.ext rfl h
  · intro h
    rw [h]
theorem Nm.isW_of {s : Nat} {w : Nm.T} {x : List Nm.T} (h : Nm.rd s w = (x, [])) (h1 : 1 ≤ x.length) (h2 : x.length ≤ 12) : Nm.isW s w = true := by
  unfold Nm.isW
  rw [h]
  simp [h1, h2]
theorem Nm.ls_of {s : Nat} {w : Nm.T} {x : List Nm.T} (h : Nm.rd s w = (x, [])) : Nm.ls s w = x := by
  unfold Nm.ls
  rw [h]
theorem Nm.ls_sum {s : Nat} {w : Nm.T} (h : Nm.isW s w = true) : (Nm.ls s w).flatten = w := by
  have := Nm.rd_join s w
  rw [(Nm.isW_iff.1 h).1] at this
  simpa using this
theorem Nm.ls_own {s : Nat} {w : Nm.T} {x : Nm.T} (hx : x ∈ Nm.ls s w) : Nm.isW s x = true ∧ Nm.ls s x = [x] := by
  have e := Nm.rd_each s w x hx
  exact ⟨Nm.isW_of e (by simp) (by simp), Nm.ls_of e⟩
theorem Nm.isW_nil (s : Nat) : Nm.isW s [] = false := rfl
theorem Nm.isW_ne {s : Nat} {w : Nm.T} (h : Nm.isW s w = true) : w ≠ [] := by
  intro e
  subst e
  simp [Nm.isW_nil] at h
/-! ### bytes of letters -/
/-- The first bytes of letters: no blank, and no accent, is one. -/
def Nm.byteOk (s : Nat) (x : UInt8) : Bool := Nm.one s x || (Nm.ab s).fi.contains x
theorem Nm.all_bytes {p : UInt8 → Bool} (h : ∀ i : Fin 256, p (UInt8.ofNat i.val) = true) (c : UInt8) : p c = true := by
  have := h ⟨c.toNat, c.toNat_lt⟩
  simpa using this
theorem Nm.ab_far {s : Nat} (h : 5 ≤ s) : Nm.ab s = ⟨[], [], []⟩ := by
  match s, h with
  | n + 5, _ => rfl
theorem Nm.blank_one (s : Nat) : Nm.one s 32 = false := by
  match s with
  | 0 => rfl
  | 1 => decide
  | 2 => decide
  | 3 => decide
  | 4 => decide
  | n + 5 => rfl
theorem Nm.blank_two (s : Nat) (y : UInt8) : Nm.two s 32 y = false := by
  match s with
  | 0 => rfl
  | 1 => simp [Nm.two, Nm.ab]
  | 2 => simp [Nm.two, Nm.ab, Nm.small, Nm.caps]
  | 3 => simp [Nm.two, Nm.ab]
  | 4 => simp [Nm.two, Nm.ab, Nm.ons]
  | n + 5 => rfl
theorem Nm.two_blank (s : Nat) (x : UInt8) : Nm.two s x 32 = false := by
  match s with
  | 0 => rfl
  | 1 => simp [Nm.two, Nm.ab]
  | 2 => simp [Nm.two, Nm.ab, Nm.acc]
  | 3 => simp [Nm.two, Nm.ab]
  | 4 => simp [Nm.two, Nm.ab, Nm.vow]
  | n + 5 => simp [Nm.two, Nm.ab]
theorem Nm.ln_blank (s : Nat) (l : Nm.T) : Nm.ln s (32 :: l) = 0 := by
  match l with
  | [] => simp [Nm.ln, Nm.blank_one]
  | y :: u => simp [Nm.ln, Nm.blank_one, Nm.blank_two]
/-- A letter's bytes. -/
theorem Nm.ln_head {s : Nat} {l : Nm.T} (h : Nm.ln s l ≠ 0) : ∃ x u, l = x :: u ∧ x ≠ 32 ∧ (Nm.one s x = true ∨ (Nm.ab s).fi.contains x = true) := by
  match l, h with
  | [], h => exact absurd rfl h
  | [x], h =>
    refine ⟨x, [], rfl, ?_, ?_⟩
    · intro e
      subst e
      exact h (Nm.ln_blank s [])
    · left
      by_cases hx : Nm.one s x = true
      · exact hx
      · simp only [Nm.ln] at h
        exact absurd (if_neg hx) h
  | x :: y :: u, h =>
    refine ⟨x, y :: u, rfl, ?_, ?_⟩
    · intro e
      subst e
      exact h (Nm.ln_blank s _)
    · simp only [Nm.ln] at h
      by_cases hx : Nm.one s x = true
      · exact .inl hx
      · by_cases h2 : Nm.two s x y = true
        · simp only [Nm.two, Bool.and_eq_true] at h2
          exact .inr h2.1
        · rw [if_neg h2, if_neg hx] at h
          exact absurd rfl h
/-- No byte that ends a letter of two begins one, unless it is a vowel. -/
theorem Nm.two_head {s : Nat} {x y : UInt8} (h2 : Nm.two s x y = true) (hy : Nm.one s y = true ∨ (Nm.ab s).fi.contains y = true) : s = 4 ∧ Nm.vow.contains y = true := by
  match s, h2, hy with
  | 0, h2, _ => simp [Nm.two, Nm.ab] at h2
  | 1, h2, _ => simp [Nm.two, Nm.ab] at h2
  | 2, h2, hy =>
    simp only [Nm.two, Nm.ab, Bool.and_eq_true] at h2
    have h3 := h2.2
    exfalso
    simp only [Nm.acc, List.contains_eq_mem, List.mem_cons, List.not_mem_nil, or_false, decide_eq_true_eq] at h3
    rcases h3 with rfl | rfl | rfl <;> revert hy <;> decide
  | 3, h2, _ => simp [Nm.two, Nm.ab] at h2
  | 4, h2, _ =>
    simp only [Nm.two, Nm.ab, Bool.and_eq_true] at h2
    exact ⟨rfl, h2.2⟩
  | n + 5, h2, _ => simp [Nm.two, Nm.ab] at h2
/-- The one byte that is a letter, and begins one of two. -/
theorem Nm.two_n {x y : UInt8} (h2 : Nm.two 4 x y = true) (h1 : Nm.one 4 x = true) : x = 110 := by
  simp only [Nm.two, Nm.one, Nm.ab, Bool.and_eq_true] at h1 h2
  have h3 := h2.1
  simp only [Nm.ons, List.contains_eq_mem, List.mem_cons, List.not_mem_nil, or_false, decide_eq_true_eq] at h3
  rcases h3 with rfl | rfl | rfl | rfl | rfl | rfl | rfl | rfl | rfl | rfl | rfl | rfl | rfl | rfl <;> first | rfl | (exfalso; revert h1; decide)
/-! ### joining -/
/-- Two texts' letters, joined. -/
theorem Nm.rd_app (s : Nat) (b : Nm.T) : ∀ a, (Nm.rd s a).2 = [] → (∀ x y u, (Nm.rd s a).1.getLast? = some [x] → b = y :: u → Nm.two s x y = false) →
    Nm.rd s (a ++ b) = ((Nm.rd s a).1 ++ (Nm.rd s b).1, (Nm.rd s b).2) := by
  refine Nm.ind s (fun l h => ?_) (fun l h ih => ?_)
  · rw [Nm.rd_stop h]
    rintro (rfl : l = []) _
    simp
  · intro hE hL
    rw [Nm.rd_step h] at hE hL
    have hl := Nm.ln_le s l
    have e : Nm.ln s (l ++ b) = Nm.ln s l := by
      refine Nm.ln_app h ?_
      rintro x y u rfl hb
      refine hL x y u ?_ hb
      have h1 : Nm.ln s [x] = 1 := by have h5 : Nm.ln s [x] ≤ 1 := hl; omega
      rw [h1]
      simp [Nm.rd]
    rw [Nm.rd_step (by rw [e]; exact h), e, Nm.rd_step h, List.take_append_of_le_length hl, List.drop_append_of_le_length hl, ih hE ?_]
    · simp
    · intro x y u hx hb
      refine hL x y u ?_ hb
      rw [List.getLast?_cons, hx]
      simp
/-- The letters of a word with a blank, or nothing, behind it. -/
theorem Nm.rd_blank (s : Nat) {a : Nm.T} (h : (Nm.rd s a).2 = []) (b : Nm.T) : Nm.rd s (a ++ 32 :: b) = ((Nm.rd s a).1, 32 :: b) := by
  rw [Nm.rd_app s _ a h]
  · rw [Nm.rd_stop (Nm.ln_blank s b)]
    simp
  · rintro x y u _ hb
    cases hb
    exact Nm.two_blank s x
/-- What P9.3 says. -/
theorem Nm.ls_joins {s : Nat} {a b : Nm.T} (ha : Nm.isW s a = true) (hb : Nm.isW s b = true)
    (hv : s = 4 → (Nm.ls s a).getLast? = some [110] → ∀ y u, b = y :: u → Nm.vow.contains y = true → False) : Nm.rd s (a ++ b) = (Nm.ls s a ++ Nm.ls s b, []) := by
  obtain ⟨ea, _, _⟩ := Nm.isW_iff.1 ha
  obtain ⟨eb, _, _⟩ := Nm.isW_iff.1 hb
  rw [Nm.rd_app s b a (by rw [ea]) ?_, ea, eb]
  intro x y u hx hyu
  by_cases h2 : Nm.two s x y = true
  · exfalso
    have hne : Nm.ln s b ≠ 0 := by
      intro h0
      rw [Nm.rd_stop h0] at eb
      have := congrArg Prod.snd eb
      exact Nm.isW_ne hb this
    obtain ⟨y', u', e', _, ho⟩ := Nm.ln_head hne
    rw [hyu] at e'
    cases e'
    obtain ⟨rfl, hv2⟩ := Nm.two_head h2 ho
    have hx1 : Nm.one 4 x = true := by
      have := Nm.rd_each 4 a [x] (List.mem_of_getLast? hx)
      simp only [Nm.rd] at this
      split at this
      · assumption
      · cases this
    obtain rfl := Nm.two_n h2 hx1
    exact hv rfl hx y u hyu hv2
  · simpa using h2
/-! ### folding -/
def Nm.low (c : UInt8) : UInt8 := if 65 ≤ c.toNat ∧ c.toNat ≤ 90 then UInt8.ofNat (c.toNat + 32) else c
def Nm.isCap (c : UInt8) : Bool := decide (65 ≤ c.toNat) && decide (c.toNat ≤ 90)
theorem Nm.low_low (c : UInt8) : Nm.low (Nm.low c) = Nm.low c := by
  have := Nm.all_bytes (p := fun c => Nm.low (Nm.low c) == Nm.low c) (by decide +kernel) c
  simpa using this
theorem Nm.low_ne (c : UInt8) : (Nm.low c != c) = Nm.isCap c := by
  have := Nm.all_bytes (p := fun c => (Nm.low c != c) == Nm.isCap c) (by decide +kernel) c
  simpa using this
def Nm.lowB (s : Nat) (c : UInt8) : Bool := ((s == 2) || !Nm.isCap c || !(Nm.byteOk s c || (Nm.ab s).se.contains c))
    && ((s != 2) || (Nm.one s (Nm.low c) == Nm.one s c && (Nm.ab s).fi.contains (Nm.low c) == (Nm.ab s).fi.contains c && (Nm.ab s).se.contains (Nm.low c) == (Nm.ab s).se.contains c))
theorem Nm.low_ab : ∀ s c, Nm.lowB s c = true
  | 0, c => Nm.all_bytes (p := Nm.lowB 0) (by decide +kernel) c
  | 1, c => Nm.all_bytes (p := Nm.lowB 1) (by decide +kernel) c
  | 2, c => Nm.all_bytes (p := Nm.lowB 2) (by decide +kernel) c
  | 3, c => Nm.all_bytes (p := Nm.lowB 3) (by decide +kernel) c
  | 4, c => Nm.all_bytes (p := Nm.lowB 4) (by decide +kernel) c
  | n + 5, c => by simp [Nm.lowB, Nm.byteOk, Nm.one, Nm.ab]
theorem Nm.low_cap {s : Nat} (hs : s ≠ 2) {c : UInt8} (hc : (Nm.byteOk s c || (Nm.ab s).se.contains c) = true) : Nm.isCap c = false := by
  have := Nm.low_ab s c
  simp only [Nm.lowB, hc, Bool.and_eq_true, Bool.or_eq_true, beq_iff_eq, hs, Bool.not_eq_true', Bool.true_eq_false, or_false, false_or] at this
  exact this.1
theorem Nm.low_two (c : UInt8) : Nm.one 2 (Nm.low c) = Nm.one 2 c ∧ (Nm.ab 2).fi.contains (Nm.low c) = (Nm.ab 2).fi.contains c ∧ (Nm.ab 2).se.contains (Nm.low c) = (Nm.ab 2).se.contains c := by
  have := Nm.low_ab 2 c
  simp only [Nm.lowB, Bool.and_eq_true, Bool.or_eq_true, beq_iff_eq, bne_self_eq_false, Bool.false_eq_true, false_or] at this
  exact ⟨this.2.1.1, this.2.1.2, this.2.2⟩
/-- The bytes of letters. -/
theorem Nm.rd_bytes (s : Nat) : ∀ l, ∀ c ∈ (Nm.rd s l).1.flatten, (Nm.byteOk s c || (Nm.ab s).se.contains c) = true := by
  refine Nm.ind s (fun l h => by rw [Nm.rd_stop h]; simp) (fun l h ih => ?_)
  rw [Nm.rd_step h, List.flatten_cons]
  intro c hc
  rcases List.mem_append.1 hc with hc | hc
  · match l, h, hc with
    | [], h, hc => exact absurd rfl h
    | [x], h, hc =>
      simp only [Nm.ln] at h hc
      split at hc
      · rename_i hx
        simp only [List.take_succ_cons, List.take_zero, List.mem_singleton] at hc
        subst hc
        simp [Nm.byteOk, hx]
      · simp at hc
    | x :: y :: u, h, hc =>
      simp only [Nm.ln] at h hc
      split at hc
      · rename_i h2
        simp only [Nm.two, Bool.and_eq_true] at h2
        simp only [List.take_succ_cons, List.take_zero, List.mem_cons, List.not_mem_nil, or_false] at hc
        rcases hc with rfl | rfl
        · rw [Nm.byteOk, h2.1]; simp
        · rw [h2.2]; simp
      · split at hc
        · rename_i hx
          simp only [List.take_succ_cons, List.take_zero, List.mem_singleton] at hc
          subst hc
          simp [Nm.byteOk, hx]
        · simp at hc
  · exact ih c hc
theorem Nm.low_id : ∀ l : Nm.T, (∀ c ∈ l, Nm.isCap c = false) → l.map Nm.low = l
  | [], _ => rfl
  | c :: l, h => by
    rw [List.map_cons, Nm.low_id l (fun x hx => h x (List.mem_cons_of_mem _ hx))]
    have h1 := Nm.low_ne c
    rw [h c List.mem_cons_self] at h1
    rw [show Nm.low c = c from by simpa using h1]
theorem Nm.low_map_ne : ∀ l : Nm.T, (l.map Nm.low ≠ l) ↔ l.any Nm.isCap = true
  | [] => by simp
  | c :: l => by
    have ih := Nm.low_map_ne l
    have h1 := Nm.low_ne c
    simp only [List.map_cons, List.any_cons, Bool.or_eq_true, ← ih, ← h1, bne_iff_ne]
    constructor
    · intro h
      by_cases hc : Nm.low c = c
      · exact .inr fun e => h (by rw [hc, e])
      · exact .inl hc
    · rintro (h | h) e
      · exact h (List.cons.inj e).1
      · exact h (List.cons.inj e).2
theorem Nm.low_twice (l : Nm.T) : (l.map Nm.low).map Nm.low = l.map Nm.low := by
  rw [List.map_map]
  exact List.map_congr_left fun c _ => Nm.low_low c
theorem Nm.ln_low (l : Nm.T) : Nm.ln 2 (l.map Nm.low) = Nm.ln 2 l := by
  match l with
  | [] => rfl
  | [x] => simp only [List.map_cons, List.map_nil, Nm.ln, (Nm.low_two x).1]
  | x :: y :: u =>
    have e : Nm.two 2 (Nm.low x) (Nm.low y) = Nm.two 2 x y := by simp only [Nm.two, (Nm.low_two x).2.1, (Nm.low_two y).2.2]
    simp only [List.map_cons, Nm.ln, (Nm.low_two x).1, e]
theorem Nm.rd_low : ∀ l, Nm.rd 2 (l.map Nm.low) = ((Nm.rd 2 l).1.map (List.map Nm.low), (Nm.rd 2 l).2.map Nm.low) := by
  refine Nm.ind 2 (fun l h => ?_) (fun l h ih => ?_)
  · rw [Nm.rd_stop h, Nm.rd_stop (by rw [Nm.ln_low]; exact h)]
    rfl
  · rw [Nm.rd_step h, Nm.rd_step (by rw [Nm.ln_low]; exact h), Nm.ln_low, ← List.map_drop, ih, ← List.map_take]
    rfl
/-- What P9.4 says. -/
theorem Nm.fold_word {s : Nat} {w : Nm.T} (h : Nm.isW s w = true) : Nm.isW s (w.map Nm.low) = true ∧ Nm.ls s (w.map Nm.low) = (Nm.ls s w).map (List.map Nm.low) ∧ (w.any Nm.isCap = true → s = 2) := by
  obtain ⟨e, h1, h2⟩ := Nm.isW_iff.1 h
  by_cases hs : s = 2
  · subst hs
    have e2 := Nm.rd_low w
    rw [e] at e2
    exact ⟨Nm.isW_of e2 (by simpa using h1) (by simpa using h2), Nm.ls_of e2, fun _ => rfl⟩
  · have hb : ∀ c ∈ (Nm.ls s w).flatten, Nm.isCap c = false := fun c hc => Nm.low_cap hs (Nm.rd_bytes s w c hc)
    have hw := Nm.ls_sum h
    have hbw : ∀ c ∈ w, Nm.isCap c = false := by rw [← hw]; exact hb
    rw [Nm.low_id w hbw]
    refine ⟨h, ?_, ?_⟩
    · conv => lhs; rw [← List.map_id (Nm.ls s w)]
      refine List.map_congr_left fun x hx => ?_
      rw [Nm.low_id x fun c hc => hb c (List.mem_flatten.2 ⟨x, hx, hc⟩)]
      rfl
    · intro ha
      obtain ⟨c, hc, hcc⟩ := List.any_eq_true.1 ha
      rw [hbw c hc] at hcc
      cases hcc
theorem Nm.word_ascii {s : Nat} {w : Nm.T} (h : Nm.isW s w = true) : ∀ c ∈ w, c.toNat < 128 := by
  have hw := Nm.ls_sum h
  intro c hc
  rw [← hw] at hc
  have hb := Nm.rd_bytes s w c hc
  have key : ∀ c : UInt8, (!(Nm.byteOk s c || (Nm.ab s).se.contains c) || decide (c.toNat < 128)) = true := by
    intro c
    match s with
    | 0 => exact Nm.all_bytes (p := fun c => (!(Nm.byteOk 0 c || (Nm.ab 0).se.contains c) || decide (c.toNat < 128))) (by decide +kernel) c
    | 1 => exact Nm.all_bytes (p := fun c => (!(Nm.byteOk 1 c || (Nm.ab 1).se.contains c) || decide (c.toNat < 128))) (by decide +kernel) c
    | 2 => exact Nm.all_bytes (p := fun c => (!(Nm.byteOk 2 c || (Nm.ab 2).se.contains c) || decide (c.toNat < 128))) (by decide +kernel) c
    | 3 => exact Nm.all_bytes (p := fun c => (!(Nm.byteOk 3 c || (Nm.ab 3).se.contains c) || decide (c.toNat < 128))) (by decide +kernel) c
    | 4 => exact Nm.all_bytes (p := fun c => (!(Nm.byteOk 4 c || (Nm.ab 4).se.contains c) || decide (c.toNat < 128))) (by decide +kernel) c
    | n + 5 => simp [Nm.byteOk, Nm.one, Nm.ab]
  have := key c
  rw [hb] at this
  simpa using this
end Go.Proofs.YtkddpealobeleaaGreatDoor
