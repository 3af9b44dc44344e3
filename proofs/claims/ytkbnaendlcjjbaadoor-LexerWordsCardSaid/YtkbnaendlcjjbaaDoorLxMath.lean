/- The mathematics of layer 7: gaps, tokens, and what the tokens of a text are, as lists of bytes. Nothing of the program is imported. -/
import Derived.Below
import Derived.Lib.AtoiAll
set_option linter.unusedSimpArgs false
set_option linter.unusedVariables false
namespace Go.Proofs.YtkbnaendlcjjbaaDoor
/-! ### bytes, gaps and tokens -/
def Lx.isLet (c : UInt8) : Bool := (65 ≤ c.toNat && c.toNat ≤ 90) || (97 ≤ c.toNat && c.toNat ≤ 122)
def Lx.isDig (c : UInt8) : Bool := 48 ≤ c.toNat && c.toNat ≤ 57
def Lx.isWord (c : UInt8) : Bool := Lx.isLet c || Lx.isDig c || c.toNat == 95
def Lx.isBl (c : UInt8) : Bool := c.toNat == 32 || c.toNat == 9 || c.toNat == 10
/-- `;,.:()[]{}+-` and `=`. -/
def Lx.isSign (c : UInt8) : Bool := [59, 44, 46, 58, 40, 41, 91, 93, 123, 125, 43, 45, 61].contains c.toNat
/-- Neither a quote nor a line feed. -/
def Lx.isIn (c : UInt8) : Bool := !(c.toNat == 34 || c.toNat == 10)
def Lx.gapN : Bool → List UInt8 → Nat
  | _, [] => 0
  | false, c :: r => if Lx.isBl c then Lx.gapN false r + 1 else if c.toNat == 35 then Lx.gapN true r + 1 else 0
  | true, c :: r => if c.toNat == 10 then Lx.gapN false r + 1 else Lx.gapN true r + 1
def Lx.span (p : UInt8 → Bool) : List UInt8 → Nat
  | [] => 0
  | c :: r => if p c then Lx.span p r + 1 else 0
def Lx.num (l : List UInt8) : Nat := l.foldl (fun a c => a * 10 + (c.toNat - 48)) 0
structure Lx.Tk where
  kind : Int
  at' : Nat
  n : Nat
  text : List UInt8
  deriving DecidableEq
inductive Lx.R where
  | err (e : Int)
  | ok (k : Int) (n : Nat) (t : List UInt8) (w : Nat)
  deriving DecidableEq
/-- Does a list begin with a byte of a kind? -/
def Lx.hd (p : UInt8 → Bool) : List UInt8 → Bool
  | [] => false
  | c :: _ => p c
def Lx.isEq (c : UInt8) : Bool := c.toNat == 61
def Lx.isQ (c : UInt8) : Bool := c.toNat == 34
def Lx.tokF : List UInt8 → Lx.R
  | [] => .err 0
  | c :: r =>
    if Lx.isLet c then
      if 24 < Lx.span Lx.isWord (c :: r) then .err 2 else .ok 1 0 ((c :: r).take (Lx.span Lx.isWord (c :: r))) (Lx.span Lx.isWord (c :: r))
    else if Lx.isDig c then
      if 13 < Lx.span Lx.isDig (c :: r) || Lx.hd Lx.isWord ((c :: r).drop (Lx.span Lx.isDig (c :: r))) then .err 4
      else .ok 2 (Lx.num ((c :: r).take (Lx.span Lx.isDig (c :: r)))) ((c :: r).take (Lx.span Lx.isDig (c :: r))) (Lx.span Lx.isDig (c :: r))
    else if Lx.isQ c then
      if Lx.hd Lx.isQ (r.drop (Lx.span Lx.isIn r)) then
        if 400 < Lx.span Lx.isIn r then .err 2 else .ok 3 0 (r.take (Lx.span Lx.isIn r)) (Lx.span Lx.isIn r + 2)
      else .err 6
    else if c.toNat == 33 then
      if Lx.hd Lx.isEq r then .ok 4 0 ((c :: r).take 2) 2 else .err 3
    else if c.toNat == 60 || c.toNat == 62 then
      if Lx.hd Lx.isEq r then .ok 4 0 ((c :: r).take 2) 2 else .ok 4 0 [c] 1
    else if Lx.isSign c then .ok 4 0 [c] 1
    else .err 3
/-- The tokens of a text from an offset on, up to the end or the first error. -/
inductive Lx.Lexes : List UInt8 → Nat → List Lx.Tk → Option (Int × Nat) → Prop
  | done (l off) (h : l.drop (Lx.gapN false l) = []) : Lx.Lexes l off [] none
  | bad (l off e) (h : l.drop (Lx.gapN false l) ≠ []) (he : Lx.tokF (l.drop (Lx.gapN false l)) = .err e) : Lx.Lexes l off [] (some (e, off + Lx.gapN false l))
  | tok (l off k n t w ts e) (h : l.drop (Lx.gapN false l) ≠ []) (hk : Lx.tokF (l.drop (Lx.gapN false l)) = .ok k n t w)
      (hr : Lx.Lexes ((l.drop (Lx.gapN false l)).drop w) (off + Lx.gapN false l + w) ts e) : Lx.Lexes l off (⟨k, off + Lx.gapN false l, n, t⟩ :: ts) e

theorem Lx.span_le (p : UInt8 → Bool) : ∀ l, Lx.span p l ≤ l.length
  | [] => Nat.le_refl _
  | c :: r => by
    have := Lx.span_le p r
    simp only [Lx.span, List.length_cons]
    split <;> omega
theorem Lx.gap_le : ∀ b l, Lx.gapN b l ≤ l.length
  | _, [] => by simp [Lx.gapN]
  | false, c :: r => by
    have := Lx.gap_le false r
    have := Lx.gap_le true r
    simp only [Lx.gapN, List.length_cons]
    split
    · omega
    · split <;> omega
  | true, c :: r => by
    have := Lx.gap_le false r
    have := Lx.gap_le true r
    simp only [Lx.gapN, List.length_cons]
    split <;> omega
/-- Bytes that begin no gap. -/
def Lx.solid (c : UInt8) : Bool := !(Lx.isBl c || c.toNat == 35)
theorem Lx.gap_solid {c : UInt8} {r : List UInt8} (h : Lx.solid c = true) : Lx.gapN false (c :: r) = 0 := by
  simp only [Lx.solid, Bool.not_eq_true', Bool.or_eq_false_iff] at h
  simp [Lx.gapN, h.1, h.2]
theorem Lx.gap_stop : ∀ (b : Bool) (l : List UInt8), ∀ c r, l.drop (Lx.gapN b l) = c :: r → Lx.solid c = true
  | _, [], c, r, h => by simp at h
  | false, d :: l, c, r, h => by
    simp only [Lx.gapN] at h
    split at h
    · rw [List.drop_succ_cons] at h
      exact Lx.gap_stop false l c r h
    · split at h
      · rw [List.drop_succ_cons] at h
        exact Lx.gap_stop true l c r h
      · rename_i h1 h2
        rw [List.drop_zero] at h
        cases h
        simp [Lx.solid, h1, h2]
  | true, d :: l, c, r, h => by
    simp only [Lx.gapN] at h
    split at h
    · rw [List.drop_succ_cons] at h
      exact Lx.gap_stop false l c r h
    · rw [List.drop_succ_cons] at h
      exact Lx.gap_stop true l c r h
theorem Lx.gap_take : ∀ (b : Bool) (l : List UInt8) (m : Nat), Lx.gapN b (l.take m) = min m (Lx.gapN b l)
  | b, l, 0 => by simp [Lx.gapN]
  | _, [], m + 1 => by simp [Lx.gapN]
  | false, c :: l, m + 1 => by
    have h1 := Lx.gap_take false l m
    have h2 := Lx.gap_take true l m
    simp only [List.take_succ_cons, Lx.gapN]
    split
    · omega
    · split <;> omega
  | true, c :: l, m + 1 => by
    have h1 := Lx.gap_take false l m
    have h2 := Lx.gap_take true l m
    simp only [List.take_succ_cons, Lx.gapN]
    split <;> omega
/-- A gap that ends inside the first part does not see the second one. -/
theorem Lx.gap_in : ∀ (b : Bool) (x y : List UInt8), Lx.gapN b x < x.length → Lx.gapN b (x ++ y) = Lx.gapN b x
  | _, [], y, h => by simp [Lx.gapN] at h
  | false, c :: x, y, h => by
    simp only [List.cons_append, Lx.gapN, List.length_cons] at h ⊢
    by_cases h1 : Lx.isBl c = true
    · rw [if_pos h1] at h
      rw [if_pos h1, if_pos h1, Lx.gap_in false x y (by omega)]
    · rw [if_neg h1] at h
      rw [if_neg h1, if_neg h1]
      by_cases h2 : (c.toNat == 35) = true
      · rw [if_pos h2] at h
        rw [if_pos h2, if_pos h2, Lx.gap_in true x y (by omega)]
      · rw [if_neg h2, if_neg h2]
  | true, c :: x, y, h => by
    simp only [List.cons_append, Lx.gapN, List.length_cons] at h ⊢
    by_cases h1 : (c.toNat == 10) = true
    · rw [if_pos h1] at h
      rw [if_pos h1, if_pos h1, Lx.gap_in false x y (by omega)]
    · rw [if_neg h1] at h
      rw [if_neg h1, if_neg h1, Lx.gap_in true x y (by omega)]
/-- Gaps, a line feed, and more. -/
theorem Lx.gap_line : ∀ (b : Bool) (x y : List UInt8), Lx.gapN b x = x.length → Lx.gapN b (x ++ 10 :: y) = x.length + 1 + Lx.gapN false y
  | false, [], y, _ => by
    show (if Lx.isBl 10 then Lx.gapN false y + 1 else _) = _
    rw [if_pos (by decide)]
    simp
    omega
  | true, [], y, _ => by
    show (if (10 : UInt8).toNat == 10 then Lx.gapN false y + 1 else _) = _
    rw [if_pos (by decide)]
    simp
    omega
  | false, c :: x, y, h => by
    have g1 := Lx.gap_le false x
    have g2 := Lx.gap_le true x
    simp only [List.cons_append, Lx.gapN, List.length_cons] at h ⊢
    split at h
    · rename_i h1
      rw [if_pos h1, Lx.gap_line false x y (by omega)]
      omega
    · rename_i h1
      rw [if_neg h1]
      split at h
      · rename_i h2
        rw [if_pos h2, Lx.gap_line true x y (by omega)]
        omega
      · omega
  | true, c :: x, y, h => by
    simp only [List.cons_append, Lx.gapN, List.length_cons] at h ⊢
    split at h
    · rename_i h1
      rw [if_pos h1, Lx.gap_line false x y (by omega)]
      omega
    · rename_i h1
      rw [if_neg h1, Lx.gap_line true x y (by omega)]
      omega
theorem Lx.span_all {p : UInt8 → Bool} : ∀ {x y : List UInt8}, (∀ c ∈ x, p c = true) → Lx.hd p y = false → Lx.span p (x ++ y) = x.length
  | [], [], _, _ => rfl
  | [], c :: y, _, h => by
    have h : p c = false := h
    simp [Lx.span, h]
  | c :: x, y, hx, h => by
    simp only [List.cons_append, Lx.span, List.length_cons]
    rw [if_pos (hx c (by simp)), Lx.span_all (fun d hd => hx d (by simp [hd])) h]
theorem Lx.span_take (p : UInt8 → Bool) : ∀ (l : List UInt8), ∀ c ∈ l.take (Lx.span p l), p c = true
  | [], c, h => by simp at h
  | d :: l, c, h => by
    simp only [Lx.span] at h
    split at h
    · rename_i h1
      rw [List.take_succ_cons] at h
      rcases List.mem_cons.1 h with rfl | h
      · exact h1
      · exact Lx.span_take p l c h
    · simp at h
theorem Lx.span_drop (p : UInt8 → Bool) : ∀ (l : List UInt8), Lx.hd p (l.drop (Lx.span p l)) = false
  | [] => by simp [Lx.hd]
  | d :: l => by
    simp only [Lx.span]
    split
    · rw [List.drop_succ_cons]
      exact Lx.span_drop p l
    · rename_i h
      simpa [Lx.hd] using h
theorem Lx.span_stop {p : UInt8 → Bool} (h : p 10 = false) : ∀ (l r : List UInt8), Lx.span p (l ++ 10 :: r) = Lx.span p l
  | [], r => by simp [Lx.span, h]
  | c :: l, r => by
    simp only [List.cons_append, Lx.span]
    rw [Lx.span_stop h l r]
theorem Lx.hd_append {p : UInt8 → Bool} {x y : List UInt8} (h : x ≠ []) : Lx.hd p (x ++ y) = Lx.hd p x := by
  cases x with
  | nil => exact absurd rfl h
  | cons c x => rfl
theorem Lx.word_of_let {c : UInt8} (h : Lx.isLet c = true) : Lx.isWord c = true := by simp [Lx.isWord, h]
theorem Lx.word_of_dig {c : UInt8} (h : Lx.isDig c = true) : Lx.isWord c = true := by simp [Lx.isWord, h]
/-- The rest behind a token may be changed to another one that begins alike, or with nothing that could join it. -/
def Lx.compat (r r' : List UInt8) : Prop := (Lx.hd Lx.isWord r' = true → Lx.hd Lx.isWord r = true ∧ Lx.hd Lx.isDig r' = Lx.hd Lx.isDig r) ∧ (Lx.hd Lx.isEq r' = true → Lx.hd Lx.isEq r = true)
theorem Lx.compat_nil (r : List UInt8) : Lx.compat r [] := ⟨fun h => by simp [Lx.hd] at h, fun h => by simp [Lx.hd] at h⟩
theorem Lx.compat_cons (c : UInt8) (r r' : List UInt8) : Lx.compat (c :: r) (c :: r') := ⟨fun h => ⟨h, rfl⟩, fun h => h⟩
theorem Lx.compat_gap {c : UInt8} (h : Lx.solid c = false) (r r' : List UInt8) : Lx.compat r (c :: r') := by
  have h' : (c.toNat = 32 ∨ c.toNat = 9 ∨ c.toNat = 10) ∨ c.toNat = 35 := by
    simp only [Lx.solid, Lx.isBl, Bool.not_eq_false', Bool.or_eq_true, beq_iff_eq, or_assoc] at h
    omega
  refine ⟨fun hw => ?_, fun he => ?_⟩
  · simp [Lx.hd, Lx.isWord, Lx.isLet, Lx.isDig] at hw
    omega
  · simp [Lx.hd, Lx.isEq] at he
    omega
theorem Lx.tok_lt {l : List UInt8} {k : Int} {n w : Nat} {t : List UInt8} (h : Lx.tokF l = .ok k n t w) : 0 < w ∧ w ≤ l.length := by
  cases l with
  | nil => simp [Lx.tokF] at h
  | cons c r =>
    have s1 := Lx.span_le Lx.isWord (c :: r)
    have s2 := Lx.span_le Lx.isDig (c :: r)
    have s3 := Lx.span_le Lx.isIn r
    simp only [Lx.tokF] at h
    split at h
    · rename_i h1
      split at h
      · cases h
      · cases h
        refine ⟨?_, s1⟩
        simp only [Lx.span]
        rw [if_pos (Lx.word_of_let h1)]
        omega
    · split at h
      · rename_i h1
        split at h
        · cases h
        · cases h
          refine ⟨?_, s2⟩
          simp only [Lx.span]
          rw [if_pos h1]
          omega
      · split at h
        · split at h
          · rename_i h2
            split at h
            · cases h
            · cases h
              refine ⟨by omega, ?_⟩
              cases hd : r.drop (Lx.span Lx.isIn r) with
              | nil => rw [hd] at h2; simp [Lx.hd] at h2
              | cons a b =>
                have := congrArg List.length hd
                simp only [List.length_drop, List.length_cons] at this ⊢
                omega
          · cases h
        · split at h
          · split at h
            · rename_i h2
              cases h
              cases r with
              | nil => simp [Lx.hd] at h2
              | cons a b => exact ⟨by omega, by simp⟩
            · cases h
          · split at h
            · split at h
              · rename_i h2
                cases h
                cases r with
                | nil => simp [Lx.hd] at h2
                | cons a b => exact ⟨by omega, by simp⟩
              · cases h
                exact ⟨by omega, by simp⟩
            · split at h
              · cases h
                exact ⟨by omega, by simp⟩
              · cases h
/-- What a token is depends on its own bytes and on the byte behind it alone. -/
theorem Lx.tok_swap {x r r' : List UInt8} {k : Int} {n w : Nat} {t : List UInt8} (h : Lx.tokF (x ++ r) = .ok k n t w) (hw : w = x.length) (hc : Lx.compat r r') : Lx.tokF (x ++ r') = .ok k n t w := by
  have hw0 := (Lx.tok_lt h).1
  cases x with
  | nil => simp at hw; omega
  | cons c x =>
    rw [List.cons_append] at h ⊢
    simp only [Lx.tokF] at h ⊢
    by_cases h1 : Lx.isLet c = true
    · rw [if_pos h1] at h ⊢
      split at h
      · cases h
      · rename_i h2
        cases h
        have e1 := Lx.span_take Lx.isWord (c :: (x ++ r))
        have e2 := Lx.span_drop Lx.isWord (c :: (x ++ r))
        rw [hw, ← List.cons_append, List.take_left] at e1
        rw [hw, ← List.cons_append, List.drop_left] at e2
        have e3 : Lx.hd Lx.isWord r' = false := by
          cases hh : Lx.hd Lx.isWord r' with
          | false => rfl
          | true => rw [(hc.1 hh).1] at e2; cases e2
        have e4 := Lx.span_all e1 e3
        rw [hw] at h2
        rw [← List.cons_append] at hw
        rw [← List.cons_append, ← List.cons_append, e4, hw, if_neg h2, List.take_left, List.take_left]
    · rw [if_neg h1] at h ⊢
      by_cases h3 : Lx.isDig c = true
      · rw [if_pos h3] at h ⊢
        split at h
        · cases h
        · rename_i h2
          cases h
          have e1 := Lx.span_take Lx.isDig (c :: (x ++ r))
          have e2 := Lx.span_drop Lx.isDig (c :: (x ++ r))
          rw [hw, ← List.cons_append, List.take_left] at e1
          rw [hw, ← List.cons_append, List.drop_left] at e2
          rw [hw, ← List.cons_append, List.drop_left] at h2
          have e3 : Lx.hd Lx.isWord r' = false := by
            cases hh : Lx.hd Lx.isWord r' with
            | false => rfl
            | true => rw [(hc.1 hh).1] at h2; simp at h2
          have e5 : Lx.hd Lx.isDig r' = false := by
            cases r' with
            | nil => rfl
            | cons d r' =>
              cases hh : Lx.isDig d with
              | false => exact hh
              | true =>
                have e3 : Lx.isWord d = false := e3
                rw [Lx.word_of_dig hh] at e3
                cases e3
          have e4 := Lx.span_all e1 e5
          rw [← List.cons_append] at hw
          rw [← List.cons_append, ← List.cons_append, e4, hw, List.take_left, List.take_left, List.drop_left, e3]
          rw [if_neg]
          simp only [Bool.or_false, decide_eq_true_eq]
          intro hb
          apply h2
          rw [decide_eq_true hb]
          rfl
      · rw [if_neg h3] at h ⊢
        by_cases h4 : Lx.isQ c = true
        · rw [if_pos h4] at h ⊢
          split at h
          · rename_i h2
            split at h
            · cases h
            · rename_i h5
              cases h
              have e1 := Lx.span_take Lx.isIn (x ++ r)
              generalize hk : Lx.span Lx.isIn (x ++ r) = m at *
              have hx : x.length = m + 1 := by simp at hw; omega
              obtain ⟨y, z, rfl, hy⟩ : ∃ y z, x = y ++ [z] ∧ y.length = m := by
                refine ⟨x.take m, x[m]'(by omega), ?_, by simp; omega⟩
                conv => lhs; rw [← List.take_append_drop m x]
                rw [List.drop_eq_getElem_cons (by omega), List.drop_eq_nil_of_le (by omega)]
              subst hy
              rw [List.append_assoc, List.take_left] at e1
              rw [List.append_assoc, List.drop_left] at h2
              have e4 : Lx.span Lx.isIn (y ++ ([z] ++ r')) = y.length := by
                refine Lx.span_all e1 ?_
                have h2 : Lx.isQ z = true := h2
                simp only [Lx.isQ, beq_iff_eq] at h2
                show Lx.isIn z = false
                simp [Lx.isIn, h2]
              rw [List.append_assoc, List.append_assoc, e4, List.take_left, List.take_left, List.drop_left]
              rw [if_pos (show Lx.hd Lx.isQ ([z] ++ r') = true from h2), if_neg h5]
          · cases h
        · rw [if_neg h4] at h ⊢
          by_cases h5 : (c.toNat == 33) = true
          · rw [if_pos h5] at h ⊢
            split at h
            · rename_i h2
              cases h
              cases x with
              | nil => simp at hw
              | cons d x =>
                cases x with
                | nil => exact if_pos h2
                | cons e x => simp at hw
            · cases h
          · rw [if_neg h5] at h ⊢
            by_cases h6 : (c.toNat == 60 || c.toNat == 62) = true
            · rw [if_pos h6] at h ⊢
              split at h
              · rename_i h2
                cases h
                cases x with
                | nil => simp at hw
                | cons d x =>
                  cases x with
                  | nil => exact if_pos h2
                  | cons e x => simp at hw
              · rename_i h2
                cases h
                cases x with
                | cons d x => simp at hw
                | nil =>
                  rw [if_neg]
                  intro he
                  exact h2 (hc.2 he)
            · rw [if_neg h6] at h ⊢
              split at h
              · cases h
                rename_i h7
                exact if_pos h7
              · cases h
/-- A line feed and more behind the text is like the end of the text. -/
theorem Lx.tok_line {l : List UInt8} (r : List UInt8) (hl : l ≠ []) : Lx.tokF (l ++ 10 :: r) = Lx.tokF l := by
  cases l with
  | nil => exact absurd rfl hl
  | cons c l =>
    have s1 := Lx.span_le Lx.isWord (c :: l)
    have s2 := Lx.span_le Lx.isDig (c :: l)
    have s3 := Lx.span_le Lx.isIn l
    have e1 := Lx.span_stop (p := Lx.isWord) (by decide) (c :: l) r
    have e2 := Lx.span_stop (p := Lx.isDig) (by decide) (c :: l) r
    have e3 := Lx.span_stop (p := Lx.isIn) (by decide) l r
    have d1 : ∀ (p : UInt8 → Bool), p 10 = false → ∀ y : List UInt8, Lx.hd p (y ++ 10 :: r) = Lx.hd p y := by
      intro p hp y
      cases y with
      | nil => exact hp
      | cons a y => rfl
    rw [List.cons_append] at e1 e2 ⊢
    simp only [Lx.tokF]
    rw [e1, e2, e3, ← List.cons_append, List.take_append_of_le_length s1, List.take_append_of_le_length s2, List.take_append_of_le_length s3, List.drop_append_of_le_length s2, List.drop_append_of_le_length s3,
      d1 _ (by decide), d1 _ (by decide), d1 _ (by decide)]
    cases l with
    | nil => simp [Lx.hd]
    | cons d l => rfl
/-! ### texts that are lexed -/
theorem Lx.Lexes.skip {x y : List UInt8} {off : Nat} {ts e} (h : Lx.Lexes y (off + x.length) ts e) (hg : Lx.gapN false (x ++ y) = x.length + Lx.gapN false y) : Lx.Lexes (x ++ y) off ts e := by
  have hd : (x ++ y).drop (Lx.gapN false (x ++ y)) = y.drop (Lx.gapN false y) := by rw [hg, List.drop_append]; simp
  cases h with
  | done _ _ h => exact .done _ _ (hd.trans h)
  | bad _ _ e h he =>
    have := Lx.Lexes.bad (x ++ y) off e (by rw [hd]; exact h) (by rw [hd]; exact he)
    rw [hg, ← Nat.add_assoc] at this
    exact this
  | tok _ _ k n t w ts e h hk hr =>
    have := Lx.Lexes.tok (x ++ y) off k n t w ts e (by rw [hd]; exact h) (by rw [hd]; exact hk) (by rw [hd, hg, ← Nat.add_assoc]; exact hr)
    rw [hg, ← Nat.add_assoc] at this
    exact this
def Lx.shift (d : Nat) (ts : List Lx.Tk) : List Lx.Tk := ts.map fun t => { t with at' := t.at' + d }
theorem Lx.Lexes.shift {l : List UInt8} {off d : Nat} {ts e} (h : Lx.Lexes l off ts e) : Lx.Lexes l (off + d) (Lx.shift d ts) (e.map fun p => (p.1, p.2 + d)) := by
  induction h with
  | done l off h => exact .done _ _ h
  | bad l off e h he =>
    have := Lx.Lexes.bad l (off + d) e h he
    rw [Nat.add_right_comm] at this
    exact this
  | tok l off k n t w ts e h hk hr ih =>
    have := Lx.Lexes.tok l (off + d) k n t w (Lx.shift d ts) _ h hk (by rw [Nat.add_right_comm off, Nat.add_right_comm _ d]; exact ih)
    rw [Nat.add_right_comm] at this
    exact this
/-- There is one outcome. -/
theorem Lx.Lexes.one {l : List UInt8} {off : Nat} {ts e} (h : Lx.Lexes l off ts e) : ∀ {us f}, Lx.Lexes l off us f → us = ts ∧ f = e := by
  induction h with
  | done l off h =>
    intro us f h'
    cases h' with
    | done _ _ _ => exact ⟨rfl, rfl⟩
    | bad _ _ e h2 he => exact absurd h h2
    | tok _ _ k n t w ts e h2 hk hr => exact absurd h h2
  | bad l off e h he =>
    intro us f h'
    cases h' with
    | done _ _ h2 => exact absurd h2 h
    | bad _ _ e' h2 he' => rw [he] at he'; cases he'; exact ⟨rfl, rfl⟩
    | tok _ _ k n t w ts e h2 hk hr => rw [he] at hk; cases hk
  | tok l off k n t w ts e h hk hr ih =>
    intro us f h'
    cases h' with
    | done _ _ h2 => exact absurd h2 h
    | bad _ _ e' h2 he' => rw [he'] at hk; cases hk
    | tok _ _ k n t w ts e h2 hk' hr' =>
      rw [hk] at hk'
      cases hk'
      obtain ⟨rfl, rfl⟩ := ih hr'
      exact ⟨rfl, rfl⟩
theorem Lx.Lexes.ex : ∀ (N : Nat) (l : List UInt8) (off : Nat), l.length ≤ N → ∃ ts e, Lx.Lexes l off ts e
  | 0, l, off, h => by
    have : l = [] := List.length_eq_zero_iff.1 (by omega)
    subst this
    exact ⟨_, _, .done _ _ (by simp)⟩
  | N + 1, l, off, h => by
    by_cases hd : l.drop (Lx.gapN false l) = []
    · exact ⟨_, _, .done _ _ hd⟩
    · cases hk : Lx.tokF (l.drop (Lx.gapN false l)) with
      | err e => exact ⟨_, _, .bad _ _ e hd hk⟩
      | ok k n t w =>
        have hw := Lx.tok_lt hk
        obtain ⟨ts, e, hr⟩ := Lx.Lexes.ex N ((l.drop (Lx.gapN false l)).drop w) (off + Lx.gapN false l + w) (by simp at hw ⊢; omega)
        exact ⟨_, _, .tok _ _ k n t w ts e hd hk hr⟩
theorem Lx.Lexes.count {l : List UInt8} {off : Nat} {ts e} (h : Lx.Lexes l off ts e) : ts.length ≤ l.length := by
  induction h with
  | done => simp
  | bad => simp
  | tok l off k n t w ts e h hk hr ih =>
    have := Lx.tok_lt hk
    simp only [List.length_cons, List.length_drop] at *
    omega
/-- A fixed text by computing. -/
def Lx.run : Nat → List UInt8 → Nat → Option (List Lx.Tk × Option (Int × Nat))
  | 0, _, _ => none
  | f + 1, l, off =>
    if l.drop (Lx.gapN false l) = [] then some ([], none)
    else match Lx.tokF (l.drop (Lx.gapN false l)) with
      | .err e => some ([], some (e, off + Lx.gapN false l))
      | .ok k n t w => match Lx.run f ((l.drop (Lx.gapN false l)).drop w) (off + Lx.gapN false l + w) with
        | none => none
        | some (ts, e) => some (⟨k, off + Lx.gapN false l, n, t⟩ :: ts, e)
theorem Lx.of_run : ∀ (f : Nat) (l : List UInt8) (off : Nat) (ts : List Lx.Tk) (e : Option (Int × Nat)), Lx.run f l off = some (ts, e) → Lx.Lexes l off ts e
  | 0, l, off, ts, e, h => by simp [Lx.run] at h
  | f + 1, l, off, ts, e, h => by
    simp only [Lx.run] at h
    split at h
    · rename_i h1
      cases h
      exact .done _ _ h1
    · rename_i h1
      split at h
      · rename_i x hx
        cases h
        exact .bad _ _ _ h1 hx
      · rename_i k n t w hk
        split at h
        · cases h
        · rename_i us x hu
          cases h
          exact .tok _ _ k n t w us _ h1 hk (Lx.of_run f _ _ _ _ hu)
/-! ### the laws -/
def Lx.Tk.bytes (t : Lx.Tk) : List UInt8 := if t.kind = 3 then 34 :: t.text ++ [34] else t.text
def Lx.Tk.bare (t : Lx.Tk) : Int × Nat × List UInt8 := (t.kind, t.n, t.text)
def Lx.bares (ts : List Lx.Tk) : List (Int × Nat × List UInt8) := ts.map Lx.Tk.bare
theorem Lx.bares_shift (d : Nat) (ts : List Lx.Tk) : Lx.bares (Lx.shift d ts) = Lx.bares ts := by
  simp [Lx.bares, Lx.shift, List.map_map, Function.comp_def, Lx.Tk.bare]
/-- What a token's bytes are, and that no gap begins them. -/
theorem Lx.tok_bytes {l : List UInt8} {k : Int} {n w : Nat} {t : List UInt8} (h : Lx.tokF l = .ok k n t w) (a : Nat) :
    (⟨k, a, n, t⟩ : Lx.Tk).bytes = l.take w ∧ (k = 3 → w = t.length + 2) ∧ (k ≠ 3 → w = t.length) ∧ t.length ≤ 400 := by
  cases l with
  | nil => simp [Lx.tokF] at h
  | cons c r =>
    have s1 := Lx.span_le Lx.isWord (c :: r)
    have s2 := Lx.span_le Lx.isDig (c :: r)
    have s3 := Lx.span_le Lx.isIn r
    simp only [Lx.tokF] at h
    split at h
    · split at h
      · cases h
      · rename_i h2
        cases h
        have hl : ((c :: r).take (Lx.span Lx.isWord (c :: r))).length = Lx.span Lx.isWord (c :: r) := by rw [List.length_take]; omega
        exact ⟨by simp [Lx.Tk.bytes], fun e => by omega, fun _ => hl.symm, by omega⟩
    · split at h
      · split at h
        · cases h
        · rename_i h2
          cases h
          have h3 : ¬13 < Lx.span Lx.isDig (c :: r) := fun hh => h2 (by rw [decide_eq_true hh]; rfl)
          have hl : ((c :: r).take (Lx.span Lx.isDig (c :: r))).length = Lx.span Lx.isDig (c :: r) := by rw [List.length_take]; omega
          exact ⟨by simp [Lx.Tk.bytes], fun e => by omega, fun _ => hl.symm, by omega⟩
      · split at h
        · rename_i hq
          split at h
          · rename_i h2
            split at h
            · cases h
            · rename_i h3
              cases h
              have hl : (r.take (Lx.span Lx.isIn r)).length = Lx.span Lx.isIn r := by rw [List.length_take]; omega
              refine ⟨?_, fun _ => by omega, fun e => absurd rfl e, by omega⟩
              have hc : c = 34 := by simp only [Lx.isQ, beq_iff_eq] at hq; exact UInt8.toNat_inj.1 hq
              subst hc
              cases hd : r.drop (Lx.span Lx.isIn r) with
              | nil => rw [hd] at h2; simp [Lx.hd] at h2
              | cons a b =>
                rw [hd] at h2
                have ha : a = 34 := by simp only [Lx.hd, Lx.isQ, beq_iff_eq] at h2; exact UInt8.toNat_inj.1 h2
                subst ha
                show 34 :: r.take (Lx.span Lx.isIn r) ++ [34] = 34 :: r.take (Lx.span Lx.isIn r + 1)
                rw [List.take_add_one]
                have : r[Lx.span Lx.isIn r]? = some 34 := by
                  have := congrArg (·[0]?) hd
                  simpa using this
                rw [this]
                rfl
          · cases h
        · split at h
          · split at h
            · rename_i h2
              cases h
              cases r with
              | nil => simp [Lx.hd] at h2
              | cons d r => exact ⟨rfl, fun e => by omega, fun _ => rfl, by simp⟩
            · cases h
          · split at h
            · split at h
              · rename_i h2
                cases h
                cases r with
                | nil => simp [Lx.hd] at h2
                | cons d r => exact ⟨rfl, fun e => by omega, fun _ => rfl, by simp⟩
              · cases h
                exact ⟨rfl, fun e => by omega, fun _ => rfl, by simp⟩
            · split at h
              · cases h
                exact ⟨rfl, fun e => by omega, fun _ => rfl, by simp⟩
              · cases h
def Lx.Tk.wd (t : Lx.Tk) : Nat := if t.kind = 3 then t.text.length + 2 else t.text.length
theorem Lx.tok_wd {l : List UInt8} {k : Int} {n w : Nat} {t : List UInt8} (h : Lx.tokF l = .ok k n t w) (a : Nat) : (⟨k, a, n, t⟩ : Lx.Tk).wd = w := by
  obtain ⟨_, h2, h3, _⟩ := Lx.tok_bytes h a
  unfold Lx.Tk.wd
  by_cases hk : k = 3
  · rw [if_pos hk, h2 hk]
  · rw [if_neg hk, h3 hk]
theorem Lx.tok_split {l : List UInt8} {k : Int} {n w : Nat} {t : List UInt8} (h : Lx.tokF l = .ok k n t w) : l = l.take w ++ l.drop w ∧ (l.take w).length = w ∧ l.take w ≠ [] := by
  have := Lx.tok_lt h
  have hl : (l.take w).length = w := by rw [List.length_take]; omega
  refine ⟨(List.take_append_drop w l).symm, hl, fun e => ?_⟩
  rw [e] at hl
  simp at hl
  omega
/-- Two texts with a line feed between them. -/
theorem Lx.Lexes.join {l : List UInt8} {off : Nat} {a : List Lx.Tk} {e} (h : Lx.Lexes l off a e) (he : e = none) {two : List UInt8} {b f} (h2 : Lx.Lexes two (off + l.length + 1) b f) : Lx.Lexes (l ++ 10 :: two) off (a ++ b) f := by
  induction h with
  | done l off h =>
    have hg : Lx.gapN false l = l.length := by have := Lx.gap_le false l; have := List.drop_eq_nil_iff.1 h; omega
    have := Lx.gap_line false l two hg
    rw [show l ++ 10 :: two = (l ++ [10]) ++ two by simp]
    refine Lx.Lexes.skip (by rw [List.length_append]; exact h2) ?_
    rw [show (l ++ [10]) ++ two = l ++ 10 :: two by simp, this]
    simp
  | bad l off e h he' => cases he
  | tok l off k n t w ts e h hk hr ih =>
    have hgl : Lx.gapN false l < l.length := by
      have := Lx.gap_le false l
      by_cases hh : Lx.gapN false l = l.length
      · rw [hh, List.drop_length] at h; exact absurd rfl h
      · omega
    have hg : Lx.gapN false (l ++ 10 :: two) = Lx.gapN false l := Lx.gap_in false l _ hgl
    have hd : (l ++ 10 :: two).drop (Lx.gapN false l) = l.drop (Lx.gapN false l) ++ 10 :: two := List.drop_append_of_le_length (by omega)
    have hw := Lx.tok_lt hk
    have hlen : ((l.drop (Lx.gapN false l)).drop w).length + (Lx.gapN false l + w) = l.length := by simp at hw ⊢; omega
    have hr' := ih he (by rw [show off + Lx.gapN false l + w + ((l.drop (Lx.gapN false l)).drop w).length + 1 = off + l.length + 1 by omega]; exact h2)
    have := Lx.Lexes.tok (l ++ 10 :: two) off k n t w (ts ++ b) f (by rw [hg, hd]; simp) (by rw [hg, hd, Lx.tok_line two h]; exact hk) (by rw [hg, hd, List.drop_append_of_le_length (by omega)]; exact hr')
    rw [hg] at this
    exact this
theorem Lx.Lexes.join_bad {l : List UInt8} {off : Nat} {a : List Lx.Tk} {e x} (h : Lx.Lexes l off a e) (he : e = some x) (two : List UInt8) : Lx.Lexes (l ++ 10 :: two) off a e := by
  induction h with
  | done l off h => cases he
  | bad l off e h he' =>
    have hgl : Lx.gapN false l < l.length := by
      have := Lx.gap_le false l
      by_cases hh : Lx.gapN false l = l.length
      · rw [hh, List.drop_length] at h; exact absurd rfl h
      · omega
    have hg : Lx.gapN false (l ++ 10 :: two) = Lx.gapN false l := Lx.gap_in false l _ hgl
    have hd : (l ++ 10 :: two).drop (Lx.gapN false l) = l.drop (Lx.gapN false l) ++ 10 :: two := List.drop_append_of_le_length (by omega)
    have := Lx.Lexes.bad (l ++ 10 :: two) off e (by rw [hg, hd]; simp) (by rw [hg, hd, Lx.tok_line two h]; exact he')
    rw [hg] at this
    exact this
  | tok l off k n t w ts e h hk hr ih =>
    have hgl : Lx.gapN false l < l.length := by
      have := Lx.gap_le false l
      by_cases hh : Lx.gapN false l = l.length
      · rw [hh, List.drop_length] at h; exact absurd rfl h
      · omega
    have hg : Lx.gapN false (l ++ 10 :: two) = Lx.gapN false l := Lx.gap_in false l _ hgl
    have hd : (l ++ 10 :: two).drop (Lx.gapN false l) = l.drop (Lx.gapN false l) ++ 10 :: two := List.drop_append_of_le_length (by omega)
    have hw := Lx.tok_lt hk
    have := Lx.Lexes.tok (l ++ 10 :: two) off k n t w ts e (by rw [hg, hd]; simp) (by rw [hg, hd, Lx.tok_line two h]; exact hk) (by rw [hg, hd, List.drop_append_of_le_length (by omega)]; exact ih he)
    rw [hg] at this
    exact this
theorem Lx.gap_lt {l : List UInt8} (h : l.drop (Lx.gapN false l) ≠ []) : Lx.gapN false l < l.length := by
  have := Lx.gap_le false l
  by_cases hh : Lx.gapN false l = l.length
  · rw [hh, List.drop_length] at h; exact absurd rfl h
  · omega
/-- The error's place: what stands before it has no error, and it is an error from there on. -/
theorem Lx.Lexes.bad_at {l : List UInt8} {off : Nat} {a : List Lx.Tk} {e x o} (h : Lx.Lexes l off a e) (he : e = some (x, o)) :
    off ≤ o ∧ o < off + l.length ∧ Lx.Lexes (l.take (o - off)) off a none ∧ Lx.Lexes (l.drop (o - off)) 0 [] (some (x, 0)) := by
  induction h with
  | done l off h => cases he
  | bad l off e h he' =>
    cases he
    have hgl := Lx.gap_lt h
    refine ⟨by omega, by omega, ?_, ?_⟩
    · rw [show off + Lx.gapN false l - off = Lx.gapN false l by omega]
      refine .done _ _ ?_
      rw [Lx.gap_take, Nat.min_self, List.drop_eq_nil_of_le (by simp; omega)]
    · rw [show off + Lx.gapN false l - off = Lx.gapN false l by omega]
      cases hd : l.drop (Lx.gapN false l) with
      | nil => exact absurd hd h
      | cons c r =>
        have hg := Lx.gap_solid (r := r) (Lx.gap_stop false l c r hd)
        have := Lx.Lexes.bad (c :: r) 0 _ (by rw [hg]; simp) (by rw [hg, List.drop_zero, ← hd]; exact he')
        rw [hg] at this
        exact this
  | tok l off k n t w ts e h hk hr ih =>
    obtain ⟨h1, h2, h3, h4⟩ := ih he
    have hgl := Lx.gap_lt h
    have hw := Lx.tok_lt hk
    obtain ⟨s1, s2, s3⟩ := Lx.tok_split hk
    generalize hgv : Lx.gapN false l = g at *
    simp only [List.length_drop] at h2 hw
    refine ⟨by omega, by omega, ?_, ?_⟩
    · have hgt : Lx.gapN false (l.take (o - off)) = g := by rw [Lx.gap_take, hgv]; omega
      have hd : (l.take (o - off)).drop g = (l.drop g).take w ++ ((l.drop g).drop w).take (o - (off + g + w)) := by
        rw [List.drop_take]
        conv => lhs; rw [s1]
        rw [List.take_append, s2, List.take_of_length_le (by rw [s2]; omega)]
        congr 2
        omega
      have hk' : Lx.tokF ((l.drop g).take w ++ ((l.drop g).drop w).take (o - (off + g + w))) = .ok k n t w := by
        rw [s1] at hk
        refine Lx.tok_swap hk s2.symm ?_
        cases (l.drop g).drop w with
        | nil => rw [List.take_nil]; exact Lx.compat_nil _
        | cons c r =>
          cases o - (off + g + w) with
          | zero => exact Lx.compat_nil _
          | succ j => exact Lx.compat_cons c _ _
      have := Lx.Lexes.tok (l.take (o - off)) off k n t w ts none (by rw [hgt, hd]; simp [s3]) (by rw [hgt, hd]; exact hk') (by
        rw [hgt, hd, show ((l.drop g).take w ++ ((l.drop g).drop w).take (o - (off + g + w))).drop w = ((l.drop g).drop w).take (o - (off + g + w)) from by
          conv => lhs; rw [List.drop_append, s2]
          rw [List.drop_eq_nil_of_le (by omega)]; simp]
        exact h3)
      rw [hgt] at this
      exact this
    · rw [List.drop_drop, List.drop_drop, show g + (w + (o - (off + g + w))) = o - off by omega] at h4
      exact h4
/-- The tokens written one after the other, with one blank after each. -/
def Lx.allF (ts : List Lx.Tk) : List UInt8 := ts.flatMap fun t => t.bytes ++ [32]
theorem Lx.Lexes.again {l : List UInt8} {off : Nat} {a : List Lx.Tk} {e} (h : Lx.Lexes l off a e) (he : e = none) :
    ∀ o, ∃ b, Lx.Lexes (Lx.allF a) o b none ∧ Lx.bares b = Lx.bares a := by
  induction h with
  | done l off h => exact fun o => ⟨[], .done _ _ (by simp [Lx.allF]), rfl⟩
  | bad l off e h he' => cases he
  | tok l off k n t w ts e h hk hr ih =>
    intro o
    obtain ⟨s1, s2, s3⟩ := Lx.tok_split hk
    obtain ⟨hb, _⟩ := Lx.tok_bytes hk (off + Lx.gapN false l)
    obtain ⟨b, hb1, hb2⟩ := ih he (o + w + 1)
    have e1 : Lx.allF (⟨k, off + Lx.gapN false l, n, t⟩ :: ts) = (l.drop (Lx.gapN false l)).take w ++ 32 :: Lx.allF ts := by
      show Lx.Tk.bytes _ ++ [32] ++ Lx.allF ts = _
      rw [hb]
      simp
    have hk' : Lx.tokF ((l.drop (Lx.gapN false l)).take w ++ 32 :: Lx.allF ts) = .ok k n t w := by
      rw [s1] at hk
      exact Lx.tok_swap hk s2.symm (Lx.compat_gap (by decide) _ _)
    have hg : Lx.gapN false ((l.drop (Lx.gapN false l)).take w ++ 32 :: Lx.allF ts) = 0 := by
      cases hd : l.drop (Lx.gapN false l) with
      | nil => rw [hd] at s3; simp at s3
      | cons c r =>
        have hs := Lx.gap_stop false l c r hd
        have := Lx.tok_lt hk
        cases w with
        | zero => omega
        | succ j => exact Lx.gap_solid hs
    refine ⟨⟨k, o + 0, n, t⟩ :: b, ?_, ?_⟩
    · rw [e1]
      have := Lx.Lexes.tok ((l.drop (Lx.gapN false l)).take w ++ 32 :: Lx.allF ts) o k n t w b none (by rw [hg, List.drop_zero]; simp [s3]) (by rw [hg, List.drop_zero]; exact hk') (by
        rw [hg, List.drop_zero, show ((l.drop (Lx.gapN false l)).take w ++ 32 :: Lx.allF ts).drop w = 32 :: Lx.allF ts from by
          conv => lhs; rw [List.drop_append, s2]
          rw [List.drop_eq_nil_of_le (by omega)]; simp]
        exact Lx.Lexes.skip (x := [32]) hb1 (by show (if Lx.isBl 32 then Lx.gapN false _ + 1 else _) = _; rw [if_pos (by decide)]; simp; omega))
      rw [hg] at this
      exact this
    · show Lx.Tk.bare _ :: Lx.bares b = Lx.Tk.bare _ :: Lx.bares ts
      rw [hb2]
      rfl
theorem Lx.Lexes.all_le {l : List UInt8} {off : Nat} {a : List Lx.Tk} {e} (h : Lx.Lexes l off a e) : (Lx.allF a).length ≤ 2 * l.length := by
  induction h with
  | done => simp [Lx.allF]
  | bad => simp [Lx.allF]
  | tok l off k n t w ts e h hk hr ih =>
    obtain ⟨s1, s2, s3⟩ := Lx.tok_split hk
    obtain ⟨hb, _⟩ := Lx.tok_bytes hk (off + Lx.gapN false l)
    have e1 : Lx.allF (⟨k, off + Lx.gapN false l, n, t⟩ :: ts) = (l.drop (Lx.gapN false l)).take w ++ 32 :: Lx.allF ts := by
      show Lx.Tk.bytes _ ++ [32] ++ Lx.allF ts = _
      rw [hb]
      simp
    have := Lx.tok_lt hk
    rw [e1, List.length_append, s2, List.length_cons]
    simp only [List.length_drop] at ih this
    omega
/-- Gaps and a line feed before a text. -/
theorem Lx.Lexes.after {y : List UInt8} {ts e} (gs : List UInt8) (hg : Lx.gapN false gs = gs.length) {off : Nat} (h : Lx.Lexes y (off + gs.length + 1) ts e) : Lx.Lexes (gs ++ 10 :: y) off ts e := by
  have := Lx.Lexes.skip (x := gs ++ [10]) (y := y) (off := off) (by rw [List.length_append]; exact h) (by
    rw [show (gs ++ [10]) ++ y = gs ++ 10 :: y by simp, Lx.gap_line false gs y hg]; simp)
  rwa [show (gs ++ [10]) ++ y = gs ++ 10 :: y by simp] at this
/-- Gaps and a line feed after the token number i. -/
theorem Lx.Lexes.between {l : List UInt8} {off : Nat} {a : List Lx.Tk} {e} (h : Lx.Lexes l off a e) (he : e = none) (gs : List UInt8) (hg : Lx.gapN false gs = gs.length) :
    ∀ i (hi : i < a.length) (o : Nat), off ≤ (a[i]).at' ∧ (a[i]).at' + (a[i]).wd - off ≤ l.length ∧ ∃ b, Lx.Lexes (l.take ((a[i]).at' + (a[i]).wd - off) ++ (gs ++ 10 :: l.drop ((a[i]).at' + (a[i]).wd - off))) o b none ∧ Lx.bares b = Lx.bares a := by
  induction h with
  | done l off h => intro i hi; simp at hi
  | bad l off e h he' => cases he
  | tok l off k n t w ts e h hk hr ih =>
    intro i hi o
    obtain ⟨s1, s2, s3⟩ := Lx.tok_split hk
    have hw := Lx.tok_lt hk
    have hgl := Lx.gap_lt h
    have hwd := Lx.tok_wd hk (off + Lx.gapN false l)
    cases he
    generalize hgv : Lx.gapN false l = g at *
    simp only [List.length_drop] at hw
    cases i with
    | zero =>
      have em : (off + g) + w - off = g + w := by omega
      simp only [List.getElem_cons_zero]
      rw [hwd, em]
      refine ⟨by omega, by omega, ?_⟩
      have e1 : l.take (g + w) = l.take g ++ (l.drop g).take w := List.take_add
      have hlg : (l.take g).length = g := by rw [List.length_take]; omega
      have e2 : l.take (g + w) ++ (gs ++ 10 :: l.drop (g + w)) = l.take g ++ ((l.drop g).take w ++ (gs ++ 10 :: (l.drop g).drop w)) := by
        rw [e1, List.append_assoc, List.drop_drop]
      have hg' : Lx.gapN false (l.take (g + w) ++ (gs ++ 10 :: l.drop (g + w))) = g := by
        rw [Lx.gap_in, Lx.gap_take, hgv]
        · omega
        · rw [Lx.gap_take, hgv, List.length_take]; omega
      have hd : (l.take (g + w) ++ (gs ++ 10 :: l.drop (g + w))).drop g = (l.drop g).take w ++ (gs ++ 10 :: (l.drop g).drop w) := by
        rw [e2, List.drop_append, hlg, List.drop_eq_nil_of_le (by omega)]
        simp
      have hk' : Lx.tokF ((l.drop g).take w ++ (gs ++ 10 :: (l.drop g).drop w)) = .ok k n t w := by
        rw [s1] at hk
        refine Lx.tok_swap hk s2.symm ?_
        cases gs with
        | nil => exact Lx.compat_gap (by decide) _ _
        | cons c gs =>
          refine Lx.compat_gap (c := c) ?_ _ _
          cases hs : Lx.solid c with
          | false => rfl
          | true => rw [Lx.gap_solid hs] at hg; simp at hg
      have hsh := hr.shift (d := o + gs.length + 1)
      obtain ⟨b, hb⟩ : ∃ b, Lx.Lexes ((l.drop g).drop w) (o + g + w + gs.length + 1) b none ∧ Lx.bares b = Lx.bares ts := by
        obtain ⟨b, f, hb⟩ := Lx.Lexes.ex _ ((l.drop g).drop w) (o + g + w + gs.length + 1) (Nat.le_refl _)
        have h1 := hr.shift (d := o + g + w + gs.length + 1)
        have h2 := hb.shift (d := off + g + w)
        rw [Nat.add_comm (off + g + w)] at h1
        obtain ⟨u1, u2⟩ := h1.one h2
        cases f with
        | some x => cases u2
        | none => exact ⟨b, hb, by rw [← Lx.bares_shift (off + g + w) b, u1, Lx.bares_shift]⟩
      refine ⟨⟨k, o + g, n, t⟩ :: b, ?_, ?_⟩
      · have := Lx.Lexes.tok (l.take (g + w) ++ (gs ++ 10 :: l.drop (g + w))) o k n t w b none (by rw [hg', hd]; simp [s3]) (by rw [hg', hd]; exact hk') (by
          rw [hg', hd, show ((l.drop g).take w ++ (gs ++ 10 :: (l.drop g).drop w)).drop w = gs ++ 10 :: (l.drop g).drop w from by
            conv => lhs; rw [List.drop_append, s2]
            rw [List.drop_eq_nil_of_le (by omega)]; simp]
          exact Lx.Lexes.after gs hg hb.1)
        rw [hg'] at this
        exact this
      · show Lx.Tk.bare _ :: Lx.bares b = Lx.Tk.bare _ :: Lx.bares ts
        rw [hb.2]
        rfl
    | succ i =>
      simp only [List.getElem_cons_succ]
      have hi' : i < ts.length := by simpa using hi
      obtain ⟨q1, q2, b, q3, q4⟩ := ih rfl i hi' (o + g + w)
      generalize hT : ts[i] = T at *
      simp only [List.length_drop] at q2
      refine ⟨by omega, by omega, ?_⟩
      generalize hm : T.at' + T.wd - (off + g + w) = m at *
      have hTm : T.at' + T.wd - off = g + w + m := by
        by_cases h0 : T.at' + T.wd < off + g + w
        · omega
        · omega
      rw [hTm]
      have hlg : (l.take g).length = g := by rw [List.length_take]; omega
      have e1 : l.take (g + w + m) = l.take g ++ ((l.drop g).take w ++ ((l.drop g).drop w).take m) := by
        rw [Nat.add_assoc, List.take_add, List.take_add]
      have e2 : l.drop (g + w + m) = ((l.drop g).drop w).drop m := by rw [List.drop_drop, List.drop_drop, Nat.add_assoc]
      have e3 : l.take (g + w + m) ++ (gs ++ 10 :: l.drop (g + w + m)) = l.take g ++ ((l.drop g).take w ++ (((l.drop g).drop w).take m ++ (gs ++ 10 :: ((l.drop g).drop w).drop m))) := by
        rw [e1, e2, List.append_assoc, List.append_assoc]
      have hg' : Lx.gapN false (l.take (g + w + m) ++ (gs ++ 10 :: l.drop (g + w + m))) = g := by
        rw [Lx.gap_in, Lx.gap_take, hgv]
        · omega
        · rw [Lx.gap_take, hgv, List.length_take]; omega
      have hd : (l.take (g + w + m) ++ (gs ++ 10 :: l.drop (g + w + m))).drop g = (l.drop g).take w ++ (((l.drop g).drop w).take m ++ (gs ++ 10 :: ((l.drop g).drop w).drop m)) := by
        rw [e3, List.drop_append, hlg, List.drop_eq_nil_of_le (by omega)]
        simp
      have hcomp : Lx.compat ((l.drop g).drop w) (((l.drop g).drop w).take m ++ (gs ++ 10 :: ((l.drop g).drop w).drop m)) := by
        have hgs : ∀ r : List UInt8, Lx.compat ((l.drop g).drop w) (gs ++ 10 :: r) := by
          intro r
          cases gs with
          | nil => exact Lx.compat_gap (by decide) _ _
          | cons c gs =>
            refine Lx.compat_gap (c := c) ?_ _ _
            cases hs : Lx.solid c with
            | false => rfl
            | true => rw [Lx.gap_solid hs] at hg; simp at hg
        cases hx : (l.drop g).drop w with
        | nil => rw [← hx]; simpa [hx] using hgs []
        | cons c r =>
          cases m with
          | zero => rw [← hx]; exact hgs _
          | succ j => exact Lx.compat_cons c _ _
      have hk' : Lx.tokF ((l.drop g).take w ++ (((l.drop g).drop w).take m ++ (gs ++ 10 :: ((l.drop g).drop w).drop m))) = .ok k n t w := by
        rw [s1] at hk
        exact Lx.tok_swap hk s2.symm hcomp
      refine ⟨⟨k, o + g, n, t⟩ :: b, ?_, ?_⟩
      · have := Lx.Lexes.tok (l.take (g + w + m) ++ (gs ++ 10 :: l.drop (g + w + m))) o k n t w b none (by rw [hg', hd]; simp [s3]) (by rw [hg', hd]; exact hk') (by
          rw [hg', hd, show ((l.drop g).take w ++ (((l.drop g).drop w).take m ++ (gs ++ 10 :: ((l.drop g).drop w).drop m))).drop w = ((l.drop g).drop w).take m ++ (gs ++ 10 :: ((l.drop g).drop w).drop m) from by
            conv => lhs; rw [List.drop_append, s2]
            rw [List.drop_eq_nil_of_le (by omega)]; simp]
          exact q3)
        rw [hg'] at this
        exact this
      · show Lx.Tk.bare _ :: Lx.bares b = Lx.Tk.bare _ :: Lx.bares ts
        rw [q4]
        rfl
/-- Two tokens that follow each other directly are not one. -/
theorem Lx.tok_two {x y r : List UInt8} {k : Int} {n w : Nat} {t : List UInt8} (h : Lx.tokF (x ++ (y ++ r)) = .ok k n t w) (hw : w = x.length) (hy : y ≠ []) (hs : Lx.hd Lx.solid x = true) (hsy : Lx.hd Lx.solid y = true)
    {ts e} (hl : Lx.Lexes (x ++ y) 0 ts e) : ¬(e = none ∧ ts.length = 1) := by
  rintro ⟨rfl, h1⟩
  have hk : Lx.tokF (x ++ y) = .ok k n t w := by
    refine Lx.tok_swap h hw ?_
    cases y with
    | nil => exact absurd rfl hy
    | cons c y => exact Lx.compat_cons c _ _
  have hg : Lx.gapN false (x ++ y) = 0 := by
    cases x with
    | nil => simp [Lx.hd] at hs
    | cons c x => exact Lx.gap_solid hs
  cases hl with
  | done _ _ h => simp at h1
  | tok _ _ k' n' t' w' ts' e' h2 hk' hr =>
    rw [hg, List.drop_zero] at hk' hr
    rw [hk] at hk'
    cases hk'
    rw [hw, List.drop_left] at hr
    have hts : ts' = [] := List.length_eq_zero_iff.1 (by simpa using h1)
    subst hts
    cases hr with
    | done _ _ h3 =>
      have hgy : Lx.gapN false y = 0 := by
        cases y with
        | nil => simp [Lx.hd] at hsy
        | cons c y => exact Lx.gap_solid hsy
      rw [hgy, List.drop_zero] at h3
      exact hy h3
/-- The tokens from the number i on, from the place behind the one before it. -/
def Lx.endAt (ts : List Lx.Tk) : Nat → Nat
  | 0 => 0
  | i + 1 => match ts[i]? with
    | some t => t.at' + t.wd
    | none => 0
theorem Lx.Lexes.step {l : List UInt8} {off : Nat} {t ts e} (h : Lx.Lexes l off (t :: ts) e) :
    off ≤ t.at' ∧ t.at' - off = Lx.gapN false l ∧ t.at' + t.wd ≤ off + l.length ∧ 0 < t.wd ∧ t.bytes = (l.drop (t.at' - off)).take t.wd ∧ Lx.tokF (l.drop (t.at' - off)) = .ok t.kind t.n t.text t.wd ∧
      Lx.Lexes (l.drop (t.at' + t.wd - off)) (t.at' + t.wd) ts e ∧ Lx.gapN false (l.take (t.at' - off)) = (l.take (t.at' - off)).length ∧ Lx.hd Lx.solid (l.drop (t.at' - off)) = true := by
  cases h with
  | tok _ _ k n t w ts e h hk hr =>
    have hwd := Lx.tok_wd hk (off + Lx.gapN false l)
    have hgl := Lx.gap_lt h
    have hw := Lx.tok_lt hk
    have hb := (Lx.tok_bytes hk (off + Lx.gapN false l)).1
    have hgt := Lx.gap_take false l (Lx.gapN false l)
    have e0 : off + Lx.gapN false l - off = Lx.gapN false l := by omega
    have e1 : off + Lx.gapN false l + w - off = Lx.gapN false l + w := by omega
    simp only [List.length_drop] at hw
    refine ⟨by dsimp only; omega, e0, ?_, ?_, ?_, ?_, ?_, ?_, ?_⟩
    · rw [hwd]; dsimp only; omega
    · rw [hwd]; omega
    · rw [hwd, hb]; dsimp only; rw [e0]
    · rw [hwd]; dsimp only; rw [e0]; exact hk
    · rw [hwd]
      dsimp only
      rw [e1, ← List.drop_drop]
      exact hr
    · dsimp only
      rw [e0, hgt, Nat.min_self, List.length_take]
      omega
    · dsimp only
      rw [e0]
      cases hd : l.drop (Lx.gapN false l) with
      | nil => exact absurd hd h
      | cons c r => exact Lx.gap_stop false l c r hd
theorem Lx.Lexes.nil {l : List UInt8} {off : Nat} (h : Lx.Lexes l off [] none) : Lx.gapN false l = l.length := by
  cases h with
  | done _ _ h => have := Lx.gap_le false l; have := List.drop_eq_nil_iff.1 h; omega
/-! ### numbers -/
theorem Lx.fold_ge : ∀ (l : List UInt8) (a : Nat), a ≤ l.foldl (fun n c => n * 10 + (c.toNat - 48)) a
  | [], a => Nat.le_refl a
  | c :: l, a => by
    have := Lx.fold_ge l (a * 10 + (c.toNat - 48))
    rw [List.foldl_cons]
    omega
theorem Lx.parse_ok : ∀ (l : List UInt8) (acc : Nat), (∀ c ∈ l, Lx.isDig c = true) → l.foldl (fun n c => n * 10 + (c.toNat - 48)) acc < 100000000000000 → Go.Lib.parseUint10 acc l = .ok (l.foldl (fun n c => n * 10 + (c.toNat - 48)) acc)
  | [], acc, _, _ => rfl
  | c :: r, acc, hl, hb => by
    have hc : 48 ≤ c.toNat ∧ c.toNat ≤ 57 := by simpa [Lx.isDig] using hl c (by simp)
    rw [List.foldl_cons] at hb ⊢
    have hg := Lx.fold_ge r (acc * 10 + (c.toNat - 48))
    rw [Go.Lib.parseUint10, if_pos hc, if_neg (by omega), if_neg (by omega)]
    exact Lx.parse_ok r _ (fun d hd => hl d (by simp [hd])) hb
theorem Lx.fold_lt : ∀ (l : List UInt8) (acc m : Nat), (∀ c ∈ l, Lx.isDig c = true) → acc < 10 ^ m → l.foldl (fun n c => n * 10 + (c.toNat - 48)) acc < 10 ^ (m + l.length)
  | [], acc, m, _, h => by simpa using h
  | c :: r, acc, m, hl, h => by
    have hc : 48 ≤ c.toNat ∧ c.toNat ≤ 57 := by simpa [Lx.isDig] using hl c (by simp)
    rw [List.foldl_cons, List.length_cons, show m + (r.length + 1) = (m + 1) + r.length by omega]
    refine Lx.fold_lt r _ (m + 1) (fun d hd => hl d (by simp [hd])) ?_
    rw [Nat.pow_succ]
    omega
theorem Lx.num_lt {l : List UInt8} (h : ∀ c ∈ l, Lx.isDig c = true) (hl : l.length ≤ 13) : Lx.num l < 10000000000000 := by
  have := Lx.fold_lt l 0 0 h (by simp)
  have h2 : 10 ^ (0 + l.length) ≤ 10 ^ 13 := Nat.pow_le_pow_right (by omega) (by omega)
  exact Nat.lt_of_lt_of_le this h2
theorem Lx.atoi {l : List UInt8} (h : ∀ c ∈ l, Lx.isDig c = true) (h0 : l ≠ []) (hl : l.length ≤ 13) : Go.Lib.atoiAll l = .ok (Lx.num l : Int) := by
  have hb := Lx.num_lt h hl
  have hp : Go.Lib.parseUint10 0 l = .ok (Lx.num l) := Lx.parse_ok l 0 h (by unfold Lx.num at hb; omega)
  cases l with
  | nil => exact absurd rfl h0
  | cons c r =>
    have hc : 48 ≤ c.toNat ∧ c.toNat ≤ 57 := by simpa [Lx.isDig] using h c (by simp)
    have hm : Go.Lib.parseMag (c :: r) = .ok (Lx.num (c :: r)) := by
      unfold Go.Lib.parseMag
      rw [if_neg (by simp)]
      exact hp
    unfold Go.Lib.atoiAll
    have n1 : ¬ (c.toNat = 43 ∨ c.toNat = 45) := by omega
    have n2 : ¬ c.toNat = 45 := by omega
    have n3 : ¬ c.toNat = 43 := by omega
    simp only [n2, n3, or_self, if_false, hm]
    generalize Lx.num (c :: r) = v at *
    rw [if_neg (by omega)]
    simp
end Go.Proofs.YtkbnaendlcjjbaaDoor
