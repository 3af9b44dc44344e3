/- Identifiers, valid rates and the rate of a day (layer 8): mathematics. Nothing of the program is imported. -/
import Derived.Below
set_option linter.unusedSimpArgs false
set_option linter.unusedVariables false
namespace Go.Proofs.YtkbncdcphohmiaaGreatDoor
/-! ### identifiers, rates -/
def Mo.isLet (c : UInt8) : Bool := (97 ≤ c.toNat && c.toNat ≤ 122) || (65 ≤ c.toNat && c.toNat ≤ 90)
def Mo.isWd (c : UInt8) : Bool := Mo.isLet c || c.toNat == 95 || (48 ≤ c.toNat && c.toNat ≤ 57)
def Mo.ident : List UInt8 → Bool
  | [] => false
  | c :: r => Mo.isLet c && (r.all Mo.isWd && decide (r.length ≤ 23))
def Mo.dayOk (n : Int) : Bool := decide (0 ≤ n) && decide (n ≤ 100000)
structure Mo.Rt where
  cur : ByteArray
  day : Int
  num : Int
  den : Int
def Mo.Rt.zero : Mo.Rt := ⟨⟨#[]⟩, 0, 0, 0⟩
def Mo.okR (base : ByteArray) (x : Mo.Rt) : Bool := Mo.ident x.cur.data.toList && (!decide (x.cur = base) && (Mo.dayOk x.day && ((decide (1 ≤ x.num) && decide (x.num ≤ 1000000)) && (decide (1 ≤ x.den) && decide (x.den ≤ 1000000)))))
def Mo.clash (x y : Mo.Rt) : Prop := x.cur = y.cur ∧ x.day = y.day
instance (x y : Mo.Rt) : Decidable (Mo.clash x y) := inferInstanceAs (Decidable (_ ∧ _))
def Mo.apart (l : List Mo.Rt) : Prop := l.Pairwise fun x y => ¬ Mo.clash x y
instance (l : List Mo.Rt) : Decidable (Mo.apart l) := inferInstanceAs (Decidable (List.Pairwise _ l))
def Mo.valid (l : List Mo.Rt) (base : ByteArray) : Bool := Mo.ident base.data.toList && (decide (l.length ≤ 400) && (l.all (Mo.okR base) && decide (Mo.apart l)))
def Mo.step (cur : ByteArray) (day : Int) (b x : Mo.Rt) : Mo.Rt := if x.cur = cur ∧ x.day ≤ day ∧ b.day < x.day then x else b
def Mo.noRate : Mo.Rt := ⟨⟨#[]⟩, -1, 0, 0⟩
def Mo.best (l : List Mo.Rt) (cur : ByteArray) (day : Int) : Mo.Rt := l.foldl (Mo.step cur day) Mo.noRate
/-- What Find returns, with its error. -/
def Mo.find (l : List Mo.Rt) (base cur : ByteArray) (day : Int) : Mo.Rt × Int :=
  if (Mo.valid l base && (Mo.ident cur.data.toList && Mo.dayOk day)) = false then (.zero, 1)
  else if cur = base then (⟨base, 0, 1, 1⟩, 0)
  else if (Mo.best l cur day).day < 0 then (.zero, 11)
  else (Mo.best l cur day, 0)
def Mo.fits (cur : ByteArray) (day : Int) (y : Mo.Rt) : Prop := y.cur = cur ∧ y.day ≤ day
/-- The outcome of the search. -/
def Mo.IsBest (l : List Mo.Rt) (cur : ByteArray) (day : Int) (b : Mo.Rt) : Prop :=
  (b = Mo.noRate ∧ ∀ y ∈ l, Mo.fits cur day y → y.day < 0) ∨ (0 ≤ b.day ∧ b ∈ l ∧ Mo.fits cur day b ∧ ∀ y ∈ l, Mo.fits cur day y → y.day ≤ b.day)
theorem Mo.best_snoc (l : List Mo.Rt) (x : Mo.Rt) (cur : ByteArray) (day : Int) : Mo.best (l ++ [x]) cur day = Mo.step cur day (Mo.best l cur day) x := by
  unfold Mo.best
  rw [List.foldl_append]
  rfl
theorem Mo.best_is (cur : ByteArray) (day : Int) : ∀ (k : Nat) (l : List Mo.Rt), l.length = k → Mo.IsBest l cur day (Mo.best l cur day)
  | 0, l, h => by
    have : l = [] := List.length_eq_zero_iff.1 h
    subst this
    exact .inl ⟨rfl, fun y hy => by simp at hy⟩
  | k + 1, l, h => by
    have hne : l ≠ [] := fun e => by subst e; simp at h
    obtain ⟨m, x, rfl⟩ : ∃ m x, l = m ++ [x] := ⟨l.dropLast, l.getLast hne, (List.dropLast_concat_getLast hne).symm⟩
    have ih := Mo.best_is cur day k m (by simpa using h)
    rw [Mo.best_snoc]
    generalize Mo.best m cur day = b at ih
    unfold Mo.step
    split
    · rename_i hx
      by_cases h0 : 0 ≤ x.day
      · refine .inr ⟨h0, by simp, ⟨hx.1, hx.2.1⟩, fun y hy hf => ?_⟩
        rcases List.mem_append.1 hy with hy | hy
        · rcases ih with ⟨rfl, hb⟩ | ⟨_, _, _, hb⟩
          · have := hb y hy hf; omega
          · have := hb y hy hf; omega
        · simp at hy
          rw [hy]
          exact Int.le_refl _
      · rcases ih with ⟨rfl, _⟩ | ⟨hb, _⟩
        · have : Mo.noRate.day = -1 := rfl
          omega
        · omega
    · rename_i hx
      rcases ih with ⟨rfl, hb⟩ | ⟨h0, hm, hf, hb⟩
      · refine .inl ⟨rfl, fun y hy hf => ?_⟩
        rcases List.mem_append.1 hy with hy | hy
        · exact hb y hy hf
        · simp at hy
          subst hy
          have : Mo.noRate.day = -1 := rfl
          by_cases h1 : y.day < 0
          · exact h1
          · exact absurd ⟨hf.1, hf.2, by omega⟩ hx
      · refine .inr ⟨h0, by simp [hm], hf, fun y hy hfy => ?_⟩
        rcases List.mem_append.1 hy with hy | hy
        · exact hb y hy hfy
        · simp at hy
          subst hy
          by_cases h1 : y.day ≤ b.day
          · exact h1
          · exact absurd ⟨hfy.1, hfy.2, by omega⟩ hx
theorem Mo.apart_eq {l : List Mo.Rt} (h : Mo.apart l) {x y : Mo.Rt} (hx : x ∈ l) (hy : y ∈ l) (hc : x.cur = y.cur) (hd : x.day = y.day) : x = y := by
  induction l with
  | nil => simp at hx
  | cons z l ih =>
    have hp := List.pairwise_cons.1 h
    rcases List.mem_cons.1 hx with ex | hx'
    · rcases List.mem_cons.1 hy with ey | hy'
      · rw [ex, ey]
      · exact absurd ⟨by rw [← ex]; exact hc, by rw [← ex]; exact hd⟩ (hp.1 y hy')
    · rcases List.mem_cons.1 hy with ey | hy'
      · exact absurd ⟨by rw [← ey]; exact hc.symm, by rw [← ey]; exact hd.symm⟩ (hp.1 x hx')
      · exact ih hp.2 hx' hy'
/-- There is one outcome. -/
theorem Mo.IsBest.one {l : List Mo.Rt} (ha : Mo.apart l) {cur : ByteArray} {day : Int} {b c : Mo.Rt} (h1 : Mo.IsBest l cur day b) (h2 : Mo.IsBest l cur day c) : b = c := by
  rcases h1 with ⟨rfl, hb⟩ | ⟨b0, bm, bf, hb⟩
  · rcases h2 with ⟨rfl, _⟩ | ⟨c0, cm, cf, hc⟩
    · rfl
    · have := hb c cm cf; omega
  · rcases h2 with ⟨rfl, hc⟩ | ⟨c0, cm, cf, hc⟩
    · have := hc b bm bf; omega
    · have e1 := hb c cm cf
      have e2 := hc b bm bf
      exact Mo.apart_eq ha bm cm (bf.1.trans cf.1.symm) (by omega)
theorem Mo.IsBest.mem {l m : List Mo.Rt} (h : ∀ x, x ∈ m ↔ x ∈ l) {cur : ByteArray} {day : Int} {b : Mo.Rt} (hb : Mo.IsBest l cur day b) : Mo.IsBest m cur day b := by
  rcases hb with ⟨rfl, hb⟩ | ⟨b0, bm, bf, hb⟩
  · exact .inl ⟨rfl, fun y hy => hb y ((h y).1 hy)⟩
  · exact .inr ⟨b0, (h b).2 bm, bf, fun y hy => hb y ((h y).1 hy)⟩
theorem Mo.apart_reverse (l : List Mo.Rt) : Mo.apart l.reverse ↔ Mo.apart l := by
  unfold Mo.apart
  rw [List.pairwise_reverse]
  constructor
  · intro h
    exact h.imp fun h' hc => h' ⟨hc.1.symm, hc.2.symm⟩
  · intro h
    exact h.imp fun h' hc => h' ⟨hc.1.symm, hc.2.symm⟩
theorem Mo.valid_reverse (l : List Mo.Rt) (base : ByteArray) : Mo.valid l.reverse base = Mo.valid l base := by
  unfold Mo.valid
  rw [List.length_reverse, List.all_reverse]
  congr 3
  exact decide_eq_decide.2 (Mo.apart_reverse l)
/-- The order of the rates makes no difference. -/
theorem Mo.find_reverse (l : List Mo.Rt) (base cur : ByteArray) (day : Int) : Mo.find l.reverse base cur day = Mo.find l base cur day := by
  unfold Mo.find
  rw [Mo.valid_reverse]
  by_cases hv : (Mo.valid l base && (Mo.ident cur.data.toList && Mo.dayOk day)) = false
  · rw [if_pos hv, if_pos hv]
  · have ha : Mo.apart l := by
      simp only [Mo.valid, Bool.not_eq_false, Bool.and_eq_true, decide_eq_true_eq] at hv
      exact hv.1.2.2.2
    have e : Mo.best l.reverse cur day = Mo.best l cur day := Mo.IsBest.one ha ((Mo.best_is cur day _ l.reverse rfl).mem (fun x => by simp)) (Mo.best_is cur day _ l rfl)
    rw [e]
/-- Rates of later days make no difference. -/
theorem Mo.best_early (cur : ByteArray) (day : Int) (l : List Mo.Rt) (hl : Mo.apart l) : Mo.best (l.filter fun x => decide (x.day ≤ day)) cur day = Mo.best l cur day := by
  refine Mo.IsBest.one hl ?_ (Mo.best_is cur day _ l rfl)
  have h := Mo.best_is cur day _ (l.filter fun x => decide (x.day ≤ day)) rfl
  generalize Mo.best (l.filter fun x => decide (x.day ≤ day)) cur day = b at h
  rcases h with ⟨rfl, hb⟩ | ⟨b0, bm, bf, hb⟩
  · exact .inl ⟨rfl, fun y hy hf => hb y (List.mem_filter.2 ⟨hy, decide_eq_true hf.2⟩) hf⟩
  · exact .inr ⟨b0, (List.mem_filter.1 bm).1, bf, fun y hy hf => hb y (List.mem_filter.2 ⟨hy, decide_eq_true hf.2⟩) hf⟩
theorem Mo.valid_filter {l : List Mo.Rt} {base : ByteArray} (p : Mo.Rt → Bool) (h : Mo.valid l base = true) : Mo.valid (l.filter p) base = true := by
  simp only [Mo.valid, Bool.and_eq_true, decide_eq_true_eq] at h ⊢
  refine ⟨h.1, Nat.le_trans (List.length_filter_le _ _) h.2.1, List.all_eq_true.2 fun x hx => List.all_eq_true.1 h.2.2.1 x (List.mem_filter.1 hx).1, ?_⟩
  exact h.2.2.2.filter _
theorem Mo.find_early {l : List Mo.Rt} {base : ByteArray} (cur : ByteArray) (day : Int) (h : Mo.valid l base = true) : Mo.find (l.filter fun x => decide (x.day ≤ day)) base cur day = Mo.find l base cur day := by
  have ha : Mo.apart l := by
    simp only [Mo.valid, Bool.and_eq_true, decide_eq_true_eq] at h
    exact h.2.2.2
  unfold Mo.find
  rw [Mo.valid_filter _ h, h, Mo.best_early cur day l ha]
end Go.Proofs.YtkbncdcphohmiaaGreatDoor
