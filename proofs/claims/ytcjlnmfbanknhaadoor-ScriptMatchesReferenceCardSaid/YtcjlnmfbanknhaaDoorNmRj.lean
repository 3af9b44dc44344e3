/- Layer 9, the reference's Parse: what it has read of a text. -/
import Derived.Test.YtcjlnmfbanknhaaDoorNmRi
import Derived.Test.YtcjlnmfbanknhaaDoorNmPm
set_option linter.unusedSimpArgs false
set_option linter.unusedVariables false
namespace Go.Proofs.YtcjlnmfbanknhaaDoor
open Go.RowKit Go.Shelf
/-- The title that was found among those below j, and its length. -/
def Nm.Fn (t : Nm.T) (j f a : Nat) : Prop := (f = 0 ∧ a = 0 ∧ ∀ s, 1 ≤ s → s < j → (Nm.title s).isPrefixOf t = false) ∨ (1 ≤ f ∧ f ≤ 4 ∧ a = (Nm.title f).length ∧ ∃ r, t = Nm.title f ++ r)
theorem Nm.Fn.start (t : Nm.T) : Nm.Fn t 1 0 0 := .inl ⟨rfl, rfl, fun s h1 h2 => by omega⟩
theorem Nm.Fn.hit {t : Nm.T} {j f a : Nat} (h1 : 1 ≤ j) (h4 : j ≤ 4) {r : Nm.T} (ht : t = Nm.title j ++ r) : Nm.Fn t (j + 1) j (Nm.title j).length := .inr ⟨h1, h4, rfl, r, ht⟩
theorem Nm.Fn.miss {t : Nm.T} {j f a : Nat} (h : Nm.Fn t j f a) (hp : (Nm.title j).isPrefixOf t = false) : Nm.Fn t (j + 1) f a := by
  rcases h with ⟨h1, h2, h3⟩ | h
  · refine .inl ⟨h1, h2, fun s s1 s2 => ?_⟩
    rcases Nat.lt_or_ge s j with hlt | hge
    · exact h3 s s1 hlt
    · obtain rfl : s = j := by omega
      exact hp
  · exact .inr h
theorem Nm.Fn.none {t : Nm.T} {f : Nat} (h : Nm.Fn t 5 f 0) (hl : t.length ≤ 20000) : f = 0 ∧ Nm.parse t = ⟨0, [], 5, 0⟩ := by
  rcases h with ⟨h1, _, h3⟩ | ⟨h1, h4, ha, _⟩
  · refine ⟨h1, Nm.parse_none hl ?_⟩
    unfold Nm.find
    rw [h3 1 (by omega) (by omega), h3 2 (by omega) (by omega), h3 3 (by omega) (by omega), h3 4 (by omega) (by omega)]
    rfl
  · have := (Nm.title_len h1 h4).1
    omega
theorem Nm.Fn.some {t : Nm.T} {f a : Nat} (h : Nm.Fn t 5 f a) (ha : a ≠ 0) : 1 ≤ f ∧ f ≤ 4 ∧ a = (Nm.title f).length ∧ ∃ r, t = Nm.title f ++ r := by
  rcases h with ⟨_, h2, _⟩ | h
  · exact absurd h2 ha
  · exact h
/-- Where the reference is in a text. -/
structure Nm.Sc (f : Nat) (T : Nm.T) (i bg : Nat) (ins : Bool) (lt : Nat) (ws : List Nm.T) : Prop where
  eq : Nm.scan f (T.drop (Nm.title f).length) [] [] 0 = Nm.scan f (T.drop i) ws (if ins then (T.drop bg).take (i - bg) else []) (if ins then lt else 0)
  le : i ≤ T.length
  six : ws.length ≤ 6
  ib : ins = true → bg < i ∧ ws.length ≤ 5
  lt : lt ≤ 12
theorem Nm.Sc.start {f : Nat} {T : Nm.T} (h : (Nm.title f).length ≤ T.length) : Nm.Sc f T (Nm.title f).length 0 false 0 [] := ⟨rfl, h, by simp, (fun h => by cases h), by omega⟩
theorem Nm.drop_cons {T : Nm.T} {i : Nat} {x : UInt8} (hx : T[i]? = some x) : T.drop i = x :: T.drop (i + 1) := by
  obtain ⟨h, he⟩ := List.getElem?_eq_some_iff.1 hx
  rw [List.drop_eq_getElem_cons h, he]
theorem Nm.cur_ne {T : Nm.T} {i bg : Nat} (h : bg < i) (hi : i ≤ T.length) : (T.drop bg).take (i - bg) ≠ [] := by
  intro hc
  have := congrArg List.length hc
  rw [List.length_take, List.length_drop] at this
  simp only [List.length_nil] at this
  omega
theorem Nm.Sc.blank1 {f : Nat} {T : Nm.T} {i bg lt : Nat} {ws : List Nm.T} (h : Nm.Sc f T i bg true lt ws) (hx : T[i]? = some 32) : Nm.Sc f T (i + 1) bg false lt (ws ++ [(T.drop bg).take (i - bg)]) := by
  have hi := (List.getElem?_eq_some_iff.1 hx).1
  obtain ⟨h1, h2⟩ := h.ib rfl
  refine ⟨?_, by omega, by simp; omega, (fun h => by cases h), h.lt⟩
  rw [h.eq, Nm.drop_cons hx]
  simp only [if_true, Bool.false_eq_true, if_false]
  rw [Nm.scan_blank, Nm.push_ne (Nm.cur_ne h1 h.le)]
theorem Nm.Sc.blank0 {f : Nat} {T : Nm.T} {i bg lt : Nat} {ws : List Nm.T} (h : Nm.Sc f T i bg false lt ws) (hx : T[i]? = some 32) : Nm.Sc f T (i + 1) bg false lt ws := by
  have hi := (List.getElem?_eq_some_iff.1 hx).1
  refine ⟨?_, by omega, h.six, (fun h => by cases h), h.lt⟩
  rw [h.eq, Nm.drop_cons hx]
  simp only [Bool.false_eq_true, if_false]
  rw [Nm.scan_blank, Nm.push_nil]
theorem Nm.Sc.bad {f : Nat} {T : Nm.T} {i bg lt : Nat} {ins : Bool} {ws : List Nm.T} (h : Nm.Sc f T i bg ins lt ws) {x : UInt8} (hx : T[i]? = some x) (h32 : x ≠ 32) (h0 : Nm.ln f (T.drop i) = 0) :
    Nm.scan f (T.drop (Nm.title f).length) [] [] 0 = ([], 3, T.length - i) := by
  have hi := (List.getElem?_eq_some_iff.1 hx).1
  rw [h.eq, Nm.drop_cons hx]
  rw [Nm.drop_cons hx] at h0
  rw [Nm.scan_bad _ _ _ h32 h0, List.length_drop]
  rw [show T.length - (i + 1) + 1 = T.length - i from by omega]
theorem Nm.Sc.full {f : Nat} {T : Nm.T} {i bg lt : Nat} {ins : Bool} {ws : List Nm.T} (h : Nm.Sc f T i bg ins lt ws) (h0 : Nm.ln f (T.drop i) ≠ 0) (hf : (ins = false ∧ ws.length = 6) ∨ (ins = true ∧ lt = 12)) :
    Nm.scan f (T.drop (Nm.title f).length) [] [] 0 = ([], 2, T.length - i) := by
  rw [h.eq]
  rcases hf with ⟨rfl, h6⟩ | ⟨rfl, h12⟩
  · rw [Nm.scan_full _ h0 (by simp [Nm.full, h6]), List.length_drop]
  · rw [Nm.scan_full _ h0 (by simp [Nm.full, h12]), List.length_drop]
theorem Nm.Sc.go0 {f : Nat} {T : Nm.T} {i bg lt : Nat} {ws : List Nm.T} (h : Nm.Sc f T i bg false lt ws) (h0 : Nm.ln f (T.drop i) ≠ 0) (h6 : ws.length ≠ 6) : Nm.Sc f T (i + Nm.ln f (T.drop i)) i true 1 ws := by
  have hl := Nm.ln_le f (T.drop i)
  have := h.le
  have := h.six
  rw [List.length_drop] at hl
  refine ⟨?_, by omega, h.six, fun _ => ⟨by omega, by omega⟩, by omega⟩
  rw [h.eq]
  simp only [Bool.false_eq_true, if_false, if_true]
  rw [Nm.scan_step _ h0 (by simp [Nm.full, h6]), List.drop_drop, List.nil_append, Nat.add_sub_cancel_left]
theorem Nm.Sc.go1 {f : Nat} {T : Nm.T} {i bg lt : Nat} {ws : List Nm.T} (h : Nm.Sc f T i bg true lt ws) (h0 : Nm.ln f (T.drop i) ≠ 0) (h12 : lt ≠ 12) : Nm.Sc f T (i + Nm.ln f (T.drop i)) bg true (lt + 1) ws := by
  have hl := Nm.ln_le f (T.drop i)
  have hle := h.le
  have hlt := h.lt
  obtain ⟨h1, h2⟩ := h.ib rfl
  rw [List.length_drop] at hl
  refine ⟨?_, by omega, h.six, fun _ => ⟨by omega, h2⟩, by omega⟩
  rw [h.eq]
  simp only [if_true]
  rw [Nm.scan_step _ h0 (by simp only [Nm.full, Bool.or_eq_false_iff, beq_eq_false_iff_ne]; exact ⟨by omega, h12⟩), List.drop_drop]
  have e : (T.drop bg).take (i + Nm.ln f (T.drop i) - bg) = (T.drop bg).take (i - bg) ++ (T.drop i).take (Nm.ln f (T.drop i)) := by
    rw [show i + Nm.ln f (T.drop i) - bg = (i - bg) + Nm.ln f (T.drop i) from by omega, List.take_add, List.drop_drop, show bg + (i - bg) = i from by omega]
  rw [e]
theorem Nm.Sc.end1 {f : Nat} {T : Nm.T} {bg lt : Nat} {ws : List Nm.T} (h : Nm.Sc f T T.length bg true lt ws) : Nm.scan f (T.drop (Nm.title f).length) [] [] 0 = (ws ++ [T.drop bg], 0, 0) := by
  obtain ⟨h1, h2⟩ := h.ib rfl
  have hne := Nm.cur_ne h1 h.le
  have e : (T.drop bg).take (T.length - bg) = T.drop bg := List.take_of_length_le (by rw [List.length_drop]; omega)
  rw [h.eq, List.drop_length]
  simp only [if_true]
  rw [e] at hne ⊢
  rw [Nm.scan_nil, Nm.push_ne hne, Nm.fin_ne (by simp)]
theorem Nm.Sc.end0 {f : Nat} {T : Nm.T} {bg lt : Nat} {ws : List Nm.T} (h : Nm.Sc f T T.length bg false lt ws) : Nm.scan f (T.drop (Nm.title f).length) [] [] 0 = Nm.fin ws := by
  rw [h.eq, List.drop_length]
  rfl
theorem Nm.parse_bad {f : Nat} {T : Nm.T} (h1 : 1 ≤ f) (h4 : f ≤ 4) {r : Nm.T} (ht : T = Nm.title f ++ r) (hl : T.length ≤ 20000) {e : Int} {m : Nat} (he : e ≠ 0) (hs : Nm.scan f (T.drop (Nm.title f).length) [] [] 0 = ([], e, m)) : Nm.parse T = ⟨0, [], e, ((T.length - m : Nat) : Int)⟩ := by
  subst ht
  rw [List.drop_left'] at hs
  · rw [Nm.parse_title h1 h4 hl, hs, if_neg he]
  · rfl
theorem Nm.parse_good {f : Nat} {T : Nm.T} (h1 : 1 ≤ f) (h4 : f ≤ 4) {r : Nm.T} (ht : T = Nm.title f ++ r) (hl : T.length ≤ 20000) {ws : List Nm.T} (hs : Nm.scan f (T.drop (Nm.title f).length) [] [] 0 = (ws, 0, 0)) : Nm.parse T = ⟨f, ws, 0, 0⟩ := by
  subst ht
  rw [List.drop_left'] at hs
  · rw [Nm.parse_title h1 h4 hl, hs, if_pos rfl]
  · rfl
end Go.Proofs.YtcjlnmfbanknhaaDoor
