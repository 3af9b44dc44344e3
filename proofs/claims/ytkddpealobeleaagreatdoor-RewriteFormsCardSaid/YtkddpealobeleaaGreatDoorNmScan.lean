/- The mathematics of layer 9: the text of a name, read from left to right: its words, or its first error. Nothing of the program is imported. -/
import Derived.Test.YtkddpealobeleaaGreatDoorNmMath
set_option linter.unusedSimpArgs false
set_option linter.unusedVariables false
namespace Go.Proofs.YtkddpealobeleaaGreatDoor
/-- One word more. -/
def Nm.push (ws : List Nm.T) (cur : Nm.T) : List Nm.T := if cur.isEmpty then ws else ws ++ [cur]
def Nm.fin (ws : List Nm.T) : List Nm.T × Int × Nat := if ws.isEmpty then ([], 6, 0) else (ws, 0, 0)
def Nm.full (ws : List Nm.T) (k : Nat) : Bool := ws.length == 6 || k == 12
/-- The words, an error, and how many bytes are left where it is. -/
def Nm.scan (s : Nat) : Nm.T → List Nm.T → Nm.T → Nat → List Nm.T × Int × Nat
  | [], ws, cur, _ => Nm.fin (Nm.push ws cur)
  | [x], ws, cur, k => if x = 32 then Nm.fin (Nm.push ws cur)
      else if Nm.one s x then (if Nm.full ws k then ([], 2, 1) else Nm.fin (Nm.push ws (cur ++ [x]))) else ([], 3, 1)
  | x :: y :: u, ws, cur, k => if x = 32 then Nm.scan s (y :: u) (Nm.push ws cur) [] 0
      else if Nm.two s x y then (if Nm.full ws k then ([], 2, u.length + 2) else Nm.scan s u ws (cur ++ [x, y]) (k + 1))
      else if Nm.one s x then (if Nm.full ws k then ([], 2, u.length + 2) else Nm.scan s (y :: u) ws (cur ++ [x]) (k + 1))
      else ([], 3, u.length + 2)
theorem Nm.push_nil (ws : List Nm.T) : Nm.push ws [] = ws := rfl
theorem Nm.push_ne {ws : List Nm.T} {cur : Nm.T} (h : cur ≠ []) : Nm.push ws cur = ws ++ [cur] := by
  unfold Nm.push
  rw [if_neg (by simpa using h)]
theorem Nm.fin_ne {ws : List Nm.T} (h : ws ≠ []) : Nm.fin ws = (ws, 0, 0) := by
  unfold Nm.fin
  rw [if_neg (by simpa using h)]
theorem Nm.scan_nil (s : Nat) (ws cur k) : Nm.scan s [] ws cur k = Nm.fin (Nm.push ws cur) := rfl
theorem Nm.scan_blank (s : Nat) (t : Nm.T) (ws cur k) : Nm.scan s (32 :: t) ws cur k = Nm.scan s t (Nm.push ws cur) [] 0 := by
  match t with
  | [] => simp [Nm.scan, Nm.push_nil]
  | y :: u => simp [Nm.scan]
theorem Nm.scan_bad {s : Nat} {x : UInt8} {u : Nm.T} (ws cur k) (hx : x ≠ 32) (h : Nm.ln s (x :: u) = 0) : Nm.scan s (x :: u) ws cur k = ([], 3, u.length + 1) := by
  match u, h with
  | [], h =>
    simp only [Nm.ln] at h
    split at h
    · cases h
    · rename_i h1
      simp [Nm.scan, hx, h1]
  | y :: u, h =>
    simp only [Nm.ln] at h
    split at h
    · cases h
    · split at h
      · cases h
      · rename_i h1 h2
        simp [Nm.scan, hx, h1, h2]
theorem Nm.scan_full {s : Nat} {l : Nm.T} {ws : List Nm.T} (cur) {k : Nat} (h : Nm.ln s l ≠ 0) (hf : Nm.full ws k = true) : Nm.scan s l ws cur k = ([], 2, l.length) := by
  obtain ⟨x, u, rfl, hx, _⟩ := Nm.ln_head h
  match u, h with
  | [], h =>
    simp only [Nm.ln] at h
    split at h
    · rename_i h1
      simp [Nm.scan, hx, h1, hf]
    · exact absurd rfl h
  | y :: u, h =>
    simp only [Nm.ln] at h
    split at h
    · rename_i h1
      simp [Nm.scan, hx, h1, hf]
    · split at h
      · rename_i h1 h2
        simp [Nm.scan, hx, h1, h2, hf]
      · exact absurd rfl h
theorem Nm.scan_step {s : Nat} {l : Nm.T} {ws : List Nm.T} (cur) {k : Nat} (h : Nm.ln s l ≠ 0) (hf : Nm.full ws k = false) :
    Nm.scan s l ws cur k = Nm.scan s (l.drop (Nm.ln s l)) ws (cur ++ l.take (Nm.ln s l)) (k + 1) := by
  obtain ⟨x, u, rfl, hx, _⟩ := Nm.ln_head h
  match u, h with
  | [], h =>
    simp only [Nm.ln] at h ⊢
    split at h
    · rename_i h1
      simp [Nm.scan, hx, h1, hf]
    · exact absurd rfl h
  | y :: u, h =>
    simp only [Nm.ln] at h ⊢
    split at h
    · rename_i h1
      simp [Nm.scan, hx, h1, hf]
    · split at h
      · rename_i h1 h2
        simp [Nm.scan, hx, h1, h2, hf]
      · exact absurd rfl h
/-- Induction along a text. -/
theorem Nm.sind (s : Nat) {p : Nm.T → Prop} (h0 : p []) (h1 : ∀ t, p t → p (32 :: t)) (h2 : ∀ x u, x ≠ 32 → Nm.ln s (x :: u) = 0 → p (x :: u))
    (h3 : ∀ l, Nm.ln s l ≠ 0 → p (l.drop (Nm.ln s l)) → p l) : ∀ l, p l := by
  have key : ∀ n l, List.length l ≤ n → p l := by
    intro n
    induction n with
    | zero =>
      intro l hl
      have hl0 : l = [] := List.eq_nil_of_length_eq_zero (by omega)
      subst hl0
      exact h0
    | succ n ih =>
      intro l hl
      by_cases h : Nm.ln s l = 0
      · match l, hl, h with
        | [], _, _ => exact h0
        | x :: u, hl, h =>
          by_cases hx : x = 32
          · subst hx
            exact h1 u (ih u (by simpa using hl))
          · exact h2 x u hx h
      · have := Nm.ln_le s l
        exact h3 l h (ih _ (by rw [List.length_drop]; omega))
  exact fun l => key l.length l (Nat.le_refl _)
/-- Behind a word. -/
theorem Nm.scan_skip {s : Nat} {l : Nm.T} (ws) {cur : Nm.T} (k) (h : Nm.ln s l = 0) (hc : cur ≠ []) : Nm.scan s l ws cur k = Nm.scan s l (ws ++ [cur]) [] 0 := by
  match l, h with
  | [], _ => rw [Nm.scan_nil, Nm.scan_nil, Nm.push_ne hc, Nm.push_nil]
  | x :: u, h =>
    by_cases hx : x = 32
    · subst hx
      rw [Nm.scan_blank, Nm.scan_blank, Nm.push_ne hc, Nm.push_nil]
    · rw [Nm.scan_bad _ _ _ hx h, Nm.scan_bad _ _ _ hx h]
/-- Some letters of those that come. -/
theorem Nm.scan_pre (s : Nat) (ws : List Nm.T) : ∀ (pre : List Nm.T) (l cur : Nm.T) (k : Nat), pre <+: (Nm.rd s l).1 → pre.length + k ≤ 12 → (pre ≠ [] → ws.length ≠ 6) →
    Nm.scan s l ws cur k = Nm.scan s (l.drop pre.flatten.length) ws (cur ++ pre.flatten) (k + pre.length) ∧ Nm.rd s (l.drop pre.flatten.length) = ((Nm.rd s l).1.drop pre.length, (Nm.rd s l).2)
  | [], l, cur, k, _, _, _ => by simp
  | x :: pre, l, cur, k, hp, hk, hw => by
    by_cases h : Nm.ln s l = 0
    · rw [Nm.rd_stop h] at hp
      have := List.IsPrefix.length_le hp
      simp at this
    · have e := Nm.rd_step h
      rw [e] at hp ⊢
      obtain ⟨rfl, hp2⟩ := List.cons_prefix_cons.1 hp
      have hf : Nm.full ws k = false := by
        have h6 := hw (by simp)
        simp only [List.length_cons] at hk
        simp only [Nm.full, Bool.or_eq_false_iff, beq_eq_false_iff_ne]
        exact ⟨h6, by omega⟩
      have hl := Nm.ln_le s l
      have hn : (l.take (Nm.ln s l)).length = Nm.ln s l := by rw [List.length_take]; omega
      obtain ⟨i1, i2⟩ := Nm.scan_pre s ws pre (l.drop (Nm.ln s l)) (cur ++ l.take (Nm.ln s l)) (k + 1) hp2 (by simp only [List.length_cons] at hk; omega) (fun _ => hw (by simp))
      rw [List.drop_drop] at i1 i2
      rw [Nm.scan_step cur h hf, i1, List.flatten_cons, List.length_append, hn, i2]
      refine ⟨?_, ?_⟩
      · rw [List.append_assoc, List.length_cons, show k + 1 + pre.length = k + (pre.length + 1) from by omega]
      · simp
/-- All of them. -/
theorem Nm.scan_all {s : Nat} {l : Nm.T} {ws : List Nm.T} (h : (Nm.rd s l).1.length ≤ 12) (hw : ws.length ≠ 6) (h0 : (Nm.rd s l).1 ≠ []) :
    Nm.scan s l ws [] 0 = Nm.scan s (Nm.rd s l).2 (ws ++ [(Nm.rd s l).1.flatten]) [] 0 := by
  obtain ⟨e, e2⟩ := Nm.scan_pre s ws (Nm.rd s l).1 l [] 0 (List.prefix_refl _) (by omega) (fun _ => hw)
  have hj := Nm.rd_join s l
  have hd : l.drop (Nm.rd s l).1.flatten.length = (Nm.rd s l).2 := by
    generalize (Nm.rd s l).1.flatten = F at *
    generalize (Nm.rd s l).2 = R at *
    rw [← hj]
    simp
  have hne : (Nm.rd s l).1.flatten ≠ [] := by
    intro hc
    match hr : (Nm.rd s l).1, h0 with
    | x :: xs, _ =>
      have hx := Nm.rd_each s l x (by rw [hr]; simp)
      rw [hr] at hc
      have : x = [] := by
        rw [List.flatten_cons] at hc
        exact (List.append_eq_nil_iff.1 hc).1
      subst this
      simp [Nm.rd] at hx
  rw [e, hd, List.nil_append, Nm.scan_skip ws _ (Nm.rd_rest s l) hne]
/-- The first letter that is one too many. -/
theorem Nm.scan_over {s : Nat} {l : Nm.T} {ws : List Nm.T} {pre : List Nm.T} {x : Nm.T} (hp : pre ++ [x] <+: (Nm.rd s l).1) (hk : pre.length ≤ 12) (hw : pre ≠ [] → ws.length ≠ 6) (hf : Nm.full ws pre.length = true) :
    Nm.scan s l ws [] 0 = ([], 2, l.length - pre.flatten.length) := by
  obtain ⟨e, e2⟩ := Nm.scan_pre s ws pre l [] 0 ((List.prefix_append pre [x]).trans hp) (by omega) hw
  rw [e]
  have h0 : Nm.ln s (l.drop pre.flatten.length) ≠ 0 := by
    intro h
    rw [Nm.rd_stop h] at e2
    have h2 := congrArg (fun p => p.1.length) e2
    simp only [List.length_nil, List.length_drop] at h2
    have h3 := hp.length_le
    rw [List.length_append, List.length_singleton] at h3
    omega
  rw [Nm.scan_full _ h0 (by rw [Nat.zero_add]; exact hf), List.length_drop]
/-! ### valid names -/
def Nm.okN (s : Nat) (ws : List Nm.T) : Bool := ws.all (Nm.isW s) && (decide (1 ≤ ws.length) && decide (ws.length ≤ 6))
/-- The words, with a blank between two of them. -/
def Nm.join : List Nm.T → Nm.T
  | [] => []
  | [w] => w
  | w :: v :: t => w ++ 32 :: Nm.join (v :: t)
theorem Nm.scan_words (s : Nat) : ∀ (ws acc : List Nm.T), ws ≠ [] → (∀ w ∈ ws, Nm.isW s w = true) → acc.length + ws.length ≤ 6 → Nm.scan s (Nm.join ws) acc [] 0 = (acc ++ ws, 0, 0)
  | [], _, h, _, _ => absurd rfl h
  | [w], acc, _, hw, hl => by
    have h1 := hw w (by simp)
    obtain ⟨e, e1, e2⟩ := Nm.isW_iff.1 h1
    simp only [List.length_singleton] at hl
    show Nm.scan s w acc [] 0 = _
    rw [Nm.scan_all (by rw [e]; exact e2) (by omega) (by rw [e]; intro h0; simp only at h0; rw [h0] at e1; simp at e1), e, Nm.ls_sum h1, Nm.scan_nil, Nm.push_nil, Nm.fin_ne (by simp)]
  | w :: v :: t, acc, _, hw, hl => by
    have h1 := hw w (by simp)
    obtain ⟨e, e1, e2⟩ := Nm.isW_iff.1 h1
    simp only [List.length_cons] at hl
    have eb := Nm.rd_blank s (a := w) (by rw [e]) (Nm.join (v :: t))
    rw [e] at eb
    show Nm.scan s (w ++ 32 :: Nm.join (v :: t)) acc [] 0 = _
    rw [Nm.scan_all (by rw [eb]; exact e2) (by omega) (by rw [eb]; intro h0; simp only at h0; rw [h0] at e1; simp at e1), eb, Nm.ls_sum h1, Nm.scan_blank, Nm.push_nil,
      Nm.scan_words s (v :: t) (acc ++ [w]) (by simp) (fun x hx => hw x (List.mem_cons_of_mem _ hx)) (by simp; omega)]
    simp
/-- What is read is valid. -/
theorem Nm.scan_valid (s : Nat) : ∀ l ws cur k ks, (∀ w ∈ ws, Nm.isW s w = true) → ws.length ≤ 6 → Nm.rd s (cur ++ l) = (ks ++ (Nm.rd s l).1, (Nm.rd s l).2) → ks.flatten = cur → ks.length = k → k ≤ 12 →
    (k = 0 → cur = []) → (k ≠ 0 → ws.length ≤ 5) → (Nm.scan s l ws cur k).2.1 = 0 → Nm.okN s (Nm.scan s l ws cur k).1 = true := by
  have hpush : ∀ ws cur l ks k, (∀ w ∈ ws, Nm.isW s w = true) → ws.length ≤ 6 → Nm.ln s l = 0 → Nm.rd s (cur ++ l) = (ks ++ (Nm.rd s l).1, (Nm.rd s l).2) → ks.flatten = cur → ks.length = k → k ≤ 12 →
      (k = 0 → cur = []) → (k ≠ 0 → ws.length ≤ 5) → (∀ w ∈ Nm.push ws cur, Nm.isW s w = true) ∧ (Nm.push ws cur).length ≤ 6 := by
    intro ws cur l ks k hws hlen h0 hr hf hk h12 hz hn
    by_cases hc : cur = []
    · subst hc
      rw [Nm.push_nil]
      exact ⟨hws, hlen⟩
    · have hk0 : k ≠ 0 := fun e => hc (hz e)
      rw [Nm.push_ne hc]
      rw [Nm.rd_stop h0, List.append_nil] at hr
      have hcut := Nm.rd_cut s (cur ++ l)
      rw [hr] at hcut
      simp only at hcut
      rw [hf] at hcut
      have hw := Nm.isW_of hcut (by omega) (by omega)
      refine ⟨fun w hm => ?_, by simp; exact hn hk0⟩
      rcases List.mem_append.1 hm with hm | hm
      · exact hws w hm
      · rw [List.mem_singleton.1 hm]
        exact hw
  have hfin : ∀ ws : List Nm.T, (∀ w ∈ ws, Nm.isW s w = true) → ws.length ≤ 6 → (Nm.fin ws).2.1 = 0 → Nm.okN s (Nm.fin ws).1 = true := by
    intro ws hws hlen h
    by_cases hc : ws = []
    · subst hc
      cases h
    · rw [Nm.fin_ne hc]
      have := List.length_pos_iff.2 hc
      simp only [Nm.okN, Bool.and_eq_true, List.all_eq_true, decide_eq_true_eq]
      exact ⟨hws, by omega, hlen⟩
  refine Nm.sind s ?_ ?_ ?_ ?_
  · intro ws cur k ks hws hlen hr hf hk h12 hz hn he
    obtain ⟨p1, p2⟩ := hpush ws cur [] ks k hws hlen rfl hr hf hk h12 hz hn
    exact hfin _ p1 p2 he
  · intro t ih ws cur k ks hws hlen hr hf hk h12 hz hn he
    obtain ⟨p1, p2⟩ := hpush ws cur (32 :: t) ks k hws hlen (Nm.ln_blank s t) hr hf hk h12 hz hn
    rw [Nm.scan_blank] at he ⊢
    exact ih _ [] 0 [] p1 p2 rfl rfl rfl (by omega) (fun _ => rfl) (fun h => absurd rfl h) he
  · intro x u hx h0 ws cur k ks hws hlen hr hf hk h12 hz hn he
    rw [Nm.scan_bad _ _ _ hx h0] at he
    cases he
  · intro l h ih ws cur k ks hws hlen hr hf hk h12 hz hn he
    by_cases hfu : Nm.full ws k = true
    · rw [Nm.scan_full cur h hfu] at he
      cases he
    · have hfu : Nm.full ws k = false := by simpa using hfu
      rw [Nm.scan_step cur h hfu] at he ⊢
      simp only [Nm.full, Bool.or_eq_false_iff, beq_eq_false_iff_ne] at hfu
      refine ih ws _ (k + 1) (ks ++ [l.take (Nm.ln s l)]) hws hlen ?_ (by simp [hf]) (by simp [hk]) (by omega) (fun h => by omega) (fun _ => by omega) he
      rw [List.append_assoc, List.take_append_drop, hr, Nm.rd_step h]
      simp
/-- The lengths of words, with a blank each. -/
def Nm.jl : List Nm.T → Nat
  | [] => 0
  | w :: t => w.length + 1 + Nm.jl t
theorem Nm.jl_app : ∀ a b, Nm.jl (a ++ b) = Nm.jl a + Nm.jl b
  | [], b => by simp [Nm.jl]
  | w :: a, b => by rw [List.cons_append, Nm.jl, Nm.jl, Nm.jl_app a b]; omega
theorem Nm.join_len : ∀ ws, ws ≠ [] → (Nm.join ws).length + 1 = Nm.jl ws
  | [], h => absurd rfl h
  | [w], _ => by simp [Nm.join, Nm.jl]
  | w :: v :: t, _ => by
    have := Nm.join_len (v :: t) (by simp)
    rw [Nm.jl, Nm.join, List.length_append, List.length_cons]
    omega
theorem Nm.jl_push (ws : List Nm.T) (cur : Nm.T) : Nm.jl (Nm.push ws cur) ≤ Nm.jl ws + cur.length + 1 := by
  unfold Nm.push
  split
  · omega
  · rw [Nm.jl_app]
    simp [Nm.jl]
    omega
theorem Nm.scan_len (s : Nat) : ∀ l ws cur k, Nm.jl (Nm.scan s l ws cur k).1 ≤ Nm.jl ws + cur.length + l.length + 1 := by
  refine Nm.sind s ?_ ?_ ?_ ?_
  · intro ws cur k
    have := Nm.jl_push ws cur
    rw [Nm.scan_nil, Nm.fin]
    split
    · simp [Nm.jl]
    · simp only [List.length_nil]
      omega
  · intro t ih ws cur k
    have := Nm.jl_push ws cur
    have := ih (Nm.push ws cur) [] 0
    rw [Nm.scan_blank]
    simp only [List.length_cons, List.length_nil] at *
    omega
  · intro x u hx h0 ws cur k
    rw [Nm.scan_bad _ _ _ hx h0]
    simp [Nm.jl]
  · intro l h ih ws cur k
    by_cases hfu : Nm.full ws k = true
    · rw [Nm.scan_full cur h hfu]
      simp [Nm.jl]
    · have hfu : Nm.full ws k = false := by simpa using hfu
      rw [Nm.scan_step cur h hfu]
      have := ih ws (cur ++ l.take (Nm.ln s l)) (k + 1)
      have hl := Nm.ln_le s l
      rw [List.length_append, List.length_take, List.length_drop] at this
      omega
/-! ### further blanks -/
theorem Nm.ln_blank_app {s : Nat} {l : Nm.T} (t : Nm.T) (h : l ≠ []) : Nm.ln s (l ++ 32 :: t) = Nm.ln s l := by
  match l, h with
  | [x], _ => simp [Nm.ln, Nm.two_blank]
  | x :: y :: u, _ => simp [Nm.ln]
def Nm.edge : Nm.T → Bool
  | [] => true
  | x :: _ => x == 32
theorem Nm.ln_edge {s : Nat} {l m : Nm.T} (hm : Nm.edge m = true) (h : l ≠ []) : Nm.ln s (l ++ m) = Nm.ln s l := by
  match m, hm with
  | [], _ => simp
  | x :: t, hm =>
    have : x = 32 := by simpa [Nm.edge] using hm
    subst this
    exact Nm.ln_blank_app t h
theorem Nm.scan_more (s : Nat) {m m' : Nm.T} (hm : Nm.edge m = true) (hm' : Nm.edge m' = true) (he : ∀ ws cur k, Nm.scan s m ws cur k = Nm.scan s m' ws cur k) :
    ∀ l ws cur k, (Nm.scan s (l ++ m) ws cur k).1 = (Nm.scan s (l ++ m') ws cur k).1 ∧ (Nm.scan s (l ++ m) ws cur k).2.1 = (Nm.scan s (l ++ m') ws cur k).2.1 := by
  refine Nm.sind s ?_ ?_ ?_ ?_
  · intro ws cur k
    rw [List.nil_append, List.nil_append, he]
    exact ⟨rfl, rfl⟩
  · intro t ih ws cur k
    rw [List.cons_append, List.cons_append, Nm.scan_blank, Nm.scan_blank]
    exact ih _ _ _
  · intro x u hx h0 ws cur k
    have e1 := Nm.ln_edge (s := s) (l := x :: u) hm (by simp)
    have e2 := Nm.ln_edge (s := s) (l := x :: u) hm' (by simp)
    rw [h0, List.cons_append] at e1 e2
    rw [List.cons_append, List.cons_append, Nm.scan_bad _ _ _ hx e1, Nm.scan_bad _ _ _ hx e2]
    exact ⟨rfl, rfl⟩
  · intro l h ih ws cur k
    have hne : l ≠ [] := by
      intro e
      subst e
      exact h rfl
    have e1 := Nm.ln_edge (s := s) (l := l) hm hne
    have e2 := Nm.ln_edge (s := s) (l := l) hm' hne
    by_cases hfu : Nm.full ws k = true
    · rw [Nm.scan_full cur (by rw [e1]; exact h) hfu, Nm.scan_full cur (by rw [e2]; exact h) hfu]
      exact ⟨rfl, rfl⟩
    · have hfu : Nm.full ws k = false := by simpa using hfu
      have hl := Nm.ln_le s l
      rw [Nm.scan_step cur (by rw [e1]; exact h) hfu, Nm.scan_step cur (by rw [e2]; exact h) hfu, e1, e2, List.drop_append_of_le_length hl, List.drop_append_of_le_length hl, List.take_append_of_le_length hl, List.take_append_of_le_length hl]
      exact ih _ _ _
/-- A blank more where one stands, or at the end. -/
theorem Nm.scan_add (s : Nat) (l m : Nm.T) (hm : Nm.edge m = true) (ws cur k) : (Nm.scan s (l ++ m) ws cur k).1 = (Nm.scan s (l ++ 32 :: m) ws cur k).1 ∧ (Nm.scan s (l ++ m) ws cur k).2.1 = (Nm.scan s (l ++ 32 :: m) ws cur k).2.1 := by
  refine Nm.scan_more s hm rfl ?_ l ws cur k
  intro ws cur k
  match m, hm with
  | [], _ => rw [Nm.scan_blank, Nm.scan_nil, Nm.scan_nil, Nm.push_nil]
  | x :: t, hm =>
    have : x = 32 := by simpa [Nm.edge] using hm
    subst this
    rw [Nm.scan_blank, Nm.scan_blank, Nm.scan_blank, Nm.push_nil]
/-! ### before an error -/
theorem Nm.scan_err (s : Nat) : ∀ l ws cur k, (Nm.scan s l ws cur k).2.1 = 2 ∨ (Nm.scan s l ws cur k).2.1 = 3 →
    1 ≤ (Nm.scan s l ws cur k).2.2 ∧ (Nm.scan s l ws cur k).2.2 ≤ l.length ∧ ∃ ws' , Nm.scan s (l.take (l.length - (Nm.scan s l ws cur k).2.2)) ws cur k = Nm.fin ws' := by
  refine Nm.sind s ?_ ?_ ?_ ?_
  · intro ws cur k h
    rw [Nm.scan_nil, Nm.fin] at h
    split at h <;> simp at h
  · intro t ih ws cur k h
    rw [Nm.scan_blank] at h ⊢
    obtain ⟨a, b, ws', c⟩ := ih _ _ _ h
    refine ⟨a, by simp; omega, ws', ?_⟩
    rw [List.length_cons, show t.length + 1 - (Nm.scan s t (Nm.push ws cur) [] 0).2.2 = (t.length - (Nm.scan s t (Nm.push ws cur) [] 0).2.2) + 1 from by omega, List.take_succ_cons, Nm.scan_blank]
    exact c
  · intro x u hx h0 ws cur k _
    rw [Nm.scan_bad _ _ _ hx h0]
    refine ⟨by simp, by simp, Nm.push ws cur, ?_⟩
    simp [Nm.scan_nil]
  · intro l h ih ws cur k he
    by_cases hfu : Nm.full ws k = true
    · rw [Nm.scan_full cur h hfu]
      have hl := Nm.ln_le s l
      refine ⟨by simp only; omega, by simp, Nm.push ws cur, ?_⟩
      simp [Nm.scan_nil]
    · have hfu : Nm.full ws k = false := by simpa using hfu
      rw [Nm.scan_step cur h hfu] at he ⊢
      obtain ⟨a, b, ws', c⟩ := ih _ _ _ he
      generalize hr : (Nm.scan s (l.drop (Nm.ln s l)) ws (cur ++ l.take (Nm.ln s l)) (k + 1)).2.2 = r at *
      have hl := Nm.ln_le s l
      rw [List.length_drop] at b c
      refine ⟨a, by omega, ws', ?_⟩
      have e := Nm.ln_take (m := l.length - r) h (by omega)
      rw [Nm.scan_step cur (by rw [e]; exact h) hfu, e, List.take_take, Nat.min_eq_left (by omega), List.drop_take, show l.length - r - Nm.ln s l = l.length - Nm.ln s l - r from by omega]
      exact c
theorem Nm.scan_range (s : Nat) : ∀ l ws cur k, (Nm.scan s l ws cur k).2.1 = 0 ∨ ((Nm.scan s l ws cur k).2.1 = 6 ∧ (Nm.scan s l ws cur k).2.2 = 0) ∨ (Nm.scan s l ws cur k).2.1 = 2 ∨ (Nm.scan s l ws cur k).2.1 = 3 := by
  refine Nm.sind s ?_ ?_ ?_ ?_
  · intro ws cur k
    rw [Nm.scan_nil, Nm.fin]
    split <;> simp
  · intro t ih ws cur k
    rw [Nm.scan_blank]
    exact ih _ _ _
  · intro x u hx h0 ws cur k
    rw [Nm.scan_bad _ _ _ hx h0]
    simp
  · intro l h ih ws cur k
    by_cases hfu : Nm.full ws k = true
    · rw [Nm.scan_full cur h hfu]
      simp
    · have hfu : Nm.full ws k = false := by simpa using hfu
      rw [Nm.scan_step cur h hfu]
      exact ih _ _ _
theorem Nm.scan_left (s : Nat) : ∀ l ws cur k, (Nm.scan s l ws cur k).2.2 ≤ l.length := by
  refine Nm.sind s ?_ ?_ ?_ ?_
  · intro ws cur k
    rw [Nm.scan_nil, Nm.fin]
    split <;> simp
  · intro t ih ws cur k
    rw [Nm.scan_blank]
    have := ih (Nm.push ws cur) [] 0
    simp; omega
  · intro x u hx h0 ws cur k
    rw [Nm.scan_bad _ _ _ hx h0]
    simp
  · intro l h ih ws cur k
    by_cases hfu : Nm.full ws k = true
    · rw [Nm.scan_full cur h hfu]
      simp
    · have hfu : Nm.full ws k = false := by simpa using hfu
      rw [Nm.scan_step cur h hfu]
      have := ih ws (cur ++ l.take (Nm.ln s l)) (k + 1)
      rw [List.length_drop] at this
      omega
end Go.Proofs.YtkddpealobeleaaGreatDoor
