import Derived.Test.YtkddpealobeleaaGreatDoorNmScan
/- The mathematics of layer 10: rewritings of a list of letters. Nothing of the program is imported. -/
set_option linter.unusedSimpArgs false
set_option linter.unusedVariables false
namespace Go.Proofs.YtkddpealobeleaaGreatDoor
/-- A rule of the script at hand. -/
structure Rw.Ru where
  frm : List Nm.T
  to : Nm.T
  cost : Nat
def Rw.Good (R : List Rw.Ru) : Prop := ∀ r ∈ R, r.frm ≠ [] ∧ r.cost ≤ 1000 ∧ r.to.length ≤ 3
/-- A rewriting of letters, with its form and its cost. -/
inductive Rw.Wr (R : List Rw.Ru) : List Nm.T → Nm.T → Nat → Prop
  | nil : Rw.Wr R [] [] 0
  | cons {r : Rw.Ru} {l : List Nm.T} {f : Nm.T} {c : Nat} : r ∈ R → Rw.Wr R l f c → Rw.Wr R (r.frm ++ l) (r.to ++ f) (r.cost + c)
theorem Rw.Wr.app {R : List Rw.Ru} {a b : List Nm.T} {f g : Nm.T} {c d : Nat} (h : Rw.Wr R a f c) (k : Rw.Wr R b g d) : Rw.Wr R (a ++ b) (f ++ g) (c + d) := by
  induction h with
  | nil => simpa using k
  | cons hr _ ih =>
    have := Rw.Wr.cons hr ih
    rwa [← List.append_assoc, ← List.append_assoc, ← Nat.add_assoc] at this
theorem Rw.Wr.one {R : List Rw.Ru} {r : Rw.Ru} (hr : r ∈ R) : Rw.Wr R r.frm r.to r.cost := by
  have := Rw.Wr.cons hr Rw.Wr.nil
  simpa using this
theorem Rw.Wr.snoc {R : List Rw.Ru} {l : List Nm.T} {f : Nm.T} {c : Nat} {r : Rw.Ru} (h : Rw.Wr R l f c) (hr : r ∈ R) : Rw.Wr R (l ++ r.frm) (f ++ r.to) (c + r.cost) := h.app (Rw.Wr.one hr)
theorem Rw.Wr.first {R : List Rw.Ru} {m : List Nm.T} {f : Nm.T} {c : Nat} (h : Rw.Wr R m f c) : (m = [] ∧ f = [] ∧ c = 0) ∨ ∃ r l g d, r ∈ R ∧ m = r.frm ++ l ∧ f = r.to ++ g ∧ c = r.cost + d ∧ Rw.Wr R l g d := by
  cases h with
  | nil => exact .inl ⟨rfl, rfl, rfl⟩
  | cons hr h => exact .inr ⟨_, _, _, _, hr, rfl, rfl, rfl, h⟩
theorem Rw.Wr.last {R : List Rw.Ru} {m : List Nm.T} {f : Nm.T} {c : Nat} (h : Rw.Wr R m f c) : (m = [] ∧ f = [] ∧ c = 0) ∨ ∃ r l g d, r ∈ R ∧ m = l ++ r.frm ∧ f = g ++ r.to ∧ c = d + r.cost ∧ Rw.Wr R l g d := by
  induction h with
  | nil => exact .inl ⟨rfl, rfl, rfl⟩
  | @cons r l f c hr h ih =>
    refine .inr ?_
    rcases ih with ⟨rfl, rfl, rfl⟩ | ⟨r', l', g, d, hr', rfl, rfl, rfl, h'⟩
    · exact ⟨r, [], [], 0, hr, by simp, by simp, by omega, Rw.Wr.nil⟩
    · exact ⟨r', r.frm ++ l', r.to ++ g, r.cost + d, hr', by simp, by simp, by omega, Rw.Wr.cons hr h'⟩
theorem Rw.Wr.mono {R S : List Rw.Ru} (hs : ∀ r ∈ R, r ∈ S) {m : List Nm.T} {f : Nm.T} {c : Nat} (h : Rw.Wr R m f c) : Rw.Wr S m f c := by
  induction h with
  | nil => exact Rw.Wr.nil
  | cons hr _ ih => exact Rw.Wr.cons (hs _ hr) ih
theorem Rw.Wr.cost {R : List Rw.Ru} (hg : Rw.Good R) {m : List Nm.T} {f : Nm.T} {c : Nat} (h : Rw.Wr R m f c) : c ≤ 1000 * m.length ∧ f.length ≤ 3 * m.length := by
  induction h with
  | nil => simp
  | @cons r l f c hr _ ih =>
    obtain ⟨h1, h2, h3⟩ := hg r hr
    have := List.length_pos_iff.2 h1
    simp only [List.length_append]
    omega
/-! ### places -/
/-- What a rule does at a place: the next place, the cost, the text. -/
abbrev Rw.Sp := Nat × Nat × Nm.T
def Rw.fits (L : List Nm.T) (p : Nat) (r : Rw.Ru) : Bool := decide (p + r.frm.length ≤ L.length) && decide ((L.drop p).take r.frm.length = r.frm)
def Rw.steps (R : List Rw.Ru) (L : List Nm.T) (p : Nat) : List Rw.Sp := (R.filter (Rw.fits L p)).map fun r => (p + r.frm.length, r.cost, r.to)
theorem Rw.fits_iff {L : List Nm.T} {p : Nat} {r : Rw.Ru} (hp : p ≤ L.length) : Rw.fits L p r = true ↔ ∃ m, L.drop p = r.frm ++ m := by
  unfold Rw.fits
  rw [Bool.and_eq_true, decide_eq_true_eq, decide_eq_true_eq]
  constructor
  · rintro ⟨h1, h2⟩
    exact ⟨(L.drop p).drop r.frm.length, by conv => rhs; lhs; rw [← h2]
                                            rw [List.take_append_drop]⟩
  · rintro ⟨m, h⟩
    have hl := congrArg List.length h
    rw [List.length_drop, List.length_append] at hl
    exact ⟨by omega, by rw [h]; simp⟩
theorem Rw.mem_steps {R : List Rw.Ru} {L : List Nm.T} {p q c : Nat} {t : Nm.T} : (q, c, t) ∈ Rw.steps R L p ↔ ∃ r ∈ R, Rw.fits L p r = true ∧ q = p + r.frm.length ∧ c = r.cost ∧ t = r.to := by
  unfold Rw.steps
  rw [List.mem_map]
  constructor
  · rintro ⟨r, hr, he⟩
    obtain ⟨h1, h2⟩ := List.mem_filter.1 hr
    simp only [Prod.mk.injEq] at he
    exact ⟨r, h1, h2, he.1.symm, he.2.1.symm, he.2.2.symm⟩
  · rintro ⟨r, hr, hf, rfl, rfl, rfl⟩
    exact ⟨r, List.mem_filter.2 ⟨hr, hf⟩, rfl⟩
theorem Rw.step_bound {R : List Rw.Ru} (hg : Rw.Good R) {L : List Nm.T} {p q c : Nat} {t : Nm.T} (h : (q, c, t) ∈ Rw.steps R L p) : p < q ∧ q ≤ L.length ∧ c ≤ 1000 ∧ t.length ≤ 3 := by
  obtain ⟨r, hr, hf, rfl, rfl, rfl⟩ := Rw.mem_steps.1 h
  obtain ⟨h1, h2, h3⟩ := hg r hr
  have := List.length_pos_iff.2 h1
  unfold Rw.fits at hf
  rw [Bool.and_eq_true, decide_eq_true_eq] at hf
  exact ⟨by omega, hf.1, h2, h3⟩
/-- A rewriting of what comes behind a place begins with a step. -/
theorem Rw.drop_iff {R : List Rw.Ru} {L : List Nm.T} {p : Nat} (hp : p < L.length) {f : Nm.T} {c : Nat} : Rw.Wr R (L.drop p) f c ↔ ∃ q c1 t, (q, c1, t) ∈ Rw.steps R L p ∧ ∃ g d, f = t ++ g ∧ c = c1 + d ∧ Rw.Wr R (L.drop q) g d := by
  constructor
  · intro h
    rcases h.first with ⟨h0, _⟩ | ⟨r, l, g, d, hr, hm, rfl, rfl, h'⟩
    · have := List.drop_eq_nil_iff.1 h0
      omega
    · have hl : L.drop (p + r.frm.length) = l := by
        rw [← List.drop_drop, hm]
        simp
      exact ⟨p + r.frm.length, r.cost, r.to, Rw.mem_steps.2 ⟨r, hr, (Rw.fits_iff (by omega)).2 ⟨l, hm⟩, rfl, rfl, rfl⟩, g, d, rfl, rfl, by rw [hl]; exact h'⟩
  · rintro ⟨q, c1, t, hs, g, d, rfl, rfl, h⟩
    obtain ⟨r, hr, hf, rfl, rfl, rfl⟩ := Rw.mem_steps.1 hs
    obtain ⟨m, hm⟩ := (Rw.fits_iff (by omega)).1 hf
    have hl : L.drop (p + r.frm.length) = m := by
      rw [← List.drop_drop, hm]
      simp
    rw [hl] at h
    rw [hm]
    exact Rw.Wr.cons hr h
/-- A rewriting up to a place, and a step. -/
theorem Rw.take_step {R : List Rw.Ru} {L : List Nm.T} {p q c1 : Nat} {t g : Nm.T} {d : Nat} (hp : p ≤ L.length) (hs : (q, c1, t) ∈ Rw.steps R L p) (h : Rw.Wr R (L.take p) g d) : Rw.Wr R (L.take q) (g ++ t) (d + c1) := by
  obtain ⟨r, hr, hf, rfl, rfl, rfl⟩ := Rw.mem_steps.1 hs
  obtain ⟨m, hm⟩ := (Rw.fits_iff hp).1 hf
  have : L.take (p + r.frm.length) = L.take p ++ r.frm := by
    rw [List.take_add, hm]
    simp
  rw [this]
  exact h.snoc hr
theorem Rw.take_last {R : List Rw.Ru} {L : List Nm.T} {q : Nat} (hq : q ≤ L.length) (h0 : q ≠ 0) {f : Nm.T} {c : Nat} (h : Rw.Wr R (L.take q) f c) : ∃ p c1 t, (q, c1, t) ∈ Rw.steps R L p ∧ p ≤ q ∧ ∃ g d, f = g ++ t ∧ c = d + c1 ∧ Rw.Wr R (L.take p) g d := by
  rcases h.last with ⟨he, _⟩ | ⟨r, l, g, d, hr, hm, rfl, rfl, h'⟩
  · have := congrArg List.length he
    rw [List.length_take] at this
    simp only [List.length_nil] at this
    omega
  · have hl := congrArg List.length hm
    rw [List.length_take, List.length_append] at hl
    have hlp : L.take l.length = l := by
      have := congrArg (List.take l.length) hm
      rw [List.take_take, List.take_left'] at this
      · rw [show min l.length q = l.length from by omega] at this
        exact this
      · rfl
    have hd : L.drop l.length = r.frm ++ L.drop q := by
      have h1 : L = L.take q ++ L.drop q := (List.take_append_drop q L).symm
      rw [hm] at h1
      conv => lhs; rw [h1]
      simp
    exact ⟨l.length, r.cost, r.to, Rw.mem_steps.2 ⟨r, hr, (Rw.fits_iff (by omega)).2 ⟨_, hd⟩, by omega, rfl, rfl⟩, by omega, g, d, rfl, rfl, by rw [hlp]; exact h'⟩
/-! ### the least cost to the end -/
def Rw.IsRest (R : List Rw.Ru) (L : List Nm.T) (p x : Nat) : Prop := x ≤ 12001 ∧ (∀ f c, Rw.Wr R (L.drop p) f c → x ≤ c) ∧ (x < 12001 → ∃ f, Rw.Wr R (L.drop p) f x)
theorem Rw.rest_end (R : List Rw.Ru) (L : List Nm.T) : Rw.IsRest R L L.length 0 := ⟨by omega, fun _ _ _ => Nat.zero_le _, fun _ => ⟨[], by rw [List.drop_length]; exact Rw.Wr.nil⟩⟩
def Rw.minR (rs : Nat → Nat) (l : List Rw.Sp) : Nat := l.foldl (fun m s => min m (s.2.1 + rs s.1)) 12001
theorem Rw.minR_snoc (rs : Nat → Nat) (l : List Rw.Sp) (s : Rw.Sp) : Rw.minR rs (l ++ [s]) = min (Rw.minR rs l) (s.2.1 + rs s.1) := by simp [Rw.minR]
theorem Rw.minR_spec (rs : Nat → Nat) (l : List Rw.Sp) : Rw.minR rs l ≤ 12001 ∧ (∀ s ∈ l, Rw.minR rs l ≤ s.2.1 + rs s.1) ∧ (Rw.minR rs l < 12001 → ∃ s ∈ l, Rw.minR rs l = s.2.1 + rs s.1) := by
  have key : ∀ (r : List Rw.Sp), Rw.minR rs r.reverse ≤ 12001 ∧ (∀ s ∈ r.reverse, Rw.minR rs r.reverse ≤ s.2.1 + rs s.1) ∧ (Rw.minR rs r.reverse < 12001 → ∃ s ∈ r.reverse, Rw.minR rs r.reverse = s.2.1 + rs s.1) := by
    intro r
    induction r with
    | nil => simp [Rw.minR]
    | cons x r ih =>
      obtain ⟨h1, h2, h3⟩ := ih
      rw [List.reverse_cons, Rw.minR_snoc]
      refine ⟨by omega, fun s hs => ?_, fun h => ?_⟩
      · rcases List.mem_append.1 hs with hs | hs
        · have := h2 s hs
          omega
        · rw [List.mem_singleton.1 hs]
          omega
      · by_cases hle : Rw.minR rs r.reverse ≤ x.2.1 + rs x.1
        · rw [Nat.min_eq_left hle] at h ⊢
          obtain ⟨s, hs, he⟩ := h3 h
          exact ⟨s, List.mem_append_left _ hs, he⟩
        · exact ⟨x, by simp, by omega⟩
  have := key l.reverse
  rwa [List.reverse_reverse] at this
theorem Rw.rest_step {R : List Rw.Ru} (hg : Rw.Good R) {L : List Nm.T} (hL : L.length ≤ 12) {p : Nat} (hp : p < L.length) {rs : Nat → Nat} (hrs : ∀ q, p < q → q ≤ L.length → Rw.IsRest R L q (rs q)) : Rw.IsRest R L p (Rw.minR rs (Rw.steps R L p)) := by
  obtain ⟨h1, h2, h3⟩ := Rw.minR_spec rs (Rw.steps R L p)
  refine ⟨h1, fun f c h => ?_, fun hlt => ?_⟩
  · obtain ⟨q, c1, t, hs, g, d, rfl, rfl, h'⟩ := (Rw.drop_iff hp).1 h
    obtain ⟨b1, b2, _⟩ := Rw.step_bound hg hs
    have := (hrs q b1 b2).2.1 g d h'
    have := h2 _ hs
    simp only at this
    omega
  · obtain ⟨⟨q, c1, t⟩, hs, he⟩ := h3 hlt
    simp only at he
    obtain ⟨b1, b2, _⟩ := Rw.step_bound hg hs
    obtain ⟨g, hq⟩ := (hrs q b1 b2).2.2 (by omega)
    exact ⟨t ++ g, (Rw.drop_iff hp).2 ⟨q, c1, t, hs, g, rs q, rfl, he, hq⟩⟩
/-! ### the texts at a place, each with its least cost -/
abbrev Rw.Mp := List (Nm.T × Nat)
def Rw.IsMin (m : Rw.Mp) (O : Nm.T → Nat → Prop) : Prop := (m.map (·.1)).Nodup ∧ ∀ f c, (f, c) ∈ m ↔ (O f c ∧ ∀ c', O f c' → c ≤ c')
theorem Rw.IsMin.congr {m : Rw.Mp} {O P : Nm.T → Nat → Prop} (h : Rw.IsMin m O) (he : ∀ f c, O f c ↔ P f c) : Rw.IsMin m P := by
  have : O = P := funext fun f => funext fun c => propext (he f c)
  rwa [← this]
theorem Rw.IsMin.nil {O : Nm.T → Nat → Prop} (h : ∀ f c, ¬ O f c) : Rw.IsMin [] O := ⟨by simp, fun f c => ⟨fun h => by simp at h, fun h' => absurd h'.1 (h f c)⟩⟩
/-- The entry of a text. -/
def Rw.get (m : Rw.Mp) (f : Nm.T) : Option Nat := (m.find? fun x => x.1 == f).map (·.2)
def Rw.put : Rw.Mp → Nm.T → Nat → Rw.Mp
  | [], f, c => [(f, c)]
  | x :: m, f, c => if x.1 = f then (f, c) :: m else x :: Rw.put m f c
/-- A text with a cost is put in, unless it is there with a cost that is not greater. -/
def Rw.keep (m : Rw.Mp) (f : Nm.T) (c : Nat) : Rw.Mp := match Rw.get m f with
  | none => Rw.put m f c
  | some d => if c < d then Rw.put m f c else m
theorem Rw.get_some {m : Rw.Mp} (hn : (m.map (·.1)).Nodup) {f : Nm.T} {c : Nat} : Rw.get m f = some c ↔ (f, c) ∈ m := by
  induction m with
  | nil => simp [Rw.get]
  | cons x m ih =>
    rw [List.map_cons, List.nodup_cons] at hn
    obtain ⟨g, d⟩ := x
    unfold Rw.get
    by_cases h : g = f
    · subst h
      simp only [List.find?_cons, beq_self_eq_true, Option.map_some, List.mem_cons, Prod.mk.injEq, true_and, Option.some.injEq]
      constructor
      · intro h; exact .inl h.symm
      · rintro (h | h)
        · exact h.symm
        · exact absurd (List.mem_map.2 ⟨_, h, rfl⟩) hn.1
    · have hb : (g == f) = false := by simpa using h
      simp only [List.find?_cons, hb, List.mem_cons, Prod.mk.injEq]
      rw [show (Option.map (fun x => x.2) (List.find? (fun x => x.1 == f) m) = some c) ↔ (Rw.get m f = some c) from Iff.rfl, ih hn.2]
      constructor
      · exact .inr
      · rintro (h' | h')
        · exact absurd h'.1.symm h
        · exact h'
theorem Rw.get_none {m : Rw.Mp} {f : Nm.T} : Rw.get m f = none ↔ f ∉ m.map (·.1) := by
  unfold Rw.get
  rw [Option.map_eq_none_iff, List.find?_eq_none]
  simp only [List.mem_map, not_exists, not_and, beq_iff_eq]
theorem Rw.put_mem {m : Rw.Mp} (hn : (m.map (·.1)).Nodup) (f : Nm.T) (c : Nat) : ((Rw.put m f c).map (·.1)).Nodup ∧ (∀ g d, (g, d) ∈ Rw.put m f c ↔ (g = f ∧ d = c) ∨ (g ≠ f ∧ (g, d) ∈ m)) := by
  induction m with
  | nil => simp [Rw.put]
  | cons x m ih =>
    obtain ⟨k, e⟩ := x
    rw [List.map_cons, List.nodup_cons] at hn
    obtain ⟨i1, i2⟩ := ih hn.2
    unfold Rw.put
    by_cases h : k = f
    · subst h
      rw [if_pos rfl]
      refine ⟨by rw [List.map_cons, List.nodup_cons]; exact hn, fun g d => ?_⟩
      simp only [List.mem_cons, Prod.mk.injEq]
      constructor
      · rintro (h | h)
        · exact .inl h
        · exact .inr ⟨fun he => hn.1 (List.mem_map.2 ⟨_, h, he⟩), .inr h⟩
      · rintro (h | ⟨h1, h | h⟩)
        · exact .inl h
        · exact absurd h.1 h1
        · exact .inr h
    · rw [if_neg h]
      refine ⟨?_, fun g d => ?_⟩
      · rw [List.map_cons, List.nodup_cons]
        refine ⟨fun hm0 => ?_, i1⟩
        obtain ⟨⟨g, d⟩, hm1, he⟩ := List.mem_map.1 hm0
        have he1 : g = k := he
        rcases (i2 g d).1 hm1 with ⟨he2, _⟩ | ⟨_, hm'⟩
        · exact h (by rw [← he1, he2])
        · exact hn.1 (List.mem_map.2 ⟨_, hm', he1⟩)
      · simp only [List.mem_cons, Prod.mk.injEq, i2]
        constructor
        · rintro (⟨h1, h2⟩ | h' | h')
          · exact .inr ⟨by rw [h1]; exact h, .inl ⟨h1, h2⟩⟩
          · exact .inl h'
          · exact .inr ⟨h'.1, .inr h'.2⟩
        · rintro (h' | ⟨h1, h' | h'⟩)
          · exact .inr (.inl h')
          · exact .inl h'
          · exact .inr (.inr ⟨h1, h'⟩)
theorem Rw.put_new {m : Rw.Mp} {f : Nm.T} (h : f ∉ m.map (·.1)) (c : Nat) : Rw.put m f c = m ++ [(f, c)] := by
  induction m with
  | nil => rfl
  | cons x m ih =>
    rw [List.map_cons, List.mem_cons, not_or] at h
    unfold Rw.put
    rw [if_neg (fun e => h.1 e.symm), ih h.2]
    rfl
theorem Rw.keep_min {m : Rw.Mp} {O : Nm.T → Nat → Prop} (h : Rw.IsMin m O) (f : Nm.T) (c : Nat) : Rw.IsMin (Rw.keep m f c) (fun g d => O g d ∨ (g = f ∧ d = c)) := by
  obtain ⟨hn, hm⟩ := h
  have hput : (∀ d, (f, d) ∈ m → c < d) → Rw.IsMin (Rw.put m f c) (fun g d => O g d ∨ (g = f ∧ d = c)) := by
    intro hlt
    obtain ⟨p1, p2⟩ := Rw.put_mem hn f c
    refine ⟨p1, fun g d => ?_⟩
    rw [p2]
    by_cases hg : g = f
    · subst hg
      simp only [true_and, ne_eq, not_true_eq_false, false_and, or_false]
      constructor
      · rintro rfl
        refine ⟨.inr rfl, fun c' hc' => ?_⟩
        rcases hc' with hc' | rfl
        · exact Classical.byContradiction fun hn' => by
            have hex : ∃ k, O g k ∧ k < d := ⟨c', hc', by omega⟩
            obtain ⟨k, ⟨hk1, hk2⟩, hk3⟩ : ∃ k, (O g k ∧ k < d) ∧ ∀ j, O g j → k ≤ j := by
              have key : ∀ n, (∃ k, k ≤ n ∧ O g k ∧ k < d) → ∃ k, (O g k ∧ k < d) ∧ ∀ j, O g j → k ≤ j := by
                intro n
                induction n with
                | zero =>
                  rintro ⟨k, hk, h1, h2⟩
                  exact ⟨k, ⟨h1, h2⟩, fun j _ => by omega⟩
                | succ n ih =>
                  rintro ⟨k, hk, h1, h2⟩
                  by_cases hs : ∃ j, O g j ∧ j < k
                  · obtain ⟨j, hj, hlt'⟩ := hs
                    exact ih ⟨j, by omega, hj, by omega⟩
                  · exact ⟨k, ⟨h1, h2⟩, fun j hj => by
                      rcases Nat.lt_or_ge j k with h' | h'
                      · exact absurd ⟨j, hj, h'⟩ hs
                      · exact h'⟩
              obtain ⟨k, h1, h2⟩ := hex
              exact key k ⟨k, Nat.le_refl _, h1, h2⟩
            have := hlt k ((hm g k).2 ⟨hk1, hk3⟩)
            omega
        · exact Nat.le_refl _
      · rintro ⟨h1 | h1, h2⟩
        · refine Nat.le_antisymm (h2 c (.inr rfl)) ?_
          have h3 := (hm g d).2 ⟨h1, fun c' hc' => h2 c' (.inl hc')⟩
          have := hlt d h3
          have := h2 c (.inr rfl)
          omega
        · exact h1
    · simp only [hg, false_and, false_or, or_false, ne_eq, not_false_eq_true, true_and]
      exact hm g d
  unfold Rw.keep
  cases hget : Rw.get m f with
  | none =>
    exact hput fun d hd => absurd (List.mem_map.2 ⟨_, hd, rfl⟩) (Rw.get_none.1 hget)
  | some d =>
    have hd := (Rw.get_some hn).1 hget
    simp only
    by_cases hlt : c < d
    · rw [if_pos hlt]
      exact hput fun d' hd' => by
        have := (Rw.get_some hn).2 hd'
        rw [hget] at this
        cases this
        exact hlt
    · rw [if_neg hlt]
      refine ⟨hn, fun g e => ?_⟩
      rw [hm]
      constructor
      · rintro ⟨h1, h2⟩
        refine ⟨.inl h1, fun c' hc' => ?_⟩
        rcases hc' with hc' | ⟨rfl, rfl⟩
        · exact h2 c' hc'
        · have h3 := (hm g e).2 ⟨h1, h2⟩
          have := (Rw.get_some hn).2 h3
          rw [hget] at this
          cases this
          omega
      · rintro ⟨h1 | ⟨rfl, rfl⟩, h2⟩
        · exact ⟨h1, fun c' hc' => h2 c' (.inl hc')⟩
        · obtain ⟨o1, o2⟩ := (hm g d).1 hd
          have h3 := h2 d (.inl o1)
          have : e = d := by omega
          subst this
          exact ⟨o1, o2⟩
theorem Rw.keep_len (m : Rw.Mp) (f : Nm.T) (c : Nat) : (Rw.keep m f c).length ≤ m.length + 1 := by
  have hput : (Rw.put m f c).length ≤ m.length + 1 := by
    induction m with
    | nil => simp [Rw.put]
    | cons x m ih =>
      unfold Rw.put
      split <;> simp only [List.length_cons] <;> omega
  unfold Rw.keep
  split
  · exact hput
  · split
    · exact hput
    · omega
end Go.Proofs.YtkddpealobeleaaGreatDoor

/- Layer 10: how the forms of a word are found, and what they are. Nothing of the program is imported. -/
set_option linter.unusedSimpArgs false
set_option linter.unusedVariables false
namespace Go.Proofs.YtkddpealobeleaaGreatDoor
/-- The least cost of a form. -/
def Rw.Least (R : List Rw.Ru) (l : List Nm.T) (f : Nm.T) (c : Nat) : Prop := Rw.Wr R l f c ∧ ∀ c', Rw.Wr R l f c' → c ≤ c'
theorem Rw.least_ex {R : List Rw.Ru} {l : List Nm.T} {f : Nm.T} : ∀ {c : Nat}, Rw.Wr R l f c → ∃ d, d ≤ c ∧ Rw.Least R l f d := by
  have key : ∀ n c, c ≤ n → Rw.Wr R l f c → ∃ d, d ≤ c ∧ Rw.Least R l f d := by
    intro n
    induction n with
    | zero =>
      intro c hc h
      exact ⟨c, Nat.le_refl _, h, fun c' _ => by omega⟩
    | succ n ih =>
      intro c hc h
      by_cases hs : ∃ c', Rw.Wr R l f c' ∧ c' < c
      · obtain ⟨c', h', hlt⟩ := hs
        obtain ⟨d, hd, hl⟩ := ih c' (by omega) h'
        exact ⟨d, by omega, hl⟩
      · refine ⟨c, Nat.le_refl _, h, fun c' h' => ?_⟩
        rcases Nat.lt_or_ge c' c with hlt | hge
        · exact absurd ⟨c', h', hlt⟩ hs
        · exact hge
  exact fun {c} h => key c c (Nat.le_refl _) h
theorem Rw.Least.one {R : List Rw.Ru} {l : List Nm.T} {f : Nm.T} {c d : Nat} (h : Rw.Least R l f c) (k : Rw.Least R l f d) : c = d := Nat.le_antisymm (h.2 d k.1) (k.2 c h.1)
/-- What was offered to a place out of the places below i. -/
def Rw.Off (R : List Rw.Ru) (L : List Nm.T) (rs : Nat → Nat) (most : Int) (M : Nat → Rw.Mp) (i p : Nat) (f : Nm.T) (c : Nat) : Prop :=
  ∃ q, q < i ∧ ∃ g d, (g, d) ∈ M q ∧ ∃ c1 t, (p, c1, t) ∈ Rw.steps R L q ∧ f = g ++ t ∧ c = d + c1 ∧ ((c + rs p : Nat) : Int) ≤ most
/-- What is offered out of the place at hand by some entries and steps. -/
def Rw.Now (rs : Nat → Nat) (most : Int) (D : Nm.T → Nat → Rw.Sp → Prop) (p : Nat) (f : Nm.T) (c : Nat) : Prop :=
  ∃ g d c1 t, D g d (p, c1, t) ∧ f = g ++ t ∧ c = d + c1 ∧ ((c + rs p : Nat) : Int) ≤ most
structure Rw.Sea (R : List Rw.Ru) (L : List Nm.T) (rs : Nat → Nat) (most : Int) (M : Nat → Rw.Mp) (i : Nat) : Prop where
  zero : M 0 = [([], 0)]
  min : ∀ p, 1 ≤ p → p ≤ L.length → Rw.IsMin (M p) (Rw.Off R L rs most M i p)
structure Rw.In (R : List Rw.Ru) (L : List Nm.T) (rs : Nat → Nat) (most : Int) (M : Nat → Rw.Mp) (i : Nat) (D : Nm.T → Nat → Rw.Sp → Prop) : Prop where
  zero : M 0 = [([], 0)]
  min : ∀ p, 1 ≤ p → p ≤ L.length → Rw.IsMin (M p) (fun f c => Rw.Off R L rs most M i p f c ∨ Rw.Now rs most D p f c)
theorem Rw.Sea.start (R : List Rw.Ru) (L : List Nm.T) (rs : Nat → Nat) (most : Int) : Rw.Sea R L rs most (fun p => if p = 0 then [([], 0)] else []) 0 :=
  ⟨rfl, fun p h1 _ => by
    show Rw.IsMin (if p = 0 then [([], 0)] else []) _
    rw [if_neg (by omega)]
    exact Rw.IsMin.nil fun f c ⟨q, hq, _⟩ => by omega⟩
theorem Rw.In.congr {R : List Rw.Ru} {L : List Nm.T} {rs : Nat → Nat} {most : Int} {M : Nat → Rw.Mp} {i : Nat} {D E : Nm.T → Nat → Rw.Sp → Prop} (h : Rw.In R L rs most M i D) (he : ∀ g d s, D g d s ↔ E g d s) : Rw.In R L rs most M i E := by
  have : D = E := funext fun g => funext fun d => funext fun s => propext (he g d s)
  rwa [← this]
theorem Rw.Sea.enter {R : List Rw.Ru} {L : List Nm.T} {rs : Nat → Nat} {most : Int} {M : Nat → Rw.Mp} {i : Nat} (h : Rw.Sea R L rs most M i) : Rw.In R L rs most M i (fun _ _ _ => False) :=
  ⟨h.zero, fun p h1 h2 => (h.min p h1 h2).congr fun f c => ⟨.inl, fun h => h.elim id fun ⟨_, _, _, _, hf, _⟩ => hf.elim⟩⟩
theorem Rw.In.leave {R : List Rw.Ru} {L : List Nm.T} {rs : Nat → Nat} {most : Int} {M : Nat → Rw.Mp} {i : Nat} {D : Nm.T → Nat → Rw.Sp → Prop} (h : Rw.In R L rs most M i D) (hD : ∀ g d s, D g d s ↔ ((g, d) ∈ M i ∧ s ∈ Rw.steps R L i)) : Rw.Sea R L rs most M (i + 1) :=
  ⟨h.zero, fun p h1 h2 => (h.min p h1 h2).congr fun f c => by
    constructor
    · rintro (⟨q, hq, hr⟩ | ⟨g, d, c1, t, hd, hr⟩)
      · exact ⟨q, by omega, hr⟩
      · obtain ⟨h3, h4⟩ := (hD _ _ _).1 hd
        exact ⟨i, by omega, g, d, h3, c1, t, h4, hr⟩
    · rintro ⟨q, hq, g, d, h3, c1, t, h4, hr⟩
      rcases Nat.lt_or_ge q i with hlt | hge
      · exact .inl ⟨q, hlt, g, d, h3, c1, t, h4, hr⟩
      · obtain rfl : q = i := by omega
        exact .inr ⟨g, d, c1, t, (hD _ _ _).2 ⟨h3, h4⟩, hr⟩⟩
def Rw.upd (M : Nat → Rw.Mp) (q : Nat) (m : Rw.Mp) (p : Nat) : Rw.Mp := if p = q then m else M p
theorem Rw.off_upd {R : List Rw.Ru} {L : List Nm.T} {rs : Nat → Nat} {most : Int} {M : Nat → Rw.Mp} {i q : Nat} (hq : i < q) (m : Rw.Mp) (p : Nat) (f : Nm.T) (c : Nat) : Rw.Off R L rs most (Rw.upd M q m) i p f c ↔ Rw.Off R L rs most M i p f c := by
  unfold Rw.Off
  refine exists_congr fun k => and_congr_right fun hk => ?_
  rw [show Rw.upd M q m k = M k from if_neg (by omega)]
/-- A step that is offered. -/
theorem Rw.In.put {R : List Rw.Ru} {L : List Nm.T} {rs : Nat → Nat} {most : Int} {M : Nat → Rw.Mp} {i : Nat} {D : Nm.T → Nat → Rw.Sp → Prop} (h : Rw.In R L rs most M i D) {g : Nm.T} {d q c1 : Nat} {t : Nm.T} (hq : i < q)
    (hle : ((d + c1 + rs q : Nat) : Int) ≤ most) : Rw.In R L rs most (Rw.upd M q (Rw.keep (M q) (g ++ t) (d + c1))) i (fun g' d' s => D g' d' s ∨ (g' = g ∧ d' = d ∧ s = (q, c1, t))) := by
  refine ⟨?_, fun p h1 h2 => ?_⟩
  · rw [show Rw.upd M q (Rw.keep (M q) (g ++ t) (d + c1)) 0 = M 0 from if_neg (by omega)]
    exact h.zero
  · by_cases hp : p = q
    · subst hp
      rw [show Rw.upd M p (Rw.keep (M p) (g ++ t) (d + c1)) p = Rw.keep (M p) (g ++ t) (d + c1) from if_pos rfl]
      refine (Rw.keep_min (h.min p h1 h2) (g ++ t) (d + c1)).congr fun f c => ?_
      rw [Rw.off_upd hq]
      constructor
      · rintro ((h3 | ⟨g', d', c', t', h3, hr⟩) | ⟨rfl, rfl⟩)
        · exact .inl h3
        · exact .inr ⟨g', d', c', t', .inl h3, hr⟩
        · exact .inr ⟨g, d, c1, t, .inr ⟨rfl, rfl, rfl⟩, rfl, rfl, hle⟩
      · rintro (h3 | ⟨g', d', c', t', h3 | ⟨rfl, rfl, h3⟩, hr⟩)
        · exact .inl (.inl h3)
        · exact .inl (.inr ⟨g', d', c', t', h3, hr⟩)
        · simp only [Prod.mk.injEq, true_and] at h3
          obtain ⟨rfl, rfl⟩ := h3
          exact .inr ⟨hr.1, hr.2.1⟩
    · rw [show Rw.upd M q (Rw.keep (M q) (g ++ t) (d + c1)) p = M p from if_neg hp]
      refine (h.min p h1 h2).congr fun f c => ?_
      rw [Rw.off_upd hq]
      constructor
      · rintro (h3 | ⟨g', d', c', t', h3, hr⟩)
        · exact .inl h3
        · exact .inr ⟨g', d', c', t', .inl h3, hr⟩
      · rintro (h3 | ⟨g', d', c', t', h3 | ⟨_, _, h3⟩, hr⟩)
        · exact .inl h3
        · exact .inr ⟨g', d', c', t', h3, hr⟩
        · simp only [Prod.mk.injEq] at h3
          exact absurd h3.1 hp
/-- A step that costs too much. -/
theorem Rw.In.skip {R : List Rw.Ru} {L : List Nm.T} {rs : Nat → Nat} {most : Int} {M : Nat → Rw.Mp} {i : Nat} {D : Nm.T → Nat → Rw.Sp → Prop} (h : Rw.In R L rs most M i D) {g : Nm.T} {d q c1 : Nat} {t : Nm.T}
    (hle : ¬ ((d + c1 + rs q : Nat) : Int) ≤ most) : Rw.In R L rs most M i (fun g' d' s => D g' d' s ∨ (g' = g ∧ d' = d ∧ s = (q, c1, t))) :=
  ⟨h.zero, fun p h1 h2 => (h.min p h1 h2).congr fun f c => by
    constructor
    · rintro (h3 | ⟨g', d', c', t', h3, hr⟩)
      · exact .inl h3
      · exact .inr ⟨g', d', c', t', .inl h3, hr⟩
    · rintro (h3 | ⟨g', d', c', t', h3 | ⟨rfl, rfl, h3⟩, hr⟩)
      · exact .inl h3
      · exact .inr ⟨g', d', c', t', h3, hr⟩
      · simp only [Prod.mk.injEq] at h3
        obtain ⟨rfl, rfl, rfl⟩ := h3
        obtain ⟨_, rfl, h4⟩ := hr
        exact absurd h4 hle⟩
theorem Rw.rest_le {R : List Rw.Ru} {L : List Nm.T} {p q c1 x y : Nat} {t : Nm.T} (hp : p < L.length) (hs : (q, c1, t) ∈ Rw.steps R L p) (hx : Rw.IsRest R L p x) (hy : Rw.IsRest R L q y) : x ≤ c1 + y := by
  by_cases hlt : y < 12001
  · obtain ⟨f, hf⟩ := hy.2.2 hlt
    exact hx.2.1 _ _ ((Rw.drop_iff hp).2 ⟨q, c1, t, hs, f, y, rfl, rfl, hf⟩)
  · have := hx.1
    omega
/-- The texts at a place whose places before it are done. -/
theorem Rw.Sea.spec {R : List Rw.Ru} {L : List Nm.T} {rs : Nat → Nat} {most : Int} {M : Nat → Rw.Mp} {i : Nat} (hg : Rw.Good R) (hr : ∀ p, p ≤ L.length → Rw.IsRest R L p (rs p)) (h : Rw.Sea R L rs most M i) :
    ∀ p, p ≤ L.length → p ≤ i → ∀ f c, (f, c) ∈ M p ↔ (Rw.Least R (L.take p) f c ∧ (p = 0 ∨ ((c + rs p : Nat) : Int) ≤ most)) := by
  intro p
  induction p using Nat.strongRecOn with
  | _ p ih =>
    intro hpn hpi f c
    by_cases h0 : p = 0
    · subst h0
      rw [h.zero, List.mem_singleton, Prod.mk.injEq]
      constructor
      · rintro ⟨rfl, rfl⟩
        exact ⟨⟨by rw [List.take_zero]; exact Rw.Wr.nil, fun _ _ => Nat.zero_le _⟩, .inl rfl⟩
      · rintro ⟨⟨hw, _⟩, _⟩
        rw [List.take_zero] at hw
        rcases hw.first with ⟨_, rfl, rfl⟩ | ⟨r, l, g, d, hr', hm, _⟩
        · exact ⟨rfl, rfl⟩
        · have := (hg r hr').1
          simp_all
    · rw [(h.min p (by omega) hpn).2 f c]
      have hoff : ∀ c', Rw.Off R L rs most M i p f c' → Rw.Wr R (L.take p) f c' := by
        rintro c' ⟨q, hq, g, d, hm, c1, t, hs, rfl, rfl, _⟩
        obtain ⟨b1, b2, _⟩ := Rw.step_bound hg hs
        have := ((ih q b1 (by omega) (by omega) g d).1 hm).1.1
        exact Rw.take_step (by omega) hs this
      constructor
      · rintro ⟨ho, hmin⟩
        have hb : ((c + rs p : Nat) : Int) ≤ most := by
          obtain ⟨_, _, _, _, _, _, _, _, _, _, hb⟩ := ho
          exact hb
        refine ⟨⟨hoff c ho, fun c' hw => ?_⟩, .inr hb⟩
        refine Classical.byContradiction fun hn => ?_
        obtain ⟨q, c1, t, hs, _, g, d, rfl, rfl, hw'⟩ := Rw.take_last hpn h0 hw
        obtain ⟨b1, b2, _⟩ := Rw.step_bound hg hs
        obtain ⟨e, he, hl⟩ := Rw.least_ex hw'
        have htri := Rw.rest_le (by omega) hs (hr q (by omega)) (hr p hpn)
        have hin := (ih q b1 (by omega) (by omega) g e).2 ⟨hl, .inr (by omega)⟩
        have := hmin (e + c1) ⟨q, by omega, g, e, hin, c1, t, hs, rfl, rfl, by omega⟩
        omega
      · rintro ⟨⟨hw, hl⟩, hb⟩
        have hb' : ((c + rs p : Nat) : Int) ≤ most := hb.resolve_left h0
        obtain ⟨q, c1, t, hs, _, g, d, rfl, rfl, hw'⟩ := Rw.take_last hpn h0 hw
        obtain ⟨b1, b2, _⟩ := Rw.step_bound hg hs
        have htri := Rw.rest_le (by omega) hs (hr q (by omega)) (hr p hpn)
        have hld : Rw.Least R (L.take q) g d := ⟨hw', fun e hw2 => by
          have := hl (e + c1) (Rw.take_step (by omega) hs hw2)
          omega⟩
        have hin := (ih q b1 (by omega) (by omega) g d).2 ⟨hld, .inr (by omega)⟩
        exact ⟨⟨q, by omega, g, d, hin, c1, t, hs, rfl, rfl, hb'⟩, fun c' ho => hl c' (hoff c' ho)⟩
/-! ### forms -/
/-- More than 1000 forms. -/
def Rw.Many (R : List Rw.Ru) (l : List Nm.T) (most : Int) : Prop := ∃ fs : List Nm.T, fs.Nodup ∧ 1000 < fs.length ∧ ∀ f ∈ fs, ∃ c, Rw.Wr R l f c ∧ (c : Int) ≤ most
/-- Forms with their least costs, in order. -/
structure Rw.Are (R : List Rw.Ru) (l : List Nm.T) (most : Int) (fs : Rw.Mp) : Prop where
  inc : (fs.map (·.1)).Pairwise (· < ·)
  mem : ∀ f c, (f, c) ∈ fs ↔ (Rw.Least R l f c ∧ (c : Int) ≤ most)
theorem Rw.Sea.many {R : List Rw.Ru} {L : List Nm.T} {rs : Nat → Nat} {most : Int} {M : Nat → Rw.Mp} {i p : Nat} (hg : Rw.Good R) (hr : ∀ p, p ≤ L.length → Rw.IsRest R L p (rs p)) (h : Rw.Sea R L rs (Min.min most 12000) M i)
    (hp : p ≤ L.length) (hpi : p ≤ i) (h0 : p ≠ 0) (hl : 1000 < (M p).length) : Rw.Many R L most := by
  have hs := h.spec hg hr p hp hpi
  have hn := (h.min p (by omega) hp).1
  obtain ⟨⟨f0, c0⟩, hm0⟩ : ∃ x, x ∈ M p := ⟨(M p)[0], List.getElem_mem _⟩
  have hb0 := ((hs f0 c0).1 hm0).2.resolve_left h0
  obtain ⟨g, hgw⟩ := (hr p hp).2.2 (by omega)
  refine ⟨(M p).map fun x => x.1 ++ g, ?_, by rw [List.length_map]; exact hl, fun f hf => ?_⟩
  · unfold List.Nodup at hn ⊢
    rw [List.pairwise_map] at hn ⊢
    exact hn.imp fun {a b} hab he => hab (List.append_cancel_right he)
  · obtain ⟨⟨f', c'⟩, hm, rfl⟩ := List.mem_map.1 hf
    obtain ⟨⟨hw, _⟩, hb⟩ := (hs f' c').1 hm
    have := hb.resolve_left h0
    refine ⟨c' + rs p, ?_, by omega⟩
    have h2 := hw.app hgw
    rwa [List.take_append_drop] at h2
theorem Rw.Sea.forms {R : List Rw.Ru} {L : List Nm.T} {rs : Nat → Nat} {most : Int} {M : Nat → Rw.Mp} (hg : Rw.Good R) (hr : ∀ p, p ≤ L.length → Rw.IsRest R L p (rs p)) (h : Rw.Sea R L rs (Min.min most 12000) M L.length)
    (h0 : L ≠ []) (h12 : L.length ≤ 12) : ((M L.length).map (·.1)).Nodup ∧ ∀ f c, (f, c) ∈ M L.length ↔ (Rw.Least R L f c ∧ (c : Int) ≤ most) := by
  have hpos := List.length_pos_iff.2 h0
  have hs := h.spec hg hr L.length (Nat.le_refl _) (Nat.le_refl _)
  refine ⟨(h.min L.length hpos (Nat.le_refl _)).1, fun f c => ?_⟩
  rw [hs f c, List.take_length]
  have hz : rs L.length = 0 := by
    have := (hr L.length (Nat.le_refl _)).2.1 [] 0 (by rw [List.drop_length]; exact Rw.Wr.nil)
    omega
  rw [hz]
  refine and_congr_right fun hl => ?_
  have := (hl.1.cost hg).1
  constructor
  · rintro (h1 | h1) <;> omega
  · intro h1
    exact .inr (by omega)
theorem Rw.lt_irrefl (a : Nm.T) : ¬ a < a := List.lt_irrefl a
theorem Rw.lt_trans {a b c : Nm.T} (h : a < b) (k : b < c) : a < c := List.lt_trans h k
theorem Rw.Are.nodup {R : List Rw.Ru} {l : List Nm.T} {most : Int} {fs : Rw.Mp} (h : Rw.Are R l most fs) : (fs.map (·.1)).Nodup := by
  have := h.inc
  unfold List.Nodup
  exact this.imp fun {a b} hab (he : a = b) => Rw.lt_irrefl a (by rw [← he] at hab; exact hab)
/-- Lists in order with the same members are the same. -/
theorem Rw.inc_ext : ∀ (a b : Rw.Mp), (a.map (·.1)).Pairwise (· < ·) → (b.map (·.1)).Pairwise (· < ·) → (∀ x, x ∈ a ↔ x ∈ b) → a = b
  | [], [], _, _, _ => rfl
  | [], y :: b, _, _, h => absurd ((h y).2 (by simp)) (by simp)
  | x :: a, [], _, _, h => absurd ((h x).1 (by simp)) (by simp)
  | x :: a, y :: b, ha, hb, h => by
    rw [List.map_cons, List.pairwise_cons] at ha hb
    have hxy : x = y := by
      rcases List.mem_cons.1 ((h x).1 (by simp)) with e | hx
      · exact e
      · rcases List.mem_cons.1 ((h y).2 (by simp)) with e | hy
        · exact e.symm
        · have h1 := ha.1 y.1 (List.mem_map.2 ⟨_, hy, rfl⟩)
          have h2 := hb.1 x.1 (List.mem_map.2 ⟨_, hx, rfl⟩)
          exact absurd (Rw.lt_trans h1 h2) (Rw.lt_irrefl _)
    subst hxy
    rw [Rw.inc_ext a b ha.2 hb.2 fun z => ?_]
    have hz := h z
    have na : x ∉ a := fun hx => Rw.lt_irrefl _ (ha.1 x.1 (List.mem_map.2 ⟨_, hx, rfl⟩))
    have nb : x ∉ b := fun hx => Rw.lt_irrefl _ (hb.1 x.1 (List.mem_map.2 ⟨_, hx, rfl⟩))
    simp only [List.mem_cons] at hz
    constructor
    · intro h1
      rcases hz.1 (.inr h1) with e | h2
      · exact absurd (e ▸ h1) na
      · exact h2
    · intro h1
      rcases hz.2 (.inr h1) with e | h2
      · exact absurd (e ▸ h1) nb
      · exact h2
theorem Rw.Are.one {R : List Rw.Ru} {l : List Nm.T} {most : Int} {a b : Rw.Mp} (h : Rw.Are R l most a) (k : Rw.Are R l most b) : a = b := Rw.inc_ext a b h.inc k.inc fun ⟨f, c⟩ => by rw [h.mem, k.mem]
theorem Rw.sub_len {α : Type} [DecidableEq α] : ∀ (a b : List α), a.Nodup → (∀ x ∈ a, x ∈ b) → a.length ≤ b.length
  | [], b, _, _ => Nat.zero_le _
  | x :: a, b, hn, hs => by
    rw [List.nodup_cons] at hn
    have hx := hs x (by simp)
    have := Rw.sub_len a (b.erase x) hn.2 fun y hy => (List.mem_erase_of_ne (fun (e : y = x) => hn.1 (by rw [← e]; exact hy))).2 (hs y (by simp [hy]))
    have hl := List.length_erase_of_mem hx
    have := List.length_pos_of_mem hx
    simp only [List.length_cons]
    omega
/-- Not both. -/
theorem Rw.Many.not {R : List Rw.Ru} {l : List Nm.T} {most : Int} {a : Rw.Mp} (h : Rw.Many R l most) (k : Rw.Are R l most a) : 1000 < a.length := by
  obtain ⟨fs, h1, h2, h3⟩ := h
  have := Rw.sub_len fs (a.map (·.1)) h1 fun f hf => by
    obtain ⟨c, hw, hc⟩ := h3 f hf
    obtain ⟨d, hd, hl⟩ := Rw.least_ex hw
    exact List.mem_map.2 ⟨(f, d), (k.mem f d).2 ⟨hl, by omega⟩, rfl⟩
  rw [List.length_map] at this
  omega
theorem Rw.Many.more {R S : List Rw.Ru} {l : List Nm.T} {most more : Int} (h : Rw.Many R l most) (hs : ∀ r ∈ R, r ∈ S) (hm : most ≤ more) : Rw.Many S l more := by
  obtain ⟨fs, h1, h2, h3⟩ := h
  exact ⟨fs, h1, h2, fun f hf => by
    obtain ⟨c, hw, hc⟩ := h3 f hf
    exact ⟨c, hw.mono hs, by omega⟩⟩
end Go.Proofs.YtkddpealobeleaaGreatDoor

/- Layer 10: all rewritings of a few letters, written out. -/
set_option linter.unusedSimpArgs false
set_option linter.unusedVariables false
namespace Go.Proofs.YtkddpealobeleaaGreatDoor
def Rw.all (R : List Rw.Ru) : Nat → List Nm.T → Rw.Mp
  | 0, l => if l = [] then [([], 0)] else []
  | n + 1, l => if l = [] then [([], 0)] else R.flatMap fun r => if r.frm ≠ [] ∧ l.take r.frm.length = r.frm then (Rw.all R n (l.drop r.frm.length)).map fun x => (r.to ++ x.1, r.cost + x.2) else []
theorem Rw.all_iff {R : List Rw.Ru} (hg : Rw.Good R) : ∀ (n : Nat) (l : List Nm.T), l.length ≤ n → ∀ f c, ((f, c) ∈ Rw.all R n l ↔ Rw.Wr R l f c) := by
  have hnil : ∀ f c, ((f, c) ∈ ([([], 0)] : Rw.Mp) ↔ Rw.Wr R [] f c) := fun f c => by
    rw [List.mem_singleton, Prod.mk.injEq]
    constructor
    · rintro ⟨rfl, rfl⟩
      exact Rw.Wr.nil
    · intro h
      rcases h.first with ⟨_, rfl, rfl⟩ | ⟨r, l, g, d, hr, hm, _⟩
      · exact ⟨rfl, rfl⟩
      · have := (hg r hr).1
        simp_all
  intro n
  induction n with
  | zero =>
    intro l hl f c
    obtain rfl : l = [] := List.eq_nil_of_length_eq_zero (by omega)
    unfold Rw.all
    rw [if_pos rfl]
    exact hnil f c
  | succ n ih =>
    intro l hl f c
    unfold Rw.all
    by_cases h0 : l = []
    · subst h0
      rw [if_pos rfl]
      exact hnil f c
    · rw [if_neg h0, List.mem_flatMap]
      constructor
      · rintro ⟨r, hr, hm⟩
        by_cases hc : r.frm ≠ [] ∧ l.take r.frm.length = r.frm
        · rw [if_pos hc] at hm
          obtain ⟨⟨g, d⟩, hx, he⟩ := List.mem_map.1 hm
          simp only [Prod.mk.injEq] at he
          obtain ⟨rfl, rfl⟩ := he
          have hp := List.length_pos_iff.2 hc.1
          have h1 := (ih (l.drop r.frm.length) (by rw [List.length_drop]; omega) g d).1 hx
          have h2 := Rw.Wr.cons hr h1
          have h4 := List.take_append_drop r.frm.length l
          rw [hc.2] at h4
          rw [h4] at h2
          exact h2
        · rw [if_neg hc] at hm
          simp at hm
      · intro h
        rcases h.first with ⟨he, _⟩ | ⟨r, m, g, d, hr, rfl, rfl, rfl, h'⟩
        · exact absurd he h0
        · have hne := (hg r hr).1
          have hp := List.length_pos_iff.2 hne
          rw [List.length_append] at hl
          refine ⟨r, hr, ?_⟩
          rw [if_pos ⟨hne, by simp⟩]
          refine List.mem_map.2 ⟨(g, d), ?_, rfl⟩
          rw [List.drop_left]
          exact (ih m (by omega) g d).2 h'
def Rw.isAre (W fs : Rw.Mp) (most : Int) : Bool :=
  decide ((fs.map (·.1)).Pairwise (· < ·)) && (fs.all (fun x => decide (x ∈ W) && (W.all (fun y => decide (y.1 = x.1 → x.2 ≤ y.2)) && decide ((x.2 : Int) ≤ most))) &&
    W.all fun x => decide ((x.2 : Int) ≤ most → ∃ y ∈ fs, y.1 = x.1))
theorem Rw.are_of {R : List Rw.Ru} {l : List Nm.T} {most : Int} {W fs : Rw.Mp} (hW : ∀ f c, ((f, c) ∈ W ↔ Rw.Wr R l f c)) (h : Rw.isAre W fs most = true) : Rw.Are R l most fs := by
  unfold Rw.isAre at h
  simp only [Bool.and_eq_true, decide_eq_true_eq, List.all_eq_true] at h
  obtain ⟨h1, h2, h3⟩ := h
  refine ⟨h1, fun f c => ⟨fun hm => ?_, fun ⟨hl, hc⟩ => ?_⟩⟩
  · obtain ⟨a1, a2, a3⟩ := h2 _ hm
    exact ⟨⟨(hW f c).1 a1, fun c' hc' => a2 (f, c') ((hW f c').2 hc') rfl⟩, a3⟩
  · obtain ⟨⟨g, d⟩, hy, he⟩ := h3 (f, c) ((hW f c).2 hl.1) hc
    simp only at he
    subst he
    obtain ⟨a1, a2, _⟩ := h2 _ hy
    have b1 : d ≤ c := a2 (g, c) ((hW g c).2 hl.1) rfl
    have b2 : c ≤ d := hl.2 d ((hW g d).1 a1)
    obtain rfl : c = d := Nat.le_antisymm b2 b1
    exact hy
/-- The forms, if they are the ones written. -/
theorem Rw.Are.is {R : List Rw.Ru} {l : List Nm.T} {most : Int} {fs gs : Rw.Mp} (hg : Rw.Good R) (hl : l.length ≤ 12) (h : Rw.isAre (Rw.all R 12 l) gs most = true) (k : Rw.Are R l most fs) : fs = gs :=
  k.one (Rw.are_of (Rw.all_iff hg 12 l hl) h)
theorem Rw.Many.no {R : List Rw.Ru} {l : List Nm.T} {most : Int} {gs : Rw.Mp} (hg : Rw.Good R) (hl : l.length ≤ 12) (h : Rw.isAre (Rw.all R 12 l) gs most = true) (h2 : gs.length ≤ 1000) (k : Rw.Many R l most) : False := by
  have := k.not (Rw.are_of (Rw.all_iff hg 12 l hl) h)
  omega
/-! ### bounds, rules -/
theorem Rw.Least.congr {R S : List Rw.Ru} (h : ∀ r, r ∈ R ↔ r ∈ S) {l : List Nm.T} {f : Nm.T} {c : Nat} : Rw.Least R l f c ↔ Rw.Least S l f c :=
  ⟨fun k => ⟨k.1.mono fun r hr => (h r).1 hr, fun c' hc' => k.2 c' (hc'.mono fun r hr => (h r).2 hr)⟩, fun k => ⟨k.1.mono fun r hr => (h r).2 hr, fun c' hc' => k.2 c' (hc'.mono fun r hr => (h r).1 hr)⟩⟩
theorem Rw.Are.congr {R S : List Rw.Ru} (h : ∀ r, r ∈ R ↔ r ∈ S) {l : List Nm.T} {most : Int} {fs : Rw.Mp} (k : Rw.Are R l most fs) : Rw.Are S l most fs := ⟨k.inc, fun f c => by rw [k.mem, Rw.Least.congr h]⟩
theorem Rw.Many.congr {R S : List Rw.Ru} (h : ∀ r, r ∈ R ↔ r ∈ S) {l : List Nm.T} {most : Int} (k : Rw.Many R l most) : Rw.Many S l most := k.more (fun r hr => (h r).1 hr) (Int.le_refl _)
/-- The forms for a lesser bound. -/
theorem Rw.Are.cut {R : List Rw.Ru} {l : List Nm.T} {most more : Int} {fs : Rw.Mp} (k : Rw.Are R l more fs) (hm : most ≤ more) : Rw.Are R l most (fs.filter fun x => decide ((x.2 : Int) ≤ most)) :=
  ⟨(List.Pairwise.sublist (List.Sublist.map _ List.filter_sublist) k.inc), fun f c => by
    rw [List.mem_filter, k.mem]
    simp only [decide_eq_true_eq]
    constructor
    · rintro ⟨⟨h1, h2⟩, h3⟩
      exact ⟨h1, h3⟩
    · rintro ⟨h1, h3⟩
      exact ⟨⟨h1, by omega⟩, h3⟩⟩
theorem Rw.Are.neg {R : List Rw.Ru} {l : List Nm.T} {most : Int} {fs : Rw.Mp} (k : Rw.Are R l most fs) (hm : most < 0) : fs = [] := by
  match fs, k with
  | [], _ => rfl
  | (f, c) :: fs, k =>
    have := ((k.mem f c).1 (by simp)).2
    omega
theorem Rw.Many.neg {R : List Rw.Ru} {l : List Nm.T} {most : Int} (k : Rw.Many R l most) : 0 ≤ most := by
  obtain ⟨fs, _, h2, h3⟩ := k
  match fs with
  | [] => simp at h2
  | f :: fs =>
    obtain ⟨c, _, hc⟩ := h3 f (by simp)
    omega
/-- With more rules no form is lost. -/
theorem Rw.Are.lost {R S : List Rw.Ru} {l : List Nm.T} {most : Int} {fs gs : Rw.Mp} (h : ∀ r ∈ R, r ∈ S) (k : Rw.Are R l most fs) (k2 : Rw.Are S l most gs) {f : Nm.T} {c : Nat} (hm : (f, c) ∈ fs) : ∃ d, d ≤ c ∧ (f, d) ∈ gs := by
  obtain ⟨hl, hc⟩ := (k.mem f c).1 hm
  obtain ⟨d, hd, hl2⟩ := Rw.least_ex (hl.1.mono h)
  exact ⟨d, hd, (k2.mem f d).2 ⟨hl2, by omega⟩⟩
/-- A rewriting is among the forms. -/
theorem Rw.Are.has {R : List Rw.Ru} {l : List Nm.T} {most : Int} {fs : Rw.Mp} (k : Rw.Are R l most fs) {f : Nm.T} {c : Nat} (h : Rw.Wr R l f c) (hc : (c : Int) ≤ most) : ∃ d, d ≤ c ∧ (f, d) ∈ fs := by
  obtain ⟨d, hd, hl⟩ := Rw.least_ex h
  exact ⟨d, hd, (k.mem f d).2 ⟨hl, by omega⟩⟩
end Go.Proofs.YtkddpealobeleaaGreatDoor
