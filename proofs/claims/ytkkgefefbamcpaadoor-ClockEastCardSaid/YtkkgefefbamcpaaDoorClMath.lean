/- The mathematics of time zones: the spans of shifts, the offset at an instant, the first instant of a local time. Nothing of the program is imported. -/
import Derived.Below
set_option linter.unusedSimpArgs false
set_option linter.unusedVariables false
namespace Go.Proofs.YtkkgefefbamcpaaDoor.Cl
open Go

/-- A shift: its From and its Offset. A span: a shift with the instant behind its last one. -/
abbrev Sh := Int × Int
abbrev Sp := Int × Int × Int
def M1 : Int := 144001440

def sp : List Sh → List Sp
  | [] => []
  | [s] => [(s.1, s.2, M1)]
  | s :: t :: r => (s.1, s.2, t.1) :: sp (t :: r)

def okS (x : Sp) : Bool := decide (x.1 < x.2.2) && (decide (-840 ≤ x.2.1) && decide (x.2.1 ≤ 840))
def vz (zs : List Sh) : Bool := decide (1 ≤ zs.length) && (decide (zs.length ≤ 20) && (decide ((zs.getD 0 (1, 0)).1 = 0) && (sp zs).all okS))
def offW (o : Int) (l : List Sp) (t : Int) : Int := l.foldl (fun o x => if x.1 ≤ t then x.2.1 else o) o
def loc (zs : List Sh) (t : Int) : Int := t + offW 0 (sp zs) t
def inst : List Sp → Int → Option Int
  | [], _ => none
  | x :: r, l => if max x.1 (l - x.2.1) < x.2.2 then some (max x.1 (l - x.2.1)) else inst r l

theorem sp_length : ∀ zs : List Sh, (sp zs).length = zs.length
  | [] => rfl
  | [_] => rfl
  | _ :: t :: r => by simp only [sp, List.length_cons, sp_length (t :: r)]

/-- The span at a place. -/
theorem sp_get : ∀ (zs : List Sh) (k : Nat) (h : k < zs.length), (sp zs)[k]? = some ((zs[k]'h).1, (zs[k]'h).2, if h' : k + 1 < zs.length then (zs[k+1]'h').1 else M1)
  | [s], 0, _ => by simp [sp]
  | [s], k + 1, h => by simp at h
  | s :: t :: r, 0, _ => by simp [sp]
  | s :: t :: r, k + 1, h => by
    have := sp_get (t :: r) k (by simpa using h)
    simp only [sp, List.getElem?_cons_succ, this, List.getElem_cons_succ, List.length_cons, Option.some.injEq, Prod.mk.injEq, true_and]
    by_cases h1 : k + 1 < r.length + 1
    · rw [dif_pos h1, dif_pos (by omega)]
    · rw [dif_neg h1, dif_neg (by omega)]

/-- The spans follow each other. -/
def Ch : Int → List Sp → Prop
  | f, [] => f = M1
  | f, x :: r => x.1 = f ∧ f < x.2.2 ∧ Ch x.2.2 r

theorem ch_le : ∀ (l : List Sp) (f : Int), Ch f l → f ≤ M1
  | [], f, h => by have : f = M1 := h; omega
  | x :: r, f, h => by have := ch_le r x.2.2 h.2.2; have := h.2.1; omega

theorem ch_sp : ∀ (zs : List Sh) (s : Sh), ((sp (s :: zs)).all fun x => decide (x.1 < x.2.2)) = true → Ch s.1 (sp (s :: zs))
  | [], s, h => by
    simp only [sp, List.all_cons, List.all_nil, Bool.and_true, decide_eq_true_eq] at h
    exact ⟨rfl, h, rfl⟩
  | t :: r, s, h => by
    simp only [sp, List.all_cons, Bool.and_eq_true, decide_eq_true_eq] at h
    exact ⟨rfl, h.1, ch_sp r t h.2⟩

structure Good (zs : List Sh) : Prop where
  one : 1 ≤ zs.length
  few : zs.length ≤ 20
  ch : Ch 0 (sp zs)
  off : ∀ x ∈ sp zs, -840 ≤ x.2.1 ∧ x.2.1 ≤ 840
  all : ∀ x ∈ sp zs, okS x = true

theorem good_of (zs : List Sh) (h : vz zs = true) : Good zs := by
  unfold vz at h
  simp only [Bool.and_eq_true, decide_eq_true_eq] at h
  obtain ⟨h1, h2, h3, h4⟩ := h
  have hall := List.all_eq_true.1 h4
  cases zs with
  | nil => simp at h1
  | cons s r =>
    refine ⟨h1, h2, ?_, fun x hx => ?_, hall⟩
    · have h5 : s.1 = 0 := by simpa using h3
      have := ch_sp r s (List.all_eq_true.2 fun x hx => by
        have := hall x hx
        unfold okS at this
        simp only [Bool.and_eq_true] at this
        exact this.1)
      rwa [h5] at this
    · have := hall x hx
      unfold okS at this
      simp only [Bool.and_eq_true, decide_eq_true_eq] at this
      exact this.2

theorem ch_bounds : ∀ (l : List Sp) (f : Int), Ch f l → ∀ x ∈ l, f ≤ x.1 ∧ x.2.2 ≤ M1 ∧ x.1 < x.2.2
  | [], _, _, x, hx => by cases hx
  | y :: r, f, h, x, hx => by
    rcases List.mem_cons.1 hx with rfl | hx
    · have := ch_le r _ h.2.2
      have h1 := h.1
      have h2 := h.2.1
      omega
    · have := ch_bounds r _ h.2.2 x hx
      have h2 := h.2.1
      omega

theorem offW_lt : ∀ (l : List Sp) (f o t : Int), Ch f l → t < f → offW o l t = o
  | [], _, _, _, _, _ => rfl
  | x :: r, f, o, t, h, ht => by
    have h1 := h.1
    have h2 := h.2.1
    have : offW o (x :: r) t = offW o r t := by
      show offW (if x.1 ≤ t then x.2.1 else o) r t = _
      rw [if_neg (by omega)]
    rw [this]
    exact offW_lt r x.2.2 o t h.2.2 (by omega)

theorem offW_in (x : Sp) (r : List Sp) (f o t : Int) (h : Ch f (x :: r)) (h1 : f ≤ t) : offW o (x :: r) t = offW x.2.1 r t := by
  show offW (if x.1 ≤ t then x.2.1 else o) r t = _
  rw [if_pos (by have := h.1; omega)]

theorem offW_here (x : Sp) (r : List Sp) (f o t : Int) (h : Ch f (x :: r)) (h1 : f ≤ t) (h2 : t < x.2.2) : offW o (x :: r) t = x.2.1 := by
  rw [offW_in x r f o t h h1]
  exact offW_lt r x.2.2 _ t h.2.2 h2

theorem offW_bound : ∀ (l : List Sp) (o t : Int), (∀ x ∈ l, -840 ≤ x.2.1 ∧ x.2.1 ≤ 840) → -840 ≤ o → o ≤ 840 → -840 ≤ offW o l t ∧ offW o l t ≤ 840
  | [], o, _, _, h1, h2 => ⟨h1, h2⟩
  | x :: r, o, t, h, h1, h2 => by
    have hx := h x (List.mem_cons_self ..)
    have hr : ∀ y ∈ r, -840 ≤ y.2.1 ∧ y.2.1 ≤ 840 := fun y hy => h y (List.mem_cons_of_mem _ hy)
    show -840 ≤ offW (if x.1 ≤ t then x.2.1 else o) r t ∧ offW (if x.1 ≤ t then x.2.1 else o) r t ≤ 840
    split
    · exact offW_bound r _ t hr hx.1 hx.2
    · exact offW_bound r _ t hr h1 h2

theorem inst_spec : ∀ (l : List Sp) (f o q : Int), Ch f l →
    (∀ t, inst l q = some t → f ≤ t ∧ t < M1 ∧ q ≤ t + offW o l t ∧ ∀ u, f ≤ u → u < t → u + offW o l u < q) ∧
    (inst l q = none → ∀ u, f ≤ u → u < M1 → u + offW o l u < q)
  | [], f, o, q, h => by
    have h : f = M1 := h
    exact ⟨fun t ht => by simp [inst] at ht, fun _ u h1 h2 => by omega⟩
  | x :: r, f, o, q, h => by
    have hx := h.1
    have hlt := h.2.1
    have hle := ch_le r _ h.2.2
    obtain ⟨ih1, ih2⟩ := inst_spec r x.2.2 x.2.1 q h.2.2
    have hold : ¬ max x.1 (q - x.2.1) < x.2.2 → ∀ u, f ≤ u → u < x.2.2 → u + offW o (x :: r) u < q := fun hn u h1 h2 => by
      rw [offW_here x r f o u h h1 h2]
      omega
    unfold inst
    by_cases hm : max x.1 (q - x.2.1) < x.2.2
    · rw [if_pos hm]
      refine ⟨fun t ht => ?_, fun h0 => by cases h0⟩
      cases ht
      refine ⟨by omega, by omega, ?_, fun u h1 h2 => ?_⟩
      · rw [offW_here x r f o _ h (by omega) hm]
        omega
      · rw [offW_here x r f o u h h1 (by omega)]
        omega
    · rw [if_neg hm]
      refine ⟨fun t ht => ?_, fun h0 u h1 h2 => ?_⟩
      · obtain ⟨a1, a2, a3, a4⟩ := ih1 t ht
        refine ⟨by omega, a2, ?_, fun u h1 h2 => ?_⟩
        · rw [offW_in x r f o t h (by omega)]
          exact a3
        · by_cases hu : u < x.2.2
          · exact hold hm u h1 hu
          · rw [offW_in x r f o u h h1]
            exact a4 u (by omega) h2
      · by_cases hu : u < x.2.2
        · exact hold hm u h1 hu
        · rw [offW_in x r f o u h h1]
          exact ih2 h0 u (by omega) h2

/-- The first instant at which the local time is not earlier. -/
theorem inst_some {zs : List Sh} (g : Good zs) {q t : Int} (h : inst (sp zs) q = some t) : 0 ≤ t ∧ t < M1 ∧ q ≤ loc zs t ∧ ∀ u, 0 ≤ u → u < t → loc zs u < q := (inst_spec (sp zs) 0 0 q g.ch).1 t h
theorem inst_none {zs : List Sh} (g : Good zs) {q : Int} (h : inst (sp zs) q = none) : ∀ u, 0 ≤ u → u < M1 → loc zs u < q := (inst_spec (sp zs) 0 0 q g.ch).2 h
theorem inst_eq {zs : List Sh} (g : Good zs) {q t : Int} (h0 : 0 ≤ t) (h1 : t < M1) (h2 : q ≤ loc zs t) (h3 : ∀ u, 0 ≤ u → u < t → loc zs u < q) : inst (sp zs) q = some t := by
  cases h : inst (sp zs) q with
  | none => have := inst_none g h t h0 h1; omega
  | some s =>
    obtain ⟨a1, a2, a3, a4⟩ := inst_some g h
    congr 1
    by_cases hs : s < t
    · have := h3 s a1 hs; omega
    · by_cases ht : t < s
      · have := a4 t h0 ht; omega
      · omega
theorem loc_bound {zs : List Sh} (g : Good zs) (t : Int) : t - 840 ≤ loc zs t ∧ loc zs t ≤ t + 840 := by
  have := offW_bound (sp zs) 0 t g.off (by omega) (by omega)
  unfold loc
  omega

/-! ### the functions' answers -/
def isI (t : Int) : Bool := decide (0 ≤ t) && decide (t ≤ 144001439)
def locF (zs : List Sh) (t : Int) : Int × Int × Int := if vz zs && isI t then ((loc zs t + 1440) / 1440 - 1, (loc zs t + 1440) % 1440, 0) else (0, 0, 1)
def clamp (d : Int) : Int := max (-2) (min d 100002)
def want (d m : Int) : Int := clamp d * 1440 + m
def ofI : Option Int → Int × Int
  | some t => (t, 0)
  | none => (0, 10)
def instF (zs : List Sh) (d m : Int) : Int × Int := if vz zs && (decide (0 ≤ m) && decide (m < 1440)) then ofI (inst (sp zs) (want d m)) else (0, 1)

/-- The local time in minutes is that of its day and its minute. -/
theorem locF_ok {zs : List Sh} {t : Int} (h : vz zs = true) (h0 : 0 ≤ t) (h1 : t < M1) :
    (locF zs t).2.2 = 0 ∧ 0 ≤ (locF zs t).2.1 ∧ (locF zs t).2.1 < 1440 ∧ -1 ≤ (locF zs t).1 ∧ (locF zs t).1 ≤ 100001 ∧ 1440 * (locF zs t).1 + (locF zs t).2.1 = loc zs t := by
  have hb := loc_bound (good_of zs h) t
  unfold M1 at h1
  have hi : isI t = true := by unfold isI; simp only [Bool.and_eq_true, decide_eq_true_eq]; omega
  unfold locF
  rw [h, hi]
  simp only [Bool.and_self, if_true]
  refine ⟨trivial, ?_⟩
  omega

/-- A day and a minute are earlier than those that are asked for exactly if the minutes are fewer. -/
theorem earlier_iff {a b d m : Int} (hb0 : 0 ≤ b) (hb1 : b < 1440) (ha0 : -1 ≤ a) (ha1 : a ≤ 100001) (hm0 : 0 ≤ m) (hm1 : m < 1440) : (a < d ∨ a = d ∧ b < m) ↔ 1440 * a + b < want d m := by
  unfold want clamp
  omega
theorem instF_ok {zs : List Sh} {d m : Int} (h : vz zs = true) (h0 : 0 ≤ m) (h1 : m < 1440) : instF zs d m = ofI (inst (sp zs) (want d m)) := by
  unfold instF
  rw [h, decide_eq_true h0, decide_eq_true h1]
  rfl
theorem want_in {d m : Int} (h0 : -2 ≤ d) (h1 : d ≤ 100002) : want d m = d * 1440 + m := by
  unfold want clamp
  rw [Int.min_eq_left h1, Int.max_eq_right h0]
end Go.Proofs.YtkkgefefbamcpaaDoor.Cl
