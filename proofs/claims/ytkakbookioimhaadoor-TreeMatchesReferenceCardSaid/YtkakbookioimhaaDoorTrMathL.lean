/-
  Links (proofs of consistency) as plain functions on lists of strings of bytes; nothing of the program is imported here.
-/
import Derived.Test.YtkakbookioimhaaDoorTrMath
namespace Go.Proofs.YtkakbookioimhaaDoor.Tr

def link (l : List ByteArray) (m : Nat) (first : Bool) : List ByteArray :=
  if m = l.length then (if first then [] else [root l])
  else if _h : l.length ≤ 1 then []
  else if m ≤ half l.length then link (l.take (half l.length)) m first ++ [root (l.drop (half l.length))]
  else link (l.drop (half l.length)) (m - half l.length) false ++ [root (l.take (half l.length))]
termination_by l.length
decreasing_by
  · have := half_lt (n := l.length) (by omega); simp; omega
  · have := half_pos l.length; simp; omega

theorem link_all (l : List ByteArray) (first : Bool) : link l l.length first = if first then [] else [root l] := by rw [link, if_pos rfl]
theorem link_lo {l : List ByteArray} {m : Nat} (first : Bool) (h0 : m < l.length) (h : 2 ≤ l.length) (hm : m ≤ half l.length) : link l m first = link (l.take (half l.length)) m first ++ [root (l.drop (half l.length))] := by
  rw [link, if_neg (by omega), dif_neg (by omega), if_pos hm]
theorem link_hi {l : List ByteArray} {m : Nat} (first : Bool) (h0 : m < l.length) (h : 2 ≤ l.length) (hm : ¬ m ≤ half l.length) : link l m first = link (l.drop (half l.length)) (m - half l.length) false ++ [root (l.take (half l.length))] := by
  rw [link, if_neg (by omega), dif_neg (by omega), if_neg hm]

def long (n m : Nat) (first : Bool) : Nat :=
  if m = n then (if first then 0 else 1)
  else if _h : n ≤ 1 then 0
  else if m ≤ half n then long (half n) m first + 1
  else long (n - half n) (m - half n) false + 1
termination_by n
decreasing_by
  · exact half_lt (by omega)
  · have := half_pos n; omega
theorem long_all (n : Nat) (first : Bool) : long n n first = if first then 0 else 1 := by rw [long, if_pos rfl]
theorem long_lo {n m : Nat} (first : Bool) (h0 : m < n) (h : 2 ≤ n) (hm : m ≤ half n) : long n m first = long (half n) m first + 1 := by
  rw [long, if_neg (by omega), dif_neg (by omega), if_pos hm]
theorem long_hi {n m : Nat} (first : Bool) (h0 : m < n) (h : 2 ≤ n) (hm : ¬ m ≤ half n) : long n m first = long (n - half n) (m - half n) false + 1 := by
  rw [long, if_neg (by omega), dif_neg (by omega), if_neg hm]

/-- Both roots, the first digest of what is left first: the program's way. -/
def lr (n m : Nat) (old : ByteArray) (first : Bool) (s : St) : ByteArray × ByteArray × St :=
  if m = n then (if first then (old, old, s) else ((tk s).1, (tk s).1, (tk s).2))
  else if _h : n ≤ 1 then (old, old, s)
  else if m ≤ half n then
    ((lr (half n) m old first s).1, node (lr (half n) m old first s).2.1 (tk (lr (half n) m old first s).2.2).1, (tk (lr (half n) m old first s).2.2).2)
  else
    (node (tk (lr (n - half n) (m - half n) old false s).2.2).1 (lr (n - half n) (m - half n) old false s).1, node (tk (lr (n - half n) (m - half n) old false s).2.2).1 (lr (n - half n) (m - half n) old false s).2.1, (tk (lr (n - half n) (m - half n) old false s).2.2).2)
termination_by n
decreasing_by
  all_goals first | exact half_lt (by omega) | (have := half_pos n; omega)
theorem lr_all (n : Nat) (old : ByteArray) (first : Bool) (s : St) : lr n n old first s = if first then (old, old, s) else ((tk s).1, (tk s).1, (tk s).2) := by rw [lr, if_pos rfl]
theorem lr_lo {n m : Nat} (old : ByteArray) (first : Bool) (s : St) (h0 : m < n) (h : 2 ≤ n) (hm : m ≤ half n) : lr n m old first s =
    ((lr (half n) m old first s).1, node (lr (half n) m old first s).2.1 (tk (lr (half n) m old first s).2.2).1, (tk (lr (half n) m old first s).2.2).2) := by
  rw [lr, if_neg (by omega), dif_neg (by omega), if_pos hm]
theorem lr_hi {n m : Nat} (old : ByteArray) (first : Bool) (s : St) (h0 : m < n) (h : 2 ≤ n) (hm : ¬ m ≤ half n) : lr n m old first s =
    (node (tk (lr (n - half n) (m - half n) old false s).2.2).1 (lr (n - half n) (m - half n) old false s).1, node (tk (lr (n - half n) (m - half n) old false s).2.2).1 (lr (n - half n) (m - half n) old false s).2.1, (tk (lr (n - half n) (m - half n) old false s).2.2).2) := by
  rw [lr, if_neg (by omega), dif_neg (by omega), if_neg hm]

/-- Both roots from a link of the right length, the last element first. -/
def both (n m : Nat) (first : Bool) (old : ByteArray) (p : List ByteArray) : ByteArray × ByteArray :=
  if m = n then (if first then (old, old) else (p.headD ⟨#[]⟩, p.headD ⟨#[]⟩))
  else if _h : n ≤ 1 then (old, old)
  else if m ≤ half n then
    ((both (half n) m first old p.dropLast).1, node (both (half n) m first old p.dropLast).2 (p.getLastD ⟨#[]⟩))
  else
    (node (p.getLastD ⟨#[]⟩) (both (n - half n) (m - half n) false old p.dropLast).1, node (p.getLastD ⟨#[]⟩) (both (n - half n) (m - half n) false old p.dropLast).2)
termination_by n
decreasing_by
  all_goals first | exact half_lt (by omega) | (have := half_pos n; omega)
theorem both_all (n : Nat) (first : Bool) (old : ByteArray) (p : List ByteArray) : both n n first old p = if first then (old, old) else (p.headD ⟨#[]⟩, p.headD ⟨#[]⟩) := by rw [both, if_pos rfl]
theorem both_lo {n m : Nat} (first : Bool) (old : ByteArray) (p : List ByteArray) (h0 : m < n) (h : 2 ≤ n) (hm : m ≤ half n) : both n m first old p =
    ((both (half n) m first old p.dropLast).1, node (both (half n) m first old p.dropLast).2 (p.getLastD ⟨#[]⟩)) := by
  rw [both, if_neg (by omega), dif_neg (by omega), if_pos hm]
theorem both_hi {n m : Nat} (first : Bool) (old : ByteArray) (p : List ByteArray) (h0 : m < n) (h : 2 ≤ n) (hm : ¬ m ≤ half n) : both n m first old p =
    (node (p.getLastD ⟨#[]⟩) (both (n - half n) (m - half n) false old p.dropLast).1, node (p.getLastD ⟨#[]⟩) (both (n - half n) (m - half n) false old p.dropLast).2) := by
  rw [both, if_neg (by omega), dif_neg (by omega), if_neg hm]

theorem take_headD {α : Type} (l : List α) (d : α) (h : 0 < l.length) : (l.take 1).headD d = l[0] := by
  cases l with
  | nil => simp at h
  | cons x r => rfl

theorem lr_both : ∀ (N n m : Nat) (old : ByteArray) (first : Bool) (ds : List ByteArray) (b : Bool), n ≤ N → 0 < m → m ≤ n → long n m first ≤ ds.length →
    lr n m old first (ds, b) = ((both n m first old (ds.take (long n m first))).1, (both n m first old (ds.take (long n m first))).2, (ds.drop (long n m first), b))
  | 0, n, m, old, first, ds, b, hN, h0, hm, hl => by omega
  | N + 1, n, m, old, first, ds, b, hN, h0, hm, hl => by
    by_cases h1 : m = n
    · subst h1
      rw [long_all] at hl ⊢
      rw [lr_all, both_all]
      cases first with
      | true => rfl
      | false =>
        simp only [Bool.false_eq_true, if_false] at hl ⊢
        have := tk_some ds b 0 (by omega)
        rw [List.drop_zero] at this
        rw [this, take_headD _ _ (by omega)]
    · have l1 := half_lt (n := n) (by omega)
      have l2 := half_pos n
      by_cases hk : m ≤ half n
      · rw [long_lo first (by omega) (by omega) hk] at hl ⊢
        have ih := lr_both N (half n) m old first ds b (by omega) h0 hk (by omega)
        rw [lr_lo old first _ (by omega) (by omega) hk, both_lo first old _ (by omega) (by omega) hk, ih]
        dsimp only
        rw [tk_some ds b _ (by omega), take_dropLast _ _ (by omega), take_getLastD _ _ _ (by omega)]
      · rw [long_hi first (by omega) (by omega) hk] at hl ⊢
        have ih := lr_both N (n - half n) (m - half n) old false ds b (by omega) (by omega) (by omega) (by omega)
        rw [lr_hi old first _ (by omega) (by omega) hk, both_hi first old _ (by omega) (by omega) hk, ih]
        dsimp only
        rw [tk_some ds b _ (by omega), take_dropLast _ _ (by omega), take_getLastD _ _ _ (by omega)]

theorem lr_few : ∀ (N n m : Nat) (old : ByteArray) (first : Bool) (ds : List ByteArray) (b : Bool), n ≤ N → 0 < m → m ≤ n → ds.length < long n m first → (lr n m old first (ds, b)).2.2 = ([], true)
  | 0, n, m, old, first, ds, b, hN, h0, hm, hl => by omega
  | N + 1, n, m, old, first, ds, b, hN, h0, hm, hl => by
    by_cases h1 : m = n
    · subst h1
      rw [long_all] at hl
      rw [lr_all]
      cases first with
      | true => simp at hl
      | false =>
        obtain rfl : ds = [] := List.eq_nil_of_length_eq_zero (by simpa using hl)
        rfl
    · have l1 := half_lt (n := n) (by omega)
      have l2 := half_pos n
      by_cases hk : m ≤ half n
      · rw [long_lo first (by omega) (by omega) hk] at hl
        rw [lr_lo old first _ (by omega) (by omega) hk]
        show (tk (lr (half n) m old first (ds, b)).2.2).2 = _
        by_cases he : ds.length < long (half n) m first
        · rw [lr_few N (half n) m old first ds b (by omega) h0 hk he]
          rfl
        · rw [lr_both N (half n) m old first ds b (by omega) h0 hk (by omega)]
          show (tk (ds.drop (long (half n) m first), b)).2 = _
          rw [List.drop_eq_nil_of_le (by omega)]
          rfl
      · rw [long_hi first (by omega) (by omega) hk] at hl
        rw [lr_hi old first _ (by omega) (by omega) hk]
        show (tk (lr (n - half n) (m - half n) old false (ds, b)).2.2).2 = _
        by_cases he : ds.length < long (n - half n) (m - half n) false
        · rw [lr_few N (n - half n) (m - half n) old false ds b (by omega) (by omega) (by omega) he]
          rfl
        · rw [lr_both N (n - half n) (m - half n) old false ds b (by omega) (by omega) (by omega) (by omega)]
          show (tk (ds.drop (long (n - half n) (m - half n) false), b)).2 = _
          rw [List.drop_eq_nil_of_le (by omega)]
          rfl

/-- B4. -/
def extends' (old : ByteArray) (m : Int) (rt : ByteArray) (n : Int) (p : List ByteArray) : Bool :=
  decide (0 ≤ m ∧ m ≤ n ∧ n ≤ 1000000) && Dg.isDigest old.data.toList && Dg.isDigest rt.data.toList &&
    (if m = 0 then p.isEmpty && decide (old = empty) && (decide (0 < n) || decide (rt = old))
     else digs p && decide (p.length = long n.toNat m.toNat true) && decide ((both n.toNat m.toNat true old p).1 = old) && decide ((both n.toNat m.toNat true old p).2 = rt))

theorem extends_lr (old rt : ByteArray) (n m : Nat) (p : List ByteArray) (h0 : 0 < m) (hm : m ≤ n) :
    (decide ((lr n m old true (p, false)).1 = old) && (decide ((lr n m old true (p, false)).2.1 = rt) && used (lr n m old true (p, false)).2.2)) =
    (decide (p.length = long n m true) && (decide ((both n m true old p).1 = old) && decide ((both n m true old p).2 = rt))) := by
  by_cases h : p.length < long n m true
  · rw [lr_few n n m old true p false (Nat.le_refl _) h0 hm h]
    have : decide (p.length = long n m true) = false := by simp; omega
    rw [this]
    simp [used]
  · rw [lr_both n n m old true p false (Nat.le_refl _) h0 hm (by omega)]
    by_cases he : p.length = long n m true
    · rw [← he]
      simp [used]
    · have : (p.drop (long n m true)).isEmpty = false := by simp; omega
      simp [used, this, he]

theorem link_length : ∀ (N : Nat) (l : List ByteArray) (m : Nat) (first : Bool), l.length ≤ N → 0 < m → m ≤ l.length → (link l m first).length = long l.length m first
  | 0, l, m, first, hN, h0, hm => by omega
  | N + 1, l, m, first, hN, h0, hm => by
    by_cases h1 : m = l.length
    · rw [h1, link_all, long_all]
      cases first <;> rfl
    · have l1 := half_lt (n := l.length) (by omega)
      have l2 := half_pos l.length
      by_cases hk : m ≤ half l.length
      · rw [link_lo first (by omega) (by omega) hk, long_lo first (by omega) (by omega) hk, List.length_append, link_length N _ m first (by simp; omega) h0 (by simp; omega)]
        simp [Nat.min_eq_left (Nat.le_of_lt l1)]
      · rw [link_hi first (by omega) (by omega) hk, long_hi first (by omega) (by omega) hk, List.length_append, link_length N _ _ false (by simp; omega) (by omega) (by simp; omega)]
        simp

theorem half_mid {n m : Nat} (h0 : half n < m) (hm : m ≤ n) (h2 : 2 ≤ n) : half m = half n := by
  have hg := half_ge (n := n) h2
  unfold half at h0 hg ⊢
  exact half_eq h0 (by omega)

theorem root_mid {l : List ByteArray} {m : Nat} (h2 : 2 ≤ l.length) (h0 : half l.length < m) (hm : m ≤ l.length) : root (l.take m) = node (root (l.take (half l.length))) (root ((l.drop (half l.length)).take (m - half l.length))) := by
  have l2 := half_pos l.length
  have e : (l.take m).length = m := by simp; omega
  rw [root_two (l := l.take m) (by omega), e, half_mid h0 hm h2, List.take_take, List.drop_take, Nat.min_eq_left (by omega)]

theorem texts_mid {l : List ByteArray} {m : Nat} (h2 : 2 ≤ l.length) (h0 : half l.length < m) (hm : m ≤ l.length) : ∀ x ∈ texts ((l.drop (half l.length)).take (m - half l.length)), x ∈ texts (l.take m) := by
  have l2 := half_pos l.length
  have e : (l.take m).length = m := by simp; omega
  rw [texts_two (l := l.take m) (by omega), e, half_mid h0 hm h2, List.take_take, List.drop_take]
  intro x hx
  simp [hx]

theorem both_link : ∀ (N : Nat) (l : List ByteArray) (m : Nat) (first : Bool) (old : ByteArray), l.length ≤ N → 0 < m → m ≤ l.length → (first = true → old = root (l.take m)) →
    both l.length m first old (link l m first) = (root (l.take m), root l)
  | 0, l, m, first, old, hN, h0, hm, ho => by omega
  | N + 1, l, m, first, old, hN, h0, hm, ho => by
    by_cases h1 : m = l.length
    · subst h1
      rw [link_all, both_all]
      rw [List.take_length] at ho ⊢
      cases first with
      | true => rw [ho rfl]; rfl
      | false => rfl
    · have l1 := half_lt (n := l.length) (by omega)
      have l2 := half_pos l.length
      by_cases hk : m ≤ half l.length
      · have e : (l.take (half l.length)).length = half l.length := by simp; omega
        have e2 : (l.take (half l.length)).take m = l.take m := by rw [List.take_take, Nat.min_eq_left hk]
        have ih := both_link N (l.take (half l.length)) m first old (by omega) h0 (by omega) (by rw [e2]; exact ho)
        rw [e, e2] at ih
        rw [link_lo first (by omega) (by omega) hk, both_lo first old _ (by omega) (by omega) hk, List.dropLast_concat, ih, root_two (l := l) (by omega)]
        simp
      · have e : (l.drop (half l.length)).length = l.length - half l.length := by simp
        have ih := both_link N (l.drop (half l.length)) (m - half l.length) false old (by omega) (by omega) (by omega) (by intro h; cases h)
        rw [e] at ih
        rw [link_hi first (by omega) (by omega) hk, both_hi first old _ (by omega) (by omega) hk, List.dropLast_concat, ih, root_mid (by omega) (by omega) hm, root_two (l := l) (by omega)]
        simp

theorem digs_link : ∀ (N : Nat) (l : List ByteArray) (m : Nat) (first : Bool), l.length ≤ N → digs (link l m first) = true
  | N, l, m, first, hN => by
    by_cases h1 : m = l.length
    · rw [h1, link_all]
      cases first <;> simp [digs, isDigest_root]
    · by_cases h2 : l.length ≤ 1
      · rw [link, if_neg h1, dif_pos h2]; rfl
      · match N with
        | 0 => omega
        | N + 1 =>
          have l1 := half_lt (n := l.length) (by omega)
          have l2 := half_pos l.length
          by_cases hk : m ≤ half l.length
          · rw [link, if_neg h1, dif_neg h2, if_pos hk]
            have := digs_link N (l.take (half l.length)) m first (by simp; omega)
            unfold digs at this ⊢
            rw [List.all_append, this]
            simp [isDigest_root]
          · rw [link, if_neg h1, dif_neg h2, if_neg hk]
            have := digs_link N (l.drop (half l.length)) (m - half l.length) false (by simp; omega)
            unfold digs at this ⊢
            rw [List.all_append, this]
            simp [isDigest_root]

theorem long_le : ∀ (j n m : Nat) (first : Bool), n ≤ 2 ^ j → 0 < m → m ≤ n → long n m first ≤ j + 1
  | 0, n, m, first, h, h0, hm => by
    obtain rfl : m = n := by simp at h; omega
    rw [long_all]
    cases first <;> simp
  | j + 1, n, m, first, h, h0, hm => by
    by_cases h1 : m = n
    · subst h1
      rw [long_all]
      cases first <;> simp
    · have hp : half n ≤ 2 ^ j := by
        unfold half
        refine Nat.pow_le_pow_right (by omega) ?_
        have : (n - 1).log2 < j + 1 := (Nat.log2_lt (by omega)).2 (by omega)
        omega
      have hg := half_ge (n := n) (by omega)
      have l2 := half_pos n
      by_cases hk : m ≤ half n
      · rw [long_lo first (by omega) (by omega) hk]
        have := long_le j (half n) m first hp h0 hk
        omega
      · rw [long_hi first (by omega) (by omega) hk]
        have := long_le j (n - half n) (m - half n) false (by omega) (by omega) (by omega)
        omega
theorem long_bin (n m : Nat) (first : Bool) (h0 : 0 < m) (hm : m ≤ n) : long n m first ≤ bin n + 1 := by
  have h1 : 2 ^ n.log2 ≤ n := Nat.log2_self_le (by omega)
  have h2 : n < 2 ^ (n.log2 + 1) := ((Nat.log2_eq_iff (n := n) (k := n.log2) (by omega)).1 rfl).2
  have h3 := long_le (n.log2 + 1) n m first (by omega) h0 hm
  have h4 := bin_le n _ n (Nat.le_refl _) h1
  rw [bin_two_pow] at h4
  omega
theorem long_pos {n m : Nat} (first : Bool) (hm : m < n) (h0 : 0 < m) : 0 < long n m first := by
  by_cases hk : m ≤ half n
  · rw [long_lo first hm (by omega) hk]; omega
  · rw [long_hi first hm (by omega) hk]; omega
theorem long_lt : ∀ (N n m : Nat) (first : Bool), n ≤ N → 0 < m → m ≤ n → long n m first ≤ n
  | 0, n, m, first, hN, h0, hm => by omega
  | N + 1, n, m, first, hN, h0, hm => by
    by_cases h1 : m = n
    · subst h1
      rw [long_all]
      cases first <;> simp
      omega
    · have l1 := half_lt (n := n) (by omega)
      have l2 := half_pos n
      by_cases hk : m ≤ half n
      · rw [long_lo first (by omega) (by omega) hk]
        have := long_lt N (half n) m first (by omega) h0 hk
        omega
      · rw [long_hi first (by omega) (by omega) hk]
        have := long_lt N (n - half n) (m - half n) false (by omega) (by omega) (by omega)
        omega

def linkTexts (n m : Nat) (first : Bool) (old : ByteArray) (p : List ByteArray) : List ByteArray :=
  if m = n then []
  else if _h : n ≤ 1 then []
  else if m ≤ half n then linkTexts (half n) m first old p.dropLast ++ [jn [⟨#[110, 111, 100, 101]⟩, (both (half n) m first old p.dropLast).2, p.getLastD ⟨#[]⟩]]
  else linkTexts (n - half n) (m - half n) false old p.dropLast ++ [jn [⟨#[110, 111, 100, 101]⟩, p.getLastD ⟨#[]⟩, (both (n - half n) (m - half n) false old p.dropLast).1]] ++ [jn [⟨#[110, 111, 100, 101]⟩, p.getLastD ⟨#[]⟩, (both (n - half n) (m - half n) false old p.dropLast).2]]
termination_by n
decreasing_by
  · exact half_lt (by omega)
  · have := half_pos n; omega
theorem linkTexts_all (n : Nat) (first : Bool) (old : ByteArray) (p : List ByteArray) : linkTexts n n first old p = [] := by rw [linkTexts, if_pos rfl]
theorem linkTexts_lo {n m : Nat} (first : Bool) (old : ByteArray) (p : List ByteArray) (h0 : m < n) (h : 2 ≤ n) (hm : m ≤ half n) : linkTexts n m first old p = linkTexts (half n) m first old p.dropLast ++ [jn [⟨#[110, 111, 100, 101]⟩, (both (half n) m first old p.dropLast).2, p.getLastD ⟨#[]⟩]] := by
  rw [linkTexts, if_neg (by omega), dif_neg (by omega), if_pos hm]
theorem linkTexts_hi {n m : Nat} (first : Bool) (old : ByteArray) (p : List ByteArray) (h0 : m < n) (h : 2 ≤ n) (hm : ¬ m ≤ half n) : linkTexts n m first old p = linkTexts (n - half n) (m - half n) false old p.dropLast ++ [jn [⟨#[110, 111, 100, 101]⟩, p.getLastD ⟨#[]⟩, (both (n - half n) (m - half n) false old p.dropLast).1]] ++ [jn [⟨#[110, 111, 100, 101]⟩, p.getLastD ⟨#[]⟩, (both (n - half n) (m - half n) false old p.dropLast).2]] := by
  rw [linkTexts, if_neg (by omega), dif_neg (by omega), if_neg hm]

theorem link_binds : ∀ (N : Nat) (l : List ByteArray) (m : Nat) (first : Bool) (old : ByteArray) (p : List ByteArray), l.length ≤ N → 0 < m → m ≤ l.length → (both l.length m first old p).2 = root l →
    (both l.length m first old p).1 = root (l.take m) ∨ Shown (texts l ++ (texts (l.take m) ++ linkTexts l.length m first old p))
  | 0, l, m, first, old, p, hN, h0, hm, h => by omega
  | N + 1, l, m, first, old, p, hN, h0, hm, h => by
    by_cases h1 : m = l.length
    · subst h1
      rw [List.take_length]
      rw [both_all] at h ⊢
      left
      cases first <;> exact h
    · have l1 := half_lt (n := l.length) (by omega)
      have l2 := half_pos l.length
      rw [root_two (l := l) (by omega)] at h
      rw [texts_two (l := l) (by omega)]
      by_cases hk : m ≤ half l.length
      · rw [both_lo first old _ (by omega) (by omega) hk] at h ⊢
        rw [linkTexts_lo first old _ (by omega) (by omega) hk]
        rcases eq_or_shown h.symm (A := texts (l.take (half l.length)) ++ texts (l.drop (half l.length)) ++ [_]) (B := texts (l.take m) ++ (_ ++ [_])) (List.mem_append_right _ (List.mem_singleton.2 rfl)) (List.mem_append_right _ (List.mem_append_right _ (List.mem_singleton.2 rfl))) with e | e
        · simp only [List.cons.injEq, true_and, and_true] at e
          have e1 : (l.take (half l.length)).length = half l.length := by simp; omega
          have e2 : (l.take (half l.length)).take m = l.take m := by rw [List.take_take, Nat.min_eq_left hk]
          have ih := link_binds N (l.take (half l.length)) m first old p.dropLast (by omega) h0 (by omega) (by rw [e1]; exact e.1.symm)
          rw [e1, e2] at ih
          rcases ih with ih | ih
          · exact .inl ih
          · exact .inr (ih.mono (fun x hx => by simp at hx ⊢; rcases hx with hx | hx | hx <;> simp [hx]))
        · exact .inr e
      · rw [both_hi first old _ (by omega) (by omega) hk] at h ⊢
        rw [linkTexts_hi first old _ (by omega) (by omega) hk]
        rcases eq_or_shown h.symm (A := texts (l.take (half l.length)) ++ texts (l.drop (half l.length)) ++ [_]) (B := texts (l.take m) ++ (_ ++ [_])) (List.mem_append_right _ (List.mem_singleton.2 rfl)) (List.mem_append_right _ (List.mem_append_right _ (List.mem_singleton.2 rfl))) with e | e
        · simp only [List.cons.injEq, true_and, and_true] at e
          have e1 : (l.drop (half l.length)).length = l.length - half l.length := by simp
          have ih := link_binds N (l.drop (half l.length)) (m - half l.length) false old p.dropLast (by omega) (by omega) (by omega) (by rw [e1]; exact e.2.symm)
          rw [e1] at ih
          have hmid := texts_mid (l := l) (m := m) (by omega) (by omega) hm
          rcases ih with ih | ih
          · left
            rw [root_mid (by omega) (by omega) hm]
            show node _ _ = _
            rw [ih, ← e.1]
          · exact .inr (ih.mono (fun x hx => by
              simp at hx ⊢
              rcases hx with hx | hx | hx
              · simp [hx]
              · have := hmid x hx
                simp [this]
              · simp [hx]))
        · exact .inr e

/-- P2.6. -/
theorem continues (a l : List ByteArray) (p : List ByteArray) (hl : a.length ≤ l.length) (h0 : 0 < a.length) (h1 : (both l.length a.length true (root a) p).1 = root a) (h2 : (both l.length a.length true (root a) p).2 = root l) :
    a = l.take a.length ∨ Shown (texts a ++ texts l ++ texts (l.take a.length) ++ linkTexts l.length a.length true (root a) p) := by
  rcases link_binds _ l a.length true (root a) p (Nat.le_refl _) h0 hl h2 with h | h
  · rcases roots_bind _ a (l.take a.length) (Nat.le_refl _) (by simp; omega) (h1.symm.trans h) with e | e
    · exact .inl e
    · exact .inr (e.mono (fun x hx => by simp at hx ⊢; rcases hx with hx | hx <;> simp [hx]))
  · exact .inr (h.mono (fun x hx => by simp at hx ⊢; rcases hx with hx | hx | hx <;> simp [hx]))
end Go.Proofs.YtkakbookioimhaaDoor.Tr
