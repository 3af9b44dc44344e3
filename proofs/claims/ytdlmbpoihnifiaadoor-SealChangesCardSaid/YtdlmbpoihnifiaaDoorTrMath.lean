/-
  Merkle trees as plain functions on lists of strings of bytes; nothing of the program is imported here.
  Proved: paths and links prove what they should, their lengths, and that what they prove is so unless two different texts have one digest.
-/
import Derived.Test.YtdlmbpoihnifiaaDoorDgMath
import Derived.Test.YtdlmbpoihnifiaaDoorDgJoin
namespace Go.Proofs.YtdlmbpoihnifiaaDoor.Tr

def jn (ss : List ByteArray) : ByteArray := ⟨(joined ss).toArray⟩
def sm (s : ByteArray) : ByteArray := ⟨(Dg.sum s.data.toList).toArray⟩
def dg (ss : List ByteArray) : ByteArray := ⟨(Dg.sum (joined ss)).toArray⟩
theorem dg_eq (ss : List ByteArray) : dg ss = sm (jn ss) := rfl

theorem size_mk (l : List UInt8) : (⟨l.toArray⟩ : ByteArray).size = l.length := by simp [ByteArray.size]
theorem sm_size (s : ByteArray) : (sm s).size = 16 := by rw [sm, size_mk, Dg.sum_length]
theorem dg_size (ss : List ByteArray) : (dg ss).size = 16 := by rw [dg, size_mk, Dg.sum_length]

theorem jn_inj {ss tt : List ByteArray} (h : jn ss = jn tt) : ss = tt := by
  refine joined_inj ss tt ?_
  have := congrArg (fun b : ByteArray => b.data.toList) h
  simpa [jn] using this

def empty : ByteArray := dg [⟨#[101, 109, 112, 116, 121]⟩]
def leaf (x : ByteArray) : ByteArray := dg [⟨#[108, 101, 97, 102]⟩, x]
def node (x y : ByteArray) : ByteArray := dg [⟨#[110, 111, 100, 101]⟩, x, y]

/-- The greatest power of two that is less than n, for n of at least 2. -/
def half (n : Nat) : Nat := 2 ^ Nat.log2 (n - 1)
theorem half_pos (n : Nat) : 0 < half n := Nat.pow_pos (by omega)
theorem half_lt {n : Nat} (h : 2 ≤ n) : half n < n := by
  have := Nat.log2_self_le (n := n - 1) (by omega)
  unfold half
  omega
theorem half_ge {n : Nat} (h : 2 ≤ n) : n ≤ 2 * half n := by
  have h1 : (n - 1).log2 = (n - 1).log2 ↔ _ := Nat.log2_eq_iff (n := n - 1) (k := (n - 1).log2) (by omega)
  have h2 := (h1.1 rfl).2
  rw [Nat.pow_succ] at h2
  unfold half
  omega
theorem half_eq {n j : Nat} (h1 : 2 ^ j < n) (h2 : n ≤ 2 * 2 ^ j) : half n = 2 ^ j := by
  have hp : 0 < 2 ^ j := Nat.pow_pos (by omega)
  unfold half
  rw [(Nat.log2_eq_iff (n := n - 1) (k := j) (by omega)).2 ⟨by omega, by rw [Nat.pow_succ]; omega⟩]

/-- The root of a list. -/
def root (l : List ByteArray) : ByteArray :=
  if _h : l.length ≤ 1 then (match l with | [] => empty | x :: _ => leaf x)
  else node (root (l.take (half l.length))) (root (l.drop (half l.length)))
termination_by l.length
decreasing_by
  · have := half_lt (n := l.length) (by omega); simp; omega
  · have := half_pos l.length; simp; omega

theorem root_nil : root [] = empty := by rw [root]; rfl
theorem root_one (x : ByteArray) : root [x] = leaf x := by rw [root]; rfl
theorem root_two {l : List ByteArray} (h : 2 ≤ l.length) : root l = node (root (l.take (half l.length))) (root (l.drop (half l.length))) := by
  rw [root, dif_neg (by omega)]
theorem root_size (l : List ByteArray) : (root l).size = 16 := by
  rw [root]
  split
  · split <;> exact dg_size _
  · exact dg_size _

def path (l : List ByteArray) (i : Nat) : List ByteArray :=
  if _h : l.length ≤ 1 then []
  else if i < half l.length then path (l.take (half l.length)) i ++ [root (l.drop (half l.length))]
  else path (l.drop (half l.length)) (i - half l.length) ++ [root (l.take (half l.length))]
termination_by l.length
decreasing_by
  · have := half_lt (n := l.length) (by omega); simp; omega
  · have := half_pos l.length; simp; omega

theorem path_one {l : List ByteArray} (i : Nat) (h : l.length ≤ 1) : path l i = [] := by rw [path, dif_pos h]
theorem path_lo {l : List ByteArray} {i : Nat} (h : 2 ≤ l.length) (hi : i < half l.length) : path l i = path (l.take (half l.length)) i ++ [root (l.drop (half l.length))] := by
  rw [path, dif_neg (by omega), if_pos hi]
theorem path_hi {l : List ByteArray} {i : Nat} (h : 2 ≤ l.length) (hi : ¬ i < half l.length) : path l i = path (l.drop (half l.length)) (i - half l.length) ++ [root (l.take (half l.length))] := by
  rw [path, dif_neg (by omega), if_neg hi]

def len (n i : Nat) : Nat :=
  if _h : n ≤ 1 then 0
  else if i < half n then len (half n) i + 1
  else len (n - half n) (i - half n) + 1
termination_by n
decreasing_by
  · exact half_lt (by omega)
  · have := half_pos n; omega

theorem len_one {n : Nat} (i : Nat) (h : n ≤ 1) : len n i = 0 := by rw [len, dif_pos h]
theorem len_lo {n i : Nat} (h : 2 ≤ n) (hi : i < half n) : len n i = len (half n) i + 1 := by rw [len, dif_neg (by omega), if_pos hi]
theorem len_hi {n i : Nat} (h : 2 ≤ n) (hi : ¬ i < half n) : len n i = len (n - half n) (i - half n) + 1 := by rw [len, dif_neg (by omega), if_neg hi]

/-- What is left of a proof, and whether more was taken than there was. -/
abbrev St := List ByteArray × Bool
def tk : St → ByteArray × St
  | ([], _) => (⟨#[]⟩, ([], true))
  | (x :: r, b) => (x, (r, b))

def pr (n i : Nat) (d : ByteArray) (s : St) : ByteArray × St :=
  if _h : n ≤ 1 then (d, s)
  else if i < half n then
    (node (pr (half n) i d s).1 (tk (pr (half n) i d s).2).1, (tk (pr (half n) i d s).2).2)
  else
    (node (tk (pr (n - half n) (i - half n) d s).2).1 (pr (n - half n) (i - half n) d s).1, (tk (pr (n - half n) (i - half n) d s).2).2)
termination_by n
decreasing_by
  all_goals first | exact half_lt (by omega) | (have := half_pos n; omega)

theorem pr_one {n : Nat} (i : Nat) (d : ByteArray) (s : St) (h : n ≤ 1) : pr n i d s = (d, s) := by rw [pr, dif_pos h]
theorem pr_lo {n i : Nat} (d : ByteArray) (s : St) (h : 2 ≤ n) (hi : i < half n) : pr n i d s = (node (pr (half n) i d s).1 (tk (pr (half n) i d s).2).1, (tk (pr (half n) i d s).2).2) := by
  rw [pr, dif_neg (by omega), if_pos hi]
theorem pr_hi {n i : Nat} (d : ByteArray) (s : St) (h : 2 ≤ n) (hi : ¬ i < half n) : pr n i d s = (node (tk (pr (n - half n) (i - half n) d s).2).1 (pr (n - half n) (i - half n) d s).1, (tk (pr (n - half n) (i - half n) d s).2).2) := by
  rw [pr, dif_neg (by omega), if_neg hi]

/-- The root from a path of the right length, the last element first. -/
def up (n i : Nat) (d : ByteArray) (p : List ByteArray) : ByteArray :=
  if _h : n ≤ 1 then d
  else if i < half n then node (up (half n) i d p.dropLast) (p.getLastD ⟨#[]⟩)
  else node (p.getLastD ⟨#[]⟩) (up (n - half n) (i - half n) d p.dropLast)
termination_by n
decreasing_by
  · exact half_lt (by omega)
  · have := half_pos n; omega

theorem up_one {n : Nat} (i : Nat) (d : ByteArray) (p : List ByteArray) (h : n ≤ 1) : up n i d p = d := by rw [up, dif_pos h]
theorem up_lo {n i : Nat} (d : ByteArray) (p : List ByteArray) (h : 2 ≤ n) (hi : i < half n) : up n i d p = node (up (half n) i d p.dropLast) (p.getLastD ⟨#[]⟩) := by
  rw [up, dif_neg (by omega), if_pos hi]
theorem up_hi {n i : Nat} (d : ByteArray) (p : List ByteArray) (h : 2 ≤ n) (hi : ¬ i < half n) : up n i d p = node (p.getLastD ⟨#[]⟩) (up (n - half n) (i - half n) d p.dropLast) := by
  rw [up, dif_neg (by omega), if_neg hi]

theorem take_dropLast {α : Type} (l : List α) (k : Nat) (h : k < l.length) : (l.take (k + 1)).dropLast = l.take k := by
  rw [List.dropLast_eq_take, List.length_take, List.take_take]
  congr 1
  omega
theorem take_getLastD {α : Type} (l : List α) (k : Nat) (d : α) (h : k < l.length) : (l.take (k + 1)).getLastD d = l[k] := by
  rw [List.take_succ_eq_append_getElem h, List.getLastD_concat]

theorem tk_some (ds : List ByteArray) (b : Bool) (k : Nat) (h : k < ds.length) : tk (ds.drop k, b) = (ds[k], (ds.drop (k + 1), b)) := by
  rw [List.drop_eq_getElem_cons h]
  rfl
theorem tk_lack (s : St) (h : s.2 = true) : (tk s).2.2 = true := by
  obtain ⟨l, b⟩ := s
  cases l with
  | nil => rfl
  | cons x r => exact h
theorem pr_lack : ∀ (N n i : Nat) (d : ByteArray) (s : St), n ≤ N → s.2 = true → (pr n i d s).2.2 = true
  | 0, n, i, d, s, hN, h => by rw [pr_one i d s (by omega)]; exact h
  | N + 1, n, i, d, s, hN, h => by
    by_cases h1 : n ≤ 1
    · rw [pr_one i d s h1]; exact h
    · have l1 := half_lt (n := n) (by omega)
      have l2 := half_pos n
      by_cases hi : i < half n
      · rw [pr_lo d s (by omega) hi]
        exact tk_lack _ (pr_lack N _ _ d s (by omega) h)
      · rw [pr_hi d s (by omega) hi]
        exact tk_lack _ (pr_lack N _ _ d s (by omega) h)

/-- With enough digests, the computation from the front is the one from the back. -/
theorem pr_up : ∀ (N n i : Nat) (d : ByteArray) (ds : List ByteArray) (b : Bool), n ≤ N → len n i ≤ ds.length →
    pr n i d (ds, b) = (up n i d (ds.take (len n i)), (ds.drop (len n i), b))
  | 0, n, i, d, ds, b, hN, hl => by
    rw [pr_one i d _ (by omega), up_one i d _ (by omega), len_one i (by omega)]
    rfl
  | N + 1, n, i, d, ds, b, hN, hl => by
    by_cases h1 : n ≤ 1
    · rw [pr_one i d _ h1, up_one i d _ h1, len_one i h1]; rfl
    · have l1 := half_lt (n := n) (by omega)
      have l2 := half_pos n
      by_cases hi : i < half n
      · rw [len_lo (by omega) hi] at hl ⊢
        have ih := pr_up N (half n) i d ds b (by omega) (by omega)
        rw [pr_lo d _ (by omega) hi, up_lo d _ (by omega) hi, ih, tk_some ds b _ (by omega), take_dropLast _ _ (by omega), take_getLastD _ _ _ (by omega)]
      · rw [len_hi (by omega) hi] at hl ⊢
        have ih := pr_up N (n - half n) (i - half n) d ds b (by omega) (by omega)
        rw [pr_hi d _ (by omega) hi, up_hi d _ (by omega) hi, ih, tk_some ds b _ (by omega), take_dropLast _ _ (by omega), take_getLastD _ _ _ (by omega)]

theorem tk_nil (b : Bool) : (tk ([], b)).2 = ([], true) := rfl
/-- With too few digests, it ends lacking. -/
theorem pr_few : ∀ (N n i : Nat) (d : ByteArray) (ds : List ByteArray) (b : Bool), n ≤ N → ds.length < len n i → (pr n i d (ds, b)).2 = ([], true)
  | 0, n, i, d, ds, b, hN, hl => by rw [len_one i (by omega)] at hl; omega
  | N + 1, n, i, d, ds, b, hN, hl => by
    by_cases h1 : n ≤ 1
    · rw [len_one i h1] at hl; omega
    · have l1 := half_lt (n := n) (by omega)
      have l2 := half_pos n
      by_cases hi : i < half n
      · rw [len_lo (by omega) hi] at hl
        rw [pr_lo d _ (by omega) hi]
        by_cases he : ds.length < len (half n) i
        · show (tk (pr (half n) i d (ds, b)).2).2 = _
          rw [pr_few N (half n) i d ds b (by omega) he]
          rfl
        · show (tk (pr (half n) i d (ds, b)).2).2 = _
          rw [pr_up N (half n) i d ds b (by omega) (by omega)]
          show (tk (ds.drop (len (half n) i), b)).2 = _
          rw [List.drop_eq_nil_of_le (by omega)]
          rfl
      · rw [len_hi (by omega) hi] at hl
        rw [pr_hi d _ (by omega) hi]
        by_cases he : ds.length < len (n - half n) (i - half n)
        · show (tk (pr (n - half n) (i - half n) d (ds, b)).2).2 = _
          rw [pr_few N (n - half n) (i - half n) d ds b (by omega) he]
          rfl
        · show (tk (pr (n - half n) (i - half n) d (ds, b)).2).2 = _
          rw [pr_up N (n - half n) (i - half n) d ds b (by omega) (by omega)]
          show (tk (ds.drop (len (n - half n) (i - half n)), b)).2 = _
          rw [List.drop_eq_nil_of_le (by omega)]
          rfl

/-- Whether all of a proof is digests. -/
def digs (ds : List ByteArray) : Bool := ds.all fun s => Dg.isDigest s.data.toList
def used (s : St) : Bool := s.1.isEmpty && !s.2

/-- B2, by the program's way and by the reference's. -/
def check (rt : ByteArray) (n i : Int) (s : ByteArray) (p : List ByteArray) : Bool :=
  decide (0 ≤ i ∧ i < n ∧ n ≤ 1000000) && digs p && decide (p.length = len n.toNat i.toNat) && decide (up n.toNat i.toNat (leaf s) p = rt)

theorem check_pr (rt : ByteArray) (n i : Nat) (d : ByteArray) (p : List ByteArray) :
    (decide ((pr n i d (p, false)).1 = rt) && used (pr n i d (p, false)).2) = (decide (p.length = len n i) && decide (up n i d p = rt)) := by
  by_cases h : p.length < len n i
  · rw [pr_few n n i d p false (Nat.le_refl _) h]
    have : decide (p.length = len n i) = false := by simp; omega
    rw [this]
    simp [used]
  · rw [pr_up n n i d p false (Nat.le_refl _) (by omega)]
    by_cases he : p.length = len n i
    · rw [← he]
      simp [used]
    · have : (p.drop (len n i)).isEmpty = false := by simp; omega
      simp [used, this, he]

theorem len_lt : ∀ (N n i : Nat), n ≤ N → 1 ≤ n → len n i < n
  | 0, n, i, hN, h => by omega
  | N + 1, n, i, hN, h => by
    by_cases h1 : n ≤ 1
    · rw [len_one i h1]; omega
    · have l1 := half_lt (n := n) (by omega)
      have l2 := half_pos n
      by_cases hi : i < half n
      · rw [len_lo (by omega) hi]
        have := len_lt N (half n) i (by omega) l2
        omega
      · rw [len_hi (by omega) hi]
        have := len_lt N (n - half n) (i - half n) (by omega) (by omega)
        omega

theorem path_length : ∀ (N : Nat) (l : List ByteArray) (i : Nat), l.length ≤ N → i < l.length → (path l i).length = len l.length i
  | 0, l, i, hN, hi => by omega
  | N + 1, l, i, hN, hi => by
    by_cases h1 : l.length ≤ 1
    · rw [path_one i h1, len_one i h1]; rfl
    · have l1 := half_lt (n := l.length) (by omega)
      have l2 := half_pos l.length
      by_cases hk : i < half l.length
      · rw [path_lo (by omega) hk, len_lo (by omega) hk, List.length_append, path_length N _ i (by simp; omega) (by simp; omega)]
        simp [Nat.min_eq_left (Nat.le_of_lt l1)]
      · rw [path_hi (by omega) hk, len_hi (by omega) hk, List.length_append, path_length N _ _ (by simp; omega) (by simp; omega)]
        simp

theorem up_path : ∀ (N : Nat) (l : List ByteArray) (i : Nat), l.length ≤ N → (hi : i < l.length) → up l.length i (leaf l[i]) (path l i) = root l
  | 0, l, i, hN, hi => by omega
  | N + 1, l, i, hN, hi => by
    by_cases h1 : l.length ≤ 1
    · match l, h1, hi with
      | [x], _, hi =>
        obtain rfl : i = 0 := by simpa using hi
        rw [root_one, up_one _ _ _ (by simp)]
        rfl
    · have l1 := half_lt (n := l.length) (by omega)
      have l2 := half_pos l.length
      by_cases hk : i < half l.length
      · have ih := up_path N (l.take (half l.length)) i (by simp; omega) (by simp; omega)
        have e : (l.take (half l.length)).length = half l.length := by simp; omega
        simp only [List.getElem_take, e] at ih
        rw [path_lo (by omega) hk, up_lo _ _ (by omega) hk, root_two (l := l) (by omega), List.dropLast_concat]
        rw [ih]
        simp
      · have ih := up_path N (l.drop (half l.length)) (i - half l.length) (by simp; omega) (by simp; omega)
        have e : (l.drop (half l.length)).length = l.length - half l.length := by simp
        have e2 : half l.length + (i - half l.length) = i := by omega
        simp only [List.getElem_drop, e2, e] at ih
        rw [path_hi (by omega) hk, up_hi _ _ (by omega) hk, root_two (l := l) (by omega), List.dropLast_concat]
        rw [ih]
        simp

theorem isDigest_dg (ss : List ByteArray) : Dg.isDigest (dg ss).data.toList = true := Dg.isDigest_sum _
theorem isDigest_root (l : List ByteArray) : Dg.isDigest (root l).data.toList = true := by
  rw [root]
  split
  · split <;> exact isDigest_dg _
  · exact isDigest_dg _
theorem digs_path : ∀ (N : Nat) (l : List ByteArray) (i : Nat), l.length ≤ N → digs (path l i) = true
  | 0, l, i, hN => by rw [path_one i (by omega)]; rfl
  | N + 1, l, i, hN => by
    by_cases h1 : l.length ≤ 1
    · rw [path_one i h1]; rfl
    · have l1 := half_lt (n := l.length) (by omega)
      have l2 := half_pos l.length
      by_cases hk : i < half l.length
      · rw [path_lo (by omega) hk]
        unfold digs
        rw [List.all_append]
        have := digs_path N (l.take (half l.length)) i (by simp; omega)
        unfold digs at this
        rw [this]
        simp [isDigest_root]
      · rw [path_hi (by omega) hk]
        unfold digs
        rw [List.all_append]
        have := digs_path N (l.drop (half l.length)) (i - half l.length) (by simp; omega)
        unfold digs at this
        rw [this]
        simp [isDigest_root]

/-- Binary digits. -/
def bin (n : Nat) : Nat := if n = 0 then 0 else bin (n / 2) + 1
termination_by n
theorem bin_zero : bin 0 = 0 := by rw [bin]; rfl
theorem bin_pos {n : Nat} (h : 0 < n) : bin n = bin (n / 2) + 1 := by rw [bin, if_neg (by omega)]
theorem bin_le : ∀ (N a b : Nat), b ≤ N → a ≤ b → bin a ≤ bin b
  | 0, a, b, hN, h => by
    have h1 : a = 0 := by omega
    have h2 : b = 0 := by omega
    rw [h1, h2]
    exact Nat.le_refl _
  | N + 1, a, b, hN, h => by
    by_cases ha : a = 0
    · rw [ha, bin_zero]; omega
    · rw [bin_pos (n := a) (by omega), bin_pos (n := b) (by omega)]
      have := bin_le N (a / 2) (b / 2) (by omega) (by omega)
      omega
theorem bin_two_pow : ∀ j, bin (2 ^ j) = j + 1
  | 0 => by rw [bin_pos (by decide)]; rw [show 2 ^ 0 / 2 = 0 from rfl, bin_zero]
  | j + 1 => by
    rw [bin_pos (Nat.pow_pos (by omega))]
    have : 2 ^ (j + 1) / 2 = 2 ^ j := by rw [Nat.pow_succ]; omega
    rw [this, bin_two_pow j]
theorem log_half (j : Nat) (h : 0 < j) : half (2 ^ j) = 2 ^ (j - 1) := by
  obtain ⟨k, rfl⟩ : ∃ k, j = k + 1 := ⟨j - 1, by omega⟩
  have hp : 0 < 2 ^ k := Nat.pow_pos (by omega)
  refine half_eq ?_ ?_ <;> simp only [Nat.pow_succ, Nat.add_sub_cancel] <;> omega

/-- At most 2^j elements: a path of at most j digests. -/
theorem len_le : ∀ (j n i : Nat), n ≤ 2 ^ j → len n i ≤ j
  | 0, n, i, h => by rw [len_one i (by simpa using h)]; omega
  | j + 1, n, i, h => by
    by_cases h1 : n ≤ 1
    · rw [len_one i h1]; omega
    · have hp : half n ≤ 2 ^ j := by
        unfold half
        refine Nat.pow_le_pow_right (by omega) ?_
        have : (n - 1).log2 < j + 1 := (Nat.log2_lt (by omega)).2 (by omega)
        omega
      have hg := half_ge (n := n) (by omega)
      have l2 := half_pos n
      by_cases hi : i < half n
      · rw [len_lo (by omega) hi]
        have := len_le j (half n) i hp
        omega
      · rw [len_hi (by omega) hi]
        have := len_le j (n - half n) (i - half n) (by omega)
        omega
theorem len_bin (n i : Nat) (h : 1 ≤ n) : len n i ≤ bin n := by
  have h1 : 2 ^ n.log2 ≤ n := Nat.log2_self_le (by omega)
  have h2 : n < 2 ^ (n.log2 + 1) := ((Nat.log2_eq_iff (n := n) (k := n.log2) (by omega)).1 rfl).2
  have h3 := len_le (n.log2 + 1) n i (by omega)
  have h4 := bin_le n _ n (Nat.le_refl _) h1
  rw [bin_two_pow] at h4
  omega

/-- Two different texts of a list have one digest. -/
def Shown (l : List ByteArray) : Prop := ∃ x ∈ l, ∃ y ∈ l, x ≠ y ∧ sm x = sm y
theorem Shown.mono {l m : List ByteArray} (h : Shown l) (hs : ∀ x ∈ l, x ∈ m) : Shown m := by
  obtain ⟨x, hx, y, hy, h1, h2⟩ := h
  exact ⟨x, hs x hx, y, hs y hy, h1, h2⟩

def texts (l : List ByteArray) : List ByteArray :=
  if _h : l.length ≤ 1 then (match l with | [] => [jn [⟨#[101, 109, 112, 116, 121]⟩]] | x :: _ => [jn [⟨#[108, 101, 97, 102]⟩, x]])
  else texts (l.take (half l.length)) ++ texts (l.drop (half l.length)) ++ [jn [⟨#[110, 111, 100, 101]⟩, root (l.take (half l.length)), root (l.drop (half l.length))]]
termination_by l.length
decreasing_by
  · have := half_lt (n := l.length) (by omega); simp; omega
  · have := half_pos l.length; simp; omega
theorem texts_nil : texts [] = [jn [⟨#[101, 109, 112, 116, 121]⟩]] := by rw [texts]; rfl
theorem texts_one (x : ByteArray) : texts [x] = [jn [⟨#[108, 101, 97, 102]⟩, x]] := by rw [texts]; rfl
theorem texts_two {l : List ByteArray} (h : 2 ≤ l.length) : texts l = texts (l.take (half l.length)) ++ texts (l.drop (half l.length)) ++ [jn [⟨#[110, 111, 100, 101]⟩, root (l.take (half l.length)), root (l.drop (half l.length))]] := by
  rw [texts, dif_neg (by omega)]

def pathTexts (n i : Nat) (s : ByteArray) (p : List ByteArray) : List ByteArray :=
  if _h : n ≤ 1 then [jn [⟨#[108, 101, 97, 102]⟩, s]]
  else if i < half n then pathTexts (half n) i s p.dropLast ++ [jn [⟨#[110, 111, 100, 101]⟩, up (half n) i (leaf s) p.dropLast, p.getLastD ⟨#[]⟩]]
  else pathTexts (n - half n) (i - half n) s p.dropLast ++ [jn [⟨#[110, 111, 100, 101]⟩, p.getLastD ⟨#[]⟩, up (n - half n) (i - half n) (leaf s) p.dropLast]]
termination_by n
decreasing_by
  · exact half_lt (by omega)
  · have := half_pos n; omega
theorem pathTexts_one {n : Nat} (i : Nat) (s : ByteArray) (p : List ByteArray) (h : n ≤ 1) : pathTexts n i s p = [jn [⟨#[108, 101, 97, 102]⟩, s]] := by rw [pathTexts, dif_pos h]
theorem pathTexts_lo {n i : Nat} (s : ByteArray) (p : List ByteArray) (h : 2 ≤ n) (hi : i < half n) : pathTexts n i s p = pathTexts (half n) i s p.dropLast ++ [jn [⟨#[110, 111, 100, 101]⟩, up (half n) i (leaf s) p.dropLast, p.getLastD ⟨#[]⟩]] := by
  rw [pathTexts, dif_neg (by omega), if_pos hi]
theorem pathTexts_hi {n i : Nat} (s : ByteArray) (p : List ByteArray) (h : 2 ≤ n) (hi : ¬ i < half n) : pathTexts n i s p = pathTexts (n - half n) (i - half n) s p.dropLast ++ [jn [⟨#[110, 111, 100, 101]⟩, p.getLastD ⟨#[]⟩, up (n - half n) (i - half n) (leaf s) p.dropLast]] := by
  rw [pathTexts, dif_neg (by omega), if_neg hi]

/-- Two texts with one digest: equal, or shown. -/
theorem eq_or_shown {a b : List ByteArray} {A B : List ByteArray} (h : dg a = dg b) (ha : jn a ∈ A) (hb : jn b ∈ B) : a = b ∨ Shown (A ++ B) := by
  by_cases he : jn a = jn b
  · exact .inl (jn_inj he)
  · exact .inr ⟨_, List.mem_append_left _ ha, _, List.mem_append_right _ hb, he, h⟩

theorem Shown.sub {A B A' B' : List ByteArray} (h : Shown (A ++ B)) (ha : ∀ x ∈ A, x ∈ A') (hb : ∀ x ∈ B, x ∈ B') : Shown (A' ++ B') :=
  h.mono fun x hx => by
    rcases List.mem_append.1 hx with h | h
    · exact List.mem_append_left _ (ha x h)
    · exact List.mem_append_right _ (hb x h)

/-- P2.4. -/
theorem roots_bind : ∀ (N : Nat) (a b : List ByteArray), a.length ≤ N → a.length = b.length → root a = root b → a = b ∨ Shown (texts a ++ texts b)
  | 0, a, b, hN, hl, h => by
    obtain rfl : a = [] := List.eq_nil_of_length_eq_zero (by omega)
    obtain rfl : b = [] := List.eq_nil_of_length_eq_zero (by simpa using hl.symm)
    exact .inl rfl
  | N + 1, a, b, hN, hl, h => by
    by_cases h1 : a.length ≤ 1
    · match a, b, h1, hl with
      | [], [], _, _ => exact .inl rfl
      | [x], [y], _, _ =>
        rw [root_one, root_one] at h
        rw [texts_one, texts_one]
        rcases eq_or_shown h (List.mem_singleton.2 rfl) (List.mem_singleton.2 rfl) with e | e
        · simp at e
          exact .inl (by rw [e])
        · exact .inr e
    · have l1 := half_lt (n := a.length) (by omega)
      have l2 := half_pos a.length
      rw [root_two (l := a) (by omega), root_two (l := b) (by omega)] at h
      rw [texts_two (l := a) (by omega), texts_two (l := b) (by omega)]
      rw [← hl] at h ⊢
      rcases eq_or_shown h (A := texts (a.take (half a.length)) ++ texts (a.drop (half a.length)) ++ [_]) (B := texts (b.take (half a.length)) ++ texts (b.drop (half a.length)) ++ [_]) (List.mem_append_right _ (List.mem_singleton.2 rfl)) (List.mem_append_right _ (List.mem_singleton.2 rfl)) with e | e
      · simp only [List.cons.injEq, true_and, and_true] at e
        rcases roots_bind N _ _ (by simp; omega) (by simp; omega) e.1 with e1 | e1
        · rcases roots_bind N _ _ (by simp; omega) (by simp; omega) e.2 with e2 | e2
          · left
            have f1 := List.take_append_drop (half a.length) a
            have f2 := List.take_append_drop (half a.length) b
            rw [e1, e2] at f1
            exact f1.symm.trans f2
          · exact .inr (e2.sub (fun x hx => by simp [hx]) (fun x hx => by simp [hx]))
        · exact .inr (e1.sub (fun x hx => by simp [hx]) (fun x hx => by simp [hx]))
      · exact .inr e

/-- P2.3. -/
theorem path_binds : ∀ (N : Nat) (l : List ByteArray) (i : Nat) (s : ByteArray) (p : List ByteArray), l.length ≤ N → (hi : i < l.length) → up l.length i (leaf s) p = root l → s = l[i] ∨ Shown (texts l ++ pathTexts l.length i s p)
  | 0, l, i, s, p, hN, hi, h => by omega
  | N + 1, l, i, s, p, hN, hi, h => by
    by_cases h1 : l.length ≤ 1
    · match l, h1, hi with
      | [x], _, hi =>
        obtain rfl : i = 0 := by simpa using hi
        rw [root_one, up_one _ _ _ (by simp)] at h
        rw [texts_one, pathTexts_one _ _ _ (by simp)]
        rcases eq_or_shown h.symm (List.mem_singleton.2 rfl) (List.mem_singleton.2 rfl) with e | e
        · simp at e
          exact .inl (by simp [e])
        · exact .inr e
    · have l1 := half_lt (n := l.length) (by omega)
      have l2 := half_pos l.length
      rw [root_two (by omega)] at h
      rw [texts_two (by omega)]
      by_cases hk : i < half l.length
      · rw [up_lo _ _ (by omega) hk] at h
        rw [pathTexts_lo _ _ (by omega) hk]
        rcases eq_or_shown h.symm (A := texts (l.take (half l.length)) ++ texts (l.drop (half l.length)) ++ [_]) (B := _ ++ [_]) (List.mem_append_right _ (List.mem_singleton.2 rfl)) (List.mem_append_right _ (List.mem_singleton.2 rfl)) with e | e
        · simp only [List.cons.injEq, true_and, and_true] at e
          have e1 : (l.take (half l.length)).length = half l.length := by simp; omega
          have ih := path_binds N (l.take (half l.length)) i s p.dropLast (by simp; omega) (by simp; omega) (by rw [e1]; exact e.1.symm)
          simp only [List.getElem_take, e1] at ih
          rcases ih with ih | ih
          · exact .inl ih
          · exact .inr (ih.sub (fun x hx => by simp [hx]) (fun x hx => by simp [hx]))
        · exact .inr e
      · rw [up_hi _ _ (by omega) hk] at h
        rw [pathTexts_hi _ _ (by omega) hk]
        rcases eq_or_shown h.symm (A := texts (l.take (half l.length)) ++ texts (l.drop (half l.length)) ++ [_]) (B := _ ++ [_]) (List.mem_append_right _ (List.mem_singleton.2 rfl)) (List.mem_append_right _ (List.mem_singleton.2 rfl)) with e | e
        · simp only [List.cons.injEq, true_and, and_true] at e
          have e1 : (l.drop (half l.length)).length = l.length - half l.length := by simp
          have ih := path_binds N (l.drop (half l.length)) (i - half l.length) s p.dropLast (by simp; omega) (by simp; omega) (by rw [e1]; exact e.2.symm)
          have e2 : half l.length + (i - half l.length) = i := by omega
          simp only [List.getElem_drop, e2, e1] at ih
          rcases ih with ih | ih
          · exact .inl ih
          · exact .inr (ih.sub (fun x hx => by simp [hx]) (fun x hx => by simp [hx]))
        · exact .inr e
end Go.Proofs.YtdlmbpoihnifiaaDoor.Tr
