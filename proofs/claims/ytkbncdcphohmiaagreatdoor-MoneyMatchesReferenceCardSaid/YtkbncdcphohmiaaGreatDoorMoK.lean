/- Layer 8: dividing units: the order in which the rest is given, and what each one has on the way. -/
import Derived.Test.YtkbncdcphohmiaaGreatDoorMoStab
import Derived.Test.YtkbncdcphohmiaaGreatDoorMoSplit
import Derived.Lib.Hide
import Derived.Shelf.Small.Wraps
set_option linter.unusedSimpArgs false
set_option linter.unusedVariables false
namespace Go.Proofs.YtkbncdcphohmiaaGreatDoor
open Go.Sort

theorem Mo.filter_pos {α : Type} (p : α → Bool) (L : List α) (j : Nat) (hj : j ≤ L.length) (h1 : ∀ i (h : i < L.length), i < j → p L[i] = true) (h2 : ∀ i (h : i < L.length), j ≤ i → p L[i] = false) : (L.filter p).length = j := by
  have e : L = L.take j ++ L.drop j := (List.take_append_drop j L).symm
  rw [e, List.filter_append, List.length_append]
  have a1 : (L.take j).filter p = L.take j := List.filter_eq_self.2 fun x hx => by
    obtain ⟨i, hi, rfl⟩ := List.getElem_of_mem hx
    rw [List.length_take] at hi
    rw [List.getElem_take]
    exact h1 i (by omega) (by omega)
  have a2 : (L.drop j).filter p = [] := List.filter_eq_nil_iff.2 fun x hx => by
    obtain ⟨i, hi, rfl⟩ := List.getElem_of_mem hx
    rw [List.length_drop] at hi
    rw [List.getElem_drop, h2 (j + i) (by omega) (by omega)]
    simp
  rw [a1, a2, List.length_take]
  simp
  omega
/-- The places in the order of their remainders. -/
theorem Mo.rank_of {n : Nat} (r : Nat → Nat) (L : List Nat) (hp : L.Perm (List.range n)) (hs : ∀ i j (hi : i < L.length) (hj : j < L.length), i < j → Mo.bf r L[i] L[j] = true) (j : Nat) (hj : j < L.length) : Mo.rank r n L[j] = j := by
  unfold Mo.rank Mo.cnt
  rw [← (hp.filter _).length_eq]
  refine Mo.filter_pos _ L j (by omega) (fun i hi hij => hs i j hi hj hij) fun i hi hij => ?_
  by_cases e : i = j
  · subst e; exact Mo.bf_irr r _
  · cases h : Mo.bf r L[i] L[j] with
    | false => rfl
    | true =>
      have := Mo.bf_trans h (hs j i hj hi (by omega))
      rw [Mo.bf_irr] at this
      cases this
/-- The elements that are sorted: places below m + 1, by the remainders, the greater first. -/
def Mo.cf (m : Nat) (r : Nat → Nat) (x y : Fin (m + 1)) : Int := Lib.compareInt (r y.val : Int) (r x.val : Int)
def Mo.lt (m : Nat) (r : Nat → Nat) (x y : Fin (m + 1)) : Bool := decide (Mo.cf m r x y < 0)
theorem Mo.lt_eq (m : Nat) (r : Nat → Nat) (x y : Fin (m + 1)) : Mo.lt m r x y = decide (r y.val < r x.val) := by
  unfold Mo.lt Mo.cf Lib.compareInt
  by_cases h1 : r y.val < r x.val
  · rw [if_pos (by omega)]
    simp [h1]
  · rw [if_neg (by omega)]
    split <;> simp [h1]
theorem Mo.swo (m : Nat) (r : Nat → Nat) : SWO (Mo.lt m r) where
  irrefl x := by rw [Mo.lt_eq]; simp
  trans x y z h1 h2 := by rw [Mo.lt_eq] at *; simp at *; omega
  ntrans x y z h1 h2 := by rw [Mo.lt_eq] at *; simp at *; omega
def Mo.start (m : Nat) : Array (Fin (m + 1)) := Array.ofFn id
theorem Mo.start_size (m : Nat) : (Mo.start m).size = m + 1 := by simp [Mo.start]
theorem Mo.start_get (m k : Nat) (h : k < m + 1) : ((Mo.start m)[k]!).val = k := by
  rw [getElem!_pos _ k (by rw [Mo.start_size]; exact h)]
  simp [Mo.start]
theorem Mo.start_list (m : Nat) : (Mo.start m).toList.map Fin.val = List.range (m + 1) := by
  apply List.ext_getElem
  · simp [Mo.start]
  · intro i h1 h2
    simp only [Mo.start, Array.toList_ofFn, List.getElem_map, List.getElem_ofFn, List.getElem_range]
    rfl
theorem Mo.sorted_rank {m : Nat} (r : Nat → Nat) {d : Array (Fin (m + 1))} (hp : PermIn 0 (m + 1) (Mo.start m) d) (hs : SortedIn (Sb.prB (Mo.lt m r) Fin.val) 0 (m + 1) d) (j : Nat) (hj : j < m + 1) : Mo.rank r (m + 1) (d[j]!).val = j := by
  have hz : d.size = m + 1 := hp.1.trans (Mo.start_size m)
  have hP : (d.toList.map Fin.val).Perm (List.range (m + 1)) := by
    have h := hp.2.2
    rw [Array.extract_eq_self_of_le (by omega), Array.extract_eq_self_of_le (by rw [Mo.start_size]; exact Nat.le_refl _)] at h
    rw [← Mo.start_list m]
    exact h.map _
  have hN : (d.toList.map Fin.val).Nodup := hP.nodup_iff.2 List.nodup_range
  have hl : (d.toList.map Fin.val).length = m + 1 := by simp [hz]
  have hg : ∀ i (hi : i < (d.toList.map Fin.val).length), (d.toList.map Fin.val)[i] = (d[i]!).val := fun i hi => by
    have h' : i < d.size := by simpa using hi
    rw [List.getElem_map, getElem!_pos _ i h']
    simp
  have := Mo.rank_of r (d.toList.map Fin.val) hP (fun i k hi hk hik => by
    have h := hs i k (Nat.zero_le _) hik (by omega)
    rw [Sb.prB_no, Mo.lt_eq, Mo.lt_eq] at h
    rw [Mo.bf_iff, hg i hi, hg k hk]
    have hne : (d[i]!).val ≠ (d[k]!).val := by
      rw [← hg i hi, ← hg k hk]
      exact List.pairwise_iff_getElem.1 hN i k hi hk hik
    simp only [decide_eq_false_iff_not, decide_eq_true_eq] at h
    obtain ⟨g1, g2⟩ := h
    rcases g2 with g2 | g2 <;> omega) j (by omega)
  rw [hg j (by omega)] at this
  exact this

/-! ### the shares on the way -/
/-- The shares when j of the units that are left have been given. -/
def Mo.upS (u s n : Nat) (p : Nat → Nat) (j i : Nat) : Nat := Mo.fl u s p i + if decide (Mo.rank (Mo.rm u s p) n i < j) then 1 else 0
def Mo.row (n : Nat) (f : Nat → Nat) : List Int := (List.range n).map fun i => (f i : Int)
theorem Mo.row_len (n : Nat) (f : Nat → Nat) : (Mo.row n f).length = n := by simp [Mo.row]
theorem Mo.row_get (n : Nat) (f : Nat → Nat) (i : Nat) (h : i < n) : (Mo.row n f).getD i 0 = (f i : Int) := by
  simp [Mo.row, List.getD_eq_getElem?_getD, h]
theorem Mo.row_congr {n : Nat} {f g : Nat → Nat} (h : ∀ i, i < n → f i = g i) : Mo.row n f = Mo.row n g := by
  unfold Mo.row
  exact List.map_congr_left fun i hi => by rw [h i (List.mem_range.1 hi)]
theorem Mo.row_set (n : Nat) (f : Nat → Nat) (k v : Nat) : (Mo.row n f).set k (v : Int) = Mo.row n (fun i => if i = k then v else f i) := by
  apply List.ext_getElem
  · simp [Mo.row]
  · intro i h1 h2
    simp only [Mo.row, List.getElem_set, List.getElem_map, List.getElem_range]
    by_cases e : k = i
    · subst e; simp
    · simp [e, Ne.symm e]
theorem Mo.upS_zero (u s n : Nat) (p : Nat → Nat) : Mo.row n (Mo.fl u s p) = Mo.row n (Mo.upS u s n p 0) := Mo.row_congr fun i _ => by simp [Mo.upS]
theorem Mo.upS_step {u s n : Nat} {p : Nat → Nat} {j k : Nat} (hk : k < n) (hr : Mo.rank (Mo.rm u s p) n k = j) : (Mo.row n (Mo.upS u s n p j)).set k ((Mo.upS u s n p j k + 1 : Nat) : Int) = Mo.row n (Mo.upS u s n p (j + 1)) := by
  rw [Mo.row_set]
  refine Mo.row_congr fun i hi => ?_
  by_cases e : i = k
  · subst e
    rw [if_pos rfl]
    unfold Mo.upS
    rw [hr, decide_eq_false (by omega), decide_eq_true (by omega)]
    simp
  · rw [if_neg e]
    have hne : Mo.rank (Mo.rm u s p) n i ≠ j := fun h => e (Mo.rank_inj hi hk (h.trans hr.symm))
    unfold Mo.upS
    by_cases h : Mo.rank (Mo.rm u s p) n i < j
    · rw [decide_eq_true h, decide_eq_true (by omega)]
    · rw [decide_eq_false h, decide_eq_false (by omega)]
theorem Mo.upS_end (u s n : Nat) (p : Nat → Nat) : Mo.row n (Mo.upS u s n p (Mo.left u s p n)) = Mo.row n (Mo.out u s p n) := rfl
/-- The row of floors, built from the front. -/
def Mo.upto (n k : Nat) (f : Nat → Nat) : List Int := Mo.row n (fun i => if i < k then f i else 0)
theorem Mo.upto_zero (n : Nat) (f : Nat → Nat) : List.replicate n (0 : Int) = Mo.upto n 0 f := by
  apply List.ext_getElem
  · simp [Mo.upto, Mo.row]
  · intro i h1 h2
    simp [Mo.upto, Mo.row]
theorem Mo.upto_step (n k : Nat) (f : Nat → Nat) : (Mo.upto n k f).set k (f k : Int) = Mo.upto n (k + 1) f := by
  unfold Mo.upto
  rw [Mo.row_set]
  refine Mo.row_congr fun i hi => ?_
  by_cases e : i = k
  · subst e; rw [if_pos rfl, if_pos (by omega)]
  · rw [if_neg e]
    by_cases h : i < k
    · rw [if_pos h, if_pos (by omega)]
    · rw [if_neg h, if_neg (by omega)]
theorem Mo.upto_all (n : Nat) (f : Nat → Nat) : Mo.upto n n f = Mo.row n f := Mo.row_congr fun i hi => by rw [if_pos hi]
end Go.Proofs.YtkbncdcphohmiaaGreatDoor
