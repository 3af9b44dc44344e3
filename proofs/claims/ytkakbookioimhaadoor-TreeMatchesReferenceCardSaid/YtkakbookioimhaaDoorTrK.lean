/- What the examples that every law of layer 2 begins with lean on: contracts at literal lists, and what their lists' roots, paths and links are. -/
import Derived.Test.YtkakbookioimhaaDoorTrJ
import Derived.Test.YtkakbookioimhaaDoorTrG
import Derived.Test.YtkakbookioimhaaDoorDgT
import Derived.Below
import Derived.Lib.Hide
namespace Go.Proofs.YtkakbookioimhaaDoor
open Go.RowKit

theorem below_drewN (w : World) (q : Nat) : Below w.heap.size w (w.drewN q) := ⟨rfl, rfl, rfl, Nat.le_refl _, fun _ _ => rfl⟩

/-- A list of short strings. -/
def Lit (ss : List ByteArray) : Prop := (∀ s ∈ ss, s.size ≤ 1000000000) ∧ ss.length ≤ 3

theorem root_lit (w : World) (ss : List ByteArray) (r : ByteArray) (hr : Tr.root ss = r) (hl : Lit ss) (hp : Pow w.heap.size w) :
    Calls Tryd.prog 15 #[.slice (some ⟨w.heap.size, 0, none⟩) ss.length ss.length] (w.alloc (.cells (ss.map Value.string).toArray 9)) fun e w' => e = .returned (.string r) ∧ Below w.heap.size w w' := by
  have hb : Below w.heap.size w (w.alloc (.cells (ss.map Value.string).toArray 9)) := (Below.refl _ _).alloc (Nat.le_refl _) _
  refine (root_any _ ss.length ss _ (Nat.le_refl _) (by have := hl.2; unfold maxLen; omega) (strs_new w ss _) hl.1 (hp.bt hb)).mono ?_
  rintro e w1 ⟨rfl, hb1⟩
  exact ⟨by rw [hr], Bt hb hb1⟩

theorem list_lit (w : World) (ss : List ByteArray) (r : ByteArray) (hr : Tr.dg ss = r) (hl : Lit ss) (hp : Pow w.heap.size w) :
    Calls Tryd.prog 26 #[.slice (some ⟨w.heap.size, 0, none⟩) ss.length ss.length] (w.alloc (.cells (ss.map Value.string).toArray 9)) fun e w' => e = .returned (.string r) ∧ Below w.heap.size w w' := by
  have hb : Below w.heap.size w (w.alloc (.cells (ss.map Value.string).toArray 9)) := (Below.refl _ _).alloc (Nat.le_refl _) _
  refine (list_any _ ss.length ss _ (strs_new w ss _) (by have := hl.2; unfold maxLen; omega) (joined_bound 1000000000 ss hl.1 (Nat.le_refl _) hl.2) (hp.bt hb)).mono ?_
  rintro e w1 ⟨rfl, hb1⟩
  exact ⟨by rw [← hr]; rfl, Bt hb hb1⟩

theorem same_lit (w : World) (ss : List ByteArray) (A : Option Addr) (c : Nat) (hs : Strs w w.heap.size A ss) (hl : Lit ss) :
    Calls Tryd.prog 17 #[.slice A ss.length c, .slice (some ⟨w.heap.size, 0, none⟩) ss.length ss.length] (w.alloc (.cells (ss.map Value.string).toArray 9)) fun e w' => e = .returned (.bool true) ∧ Below w.heap.size w w' := by
  have hb : Below w.heap.size w (w.alloc (.cells (ss.map Value.string).toArray 9)) := (Below.refl _ _).alloc (Nat.le_refl _) _
  refine (same_any A (some ⟨w.heap.size, 0, none⟩) c ss.length ss ss _ (hs.bt hb) (strs_new w ss _) (by have := hl.2; unfold maxLen; omega)).mono ?_
  rintro e w1 ⟨rfl, q, rfl⟩
  exact ⟨by simp, Bt hb (below_drewN _ q)⟩

theorem check_path (l : List ByteArray) (i : Nat) (hi : i < l.length) (hn : l.length ≤ 1000000) : Tr.check (Tr.root l) l.length i l[i] (Tr.path l i) = true := by
  have h1 := Tr.path_length _ l i (Nat.le_refl _) hi
  have h2 := Tr.up_path _ l i (Nat.le_refl _) hi
  have h3 := Tr.digs_path _ l i (Nat.le_refl _)
  unfold Tr.check
  rw [decide_eq_true (show (0 : Int) ≤ (i : Int) ∧ (i : Int) < (l.length : Int) ∧ (l.length : Int) ≤ 1000000 by omega)]
  simp [h1, h2, h3]

theorem extends_link (l : List ByteArray) (m : Nat) (hm : m ≤ l.length) (hn : l.length ≤ 1000000) : Tr.extends' (Tr.root (l.take m)) m (Tr.root l) l.length (Tr.Link l m) = true := by
  by_cases h0 : m = 0
  · subst h0
    unfold Tr.extends'
    rw [decide_eq_true (show (0 : Int) ≤ ((0 : Nat) : Int) ∧ ((0 : Nat) : Int) ≤ (l.length : Int) ∧ (l.length : Int) ≤ 1000000 by omega), Tr.isDigest_root, Tr.isDigest_root]
    by_cases hl : l.length = 0
    · obtain rfl : l = [] := List.eq_nil_of_length_eq_zero hl
      simp [Tr.Link, Tr.root_nil]
    · have : (0 : Int) < (l.length : Int) := by omega
      simp [Tr.Link, Tr.root_nil]
      left
      omega
  · have e : Tr.Link l m = Tr.link l m true := if_neg h0
    unfold Tr.extends'
    have h1 := Tr.link_length _ l m true (Nat.le_refl _) (by omega) hm
    have h2 := Tr.both_link _ l m true (Tr.root (l.take m)) (Nat.le_refl _) (by omega) hm (fun _ => rfl)
    have h3 := Tr.digs_link _ l m true (Nat.le_refl _)
    rw [e, decide_eq_true (show (0 : Int) ≤ (m : Int) ∧ (m : Int) ≤ (l.length : Int) ∧ (l.length : Int) ≤ 1000000 by omega), Tr.isDigest_root, Tr.isDigest_root, if_neg (by omega)]
    simp [h1, h2, h3]

/-- The list of the examples. -/
def exL : List ByteArray := [⟨#[97]⟩, ⟨#[98]⟩, ⟨#[99]⟩]
theorem half3 : Tr.half 3 = 2 := Tr.half_eq (j := 1) (by decide) (by decide)
theorem half2 : Tr.half 2 = 1 := Tr.half_eq (j := 0) (by decide) (by decide)
theorem half3' : Tr.half exL.length = 2 := half3
theorem root_ab : Tr.root [⟨#[97]⟩, ⟨#[98]⟩] = Tr.node (Tr.leaf ⟨#[97]⟩) (Tr.leaf ⟨#[98]⟩) := by
  rw [Tr.root_two (by decide), show ([⟨#[97]⟩, ⟨#[98]⟩] : List ByteArray).length = 2 from rfl, half2]
  show Tr.node (Tr.root [⟨#[97]⟩]) (Tr.root [⟨#[98]⟩]) = _
  rw [Tr.root_one, Tr.root_one]
theorem root_exL : Tr.root exL = Tr.node (Tr.node (Tr.leaf ⟨#[97]⟩) (Tr.leaf ⟨#[98]⟩)) (Tr.leaf ⟨#[99]⟩) := by
  rw [Tr.root_two (by decide), half3']
  show Tr.node (Tr.root [⟨#[97]⟩, ⟨#[98]⟩]) (Tr.root [⟨#[99]⟩]) = _
  rw [Tr.root_one, root_ab]
theorem path_exL2 : Tr.path exL 2 = [Tr.node (Tr.leaf ⟨#[97]⟩) (Tr.leaf ⟨#[98]⟩)] := by
  rw [Tr.path_hi (by decide) (by rw [half3']; decide), half3']
  show Tr.path [⟨#[99]⟩] 0 ++ [Tr.root [⟨#[97]⟩, ⟨#[98]⟩]] = _
  rw [Tr.path_one _ (by decide), root_ab]
  rfl
theorem path_exL0 : Tr.path exL 0 = [Tr.leaf ⟨#[98]⟩, Tr.leaf ⟨#[99]⟩] := by
  rw [Tr.path_lo (by decide) (by rw [half3']; decide), half3']
  show Tr.path [⟨#[97]⟩, ⟨#[98]⟩] 0 ++ [Tr.root [⟨#[99]⟩]] = _
  rw [Tr.root_one, Tr.path_lo (by decide) (by rw [show ([⟨#[97]⟩, ⟨#[98]⟩] : List ByteArray).length = 2 from rfl, half2]; decide), show ([⟨#[97]⟩, ⟨#[98]⟩] : List ByteArray).length = 2 from rfl, half2]
  show Tr.path [⟨#[97]⟩] 0 ++ [Tr.root [⟨#[98]⟩]] ++ _ = _
  rw [Tr.root_one, Tr.path_one _ (by decide)]
  rfl
theorem link_exL2 : Tr.Link exL 2 = [Tr.leaf ⟨#[99]⟩] := by
  show Tr.link exL 2 true = _
  rw [Tr.link_lo true (by decide) (by decide) (by rw [half3']; decide), half3']
  show Tr.link [⟨#[97]⟩, ⟨#[98]⟩] 2 true ++ [Tr.root [⟨#[99]⟩]] = _
  rw [Tr.root_one, show (2 : Nat) = ([⟨#[97]⟩, ⟨#[98]⟩] : List ByteArray).length from rfl, Tr.link_all]
  rfl
theorem link_exL1 : Tr.Link exL 1 = [Tr.leaf ⟨#[98]⟩, Tr.leaf ⟨#[99]⟩] := by
  show Tr.link exL 1 true = _
  rw [Tr.link_lo true (by decide) (by decide) (by rw [half3']; decide), half3']
  show Tr.link [⟨#[97]⟩, ⟨#[98]⟩] 1 true ++ [Tr.root [⟨#[99]⟩]] = _
  rw [Tr.root_one, Tr.link_lo true (by decide) (by decide) (by rw [show ([⟨#[97]⟩, ⟨#[98]⟩] : List ByteArray).length = 2 from rfl, half2]; decide), show ([⟨#[97]⟩, ⟨#[98]⟩] : List ByteArray).length = 2 from rfl, half2]
  show Tr.link [⟨#[97]⟩] 1 true ++ [Tr.root [⟨#[98]⟩]] ++ _ = _
  rw [Tr.root_one, show (1 : Nat) = ([⟨#[97]⟩] : List ByteArray).length from rfl, Tr.link_all]
  rfl

/-- Leaves of one byte and nodes, for the kernel to compute. -/
def leafC (c : UInt8) : List UInt8 := Dg.sum [52, 58, 108, 101, 97, 102, 49, 58, c]
def nodeC (x y : List UInt8) : List UInt8 := Dg.sum ([52, 58, 110, 111, 100, 101, 49, 54, 58] ++ x ++ [49, 54, 58] ++ y)
theorem dec16 : Lib.decDigits 16 = [49, 54] := by
  rw [Lib.decDigits, dif_neg (by decide), Lib.decDigits_one (by decide)]
  rfl
theorem leaf_c (c : UInt8) : Tr.leaf ⟨#[c]⟩ = ⟨(leafC c).toArray⟩ := by
  have e1 : Lib.decDigits (ByteArray.size ⟨#[108, 101, 97, 102]⟩) = [52] := Lib.decDigits_one (by decide)
  have e2 : Lib.decDigits (ByteArray.size ⟨#[c]⟩) = [49] := Lib.decDigits_one (by simp [ByteArray.size])
  unfold Tr.leaf Tr.dg joined part
  rw [List.map_cons, List.map_cons, e1, e2]
  rfl
theorem node_c (x y : List UInt8) (hx : x.length = 16) (hy : y.length = 16) : Tr.node ⟨x.toArray⟩ ⟨y.toArray⟩ = ⟨(nodeC x y).toArray⟩ := by
  have e1 : Lib.decDigits (ByteArray.size ⟨#[110, 111, 100, 101]⟩) = [52] := Lib.decDigits_one (by decide)
  unfold Tr.node Tr.dg joined part
  rw [List.map_cons, List.map_cons, List.map_cons, e1, bsize, bsize, hx, hy, dec16]
  unfold nodeC
  simp
theorem leafC_length (c : UInt8) : (leafC c).length = 16 := Dg.sum_length _
theorem nodeC_length (x y : List UInt8) : (nodeC x y).length = 16 := Dg.sum_length _
theorem arr_ne {x y : List UInt8} (h : x ≠ y) : (⟨x.toArray⟩ : ByteArray) ≠ ⟨y.toArray⟩ := fun e => h (by
  have := congrArg (fun b : ByteArray => b.data.toList) e
  simpa using this)
theorem ne_check : nodeC (nodeC (leafC 97) (leafC 98)) (leafC 98) ≠ nodeC (nodeC (leafC 97) (leafC 98)) (leafC 99) := by decide +kernel
theorem ne_extends : nodeC (nodeC (leafC 98) (leafC 98)) (leafC 99) ≠ nodeC (nodeC (leafC 97) (leafC 98)) (leafC 99) := by decide +kernel

theorem check_exL_yes : Tr.check (Tr.root exL) 3 2 ⟨#[99]⟩ (Tr.path exL 2) = true := check_path exL 2 (by decide) (by decide)
theorem check_exL_no : Tr.check (Tr.root exL) 3 2 ⟨#[98]⟩ (Tr.path exL 2) = false := by
  have h : ¬ Tr.up 3 2 (Tr.leaf ⟨#[98]⟩) (Tr.path exL 2) = Tr.root exL := by
    rw [path_exL2, root_exL, Tr.up_hi _ _ (by decide) (by rw [half3]; decide), half3, Tr.up_one _ _ _ (by decide)]
    show ¬ Tr.node (Tr.node (Tr.leaf ⟨#[97]⟩) (Tr.leaf ⟨#[98]⟩)) (Tr.leaf ⟨#[98]⟩) = _
    rw [leaf_c, leaf_c, leaf_c, node_c _ _ (leafC_length _) (leafC_length _), node_c _ _ (nodeC_length _ _) (leafC_length _), node_c _ _ (nodeC_length _ _) (leafC_length _)]
    exact arr_ne ne_check
  unfold Tr.check
  rw [show Int.toNat 3 = 3 from rfl, show Int.toNat 2 = 2 from rfl, decide_eq_false h, Bool.and_false]
theorem extends_exL_yes : Tr.extends' (Tr.leaf ⟨#[97]⟩) 1 (Tr.root exL) 3 (Tr.Link exL 1) = true := by
  have := extends_link exL 1 (by decide) (by decide)
  rwa [show exL.take 1 = [⟨#[97]⟩] from rfl, Tr.root_one] at this
theorem extends_exL_no : Tr.extends' (Tr.leaf ⟨#[98]⟩) 1 (Tr.root exL) 3 (Tr.Link exL 1) = false := by
  have h : ¬ (Tr.both 3 1 true (Tr.leaf ⟨#[98]⟩) (Tr.Link exL 1)).2 = Tr.root exL := by
    rw [link_exL1, root_exL, Tr.both_lo true _ _ (by decide) (by decide) (by rw [half3]; decide), half3, Tr.both_lo true _ _ (by decide) (by decide) (by rw [half2]; decide), half2, Tr.both_all]
    show ¬ Tr.node (Tr.node (Tr.leaf ⟨#[98]⟩) (Tr.leaf ⟨#[98]⟩)) (Tr.leaf ⟨#[99]⟩) = _
    rw [leaf_c, leaf_c, leaf_c, node_c _ _ (leafC_length _) (leafC_length _), node_c _ _ (leafC_length _) (leafC_length _), node_c _ _ (nodeC_length _ _) (leafC_length _), node_c _ _ (nodeC_length _ _) (leafC_length _)]
    exact arr_ne ne_extends
  unfold Tr.extends'
  rw [show Int.toNat 3 = 3 from rfl, show Int.toNat 1 = 1 from rfl, decide_eq_false h, Bool.and_false]
  simp
end Go.Proofs.YtkakbookioimhaaDoor
