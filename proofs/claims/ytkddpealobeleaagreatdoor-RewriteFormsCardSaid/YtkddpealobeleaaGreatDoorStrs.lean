/- A slice of strings that came in, said in one word; what is kept of it, and of a table, while new memory is made. -/
import Derived.Below
import Derived.Lib.LaidTab
import Derived.Lib.ItoaNum
namespace Go.Proofs.YtkddpealobeleaaGreatDoor
open Go.RowKit

theorem add_block (a : Addr) (k : Nat) : (a.add k).block = a.block := by
  unfold Addr.add
  split <;> rfl

theorem bsize (l : List UInt8) : (⟨l.toArray⟩ : ByteArray).size = l.length := by simp [ByteArray.size]

/-- The slice at A, below block B, holds the strings ss. -/
def Strs (w : World) (B : Nat) (A : Option Addr) (ss : List ByteArray) : Prop :=
  ∀ k, k < ss.length → ∃ ad, A = some ad ∧ ad.block < B ∧ w.cell? (ad.add k) = some (.string (ss.getD k ByteArray.empty))

theorem Strs.below {w w' : World} {B B' : Nat} {A : Option Addr} {ss : List ByteArray} (h : Strs w B A ss) (hb : Below B' w w') (hB : B ≤ B') : Strs w' B A ss := fun k hk => by
  obtain ⟨ad, rfl, hlt, hc⟩ := h k hk
  exact ⟨ad, rfl, hlt, (hb.cell (p := ad.add k) (by rw [add_block]; omega)).trans hc⟩

theorem tab_below {P : Program} {w w' : World} {name : String} {k : IntKind} {zs : List Int} {g B : Nat} (h : Lib.TabIs P w name k zs) (hg : P.globalNamed name = some g) (hlt : g < B) (hb : Below B w w') :
    Lib.TabIs P w' name k zs := by
  unfold Lib.TabIs World.var? at h ⊢
  rw [hg] at h ⊢
  simp only [Option.bind_some] at h ⊢
  rw [hb.block g hlt]
  exact h

/-- The joined text: each element behind its length and a colon. -/
def part (s : ByteArray) : List UInt8 := Lib.decDigits s.size ++ 58 :: s.data.toList
def joined (ss : List ByteArray) : List UInt8 := (ss.map part).flatten

theorem joined_snoc (ss : List ByteArray) (k : Nat) (h : k < ss.length) : joined (ss.take (k + 1)) = joined (ss.take k) ++ part (ss.getD k ByteArray.empty) := by
  have e : ss.take (k + 1) = ss.take k ++ [ss.getD k ByteArray.empty] := by
    rw [List.take_add_one, List.getElem?_eq_getElem h, List.getD_eq_getElem?_getD, List.getElem?_eq_getElem h]
    rfl
  unfold joined
  rw [e, List.map_append, List.flatten_append, List.map_singleton, List.flatten_singleton]

theorem joined_take_le (ss : List ByteArray) (k : Nat) : (joined (ss.take k)).length ≤ (joined ss).length := by
  conv => rhs; rw [← List.take_append_drop k ss]
  unfold joined
  rw [List.map_append, List.flatten_append, List.length_append]
  omega
end Go.Proofs.YtkddpealobeleaaGreatDoor
