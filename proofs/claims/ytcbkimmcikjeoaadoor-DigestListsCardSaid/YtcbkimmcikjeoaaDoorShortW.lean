/- P1.3: the walk of DigestShort. -/
import Derived.Test.YtcbkimmcikjeoaaDoorDgPow
import Derived.Test.YtcbkimmcikjeoaaDoorDgH
import Derived.Test.YtcbkimmcikjeoaaDoorDgInj
import Derived.Test.YtcbkimmcikjeoaaDoorDgT
import Derived.WalkKit
namespace Go.Proofs.YtcbkimmcikjeoaaDoor
open Go.ChangeShapes Go.WideShapes Go.ChangeAt Go.WideMaps Go.WideElems Go.RowKit

theorem bytes_beq (x y : ByteArray) : (x.toList == y.toList) = decide (x = y) := by
  by_cases h : x = y
  · subst h
    simp
  · rw [bytes_ne h, decide_eq_false h]

theorem short_eq {x y : ByteArray} (hx : x.size ≤ 7) (hy : y.size ≤ 7) : (Dg.sum x.data.toList == Dg.sum y.data.toList) = (x.toList == y.toList) := by
  rw [ByteArray.toList_eq, ByteArray.toList_eq, Bool.eq_iff_iff, beq_iff_eq, beq_iff_eq]
  exact Dg.sum_short (by simpa using hx) (by simpa using hy)

theorem short_walk (a b : ByteArray) (W : World) (hp : Pow W.heap.size W) (_ : a.size ≤ maxLen) (_ : b.size ≤ maxLen) :
    Calls Tryd.prog 6 #[.string a, .string b] W fun e w' => e = .returned (.bool true) ∧ Below W.heap.size W w' := by
  go_enter Tryd.func6, Tryd.ntmps6
  go_wp2_with fail
  refine (head_any W hp).mono ?_
  rintro e w1 ⟨rfl, hb1⟩
  go_wp2_with fail
  have hx : (a.extract 0 (min (a.size : Int) 7).toNat).size ≤ 7 := by simp; omega
  have hy : (b.extract 0 (min (b.size : Int) 7).toNat).size ≤ 7 := by simp; omega
  generalize a.extract 0 (min (a.size : Int) 7).toNat = x at *
  generalize b.extract 0 (min (b.size : Int) 7).toNat = y at *
  refine (sum_any x w1 (by unfold maxLen; omega)).mono ?_
  rintro e w2 ⟨rfl, hb2⟩
  go_wp2_with fail
  refine (sum_any y w2 (by unfold maxLen; omega)).mono ?_
  rintro e w3 ⟨rfl, hb3⟩
  have he := short_eq hx hy
  go_wp2
  go_ret
  have c1 := hb1.size
  have c2 := hb2.size
  exact ⟨by simp, hb1.trans ((hb2.mono (by omega)).trans (hb3.mono (by omega)))⟩

end Go.Proofs.YtcbkimmcikjeoaaDoor
