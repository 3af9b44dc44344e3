/- The fixed examples that every law of layer 1 begins with. -/
import Derived.Test.YtcbkimmcikjeoaaDoorProg
import Derived.Test.YtcbkimmcikjeoaaDoorDgMath
import Derived.Test.YtcbkimmcikjeoaaDoorDgC
import Derived.Test.YtcbkimmcikjeoaaDoorDgD
import Derived.Test.YtcbkimmcikjeoaaDoorDgE
import Derived.Test.YtcbkimmcikjeoaaDoorDgF
import Derived.Test.YtcbkimmcikjeoaaDoorStrs
import Derived.WalkKit
import Derived.Below
import Derived.Outline
import Derived.Lib.Hide
namespace Go.Proofs.YtcbkimmcikjeoaaDoor
open Go.RowKit

theorem is_lit (l : List UInt8) (b : Bool) (h : Dg.isDigest l = b) (w : World) :
    Calls Tryd.prog 18 #[.string ⟨l.toArray⟩] w fun e w' => e = .returned (.bool b) ∧ w = w' := by
  subst h
  simpa using is_any ⟨l.toArray⟩ w

theorem sum_lit (l : List UInt8) (w : World) (h : l.length ≤ 140737488355328) :
    Calls Tryd.prog 12 #[.string ⟨l.toArray⟩] w fun e w' => e = .returned (.string ⟨(Dg.sum l).toArray⟩) ∧ Below w.heap.size w w' := by
  simpa using sum_any ⟨l.toArray⟩ w (by rw [bsize]; unfold maxLen; omega)

theorem chain_lit (l : List UInt8) (n : Int) (w : World) (h : l.length ≤ 140737488355328) (m : List UInt8) (hm : Dg.chain l (min n 1000).toNat = m) :
    Calls Tryd.prog 16 #[.string ⟨l.toArray⟩, .int .i64 n] w fun e w' => e = .returned (.string ⟨m.toArray⟩) ∧ Below w.heap.size w w' := by
  subst hm
  simpa using chain_any ⟨l.toArray⟩ n w (by rw [bsize]; unfold maxLen; omega)

theorem joined_example : joined [⟨#[97]⟩, ⟨#[98, 99]⟩] = [49, 58, 97, 50, 58, 98, 99] := by
  have e1 : Lib.decDigits (ByteArray.size ⟨#[97]⟩) = [49] := Lib.decDigits_one (by decide)
  have e2 : Lib.decDigits (ByteArray.size ⟨#[98, 99]⟩) = [50] := Lib.decDigits_one (by decide)
  unfold joined part
  rw [List.map_cons, List.map_cons, e1, e2]
  rfl

theorem list_example (W : World) (hp : Pow W.heap.size W) :
    Calls Tryd.prog 14 #[.slice (some ⟨W.heap.size, 0, none⟩) 2 2] (W.alloc (.cells #[.string ⟨#[97]⟩, .string ⟨#[98, 99]⟩] 9)) fun e w' => e = .returned (.string ⟨(Dg.sum [49, 58, 97, 50, 58, 98, 99]).toArray⟩) ∧ Below W.heap.size W w' := by
  have hb : Below W.heap.size W (W.alloc (.cells #[.string ⟨#[97]⟩, .string ⟨#[98, 99]⟩] 9)) := (Below.refl _ _).alloc (Nat.le_refl _) _
  have hs : Strs (W.alloc (.cells #[.string ⟨#[97]⟩, .string ⟨#[98, 99]⟩] 9)) (W.alloc (.cells #[.string ⟨#[97]⟩, .string ⟨#[98, 99]⟩] 9)).heap.size (some ⟨W.heap.size, 0, none⟩) [⟨#[97]⟩, ⟨#[98, 99]⟩] := by
    intro k hk
    refine ⟨_, rfl, by simp, ?_⟩
    match k, hk with
    | 0, _ => simp [Addr.add]
    | 1, _ => simp [Addr.add]
  have hpa := hp.below hb (Nat.le_refl _)
  refine (list_any (some ⟨W.heap.size, 0, none⟩) 2 [⟨#[97]⟩, ⟨#[98, 99]⟩] _ hs (by unfold maxLen; decide) (by rw [joined_example]; decide) ⟨hpa.1, Nat.lt_of_lt_of_le hpa.2 hb.size⟩).mono ?_
  rintro e w1 ⟨rfl, hb1⟩
  rw [joined_example]
  exact ⟨rfl, hb.trans (hb1.mono hb.size)⟩

theorem neq1 : (Dg.sum [] == Dg.sum [0]) = false := by decide +kernel
theorem neq2 : (Dg.sum [1] == Dg.sum []) = false := by decide +kernel

set_option maxRecDepth 100000 in
theorem head_any (w : World) (hp : Pow w.heap.size w) :
    Calls Tryd.prog 10 #[] w fun e w' => e = .returned (.bool true) ∧ Below w.heap.size w w' := by
  go_enter Tryd.func10, Tryd.ntmps10
  go_wp2_with fail
  refine (is_lit [48, 49, 50, 51, 52, 53, 54, 55, 56, 57, 97, 98, 99, 100, 101, 102] true (by decide) w).mono ?_
  rintro e w' ⟨rfl, rfl⟩
  go_wp2_with fail
  refine (is_lit [48, 49, 50, 51, 52, 53, 54, 55, 56, 57, 97, 98, 99, 100, 101, 70] false (by decide) w).mono ?_
  rintro e w' ⟨rfl, rfl⟩
  go_wp2_with fail
  refine (is_lit [] false (by decide) w).mono ?_
  rintro e w' ⟨rfl, rfl⟩
  go_wp2_with fail
  refine (list_example w hp).mono ?_
  rintro e w1 ⟨rfl, hb1⟩
  go_wp2_with fail
  refine (sum_lit [49, 58, 97, 50, 58, 98, 99] _ (by decide)).mono ?_
  rintro e w2 ⟨rfl, hb2⟩
  go_wp2_with fail
  refine (chain_lit [120] 0 _ (by decide) [120] rfl).mono ?_
  rintro e w3 ⟨rfl, hb3⟩
  go_wp2_with fail
  refine (chain_lit [120] 2 _ (by decide) (Dg.sum (Dg.sum [120])) rfl).mono ?_
  rintro e w4 ⟨rfl, hb4⟩
  go_wp2_with fail
  refine (sum_lit [120] _ (by decide)).mono ?_
  rintro e w5 ⟨rfl, hb5⟩
  go_wp2_with fail
  refine (sum_lit (Dg.sum [120]) _ (by rw [Dg.sum_length]; decide)).mono ?_
  rintro e w6 ⟨rfl, hb6⟩
  go_wp2_with fail
  refine (sum_lit [] _ (by decide)).mono ?_
  rintro e w7 ⟨rfl, hb7⟩
  go_wp2_with fail
  refine (sum_lit [0] _ (by decide)).mono ?_
  rintro e w8 ⟨rfl, hb8⟩
  have n1 := neq1
  go_wp2_with fail
  refine (sum_lit [1] _ (by decide)).mono ?_
  rintro e w9 ⟨rfl, hb9⟩
  go_wp2_with fail
  refine (sum_lit [] _ (by decide)).mono ?_
  rintro e w10 ⟨rfl, hb10⟩
  have n2 := neq2
  go_wp2
  go_ret
  have c1 := hb1.size
  have c2 := hb2.size
  have c3 := hb3.size
  have c4 := hb4.size
  have c5 := hb5.size
  have c6 := hb6.size
  have c7 := hb7.size
  have c8 := hb8.size
  have c9 := hb9.size
  exact ⟨rfl, hb1.trans ((hb2.mono (by omega)).trans ((hb3.mono (by omega)).trans ((hb4.mono (by omega)).trans ((hb5.mono (by omega)).trans ((hb6.mono (by omega)).trans ((hb7.mono (by omega)).trans ((hb8.mono (by omega)).trans ((hb9.mono (by omega)).trans (hb10.mono (by omega))))))))))⟩
end Go.Proofs.YtcbkimmcikjeoaaDoor
