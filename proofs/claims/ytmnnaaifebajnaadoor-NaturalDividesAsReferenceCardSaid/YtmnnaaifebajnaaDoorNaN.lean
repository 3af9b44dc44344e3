/- The laws' head; what all laws of natural numbers use. -/
import Derived.Test.YtmnnaaifebajnaaDoorNaO
import Derived.Test.YtmnnaaifebajnaaDoorNaLO
set_option linter.unusedSimpArgs false
set_option linter.unusedVariables false
namespace Go.Proofs.YtmnnaaifebajnaaDoor
open Go.RowKit
set_option maxRecDepth 100000

def s12 : ByteArray := ⟨#[49, 50]⟩

theorem head_any (w : World) (hp : Pow w.heap.size w) :
    Calls Tryd.prog 5 #[] w fun e w' => e = .returned (.bool true) ∧ Below w.heap.size w w' := by
  have HPW := Lib.hid (fun (v : World) (hb : Below w.heap.size w v) => hp.bt hb)
  have z (s : ByteArray) (h : s.size ≤ 300) : s.size ≤ maxLen := by unfold maxLen; omega
  have C1 : Hid (∀ v, Below w.heap.size w v → Calls Tryd.prog 18 #[.string ⟨#[49, 50]⟩, .string ⟨#[49, 50]⟩] v fun e w' => e = .returned (.tuple #[.string ⟨#[49, 52, 52]⟩, .int .i64 0]) ∧ Below v.heap.size v w') := by
    refine Lib.hid fun v hb => ?_
    have := mulF ⟨#[49, 50]⟩ ⟨#[49, 50]⟩ v (z _ (by decide)) (z _ (by decide)) (HPW.out v hb)
    rw [opF_ok _ _ _ (by decide) (by decide) (small (by decide)), show nv ⟨#[49, 50]⟩ * nv ⟨#[49, 50]⟩ = 144 by decide, tx_of [49, 52, 52] 144 (by decide) (by decide)] at this
    exact this
  have C2 : Hid (∀ v, Below w.heap.size w v → Calls Tryd.prog 16 #[.string ⟨#[53]⟩, .string ⟨#[55]⟩] v fun e w' => e = .returned (.tuple #[.string nil', .int .i64 10]) ∧ Below v.heap.size v w') := by
    refine Lib.hid fun v hb => ?_
    have := subtractF ⟨#[53]⟩ ⟨#[55]⟩ v (z _ (by decide)) (z _ (by decide)) (HPW.out v hb)
    rw [show subF ⟨#[53]⟩ ⟨#[55]⟩ = (nil', 10) by unfold subF; rw [if_pos (by decide), if_pos (by decide)]] at this
    exact this
  have C3 : Hid (∀ v, Below w.heap.size w v → Calls Tryd.prog 20 #[.string ⟨#[49, 48, 48]⟩, .string ⟨#[55]⟩] v fun e w' => e = .returned (.tuple #[.string ⟨#[49, 52]⟩, .string ⟨#[50]⟩, .int .i64 0]) ∧ Below v.heap.size v w') := by
    refine Lib.hid fun v hb => ?_
    have := divideF ⟨#[49, 48, 48]⟩ ⟨#[55]⟩ v (z _ (by decide)) (z _ (by decide)) (HPW.out v hb)
    rw [show divF ⟨#[49, 48, 48]⟩ ⟨#[55]⟩ = (⟨#[49, 52]⟩, ⟨#[50]⟩, 0) by
      unfold divF
      rw [if_pos (by decide), if_neg (by decide), show nv ⟨#[49, 48, 48]⟩ / nv ⟨#[55]⟩ = 14 by decide, show nv ⟨#[49, 48, 48]⟩ % nv ⟨#[55]⟩ = 2 by decide, tx_of [49, 52] 14 (by decide) (by decide), tx_of [50] 2 (by decide) (by decide)]] at this
    exact this
  have C4 : Hid (∀ v, Below w.heap.size w v → Calls Tryd.prog 20 #[.string ⟨#[55]⟩, .string ⟨#[48]⟩] v fun e w' => e = .returned (.tuple #[.string nil', .string nil', .int .i64 15]) ∧ Below v.heap.size v w') := by
    refine Lib.hid fun v hb => ?_
    have := divideF ⟨#[55]⟩ ⟨#[48]⟩ v (z _ (by decide)) (z _ (by decide)) (HPW.out v hb)
    rw [show divF ⟨#[55]⟩ ⟨#[48]⟩ = (nil', nil', 15) by
      unfold divF
      rw [if_pos (by decide), if_pos (by decide)]] at this
    exact this
  have C5 : Hid (∀ v, Below w.heap.size w v → Calls Tryd.prog 22 #[.string ⟨#[49, 50]⟩, .string ⟨#[49, 56]⟩] v fun e w' => e = .returned (.tuple #[.string ⟨#[54]⟩, .int .i64 0]) ∧ Below v.heap.size v w') := by
    refine Lib.hid fun v hb => ?_
    have := gcdF ⟨#[49, 50]⟩ ⟨#[49, 56]⟩ v (z _ (by decide)) (z _ (by decide)) (HPW.out v hb)
    rw [opF_ok _ _ _ (by decide) (by decide) (small (by decide)), show Nat.gcd (nv ⟨#[49, 50]⟩) (nv ⟨#[49, 56]⟩) = 6 by decide, tx_of [54] 6 (by decide) (by decide)] at this
    exact this
  have C6 : Hid (∀ v, Below w.heap.size w v → Calls Tryd.prog 22 #[.string ⟨#[48]⟩, .string ⟨#[48]⟩] v fun e w' => e = .returned (.tuple #[.string ⟨#[48]⟩, .int .i64 0]) ∧ Below v.heap.size v w') := by
    refine Lib.hid fun v hb => ?_
    have := gcdF ⟨#[48]⟩ ⟨#[48]⟩ v (z _ (by decide)) (z _ (by decide)) (HPW.out v hb)
    rw [opF_ok _ _ _ (by decide) (by decide) (small (by decide)), show Nat.gcd (nv ⟨#[48]⟩) (nv ⟨#[48]⟩) = 0 by decide, tx_of [48] 0 (by decide) (by decide)] at this
    exact this
  have C7 : Hid (∀ v, Below w.heap.size w v → Calls Tryd.prog 6 #[.string ⟨#[57, 50, 50, 51, 51, 55, 50, 48, 51, 54, 56, 53, 52, 55, 55, 53, 56, 48, 56]⟩] v fun e w' => e = .returned (.tuple #[.int .i64 0, .int .i64 10]) ∧ Below v.heap.size v w') := by
    refine Lib.hid fun v hb => ?_
    have := integerF ⟨#[57, 50, 50, 51, 51, 55, 50, 48, 51, 54, 56, 53, 52, 55, 55, 53, 56, 48, 56]⟩ v (z _ (by decide)) (HPW.out v hb)
    rw [show intF ⟨#[57, 50, 50, 51, 51, 55, 50, 48, 51, 54, 56, 53, 52, 55, 55, 53, 56, 48, 56]⟩ = (0, 10) by
      unfold intF
      rw [if_pos (by decide), if_neg (by decide)]] at this
    exact this
  have C8 := Lib.hid (fun v => of_neg (-1) v (by omega))
  have IS : Hid (∀ v (s : ByteArray) (b : Bool), s.size ≤ 300 → isB s = b → Calls Tryd.prog 10 #[.string s] v fun e w' => e = .returned (.bool b) ∧ Below v.heap.size v w') := by
    refine Lib.hid fun v s b h hb => ?_
    rw [← hb]
    exact is_any s v (z s h)
  clear hp z
  go_enter Tryd.func5, Tryd.ntmps5
  go_wp2_with fail
  refine (C1.out w (Below.refl _ _)).mono ?_
  rintro e w1 ⟨rfl, hb1⟩
  go_wp2_with fail
  refine (C2.out w1 hb1).mono ?_
  rintro e w2 ⟨rfl, hb2⟩
  have hb2' := Nb hb1 hb2
  go_wp2_with fail
  refine (C3.out w2 hb2').mono ?_
  rintro e w3 ⟨rfl, hb3⟩
  have hb3' := Nb hb2' hb3
  go_wp2_with fail
  refine (C4.out w3 hb3').mono ?_
  rintro e w4 ⟨rfl, hb4⟩
  have hb4' := Nb hb3' hb4
  go_wp2_with fail
  refine (C5.out w4 hb4').mono ?_
  rintro e w5 ⟨rfl, hb5⟩
  have hb5' := Nb hb4' hb5
  go_wp2_with fail
  refine (C6.out w5 hb5').mono ?_
  rintro e w6 ⟨rfl, hb6⟩
  have hb6' := Nb hb5' hb6
  go_wp2_with fail
  refine (C7.out w6 hb6').mono ?_
  rintro e w7 ⟨rfl, hb7⟩
  have hb7' := Nb hb6' hb7
  go_wp2_with fail
  refine (C8.out w7).mono ?_
  rintro e w8 ⟨rfl, hb8⟩
  have hb8' := Nb hb7' hb8
  go_wp2_with fail
  refine (IS.out w8 ⟨#[48]⟩ true (by decide) (by decide)).mono ?_
  rintro e w9 ⟨rfl, hb9⟩
  have hb9' := Nb hb8' hb9
  go_wp2_with fail
  refine (IS.out w9 ⟨#[48, 48]⟩ false (by decide) (by decide)).mono ?_
  rintro e w10 ⟨rfl, hb10⟩
  have hb10' := Nb hb9' hb10
  go_wp2_with fail
  refine (IS.out w10 ⟨#[]⟩ false (by decide) (by decide)).mono ?_
  rintro e w11 ⟨rfl, hb11⟩
  have hb11' := Nb hb10' hb11
  go_wp2_with fail
  refine (IS.out w11 ⟨#[49, 50]⟩ true (by decide) (by decide)).mono ?_
  rintro e w12 ⟨rfl, hb12⟩
  have hb12' := Nb hb11' hb12
  go_wp2_with fail
  go_ret
  exact ⟨rfl, hb12'⟩
end Go.Proofs.YtmnnaaifebajnaaDoor
