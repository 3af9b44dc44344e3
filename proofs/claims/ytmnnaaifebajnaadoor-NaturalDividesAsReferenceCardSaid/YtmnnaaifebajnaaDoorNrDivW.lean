/- NaturalDividesAsReference walked. Printed by gen/genNref.py. -/
import Derived.Test.YtmnnaaifebajnaaDoorNrG
set_option linter.unusedSimpArgs false
set_option linter.unusedVariables false
namespace Go.Proofs.YtmnnaaifebajnaaDoor
open Go.RowKit
set_option maxRecDepth 100000

set_option maxHeartbeats 4000000 in
theorem nrDivW (a b : ByteArray) (W : World) (hp : Pow W.heap.size W) (L_a : a.size ≤ maxLen) (L_b : b.size ≤ maxLen) :
    Calls Tryd.prog 4 #[.string a, .string b] W fun e w' => e = .returned (.bool true) ∧ Below W.heap.size W w' := by
  have HPW := Lib.hid (fun (v : World) (hb : Below W.heap.size W v) => hp.bt hb)
  clear hp
  have L_a' := L_a
  have L_b' := L_b
  unfold maxLen at L_a' L_b'
  have C0 : Hid (∀ v, Below W.heap.size W v → Calls Tryd.prog 5 #[] v fun e w' => e = .returned (.bool true) ∧ Below v.heap.size v w') := Lib.hid fun v hb => head_any v (HPW.out v hb)
  by_cases za : 400 < a.size
  · have za2 : (400 : Int) < (a.size : Int) := by have := L_a; omega
    go_enter Tryd.func4, Tryd.ntmps4
    go_wp2_with fail
    refine (C0.out W (Below.refl W.heap.size W)).mono ?_
    rintro e w1 ⟨rfl, hb1⟩
    have hc1 := Nb (Below.refl W.heap.size W) hb1
    go_wp2_with fail
    go_ret
    exact ⟨rfl, hc1⟩
  have za2 : ¬ (400 : Int) < (a.size : Int) := by omega
  by_cases zb : 400 < b.size
  · have zb2 : (400 : Int) < (b.size : Int) := by have := L_b; omega
    go_enter Tryd.func4, Tryd.ntmps4
    go_wp2_with fail
    refine (C0.out W (Below.refl W.heap.size W)).mono ?_
    rintro e w1 ⟨rfl, hb1⟩
    have hc1 := Nb (Below.refl W.heap.size W) hb1
    go_wp2_with fail
    go_ret
    exact ⟨rfl, hc1⟩
  have zb2 : ¬ (400 : Int) < (b.size : Int) := by omega
  obtain ⟨q, r, e1, h1⟩ : ∃ u1 u2 u3, divF a b = (u1, u2, u3) := ⟨_, _, _, rfl⟩
  have L_q : q.size ≤ maxLen := by have := (div_len a b).1; rwa [h1] at this
  have L_r : r.size ≤ maxLen := by have := (div_len a b).2; rwa [h1] at this
  have C1 : Hid (∀ v, Below W.heap.size W v → Calls Tryd.prog 20 #[.string a, .string b] v fun e w' => e = .returned (.tuple #[.string q, .string r, .int .i64 e1]) ∧ Below v.heap.size v w') := Lib.hid fun v hb => by have := divideF a b v L_a L_b (HPW.out v hb); rwa [h1] at this
  have C2 : Hid (∀ v, Below W.heap.size W v → Calls Tryd.prog 21 #[.string a, .string b] v fun e w' => e = .returned (.tuple #[.string q, .string r, .int .i64 e1]) ∧ Below v.heap.size v w') := Lib.hid fun v hb => by have := rdiv_any a b v (by omega) (by omega); rwa [h1] at this
  obtain ⟨d, e3, h3⟩ : ∃ u1 u2, opF Nat.gcd a b = (u1, u2) := ⟨_, _, rfl⟩
  have L_d : d.size ≤ maxLen := by have := op_len Nat.gcd a b; rwa [h3] at this
  have C3 : Hid (∀ v, Below W.heap.size W v → Calls Tryd.prog 22 #[.string a, .string b] v fun e w' => e = .returned (.tuple #[.string d, .int .i64 e3]) ∧ Below v.heap.size v w') := Lib.hid fun v hb => by have := gcdF a b v L_a L_b (HPW.out v hb); rwa [h3] at this
  have C4 : Hid (∀ v, Below W.heap.size W v → Calls Tryd.prog 23 #[.string a, .string b] v fun e w' => e = .returned (.tuple #[.string d, .int .i64 e3]) ∧ Below v.heap.size v w') := Lib.hid fun v hb => by have := rgcd_any a b v (by omega) (by omega); rwa [h3] at this
  clear h1 h3 za zb
  go_enter Tryd.func4, Tryd.ntmps4
  go_wp2_with fail
  refine (C0.out W (Below.refl W.heap.size W)).mono ?_
  rintro e w1 ⟨rfl, hb1⟩
  have hc1 := Nb (Below.refl W.heap.size W) hb1
  go_wp2_with fail
  refine (C1.out w1 hc1).mono ?_
  rintro e w2 ⟨rfl, hb2⟩
  have hc2 := Nb hc1 hb2
  go_wp2_with fail
  refine (C2.out w2 hc2).mono ?_
  rintro e w3 ⟨rfl, hb3⟩
  have hc3 := Nb hc2 hb3
  go_wp2_with fail
  refine (C3.out w3 hc3).mono ?_
  rintro e w4 ⟨rfl, hb4⟩
  have hc4 := Nb hc3 hb4
  go_wp2_with fail
  refine (C4.out w4 hc4).mono ?_
  rintro e w5 ⟨rfl, hb5⟩
  have hc5 := Nb hc4 hb5
  go_wp2_with fail
  go_ret
  exact ⟨rfl, hc5⟩
end Go.Proofs.YtmnnaaifebajnaaDoor
