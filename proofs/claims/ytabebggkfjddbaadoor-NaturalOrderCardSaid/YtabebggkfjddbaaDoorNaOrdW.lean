/- NaturalOrder walked: all ways. -/
import Derived.Test.YtabebggkfjddbaaDoorNaOrdG
import Derived.Test.YtabebggkfjddbaaDoorNaOrdEG
import Derived.Test.YtabebggkfjddbaaDoorNaOrdEL
import Derived.Test.YtabebggkfjddbaaDoorNaOrdLG
import Derived.Test.YtabebggkfjddbaaDoorNaOrdLL
set_option linter.unusedSimpArgs false
set_option linter.unusedVariables false
namespace Go.Proofs.YtabebggkfjddbaaDoor
open Go.RowKit
set_option maxRecDepth 100000


set_option maxHeartbeats 1000000 in
theorem orderW (a b c : ByteArray) (W : World) (hp : Pow W.heap.size W) (L_a : a.size ≤ maxLen) (L_b : b.size ≤ maxLen) (L_c : c.size ≤ maxLen) :
    Calls Tryd.prog 7 #[.string a, .string b, .string c] W fun e w' => e = .returned (.bool true) ∧ Below W.heap.size W w' := by
  have HPW := Lib.hid (fun (v : World) (hb : Below W.heap.size W v) => hp.bt hb)
  clear hp
  by_cases hB_a : isB a = true
  rotate_left
  · replace hB_a : isB a = false := by simpa using hB_a
    have C0 : Hid (∀ v, Below W.heap.size W v → Calls Tryd.prog 13 #[] v fun e w' => e = .returned (.bool true) ∧ Below v.heap.size v w') := Lib.hid fun v hb => head_any v (HPW.out v hb)
    have C1 : Hid (∀ v, Below W.heap.size W v → Calls Tryd.prog 18 #[.string a] v fun e w' => e = .returned (.bool false) ∧ Below v.heap.size v w') := Lib.hid fun v hb => by have := is_any a v L_a; rwa [hB_a] at this
    go_enter Tryd.func7, Tryd.ntmps7
    go_wp2_with fail
    refine (C0.out W (Below.refl W.heap.size W)).mono ?_
    rintro e w1 ⟨rfl, hb1⟩
    have hc1 := Nb (Below.refl W.heap.size W) hb1
    go_wp2_with fail
    refine (C1.out w1 hc1).mono ?_
    rintro e w2 ⟨rfl, hb2⟩
    have hc2 := Nb hc1 hb2
    go_wp2_with fail
    go_ret
    exact ⟨rfl, hc2⟩
  by_cases hB_b : isB b = true
  rotate_left
  · replace hB_b : isB b = false := by simpa using hB_b
    have C0 : Hid (∀ v, Below W.heap.size W v → Calls Tryd.prog 13 #[] v fun e w' => e = .returned (.bool true) ∧ Below v.heap.size v w') := Lib.hid fun v hb => head_any v (HPW.out v hb)
    have C1 : Hid (∀ v, Below W.heap.size W v → Calls Tryd.prog 18 #[.string a] v fun e w' => e = .returned (.bool true) ∧ Below v.heap.size v w') := Lib.hid fun v hb => by have := is_any a v L_a; rwa [hB_a] at this
    have C2 : Hid (∀ v, Below W.heap.size W v → Calls Tryd.prog 18 #[.string b] v fun e w' => e = .returned (.bool false) ∧ Below v.heap.size v w') := Lib.hid fun v hb => by have := is_any b v L_b; rwa [hB_b] at this
    go_enter Tryd.func7, Tryd.ntmps7
    go_wp2_with fail
    refine (C0.out W (Below.refl W.heap.size W)).mono ?_
    rintro e w1 ⟨rfl, hb1⟩
    have hc1 := Nb (Below.refl W.heap.size W) hb1
    go_wp2_with fail
    refine (C1.out w1 hc1).mono ?_
    rintro e w2 ⟨rfl, hb2⟩
    have hc2 := Nb hc1 hb2
    go_wp2_with fail
    refine (C2.out w2 hc2).mono ?_
    rintro e w3 ⟨rfl, hb3⟩
    have hc3 := Nb hc2 hb3
    go_wp2_with fail
    go_ret
    exact ⟨rfl, hc3⟩
  by_cases hB_c : isB c = true
  rotate_left
  · replace hB_c : isB c = false := by simpa using hB_c
    have C0 : Hid (∀ v, Below W.heap.size W v → Calls Tryd.prog 13 #[] v fun e w' => e = .returned (.bool true) ∧ Below v.heap.size v w') := Lib.hid fun v hb => head_any v (HPW.out v hb)
    have C1 : Hid (∀ v, Below W.heap.size W v → Calls Tryd.prog 18 #[.string a] v fun e w' => e = .returned (.bool true) ∧ Below v.heap.size v w') := Lib.hid fun v hb => by have := is_any a v L_a; rwa [hB_a] at this
    have C2 : Hid (∀ v, Below W.heap.size W v → Calls Tryd.prog 18 #[.string b] v fun e w' => e = .returned (.bool true) ∧ Below v.heap.size v w') := Lib.hid fun v hb => by have := is_any b v L_b; rwa [hB_b] at this
    have C3 : Hid (∀ v, Below W.heap.size W v → Calls Tryd.prog 18 #[.string c] v fun e w' => e = .returned (.bool false) ∧ Below v.heap.size v w') := Lib.hid fun v hb => by have := is_any c v L_c; rwa [hB_c] at this
    go_enter Tryd.func7, Tryd.ntmps7
    go_wp2_with fail
    refine (C0.out W (Below.refl W.heap.size W)).mono ?_
    rintro e w1 ⟨rfl, hb1⟩
    have hc1 := Nb (Below.refl W.heap.size W) hb1
    go_wp2_with fail
    refine (C1.out w1 hc1).mono ?_
    rintro e w2 ⟨rfl, hb2⟩
    have hc2 := Nb hc1 hb2
    go_wp2_with fail
    refine (C2.out w2 hc2).mono ?_
    rintro e w3 ⟨rfl, hb3⟩
    have hc3 := Nb hc2 hb3
    go_wp2_with fail
    refine (C3.out w3 hc3).mono ?_
    rintro e w4 ⟨rfl, hb4⟩
    have hc4 := Nb hc3 hb4
    go_wp2_with fail
    go_ret
    exact ⟨rfl, hc4⟩
  rcases Nat.lt_trichotomy (nv a) (nv b) with hx | hx | hx
  · rcases Nat.lt_or_ge (nv c) (nv b) with hz | hz
    · exact orderLG a b c W HPW L_a L_b L_c hB_a hB_b hB_c hx hz
    · exact orderLL a b c W HPW L_a L_b L_c hB_a hB_b hB_c hx hz
  · rcases Nat.lt_or_ge (nv c) (nv b) with hz | hz
    · exact orderEG a b c W HPW L_a L_b L_c hB_a hB_b hB_c hx hz
    · exact orderEL a b c W HPW L_a L_b L_c hB_a hB_b hB_c hx hz
  · exact orderG a b c W HPW L_a L_b L_c hB_a hB_b hB_c hx
end Go.Proofs.YtabebggkfjddbaaDoor
