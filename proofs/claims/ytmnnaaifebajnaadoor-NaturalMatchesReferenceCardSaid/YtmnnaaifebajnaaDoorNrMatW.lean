/- NaturalMatchesReference walked. Printed by gen/genNref.py. -/
import Derived.Test.YtmnnaaifebajnaaDoorNrG
set_option linter.unusedSimpArgs false
set_option linter.unusedVariables false
namespace Go.Proofs.YtmnnaaifebajnaaDoor
open Go.RowKit
set_option maxRecDepth 100000

set_option maxHeartbeats 4000000 in
theorem nrMatW (a b : ByteArray) (n : Int) (W : World) (hp : Pow W.heap.size W) (L_a : a.size ≤ maxLen) (L_b : b.size ≤ maxLen) (hn : (Lit.int .i64 n).wf = true) :
    Calls Tryd.prog 3 #[.string a, .string b, .int .i64 n] W fun e w' => e = .returned (.bool true) ∧ Below W.heap.size W w' := by
  have HPW := Lib.hid (fun (v : World) (hb : Below W.heap.size W v) => hp.bt hb)
  clear hp
  have L_a' := L_a
  have L_b' := L_b
  unfold maxLen at L_a' L_b'
  have hn1 : -9223372036854775808 ≤ n ∧ n ≤ 9223372036854775807 := by simpa [Lit.wf, IntKind.min, IntKind.max, IntKind.signed, IntKind.bits] using hn
  clear hn
  have C0 : Hid (∀ v, Below W.heap.size W v → Calls Tryd.prog 5 #[] v fun e w' => e = .returned (.bool true) ∧ Below v.heap.size v w') := Lib.hid fun v hb => head_any v (HPW.out v hb)
  by_cases za : 400 < a.size
  · have za2 : (400 : Int) < (a.size : Int) := by have := L_a; omega
    go_enter Tryd.func3, Tryd.ntmps3
    go_wp2_with fail
    refine (C0.out W (Below.refl W.heap.size W)).mono ?_
    rintro e w1 ⟨rfl, hb1⟩
    have hc1 := Nb (Below.refl W.heap.size W) hb1
    go_wp2_with fail
    go_ret
    exact ⟨rfl, hc1⟩
  have za2 : ¬ (400 : Int) < (a.size : Int) := by omega
  by_cases zb : 400 < b.size
  · have zb2 : (400 : Int) < (b.size : Int) := by have := L_b; omega
    go_enter Tryd.func3, Tryd.ntmps3
    go_wp2_with fail
    refine (C0.out W (Below.refl W.heap.size W)).mono ?_
    rintro e w1 ⟨rfl, hb1⟩
    have hc1 := Nb (Below.refl W.heap.size W) hb1
    go_wp2_with fail
    go_ret
    exact ⟨rfl, hc1⟩
  have zb2 : ¬ (400 : Int) < (b.size : Int) := by omega
  obtain ⟨i1, e1, h1⟩ : ∃ u1 u2, intF a = (u1, u2) := ⟨_, _, rfl⟩
  have C1 : Hid (∀ v, Below W.heap.size W v → Calls Tryd.prog 6 #[.string a] v fun e w' => e = .returned (.tuple #[.int .i64 i1, .int .i64 e1]) ∧ Below v.heap.size v w') := Lib.hid fun v hb => by have := integerF a v L_a (HPW.out v hb); rwa [h1] at this
  have C2 : Hid (∀ v, Below W.heap.size W v → Calls Tryd.prog 7 #[.string a] v fun e w' => e = .returned (.tuple #[.int .i64 i1, .int .i64 e1]) ∧ Below v.heap.size v w') := Lib.hid fun v hb => by have := rint_any a v (by omega); rwa [h1] at this
  obtain ⟨c3, e3, h3⟩ : ∃ u1 u2, cmpF a b = (u1, u2) := ⟨_, _, rfl⟩
  have C3 : Hid (∀ v, Below W.heap.size W v → Calls Tryd.prog 8 #[.string a, .string b] v fun e w' => e = .returned (.tuple #[.int .i64 c3, .int .i64 e3]) ∧ Below v.heap.size v w') := Lib.hid fun v hb => by have := compareF a b v L_a L_b; rwa [h3] at this
  have C4 : Hid (∀ v, Below W.heap.size W v → Calls Tryd.prog 9 #[.string a, .string b] v fun e w' => e = .returned (.tuple #[.int .i64 c3, .int .i64 e3]) ∧ Below v.heap.size v w') := Lib.hid fun v hb => by have := rcompare_any a b v (by omega) (by omega); rwa [h3] at this
  obtain ⟨x9, e9, h9⟩ : ∃ u1 u2, opF (fun m n => m + n) a b = (u1, u2) := ⟨_, _, rfl⟩
  have L_x9 : x9.size ≤ maxLen := by have := op_len (fun m n => m + n) a b; rwa [h9] at this
  have C9 : Hid (∀ v, Below W.heap.size W v → Calls Tryd.prog 14 #[.string a, .string b] v fun e w' => e = .returned (.tuple #[.string x9, .int .i64 e9]) ∧ Below v.heap.size v w') := Lib.hid fun v hb => by have := addF a b v L_a L_b (HPW.out v hb); rwa [h9] at this
  have C10 : Hid (∀ v, Below W.heap.size W v → Calls Tryd.prog 15 #[.string a, .string b] v fun e w' => e = .returned (.tuple #[.string x9, .int .i64 e9]) ∧ Below v.heap.size v w') := Lib.hid fun v hb => by have := radd_any a b v (by omega) (by omega); rwa [h9] at this
  obtain ⟨x11, e11, h11⟩ : ∃ u1 u2, subF a b = (u1, u2) := ⟨_, _, rfl⟩
  have L_x11 : x11.size ≤ maxLen := by have := sub_len a b; rwa [h11] at this
  have C11 : Hid (∀ v, Below W.heap.size W v → Calls Tryd.prog 16 #[.string a, .string b] v fun e w' => e = .returned (.tuple #[.string x11, .int .i64 e11]) ∧ Below v.heap.size v w') := Lib.hid fun v hb => by have := subtractF a b v L_a L_b (HPW.out v hb); rwa [h11] at this
  have C12 : Hid (∀ v, Below W.heap.size W v → Calls Tryd.prog 17 #[.string a, .string b] v fun e w' => e = .returned (.tuple #[.string x11, .int .i64 e11]) ∧ Below v.heap.size v w') := Lib.hid fun v hb => by have := rsub_any a b v (by omega) (by omega); rwa [h11] at this
  obtain ⟨x13, e13, h13⟩ : ∃ u1 u2, opF (fun m n => m * n) a b = (u1, u2) := ⟨_, _, rfl⟩
  have L_x13 : x13.size ≤ maxLen := by have := op_len (fun m n => m * n) a b; rwa [h13] at this
  have C13 : Hid (∀ v, Below W.heap.size W v → Calls Tryd.prog 18 #[.string a, .string b] v fun e w' => e = .returned (.tuple #[.string x13, .int .i64 e13]) ∧ Below v.heap.size v w') := Lib.hid fun v hb => by have := mulF a b v L_a L_b (HPW.out v hb); rwa [h13] at this
  have C14 : Hid (∀ v, Below W.heap.size W v → Calls Tryd.prog 19 #[.string a, .string b] v fun e w' => e = .returned (.tuple #[.string x13, .int .i64 e13]) ∧ Below v.heap.size v w') := Lib.hid fun v hb => by have := rmul_any a b v (by omega) (by omega); rwa [h13] at this
  have C5 : Hid (∀ v, Below W.heap.size W v → Calls Tryd.prog 10 #[.string a] v fun e w' => e = .returned (.bool (isB a)) ∧ Below v.heap.size v w') := Lib.hid fun v hb => by exact is_any a v L_a
  have C6 : Hid (∀ v, Below W.heap.size W v → Calls Tryd.prog 11 #[.string a] v fun e w' => e = .returned (.bool (isB a)) ∧ Below v.heap.size v w') := Lib.hid fun v hb => by refine (ris_any a v (by omega)).mono ?_; rintro e w' ⟨rfl, rfl⟩; exact ⟨rfl, Below.refl _ _⟩
  generalize isB a = ba at *
  clear h1 h3 h9 h11 h13 za zb L_a' L_b'
  by_cases hn0 : n < 0
  · have C7 : Hid (∀ v, Below W.heap.size W v → Calls Tryd.prog 12 #[.int .i64 n] v fun e w' => e = .returned (.string ⟨#[]⟩) ∧ Below v.heap.size v w') := Lib.hid fun v hb => by exact of_neg n v hn0
    have C8 : Hid (∀ v, Below W.heap.size W v → Calls Tryd.prog 13 #[.int .i64 n] v fun e w' => e = .returned (.string ⟨#[]⟩) ∧ Below v.heap.size v w') := Lib.hid fun v hb => by exact rof_neg n v hn0
    cases ba
    · go_enter Tryd.func3, Tryd.ntmps3
      go_wp2_with fail
      refine (C0.out W (Below.refl W.heap.size W)).mono ?_
      rintro e w1 ⟨rfl, hb1⟩
      have hc1 := Nb (Below.refl W.heap.size W) hb1
      go_wp2_with fail
      refine (C1.out w1 hc1).mono ?_
      rintro e w2 ⟨rfl, hb2⟩
      have hc2 := Nb hc1 hb2
      go_wp2_with fail
      refine (C2.out w2 hc2).mono ?_
      rintro e w3 ⟨rfl, hb3⟩
      have hc3 := Nb hc2 hb3
      go_wp2_with fail
      refine (C3.out w3 hc3).mono ?_
      rintro e w4 ⟨rfl, hb4⟩
      have hc4 := Nb hc3 hb4
      go_wp2_with fail
      refine (C4.out w4 hc4).mono ?_
      rintro e w5 ⟨rfl, hb5⟩
      have hc5 := Nb hc4 hb5
      go_wp2_with fail
      refine (C5.out w5 hc5).mono ?_
      rintro e w6 ⟨rfl, hb6⟩
      have hc6 := Nb hc5 hb6
      go_wp2_with fail
      refine (C6.out w6 hc6).mono ?_
      rintro e w7 ⟨rfl, hb7⟩
      have hc7 := Nb hc6 hb7
      go_wp2_with fail
      refine (C7.out w7 hc7).mono ?_
      rintro e w8 ⟨rfl, hb8⟩
      have hc8 := Nb hc7 hb8
      go_wp2_with fail
      refine (C8.out w8 hc8).mono ?_
      rintro e w9 ⟨rfl, hb9⟩
      have hc9 := Nb hc8 hb9
      go_wp2_with fail
      refine (C9.out w9 hc9).mono ?_
      rintro e w10 ⟨rfl, hb10⟩
      have hc10 := Nb hc9 hb10
      go_wp2_with fail
      refine (C10.out w10 hc10).mono ?_
      rintro e w11 ⟨rfl, hb11⟩
      have hc11 := Nb hc10 hb11
      go_wp2_with fail
      refine (C11.out w11 hc11).mono ?_
      rintro e w12 ⟨rfl, hb12⟩
      have hc12 := Nb hc11 hb12
      go_wp2_with fail
      refine (C12.out w12 hc12).mono ?_
      rintro e w13 ⟨rfl, hb13⟩
      have hc13 := Nb hc12 hb13
      go_wp2_with fail
      refine (C13.out w13 hc13).mono ?_
      rintro e w14 ⟨rfl, hb14⟩
      have hc14 := Nb hc13 hb14
      go_wp2_with fail
      refine (C14.out w14 hc14).mono ?_
      rintro e w15 ⟨rfl, hb15⟩
      have hc15 := Nb hc14 hb15
      go_wp2_with fail
      go_ret
      exact ⟨rfl, hc15⟩
    · go_enter Tryd.func3, Tryd.ntmps3
      go_wp2_with fail
      refine (C0.out W (Below.refl W.heap.size W)).mono ?_
      rintro e w1 ⟨rfl, hb1⟩
      have hc1 := Nb (Below.refl W.heap.size W) hb1
      go_wp2_with fail
      refine (C1.out w1 hc1).mono ?_
      rintro e w2 ⟨rfl, hb2⟩
      have hc2 := Nb hc1 hb2
      go_wp2_with fail
      refine (C2.out w2 hc2).mono ?_
      rintro e w3 ⟨rfl, hb3⟩
      have hc3 := Nb hc2 hb3
      go_wp2_with fail
      refine (C3.out w3 hc3).mono ?_
      rintro e w4 ⟨rfl, hb4⟩
      have hc4 := Nb hc3 hb4
      go_wp2_with fail
      refine (C4.out w4 hc4).mono ?_
      rintro e w5 ⟨rfl, hb5⟩
      have hc5 := Nb hc4 hb5
      go_wp2_with fail
      refine (C5.out w5 hc5).mono ?_
      rintro e w6 ⟨rfl, hb6⟩
      have hc6 := Nb hc5 hb6
      go_wp2_with fail
      refine (C6.out w6 hc6).mono ?_
      rintro e w7 ⟨rfl, hb7⟩
      have hc7 := Nb hc6 hb7
      go_wp2_with fail
      refine (C7.out w7 hc7).mono ?_
      rintro e w8 ⟨rfl, hb8⟩
      have hc8 := Nb hc7 hb8
      go_wp2_with fail
      refine (C8.out w8 hc8).mono ?_
      rintro e w9 ⟨rfl, hb9⟩
      have hc9 := Nb hc8 hb9
      go_wp2_with fail
      refine (C9.out w9 hc9).mono ?_
      rintro e w10 ⟨rfl, hb10⟩
      have hc10 := Nb hc9 hb10
      go_wp2_with fail
      refine (C10.out w10 hc10).mono ?_
      rintro e w11 ⟨rfl, hb11⟩
      have hc11 := Nb hc10 hb11
      go_wp2_with fail
      refine (C11.out w11 hc11).mono ?_
      rintro e w12 ⟨rfl, hb12⟩
      have hc12 := Nb hc11 hb12
      go_wp2_with fail
      refine (C12.out w12 hc12).mono ?_
      rintro e w13 ⟨rfl, hb13⟩
      have hc13 := Nb hc12 hb13
      go_wp2_with fail
      refine (C13.out w13 hc13).mono ?_
      rintro e w14 ⟨rfl, hb14⟩
      have hc14 := Nb hc13 hb14
      go_wp2_with fail
      refine (C14.out w14 hc14).mono ?_
      rintro e w15 ⟨rfl, hb15⟩
      have hc15 := Nb hc14 hb15
      go_wp2_with fail
      go_ret
      exact ⟨rfl, hc15⟩
  obtain ⟨k, rfl⟩ : ∃ k : Nat, n = (k : Int) := ⟨n.toNat, by omega⟩
  have C7 : Hid (∀ v, Below W.heap.size W v → Calls Tryd.prog 12 #[.int .i64 (k : Int)] v fun e w' => e = .returned (.string (tx k)) ∧ Below v.heap.size v w') := Lib.hid fun v hb => by exact of_any k v (by omega) (HPW.out v hb)
  have C8 : Hid (∀ v, Below W.heap.size W v → Calls Tryd.prog 13 #[.int .i64 (k : Int)] v fun e w' => e = .returned (.string (tx k)) ∧ Below v.heap.size v w') := Lib.hid fun v hb => by exact rof_any k v (by omega)
  generalize tx k = sk at *
  cases ba
  · go_enter Tryd.func3, Tryd.ntmps3
    go_wp2_with fail
    refine (C0.out W (Below.refl W.heap.size W)).mono ?_
    rintro e w1 ⟨rfl, hb1⟩
    have hc1 := Nb (Below.refl W.heap.size W) hb1
    go_wp2_with fail
    refine (C1.out w1 hc1).mono ?_
    rintro e w2 ⟨rfl, hb2⟩
    have hc2 := Nb hc1 hb2
    go_wp2_with fail
    refine (C2.out w2 hc2).mono ?_
    rintro e w3 ⟨rfl, hb3⟩
    have hc3 := Nb hc2 hb3
    go_wp2_with fail
    refine (C3.out w3 hc3).mono ?_
    rintro e w4 ⟨rfl, hb4⟩
    have hc4 := Nb hc3 hb4
    go_wp2_with fail
    refine (C4.out w4 hc4).mono ?_
    rintro e w5 ⟨rfl, hb5⟩
    have hc5 := Nb hc4 hb5
    go_wp2_with fail
    refine (C5.out w5 hc5).mono ?_
    rintro e w6 ⟨rfl, hb6⟩
    have hc6 := Nb hc5 hb6
    go_wp2_with fail
    refine (C6.out w6 hc6).mono ?_
    rintro e w7 ⟨rfl, hb7⟩
    have hc7 := Nb hc6 hb7
    go_wp2_with fail
    refine (C7.out w7 hc7).mono ?_
    rintro e w8 ⟨rfl, hb8⟩
    have hc8 := Nb hc7 hb8
    go_wp2_with fail
    refine (C8.out w8 hc8).mono ?_
    rintro e w9 ⟨rfl, hb9⟩
    have hc9 := Nb hc8 hb9
    go_wp2_with fail
    refine (C9.out w9 hc9).mono ?_
    rintro e w10 ⟨rfl, hb10⟩
    have hc10 := Nb hc9 hb10
    go_wp2_with fail
    refine (C10.out w10 hc10).mono ?_
    rintro e w11 ⟨rfl, hb11⟩
    have hc11 := Nb hc10 hb11
    go_wp2_with fail
    refine (C11.out w11 hc11).mono ?_
    rintro e w12 ⟨rfl, hb12⟩
    have hc12 := Nb hc11 hb12
    go_wp2_with fail
    refine (C12.out w12 hc12).mono ?_
    rintro e w13 ⟨rfl, hb13⟩
    have hc13 := Nb hc12 hb13
    go_wp2_with fail
    refine (C13.out w13 hc13).mono ?_
    rintro e w14 ⟨rfl, hb14⟩
    have hc14 := Nb hc13 hb14
    go_wp2_with fail
    refine (C14.out w14 hc14).mono ?_
    rintro e w15 ⟨rfl, hb15⟩
    have hc15 := Nb hc14 hb15
    go_wp2_with fail
    go_ret
    exact ⟨rfl, hc15⟩
  · go_enter Tryd.func3, Tryd.ntmps3
    go_wp2_with fail
    refine (C0.out W (Below.refl W.heap.size W)).mono ?_
    rintro e w1 ⟨rfl, hb1⟩
    have hc1 := Nb (Below.refl W.heap.size W) hb1
    go_wp2_with fail
    refine (C1.out w1 hc1).mono ?_
    rintro e w2 ⟨rfl, hb2⟩
    have hc2 := Nb hc1 hb2
    go_wp2_with fail
    refine (C2.out w2 hc2).mono ?_
    rintro e w3 ⟨rfl, hb3⟩
    have hc3 := Nb hc2 hb3
    go_wp2_with fail
    refine (C3.out w3 hc3).mono ?_
    rintro e w4 ⟨rfl, hb4⟩
    have hc4 := Nb hc3 hb4
    go_wp2_with fail
    refine (C4.out w4 hc4).mono ?_
    rintro e w5 ⟨rfl, hb5⟩
    have hc5 := Nb hc4 hb5
    go_wp2_with fail
    refine (C5.out w5 hc5).mono ?_
    rintro e w6 ⟨rfl, hb6⟩
    have hc6 := Nb hc5 hb6
    go_wp2_with fail
    refine (C6.out w6 hc6).mono ?_
    rintro e w7 ⟨rfl, hb7⟩
    have hc7 := Nb hc6 hb7
    go_wp2_with fail
    refine (C7.out w7 hc7).mono ?_
    rintro e w8 ⟨rfl, hb8⟩
    have hc8 := Nb hc7 hb8
    go_wp2_with fail
    refine (C8.out w8 hc8).mono ?_
    rintro e w9 ⟨rfl, hb9⟩
    have hc9 := Nb hc8 hb9
    go_wp2_with fail
    refine (C9.out w9 hc9).mono ?_
    rintro e w10 ⟨rfl, hb10⟩
    have hc10 := Nb hc9 hb10
    go_wp2_with fail
    refine (C10.out w10 hc10).mono ?_
    rintro e w11 ⟨rfl, hb11⟩
    have hc11 := Nb hc10 hb11
    go_wp2_with fail
    refine (C11.out w11 hc11).mono ?_
    rintro e w12 ⟨rfl, hb12⟩
    have hc12 := Nb hc11 hb12
    go_wp2_with fail
    refine (C12.out w12 hc12).mono ?_
    rintro e w13 ⟨rfl, hb13⟩
    have hc13 := Nb hc12 hb13
    go_wp2_with fail
    refine (C13.out w13 hc13).mono ?_
    rintro e w14 ⟨rfl, hb14⟩
    have hc14 := Nb hc13 hb14
    go_wp2_with fail
    refine (C14.out w14 hc14).mono ?_
    rintro e w15 ⟨rfl, hb15⟩
    have hc15 := Nb hc14 hb15
    go_wp2_with fail
    go_ret
    exact ⟨rfl, hc15⟩
end Go.Proofs.YtmnnaaifebajnaaDoor
