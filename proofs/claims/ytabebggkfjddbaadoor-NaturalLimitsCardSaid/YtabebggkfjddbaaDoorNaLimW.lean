/- NaturalLimits walked. -/
import Derived.Test.YtabebggkfjddbaaDoorNaZeros
set_option linter.unusedSimpArgs false
set_option linter.unusedVariables false
namespace Go.Proofs.YtabebggkfjddbaaDoor
open Go.RowKit
set_option maxRecDepth 100000

set_option maxHeartbeats 4000000 in
theorem limitsW (p q : Int) (W : World) (hp : Pow W.heap.size W) (hp1 : (Lit.int .u16 p).wf = true) (hq1 : (Lit.int .u16 q).wf = true) :
    Calls Tryd.prog 11 #[.int .u16 p, .int .u16 q] W fun e w' => e = .returned (.bool true) ∧ Below W.heap.size W w' := by
  have HPW := Lib.hid (fun (v : World) (hb : Below W.heap.size W v) => hp.bt hb)
  clear hp
  have hp2 : 0 ≤ p ∧ p ≤ 65535 := by simpa [Lit.wf, IntKind.min, IntKind.max, IntKind.signed, IntKind.bits] using hp1
  have hq2 : 0 ≤ q ∧ q ≤ 65535 := by simpa [Lit.wf, IntKind.min, IntKind.max, IntKind.signed, IntKind.bits] using hq1
  obtain ⟨i, hi⟩ : ∃ i : Nat, p % 321 = (i : Int) := ⟨(p % 321).toNat, by omega⟩
  obtain ⟨j, hj⟩ : ∃ j : Nat, q % 321 = (j : Int) := ⟨(q % 321).toNat, by omega⟩
  have hi3 : i < 321 := by omega
  have hj3 : j < 321 := by omega
  clear hp1 hq1
  have C0 : Hid (∀ v, Below W.heap.size W v → Calls Tryd.prog 13 #[] v fun e w' => e = .returned (.bool true) ∧ Below v.heap.size v w') := Lib.hid fun v hb => head_any v (HPW.out v hb)
  have C1 : Hid (∀ v, Below W.heap.size W v → Calls Tryd.prog 32 #[.int .i64 (i : Int)] v fun e w' => e = .returned (.string (tx (10 ^ i))) ∧ Below v.heap.size v w') := Lib.hid fun v hb => by exact zeros_any i v (by omega)
  have C2 : Hid (∀ v, Below W.heap.size W v → Calls Tryd.prog 32 #[.int .i64 (j : Int)] v fun e w' => e = .returned (.string (tx (10 ^ j))) ∧ Below v.heap.size v w') := Lib.hid fun v hb => by exact zeros_any j v (by omega)
  have hlen : (tx (10 ^ i)).size ≤ maxLen := by
    unfold tx
    rw [ten_dec, bsizeN, ten_length]
    unfold maxLen
    omega
  by_cases hi300 : i < 300
  rotate_left
  · have hi300i : ¬ (i : Int) < 300 := by omega
    have C3 : Hid (∀ v, Below W.heap.size W v → Calls Tryd.prog 18 #[.string (tx (10 ^ i))] v fun e w' => e = .returned (.bool false) ∧ Below v.heap.size v w') := Lib.hid fun v hb => by have := is_any (tx (10 ^ i)) v hlen; rwa [tx_isB, decide_eq_false (mt (pow_lim i).1 hi300)] at this
    generalize tx (10 ^ i) = a at *
    generalize tx (10 ^ j) = b at *
    go_enter Tryd.func11, Tryd.ntmps11
    go_wp2_with fail
    refine (C0.out W (Below.refl W.heap.size W)).mono ?_
    rintro e w1 ⟨rfl, hb1⟩
    have hc1 := Nb (Below.refl W.heap.size W) hb1
    go_wp2_with fail
    refine (C1.out w1 hc1).mono ?_
    rintro e w2 ⟨rfl, hb2⟩
    have hc2 := Nb hc1 hb2
    go_wp2_with fail
    refine (C2.out w2 hc2).mono ?_
    rintro e w3 ⟨rfl, hb3⟩
    have hc3 := Nb hc2 hb3
    go_wp2_with fail
    refine (C3.out w3 hc3).mono ?_
    rintro e w4 ⟨rfl, hb4⟩
    have hc4 := Nb hc3 hb4
    go_wp2_with fail
    go_ret
    exact ⟨rfl, hc4⟩
  have C3 : Hid (∀ v, Below W.heap.size W v → Calls Tryd.prog 18 #[.string (tx (10 ^ i))] v fun e w' => e = .returned (.bool true) ∧ Below v.heap.size v w') := Lib.hid fun v hb => by have := is_any (tx (10 ^ i)) v hlen; rwa [tx_isB, decide_eq_true ((pow_lim i).2 hi300)] at this
  have hi300i : (i : Int) < 300 := by omega
  by_cases hj300 : j < 300
  rotate_left
  · have hj300i : ¬ (j : Int) < 300 := by omega
    generalize tx (10 ^ i) = a at *
    generalize tx (10 ^ j) = b at *
    go_enter Tryd.func11, Tryd.ntmps11
    go_wp2_with fail
    refine (C0.out W (Below.refl W.heap.size W)).mono ?_
    rintro e w1 ⟨rfl, hb1⟩
    have hc1 := Nb (Below.refl W.heap.size W) hb1
    go_wp2_with fail
    refine (C1.out w1 hc1).mono ?_
    rintro e w2 ⟨rfl, hb2⟩
    have hc2 := Nb hc1 hb2
    go_wp2_with fail
    refine (C2.out w2 hc2).mono ?_
    rintro e w3 ⟨rfl, hb3⟩
    have hc3 := Nb hc2 hb3
    go_wp2_with fail
    refine (C3.out w3 hc3).mono ?_
    rintro e w4 ⟨rfl, hb4⟩
    have hc4 := Nb hc3 hb4
    go_wp2_with fail
    go_ret
    exact ⟨rfl, hc4⟩
  have hj300i : (j : Int) < 300 := by omega
  have la := (pow_lim i).2 hi300
  have lb := (pow_lim j).2 hj300
  have hpos : 0 < 10 ^ i := Nat.pos_of_ne_zero (by simp)
  have l1 : 1 < LIM := small (by decide)
  have hsz := nines i
  have C6 : Hid (∀ v, Below W.heap.size W v → Calls Tryd.prog 24 #[.string (tx (10 ^ i)), .string ⟨#[49]⟩] v fun e w' => e = .returned (.tuple #[.string (tx (10 ^ i - 1)), .int .i64 0]) ∧ Below v.heap.size v w') := Lib.hid fun v hb => by have := subtractF (tx (10 ^ i)) (tx 1) v (tx_len la) (tx_len l1) (HPW.out v hb); rw [sub_spec _ _ (isB_txl la) (isB_txl l1), nv_tx, nv_tx, if_neg (by omega), of1] at this; exact this
  have C7 : Hid (∀ v, Below W.heap.size W v → Calls Tryd.prog 22 #[.string (tx (10 ^ i - 1)), .string ⟨#[49]⟩] v fun e w' => e = .returned (.tuple #[.string (tx (10 ^ i)), .int .i64 0]) ∧ Below v.heap.size v w') := Lib.hid fun v hb => by have := addF (tx (10 ^ i - 1)) (tx 1) v (tx_len (by omega)) (tx_len l1) (HPW.out v hb); rw [opF_ok _ _ _ (isB_txl (by omega)) (isB_txl l1) (by rw [nv_tx, nv_tx]; omega)] at this; simp only [nv_tx, Nat.sub_add_cancel hpos] at this; rw [of1] at this; exact this
  by_cases hij : i + j < 300
  · have hiji : (i : Int) + (j : Int) < 300 := by omega
    have lij := (pow_lim (i + j)).2 hij
    have C4 : Hid (∀ v, Below W.heap.size W v → Calls Tryd.prog 26 #[.string (tx (10 ^ i)), .string (tx (10 ^ j))] v fun e w' => e = .returned (.tuple #[.string (tx (10 ^ (i + j))), .int .i64 0]) ∧ Below v.heap.size v w') := Lib.hid fun v hb => by have := mulF (tx (10 ^ i)) (tx (10 ^ j)) v (tx_len la) (tx_len lb) (HPW.out v hb); rw [opF_ok _ _ _ (isB_txl la) (isB_txl lb) (by rw [nv_tx, nv_tx, ← Nat.pow_add]; exact lij)] at this; simp only [nv_tx, ← Nat.pow_add] at this; exact this
    have C5 : Hid (∀ v, Below W.heap.size W v → Calls Tryd.prog 32 #[.int .i64 ((i : Int) + (j : Int))] v fun e w' => e = .returned (.string (tx (10 ^ (i + j)))) ∧ Below v.heap.size v w') := Lib.hid fun v hb => by have := zeros_any (i + j) v (by omega); rwa [Int.natCast_add] at this
    by_cases h1i : 1 < i
    · rw [if_pos h1i] at hsz
      have h1ii : (1 : Int) < (i : Int) := by omega
      have hmx : max (1 : Int) (i : Int) = (i : Int) := by omega
      clear la lb hpos l1 lij
      generalize tx (10 ^ i) = a at *
      generalize tx (10 ^ j) = b at *
      generalize tx (10 ^ i - 1) = n9 at *
      generalize tx (10 ^ (i + j)) = pr at *
      go_enter Tryd.func11, Tryd.ntmps11
      go_wp2_with fail
      refine (C0.out W (Below.refl W.heap.size W)).mono ?_
      rintro e w1 ⟨rfl, hb1⟩
      have hc1 := Nb (Below.refl W.heap.size W) hb1
      go_wp2_with fail
      refine (C1.out w1 hc1).mono ?_
      rintro e w2 ⟨rfl, hb2⟩
      have hc2 := Nb hc1 hb2
      go_wp2_with fail
      refine (C2.out w2 hc2).mono ?_
      rintro e w3 ⟨rfl, hb3⟩
      have hc3 := Nb hc2 hb3
      go_wp2_with fail
      refine (C3.out w3 hc3).mono ?_
      rintro e w4 ⟨rfl, hb4⟩
      have hc4 := Nb hc3 hb4
      go_wp2_with fail
      refine (C4.out w4 hc4).mono ?_
      rintro e w5 ⟨rfl, hb5⟩
      have hc5 := Nb hc4 hb5
      go_wp2_with fail
      refine (C5.out w5 hc5).mono ?_
      rintro e w6 ⟨rfl, hb6⟩
      have hc6 := Nb hc5 hb6
      go_wp2_with fail
      refine (C6.out w6 hc6).mono ?_
      rintro e w7 ⟨rfl, hb7⟩
      have hc7 := Nb hc6 hb7
      go_wp2_with fail
      refine (C7.out w7 hc7).mono ?_
      rintro e w8 ⟨rfl, hb8⟩
      have hc8 := Nb hc7 hb8
      go_wp2_with fail
      go_ret
      exact ⟨rfl, hc8⟩
    · rw [if_neg h1i] at hsz
      have h1ii : ¬ (1 : Int) < (i : Int) := by omega
      have hmx : max (1 : Int) (i : Int) = 1 := by omega
      clear la lb hpos l1 lij
      generalize tx (10 ^ i) = a at *
      generalize tx (10 ^ j) = b at *
      generalize tx (10 ^ i - 1) = n9 at *
      generalize tx (10 ^ (i + j)) = pr at *
      go_enter Tryd.func11, Tryd.ntmps11
      go_wp2_with fail
      refine (C0.out W (Below.refl W.heap.size W)).mono ?_
      rintro e w1 ⟨rfl, hb1⟩
      have hc1 := Nb (Below.refl W.heap.size W) hb1
      go_wp2_with fail
      refine (C1.out w1 hc1).mono ?_
      rintro e w2 ⟨rfl, hb2⟩
      have hc2 := Nb hc1 hb2
      go_wp2_with fail
      refine (C2.out w2 hc2).mono ?_
      rintro e w3 ⟨rfl, hb3⟩
      have hc3 := Nb hc2 hb3
      go_wp2_with fail
      refine (C3.out w3 hc3).mono ?_
      rintro e w4 ⟨rfl, hb4⟩
      have hc4 := Nb hc3 hb4
      go_wp2_with fail
      refine (C4.out w4 hc4).mono ?_
      rintro e w5 ⟨rfl, hb5⟩
      have hc5 := Nb hc4 hb5
      go_wp2_with fail
      refine (C5.out w5 hc5).mono ?_
      rintro e w6 ⟨rfl, hb6⟩
      have hc6 := Nb hc5 hb6
      go_wp2_with fail
      refine (C6.out w6 hc6).mono ?_
      rintro e w7 ⟨rfl, hb7⟩
      have hc7 := Nb hc6 hb7
      go_wp2_with fail
      refine (C7.out w7 hc7).mono ?_
      rintro e w8 ⟨rfl, hb8⟩
      have hc8 := Nb hc7 hb8
      go_wp2_with fail
      go_ret
      exact ⟨rfl, hc8⟩
  · have hiji : ¬ (i : Int) + (j : Int) < 300 := by omega
    have hiji2 : (300 : Int) ≤ (i : Int) + (j : Int) := by omega
    have hd1 : decide ((300 : Int) ≤ (i : Int) + (j : Int)) = true := decide_eq_true hiji2
    have hd2 : decide ((i : Int) + (j : Int) < 300) = false := decide_eq_false hiji
    have lij := mt (pow_lim (i + j)).1 hij
    have C4 : Hid (∀ v, Below W.heap.size W v → Calls Tryd.prog 26 #[.string (tx (10 ^ i)), .string (tx (10 ^ j))] v fun e w' => e = .returned (.tuple #[.string ⟨#[]⟩, .int .i64 2]) ∧ Below v.heap.size v w') := Lib.hid fun v hb => by have := mulF (tx (10 ^ i)) (tx (10 ^ j)) v (tx_len la) (tx_len lb) (HPW.out v hb); unfold opF at this; rw [isB_txl la, isB_txl lb] at this; simp only [nv_tx, ← Nat.pow_add, Bool.and_self, if_true] at this; rw [show sN (10 ^ (i + j)) = ⟨#[]⟩ from if_neg lij, show eN (10 ^ (i + j)) = 2 from if_neg lij] at this; exact this
    by_cases h1i : 1 < i
    · rw [if_pos h1i] at hsz
      have h1ii : (1 : Int) < (i : Int) := by omega
      have hmx : max (1 : Int) (i : Int) = (i : Int) := by omega
      clear la lb hpos l1 lij
      generalize tx (10 ^ i) = a at *
      generalize tx (10 ^ j) = b at *
      generalize tx (10 ^ i - 1) = n9 at *
      go_enter Tryd.func11, Tryd.ntmps11
      go_wp2_with fail
      refine (C0.out W (Below.refl W.heap.size W)).mono ?_
      rintro e w1 ⟨rfl, hb1⟩
      have hc1 := Nb (Below.refl W.heap.size W) hb1
      go_wp2_with fail
      refine (C1.out w1 hc1).mono ?_
      rintro e w2 ⟨rfl, hb2⟩
      have hc2 := Nb hc1 hb2
      go_wp2_with fail
      refine (C2.out w2 hc2).mono ?_
      rintro e w3 ⟨rfl, hb3⟩
      have hc3 := Nb hc2 hb3
      go_wp2_with fail
      refine (C3.out w3 hc3).mono ?_
      rintro e w4 ⟨rfl, hb4⟩
      have hc4 := Nb hc3 hb4
      go_wp2_with fail
      refine (C4.out w4 hc4).mono ?_
      rintro e w5 ⟨rfl, hb5⟩
      have hc5 := Nb hc4 hb5
      go_wp2_with fail
      refine (C6.out w5 hc5).mono ?_
      rintro e w6 ⟨rfl, hb6⟩
      have hc6 := Nb hc5 hb6
      go_wp2_with fail
      refine (C7.out w6 hc6).mono ?_
      rintro e w7 ⟨rfl, hb7⟩
      have hc7 := Nb hc6 hb7
      go_wp2_with fail
      go_ret
      exact ⟨rfl, hc7⟩
    · rw [if_neg h1i] at hsz
      have h1ii : ¬ (1 : Int) < (i : Int) := by omega
      have hmx : max (1 : Int) (i : Int) = 1 := by omega
      clear la lb hpos l1 lij
      generalize tx (10 ^ i) = a at *
      generalize tx (10 ^ j) = b at *
      generalize tx (10 ^ i - 1) = n9 at *
      go_enter Tryd.func11, Tryd.ntmps11
      go_wp2_with fail
      refine (C0.out W (Below.refl W.heap.size W)).mono ?_
      rintro e w1 ⟨rfl, hb1⟩
      have hc1 := Nb (Below.refl W.heap.size W) hb1
      go_wp2_with fail
      refine (C1.out w1 hc1).mono ?_
      rintro e w2 ⟨rfl, hb2⟩
      have hc2 := Nb hc1 hb2
      go_wp2_with fail
      refine (C2.out w2 hc2).mono ?_
      rintro e w3 ⟨rfl, hb3⟩
      have hc3 := Nb hc2 hb3
      go_wp2_with fail
      refine (C3.out w3 hc3).mono ?_
      rintro e w4 ⟨rfl, hb4⟩
      have hc4 := Nb hc3 hb4
      go_wp2_with fail
      refine (C4.out w4 hc4).mono ?_
      rintro e w5 ⟨rfl, hb5⟩
      have hc5 := Nb hc4 hb5
      go_wp2_with fail
      refine (C6.out w5 hc5).mono ?_
      rintro e w6 ⟨rfl, hb6⟩
      have hc6 := Nb hc5 hb6
      go_wp2_with fail
      refine (C7.out w6 hc6).mono ?_
      rintro e w7 ⟨rfl, hb7⟩
      have hc7 := Nb hc6 hb7
      go_wp2_with fail
      go_ret
      exact ⟨rfl, hc7⟩
end Go.Proofs.YtabebggkfjddbaaDoor
