/- NaturalDigits walked. -/
import Derived.Test.YtabebggkfjddbaaDoorNaDivsW
set_option linter.unusedSimpArgs false
set_option linter.unusedVariables false
namespace Go.Proofs.YtabebggkfjddbaaDoor
open Go.RowKit
set_option maxRecDepth 100000

theorem cmpN_zero (m n : Nat) : cmpN m n = 0 ↔ m = n := by
  unfold cmpN
  rcases Nat.lt_trichotomy m n with h | h | h
  · rw [if_pos h]; omega
  · rw [if_neg (by omega), if_neg (by omega)]; omega
  · rw [if_neg (by omega), if_pos h]; omega

theorem intF_bad {s : ByteArray} (h : isB s = false) : intF s = (0, 1) := by
  unfold intF
  rw [h]
  rfl

set_option maxHeartbeats 4000000 in
theorem digitsW (n : Int) (a b : ByteArray) (W : World) (hp : Pow W.heap.size W) (hn : (Lit.int .i64 n).wf = true) (L_a : a.size ≤ maxLen) (L_b : b.size ≤ maxLen) :
    Calls Tryd.prog 5 #[.int .i64 n, .string a, .string b] W fun e w' => e = .returned (.bool true) ∧ Below W.heap.size W w' := by
  have HPW := Lib.hid (fun (v : World) (hb : Below W.heap.size W v) => hp.bt hb)
  clear hp
  have hn1 : -9223372036854775808 ≤ n ∧ n ≤ 9223372036854775807 := by simpa [Lit.wf, IntKind.min, IntKind.max, IntKind.signed, IntKind.bits] using hn
  clear hn
  have C0 : Hid (∀ v, Below W.heap.size W v → Calls Tryd.prog 13 #[] v fun e w' => e = .returned (.bool true) ∧ Below v.heap.size v w') := Lib.hid fun v hb => head_any v (HPW.out v hb)
  have L_a' := L_a
  have L_b' := L_b
  unfold maxLen at L_a' L_b'
  by_cases za : 400 < a.size
  · have za2 : (400 : Int) < (a.size : Int) := by omega
    go_enter Tryd.func5, Tryd.ntmps5
    go_wp2_with fail
    refine (C0.out W (Below.refl W.heap.size W)).mono ?_
    rintro e w1 ⟨rfl, hb1⟩
    have hc1 := Nb (Below.refl W.heap.size W) hb1
    go_wp2_with fail
    go_ret
    exact ⟨rfl, hc1⟩
  have za2 : ¬ (400 : Int) < (a.size : Int) := by omega
  by_cases zb : 400 < b.size
  · have zb2 : (400 : Int) < (b.size : Int) := by omega
    go_enter Tryd.func5, Tryd.ntmps5
    go_wp2_with fail
    refine (C0.out W (Below.refl W.heap.size W)).mono ?_
    rintro e w1 ⟨rfl, hb1⟩
    have hc1 := Nb (Below.refl W.heap.size W) hb1
    go_wp2_with fail
    go_ret
    exact ⟨rfl, hc1⟩
  have zb2 : ¬ (400 : Int) < (b.size : Int) := by omega
  clear za zb
  by_cases hn0 : n < 0
  · have hn2 : ¬ 0 ≤ n := by omega
    have C1 : Hid (∀ v, Below W.heap.size W v → Calls Tryd.prog 20 #[.int .i64 n] v fun e w' => e = .returned (.string ⟨#[]⟩) ∧ Below v.heap.size v w') := Lib.hid fun v hb => by exact of_neg n v hn0
    have C2 : Hid (∀ v, Below W.heap.size W v → Calls Tryd.prog 14 #[.string ⟨#[]⟩] v fun e w' => e = .returned (.tuple #[.int .i64 0, .int .i64 1]) ∧ Below v.heap.size v w') := Lib.hid fun v hb => by exact int_bad ⟨#[]⟩ v (by decide) (by decide)
    by_cases hA : isB a = true
    rotate_left
    · replace hA : isB a = false := by simpa using hA
      have C4 : Hid (∀ v, Below W.heap.size W v → Calls Tryd.prog 14 #[.string a] v fun e w' => e = .returned (.tuple #[.int .i64 0, .int .i64 1]) ∧ Below v.heap.size v w') := Lib.hid fun v hb => by exact int_bad a v L_a hA
      have C6 : Hid (∀ v, Below W.heap.size W v → Calls Tryd.prog 16 #[.string a, .string b] v fun e w' => e = .returned (.tuple #[.int .i64 0, .int .i64 1]) ∧ Below v.heap.size v w') := Lib.hid fun v hb => by exact compare_bad a b v L_a L_b (by rw [hA]; rfl)
      have C7 : Hid (∀ v, Below W.heap.size W v → Calls Tryd.prog 18 #[.string a] v fun e w' => e = .returned (.bool false) ∧ Below v.heap.size v w') := Lib.hid fun v hb => by have := is_any a v L_a; rwa [hA] at this
      go_enter Tryd.func5, Tryd.ntmps5
      go_wp2_with fail
      refine (C0.out W (Below.refl W.heap.size W)).mono ?_
      rintro e w1 ⟨rfl, hb1⟩
      have hc1 := Nb (Below.refl W.heap.size W) hb1
      go_wp2_with fail
      refine (C1.out w1 hc1).mono ?_
      rintro e w2 ⟨rfl, hb2⟩
      have hc2 := Nb hc1 hb2
      go_wp2_with fail
      refine (C2.out w2 hc2).mono ?_
      rintro e w3 ⟨rfl, hb3⟩
      have hc3 := Nb hc2 hb3
      go_wp2_with fail
      refine (C4.out w3 hc3).mono ?_
      rintro e w4 ⟨rfl, hb4⟩
      have hc4 := Nb hc3 hb4
      go_wp2_with fail
      refine (C6.out w4 hc4).mono ?_
      rintro e w5 ⟨rfl, hb5⟩
      have hc5 := Nb hc4 hb5
      go_wp2_with fail
      refine (C7.out w5 hc5).mono ?_
      rintro e w6 ⟨rfl, hb6⟩
      have hc6 := Nb hc5 hb6
      go_wp2_with fail
      go_ret
      exact ⟨rfl, hc6⟩
    obtain ⟨la, ta⟩ := isB_lt hA
    have C7 : Hid (∀ v, Below W.heap.size W v → Calls Tryd.prog 18 #[.string a] v fun e w' => e = .returned (.bool true) ∧ Below v.heap.size v w') := Lib.hid fun v hb => by have := is_any a v L_a; rwa [hA] at this
    by_cases h63 : nv a < 9223372036854775808
    rotate_left
    · have C4 : Hid (∀ v, Below W.heap.size W v → Calls Tryd.prog 14 #[.string a] v fun e w' => e = .returned (.tuple #[.int .i64 0, .int .i64 10]) ∧ Below v.heap.size v w') := Lib.hid fun v hb => by have := int_range (nv a) v la h63 (HPW.out v hb); rwa [ta] at this
      by_cases hB : isB b = true
      rotate_left
      · replace hB : isB b = false := by simpa using hB
        have C6 : Hid (∀ v, Below W.heap.size W v → Calls Tryd.prog 16 #[.string a, .string b] v fun e w' => e = .returned (.tuple #[.int .i64 0, .int .i64 1]) ∧ Below v.heap.size v w') := Lib.hid fun v hb => by exact compare_bad a b v L_a L_b (by rw [hA, hB]; rfl)
        have C8 : Hid (∀ v, Below W.heap.size W v → Calls Tryd.prog 18 #[.string b] v fun e w' => e = .returned (.bool false) ∧ Below v.heap.size v w') := Lib.hid fun v hb => by have := is_any b v L_b; rwa [hB] at this
        go_enter Tryd.func5, Tryd.ntmps5
        go_wp2_with fail
        refine (C0.out W (Below.refl W.heap.size W)).mono ?_
        rintro e w1 ⟨rfl, hb1⟩
        have hc1 := Nb (Below.refl W.heap.size W) hb1
        go_wp2_with fail
        refine (C1.out w1 hc1).mono ?_
        rintro e w2 ⟨rfl, hb2⟩
        have hc2 := Nb hc1 hb2
        go_wp2_with fail
        refine (C2.out w2 hc2).mono ?_
        rintro e w3 ⟨rfl, hb3⟩
        have hc3 := Nb hc2 hb3
        go_wp2_with fail
        refine (C4.out w3 hc3).mono ?_
        rintro e w4 ⟨rfl, hb4⟩
        have hc4 := Nb hc3 hb4
        go_wp2_with fail
        refine (C6.out w4 hc4).mono ?_
        rintro e w5 ⟨rfl, hb5⟩
        have hc5 := Nb hc4 hb5
        go_wp2_with fail
        refine (C7.out w5 hc5).mono ?_
        rintro e w6 ⟨rfl, hb6⟩
        have hc6 := Nb hc5 hb6
        go_wp2_with fail
        refine (C8.out w6 hc6).mono ?_
        rintro e w7 ⟨rfl, hb7⟩
        have hc7 := Nb hc6 hb7
        go_wp2_with fail
        go_ret
        exact ⟨rfl, hc7⟩
      obtain ⟨lb, tb⟩ := isB_lt hB
      have C8 : Hid (∀ v, Below W.heap.size W v → Calls Tryd.prog 18 #[.string b] v fun e w' => e = .returned (.bool true) ∧ Below v.heap.size v w') := Lib.hid fun v hb => by have := is_any b v L_b; rwa [hB] at this
      have h6 := compare_tx (nv a) (nv b)
      rw [ta, tb] at h6
      by_cases hab : a = b
      · subst hab
        have h0 : cmpN (nv a) (nv a) = 0 := (cmpN_zero _ _).2 rfl
        have C6 : Hid (∀ v, Below W.heap.size W v → Calls Tryd.prog 16 #[.string a, .string a] v fun e w' => e = .returned (.tuple #[.int .i64 0, .int .i64 0]) ∧ Below v.heap.size v w') := Lib.hid fun v hb => by have := h6 v la la; rwa [h0] at this
        clear h6 ta tb h0
        go_enter Tryd.func5, Tryd.ntmps5
        go_wp2_with fail
        refine (C0.out W (Below.refl W.heap.size W)).mono ?_
        rintro e w1 ⟨rfl, hb1⟩
        have hc1 := Nb (Below.refl W.heap.size W) hb1
        go_wp2_with fail
        refine (C1.out w1 hc1).mono ?_
        rintro e w2 ⟨rfl, hb2⟩
        have hc2 := Nb hc1 hb2
        go_wp2_with fail
        refine (C2.out w2 hc2).mono ?_
        rintro e w3 ⟨rfl, hb3⟩
        have hc3 := Nb hc2 hb3
        go_wp2_with fail
        refine (C4.out w3 hc3).mono ?_
        rintro e w4 ⟨rfl, hb4⟩
        have hc4 := Nb hc3 hb4
        go_wp2_with fail
        refine (C6.out w4 hc4).mono ?_
        rintro e w5 ⟨rfl, hb5⟩
        have hc5 := Nb hc4 hb5
        go_wp2_with fail
        refine (C7.out w5 hc5).mono ?_
        rintro e w6 ⟨rfl, hb6⟩
        have hc6 := Nb hc5 hb6
        go_wp2_with fail
        refine (C8.out w6 hc6).mono ?_
        rintro e w7 ⟨rfl, hb7⟩
        have hc7 := Nb hc6 hb7
        go_wp2_with fail
        go_ret
        exact ⟨rfl, hc7⟩
      have hne : cmpN (nv a) (nv b) ≠ 0 := fun h => hab (by rw [← ta, ← tb, (cmpN_zero _ _).1 h])
      have hbn := bytes_ne hab
      have hbn2 : a.toList ≠ b.toList := by simpa using hbn
      have C6 : Hid (∀ v, Below W.heap.size W v → Calls Tryd.prog 16 #[.string a, .string b] v fun e w' => e = .returned (.tuple #[.int .i64 (cmpN (nv a) (nv b)), .int .i64 0]) ∧ Below v.heap.size v w') := Lib.hid fun v hb => by exact h6 v la lb
      obtain ⟨nc, mc⟩ := nez hne
      generalize cmpN (nv a) (nv b) = cc at *
      clear h6 ta tb
      go_enter Tryd.func5, Tryd.ntmps5
      go_wp2_with fail
      refine (C0.out W (Below.refl W.heap.size W)).mono ?_
      rintro e w1 ⟨rfl, hb1⟩
      have hc1 := Nb (Below.refl W.heap.size W) hb1
      go_wp2_with fail
      refine (C1.out w1 hc1).mono ?_
      rintro e w2 ⟨rfl, hb2⟩
      have hc2 := Nb hc1 hb2
      go_wp2_with fail
      refine (C2.out w2 hc2).mono ?_
      rintro e w3 ⟨rfl, hb3⟩
      have hc3 := Nb hc2 hb3
      go_wp2_with fail
      refine (C4.out w3 hc3).mono ?_
      rintro e w4 ⟨rfl, hb4⟩
      have hc4 := Nb hc3 hb4
      go_wp2_with fail
      refine (C6.out w4 hc4).mono ?_
      rintro e w5 ⟨rfl, hb5⟩
      have hc5 := Nb hc4 hb5
      go_wp2_with fail
      refine (C7.out w5 hc5).mono ?_
      rintro e w6 ⟨rfl, hb6⟩
      have hc6 := Nb hc5 hb6
      go_wp2_with fail
      refine (C8.out w6 hc6).mono ?_
      rintro e w7 ⟨rfl, hb7⟩
      have hc7 := Nb hc6 hb7
      go_wp2_with fail
      go_ret
      exact ⟨rfl, hc7⟩
    have C4 : Hid (∀ v, Below W.heap.size W v → Calls Tryd.prog 14 #[.string a] v fun e w' => e = .returned (.tuple #[.int .i64 (nv a : Int), .int .i64 0]) ∧ Below v.heap.size v w') := Lib.hid fun v hb => by have := int_ok (nv a) v la h63; rwa [ta] at this
    have C5 : Hid (∀ v, Below W.heap.size W v → Calls Tryd.prog 20 #[.int .i64 (nv a : Int)] v fun e w' => e = .returned (.string a) ∧ Below v.heap.size v w') := Lib.hid fun v hb => by have := of_any (nv a) v (by omega) (HPW.out v hb); rwa [ta] at this
    by_cases hB : isB b = true
    rotate_left
    · replace hB : isB b = false := by simpa using hB
      have C6 : Hid (∀ v, Below W.heap.size W v → Calls Tryd.prog 16 #[.string a, .string b] v fun e w' => e = .returned (.tuple #[.int .i64 0, .int .i64 1]) ∧ Below v.heap.size v w') := Lib.hid fun v hb => by exact compare_bad a b v L_a L_b (by rw [hA, hB]; rfl)
      have C8 : Hid (∀ v, Below W.heap.size W v → Calls Tryd.prog 18 #[.string b] v fun e w' => e = .returned (.bool false) ∧ Below v.heap.size v w') := Lib.hid fun v hb => by have := is_any b v L_b; rwa [hB] at this
      go_enter Tryd.func5, Tryd.ntmps5
      go_wp2_with fail
      refine (C0.out W (Below.refl W.heap.size W)).mono ?_
      rintro e w1 ⟨rfl, hb1⟩
      have hc1 := Nb (Below.refl W.heap.size W) hb1
      go_wp2_with fail
      refine (C1.out w1 hc1).mono ?_
      rintro e w2 ⟨rfl, hb2⟩
      have hc2 := Nb hc1 hb2
      go_wp2_with fail
      refine (C2.out w2 hc2).mono ?_
      rintro e w3 ⟨rfl, hb3⟩
      have hc3 := Nb hc2 hb3
      go_wp2_with fail
      refine (C4.out w3 hc3).mono ?_
      rintro e w4 ⟨rfl, hb4⟩
      have hc4 := Nb hc3 hb4
      go_wp2_with fail
      refine (C5.out w4 hc4).mono ?_
      rintro e w5 ⟨rfl, hb5⟩
      have hc5 := Nb hc4 hb5
      go_wp2_with fail
      refine (C6.out w5 hc5).mono ?_
      rintro e w6 ⟨rfl, hb6⟩
      have hc6 := Nb hc5 hb6
      go_wp2_with fail
      refine (C7.out w6 hc6).mono ?_
      rintro e w7 ⟨rfl, hb7⟩
      have hc7 := Nb hc6 hb7
      go_wp2_with fail
      refine (C8.out w7 hc7).mono ?_
      rintro e w8 ⟨rfl, hb8⟩
      have hc8 := Nb hc7 hb8
      go_wp2_with fail
      go_ret
      exact ⟨rfl, hc8⟩
    obtain ⟨lb, tb⟩ := isB_lt hB
    have C8 : Hid (∀ v, Below W.heap.size W v → Calls Tryd.prog 18 #[.string b] v fun e w' => e = .returned (.bool true) ∧ Below v.heap.size v w') := Lib.hid fun v hb => by have := is_any b v L_b; rwa [hB] at this
    have h6 := compare_tx (nv a) (nv b)
    rw [ta, tb] at h6
    by_cases hab : a = b
    · subst hab
      have h0 : cmpN (nv a) (nv a) = 0 := (cmpN_zero _ _).2 rfl
      have C6 : Hid (∀ v, Below W.heap.size W v → Calls Tryd.prog 16 #[.string a, .string a] v fun e w' => e = .returned (.tuple #[.int .i64 0, .int .i64 0]) ∧ Below v.heap.size v w') := Lib.hid fun v hb => by have := h6 v la la; rwa [h0] at this
      clear h6 ta tb h0
      go_enter Tryd.func5, Tryd.ntmps5
      go_wp2_with fail
      refine (C0.out W (Below.refl W.heap.size W)).mono ?_
      rintro e w1 ⟨rfl, hb1⟩
      have hc1 := Nb (Below.refl W.heap.size W) hb1
      go_wp2_with fail
      refine (C1.out w1 hc1).mono ?_
      rintro e w2 ⟨rfl, hb2⟩
      have hc2 := Nb hc1 hb2
      go_wp2_with fail
      refine (C2.out w2 hc2).mono ?_
      rintro e w3 ⟨rfl, hb3⟩
      have hc3 := Nb hc2 hb3
      go_wp2_with fail
      refine (C4.out w3 hc3).mono ?_
      rintro e w4 ⟨rfl, hb4⟩
      have hc4 := Nb hc3 hb4
      go_wp2_with fail
      refine (C5.out w4 hc4).mono ?_
      rintro e w5 ⟨rfl, hb5⟩
      have hc5 := Nb hc4 hb5
      go_wp2_with fail
      refine (C6.out w5 hc5).mono ?_
      rintro e w6 ⟨rfl, hb6⟩
      have hc6 := Nb hc5 hb6
      go_wp2_with fail
      refine (C7.out w6 hc6).mono ?_
      rintro e w7 ⟨rfl, hb7⟩
      have hc7 := Nb hc6 hb7
      go_wp2_with fail
      refine (C8.out w7 hc7).mono ?_
      rintro e w8 ⟨rfl, hb8⟩
      have hc8 := Nb hc7 hb8
      go_wp2_with fail
      go_ret
      exact ⟨rfl, hc8⟩
    have hne : cmpN (nv a) (nv b) ≠ 0 := fun h => hab (by rw [← ta, ← tb, (cmpN_zero _ _).1 h])
    have hbn := bytes_ne hab
    have hbn2 : a.toList ≠ b.toList := by simpa using hbn
    have C6 : Hid (∀ v, Below W.heap.size W v → Calls Tryd.prog 16 #[.string a, .string b] v fun e w' => e = .returned (.tuple #[.int .i64 (cmpN (nv a) (nv b)), .int .i64 0]) ∧ Below v.heap.size v w') := Lib.hid fun v hb => by exact h6 v la lb
    obtain ⟨nc, mc⟩ := nez hne
    generalize cmpN (nv a) (nv b) = cc at *
    clear h6 ta tb
    go_enter Tryd.func5, Tryd.ntmps5
    go_wp2_with fail
    refine (C0.out W (Below.refl W.heap.size W)).mono ?_
    rintro e w1 ⟨rfl, hb1⟩
    have hc1 := Nb (Below.refl W.heap.size W) hb1
    go_wp2_with fail
    refine (C1.out w1 hc1).mono ?_
    rintro e w2 ⟨rfl, hb2⟩
    have hc2 := Nb hc1 hb2
    go_wp2_with fail
    refine (C2.out w2 hc2).mono ?_
    rintro e w3 ⟨rfl, hb3⟩
    have hc3 := Nb hc2 hb3
    go_wp2_with fail
    refine (C4.out w3 hc3).mono ?_
    rintro e w4 ⟨rfl, hb4⟩
    have hc4 := Nb hc3 hb4
    go_wp2_with fail
    refine (C5.out w4 hc4).mono ?_
    rintro e w5 ⟨rfl, hb5⟩
    have hc5 := Nb hc4 hb5
    go_wp2_with fail
    refine (C6.out w5 hc5).mono ?_
    rintro e w6 ⟨rfl, hb6⟩
    have hc6 := Nb hc5 hb6
    go_wp2_with fail
    refine (C7.out w6 hc6).mono ?_
    rintro e w7 ⟨rfl, hb7⟩
    have hc7 := Nb hc6 hb7
    go_wp2_with fail
    refine (C8.out w7 hc7).mono ?_
    rintro e w8 ⟨rfl, hb8⟩
    have hc8 := Nb hc7 hb8
    go_wp2_with fail
    go_ret
    exact ⟨rfl, hc8⟩
  obtain ⟨k, rfl⟩ : ∃ k : Nat, n = (k : Int) := ⟨n.toNat, by omega⟩
  have hn2 : 0 ≤ (k : Int) := by omega
  have hkl : k < LIM := Nat.lt_of_le_of_lt (show k ≤ 9223372036854775807 by omega) (small (by decide))
  have C1 : Hid (∀ v, Below W.heap.size W v → Calls Tryd.prog 20 #[.int .i64 (k : Int)] v fun e w' => e = .returned (.string (tx k)) ∧ Below v.heap.size v w') := Lib.hid fun v hb => by exact of_any k v (by omega) (HPW.out v hb)
  have C2 : Hid (∀ v, Below W.heap.size W v → Calls Tryd.prog 14 #[.string (tx k)] v fun e w' => e = .returned (.tuple #[.int .i64 (k : Int), .int .i64 0]) ∧ Below v.heap.size v w') := Lib.hid fun v hb => by exact int_ok k v hkl (by omega)
  have C3 : Hid (∀ v, Below W.heap.size W v → Calls Tryd.prog 18 #[.string (tx k)] v fun e w' => e = .returned (.bool true) ∧ Below v.heap.size v w') := Lib.hid fun v hb => by have := is_any (tx k) v (tx_len hkl); rwa [isB_txl hkl] at this
  generalize tx k = sk at *
  by_cases hA : isB a = true
  rotate_left
  · replace hA : isB a = false := by simpa using hA
    have C4 : Hid (∀ v, Below W.heap.size W v → Calls Tryd.prog 14 #[.string a] v fun e w' => e = .returned (.tuple #[.int .i64 0, .int .i64 1]) ∧ Below v.heap.size v w') := Lib.hid fun v hb => by exact int_bad a v L_a hA
    have C6 : Hid (∀ v, Below W.heap.size W v → Calls Tryd.prog 16 #[.string a, .string b] v fun e w' => e = .returned (.tuple #[.int .i64 0, .int .i64 1]) ∧ Below v.heap.size v w') := Lib.hid fun v hb => by exact compare_bad a b v L_a L_b (by rw [hA]; rfl)
    have C7 : Hid (∀ v, Below W.heap.size W v → Calls Tryd.prog 18 #[.string a] v fun e w' => e = .returned (.bool false) ∧ Below v.heap.size v w') := Lib.hid fun v hb => by have := is_any a v L_a; rwa [hA] at this
    go_enter Tryd.func5, Tryd.ntmps5
    go_wp2_with fail
    refine (C0.out W (Below.refl W.heap.size W)).mono ?_
    rintro e w1 ⟨rfl, hb1⟩
    have hc1 := Nb (Below.refl W.heap.size W) hb1
    go_wp2_with fail
    refine (C1.out w1 hc1).mono ?_
    rintro e w2 ⟨rfl, hb2⟩
    have hc2 := Nb hc1 hb2
    go_wp2_with fail
    refine (C2.out w2 hc2).mono ?_
    rintro e w3 ⟨rfl, hb3⟩
    have hc3 := Nb hc2 hb3
    go_wp2_with fail
    refine (C3.out w3 hc3).mono ?_
    rintro e w4 ⟨rfl, hb4⟩
    have hc4 := Nb hc3 hb4
    go_wp2_with fail
    refine (C4.out w4 hc4).mono ?_
    rintro e w5 ⟨rfl, hb5⟩
    have hc5 := Nb hc4 hb5
    go_wp2_with fail
    refine (C6.out w5 hc5).mono ?_
    rintro e w6 ⟨rfl, hb6⟩
    have hc6 := Nb hc5 hb6
    go_wp2_with fail
    refine (C7.out w6 hc6).mono ?_
    rintro e w7 ⟨rfl, hb7⟩
    have hc7 := Nb hc6 hb7
    go_wp2_with fail
    go_ret
    exact ⟨rfl, hc7⟩
  obtain ⟨la, ta⟩ := isB_lt hA
  have C7 : Hid (∀ v, Below W.heap.size W v → Calls Tryd.prog 18 #[.string a] v fun e w' => e = .returned (.bool true) ∧ Below v.heap.size v w') := Lib.hid fun v hb => by have := is_any a v L_a; rwa [hA] at this
  by_cases h63 : nv a < 9223372036854775808
  rotate_left
  · have C4 : Hid (∀ v, Below W.heap.size W v → Calls Tryd.prog 14 #[.string a] v fun e w' => e = .returned (.tuple #[.int .i64 0, .int .i64 10]) ∧ Below v.heap.size v w') := Lib.hid fun v hb => by have := int_range (nv a) v la h63 (HPW.out v hb); rwa [ta] at this
    by_cases hB : isB b = true
    rotate_left
    · replace hB : isB b = false := by simpa using hB
      have C6 : Hid (∀ v, Below W.heap.size W v → Calls Tryd.prog 16 #[.string a, .string b] v fun e w' => e = .returned (.tuple #[.int .i64 0, .int .i64 1]) ∧ Below v.heap.size v w') := Lib.hid fun v hb => by exact compare_bad a b v L_a L_b (by rw [hA, hB]; rfl)
      have C8 : Hid (∀ v, Below W.heap.size W v → Calls Tryd.prog 18 #[.string b] v fun e w' => e = .returned (.bool false) ∧ Below v.heap.size v w') := Lib.hid fun v hb => by have := is_any b v L_b; rwa [hB] at this
      go_enter Tryd.func5, Tryd.ntmps5
      go_wp2_with fail
      refine (C0.out W (Below.refl W.heap.size W)).mono ?_
      rintro e w1 ⟨rfl, hb1⟩
      have hc1 := Nb (Below.refl W.heap.size W) hb1
      go_wp2_with fail
      refine (C1.out w1 hc1).mono ?_
      rintro e w2 ⟨rfl, hb2⟩
      have hc2 := Nb hc1 hb2
      go_wp2_with fail
      refine (C2.out w2 hc2).mono ?_
      rintro e w3 ⟨rfl, hb3⟩
      have hc3 := Nb hc2 hb3
      go_wp2_with fail
      refine (C3.out w3 hc3).mono ?_
      rintro e w4 ⟨rfl, hb4⟩
      have hc4 := Nb hc3 hb4
      go_wp2_with fail
      refine (C4.out w4 hc4).mono ?_
      rintro e w5 ⟨rfl, hb5⟩
      have hc5 := Nb hc4 hb5
      go_wp2_with fail
      refine (C6.out w5 hc5).mono ?_
      rintro e w6 ⟨rfl, hb6⟩
      have hc6 := Nb hc5 hb6
      go_wp2_with fail
      refine (C7.out w6 hc6).mono ?_
      rintro e w7 ⟨rfl, hb7⟩
      have hc7 := Nb hc6 hb7
      go_wp2_with fail
      refine (C8.out w7 hc7).mono ?_
      rintro e w8 ⟨rfl, hb8⟩
      have hc8 := Nb hc7 hb8
      go_wp2_with fail
      go_ret
      exact ⟨rfl, hc8⟩
    obtain ⟨lb, tb⟩ := isB_lt hB
    have C8 : Hid (∀ v, Below W.heap.size W v → Calls Tryd.prog 18 #[.string b] v fun e w' => e = .returned (.bool true) ∧ Below v.heap.size v w') := Lib.hid fun v hb => by have := is_any b v L_b; rwa [hB] at this
    have h6 := compare_tx (nv a) (nv b)
    rw [ta, tb] at h6
    by_cases hab : a = b
    · subst hab
      have h0 : cmpN (nv a) (nv a) = 0 := (cmpN_zero _ _).2 rfl
      have C6 : Hid (∀ v, Below W.heap.size W v → Calls Tryd.prog 16 #[.string a, .string a] v fun e w' => e = .returned (.tuple #[.int .i64 0, .int .i64 0]) ∧ Below v.heap.size v w') := Lib.hid fun v hb => by have := h6 v la la; rwa [h0] at this
      clear h6 ta tb h0
      go_enter Tryd.func5, Tryd.ntmps5
      go_wp2_with fail
      refine (C0.out W (Below.refl W.heap.size W)).mono ?_
      rintro e w1 ⟨rfl, hb1⟩
      have hc1 := Nb (Below.refl W.heap.size W) hb1
      go_wp2_with fail
      refine (C1.out w1 hc1).mono ?_
      rintro e w2 ⟨rfl, hb2⟩
      have hc2 := Nb hc1 hb2
      go_wp2_with fail
      refine (C2.out w2 hc2).mono ?_
      rintro e w3 ⟨rfl, hb3⟩
      have hc3 := Nb hc2 hb3
      go_wp2_with fail
      refine (C3.out w3 hc3).mono ?_
      rintro e w4 ⟨rfl, hb4⟩
      have hc4 := Nb hc3 hb4
      go_wp2_with fail
      refine (C4.out w4 hc4).mono ?_
      rintro e w5 ⟨rfl, hb5⟩
      have hc5 := Nb hc4 hb5
      go_wp2_with fail
      refine (C6.out w5 hc5).mono ?_
      rintro e w6 ⟨rfl, hb6⟩
      have hc6 := Nb hc5 hb6
      go_wp2_with fail
      refine (C7.out w6 hc6).mono ?_
      rintro e w7 ⟨rfl, hb7⟩
      have hc7 := Nb hc6 hb7
      go_wp2_with fail
      refine (C8.out w7 hc7).mono ?_
      rintro e w8 ⟨rfl, hb8⟩
      have hc8 := Nb hc7 hb8
      go_wp2_with fail
      go_ret
      exact ⟨rfl, hc8⟩
    have hne : cmpN (nv a) (nv b) ≠ 0 := fun h => hab (by rw [← ta, ← tb, (cmpN_zero _ _).1 h])
    have hbn := bytes_ne hab
    have hbn2 : a.toList ≠ b.toList := by simpa using hbn
    have C6 : Hid (∀ v, Below W.heap.size W v → Calls Tryd.prog 16 #[.string a, .string b] v fun e w' => e = .returned (.tuple #[.int .i64 (cmpN (nv a) (nv b)), .int .i64 0]) ∧ Below v.heap.size v w') := Lib.hid fun v hb => by exact h6 v la lb
    obtain ⟨nc, mc⟩ := nez hne
    generalize cmpN (nv a) (nv b) = cc at *
    clear h6 ta tb
    go_enter Tryd.func5, Tryd.ntmps5
    go_wp2_with fail
    refine (C0.out W (Below.refl W.heap.size W)).mono ?_
    rintro e w1 ⟨rfl, hb1⟩
    have hc1 := Nb (Below.refl W.heap.size W) hb1
    go_wp2_with fail
    refine (C1.out w1 hc1).mono ?_
    rintro e w2 ⟨rfl, hb2⟩
    have hc2 := Nb hc1 hb2
    go_wp2_with fail
    refine (C2.out w2 hc2).mono ?_
    rintro e w3 ⟨rfl, hb3⟩
    have hc3 := Nb hc2 hb3
    go_wp2_with fail
    refine (C3.out w3 hc3).mono ?_
    rintro e w4 ⟨rfl, hb4⟩
    have hc4 := Nb hc3 hb4
    go_wp2_with fail
    refine (C4.out w4 hc4).mono ?_
    rintro e w5 ⟨rfl, hb5⟩
    have hc5 := Nb hc4 hb5
    go_wp2_with fail
    refine (C6.out w5 hc5).mono ?_
    rintro e w6 ⟨rfl, hb6⟩
    have hc6 := Nb hc5 hb6
    go_wp2_with fail
    refine (C7.out w6 hc6).mono ?_
    rintro e w7 ⟨rfl, hb7⟩
    have hc7 := Nb hc6 hb7
    go_wp2_with fail
    refine (C8.out w7 hc7).mono ?_
    rintro e w8 ⟨rfl, hb8⟩
    have hc8 := Nb hc7 hb8
    go_wp2_with fail
    go_ret
    exact ⟨rfl, hc8⟩
  have C4 : Hid (∀ v, Below W.heap.size W v → Calls Tryd.prog 14 #[.string a] v fun e w' => e = .returned (.tuple #[.int .i64 (nv a : Int), .int .i64 0]) ∧ Below v.heap.size v w') := Lib.hid fun v hb => by have := int_ok (nv a) v la h63; rwa [ta] at this
  have C5 : Hid (∀ v, Below W.heap.size W v → Calls Tryd.prog 20 #[.int .i64 (nv a : Int)] v fun e w' => e = .returned (.string a) ∧ Below v.heap.size v w') := Lib.hid fun v hb => by have := of_any (nv a) v (by omega) (HPW.out v hb); rwa [ta] at this
  by_cases hB : isB b = true
  rotate_left
  · replace hB : isB b = false := by simpa using hB
    have C6 : Hid (∀ v, Below W.heap.size W v → Calls Tryd.prog 16 #[.string a, .string b] v fun e w' => e = .returned (.tuple #[.int .i64 0, .int .i64 1]) ∧ Below v.heap.size v w') := Lib.hid fun v hb => by exact compare_bad a b v L_a L_b (by rw [hA, hB]; rfl)
    have C8 : Hid (∀ v, Below W.heap.size W v → Calls Tryd.prog 18 #[.string b] v fun e w' => e = .returned (.bool false) ∧ Below v.heap.size v w') := Lib.hid fun v hb => by have := is_any b v L_b; rwa [hB] at this
    go_enter Tryd.func5, Tryd.ntmps5
    go_wp2_with fail
    refine (C0.out W (Below.refl W.heap.size W)).mono ?_
    rintro e w1 ⟨rfl, hb1⟩
    have hc1 := Nb (Below.refl W.heap.size W) hb1
    go_wp2_with fail
    refine (C1.out w1 hc1).mono ?_
    rintro e w2 ⟨rfl, hb2⟩
    have hc2 := Nb hc1 hb2
    go_wp2_with fail
    refine (C2.out w2 hc2).mono ?_
    rintro e w3 ⟨rfl, hb3⟩
    have hc3 := Nb hc2 hb3
    go_wp2_with fail
    refine (C3.out w3 hc3).mono ?_
    rintro e w4 ⟨rfl, hb4⟩
    have hc4 := Nb hc3 hb4
    go_wp2_with fail
    refine (C4.out w4 hc4).mono ?_
    rintro e w5 ⟨rfl, hb5⟩
    have hc5 := Nb hc4 hb5
    go_wp2_with fail
    refine (C5.out w5 hc5).mono ?_
    rintro e w6 ⟨rfl, hb6⟩
    have hc6 := Nb hc5 hb6
    go_wp2_with fail
    refine (C6.out w6 hc6).mono ?_
    rintro e w7 ⟨rfl, hb7⟩
    have hc7 := Nb hc6 hb7
    go_wp2_with fail
    refine (C7.out w7 hc7).mono ?_
    rintro e w8 ⟨rfl, hb8⟩
    have hc8 := Nb hc7 hb8
    go_wp2_with fail
    refine (C8.out w8 hc8).mono ?_
    rintro e w9 ⟨rfl, hb9⟩
    have hc9 := Nb hc8 hb9
    go_wp2_with fail
    go_ret
    exact ⟨rfl, hc9⟩
  obtain ⟨lb, tb⟩ := isB_lt hB
  have C8 : Hid (∀ v, Below W.heap.size W v → Calls Tryd.prog 18 #[.string b] v fun e w' => e = .returned (.bool true) ∧ Below v.heap.size v w') := Lib.hid fun v hb => by have := is_any b v L_b; rwa [hB] at this
  have h6 := compare_tx (nv a) (nv b)
  rw [ta, tb] at h6
  by_cases hab : a = b
  · subst hab
    have h0 : cmpN (nv a) (nv a) = 0 := (cmpN_zero _ _).2 rfl
    have C6 : Hid (∀ v, Below W.heap.size W v → Calls Tryd.prog 16 #[.string a, .string a] v fun e w' => e = .returned (.tuple #[.int .i64 0, .int .i64 0]) ∧ Below v.heap.size v w') := Lib.hid fun v hb => by have := h6 v la la; rwa [h0] at this
    clear h6 ta tb h0
    go_enter Tryd.func5, Tryd.ntmps5
    go_wp2_with fail
    refine (C0.out W (Below.refl W.heap.size W)).mono ?_
    rintro e w1 ⟨rfl, hb1⟩
    have hc1 := Nb (Below.refl W.heap.size W) hb1
    go_wp2_with fail
    refine (C1.out w1 hc1).mono ?_
    rintro e w2 ⟨rfl, hb2⟩
    have hc2 := Nb hc1 hb2
    go_wp2_with fail
    refine (C2.out w2 hc2).mono ?_
    rintro e w3 ⟨rfl, hb3⟩
    have hc3 := Nb hc2 hb3
    go_wp2_with fail
    refine (C3.out w3 hc3).mono ?_
    rintro e w4 ⟨rfl, hb4⟩
    have hc4 := Nb hc3 hb4
    go_wp2_with fail
    refine (C4.out w4 hc4).mono ?_
    rintro e w5 ⟨rfl, hb5⟩
    have hc5 := Nb hc4 hb5
    go_wp2_with fail
    refine (C5.out w5 hc5).mono ?_
    rintro e w6 ⟨rfl, hb6⟩
    have hc6 := Nb hc5 hb6
    go_wp2_with fail
    refine (C6.out w6 hc6).mono ?_
    rintro e w7 ⟨rfl, hb7⟩
    have hc7 := Nb hc6 hb7
    go_wp2_with fail
    refine (C7.out w7 hc7).mono ?_
    rintro e w8 ⟨rfl, hb8⟩
    have hc8 := Nb hc7 hb8
    go_wp2_with fail
    refine (C8.out w8 hc8).mono ?_
    rintro e w9 ⟨rfl, hb9⟩
    have hc9 := Nb hc8 hb9
    go_wp2_with fail
    go_ret
    exact ⟨rfl, hc9⟩
  have hne : cmpN (nv a) (nv b) ≠ 0 := fun h => hab (by rw [← ta, ← tb, (cmpN_zero _ _).1 h])
  have hbn := bytes_ne hab
  have hbn2 : a.toList ≠ b.toList := by simpa using hbn
  have C6 : Hid (∀ v, Below W.heap.size W v → Calls Tryd.prog 16 #[.string a, .string b] v fun e w' => e = .returned (.tuple #[.int .i64 (cmpN (nv a) (nv b)), .int .i64 0]) ∧ Below v.heap.size v w') := Lib.hid fun v hb => by exact h6 v la lb
  obtain ⟨nc, mc⟩ := nez hne
  generalize cmpN (nv a) (nv b) = cc at *
  clear h6 ta tb
  go_enter Tryd.func5, Tryd.ntmps5
  go_wp2_with fail
  refine (C0.out W (Below.refl W.heap.size W)).mono ?_
  rintro e w1 ⟨rfl, hb1⟩
  have hc1 := Nb (Below.refl W.heap.size W) hb1
  go_wp2_with fail
  refine (C1.out w1 hc1).mono ?_
  rintro e w2 ⟨rfl, hb2⟩
  have hc2 := Nb hc1 hb2
  go_wp2_with fail
  refine (C2.out w2 hc2).mono ?_
  rintro e w3 ⟨rfl, hb3⟩
  have hc3 := Nb hc2 hb3
  go_wp2_with fail
  refine (C3.out w3 hc3).mono ?_
  rintro e w4 ⟨rfl, hb4⟩
  have hc4 := Nb hc3 hb4
  go_wp2_with fail
  refine (C4.out w4 hc4).mono ?_
  rintro e w5 ⟨rfl, hb5⟩
  have hc5 := Nb hc4 hb5
  go_wp2_with fail
  refine (C5.out w5 hc5).mono ?_
  rintro e w6 ⟨rfl, hb6⟩
  have hc6 := Nb hc5 hb6
  go_wp2_with fail
  refine (C6.out w6 hc6).mono ?_
  rintro e w7 ⟨rfl, hb7⟩
  have hc7 := Nb hc6 hb7
  go_wp2_with fail
  refine (C7.out w7 hc7).mono ?_
  rintro e w8 ⟨rfl, hb8⟩
  have hc8 := Nb hc7 hb8
  go_wp2_with fail
  refine (C8.out w8 hc8).mono ?_
  rintro e w9 ⟨rfl, hb9⟩
  have hc9 := Nb hc8 hb9
  go_wp2_with fail
  go_ret
  exact ⟨rfl, hc9⟩
end Go.Proofs.YtabebggkfjddbaaDoor
