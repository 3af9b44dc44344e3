/- NaturalOrder walked: the first is less, the third is not less than the second. -/
import Derived.Test.YtabebggkfjddbaaDoorNaOrdM
set_option linter.unusedSimpArgs false
set_option linter.unusedVariables false
namespace Go.Proofs.YtabebggkfjddbaaDoor
open Go.RowKit
set_option maxRecDepth 100000


set_option maxHeartbeats 8000000 in
theorem orderLL (a b c : ByteArray) (W : World) (HPW : Hid (∀ v : World, Below W.heap.size W v → Pow v.heap.size v)) (L_a : a.size ≤ maxLen) (L_b : b.size ≤ maxLen) (L_c : c.size ≤ maxLen) (hB_a : isB a = true) (hB_b : isB b = true) (hB_c : isB c = true) (hx : nv a < nv b) (hz : nv b ≤ nv c) :
    Calls Tryd.prog 7 #[.string a, .string b, .string c] W fun e w' => e = .returned (.bool true) ∧ Below W.heap.size W w' := by
  have C0 : Hid (∀ v, Below W.heap.size W v → Calls Tryd.prog 13 #[] v fun e w' => e = .returned (.bool true) ∧ Below v.heap.size v w') := Lib.hid fun v hb => head_any v (HPW.out v hb)
  have C1 : Hid (∀ v, Below W.heap.size W v → Calls Tryd.prog 18 #[.string a] v fun e w' => e = .returned (.bool true) ∧ Below v.heap.size v w') := Lib.hid fun v hb => by have := is_any a v L_a; rwa [hB_a] at this
  have C2 : Hid (∀ v, Below W.heap.size W v → Calls Tryd.prog 18 #[.string b] v fun e w' => e = .returned (.bool true) ∧ Below v.heap.size v w') := Lib.hid fun v hb => by have := is_any b v L_b; rwa [hB_b] at this
  have C3 : Hid (∀ v, Below W.heap.size W v → Calls Tryd.prog 18 #[.string c] v fun e w' => e = .returned (.bool true) ∧ Below v.heap.size v w') := Lib.hid fun v hb => by have := is_any c v L_c; rwa [hB_c] at this
  obtain ⟨x, e4, h4⟩ : ∃ u1 u2, cmpF a b = (u1, u2) := ⟨_, _, rfl⟩
  have C4 : Hid (∀ v, Below W.heap.size W v → Calls Tryd.prog 16 #[.string a, .string b] v fun e w' => e = .returned (.tuple #[.int .i64 x, .int .i64 e4]) ∧ Below v.heap.size v w') := Lib.hid fun v hb => by have := compareF a b v L_a L_b; rwa [h4] at this
  obtain ⟨y, e5, h5⟩ : ∃ u1 u2, cmpF b a = (u1, u2) := ⟨_, _, rfl⟩
  have C5 : Hid (∀ v, Below W.heap.size W v → Calls Tryd.prog 16 #[.string b, .string a] v fun e w' => e = .returned (.tuple #[.int .i64 y, .int .i64 e5]) ∧ Below v.heap.size v w') := Lib.hid fun v hb => by have := compareF b a v L_b L_a; rwa [h5] at this
  obtain ⟨z, e6, h6⟩ : ∃ u1 u2, cmpF b c = (u1, u2) := ⟨_, _, rfl⟩
  have C6 : Hid (∀ v, Below W.heap.size W v → Calls Tryd.prog 16 #[.string b, .string c] v fun e w' => e = .returned (.tuple #[.int .i64 z, .int .i64 e6]) ∧ Below v.heap.size v w') := Lib.hid fun v hb => by have := compareF b c v L_b L_c; rwa [h6] at this
  obtain ⟨v7, e7, h7⟩ : ∃ u1 u2, cmpF a c = (u1, u2) := ⟨_, _, rfl⟩
  have C7 : Hid (∀ v, Below W.heap.size W v → Calls Tryd.prog 16 #[.string a, .string c] v fun e w' => e = .returned (.tuple #[.int .i64 v7, .int .i64 e7]) ∧ Below v.heap.size v w') := Lib.hid fun v hb => by have := compareF a c v L_a L_c; rwa [h7] at this
  obtain ⟨d8, e8, h8⟩ : ∃ u1 u2, subF a b = (u1, u2) := ⟨_, _, rfl⟩
  have L_d8 : d8.size ≤ maxLen := by have := sub_len a b; rwa [h8] at this
  have C8 : Hid (∀ v, Below W.heap.size W v → Calls Tryd.prog 24 #[.string a, .string b] v fun e w' => e = .returned (.tuple #[.string d8, .int .i64 e8]) ∧ Below v.heap.size v w') := Lib.hid fun v hb => by have := subtractF a b v L_a L_b (HPW.out v hb); rwa [h8] at this
  obtain ⟨p, e9, h9⟩ : ∃ u1 u2, opF (fun m n => m + n) a c = (u1, u2) := ⟨_, _, rfl⟩
  have L_p : p.size ≤ maxLen := by have := op_len (fun m n => m + n) a c; rwa [h9] at this
  have C9 : Hid (∀ v, Below W.heap.size W v → Calls Tryd.prog 22 #[.string a, .string c] v fun e w' => e = .returned (.tuple #[.string p, .int .i64 e9]) ∧ Below v.heap.size v w') := Lib.hid fun v hb => by have := addF a c v L_a L_c (HPW.out v hb); rwa [h9] at this
  obtain ⟨q, e10, h10⟩ : ∃ u1 u2, opF (fun m n => m + n) b c = (u1, u2) := ⟨_, _, rfl⟩
  have L_q : q.size ≤ maxLen := by have := op_len (fun m n => m + n) b c; rwa [h10] at this
  have C10 : Hid (∀ v, Below W.heap.size W v → Calls Tryd.prog 22 #[.string b, .string c] v fun e w' => e = .returned (.tuple #[.string q, .int .i64 e10]) ∧ Below v.heap.size v w') := Lib.hid fun v hb => by have := addF b c v L_b L_c (HPW.out v hb); rwa [h10] at this
  obtain ⟨n11, e11, h11⟩ : ∃ u1 u2, cmpF p q = (u1, u2) := ⟨_, _, rfl⟩
  have C11 : Hid (∀ v, Below W.heap.size W v → Calls Tryd.prog 16 #[.string p, .string q] v fun e w' => e = .returned (.tuple #[.int .i64 n11, .int .i64 e11]) ∧ Below v.heap.size v w') := Lib.hid fun v hb => by have := compareF p q v L_p L_q; rwa [h11] at this
  obtain ⟨r, e12, h12⟩ : ∃ u1 u2, opF (fun m n => m * n) a c = (u1, u2) := ⟨_, _, rfl⟩
  have L_r : r.size ≤ maxLen := by have := op_len (fun m n => m * n) a c; rwa [h12] at this
  have C12 : Hid (∀ v, Below W.heap.size W v → Calls Tryd.prog 26 #[.string a, .string c] v fun e w' => e = .returned (.tuple #[.string r, .int .i64 e12]) ∧ Below v.heap.size v w') := Lib.hid fun v hb => by have := mulF a c v L_a L_c (HPW.out v hb); rwa [h12] at this
  obtain ⟨s, e13, h13⟩ : ∃ u1 u2, opF (fun m n => m * n) b c = (u1, u2) := ⟨_, _, rfl⟩
  have L_s : s.size ≤ maxLen := by have := op_len (fun m n => m * n) b c; rwa [h13] at this
  have C13 : Hid (∀ v, Below W.heap.size W v → Calls Tryd.prog 26 #[.string b, .string c] v fun e w' => e = .returned (.tuple #[.string s, .int .i64 e13]) ∧ Below v.heap.size v w') := Lib.hid fun v hb => by have := mulF b c v L_b L_c (HPW.out v hb); rwa [h13] at this
  obtain ⟨m14, e14, h14⟩ : ∃ u1 u2, cmpF r s = (u1, u2) := ⟨_, _, rfl⟩
  have C14 : Hid (∀ v, Below W.heap.size W v → Calls Tryd.prog 16 #[.string r, .string s] v fun e w' => e = .returned (.tuple #[.int .i64 m14, .int .i64 e14]) ∧ Below v.heap.size v w') := Lib.hid fun v hb => by have := compareF r s v L_r L_s; rwa [h14] at this
  obtain ⟨la, ta⟩ := isB_lt hB_a
  obtain ⟨lb, tb⟩ := isB_lt hB_b
  obtain ⟨lc, tc⟩ := isB_lt hB_c
  obtain ⟨rx, rfl⟩ := cmp_make h4 hB_a hB_b
  obtain ⟨ry, rfl⟩ := cmp_make h5 hB_b hB_a
  obtain ⟨rz, rfl⟩ := cmp_make h6 hB_b hB_c
  obtain ⟨rw7, rfl⟩ := cmp_make h7 hB_a hB_c
  have r8 := sub_make h8 hB_a hB_b
  have zc := eq48 hB_c
  have M11 : e9 = 0 → e10 = 0 → n11 = x := by
    intro k9 k10
    obtain ⟨_, _, r9, n9, l9⟩ := op_zero h9 k9
    obtain ⟨_, _, r10, n10, l10⟩ := op_zero h10 k10
    obtain ⟨r11, _⟩ := cmp_make h11 (by rw [r9]; exact isB_txl l9) (by rw [r10]; exact isB_txl l10)
    have n9' : nv p = nv a + nv c := n9
    have n10' : nv q = nv b + nv c := n10
    rw [r11, rx, n9', n10', cmpN_add]
  have M14 : nv c ≠ 0 → e12 = 0 → e13 = 0 → m14 = x := by
    intro hc k12 k13
    obtain ⟨_, _, r9, n9, l9⟩ := op_zero h12 k12
    obtain ⟨_, _, r10, n10, l10⟩ := op_zero h13 k13
    obtain ⟨r11, _⟩ := cmp_make h14 (by rw [r9]; exact isB_txl l9) (by rw [r10]; exact isB_txl l10)
    have n9' : nv r = nv a * nv c := n9
    have n10' : nv s = nv b * nv c := n10
    rw [r11, rx, n9', n10', cmpN_mul _ _ _ (by omega)]
  rw [cmpN_anti, ← rx] at ry
  clear h4 h5 h6 h7 h8 h9 h10 h11 h12 h13 h14 la ta lb tb lc tc HPW hB_a hB_b hB_c
  have hx1 : cmpN (nv a) (nv b) = -1 := by unfold cmpN; rw [if_pos hx]
  have hz1 : z ≤ 0 := by rw [rz]; exact cmpN_le hz
  have hw0 : cmpN (nv a) (nv c) = -1 := by unfold cmpN; rw [if_pos (by omega)]
  rw [hx1] at rx
  rw [hw0] at rw7
  subst rx
  subst ry
  subst rw7
  rw [if_pos hx] at r8
  subst r8
  clear hx hx1 hz hw0 rz
  by_cases k9 : e9 = 0
  rotate_left
  · obtain ⟨n9, m9⟩ := nez k9
    clear M11
    by_cases kc : nv c = 0
    · rw [decide_eq_true kc] at zc
      clear M14 kc
      go_enter Tryd.func7, Tryd.ntmps7
      go_wp2_with fail
      refine (C0.out W (Below.refl W.heap.size W)).mono ?_
      rintro e w1 ⟨rfl, hb1⟩
      have hc1 := Nb (Below.refl W.heap.size W) hb1
      go_wp2_with fail
      refine (C1.out w1 hc1).mono ?_
      rintro e w2 ⟨rfl, hb2⟩
      have hc2 := Nb hc1 hb2
      go_wp2_with fail
      refine (C2.out w2 hc2).mono ?_
      rintro e w3 ⟨rfl, hb3⟩
      have hc3 := Nb hc2 hb3
      go_wp2_with fail
      refine (C3.out w3 hc3).mono ?_
      rintro e w4 ⟨rfl, hb4⟩
      have hc4 := Nb hc3 hb4
      go_wp2_with fail
      refine (C4.out w4 hc4).mono ?_
      rintro e w5 ⟨rfl, hb5⟩
      have hc5 := Nb hc4 hb5
      go_wp2_with fail
      refine (C5.out w5 hc5).mono ?_
      rintro e w6 ⟨rfl, hb6⟩
      have hc6 := Nb hc5 hb6
      go_wp2_with fail
      refine (C6.out w6 hc6).mono ?_
      rintro e w7 ⟨rfl, hb7⟩
      have hc7 := Nb hc6 hb7
      go_wp2_with fail
      refine (C7.out w7 hc7).mono ?_
      rintro e w8 ⟨rfl, hb8⟩
      have hc8 := Nb hc7 hb8
      go_wp2_with fail
      refine (C8.out w8 hc8).mono ?_
      rintro e w9 ⟨rfl, hb9⟩
      have hc9 := Nb hc8 hb9
      go_wp2_with fail
      refine (C9.out w9 hc9).mono ?_
      rintro e w10 ⟨rfl, hb10⟩
      have hc10 := Nb hc9 hb10
      go_wp2_with fail
      refine (C10.out w10 hc10).mono ?_
      rintro e w11 ⟨rfl, hb11⟩
      have hc11 := Nb hc10 hb11
      go_wp2_with fail
      refine (C11.out w11 hc11).mono ?_
      rintro e w12 ⟨rfl, hb12⟩
      have hc12 := Nb hc11 hb12
      go_wp2_with fail
      refine (C12.out w12 hc12).mono ?_
      rintro e w13 ⟨rfl, hb13⟩
      have hc13 := Nb hc12 hb13
      go_wp2_with fail
      refine (C13.out w13 hc13).mono ?_
      rintro e w14 ⟨rfl, hb14⟩
      have hc14 := Nb hc13 hb14
      go_wp2_with fail
      refine (C14.out w14 hc14).mono ?_
      rintro e w15 ⟨rfl, hb15⟩
      have hc15 := Nb hc14 hb15
      go_wp2_with fail
      go_ret
      exact ⟨rfl, hc15⟩
    rw [decide_eq_false kc] at zc
    have zc2 : c.toList ≠ [48] := by simpa using zc
    replace M14 := M14 kc
    clear kc
    by_cases k12 : e12 = 0
    rotate_left
    · obtain ⟨n12, m12⟩ := nez k12
      clear M14
      go_enter Tryd.func7, Tryd.ntmps7
      go_wp2_with fail
      refine (C0.out W (Below.refl W.heap.size W)).mono ?_
      rintro e w1 ⟨rfl, hb1⟩
      have hc1 := Nb (Below.refl W.heap.size W) hb1
      go_wp2_with fail
      refine (C1.out w1 hc1).mono ?_
      rintro e w2 ⟨rfl, hb2⟩
      have hc2 := Nb hc1 hb2
      go_wp2_with fail
      refine (C2.out w2 hc2).mono ?_
      rintro e w3 ⟨rfl, hb3⟩
      have hc3 := Nb hc2 hb3
      go_wp2_with fail
      refine (C3.out w3 hc3).mono ?_
      rintro e w4 ⟨rfl, hb4⟩
      have hc4 := Nb hc3 hb4
      go_wp2_with fail
      refine (C4.out w4 hc4).mono ?_
      rintro e w5 ⟨rfl, hb5⟩
      have hc5 := Nb hc4 hb5
      go_wp2_with fail
      refine (C5.out w5 hc5).mono ?_
      rintro e w6 ⟨rfl, hb6⟩
      have hc6 := Nb hc5 hb6
      go_wp2_with fail
      refine (C6.out w6 hc6).mono ?_
      rintro e w7 ⟨rfl, hb7⟩
      have hc7 := Nb hc6 hb7
      go_wp2_with fail
      refine (C7.out w7 hc7).mono ?_
      rintro e w8 ⟨rfl, hb8⟩
      have hc8 := Nb hc7 hb8
      go_wp2_with fail
      refine (C8.out w8 hc8).mono ?_
      rintro e w9 ⟨rfl, hb9⟩
      have hc9 := Nb hc8 hb9
      go_wp2_with fail
      refine (C9.out w9 hc9).mono ?_
      rintro e w10 ⟨rfl, hb10⟩
      have hc10 := Nb hc9 hb10
      go_wp2_with fail
      refine (C10.out w10 hc10).mono ?_
      rintro e w11 ⟨rfl, hb11⟩
      have hc11 := Nb hc10 hb11
      go_wp2_with fail
      refine (C11.out w11 hc11).mono ?_
      rintro e w12 ⟨rfl, hb12⟩
      have hc12 := Nb hc11 hb12
      go_wp2_with fail
      refine (C12.out w12 hc12).mono ?_
      rintro e w13 ⟨rfl, hb13⟩
      have hc13 := Nb hc12 hb13
      go_wp2_with fail
      refine (C13.out w13 hc13).mono ?_
      rintro e w14 ⟨rfl, hb14⟩
      have hc14 := Nb hc13 hb14
      go_wp2_with fail
      refine (C14.out w14 hc14).mono ?_
      rintro e w15 ⟨rfl, hb15⟩
      have hc15 := Nb hc14 hb15
      go_wp2_with fail
      go_ret
      exact ⟨rfl, hc15⟩
    by_cases k13 : e13 = 0
    rotate_left
    · obtain ⟨n13, m13⟩ := nez k13
      clear M14
      subst k12
      go_enter Tryd.func7, Tryd.ntmps7
      go_wp2_with fail
      refine (C0.out W (Below.refl W.heap.size W)).mono ?_
      rintro e w1 ⟨rfl, hb1⟩
      have hc1 := Nb (Below.refl W.heap.size W) hb1
      go_wp2_with fail
      refine (C1.out w1 hc1).mono ?_
      rintro e w2 ⟨rfl, hb2⟩
      have hc2 := Nb hc1 hb2
      go_wp2_with fail
      refine (C2.out w2 hc2).mono ?_
      rintro e w3 ⟨rfl, hb3⟩
      have hc3 := Nb hc2 hb3
      go_wp2_with fail
      refine (C3.out w3 hc3).mono ?_
      rintro e w4 ⟨rfl, hb4⟩
      have hc4 := Nb hc3 hb4
      go_wp2_with fail
      refine (C4.out w4 hc4).mono ?_
      rintro e w5 ⟨rfl, hb5⟩
      have hc5 := Nb hc4 hb5
      go_wp2_with fail
      refine (C5.out w5 hc5).mono ?_
      rintro e w6 ⟨rfl, hb6⟩
      have hc6 := Nb hc5 hb6
      go_wp2_with fail
      refine (C6.out w6 hc6).mono ?_
      rintro e w7 ⟨rfl, hb7⟩
      have hc7 := Nb hc6 hb7
      go_wp2_with fail
      refine (C7.out w7 hc7).mono ?_
      rintro e w8 ⟨rfl, hb8⟩
      have hc8 := Nb hc7 hb8
      go_wp2_with fail
      refine (C8.out w8 hc8).mono ?_
      rintro e w9 ⟨rfl, hb9⟩
      have hc9 := Nb hc8 hb9
      go_wp2_with fail
      refine (C9.out w9 hc9).mono ?_
      rintro e w10 ⟨rfl, hb10⟩
      have hc10 := Nb hc9 hb10
      go_wp2_with fail
      refine (C10.out w10 hc10).mono ?_
      rintro e w11 ⟨rfl, hb11⟩
      have hc11 := Nb hc10 hb11
      go_wp2_with fail
      refine (C11.out w11 hc11).mono ?_
      rintro e w12 ⟨rfl, hb12⟩
      have hc12 := Nb hc11 hb12
      go_wp2_with fail
      refine (C12.out w12 hc12).mono ?_
      rintro e w13 ⟨rfl, hb13⟩
      have hc13 := Nb hc12 hb13
      go_wp2_with fail
      refine (C13.out w13 hc13).mono ?_
      rintro e w14 ⟨rfl, hb14⟩
      have hc14 := Nb hc13 hb14
      go_wp2_with fail
      refine (C14.out w14 hc14).mono ?_
      rintro e w15 ⟨rfl, hb15⟩
      have hc15 := Nb hc14 hb15
      go_wp2_with fail
      go_ret
      exact ⟨rfl, hc15⟩
    have k14 := M14 k12 k13
    clear M14
    subst k12
    subst k13
    subst k14
    go_enter Tryd.func7, Tryd.ntmps7
    go_wp2_with fail
    refine (C0.out W (Below.refl W.heap.size W)).mono ?_
    rintro e w1 ⟨rfl, hb1⟩
    have hc1 := Nb (Below.refl W.heap.size W) hb1
    go_wp2_with fail
    refine (C1.out w1 hc1).mono ?_
    rintro e w2 ⟨rfl, hb2⟩
    have hc2 := Nb hc1 hb2
    go_wp2_with fail
    refine (C2.out w2 hc2).mono ?_
    rintro e w3 ⟨rfl, hb3⟩
    have hc3 := Nb hc2 hb3
    go_wp2_with fail
    refine (C3.out w3 hc3).mono ?_
    rintro e w4 ⟨rfl, hb4⟩
    have hc4 := Nb hc3 hb4
    go_wp2_with fail
    refine (C4.out w4 hc4).mono ?_
    rintro e w5 ⟨rfl, hb5⟩
    have hc5 := Nb hc4 hb5
    go_wp2_with fail
    refine (C5.out w5 hc5).mono ?_
    rintro e w6 ⟨rfl, hb6⟩
    have hc6 := Nb hc5 hb6
    go_wp2_with fail
    refine (C6.out w6 hc6).mono ?_
    rintro e w7 ⟨rfl, hb7⟩
    have hc7 := Nb hc6 hb7
    go_wp2_with fail
    refine (C7.out w7 hc7).mono ?_
    rintro e w8 ⟨rfl, hb8⟩
    have hc8 := Nb hc7 hb8
    go_wp2_with fail
    refine (C8.out w8 hc8).mono ?_
    rintro e w9 ⟨rfl, hb9⟩
    have hc9 := Nb hc8 hb9
    go_wp2_with fail
    refine (C9.out w9 hc9).mono ?_
    rintro e w10 ⟨rfl, hb10⟩
    have hc10 := Nb hc9 hb10
    go_wp2_with fail
    refine (C10.out w10 hc10).mono ?_
    rintro e w11 ⟨rfl, hb11⟩
    have hc11 := Nb hc10 hb11
    go_wp2_with fail
    refine (C11.out w11 hc11).mono ?_
    rintro e w12 ⟨rfl, hb12⟩
    have hc12 := Nb hc11 hb12
    go_wp2_with fail
    refine (C12.out w12 hc12).mono ?_
    rintro e w13 ⟨rfl, hb13⟩
    have hc13 := Nb hc12 hb13
    go_wp2_with fail
    refine (C13.out w13 hc13).mono ?_
    rintro e w14 ⟨rfl, hb14⟩
    have hc14 := Nb hc13 hb14
    go_wp2_with fail
    refine (C14.out w14 hc14).mono ?_
    rintro e w15 ⟨rfl, hb15⟩
    have hc15 := Nb hc14 hb15
    go_wp2_with fail
    go_ret
    exact ⟨rfl, hc15⟩
  by_cases k10 : e10 = 0
  rotate_left
  · obtain ⟨n10, m10⟩ := nez k10
    clear M11
    subst k9
    by_cases kc : nv c = 0
    · rw [decide_eq_true kc] at zc
      clear M14 kc
      go_enter Tryd.func7, Tryd.ntmps7
      go_wp2_with fail
      refine (C0.out W (Below.refl W.heap.size W)).mono ?_
      rintro e w1 ⟨rfl, hb1⟩
      have hc1 := Nb (Below.refl W.heap.size W) hb1
      go_wp2_with fail
      refine (C1.out w1 hc1).mono ?_
      rintro e w2 ⟨rfl, hb2⟩
      have hc2 := Nb hc1 hb2
      go_wp2_with fail
      refine (C2.out w2 hc2).mono ?_
      rintro e w3 ⟨rfl, hb3⟩
      have hc3 := Nb hc2 hb3
      go_wp2_with fail
      refine (C3.out w3 hc3).mono ?_
      rintro e w4 ⟨rfl, hb4⟩
      have hc4 := Nb hc3 hb4
      go_wp2_with fail
      refine (C4.out w4 hc4).mono ?_
      rintro e w5 ⟨rfl, hb5⟩
      have hc5 := Nb hc4 hb5
      go_wp2_with fail
      refine (C5.out w5 hc5).mono ?_
      rintro e w6 ⟨rfl, hb6⟩
      have hc6 := Nb hc5 hb6
      go_wp2_with fail
      refine (C6.out w6 hc6).mono ?_
      rintro e w7 ⟨rfl, hb7⟩
      have hc7 := Nb hc6 hb7
      go_wp2_with fail
      refine (C7.out w7 hc7).mono ?_
      rintro e w8 ⟨rfl, hb8⟩
      have hc8 := Nb hc7 hb8
      go_wp2_with fail
      refine (C8.out w8 hc8).mono ?_
      rintro e w9 ⟨rfl, hb9⟩
      have hc9 := Nb hc8 hb9
      go_wp2_with fail
      refine (C9.out w9 hc9).mono ?_
      rintro e w10 ⟨rfl, hb10⟩
      have hc10 := Nb hc9 hb10
      go_wp2_with fail
      refine (C10.out w10 hc10).mono ?_
      rintro e w11 ⟨rfl, hb11⟩
      have hc11 := Nb hc10 hb11
      go_wp2_with fail
      refine (C11.out w11 hc11).mono ?_
      rintro e w12 ⟨rfl, hb12⟩
      have hc12 := Nb hc11 hb12
      go_wp2_with fail
      refine (C12.out w12 hc12).mono ?_
      rintro e w13 ⟨rfl, hb13⟩
      have hc13 := Nb hc12 hb13
      go_wp2_with fail
      refine (C13.out w13 hc13).mono ?_
      rintro e w14 ⟨rfl, hb14⟩
      have hc14 := Nb hc13 hb14
      go_wp2_with fail
      refine (C14.out w14 hc14).mono ?_
      rintro e w15 ⟨rfl, hb15⟩
      have hc15 := Nb hc14 hb15
      go_wp2_with fail
      go_ret
      exact ⟨rfl, hc15⟩
    rw [decide_eq_false kc] at zc
    have zc2 : c.toList ≠ [48] := by simpa using zc
    replace M14 := M14 kc
    clear kc
    by_cases k12 : e12 = 0
    rotate_left
    · obtain ⟨n12, m12⟩ := nez k12
      clear M14
      go_enter Tryd.func7, Tryd.ntmps7
      go_wp2_with fail
      refine (C0.out W (Below.refl W.heap.size W)).mono ?_
      rintro e w1 ⟨rfl, hb1⟩
      have hc1 := Nb (Below.refl W.heap.size W) hb1
      go_wp2_with fail
      refine (C1.out w1 hc1).mono ?_
      rintro e w2 ⟨rfl, hb2⟩
      have hc2 := Nb hc1 hb2
      go_wp2_with fail
      refine (C2.out w2 hc2).mono ?_
      rintro e w3 ⟨rfl, hb3⟩
      have hc3 := Nb hc2 hb3
      go_wp2_with fail
      refine (C3.out w3 hc3).mono ?_
      rintro e w4 ⟨rfl, hb4⟩
      have hc4 := Nb hc3 hb4
      go_wp2_with fail
      refine (C4.out w4 hc4).mono ?_
      rintro e w5 ⟨rfl, hb5⟩
      have hc5 := Nb hc4 hb5
      go_wp2_with fail
      refine (C5.out w5 hc5).mono ?_
      rintro e w6 ⟨rfl, hb6⟩
      have hc6 := Nb hc5 hb6
      go_wp2_with fail
      refine (C6.out w6 hc6).mono ?_
      rintro e w7 ⟨rfl, hb7⟩
      have hc7 := Nb hc6 hb7
      go_wp2_with fail
      refine (C7.out w7 hc7).mono ?_
      rintro e w8 ⟨rfl, hb8⟩
      have hc8 := Nb hc7 hb8
      go_wp2_with fail
      refine (C8.out w8 hc8).mono ?_
      rintro e w9 ⟨rfl, hb9⟩
      have hc9 := Nb hc8 hb9
      go_wp2_with fail
      refine (C9.out w9 hc9).mono ?_
      rintro e w10 ⟨rfl, hb10⟩
      have hc10 := Nb hc9 hb10
      go_wp2_with fail
      refine (C10.out w10 hc10).mono ?_
      rintro e w11 ⟨rfl, hb11⟩
      have hc11 := Nb hc10 hb11
      go_wp2_with fail
      refine (C11.out w11 hc11).mono ?_
      rintro e w12 ⟨rfl, hb12⟩
      have hc12 := Nb hc11 hb12
      go_wp2_with fail
      refine (C12.out w12 hc12).mono ?_
      rintro e w13 ⟨rfl, hb13⟩
      have hc13 := Nb hc12 hb13
      go_wp2_with fail
      refine (C13.out w13 hc13).mono ?_
      rintro e w14 ⟨rfl, hb14⟩
      have hc14 := Nb hc13 hb14
      go_wp2_with fail
      refine (C14.out w14 hc14).mono ?_
      rintro e w15 ⟨rfl, hb15⟩
      have hc15 := Nb hc14 hb15
      go_wp2_with fail
      go_ret
      exact ⟨rfl, hc15⟩
    by_cases k13 : e13 = 0
    rotate_left
    · obtain ⟨n13, m13⟩ := nez k13
      clear M14
      subst k12
      go_enter Tryd.func7, Tryd.ntmps7
      go_wp2_with fail
      refine (C0.out W (Below.refl W.heap.size W)).mono ?_
      rintro e w1 ⟨rfl, hb1⟩
      have hc1 := Nb (Below.refl W.heap.size W) hb1
      go_wp2_with fail
      refine (C1.out w1 hc1).mono ?_
      rintro e w2 ⟨rfl, hb2⟩
      have hc2 := Nb hc1 hb2
      go_wp2_with fail
      refine (C2.out w2 hc2).mono ?_
      rintro e w3 ⟨rfl, hb3⟩
      have hc3 := Nb hc2 hb3
      go_wp2_with fail
      refine (C3.out w3 hc3).mono ?_
      rintro e w4 ⟨rfl, hb4⟩
      have hc4 := Nb hc3 hb4
      go_wp2_with fail
      refine (C4.out w4 hc4).mono ?_
      rintro e w5 ⟨rfl, hb5⟩
      have hc5 := Nb hc4 hb5
      go_wp2_with fail
      refine (C5.out w5 hc5).mono ?_
      rintro e w6 ⟨rfl, hb6⟩
      have hc6 := Nb hc5 hb6
      go_wp2_with fail
      refine (C6.out w6 hc6).mono ?_
      rintro e w7 ⟨rfl, hb7⟩
      have hc7 := Nb hc6 hb7
      go_wp2_with fail
      refine (C7.out w7 hc7).mono ?_
      rintro e w8 ⟨rfl, hb8⟩
      have hc8 := Nb hc7 hb8
      go_wp2_with fail
      refine (C8.out w8 hc8).mono ?_
      rintro e w9 ⟨rfl, hb9⟩
      have hc9 := Nb hc8 hb9
      go_wp2_with fail
      refine (C9.out w9 hc9).mono ?_
      rintro e w10 ⟨rfl, hb10⟩
      have hc10 := Nb hc9 hb10
      go_wp2_with fail
      refine (C10.out w10 hc10).mono ?_
      rintro e w11 ⟨rfl, hb11⟩
      have hc11 := Nb hc10 hb11
      go_wp2_with fail
      refine (C11.out w11 hc11).mono ?_
      rintro e w12 ⟨rfl, hb12⟩
      have hc12 := Nb hc11 hb12
      go_wp2_with fail
      refine (C12.out w12 hc12).mono ?_
      rintro e w13 ⟨rfl, hb13⟩
      have hc13 := Nb hc12 hb13
      go_wp2_with fail
      refine (C13.out w13 hc13).mono ?_
      rintro e w14 ⟨rfl, hb14⟩
      have hc14 := Nb hc13 hb14
      go_wp2_with fail
      refine (C14.out w14 hc14).mono ?_
      rintro e w15 ⟨rfl, hb15⟩
      have hc15 := Nb hc14 hb15
      go_wp2_with fail
      go_ret
      exact ⟨rfl, hc15⟩
    have k14 := M14 k12 k13
    clear M14
    subst k12
    subst k13
    subst k14
    go_enter Tryd.func7, Tryd.ntmps7
    go_wp2_with fail
    refine (C0.out W (Below.refl W.heap.size W)).mono ?_
    rintro e w1 ⟨rfl, hb1⟩
    have hc1 := Nb (Below.refl W.heap.size W) hb1
    go_wp2_with fail
    refine (C1.out w1 hc1).mono ?_
    rintro e w2 ⟨rfl, hb2⟩
    have hc2 := Nb hc1 hb2
    go_wp2_with fail
    refine (C2.out w2 hc2).mono ?_
    rintro e w3 ⟨rfl, hb3⟩
    have hc3 := Nb hc2 hb3
    go_wp2_with fail
    refine (C3.out w3 hc3).mono ?_
    rintro e w4 ⟨rfl, hb4⟩
    have hc4 := Nb hc3 hb4
    go_wp2_with fail
    refine (C4.out w4 hc4).mono ?_
    rintro e w5 ⟨rfl, hb5⟩
    have hc5 := Nb hc4 hb5
    go_wp2_with fail
    refine (C5.out w5 hc5).mono ?_
    rintro e w6 ⟨rfl, hb6⟩
    have hc6 := Nb hc5 hb6
    go_wp2_with fail
    refine (C6.out w6 hc6).mono ?_
    rintro e w7 ⟨rfl, hb7⟩
    have hc7 := Nb hc6 hb7
    go_wp2_with fail
    refine (C7.out w7 hc7).mono ?_
    rintro e w8 ⟨rfl, hb8⟩
    have hc8 := Nb hc7 hb8
    go_wp2_with fail
    refine (C8.out w8 hc8).mono ?_
    rintro e w9 ⟨rfl, hb9⟩
    have hc9 := Nb hc8 hb9
    go_wp2_with fail
    refine (C9.out w9 hc9).mono ?_
    rintro e w10 ⟨rfl, hb10⟩
    have hc10 := Nb hc9 hb10
    go_wp2_with fail
    refine (C10.out w10 hc10).mono ?_
    rintro e w11 ⟨rfl, hb11⟩
    have hc11 := Nb hc10 hb11
    go_wp2_with fail
    refine (C11.out w11 hc11).mono ?_
    rintro e w12 ⟨rfl, hb12⟩
    have hc12 := Nb hc11 hb12
    go_wp2_with fail
    refine (C12.out w12 hc12).mono ?_
    rintro e w13 ⟨rfl, hb13⟩
    have hc13 := Nb hc12 hb13
    go_wp2_with fail
    refine (C13.out w13 hc13).mono ?_
    rintro e w14 ⟨rfl, hb14⟩
    have hc14 := Nb hc13 hb14
    go_wp2_with fail
    refine (C14.out w14 hc14).mono ?_
    rintro e w15 ⟨rfl, hb15⟩
    have hc15 := Nb hc14 hb15
    go_wp2_with fail
    go_ret
    exact ⟨rfl, hc15⟩
  have k11 := M11 k9 k10
  clear M11
  subst k9
  subst k10
  subst k11
  by_cases kc : nv c = 0
  · rw [decide_eq_true kc] at zc
    clear M14 kc
    go_enter Tryd.func7, Tryd.ntmps7
    go_wp2_with fail
    refine (C0.out W (Below.refl W.heap.size W)).mono ?_
    rintro e w1 ⟨rfl, hb1⟩
    have hc1 := Nb (Below.refl W.heap.size W) hb1
    go_wp2_with fail
    refine (C1.out w1 hc1).mono ?_
    rintro e w2 ⟨rfl, hb2⟩
    have hc2 := Nb hc1 hb2
    go_wp2_with fail
    refine (C2.out w2 hc2).mono ?_
    rintro e w3 ⟨rfl, hb3⟩
    have hc3 := Nb hc2 hb3
    go_wp2_with fail
    refine (C3.out w3 hc3).mono ?_
    rintro e w4 ⟨rfl, hb4⟩
    have hc4 := Nb hc3 hb4
    go_wp2_with fail
    refine (C4.out w4 hc4).mono ?_
    rintro e w5 ⟨rfl, hb5⟩
    have hc5 := Nb hc4 hb5
    go_wp2_with fail
    refine (C5.out w5 hc5).mono ?_
    rintro e w6 ⟨rfl, hb6⟩
    have hc6 := Nb hc5 hb6
    go_wp2_with fail
    refine (C6.out w6 hc6).mono ?_
    rintro e w7 ⟨rfl, hb7⟩
    have hc7 := Nb hc6 hb7
    go_wp2_with fail
    refine (C7.out w7 hc7).mono ?_
    rintro e w8 ⟨rfl, hb8⟩
    have hc8 := Nb hc7 hb8
    go_wp2_with fail
    refine (C8.out w8 hc8).mono ?_
    rintro e w9 ⟨rfl, hb9⟩
    have hc9 := Nb hc8 hb9
    go_wp2_with fail
    refine (C9.out w9 hc9).mono ?_
    rintro e w10 ⟨rfl, hb10⟩
    have hc10 := Nb hc9 hb10
    go_wp2_with fail
    refine (C10.out w10 hc10).mono ?_
    rintro e w11 ⟨rfl, hb11⟩
    have hc11 := Nb hc10 hb11
    go_wp2_with fail
    refine (C11.out w11 hc11).mono ?_
    rintro e w12 ⟨rfl, hb12⟩
    have hc12 := Nb hc11 hb12
    go_wp2_with fail
    refine (C12.out w12 hc12).mono ?_
    rintro e w13 ⟨rfl, hb13⟩
    have hc13 := Nb hc12 hb13
    go_wp2_with fail
    refine (C13.out w13 hc13).mono ?_
    rintro e w14 ⟨rfl, hb14⟩
    have hc14 := Nb hc13 hb14
    go_wp2_with fail
    refine (C14.out w14 hc14).mono ?_
    rintro e w15 ⟨rfl, hb15⟩
    have hc15 := Nb hc14 hb15
    go_wp2_with fail
    go_ret
    exact ⟨rfl, hc15⟩
  rw [decide_eq_false kc] at zc
  have zc2 : c.toList ≠ [48] := by simpa using zc
  replace M14 := M14 kc
  clear kc
  by_cases k12 : e12 = 0
  rotate_left
  · obtain ⟨n12, m12⟩ := nez k12
    clear M14
    go_enter Tryd.func7, Tryd.ntmps7
    go_wp2_with fail
    refine (C0.out W (Below.refl W.heap.size W)).mono ?_
    rintro e w1 ⟨rfl, hb1⟩
    have hc1 := Nb (Below.refl W.heap.size W) hb1
    go_wp2_with fail
    refine (C1.out w1 hc1).mono ?_
    rintro e w2 ⟨rfl, hb2⟩
    have hc2 := Nb hc1 hb2
    go_wp2_with fail
    refine (C2.out w2 hc2).mono ?_
    rintro e w3 ⟨rfl, hb3⟩
    have hc3 := Nb hc2 hb3
    go_wp2_with fail
    refine (C3.out w3 hc3).mono ?_
    rintro e w4 ⟨rfl, hb4⟩
    have hc4 := Nb hc3 hb4
    go_wp2_with fail
    refine (C4.out w4 hc4).mono ?_
    rintro e w5 ⟨rfl, hb5⟩
    have hc5 := Nb hc4 hb5
    go_wp2_with fail
    refine (C5.out w5 hc5).mono ?_
    rintro e w6 ⟨rfl, hb6⟩
    have hc6 := Nb hc5 hb6
    go_wp2_with fail
    refine (C6.out w6 hc6).mono ?_
    rintro e w7 ⟨rfl, hb7⟩
    have hc7 := Nb hc6 hb7
    go_wp2_with fail
    refine (C7.out w7 hc7).mono ?_
    rintro e w8 ⟨rfl, hb8⟩
    have hc8 := Nb hc7 hb8
    go_wp2_with fail
    refine (C8.out w8 hc8).mono ?_
    rintro e w9 ⟨rfl, hb9⟩
    have hc9 := Nb hc8 hb9
    go_wp2_with fail
    refine (C9.out w9 hc9).mono ?_
    rintro e w10 ⟨rfl, hb10⟩
    have hc10 := Nb hc9 hb10
    go_wp2_with fail
    refine (C10.out w10 hc10).mono ?_
    rintro e w11 ⟨rfl, hb11⟩
    have hc11 := Nb hc10 hb11
    go_wp2_with fail
    refine (C11.out w11 hc11).mono ?_
    rintro e w12 ⟨rfl, hb12⟩
    have hc12 := Nb hc11 hb12
    go_wp2_with fail
    refine (C12.out w12 hc12).mono ?_
    rintro e w13 ⟨rfl, hb13⟩
    have hc13 := Nb hc12 hb13
    go_wp2_with fail
    refine (C13.out w13 hc13).mono ?_
    rintro e w14 ⟨rfl, hb14⟩
    have hc14 := Nb hc13 hb14
    go_wp2_with fail
    refine (C14.out w14 hc14).mono ?_
    rintro e w15 ⟨rfl, hb15⟩
    have hc15 := Nb hc14 hb15
    go_wp2_with fail
    go_ret
    exact ⟨rfl, hc15⟩
  by_cases k13 : e13 = 0
  rotate_left
  · obtain ⟨n13, m13⟩ := nez k13
    clear M14
    subst k12
    go_enter Tryd.func7, Tryd.ntmps7
    go_wp2_with fail
    refine (C0.out W (Below.refl W.heap.size W)).mono ?_
    rintro e w1 ⟨rfl, hb1⟩
    have hc1 := Nb (Below.refl W.heap.size W) hb1
    go_wp2_with fail
    refine (C1.out w1 hc1).mono ?_
    rintro e w2 ⟨rfl, hb2⟩
    have hc2 := Nb hc1 hb2
    go_wp2_with fail
    refine (C2.out w2 hc2).mono ?_
    rintro e w3 ⟨rfl, hb3⟩
    have hc3 := Nb hc2 hb3
    go_wp2_with fail
    refine (C3.out w3 hc3).mono ?_
    rintro e w4 ⟨rfl, hb4⟩
    have hc4 := Nb hc3 hb4
    go_wp2_with fail
    refine (C4.out w4 hc4).mono ?_
    rintro e w5 ⟨rfl, hb5⟩
    have hc5 := Nb hc4 hb5
    go_wp2_with fail
    refine (C5.out w5 hc5).mono ?_
    rintro e w6 ⟨rfl, hb6⟩
    have hc6 := Nb hc5 hb6
    go_wp2_with fail
    refine (C6.out w6 hc6).mono ?_
    rintro e w7 ⟨rfl, hb7⟩
    have hc7 := Nb hc6 hb7
    go_wp2_with fail
    refine (C7.out w7 hc7).mono ?_
    rintro e w8 ⟨rfl, hb8⟩
    have hc8 := Nb hc7 hb8
    go_wp2_with fail
    refine (C8.out w8 hc8).mono ?_
    rintro e w9 ⟨rfl, hb9⟩
    have hc9 := Nb hc8 hb9
    go_wp2_with fail
    refine (C9.out w9 hc9).mono ?_
    rintro e w10 ⟨rfl, hb10⟩
    have hc10 := Nb hc9 hb10
    go_wp2_with fail
    refine (C10.out w10 hc10).mono ?_
    rintro e w11 ⟨rfl, hb11⟩
    have hc11 := Nb hc10 hb11
    go_wp2_with fail
    refine (C11.out w11 hc11).mono ?_
    rintro e w12 ⟨rfl, hb12⟩
    have hc12 := Nb hc11 hb12
    go_wp2_with fail
    refine (C12.out w12 hc12).mono ?_
    rintro e w13 ⟨rfl, hb13⟩
    have hc13 := Nb hc12 hb13
    go_wp2_with fail
    refine (C13.out w13 hc13).mono ?_
    rintro e w14 ⟨rfl, hb14⟩
    have hc14 := Nb hc13 hb14
    go_wp2_with fail
    refine (C14.out w14 hc14).mono ?_
    rintro e w15 ⟨rfl, hb15⟩
    have hc15 := Nb hc14 hb15
    go_wp2_with fail
    go_ret
    exact ⟨rfl, hc15⟩
  have k14 := M14 k12 k13
  clear M14
  subst k12
  subst k13
  subst k14
  go_enter Tryd.func7, Tryd.ntmps7
  go_wp2_with fail
  refine (C0.out W (Below.refl W.heap.size W)).mono ?_
  rintro e w1 ⟨rfl, hb1⟩
  have hc1 := Nb (Below.refl W.heap.size W) hb1
  go_wp2_with fail
  refine (C1.out w1 hc1).mono ?_
  rintro e w2 ⟨rfl, hb2⟩
  have hc2 := Nb hc1 hb2
  go_wp2_with fail
  refine (C2.out w2 hc2).mono ?_
  rintro e w3 ⟨rfl, hb3⟩
  have hc3 := Nb hc2 hb3
  go_wp2_with fail
  refine (C3.out w3 hc3).mono ?_
  rintro e w4 ⟨rfl, hb4⟩
  have hc4 := Nb hc3 hb4
  go_wp2_with fail
  refine (C4.out w4 hc4).mono ?_
  rintro e w5 ⟨rfl, hb5⟩
  have hc5 := Nb hc4 hb5
  go_wp2_with fail
  refine (C5.out w5 hc5).mono ?_
  rintro e w6 ⟨rfl, hb6⟩
  have hc6 := Nb hc5 hb6
  go_wp2_with fail
  refine (C6.out w6 hc6).mono ?_
  rintro e w7 ⟨rfl, hb7⟩
  have hc7 := Nb hc6 hb7
  go_wp2_with fail
  refine (C7.out w7 hc7).mono ?_
  rintro e w8 ⟨rfl, hb8⟩
  have hc8 := Nb hc7 hb8
  go_wp2_with fail
  refine (C8.out w8 hc8).mono ?_
  rintro e w9 ⟨rfl, hb9⟩
  have hc9 := Nb hc8 hb9
  go_wp2_with fail
  refine (C9.out w9 hc9).mono ?_
  rintro e w10 ⟨rfl, hb10⟩
  have hc10 := Nb hc9 hb10
  go_wp2_with fail
  refine (C10.out w10 hc10).mono ?_
  rintro e w11 ⟨rfl, hb11⟩
  have hc11 := Nb hc10 hb11
  go_wp2_with fail
  refine (C11.out w11 hc11).mono ?_
  rintro e w12 ⟨rfl, hb12⟩
  have hc12 := Nb hc11 hb12
  go_wp2_with fail
  refine (C12.out w12 hc12).mono ?_
  rintro e w13 ⟨rfl, hb13⟩
  have hc13 := Nb hc12 hb13
  go_wp2_with fail
  refine (C13.out w13 hc13).mono ?_
  rintro e w14 ⟨rfl, hb14⟩
  have hc14 := Nb hc13 hb14
  go_wp2_with fail
  refine (C14.out w14 hc14).mono ?_
  rintro e w15 ⟨rfl, hb15⟩
  have hc15 := Nb hc14 hb15
  go_wp2_with fail
  go_ret
  exact ⟨rfl, hc15⟩
end Go.Proofs.YtabebggkfjddbaaDoor
