/- NaturalRing walked. -/
import Derived.Test.YtabebggkfjddbaaDoorNaSpec
set_option linter.unusedSimpArgs false
set_option linter.unusedVariables false
namespace Go.Proofs.YtabebggkfjddbaaDoor
open Go.RowKit
set_option maxRecDepth 100000

theorem ring2 {a b c x4 x8 x9 x10 : ByteArray} {e4 e8 e9 e10 : Int} (ha : isB a = true) (hb : isB b = true) (hc : isB c = true) (h4 : opF (fun m n => m + n) a b = (x4, e4)) (h8 : opF (fun m n => m + n) x4 c = (x8, e8)) (h9 : opF (fun m n => m + n) b c = (x9, e9)) (h10 : opF (fun m n => m + n) a x9 = (x10, e10)) :
    x10 = x8 ∧ (e10 == 0) = (e8 == 0) := by
  by_cases H : nv a + nv b + nv c < LIM
  · obtain ⟨r4, _⟩ := op_make h4 ha hb (by show nv a + nv b < LIM; omega)
    obtain ⟨r9, _⟩ := op_make h9 hb hc (by show nv b + nv c < LIM; omega)
    have n4 : nv x4 = nv a + nv b := by rw [r4, nv_tx]
    have n9 : nv x9 = nv b + nv c := by rw [r9, nv_tx]
    obtain ⟨r8, f8⟩ := op_make h8 (by rw [r4]; exact isB_txl (by omega)) hc (by show nv x4 + nv c < LIM; rw [n4]; exact H)
    obtain ⟨r10, f10⟩ := op_make h10 ha (by rw [r9]; exact isB_txl (by omega)) (by show nv a + nv x9 < LIM; rw [n9]; omega)
    simp only [n4] at r8
    simp only [n9] at r10
    rw [r10, r8, f8, f10, Nat.add_assoc]
    exact ⟨rfl, rfl⟩
  · have k8 : e8 ≠ 0 := fun h0 => by
      obtain ⟨i1, _, _, _, hl⟩ := op_zero h8 h0
      have := (op_zero h4 (op_isB h4 i1)).2.2.2.1
      have hl' : nv x4 + nv c < LIM := hl
      rw [this] at hl'
      exact H hl'
    have k10 : e10 ≠ 0 := fun h0 => by
      obtain ⟨_, i1, _, _, hl⟩ := op_zero h10 h0
      have h5 : nv x9 = nv b + nv c := (op_zero h9 (op_isB h9 i1)).2.2.2.1
      have hl' : nv a + nv x9 < LIM := hl
      rw [h5] at hl'
      exact H (by omega)
    rw [op_fail h8 k8, op_fail h10 k10, (nez k8).1, (nez k10).1]
    exact ⟨rfl, rfl⟩

theorem ring3 {a b c x6 x11 x12 x13 : ByteArray} {e6 e11 e12 e13 : Int} (h6 : opF (fun m n => m * n) a b = (x6, e6)) (h11 : opF (fun m n => m * n) x6 c = (x11, e11)) (h12 : opF (fun m n => m * n) b c = (x12, e12)) (h13 : opF (fun m n => m * n) a x12 = (x13, e13)) (k11 : e11 = 0) (k13 : e13 = 0) : x13 = x11 := by
  obtain ⟨i1, _, r11, _, _⟩ := op_zero h11 k11
  obtain ⟨_, i2, r13, _, _⟩ := op_zero h13 k13
  have n6 : nv x6 = nv a * nv b := (op_zero h6 (op_isB h6 i1)).2.2.2.1
  have n12 : nv x12 = nv b * nv c := (op_zero h12 (op_isB h12 i2)).2.2.2.1
  simp only [n6] at r11
  simp only [n12] at r13
  rw [r11, r13, Nat.mul_assoc]

theorem ring4 {a b c x6 x9 x14 x15 x16 : ByteArray} {e6 e9 e14 e15 e16 : Int} (h6 : opF (fun m n => m * n) a b = (x6, e6)) (h9 : opF (fun m n => m + n) b c = (x9, e9)) (h14 : opF (fun m n => m * n) a x9 = (x14, e14)) (h15 : opF (fun m n => m * n) a c = (x15, e15)) (h16 : opF (fun m n => m + n) x6 x15 = (x16, e16)) (k14 : e14 = 0) (k16 : e16 = 0) : x16 = x14 := by
  obtain ⟨_, i2, r14, _, _⟩ := op_zero h14 k14
  obtain ⟨i3, i4, r16, _, _⟩ := op_zero h16 k16
  have n6 : nv x6 = nv a * nv b := (op_zero h6 (op_isB h6 i3)).2.2.2.1
  have n9 : nv x9 = nv b + nv c := (op_zero h9 (op_isB h9 i2)).2.2.2.1
  have n15 : nv x15 = nv a * nv c := (op_zero h15 (op_isB h15 i4)).2.2.2.1
  simp only [n9] at r14
  simp only [n6, n15] at r16
  rw [r14, r16, Nat.mul_add]

set_option maxHeartbeats 4000000 in
theorem ringW (a b c : ByteArray) (W : World) (hp : Pow W.heap.size W) (L_a : a.size ≤ maxLen) (L_b : b.size ≤ maxLen) (L_c : c.size ≤ maxLen) :
    Calls Tryd.prog 6 #[.string a, .string b, .string c] W fun e w' => e = .returned (.bool true) ∧ Below W.heap.size W w' := by
  have HPW := Lib.hid (fun (v : World) (hb : Below W.heap.size W v) => hp.bt hb)
  clear hp
  by_cases hB_a : isB a = true
  rotate_left
  · replace hB_a : isB a = false := by simpa using hB_a
    have C0 : Hid (∀ v, Below W.heap.size W v → Calls Tryd.prog 13 #[] v fun e w' => e = .returned (.bool true) ∧ Below v.heap.size v w') := Lib.hid fun v hb => head_any v (HPW.out v hb)
    have C1 : Hid (∀ v, Below W.heap.size W v → Calls Tryd.prog 18 #[.string a] v fun e w' => e = .returned (.bool false) ∧ Below v.heap.size v w') := Lib.hid fun v hb => by have := is_any a v L_a; rwa [hB_a] at this
    go_enter Tryd.func6, Tryd.ntmps6
    go_wp2_with fail
    refine (C0.out W (Below.refl W.heap.size W)).mono ?_
    rintro e w1 ⟨rfl, hb1⟩
    have hc1 := Nb (Below.refl W.heap.size W) hb1
    go_wp2_with fail
    refine (C1.out w1 hc1).mono ?_
    rintro e w2 ⟨rfl, hb2⟩
    have hc2 := Nb hc1 hb2
    go_wp2_with fail
    go_ret
    exact ⟨rfl, hc2⟩
  by_cases hB_b : isB b = true
  rotate_left
  · replace hB_b : isB b = false := by simpa using hB_b
    have C0 : Hid (∀ v, Below W.heap.size W v → Calls Tryd.prog 13 #[] v fun e w' => e = .returned (.bool true) ∧ Below v.heap.size v w') := Lib.hid fun v hb => head_any v (HPW.out v hb)
    have C1 : Hid (∀ v, Below W.heap.size W v → Calls Tryd.prog 18 #[.string a] v fun e w' => e = .returned (.bool true) ∧ Below v.heap.size v w') := Lib.hid fun v hb => by have := is_any a v L_a; rwa [hB_a] at this
    have C2 : Hid (∀ v, Below W.heap.size W v → Calls Tryd.prog 18 #[.string b] v fun e w' => e = .returned (.bool false) ∧ Below v.heap.size v w') := Lib.hid fun v hb => by have := is_any b v L_b; rwa [hB_b] at this
    go_enter Tryd.func6, Tryd.ntmps6
    go_wp2_with fail
    refine (C0.out W (Below.refl W.heap.size W)).mono ?_
    rintro e w1 ⟨rfl, hb1⟩
    have hc1 := Nb (Below.refl W.heap.size W) hb1
    go_wp2_with fail
    refine (C1.out w1 hc1).mono ?_
    rintro e w2 ⟨rfl, hb2⟩
    have hc2 := Nb hc1 hb2
    go_wp2_with fail
    refine (C2.out w2 hc2).mono ?_
    rintro e w3 ⟨rfl, hb3⟩
    have hc3 := Nb hc2 hb3
    go_wp2_with fail
    go_ret
    exact ⟨rfl, hc3⟩
  by_cases hB_c : isB c = true
  rotate_left
  · replace hB_c : isB c = false := by simpa using hB_c
    have C0 : Hid (∀ v, Below W.heap.size W v → Calls Tryd.prog 13 #[] v fun e w' => e = .returned (.bool true) ∧ Below v.heap.size v w') := Lib.hid fun v hb => head_any v (HPW.out v hb)
    have C1 : Hid (∀ v, Below W.heap.size W v → Calls Tryd.prog 18 #[.string a] v fun e w' => e = .returned (.bool true) ∧ Below v.heap.size v w') := Lib.hid fun v hb => by have := is_any a v L_a; rwa [hB_a] at this
    have C2 : Hid (∀ v, Below W.heap.size W v → Calls Tryd.prog 18 #[.string b] v fun e w' => e = .returned (.bool true) ∧ Below v.heap.size v w') := Lib.hid fun v hb => by have := is_any b v L_b; rwa [hB_b] at this
    have C3 : Hid (∀ v, Below W.heap.size W v → Calls Tryd.prog 18 #[.string c] v fun e w' => e = .returned (.bool false) ∧ Below v.heap.size v w') := Lib.hid fun v hb => by have := is_any c v L_c; rwa [hB_c] at this
    go_enter Tryd.func6, Tryd.ntmps6
    go_wp2_with fail
    refine (C0.out W (Below.refl W.heap.size W)).mono ?_
    rintro e w1 ⟨rfl, hb1⟩
    have hc1 := Nb (Below.refl W.heap.size W) hb1
    go_wp2_with fail
    refine (C1.out w1 hc1).mono ?_
    rintro e w2 ⟨rfl, hb2⟩
    have hc2 := Nb hc1 hb2
    go_wp2_with fail
    refine (C2.out w2 hc2).mono ?_
    rintro e w3 ⟨rfl, hb3⟩
    have hc3 := Nb hc2 hb3
    go_wp2_with fail
    refine (C3.out w3 hc3).mono ?_
    rintro e w4 ⟨rfl, hb4⟩
    have hc4 := Nb hc3 hb4
    go_wp2_with fail
    go_ret
    exact ⟨rfl, hc4⟩
  have C0 : Hid (∀ v, Below W.heap.size W v → Calls Tryd.prog 13 #[] v fun e w' => e = .returned (.bool true) ∧ Below v.heap.size v w') := Lib.hid fun v hb => head_any v (HPW.out v hb)
  have C1 : Hid (∀ v, Below W.heap.size W v → Calls Tryd.prog 18 #[.string a] v fun e w' => e = .returned (.bool true) ∧ Below v.heap.size v w') := Lib.hid fun v hb => by have := is_any a v L_a; rwa [hB_a] at this
  have C2 : Hid (∀ v, Below W.heap.size W v → Calls Tryd.prog 18 #[.string b] v fun e w' => e = .returned (.bool true) ∧ Below v.heap.size v w') := Lib.hid fun v hb => by have := is_any b v L_b; rwa [hB_b] at this
  have C3 : Hid (∀ v, Below W.heap.size W v → Calls Tryd.prog 18 #[.string c] v fun e w' => e = .returned (.bool true) ∧ Below v.heap.size v w') := Lib.hid fun v hb => by have := is_any c v L_c; rwa [hB_c] at this
  obtain ⟨x4, e4, h4⟩ : ∃ x e, opF (fun m n => m + n) a b = (x, e) := ⟨_, _, rfl⟩
  have L_x4 : x4.size ≤ maxLen := by have := op_len (fun m n => m + n) a b; rwa [h4] at this
  have C4 : Hid (∀ v, Below W.heap.size W v → Calls Tryd.prog 22 #[.string a, .string b] v fun e w' => e = .returned (.tuple #[.string x4, .int .i64 e4]) ∧ Below v.heap.size v w') := Lib.hid fun v hb => by have := addF a b v L_a L_b (HPW.out v hb); rwa [h4] at this
  obtain ⟨x6, e6, h6⟩ : ∃ x e, opF (fun m n => m * n) a b = (x, e) := ⟨_, _, rfl⟩
  have L_x6 : x6.size ≤ maxLen := by have := op_len (fun m n => m * n) a b; rwa [h6] at this
  have C6 : Hid (∀ v, Below W.heap.size W v → Calls Tryd.prog 26 #[.string a, .string b] v fun e w' => e = .returned (.tuple #[.string x6, .int .i64 e6]) ∧ Below v.heap.size v w') := Lib.hid fun v hb => by have := mulF a b v L_a L_b (HPW.out v hb); rwa [h6] at this
  obtain ⟨x8, e8, h8⟩ : ∃ x e, opF (fun m n => m + n) x4 c = (x, e) := ⟨_, _, rfl⟩
  have L_x8 : x8.size ≤ maxLen := by have := op_len (fun m n => m + n) x4 c; rwa [h8] at this
  have C8 : Hid (∀ v, Below W.heap.size W v → Calls Tryd.prog 22 #[.string x4, .string c] v fun e w' => e = .returned (.tuple #[.string x8, .int .i64 e8]) ∧ Below v.heap.size v w') := Lib.hid fun v hb => by have := addF x4 c v L_x4 L_c (HPW.out v hb); rwa [h8] at this
  obtain ⟨x9, e9, h9⟩ : ∃ x e, opF (fun m n => m + n) b c = (x, e) := ⟨_, _, rfl⟩
  have L_x9 : x9.size ≤ maxLen := by have := op_len (fun m n => m + n) b c; rwa [h9] at this
  have C9 : Hid (∀ v, Below W.heap.size W v → Calls Tryd.prog 22 #[.string b, .string c] v fun e w' => e = .returned (.tuple #[.string x9, .int .i64 e9]) ∧ Below v.heap.size v w') := Lib.hid fun v hb => by have := addF b c v L_b L_c (HPW.out v hb); rwa [h9] at this
  obtain ⟨x10, e10, h10⟩ : ∃ x e, opF (fun m n => m + n) a x9 = (x, e) := ⟨_, _, rfl⟩
  have L_x10 : x10.size ≤ maxLen := by have := op_len (fun m n => m + n) a x9; rwa [h10] at this
  have C10 : Hid (∀ v, Below W.heap.size W v → Calls Tryd.prog 22 #[.string a, .string x9] v fun e w' => e = .returned (.tuple #[.string x10, .int .i64 e10]) ∧ Below v.heap.size v w') := Lib.hid fun v hb => by have := addF a x9 v L_a L_x9 (HPW.out v hb); rwa [h10] at this
  obtain ⟨x11, e11, h11⟩ : ∃ x e, opF (fun m n => m * n) x6 c = (x, e) := ⟨_, _, rfl⟩
  have L_x11 : x11.size ≤ maxLen := by have := op_len (fun m n => m * n) x6 c; rwa [h11] at this
  have C11 : Hid (∀ v, Below W.heap.size W v → Calls Tryd.prog 26 #[.string x6, .string c] v fun e w' => e = .returned (.tuple #[.string x11, .int .i64 e11]) ∧ Below v.heap.size v w') := Lib.hid fun v hb => by have := mulF x6 c v L_x6 L_c (HPW.out v hb); rwa [h11] at this
  obtain ⟨x12, e12, h12⟩ : ∃ x e, opF (fun m n => m * n) b c = (x, e) := ⟨_, _, rfl⟩
  have L_x12 : x12.size ≤ maxLen := by have := op_len (fun m n => m * n) b c; rwa [h12] at this
  have C12 : Hid (∀ v, Below W.heap.size W v → Calls Tryd.prog 26 #[.string b, .string c] v fun e w' => e = .returned (.tuple #[.string x12, .int .i64 e12]) ∧ Below v.heap.size v w') := Lib.hid fun v hb => by have := mulF b c v L_b L_c (HPW.out v hb); rwa [h12] at this
  obtain ⟨x13, e13, h13⟩ : ∃ x e, opF (fun m n => m * n) a x12 = (x, e) := ⟨_, _, rfl⟩
  have L_x13 : x13.size ≤ maxLen := by have := op_len (fun m n => m * n) a x12; rwa [h13] at this
  have C13 : Hid (∀ v, Below W.heap.size W v → Calls Tryd.prog 26 #[.string a, .string x12] v fun e w' => e = .returned (.tuple #[.string x13, .int .i64 e13]) ∧ Below v.heap.size v w') := Lib.hid fun v hb => by have := mulF a x12 v L_a L_x12 (HPW.out v hb); rwa [h13] at this
  obtain ⟨x14, e14, h14⟩ : ∃ x e, opF (fun m n => m * n) a x9 = (x, e) := ⟨_, _, rfl⟩
  have L_x14 : x14.size ≤ maxLen := by have := op_len (fun m n => m * n) a x9; rwa [h14] at this
  have C14 : Hid (∀ v, Below W.heap.size W v → Calls Tryd.prog 26 #[.string a, .string x9] v fun e w' => e = .returned (.tuple #[.string x14, .int .i64 e14]) ∧ Below v.heap.size v w') := Lib.hid fun v hb => by have := mulF a x9 v L_a L_x9 (HPW.out v hb); rwa [h14] at this
  obtain ⟨x15, e15, h15⟩ : ∃ x e, opF (fun m n => m * n) a c = (x, e) := ⟨_, _, rfl⟩
  have L_x15 : x15.size ≤ maxLen := by have := op_len (fun m n => m * n) a c; rwa [h15] at this
  have C15 : Hid (∀ v, Below W.heap.size W v → Calls Tryd.prog 26 #[.string a, .string c] v fun e w' => e = .returned (.tuple #[.string x15, .int .i64 e15]) ∧ Below v.heap.size v w') := Lib.hid fun v hb => by have := mulF a c v L_a L_c (HPW.out v hb); rwa [h15] at this
  obtain ⟨x16, e16, h16⟩ : ∃ x e, opF (fun m n => m + n) x6 x15 = (x, e) := ⟨_, _, rfl⟩
  have L_x16 : x16.size ≤ maxLen := by have := op_len (fun m n => m + n) x6 x15; rwa [h16] at this
  have C16 : Hid (∀ v, Below W.heap.size W v → Calls Tryd.prog 22 #[.string x6, .string x15] v fun e w' => e = .returned (.tuple #[.string x16, .int .i64 e16]) ∧ Below v.heap.size v w') := Lib.hid fun v hb => by have := addF x6 x15 v L_x6 L_x15 (HPW.out v hb); rwa [h16] at this
  have h5 : opF (fun m n => m + n) b a = (x4, e4) := by rw [← h4]; exact op_comm _ _ _ (fun m n => Nat.add_comm m n)
  have C5 : Hid (∀ v, Below W.heap.size W v → Calls Tryd.prog 22 #[.string b, .string a] v fun e w' => e = .returned (.tuple #[.string x4, .int .i64 e4]) ∧ Below v.heap.size v w') := Lib.hid fun v hb => by have := addF b a v L_b L_a (HPW.out v hb); rwa [h5] at this
  have h7 : opF (fun m n => m * n) b a = (x6, e6) := by rw [← h6]; exact op_comm _ _ _ (fun m n => Nat.mul_comm m n)
  have C7 : Hid (∀ v, Below W.heap.size W v → Calls Tryd.prog 26 #[.string b, .string a] v fun e w' => e = .returned (.tuple #[.string x6, .int .i64 e6]) ∧ Below v.heap.size v w') := Lib.hid fun v hb => by have := mulF b a v L_b L_a (HPW.out v hb); rwa [h7] at this
  obtain ⟨rfl, hE⟩ := ring2 hB_a hB_b hB_c h4 h8 h9 h10
  have M3 := ring3 h6 h11 h12 h13
  have M4 := ring4 h6 h9 h14 h15 h16
  clear h4 h5 h6 h7 h8 h9 h10 h11 h12 h13 h14 h15 h16 HPW hB_a hB_b hB_c
  by_cases k11 : e11 = 0
  rotate_left
  · obtain ⟨n11, m11⟩ := nez k11
    clear M3
    by_cases k9 : e9 = 0
    rotate_left
    · obtain ⟨n9, m9⟩ := nez k9
      clear M4
      go_enter Tryd.func6, Tryd.ntmps6
      go_wp2_with fail
      refine (C0.out W (Below.refl W.heap.size W)).mono ?_
      rintro e w1 ⟨rfl, hb1⟩
      have hc1 := Nb (Below.refl W.heap.size W) hb1
      go_wp2_with fail
      refine (C1.out w1 hc1).mono ?_
      rintro e w2 ⟨rfl, hb2⟩
      have hc2 := Nb hc1 hb2
      go_wp2_with fail
      refine (C2.out w2 hc2).mono ?_
      rintro e w3 ⟨rfl, hb3⟩
      have hc3 := Nb hc2 hb3
      go_wp2_with fail
      refine (C3.out w3 hc3).mono ?_
      rintro e w4 ⟨rfl, hb4⟩
      have hc4 := Nb hc3 hb4
      go_wp2_with fail
      refine (C4.out w4 hc4).mono ?_
      rintro e w5 ⟨rfl, hb5⟩
      have hc5 := Nb hc4 hb5
      go_wp2_with fail
      refine (C5.out w5 hc5).mono ?_
      rintro e w6 ⟨rfl, hb6⟩
      have hc6 := Nb hc5 hb6
      go_wp2_with fail
      refine (C6.out w6 hc6).mono ?_
      rintro e w7 ⟨rfl, hb7⟩
      have hc7 := Nb hc6 hb7
      go_wp2_with fail
      refine (C7.out w7 hc7).mono ?_
      rintro e w8 ⟨rfl, hb8⟩
      have hc8 := Nb hc7 hb8
      go_wp2_with fail
      refine (C8.out w8 hc8).mono ?_
      rintro e w9 ⟨rfl, hb9⟩
      have hc9 := Nb hc8 hb9
      go_wp2_with fail
      refine (C9.out w9 hc9).mono ?_
      rintro e w10 ⟨rfl, hb10⟩
      have hc10 := Nb hc9 hb10
      go_wp2_with fail
      refine (C10.out w10 hc10).mono ?_
      rintro e w11 ⟨rfl, hb11⟩
      have hc11 := Nb hc10 hb11
      go_wp2_with fail
      refine (C11.out w11 hc11).mono ?_
      rintro e w12 ⟨rfl, hb12⟩
      have hc12 := Nb hc11 hb12
      go_wp2_with fail
      refine (C12.out w12 hc12).mono ?_
      rintro e w13 ⟨rfl, hb13⟩
      have hc13 := Nb hc12 hb13
      go_wp2_with fail
      refine (C13.out w13 hc13).mono ?_
      rintro e w14 ⟨rfl, hb14⟩
      have hc14 := Nb hc13 hb14
      go_wp2_with fail
      refine (C14.out w14 hc14).mono ?_
      rintro e w15 ⟨rfl, hb15⟩
      have hc15 := Nb hc14 hb15
      go_wp2_with fail
      refine (C15.out w15 hc15).mono ?_
      rintro e w16 ⟨rfl, hb16⟩
      have hc16 := Nb hc15 hb16
      go_wp2_with fail
      refine (C16.out w16 hc16).mono ?_
      rintro e w17 ⟨rfl, hb17⟩
      have hc17 := Nb hc16 hb17
      go_wp2_with fail
      go_ret
      exact ⟨rfl, hc17⟩
    by_cases k14 : e14 = 0
    rotate_left
    · obtain ⟨n14, m14⟩ := nez k14
      clear M4
      subst k9
      go_enter Tryd.func6, Tryd.ntmps6
      go_wp2_with fail
      refine (C0.out W (Below.refl W.heap.size W)).mono ?_
      rintro e w1 ⟨rfl, hb1⟩
      have hc1 := Nb (Below.refl W.heap.size W) hb1
      go_wp2_with fail
      refine (C1.out w1 hc1).mono ?_
      rintro e w2 ⟨rfl, hb2⟩
      have hc2 := Nb hc1 hb2
      go_wp2_with fail
      refine (C2.out w2 hc2).mono ?_
      rintro e w3 ⟨rfl, hb3⟩
      have hc3 := Nb hc2 hb3
      go_wp2_with fail
      refine (C3.out w3 hc3).mono ?_
      rintro e w4 ⟨rfl, hb4⟩
      have hc4 := Nb hc3 hb4
      go_wp2_with fail
      refine (C4.out w4 hc4).mono ?_
      rintro e w5 ⟨rfl, hb5⟩
      have hc5 := Nb hc4 hb5
      go_wp2_with fail
      refine (C5.out w5 hc5).mono ?_
      rintro e w6 ⟨rfl, hb6⟩
      have hc6 := Nb hc5 hb6
      go_wp2_with fail
      refine (C6.out w6 hc6).mono ?_
      rintro e w7 ⟨rfl, hb7⟩
      have hc7 := Nb hc6 hb7
      go_wp2_with fail
      refine (C7.out w7 hc7).mono ?_
      rintro e w8 ⟨rfl, hb8⟩
      have hc8 := Nb hc7 hb8
      go_wp2_with fail
      refine (C8.out w8 hc8).mono ?_
      rintro e w9 ⟨rfl, hb9⟩
      have hc9 := Nb hc8 hb9
      go_wp2_with fail
      refine (C9.out w9 hc9).mono ?_
      rintro e w10 ⟨rfl, hb10⟩
      have hc10 := Nb hc9 hb10
      go_wp2_with fail
      refine (C10.out w10 hc10).mono ?_
      rintro e w11 ⟨rfl, hb11⟩
      have hc11 := Nb hc10 hb11
      go_wp2_with fail
      refine (C11.out w11 hc11).mono ?_
      rintro e w12 ⟨rfl, hb12⟩
      have hc12 := Nb hc11 hb12
      go_wp2_with fail
      refine (C12.out w12 hc12).mono ?_
      rintro e w13 ⟨rfl, hb13⟩
      have hc13 := Nb hc12 hb13
      go_wp2_with fail
      refine (C13.out w13 hc13).mono ?_
      rintro e w14 ⟨rfl, hb14⟩
      have hc14 := Nb hc13 hb14
      go_wp2_with fail
      refine (C14.out w14 hc14).mono ?_
      rintro e w15 ⟨rfl, hb15⟩
      have hc15 := Nb hc14 hb15
      go_wp2_with fail
      refine (C15.out w15 hc15).mono ?_
      rintro e w16 ⟨rfl, hb16⟩
      have hc16 := Nb hc15 hb16
      go_wp2_with fail
      refine (C16.out w16 hc16).mono ?_
      rintro e w17 ⟨rfl, hb17⟩
      have hc17 := Nb hc16 hb17
      go_wp2_with fail
      go_ret
      exact ⟨rfl, hc17⟩
    by_cases k15 : e15 = 0
    rotate_left
    · obtain ⟨n15, m15⟩ := nez k15
      clear M4
      subst k9
      subst k14
      go_enter Tryd.func6, Tryd.ntmps6
      go_wp2_with fail
      refine (C0.out W (Below.refl W.heap.size W)).mono ?_
      rintro e w1 ⟨rfl, hb1⟩
      have hc1 := Nb (Below.refl W.heap.size W) hb1
      go_wp2_with fail
      refine (C1.out w1 hc1).mono ?_
      rintro e w2 ⟨rfl, hb2⟩
      have hc2 := Nb hc1 hb2
      go_wp2_with fail
      refine (C2.out w2 hc2).mono ?_
      rintro e w3 ⟨rfl, hb3⟩
      have hc3 := Nb hc2 hb3
      go_wp2_with fail
      refine (C3.out w3 hc3).mono ?_
      rintro e w4 ⟨rfl, hb4⟩
      have hc4 := Nb hc3 hb4
      go_wp2_with fail
      refine (C4.out w4 hc4).mono ?_
      rintro e w5 ⟨rfl, hb5⟩
      have hc5 := Nb hc4 hb5
      go_wp2_with fail
      refine (C5.out w5 hc5).mono ?_
      rintro e w6 ⟨rfl, hb6⟩
      have hc6 := Nb hc5 hb6
      go_wp2_with fail
      refine (C6.out w6 hc6).mono ?_
      rintro e w7 ⟨rfl, hb7⟩
      have hc7 := Nb hc6 hb7
      go_wp2_with fail
      refine (C7.out w7 hc7).mono ?_
      rintro e w8 ⟨rfl, hb8⟩
      have hc8 := Nb hc7 hb8
      go_wp2_with fail
      refine (C8.out w8 hc8).mono ?_
      rintro e w9 ⟨rfl, hb9⟩
      have hc9 := Nb hc8 hb9
      go_wp2_with fail
      refine (C9.out w9 hc9).mono ?_
      rintro e w10 ⟨rfl, hb10⟩
      have hc10 := Nb hc9 hb10
      go_wp2_with fail
      refine (C10.out w10 hc10).mono ?_
      rintro e w11 ⟨rfl, hb11⟩
      have hc11 := Nb hc10 hb11
      go_wp2_with fail
      refine (C11.out w11 hc11).mono ?_
      rintro e w12 ⟨rfl, hb12⟩
      have hc12 := Nb hc11 hb12
      go_wp2_with fail
      refine (C12.out w12 hc12).mono ?_
      rintro e w13 ⟨rfl, hb13⟩
      have hc13 := Nb hc12 hb13
      go_wp2_with fail
      refine (C13.out w13 hc13).mono ?_
      rintro e w14 ⟨rfl, hb14⟩
      have hc14 := Nb hc13 hb14
      go_wp2_with fail
      refine (C14.out w14 hc14).mono ?_
      rintro e w15 ⟨rfl, hb15⟩
      have hc15 := Nb hc14 hb15
      go_wp2_with fail
      refine (C15.out w15 hc15).mono ?_
      rintro e w16 ⟨rfl, hb16⟩
      have hc16 := Nb hc15 hb16
      go_wp2_with fail
      refine (C16.out w16 hc16).mono ?_
      rintro e w17 ⟨rfl, hb17⟩
      have hc17 := Nb hc16 hb17
      go_wp2_with fail
      go_ret
      exact ⟨rfl, hc17⟩
    by_cases k16 : e16 = 0
    rotate_left
    · obtain ⟨n16, m16⟩ := nez k16
      clear M4
      subst k9
      subst k14
      subst k15
      go_enter Tryd.func6, Tryd.ntmps6
      go_wp2_with fail
      refine (C0.out W (Below.refl W.heap.size W)).mono ?_
      rintro e w1 ⟨rfl, hb1⟩
      have hc1 := Nb (Below.refl W.heap.size W) hb1
      go_wp2_with fail
      refine (C1.out w1 hc1).mono ?_
      rintro e w2 ⟨rfl, hb2⟩
      have hc2 := Nb hc1 hb2
      go_wp2_with fail
      refine (C2.out w2 hc2).mono ?_
      rintro e w3 ⟨rfl, hb3⟩
      have hc3 := Nb hc2 hb3
      go_wp2_with fail
      refine (C3.out w3 hc3).mono ?_
      rintro e w4 ⟨rfl, hb4⟩
      have hc4 := Nb hc3 hb4
      go_wp2_with fail
      refine (C4.out w4 hc4).mono ?_
      rintro e w5 ⟨rfl, hb5⟩
      have hc5 := Nb hc4 hb5
      go_wp2_with fail
      refine (C5.out w5 hc5).mono ?_
      rintro e w6 ⟨rfl, hb6⟩
      have hc6 := Nb hc5 hb6
      go_wp2_with fail
      refine (C6.out w6 hc6).mono ?_
      rintro e w7 ⟨rfl, hb7⟩
      have hc7 := Nb hc6 hb7
      go_wp2_with fail
      refine (C7.out w7 hc7).mono ?_
      rintro e w8 ⟨rfl, hb8⟩
      have hc8 := Nb hc7 hb8
      go_wp2_with fail
      refine (C8.out w8 hc8).mono ?_
      rintro e w9 ⟨rfl, hb9⟩
      have hc9 := Nb hc8 hb9
      go_wp2_with fail
      refine (C9.out w9 hc9).mono ?_
      rintro e w10 ⟨rfl, hb10⟩
      have hc10 := Nb hc9 hb10
      go_wp2_with fail
      refine (C10.out w10 hc10).mono ?_
      rintro e w11 ⟨rfl, hb11⟩
      have hc11 := Nb hc10 hb11
      go_wp2_with fail
      refine (C11.out w11 hc11).mono ?_
      rintro e w12 ⟨rfl, hb12⟩
      have hc12 := Nb hc11 hb12
      go_wp2_with fail
      refine (C12.out w12 hc12).mono ?_
      rintro e w13 ⟨rfl, hb13⟩
      have hc13 := Nb hc12 hb13
      go_wp2_with fail
      refine (C13.out w13 hc13).mono ?_
      rintro e w14 ⟨rfl, hb14⟩
      have hc14 := Nb hc13 hb14
      go_wp2_with fail
      refine (C14.out w14 hc14).mono ?_
      rintro e w15 ⟨rfl, hb15⟩
      have hc15 := Nb hc14 hb15
      go_wp2_with fail
      refine (C15.out w15 hc15).mono ?_
      rintro e w16 ⟨rfl, hb16⟩
      have hc16 := Nb hc15 hb16
      go_wp2_with fail
      refine (C16.out w16 hc16).mono ?_
      rintro e w17 ⟨rfl, hb17⟩
      have hc17 := Nb hc16 hb17
      go_wp2_with fail
      go_ret
      exact ⟨rfl, hc17⟩
    obtain rfl := M4 k14 k16
    clear M4
    subst k9
    subst k14
    subst k15
    subst k16
    go_enter Tryd.func6, Tryd.ntmps6
    go_wp2_with fail
    refine (C0.out W (Below.refl W.heap.size W)).mono ?_
    rintro e w1 ⟨rfl, hb1⟩
    have hc1 := Nb (Below.refl W.heap.size W) hb1
    go_wp2_with fail
    refine (C1.out w1 hc1).mono ?_
    rintro e w2 ⟨rfl, hb2⟩
    have hc2 := Nb hc1 hb2
    go_wp2_with fail
    refine (C2.out w2 hc2).mono ?_
    rintro e w3 ⟨rfl, hb3⟩
    have hc3 := Nb hc2 hb3
    go_wp2_with fail
    refine (C3.out w3 hc3).mono ?_
    rintro e w4 ⟨rfl, hb4⟩
    have hc4 := Nb hc3 hb4
    go_wp2_with fail
    refine (C4.out w4 hc4).mono ?_
    rintro e w5 ⟨rfl, hb5⟩
    have hc5 := Nb hc4 hb5
    go_wp2_with fail
    refine (C5.out w5 hc5).mono ?_
    rintro e w6 ⟨rfl, hb6⟩
    have hc6 := Nb hc5 hb6
    go_wp2_with fail
    refine (C6.out w6 hc6).mono ?_
    rintro e w7 ⟨rfl, hb7⟩
    have hc7 := Nb hc6 hb7
    go_wp2_with fail
    refine (C7.out w7 hc7).mono ?_
    rintro e w8 ⟨rfl, hb8⟩
    have hc8 := Nb hc7 hb8
    go_wp2_with fail
    refine (C8.out w8 hc8).mono ?_
    rintro e w9 ⟨rfl, hb9⟩
    have hc9 := Nb hc8 hb9
    go_wp2_with fail
    refine (C9.out w9 hc9).mono ?_
    rintro e w10 ⟨rfl, hb10⟩
    have hc10 := Nb hc9 hb10
    go_wp2_with fail
    refine (C10.out w10 hc10).mono ?_
    rintro e w11 ⟨rfl, hb11⟩
    have hc11 := Nb hc10 hb11
    go_wp2_with fail
    refine (C11.out w11 hc11).mono ?_
    rintro e w12 ⟨rfl, hb12⟩
    have hc12 := Nb hc11 hb12
    go_wp2_with fail
    refine (C12.out w12 hc12).mono ?_
    rintro e w13 ⟨rfl, hb13⟩
    have hc13 := Nb hc12 hb13
    go_wp2_with fail
    refine (C13.out w13 hc13).mono ?_
    rintro e w14 ⟨rfl, hb14⟩
    have hc14 := Nb hc13 hb14
    go_wp2_with fail
    refine (C14.out w14 hc14).mono ?_
    rintro e w15 ⟨rfl, hb15⟩
    have hc15 := Nb hc14 hb15
    go_wp2_with fail
    refine (C15.out w15 hc15).mono ?_
    rintro e w16 ⟨rfl, hb16⟩
    have hc16 := Nb hc15 hb16
    go_wp2_with fail
    refine (C16.out w16 hc16).mono ?_
    rintro e w17 ⟨rfl, hb17⟩
    have hc17 := Nb hc16 hb17
    go_wp2_with fail
    go_ret
    exact ⟨rfl, hc17⟩
  by_cases k13 : e13 = 0
  rotate_left
  · obtain ⟨n13, m13⟩ := nez k13
    clear M3
    subst k11
    by_cases k9 : e9 = 0
    rotate_left
    · obtain ⟨n9, m9⟩ := nez k9
      clear M4
      go_enter Tryd.func6, Tryd.ntmps6
      go_wp2_with fail
      refine (C0.out W (Below.refl W.heap.size W)).mono ?_
      rintro e w1 ⟨rfl, hb1⟩
      have hc1 := Nb (Below.refl W.heap.size W) hb1
      go_wp2_with fail
      refine (C1.out w1 hc1).mono ?_
      rintro e w2 ⟨rfl, hb2⟩
      have hc2 := Nb hc1 hb2
      go_wp2_with fail
      refine (C2.out w2 hc2).mono ?_
      rintro e w3 ⟨rfl, hb3⟩
      have hc3 := Nb hc2 hb3
      go_wp2_with fail
      refine (C3.out w3 hc3).mono ?_
      rintro e w4 ⟨rfl, hb4⟩
      have hc4 := Nb hc3 hb4
      go_wp2_with fail
      refine (C4.out w4 hc4).mono ?_
      rintro e w5 ⟨rfl, hb5⟩
      have hc5 := Nb hc4 hb5
      go_wp2_with fail
      refine (C5.out w5 hc5).mono ?_
      rintro e w6 ⟨rfl, hb6⟩
      have hc6 := Nb hc5 hb6
      go_wp2_with fail
      refine (C6.out w6 hc6).mono ?_
      rintro e w7 ⟨rfl, hb7⟩
      have hc7 := Nb hc6 hb7
      go_wp2_with fail
      refine (C7.out w7 hc7).mono ?_
      rintro e w8 ⟨rfl, hb8⟩
      have hc8 := Nb hc7 hb8
      go_wp2_with fail
      refine (C8.out w8 hc8).mono ?_
      rintro e w9 ⟨rfl, hb9⟩
      have hc9 := Nb hc8 hb9
      go_wp2_with fail
      refine (C9.out w9 hc9).mono ?_
      rintro e w10 ⟨rfl, hb10⟩
      have hc10 := Nb hc9 hb10
      go_wp2_with fail
      refine (C10.out w10 hc10).mono ?_
      rintro e w11 ⟨rfl, hb11⟩
      have hc11 := Nb hc10 hb11
      go_wp2_with fail
      refine (C11.out w11 hc11).mono ?_
      rintro e w12 ⟨rfl, hb12⟩
      have hc12 := Nb hc11 hb12
      go_wp2_with fail
      refine (C12.out w12 hc12).mono ?_
      rintro e w13 ⟨rfl, hb13⟩
      have hc13 := Nb hc12 hb13
      go_wp2_with fail
      refine (C13.out w13 hc13).mono ?_
      rintro e w14 ⟨rfl, hb14⟩
      have hc14 := Nb hc13 hb14
      go_wp2_with fail
      refine (C14.out w14 hc14).mono ?_
      rintro e w15 ⟨rfl, hb15⟩
      have hc15 := Nb hc14 hb15
      go_wp2_with fail
      refine (C15.out w15 hc15).mono ?_
      rintro e w16 ⟨rfl, hb16⟩
      have hc16 := Nb hc15 hb16
      go_wp2_with fail
      refine (C16.out w16 hc16).mono ?_
      rintro e w17 ⟨rfl, hb17⟩
      have hc17 := Nb hc16 hb17
      go_wp2_with fail
      go_ret
      exact ⟨rfl, hc17⟩
    by_cases k14 : e14 = 0
    rotate_left
    · obtain ⟨n14, m14⟩ := nez k14
      clear M4
      subst k9
      go_enter Tryd.func6, Tryd.ntmps6
      go_wp2_with fail
      refine (C0.out W (Below.refl W.heap.size W)).mono ?_
      rintro e w1 ⟨rfl, hb1⟩
      have hc1 := Nb (Below.refl W.heap.size W) hb1
      go_wp2_with fail
      refine (C1.out w1 hc1).mono ?_
      rintro e w2 ⟨rfl, hb2⟩
      have hc2 := Nb hc1 hb2
      go_wp2_with fail
      refine (C2.out w2 hc2).mono ?_
      rintro e w3 ⟨rfl, hb3⟩
      have hc3 := Nb hc2 hb3
      go_wp2_with fail
      refine (C3.out w3 hc3).mono ?_
      rintro e w4 ⟨rfl, hb4⟩
      have hc4 := Nb hc3 hb4
      go_wp2_with fail
      refine (C4.out w4 hc4).mono ?_
      rintro e w5 ⟨rfl, hb5⟩
      have hc5 := Nb hc4 hb5
      go_wp2_with fail
      refine (C5.out w5 hc5).mono ?_
      rintro e w6 ⟨rfl, hb6⟩
      have hc6 := Nb hc5 hb6
      go_wp2_with fail
      refine (C6.out w6 hc6).mono ?_
      rintro e w7 ⟨rfl, hb7⟩
      have hc7 := Nb hc6 hb7
      go_wp2_with fail
      refine (C7.out w7 hc7).mono ?_
      rintro e w8 ⟨rfl, hb8⟩
      have hc8 := Nb hc7 hb8
      go_wp2_with fail
      refine (C8.out w8 hc8).mono ?_
      rintro e w9 ⟨rfl, hb9⟩
      have hc9 := Nb hc8 hb9
      go_wp2_with fail
      refine (C9.out w9 hc9).mono ?_
      rintro e w10 ⟨rfl, hb10⟩
      have hc10 := Nb hc9 hb10
      go_wp2_with fail
      refine (C10.out w10 hc10).mono ?_
      rintro e w11 ⟨rfl, hb11⟩
      have hc11 := Nb hc10 hb11
      go_wp2_with fail
      refine (C11.out w11 hc11).mono ?_
      rintro e w12 ⟨rfl, hb12⟩
      have hc12 := Nb hc11 hb12
      go_wp2_with fail
      refine (C12.out w12 hc12).mono ?_
      rintro e w13 ⟨rfl, hb13⟩
      have hc13 := Nb hc12 hb13
      go_wp2_with fail
      refine (C13.out w13 hc13).mono ?_
      rintro e w14 ⟨rfl, hb14⟩
      have hc14 := Nb hc13 hb14
      go_wp2_with fail
      refine (C14.out w14 hc14).mono ?_
      rintro e w15 ⟨rfl, hb15⟩
      have hc15 := Nb hc14 hb15
      go_wp2_with fail
      refine (C15.out w15 hc15).mono ?_
      rintro e w16 ⟨rfl, hb16⟩
      have hc16 := Nb hc15 hb16
      go_wp2_with fail
      refine (C16.out w16 hc16).mono ?_
      rintro e w17 ⟨rfl, hb17⟩
      have hc17 := Nb hc16 hb17
      go_wp2_with fail
      go_ret
      exact ⟨rfl, hc17⟩
    by_cases k15 : e15 = 0
    rotate_left
    · obtain ⟨n15, m15⟩ := nez k15
      clear M4
      subst k9
      subst k14
      go_enter Tryd.func6, Tryd.ntmps6
      go_wp2_with fail
      refine (C0.out W (Below.refl W.heap.size W)).mono ?_
      rintro e w1 ⟨rfl, hb1⟩
      have hc1 := Nb (Below.refl W.heap.size W) hb1
      go_wp2_with fail
      refine (C1.out w1 hc1).mono ?_
      rintro e w2 ⟨rfl, hb2⟩
      have hc2 := Nb hc1 hb2
      go_wp2_with fail
      refine (C2.out w2 hc2).mono ?_
      rintro e w3 ⟨rfl, hb3⟩
      have hc3 := Nb hc2 hb3
      go_wp2_with fail
      refine (C3.out w3 hc3).mono ?_
      rintro e w4 ⟨rfl, hb4⟩
      have hc4 := Nb hc3 hb4
      go_wp2_with fail
      refine (C4.out w4 hc4).mono ?_
      rintro e w5 ⟨rfl, hb5⟩
      have hc5 := Nb hc4 hb5
      go_wp2_with fail
      refine (C5.out w5 hc5).mono ?_
      rintro e w6 ⟨rfl, hb6⟩
      have hc6 := Nb hc5 hb6
      go_wp2_with fail
      refine (C6.out w6 hc6).mono ?_
      rintro e w7 ⟨rfl, hb7⟩
      have hc7 := Nb hc6 hb7
      go_wp2_with fail
      refine (C7.out w7 hc7).mono ?_
      rintro e w8 ⟨rfl, hb8⟩
      have hc8 := Nb hc7 hb8
      go_wp2_with fail
      refine (C8.out w8 hc8).mono ?_
      rintro e w9 ⟨rfl, hb9⟩
      have hc9 := Nb hc8 hb9
      go_wp2_with fail
      refine (C9.out w9 hc9).mono ?_
      rintro e w10 ⟨rfl, hb10⟩
      have hc10 := Nb hc9 hb10
      go_wp2_with fail
      refine (C10.out w10 hc10).mono ?_
      rintro e w11 ⟨rfl, hb11⟩
      have hc11 := Nb hc10 hb11
      go_wp2_with fail
      refine (C11.out w11 hc11).mono ?_
      rintro e w12 ⟨rfl, hb12⟩
      have hc12 := Nb hc11 hb12
      go_wp2_with fail
      refine (C12.out w12 hc12).mono ?_
      rintro e w13 ⟨rfl, hb13⟩
      have hc13 := Nb hc12 hb13
      go_wp2_with fail
      refine (C13.out w13 hc13).mono ?_
      rintro e w14 ⟨rfl, hb14⟩
      have hc14 := Nb hc13 hb14
      go_wp2_with fail
      refine (C14.out w14 hc14).mono ?_
      rintro e w15 ⟨rfl, hb15⟩
      have hc15 := Nb hc14 hb15
      go_wp2_with fail
      refine (C15.out w15 hc15).mono ?_
      rintro e w16 ⟨rfl, hb16⟩
      have hc16 := Nb hc15 hb16
      go_wp2_with fail
      refine (C16.out w16 hc16).mono ?_
      rintro e w17 ⟨rfl, hb17⟩
      have hc17 := Nb hc16 hb17
      go_wp2_with fail
      go_ret
      exact ⟨rfl, hc17⟩
    by_cases k16 : e16 = 0
    rotate_left
    · obtain ⟨n16, m16⟩ := nez k16
      clear M4
      subst k9
      subst k14
      subst k15
      go_enter Tryd.func6, Tryd.ntmps6
      go_wp2_with fail
      refine (C0.out W (Below.refl W.heap.size W)).mono ?_
      rintro e w1 ⟨rfl, hb1⟩
      have hc1 := Nb (Below.refl W.heap.size W) hb1
      go_wp2_with fail
      refine (C1.out w1 hc1).mono ?_
      rintro e w2 ⟨rfl, hb2⟩
      have hc2 := Nb hc1 hb2
      go_wp2_with fail
      refine (C2.out w2 hc2).mono ?_
      rintro e w3 ⟨rfl, hb3⟩
      have hc3 := Nb hc2 hb3
      go_wp2_with fail
      refine (C3.out w3 hc3).mono ?_
      rintro e w4 ⟨rfl, hb4⟩
      have hc4 := Nb hc3 hb4
      go_wp2_with fail
      refine (C4.out w4 hc4).mono ?_
      rintro e w5 ⟨rfl, hb5⟩
      have hc5 := Nb hc4 hb5
      go_wp2_with fail
      refine (C5.out w5 hc5).mono ?_
      rintro e w6 ⟨rfl, hb6⟩
      have hc6 := Nb hc5 hb6
      go_wp2_with fail
      refine (C6.out w6 hc6).mono ?_
      rintro e w7 ⟨rfl, hb7⟩
      have hc7 := Nb hc6 hb7
      go_wp2_with fail
      refine (C7.out w7 hc7).mono ?_
      rintro e w8 ⟨rfl, hb8⟩
      have hc8 := Nb hc7 hb8
      go_wp2_with fail
      refine (C8.out w8 hc8).mono ?_
      rintro e w9 ⟨rfl, hb9⟩
      have hc9 := Nb hc8 hb9
      go_wp2_with fail
      refine (C9.out w9 hc9).mono ?_
      rintro e w10 ⟨rfl, hb10⟩
      have hc10 := Nb hc9 hb10
      go_wp2_with fail
      refine (C10.out w10 hc10).mono ?_
      rintro e w11 ⟨rfl, hb11⟩
      have hc11 := Nb hc10 hb11
      go_wp2_with fail
      refine (C11.out w11 hc11).mono ?_
      rintro e w12 ⟨rfl, hb12⟩
      have hc12 := Nb hc11 hb12
      go_wp2_with fail
      refine (C12.out w12 hc12).mono ?_
      rintro e w13 ⟨rfl, hb13⟩
      have hc13 := Nb hc12 hb13
      go_wp2_with fail
      refine (C13.out w13 hc13).mono ?_
      rintro e w14 ⟨rfl, hb14⟩
      have hc14 := Nb hc13 hb14
      go_wp2_with fail
      refine (C14.out w14 hc14).mono ?_
      rintro e w15 ⟨rfl, hb15⟩
      have hc15 := Nb hc14 hb15
      go_wp2_with fail
      refine (C15.out w15 hc15).mono ?_
      rintro e w16 ⟨rfl, hb16⟩
      have hc16 := Nb hc15 hb16
      go_wp2_with fail
      refine (C16.out w16 hc16).mono ?_
      rintro e w17 ⟨rfl, hb17⟩
      have hc17 := Nb hc16 hb17
      go_wp2_with fail
      go_ret
      exact ⟨rfl, hc17⟩
    obtain rfl := M4 k14 k16
    clear M4
    subst k9
    subst k14
    subst k15
    subst k16
    go_enter Tryd.func6, Tryd.ntmps6
    go_wp2_with fail
    refine (C0.out W (Below.refl W.heap.size W)).mono ?_
    rintro e w1 ⟨rfl, hb1⟩
    have hc1 := Nb (Below.refl W.heap.size W) hb1
    go_wp2_with fail
    refine (C1.out w1 hc1).mono ?_
    rintro e w2 ⟨rfl, hb2⟩
    have hc2 := Nb hc1 hb2
    go_wp2_with fail
    refine (C2.out w2 hc2).mono ?_
    rintro e w3 ⟨rfl, hb3⟩
    have hc3 := Nb hc2 hb3
    go_wp2_with fail
    refine (C3.out w3 hc3).mono ?_
    rintro e w4 ⟨rfl, hb4⟩
    have hc4 := Nb hc3 hb4
    go_wp2_with fail
    refine (C4.out w4 hc4).mono ?_
    rintro e w5 ⟨rfl, hb5⟩
    have hc5 := Nb hc4 hb5
    go_wp2_with fail
    refine (C5.out w5 hc5).mono ?_
    rintro e w6 ⟨rfl, hb6⟩
    have hc6 := Nb hc5 hb6
    go_wp2_with fail
    refine (C6.out w6 hc6).mono ?_
    rintro e w7 ⟨rfl, hb7⟩
    have hc7 := Nb hc6 hb7
    go_wp2_with fail
    refine (C7.out w7 hc7).mono ?_
    rintro e w8 ⟨rfl, hb8⟩
    have hc8 := Nb hc7 hb8
    go_wp2_with fail
    refine (C8.out w8 hc8).mono ?_
    rintro e w9 ⟨rfl, hb9⟩
    have hc9 := Nb hc8 hb9
    go_wp2_with fail
    refine (C9.out w9 hc9).mono ?_
    rintro e w10 ⟨rfl, hb10⟩
    have hc10 := Nb hc9 hb10
    go_wp2_with fail
    refine (C10.out w10 hc10).mono ?_
    rintro e w11 ⟨rfl, hb11⟩
    have hc11 := Nb hc10 hb11
    go_wp2_with fail
    refine (C11.out w11 hc11).mono ?_
    rintro e w12 ⟨rfl, hb12⟩
    have hc12 := Nb hc11 hb12
    go_wp2_with fail
    refine (C12.out w12 hc12).mono ?_
    rintro e w13 ⟨rfl, hb13⟩
    have hc13 := Nb hc12 hb13
    go_wp2_with fail
    refine (C13.out w13 hc13).mono ?_
    rintro e w14 ⟨rfl, hb14⟩
    have hc14 := Nb hc13 hb14
    go_wp2_with fail
    refine (C14.out w14 hc14).mono ?_
    rintro e w15 ⟨rfl, hb15⟩
    have hc15 := Nb hc14 hb15
    go_wp2_with fail
    refine (C15.out w15 hc15).mono ?_
    rintro e w16 ⟨rfl, hb16⟩
    have hc16 := Nb hc15 hb16
    go_wp2_with fail
    refine (C16.out w16 hc16).mono ?_
    rintro e w17 ⟨rfl, hb17⟩
    have hc17 := Nb hc16 hb17
    go_wp2_with fail
    go_ret
    exact ⟨rfl, hc17⟩
  obtain rfl := M3 k11 k13
  clear M3
  subst k11
  subst k13
  by_cases k9 : e9 = 0
  rotate_left
  · obtain ⟨n9, m9⟩ := nez k9
    clear M4
    go_enter Tryd.func6, Tryd.ntmps6
    go_wp2_with fail
    refine (C0.out W (Below.refl W.heap.size W)).mono ?_
    rintro e w1 ⟨rfl, hb1⟩
    have hc1 := Nb (Below.refl W.heap.size W) hb1
    go_wp2_with fail
    refine (C1.out w1 hc1).mono ?_
    rintro e w2 ⟨rfl, hb2⟩
    have hc2 := Nb hc1 hb2
    go_wp2_with fail
    refine (C2.out w2 hc2).mono ?_
    rintro e w3 ⟨rfl, hb3⟩
    have hc3 := Nb hc2 hb3
    go_wp2_with fail
    refine (C3.out w3 hc3).mono ?_
    rintro e w4 ⟨rfl, hb4⟩
    have hc4 := Nb hc3 hb4
    go_wp2_with fail
    refine (C4.out w4 hc4).mono ?_
    rintro e w5 ⟨rfl, hb5⟩
    have hc5 := Nb hc4 hb5
    go_wp2_with fail
    refine (C5.out w5 hc5).mono ?_
    rintro e w6 ⟨rfl, hb6⟩
    have hc6 := Nb hc5 hb6
    go_wp2_with fail
    refine (C6.out w6 hc6).mono ?_
    rintro e w7 ⟨rfl, hb7⟩
    have hc7 := Nb hc6 hb7
    go_wp2_with fail
    refine (C7.out w7 hc7).mono ?_
    rintro e w8 ⟨rfl, hb8⟩
    have hc8 := Nb hc7 hb8
    go_wp2_with fail
    refine (C8.out w8 hc8).mono ?_
    rintro e w9 ⟨rfl, hb9⟩
    have hc9 := Nb hc8 hb9
    go_wp2_with fail
    refine (C9.out w9 hc9).mono ?_
    rintro e w10 ⟨rfl, hb10⟩
    have hc10 := Nb hc9 hb10
    go_wp2_with fail
    refine (C10.out w10 hc10).mono ?_
    rintro e w11 ⟨rfl, hb11⟩
    have hc11 := Nb hc10 hb11
    go_wp2_with fail
    refine (C11.out w11 hc11).mono ?_
    rintro e w12 ⟨rfl, hb12⟩
    have hc12 := Nb hc11 hb12
    go_wp2_with fail
    refine (C12.out w12 hc12).mono ?_
    rintro e w13 ⟨rfl, hb13⟩
    have hc13 := Nb hc12 hb13
    go_wp2_with fail
    refine (C13.out w13 hc13).mono ?_
    rintro e w14 ⟨rfl, hb14⟩
    have hc14 := Nb hc13 hb14
    go_wp2_with fail
    refine (C14.out w14 hc14).mono ?_
    rintro e w15 ⟨rfl, hb15⟩
    have hc15 := Nb hc14 hb15
    go_wp2_with fail
    refine (C15.out w15 hc15).mono ?_
    rintro e w16 ⟨rfl, hb16⟩
    have hc16 := Nb hc15 hb16
    go_wp2_with fail
    refine (C16.out w16 hc16).mono ?_
    rintro e w17 ⟨rfl, hb17⟩
    have hc17 := Nb hc16 hb17
    go_wp2_with fail
    go_ret
    exact ⟨rfl, hc17⟩
  by_cases k14 : e14 = 0
  rotate_left
  · obtain ⟨n14, m14⟩ := nez k14
    clear M4
    subst k9
    go_enter Tryd.func6, Tryd.ntmps6
    go_wp2_with fail
    refine (C0.out W (Below.refl W.heap.size W)).mono ?_
    rintro e w1 ⟨rfl, hb1⟩
    have hc1 := Nb (Below.refl W.heap.size W) hb1
    go_wp2_with fail
    refine (C1.out w1 hc1).mono ?_
    rintro e w2 ⟨rfl, hb2⟩
    have hc2 := Nb hc1 hb2
    go_wp2_with fail
    refine (C2.out w2 hc2).mono ?_
    rintro e w3 ⟨rfl, hb3⟩
    have hc3 := Nb hc2 hb3
    go_wp2_with fail
    refine (C3.out w3 hc3).mono ?_
    rintro e w4 ⟨rfl, hb4⟩
    have hc4 := Nb hc3 hb4
    go_wp2_with fail
    refine (C4.out w4 hc4).mono ?_
    rintro e w5 ⟨rfl, hb5⟩
    have hc5 := Nb hc4 hb5
    go_wp2_with fail
    refine (C5.out w5 hc5).mono ?_
    rintro e w6 ⟨rfl, hb6⟩
    have hc6 := Nb hc5 hb6
    go_wp2_with fail
    refine (C6.out w6 hc6).mono ?_
    rintro e w7 ⟨rfl, hb7⟩
    have hc7 := Nb hc6 hb7
    go_wp2_with fail
    refine (C7.out w7 hc7).mono ?_
    rintro e w8 ⟨rfl, hb8⟩
    have hc8 := Nb hc7 hb8
    go_wp2_with fail
    refine (C8.out w8 hc8).mono ?_
    rintro e w9 ⟨rfl, hb9⟩
    have hc9 := Nb hc8 hb9
    go_wp2_with fail
    refine (C9.out w9 hc9).mono ?_
    rintro e w10 ⟨rfl, hb10⟩
    have hc10 := Nb hc9 hb10
    go_wp2_with fail
    refine (C10.out w10 hc10).mono ?_
    rintro e w11 ⟨rfl, hb11⟩
    have hc11 := Nb hc10 hb11
    go_wp2_with fail
    refine (C11.out w11 hc11).mono ?_
    rintro e w12 ⟨rfl, hb12⟩
    have hc12 := Nb hc11 hb12
    go_wp2_with fail
    refine (C12.out w12 hc12).mono ?_
    rintro e w13 ⟨rfl, hb13⟩
    have hc13 := Nb hc12 hb13
    go_wp2_with fail
    refine (C13.out w13 hc13).mono ?_
    rintro e w14 ⟨rfl, hb14⟩
    have hc14 := Nb hc13 hb14
    go_wp2_with fail
    refine (C14.out w14 hc14).mono ?_
    rintro e w15 ⟨rfl, hb15⟩
    have hc15 := Nb hc14 hb15
    go_wp2_with fail
    refine (C15.out w15 hc15).mono ?_
    rintro e w16 ⟨rfl, hb16⟩
    have hc16 := Nb hc15 hb16
    go_wp2_with fail
    refine (C16.out w16 hc16).mono ?_
    rintro e w17 ⟨rfl, hb17⟩
    have hc17 := Nb hc16 hb17
    go_wp2_with fail
    go_ret
    exact ⟨rfl, hc17⟩
  by_cases k15 : e15 = 0
  rotate_left
  · obtain ⟨n15, m15⟩ := nez k15
    clear M4
    subst k9
    subst k14
    go_enter Tryd.func6, Tryd.ntmps6
    go_wp2_with fail
    refine (C0.out W (Below.refl W.heap.size W)).mono ?_
    rintro e w1 ⟨rfl, hb1⟩
    have hc1 := Nb (Below.refl W.heap.size W) hb1
    go_wp2_with fail
    refine (C1.out w1 hc1).mono ?_
    rintro e w2 ⟨rfl, hb2⟩
    have hc2 := Nb hc1 hb2
    go_wp2_with fail
    refine (C2.out w2 hc2).mono ?_
    rintro e w3 ⟨rfl, hb3⟩
    have hc3 := Nb hc2 hb3
    go_wp2_with fail
    refine (C3.out w3 hc3).mono ?_
    rintro e w4 ⟨rfl, hb4⟩
    have hc4 := Nb hc3 hb4
    go_wp2_with fail
    refine (C4.out w4 hc4).mono ?_
    rintro e w5 ⟨rfl, hb5⟩
    have hc5 := Nb hc4 hb5
    go_wp2_with fail
    refine (C5.out w5 hc5).mono ?_
    rintro e w6 ⟨rfl, hb6⟩
    have hc6 := Nb hc5 hb6
    go_wp2_with fail
    refine (C6.out w6 hc6).mono ?_
    rintro e w7 ⟨rfl, hb7⟩
    have hc7 := Nb hc6 hb7
    go_wp2_with fail
    refine (C7.out w7 hc7).mono ?_
    rintro e w8 ⟨rfl, hb8⟩
    have hc8 := Nb hc7 hb8
    go_wp2_with fail
    refine (C8.out w8 hc8).mono ?_
    rintro e w9 ⟨rfl, hb9⟩
    have hc9 := Nb hc8 hb9
    go_wp2_with fail
    refine (C9.out w9 hc9).mono ?_
    rintro e w10 ⟨rfl, hb10⟩
    have hc10 := Nb hc9 hb10
    go_wp2_with fail
    refine (C10.out w10 hc10).mono ?_
    rintro e w11 ⟨rfl, hb11⟩
    have hc11 := Nb hc10 hb11
    go_wp2_with fail
    refine (C11.out w11 hc11).mono ?_
    rintro e w12 ⟨rfl, hb12⟩
    have hc12 := Nb hc11 hb12
    go_wp2_with fail
    refine (C12.out w12 hc12).mono ?_
    rintro e w13 ⟨rfl, hb13⟩
    have hc13 := Nb hc12 hb13
    go_wp2_with fail
    refine (C13.out w13 hc13).mono ?_
    rintro e w14 ⟨rfl, hb14⟩
    have hc14 := Nb hc13 hb14
    go_wp2_with fail
    refine (C14.out w14 hc14).mono ?_
    rintro e w15 ⟨rfl, hb15⟩
    have hc15 := Nb hc14 hb15
    go_wp2_with fail
    refine (C15.out w15 hc15).mono ?_
    rintro e w16 ⟨rfl, hb16⟩
    have hc16 := Nb hc15 hb16
    go_wp2_with fail
    refine (C16.out w16 hc16).mono ?_
    rintro e w17 ⟨rfl, hb17⟩
    have hc17 := Nb hc16 hb17
    go_wp2_with fail
    go_ret
    exact ⟨rfl, hc17⟩
  by_cases k16 : e16 = 0
  rotate_left
  · obtain ⟨n16, m16⟩ := nez k16
    clear M4
    subst k9
    subst k14
    subst k15
    go_enter Tryd.func6, Tryd.ntmps6
    go_wp2_with fail
    refine (C0.out W (Below.refl W.heap.size W)).mono ?_
    rintro e w1 ⟨rfl, hb1⟩
    have hc1 := Nb (Below.refl W.heap.size W) hb1
    go_wp2_with fail
    refine (C1.out w1 hc1).mono ?_
    rintro e w2 ⟨rfl, hb2⟩
    have hc2 := Nb hc1 hb2
    go_wp2_with fail
    refine (C2.out w2 hc2).mono ?_
    rintro e w3 ⟨rfl, hb3⟩
    have hc3 := Nb hc2 hb3
    go_wp2_with fail
    refine (C3.out w3 hc3).mono ?_
    rintro e w4 ⟨rfl, hb4⟩
    have hc4 := Nb hc3 hb4
    go_wp2_with fail
    refine (C4.out w4 hc4).mono ?_
    rintro e w5 ⟨rfl, hb5⟩
    have hc5 := Nb hc4 hb5
    go_wp2_with fail
    refine (C5.out w5 hc5).mono ?_
    rintro e w6 ⟨rfl, hb6⟩
    have hc6 := Nb hc5 hb6
    go_wp2_with fail
    refine (C6.out w6 hc6).mono ?_
    rintro e w7 ⟨rfl, hb7⟩
    have hc7 := Nb hc6 hb7
    go_wp2_with fail
    refine (C7.out w7 hc7).mono ?_
    rintro e w8 ⟨rfl, hb8⟩
    have hc8 := Nb hc7 hb8
    go_wp2_with fail
    refine (C8.out w8 hc8).mono ?_
    rintro e w9 ⟨rfl, hb9⟩
    have hc9 := Nb hc8 hb9
    go_wp2_with fail
    refine (C9.out w9 hc9).mono ?_
    rintro e w10 ⟨rfl, hb10⟩
    have hc10 := Nb hc9 hb10
    go_wp2_with fail
    refine (C10.out w10 hc10).mono ?_
    rintro e w11 ⟨rfl, hb11⟩
    have hc11 := Nb hc10 hb11
    go_wp2_with fail
    refine (C11.out w11 hc11).mono ?_
    rintro e w12 ⟨rfl, hb12⟩
    have hc12 := Nb hc11 hb12
    go_wp2_with fail
    refine (C12.out w12 hc12).mono ?_
    rintro e w13 ⟨rfl, hb13⟩
    have hc13 := Nb hc12 hb13
    go_wp2_with fail
    refine (C13.out w13 hc13).mono ?_
    rintro e w14 ⟨rfl, hb14⟩
    have hc14 := Nb hc13 hb14
    go_wp2_with fail
    refine (C14.out w14 hc14).mono ?_
    rintro e w15 ⟨rfl, hb15⟩
    have hc15 := Nb hc14 hb15
    go_wp2_with fail
    refine (C15.out w15 hc15).mono ?_
    rintro e w16 ⟨rfl, hb16⟩
    have hc16 := Nb hc15 hb16
    go_wp2_with fail
    refine (C16.out w16 hc16).mono ?_
    rintro e w17 ⟨rfl, hb17⟩
    have hc17 := Nb hc16 hb17
    go_wp2_with fail
    go_ret
    exact ⟨rfl, hc17⟩
  obtain rfl := M4 k14 k16
  clear M4
  subst k9
  subst k14
  subst k15
  subst k16
  go_enter Tryd.func6, Tryd.ntmps6
  go_wp2_with fail
  refine (C0.out W (Below.refl W.heap.size W)).mono ?_
  rintro e w1 ⟨rfl, hb1⟩
  have hc1 := Nb (Below.refl W.heap.size W) hb1
  go_wp2_with fail
  refine (C1.out w1 hc1).mono ?_
  rintro e w2 ⟨rfl, hb2⟩
  have hc2 := Nb hc1 hb2
  go_wp2_with fail
  refine (C2.out w2 hc2).mono ?_
  rintro e w3 ⟨rfl, hb3⟩
  have hc3 := Nb hc2 hb3
  go_wp2_with fail
  refine (C3.out w3 hc3).mono ?_
  rintro e w4 ⟨rfl, hb4⟩
  have hc4 := Nb hc3 hb4
  go_wp2_with fail
  refine (C4.out w4 hc4).mono ?_
  rintro e w5 ⟨rfl, hb5⟩
  have hc5 := Nb hc4 hb5
  go_wp2_with fail
  refine (C5.out w5 hc5).mono ?_
  rintro e w6 ⟨rfl, hb6⟩
  have hc6 := Nb hc5 hb6
  go_wp2_with fail
  refine (C6.out w6 hc6).mono ?_
  rintro e w7 ⟨rfl, hb7⟩
  have hc7 := Nb hc6 hb7
  go_wp2_with fail
  refine (C7.out w7 hc7).mono ?_
  rintro e w8 ⟨rfl, hb8⟩
  have hc8 := Nb hc7 hb8
  go_wp2_with fail
  refine (C8.out w8 hc8).mono ?_
  rintro e w9 ⟨rfl, hb9⟩
  have hc9 := Nb hc8 hb9
  go_wp2_with fail
  refine (C9.out w9 hc9).mono ?_
  rintro e w10 ⟨rfl, hb10⟩
  have hc10 := Nb hc9 hb10
  go_wp2_with fail
  refine (C10.out w10 hc10).mono ?_
  rintro e w11 ⟨rfl, hb11⟩
  have hc11 := Nb hc10 hb11
  go_wp2_with fail
  refine (C11.out w11 hc11).mono ?_
  rintro e w12 ⟨rfl, hb12⟩
  have hc12 := Nb hc11 hb12
  go_wp2_with fail
  refine (C12.out w12 hc12).mono ?_
  rintro e w13 ⟨rfl, hb13⟩
  have hc13 := Nb hc12 hb13
  go_wp2_with fail
  refine (C13.out w13 hc13).mono ?_
  rintro e w14 ⟨rfl, hb14⟩
  have hc14 := Nb hc13 hb14
  go_wp2_with fail
  refine (C14.out w14 hc14).mono ?_
  rintro e w15 ⟨rfl, hb15⟩
  have hc15 := Nb hc14 hb15
  go_wp2_with fail
  refine (C15.out w15 hc15).mono ?_
  rintro e w16 ⟨rfl, hb16⟩
  have hc16 := Nb hc15 hb16
  go_wp2_with fail
  refine (C16.out w16 hc16).mono ?_
  rintro e w17 ⟨rfl, hb17⟩
  have hc17 := Nb hc16 hb17
  go_wp2_with fail
  go_ret
  exact ⟨rfl, hc17⟩
end Go.Proofs.YtabebggkfjddbaaDoor
