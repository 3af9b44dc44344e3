/- NaturalDivisors walked. -/
import Derived.Test.YtabebggkfjddbaaDoorNaQuotW
set_option linter.unusedSimpArgs false
set_option linter.unusedVariables false
namespace Go.Proofs.YtabebggkfjddbaaDoor
open Go.RowKit
set_option maxRecDepth 100000

theorem gcd_lim {m n : Nat} (hm : m < LIM) (hn : n < LIM) : Nat.gcd m n < LIM := by
  rcases Nat.eq_zero_or_pos m with h | h
  · rw [h, Nat.gcd_zero_left]; exact hn
  · exact Nat.lt_of_le_of_lt (Nat.le_of_dvd h (Nat.gcd_dvd_left m n)) hm

theorem tx_eq48 (m : Nat) : ((tx m).toList == [48]) = decide (m = 0) := by
  by_cases h : m = 0
  · subst h
    rw [tx_zero, decide_eq_true rfl, ByteArray.toList_eq]
    rfl
  · rw [decide_eq_false h]
    refine ne48 fun e => h ?_
    rw [← tx_zero] at e
    exact tx_inj e

/-- A text against "0", "1". -/
theorem eq48 {s : ByteArray} (h : isB s = true) : (s.toList == [48]) = decide (nv s = 0) := by
  have := tx_eq48 (nv s)
  rwa [(isB_lt h).2] at this

set_option maxHeartbeats 4000000 in
theorem divisorsW (a b c : ByteArray) (W : World) (hp : Pow W.heap.size W) (L_a : a.size ≤ maxLen) (L_b : b.size ≤ maxLen) (L_c : c.size ≤ maxLen) :
    Calls Tryd.prog 10 #[.string a, .string b, .string c] W fun e w' => e = .returned (.bool true) ∧ Below W.heap.size W w' := by
  have HPW := Lib.hid (fun (v : World) (hb : Below W.heap.size W v) => hp.bt hb)
  clear hp
  by_cases hB_a : isB a = true
  rotate_left
  · replace hB_a : isB a = false := by simpa using hB_a
    have C0 : Hid (∀ v, Below W.heap.size W v → Calls Tryd.prog 13 #[] v fun e w' => e = .returned (.bool true) ∧ Below v.heap.size v w') := Lib.hid fun v hb => head_any v (HPW.out v hb)
    have C1 : Hid (∀ v, Below W.heap.size W v → Calls Tryd.prog 18 #[.string a] v fun e w' => e = .returned (.bool false) ∧ Below v.heap.size v w') := Lib.hid fun v hb => by have := is_any a v L_a; rwa [hB_a] at this
    go_enter Tryd.func10, Tryd.ntmps10
    go_wp2_with fail
    refine (C0.out W (Below.refl W.heap.size W)).mono ?_
    rintro e w1 ⟨rfl, hb1⟩
    have hc1 := Nb (Below.refl W.heap.size W) hb1
    go_wp2_with fail
    refine (C1.out w1 hc1).mono ?_
    rintro e w2 ⟨rfl, hb2⟩
    have hc2 := Nb hc1 hb2
    go_wp2_with fail
    go_ret
    exact ⟨rfl, hc2⟩
  by_cases hB_b : isB b = true
  rotate_left
  · replace hB_b : isB b = false := by simpa using hB_b
    have C0 : Hid (∀ v, Below W.heap.size W v → Calls Tryd.prog 13 #[] v fun e w' => e = .returned (.bool true) ∧ Below v.heap.size v w') := Lib.hid fun v hb => head_any v (HPW.out v hb)
    have C1 : Hid (∀ v, Below W.heap.size W v → Calls Tryd.prog 18 #[.string a] v fun e w' => e = .returned (.bool true) ∧ Below v.heap.size v w') := Lib.hid fun v hb => by have := is_any a v L_a; rwa [hB_a] at this
    have C2 : Hid (∀ v, Below W.heap.size W v → Calls Tryd.prog 18 #[.string b] v fun e w' => e = .returned (.bool false) ∧ Below v.heap.size v w') := Lib.hid fun v hb => by have := is_any b v L_b; rwa [hB_b] at this
    go_enter Tryd.func10, Tryd.ntmps10
    go_wp2_with fail
    refine (C0.out W (Below.refl W.heap.size W)).mono ?_
    rintro e w1 ⟨rfl, hb1⟩
    have hc1 := Nb (Below.refl W.heap.size W) hb1
    go_wp2_with fail
    refine (C1.out w1 hc1).mono ?_
    rintro e w2 ⟨rfl, hb2⟩
    have hc2 := Nb hc1 hb2
    go_wp2_with fail
    refine (C2.out w2 hc2).mono ?_
    rintro e w3 ⟨rfl, hb3⟩
    have hc3 := Nb hc2 hb3
    go_wp2_with fail
    go_ret
    exact ⟨rfl, hc3⟩
  by_cases hB_c : isB c = true
  rotate_left
  · replace hB_c : isB c = false := by simpa using hB_c
    have C0 : Hid (∀ v, Below W.heap.size W v → Calls Tryd.prog 13 #[] v fun e w' => e = .returned (.bool true) ∧ Below v.heap.size v w') := Lib.hid fun v hb => head_any v (HPW.out v hb)
    have C1 : Hid (∀ v, Below W.heap.size W v → Calls Tryd.prog 18 #[.string a] v fun e w' => e = .returned (.bool true) ∧ Below v.heap.size v w') := Lib.hid fun v hb => by have := is_any a v L_a; rwa [hB_a] at this
    have C2 : Hid (∀ v, Below W.heap.size W v → Calls Tryd.prog 18 #[.string b] v fun e w' => e = .returned (.bool true) ∧ Below v.heap.size v w') := Lib.hid fun v hb => by have := is_any b v L_b; rwa [hB_b] at this
    have C3 : Hid (∀ v, Below W.heap.size W v → Calls Tryd.prog 18 #[.string c] v fun e w' => e = .returned (.bool false) ∧ Below v.heap.size v w') := Lib.hid fun v hb => by have := is_any c v L_c; rwa [hB_c] at this
    go_enter Tryd.func10, Tryd.ntmps10
    go_wp2_with fail
    refine (C0.out W (Below.refl W.heap.size W)).mono ?_
    rintro e w1 ⟨rfl, hb1⟩
    have hc1 := Nb (Below.refl W.heap.size W) hb1
    go_wp2_with fail
    refine (C1.out w1 hc1).mono ?_
    rintro e w2 ⟨rfl, hb2⟩
    have hc2 := Nb hc1 hb2
    go_wp2_with fail
    refine (C2.out w2 hc2).mono ?_
    rintro e w3 ⟨rfl, hb3⟩
    have hc3 := Nb hc2 hb3
    go_wp2_with fail
    refine (C3.out w3 hc3).mono ?_
    rintro e w4 ⟨rfl, hb4⟩
    have hc4 := Nb hc3 hb4
    go_wp2_with fail
    go_ret
    exact ⟨rfl, hc4⟩
  have C0 : Hid (∀ v, Below W.heap.size W v → Calls Tryd.prog 13 #[] v fun e w' => e = .returned (.bool true) ∧ Below v.heap.size v w') := Lib.hid fun v hb => head_any v (HPW.out v hb)
  have C1 : Hid (∀ v, Below W.heap.size W v → Calls Tryd.prog 18 #[.string a] v fun e w' => e = .returned (.bool true) ∧ Below v.heap.size v w') := Lib.hid fun v hb => by have := is_any a v L_a; rwa [hB_a] at this
  have C2 : Hid (∀ v, Below W.heap.size W v → Calls Tryd.prog 18 #[.string b] v fun e w' => e = .returned (.bool true) ∧ Below v.heap.size v w') := Lib.hid fun v hb => by have := is_any b v L_b; rwa [hB_b] at this
  have C3 : Hid (∀ v, Below W.heap.size W v → Calls Tryd.prog 18 #[.string c] v fun e w' => e = .returned (.bool true) ∧ Below v.heap.size v w') := Lib.hid fun v hb => by have := is_any c v L_c; rwa [hB_c] at this
  obtain ⟨g, e4, h4⟩ : ∃ x e, opF Nat.gcd a b = (x, e) := ⟨_, _, rfl⟩
  have L_g : g.size ≤ maxLen := by have := op_len Nat.gcd a b; rwa [h4] at this
  have C4 : Hid (∀ v, Below W.heap.size W v → Calls Tryd.prog 30 #[.string a, .string b] v fun e w' => e = .returned (.tuple #[.string g, .int .i64 e4]) ∧ Below v.heap.size v w') := Lib.hid fun v hb => by have := gcdF a b v L_a L_b (HPW.out v hb); rwa [h4] at this
  obtain ⟨x6, r6, e6, h6⟩ : ∃ q r e, divF a g = (q, r, e) := ⟨_, _, _, rfl⟩
  have L_x6 : x6.size ≤ maxLen := by have := (div_len a g).1; rwa [h6] at this
  have L_r6 : r6.size ≤ maxLen := by have := (div_len a g).2; rwa [h6] at this
  have C6 : Hid (∀ v, Below W.heap.size W v → Calls Tryd.prog 28 #[.string a, .string g] v fun e w' => e = .returned (.tuple #[.string x6, .string r6, .int .i64 e6]) ∧ Below v.heap.size v w') := Lib.hid fun v hb => by have := divideF a g v L_a L_g (HPW.out v hb); rwa [h6] at this
  obtain ⟨y7, s7, e7, h7⟩ : ∃ q r e, divF b g = (q, r, e) := ⟨_, _, _, rfl⟩
  have L_y7 : y7.size ≤ maxLen := by have := (div_len b g).1; rwa [h7] at this
  have L_s7 : s7.size ≤ maxLen := by have := (div_len b g).2; rwa [h7] at this
  have C7 : Hid (∀ v, Below W.heap.size W v → Calls Tryd.prog 28 #[.string b, .string g] v fun e w' => e = .returned (.tuple #[.string y7, .string s7, .int .i64 e7]) ∧ Below v.heap.size v w') := Lib.hid fun v hb => by have := divideF b g v L_b L_g (HPW.out v hb); rwa [h7] at this
  obtain ⟨one, e8, h8⟩ : ∃ x e, opF Nat.gcd x6 y7 = (x, e) := ⟨_, _, rfl⟩
  have L_one : one.size ≤ maxLen := by have := op_len Nat.gcd x6 y7; rwa [h8] at this
  have C8 : Hid (∀ v, Below W.heap.size W v → Calls Tryd.prog 30 #[.string x6, .string y7] v fun e w' => e = .returned (.tuple #[.string one, .int .i64 e8]) ∧ Below v.heap.size v w') := Lib.hid fun v hb => by have := gcdF x6 y7 v L_x6 L_y7 (HPW.out v hb); rwa [h8] at this
  obtain ⟨x9, e9, h9⟩ : ∃ x e, opF (fun m n => m * n) a c = (x, e) := ⟨_, _, rfl⟩
  have L_x9 : x9.size ≤ maxLen := by have := op_len (fun m n => m * n) a c; rwa [h9] at this
  have C9 : Hid (∀ v, Below W.heap.size W v → Calls Tryd.prog 26 #[.string a, .string c] v fun e w' => e = .returned (.tuple #[.string x9, .int .i64 e9]) ∧ Below v.heap.size v w') := Lib.hid fun v hb => by have := mulF a c v L_a L_c (HPW.out v hb); rwa [h9] at this
  obtain ⟨y10, e10, h10⟩ : ∃ x e, opF (fun m n => m * n) b c = (x, e) := ⟨_, _, rfl⟩
  have L_y10 : y10.size ≤ maxLen := by have := op_len (fun m n => m * n) b c; rwa [h10] at this
  have C10 : Hid (∀ v, Below W.heap.size W v → Calls Tryd.prog 26 #[.string b, .string c] v fun e w' => e = .returned (.tuple #[.string y10, .int .i64 e10]) ∧ Below v.heap.size v w') := Lib.hid fun v hb => by have := mulF b c v L_b L_c (HPW.out v hb); rwa [h10] at this
  obtain ⟨d11, e11, h11⟩ : ∃ x e, opF Nat.gcd x9 y10 = (x, e) := ⟨_, _, rfl⟩
  have L_d11 : d11.size ≤ maxLen := by have := op_len Nat.gcd x9 y10; rwa [h11] at this
  have C11 : Hid (∀ v, Below W.heap.size W v → Calls Tryd.prog 30 #[.string x9, .string y10] v fun e w' => e = .returned (.tuple #[.string d11, .int .i64 e11]) ∧ Below v.heap.size v w') := Lib.hid fun v hb => by have := gcdF x9 y10 v L_x9 L_y10 (HPW.out v hb); rwa [h11] at this
  obtain ⟨w12, e12, h12⟩ : ∃ x e, opF (fun m n => m * n) g c = (x, e) := ⟨_, _, rfl⟩
  have L_w12 : w12.size ≤ maxLen := by have := op_len (fun m n => m * n) g c; rwa [h12] at this
  have C12 : Hid (∀ v, Below W.heap.size W v → Calls Tryd.prog 26 #[.string g, .string c] v fun e w' => e = .returned (.tuple #[.string w12, .int .i64 e12]) ∧ Below v.heap.size v w') := Lib.hid fun v hb => by have := mulF g c v L_g L_c (HPW.out v hb); rwa [h12] at this
  have h5 : opF Nat.gcd b a = (g, e4) := by rw [← h4]; exact op_comm _ _ _ Nat.gcd_comm
  have C5 : Hid (∀ v, Below W.heap.size W v → Calls Tryd.prog 30 #[.string b, .string a] v fun e w' => e = .returned (.tuple #[.string g, .int .i64 e4]) ∧ Below v.heap.size v w') := Lib.hid fun v hb => by have := gcdF b a v L_b L_a (HPW.out v hb); rwa [h5] at this
  obtain ⟨la, ta⟩ := isB_lt hB_a
  obtain ⟨lb, tb⟩ := isB_lt hB_b
  obtain ⟨lc, tc⟩ := isB_lt hB_c
  obtain ⟨rg, rfl⟩ := op_make h4 hB_a hB_b (gcd_lim la lb)
  have ng : nv g = Nat.gcd (nv a) (nv b) := by rw [rg, nv_tx]
  have hBg : isB g = true := by rw [rg]; exact isB_txl (gcd_lim la lb)
  have zg := eq48 hBg
  have za := eq48 hB_a
  have zb := eq48 hB_b
  have M12 : e9 = 0 → e10 = 0 → w12 = d11 ∧ e11 = 0 ∧ e12 = 0 := by
    intro k9 k10
    obtain ⟨_, _, r9, n9, l9⟩ := op_zero h9 k9
    obtain ⟨_, _, r10, n10, l10⟩ := op_zero h10 k10
    have b9 : isB x9 = true := by rw [r9]; exact isB_txl l9
    have b10 : isB y10 = true := by rw [r10]; exact isB_txl l10
    have n9' : nv x9 = nv a * nv c := n9
    have n10' : nv y10 = nv b * nv c := n10
    have hg : Nat.gcd (nv x9) (nv y10) = nv g * nv c := by rw [n9', n10', ng, Nat.gcd_mul_right]
    have hl : Nat.gcd (nv x9) (nv y10) < LIM := gcd_lim (isB_lt b9).1 (isB_lt b10).1
    obtain ⟨r11, f11⟩ := op_make h11 b9 b10 hl
    obtain ⟨r12, f12⟩ := op_make h12 hBg hB_c (by show nv g * nv c < LIM; rw [← hg]; exact hl)
    refine ⟨?_, f11, f12⟩
    rw [r11, r12, hg]
  have M8 : nv g ≠ 0 → r6 = ⟨#[48]⟩ ∧ s7 = ⟨#[48]⟩ ∧ one = ⟨#[49]⟩ ∧ e6 = 0 ∧ e7 = 0 ∧ e8 = 0 := by
    intro hg0
    obtain ⟨rx, rr, f6⟩ := div_make h6 hB_a hBg hg0
    obtain ⟨ry, rs, f7⟩ := div_make h7 hB_b hBg hg0
    have d1 : nv g ∣ nv a := by rw [ng]; exact Nat.gcd_dvd_left _ _
    have d2 : nv g ∣ nv b := by rw [ng]; exact Nat.gcd_dvd_right _ _
    rw [Nat.mod_eq_zero_of_dvd d1, tx_zero] at rr
    rw [Nat.mod_eq_zero_of_dvd d2, tx_zero] at rs
    have lx : nv a / nv g < LIM := Nat.lt_of_le_of_lt (Nat.div_le_self _ _) la
    have ly : nv b / nv g < LIM := Nat.lt_of_le_of_lt (Nat.div_le_self _ _) lb
    have hone : Nat.gcd (nv x6) (nv y7) = 1 := by
      rw [rx, ry, nv_tx, nv_tx, ng]
      rw [Nat.gcd_div (Nat.gcd_dvd_left _ _) (Nat.gcd_dvd_right _ _)]
      exact Nat.div_self (Nat.pos_of_ne_zero (by rw [← ng]; exact hg0))
    obtain ⟨ro, f8⟩ := op_make h8 (by rw [rx]; exact isB_txl lx) (by rw [ry]; exact isB_txl ly) (by rw [hone]; exact small (by decide))
    rw [hone, tx_of [49] 1 (by decide) (by decide)] at ro
    exact ⟨rr, rs, ro, f6, f7, f8⟩
  have MG : nv g = 0 ↔ nv a = 0 ∧ nv b = 0 := by rw [ng, Nat.gcd_eq_zero_iff]
  have G48 : ∀ k : Bool, (g.toList == [48]) = k → (g.toList == [48]) = k ∧ (k = false → g.toList ≠ [48]) := fun k h => ⟨h, fun hk => by rw [hk] at h; simpa using h⟩
  clear h4 h5 h6 h7 h8 h9 h10 h11 h12 rg ng hBg la ta lb tb lc tc HPW hB_a hB_b hB_c
  by_cases ka : nv a = 0
  · rw [decide_eq_true ka] at za
    by_cases kb : nv b = 0
    · rw [decide_eq_true kb] at zb
      rw [decide_eq_true (MG.2 ⟨ka, kb⟩)] at zg
      clear MG M8 G48 ka kb
      by_cases k9 : e9 = 0
      rotate_left
      · obtain ⟨n9, m9⟩ := nez k9
        clear M12
        go_enter Tryd.func10, Tryd.ntmps10
        go_wp2_with fail
        refine (C0.out W (Below.refl W.heap.size W)).mono ?_
        rintro e w1 ⟨rfl, hb1⟩
        have hc1 := Nb (Below.refl W.heap.size W) hb1
        go_wp2_with fail
        refine (C1.out w1 hc1).mono ?_
        rintro e w2 ⟨rfl, hb2⟩
        have hc2 := Nb hc1 hb2
        go_wp2_with fail
        refine (C2.out w2 hc2).mono ?_
        rintro e w3 ⟨rfl, hb3⟩
        have hc3 := Nb hc2 hb3
        go_wp2_with fail
        refine (C3.out w3 hc3).mono ?_
        rintro e w4 ⟨rfl, hb4⟩
        have hc4 := Nb hc3 hb4
        go_wp2_with fail
        refine (C4.out w4 hc4).mono ?_
        rintro e w5 ⟨rfl, hb5⟩
        have hc5 := Nb hc4 hb5
        go_wp2_with fail
        refine (C5.out w5 hc5).mono ?_
        rintro e w6 ⟨rfl, hb6⟩
        have hc6 := Nb hc5 hb6
        go_wp2_with fail
        refine (C9.out w6 hc6).mono ?_
        rintro e w7 ⟨rfl, hb7⟩
        have hc7 := Nb hc6 hb7
        go_wp2_with fail
        refine (C10.out w7 hc7).mono ?_
        rintro e w8 ⟨rfl, hb8⟩
        have hc8 := Nb hc7 hb8
        go_wp2_with fail
        go_ret
        exact ⟨rfl, hc8⟩
      by_cases k10 : e10 = 0
      rotate_left
      · obtain ⟨n10, m10⟩ := nez k10
        clear M12
        subst k9
        go_enter Tryd.func10, Tryd.ntmps10
        go_wp2_with fail
        refine (C0.out W (Below.refl W.heap.size W)).mono ?_
        rintro e w1 ⟨rfl, hb1⟩
        have hc1 := Nb (Below.refl W.heap.size W) hb1
        go_wp2_with fail
        refine (C1.out w1 hc1).mono ?_
        rintro e w2 ⟨rfl, hb2⟩
        have hc2 := Nb hc1 hb2
        go_wp2_with fail
        refine (C2.out w2 hc2).mono ?_
        rintro e w3 ⟨rfl, hb3⟩
        have hc3 := Nb hc2 hb3
        go_wp2_with fail
        refine (C3.out w3 hc3).mono ?_
        rintro e w4 ⟨rfl, hb4⟩
        have hc4 := Nb hc3 hb4
        go_wp2_with fail
        refine (C4.out w4 hc4).mono ?_
        rintro e w5 ⟨rfl, hb5⟩
        have hc5 := Nb hc4 hb5
        go_wp2_with fail
        refine (C5.out w5 hc5).mono ?_
        rintro e w6 ⟨rfl, hb6⟩
        have hc6 := Nb hc5 hb6
        go_wp2_with fail
        refine (C9.out w6 hc6).mono ?_
        rintro e w7 ⟨rfl, hb7⟩
        have hc7 := Nb hc6 hb7
        go_wp2_with fail
        refine (C10.out w7 hc7).mono ?_
        rintro e w8 ⟨rfl, hb8⟩
        have hc8 := Nb hc7 hb8
        go_wp2_with fail
        go_ret
        exact ⟨rfl, hc8⟩
      obtain ⟨rfl, rfl, rfl⟩ := M12 k9 k10
      clear M12
      subst k9
      subst k10
      go_enter Tryd.func10, Tryd.ntmps10
      go_wp2_with fail
      refine (C0.out W (Below.refl W.heap.size W)).mono ?_
      rintro e w1 ⟨rfl, hb1⟩
      have hc1 := Nb (Below.refl W.heap.size W) hb1
      go_wp2_with fail
      refine (C1.out w1 hc1).mono ?_
      rintro e w2 ⟨rfl, hb2⟩
      have hc2 := Nb hc1 hb2
      go_wp2_with fail
      refine (C2.out w2 hc2).mono ?_
      rintro e w3 ⟨rfl, hb3⟩
      have hc3 := Nb hc2 hb3
      go_wp2_with fail
      refine (C3.out w3 hc3).mono ?_
      rintro e w4 ⟨rfl, hb4⟩
      have hc4 := Nb hc3 hb4
      go_wp2_with fail
      refine (C4.out w4 hc4).mono ?_
      rintro e w5 ⟨rfl, hb5⟩
      have hc5 := Nb hc4 hb5
      go_wp2_with fail
      refine (C5.out w5 hc5).mono ?_
      rintro e w6 ⟨rfl, hb6⟩
      have hc6 := Nb hc5 hb6
      go_wp2_with fail
      refine (C9.out w6 hc6).mono ?_
      rintro e w7 ⟨rfl, hb7⟩
      have hc7 := Nb hc6 hb7
      go_wp2_with fail
      refine (C10.out w7 hc7).mono ?_
      rintro e w8 ⟨rfl, hb8⟩
      have hc8 := Nb hc7 hb8
      go_wp2_with fail
      refine (C11.out w8 hc8).mono ?_
      rintro e w9 ⟨rfl, hb9⟩
      have hc9 := Nb hc8 hb9
      go_wp2_with fail
      refine (C12.out w9 hc9).mono ?_
      rintro e w10 ⟨rfl, hb10⟩
      have hc10 := Nb hc9 hb10
      go_wp2_with fail
      go_ret
      exact ⟨rfl, hc10⟩
    · rw [decide_eq_false kb] at zb
      have kg : nv g ≠ 0 := fun h => kb (MG.1 h).2
      rw [decide_eq_false kg] at zg
      have zg2 : g.toList ≠ [48] := by simpa using zg
      have zb2 : b.toList ≠ [48] := by simpa using zb
      obtain ⟨rfl, rfl, rfl, rfl, rfl, rfl⟩ := M8 kg
      clear MG M8 G48 ka kb kg
      by_cases k9 : e9 = 0
      rotate_left
      · obtain ⟨n9, m9⟩ := nez k9
        clear M12
        go_enter Tryd.func10, Tryd.ntmps10
        go_wp2_with fail
        refine (C0.out W (Below.refl W.heap.size W)).mono ?_
        rintro e w1 ⟨rfl, hb1⟩
        have hc1 := Nb (Below.refl W.heap.size W) hb1
        go_wp2_with fail
        refine (C1.out w1 hc1).mono ?_
        rintro e w2 ⟨rfl, hb2⟩
        have hc2 := Nb hc1 hb2
        go_wp2_with fail
        refine (C2.out w2 hc2).mono ?_
        rintro e w3 ⟨rfl, hb3⟩
        have hc3 := Nb hc2 hb3
        go_wp2_with fail
        refine (C3.out w3 hc3).mono ?_
        rintro e w4 ⟨rfl, hb4⟩
        have hc4 := Nb hc3 hb4
        go_wp2_with fail
        refine (C4.out w4 hc4).mono ?_
        rintro e w5 ⟨rfl, hb5⟩
        have hc5 := Nb hc4 hb5
        go_wp2_with fail
        refine (C5.out w5 hc5).mono ?_
        rintro e w6 ⟨rfl, hb6⟩
        have hc6 := Nb hc5 hb6
        go_wp2_with fail
        refine (C6.out w6 hc6).mono ?_
        rintro e w7 ⟨rfl, hb7⟩
        have hc7 := Nb hc6 hb7
        go_wp2_with fail
        refine (C7.out w7 hc7).mono ?_
        rintro e w8 ⟨rfl, hb8⟩
        have hc8 := Nb hc7 hb8
        go_wp2_with fail
        refine (C8.out w8 hc8).mono ?_
        rintro e w9 ⟨rfl, hb9⟩
        have hc9 := Nb hc8 hb9
        go_wp2_with fail
        refine (C9.out w9 hc9).mono ?_
        rintro e w10 ⟨rfl, hb10⟩
        have hc10 := Nb hc9 hb10
        go_wp2_with fail
        refine (C10.out w10 hc10).mono ?_
        rintro e w11 ⟨rfl, hb11⟩
        have hc11 := Nb hc10 hb11
        go_wp2_with fail
        go_ret
        exact ⟨rfl, hc11⟩
      by_cases k10 : e10 = 0
      rotate_left
      · obtain ⟨n10, m10⟩ := nez k10
        clear M12
        subst k9
        go_enter Tryd.func10, Tryd.ntmps10
        go_wp2_with fail
        refine (C0.out W (Below.refl W.heap.size W)).mono ?_
        rintro e w1 ⟨rfl, hb1⟩
        have hc1 := Nb (Below.refl W.heap.size W) hb1
        go_wp2_with fail
        refine (C1.out w1 hc1).mono ?_
        rintro e w2 ⟨rfl, hb2⟩
        have hc2 := Nb hc1 hb2
        go_wp2_with fail
        refine (C2.out w2 hc2).mono ?_
        rintro e w3 ⟨rfl, hb3⟩
        have hc3 := Nb hc2 hb3
        go_wp2_with fail
        refine (C3.out w3 hc3).mono ?_
        rintro e w4 ⟨rfl, hb4⟩
        have hc4 := Nb hc3 hb4
        go_wp2_with fail
        refine (C4.out w4 hc4).mono ?_
        rintro e w5 ⟨rfl, hb5⟩
        have hc5 := Nb hc4 hb5
        go_wp2_with fail
        refine (C5.out w5 hc5).mono ?_
        rintro e w6 ⟨rfl, hb6⟩
        have hc6 := Nb hc5 hb6
        go_wp2_with fail
        refine (C6.out w6 hc6).mono ?_
        rintro e w7 ⟨rfl, hb7⟩
        have hc7 := Nb hc6 hb7
        go_wp2_with fail
        refine (C7.out w7 hc7).mono ?_
        rintro e w8 ⟨rfl, hb8⟩
        have hc8 := Nb hc7 hb8
        go_wp2_with fail
        refine (C8.out w8 hc8).mono ?_
        rintro e w9 ⟨rfl, hb9⟩
        have hc9 := Nb hc8 hb9
        go_wp2_with fail
        refine (C9.out w9 hc9).mono ?_
        rintro e w10 ⟨rfl, hb10⟩
        have hc10 := Nb hc9 hb10
        go_wp2_with fail
        refine (C10.out w10 hc10).mono ?_
        rintro e w11 ⟨rfl, hb11⟩
        have hc11 := Nb hc10 hb11
        go_wp2_with fail
        go_ret
        exact ⟨rfl, hc11⟩
      obtain ⟨rfl, rfl, rfl⟩ := M12 k9 k10
      clear M12
      subst k9
      subst k10
      go_enter Tryd.func10, Tryd.ntmps10
      go_wp2_with fail
      refine (C0.out W (Below.refl W.heap.size W)).mono ?_
      rintro e w1 ⟨rfl, hb1⟩
      have hc1 := Nb (Below.refl W.heap.size W) hb1
      go_wp2_with fail
      refine (C1.out w1 hc1).mono ?_
      rintro e w2 ⟨rfl, hb2⟩
      have hc2 := Nb hc1 hb2
      go_wp2_with fail
      refine (C2.out w2 hc2).mono ?_
      rintro e w3 ⟨rfl, hb3⟩
      have hc3 := Nb hc2 hb3
      go_wp2_with fail
      refine (C3.out w3 hc3).mono ?_
      rintro e w4 ⟨rfl, hb4⟩
      have hc4 := Nb hc3 hb4
      go_wp2_with fail
      refine (C4.out w4 hc4).mono ?_
      rintro e w5 ⟨rfl, hb5⟩
      have hc5 := Nb hc4 hb5
      go_wp2_with fail
      refine (C5.out w5 hc5).mono ?_
      rintro e w6 ⟨rfl, hb6⟩
      have hc6 := Nb hc5 hb6
      go_wp2_with fail
      refine (C6.out w6 hc6).mono ?_
      rintro e w7 ⟨rfl, hb7⟩
      have hc7 := Nb hc6 hb7
      go_wp2_with fail
      refine (C7.out w7 hc7).mono ?_
      rintro e w8 ⟨rfl, hb8⟩
      have hc8 := Nb hc7 hb8
      go_wp2_with fail
      refine (C8.out w8 hc8).mono ?_
      rintro e w9 ⟨rfl, hb9⟩
      have hc9 := Nb hc8 hb9
      go_wp2_with fail
      refine (C9.out w9 hc9).mono ?_
      rintro e w10 ⟨rfl, hb10⟩
      have hc10 := Nb hc9 hb10
      go_wp2_with fail
      refine (C10.out w10 hc10).mono ?_
      rintro e w11 ⟨rfl, hb11⟩
      have hc11 := Nb hc10 hb11
      go_wp2_with fail
      refine (C11.out w11 hc11).mono ?_
      rintro e w12 ⟨rfl, hb12⟩
      have hc12 := Nb hc11 hb12
      go_wp2_with fail
      refine (C12.out w12 hc12).mono ?_
      rintro e w13 ⟨rfl, hb13⟩
      have hc13 := Nb hc12 hb13
      go_wp2_with fail
      go_ret
      exact ⟨rfl, hc13⟩
  · rw [decide_eq_false ka] at za
    have kg : nv g ≠ 0 := fun h => ka (MG.1 h).1
    rw [decide_eq_false kg] at zg
    have zg2 : g.toList ≠ [48] := by simpa using zg
    have za2 : a.toList ≠ [48] := by simpa using za
    obtain ⟨rfl, rfl, rfl, rfl, rfl, rfl⟩ := M8 kg
    clear MG M8 G48 ka kg zb
    by_cases k9 : e9 = 0
    rotate_left
    · obtain ⟨n9, m9⟩ := nez k9
      clear M12
      go_enter Tryd.func10, Tryd.ntmps10
      go_wp2_with fail
      refine (C0.out W (Below.refl W.heap.size W)).mono ?_
      rintro e w1 ⟨rfl, hb1⟩
      have hc1 := Nb (Below.refl W.heap.size W) hb1
      go_wp2_with fail
      refine (C1.out w1 hc1).mono ?_
      rintro e w2 ⟨rfl, hb2⟩
      have hc2 := Nb hc1 hb2
      go_wp2_with fail
      refine (C2.out w2 hc2).mono ?_
      rintro e w3 ⟨rfl, hb3⟩
      have hc3 := Nb hc2 hb3
      go_wp2_with fail
      refine (C3.out w3 hc3).mono ?_
      rintro e w4 ⟨rfl, hb4⟩
      have hc4 := Nb hc3 hb4
      go_wp2_with fail
      refine (C4.out w4 hc4).mono ?_
      rintro e w5 ⟨rfl, hb5⟩
      have hc5 := Nb hc4 hb5
      go_wp2_with fail
      refine (C5.out w5 hc5).mono ?_
      rintro e w6 ⟨rfl, hb6⟩
      have hc6 := Nb hc5 hb6
      go_wp2_with fail
      refine (C6.out w6 hc6).mono ?_
      rintro e w7 ⟨rfl, hb7⟩
      have hc7 := Nb hc6 hb7
      go_wp2_with fail
      refine (C7.out w7 hc7).mono ?_
      rintro e w8 ⟨rfl, hb8⟩
      have hc8 := Nb hc7 hb8
      go_wp2_with fail
      refine (C8.out w8 hc8).mono ?_
      rintro e w9 ⟨rfl, hb9⟩
      have hc9 := Nb hc8 hb9
      go_wp2_with fail
      refine (C9.out w9 hc9).mono ?_
      rintro e w10 ⟨rfl, hb10⟩
      have hc10 := Nb hc9 hb10
      go_wp2_with fail
      refine (C10.out w10 hc10).mono ?_
      rintro e w11 ⟨rfl, hb11⟩
      have hc11 := Nb hc10 hb11
      go_wp2_with fail
      go_ret
      exact ⟨rfl, hc11⟩
    by_cases k10 : e10 = 0
    rotate_left
    · obtain ⟨n10, m10⟩ := nez k10
      clear M12
      subst k9
      go_enter Tryd.func10, Tryd.ntmps10
      go_wp2_with fail
      refine (C0.out W (Below.refl W.heap.size W)).mono ?_
      rintro e w1 ⟨rfl, hb1⟩
      have hc1 := Nb (Below.refl W.heap.size W) hb1
      go_wp2_with fail
      refine (C1.out w1 hc1).mono ?_
      rintro e w2 ⟨rfl, hb2⟩
      have hc2 := Nb hc1 hb2
      go_wp2_with fail
      refine (C2.out w2 hc2).mono ?_
      rintro e w3 ⟨rfl, hb3⟩
      have hc3 := Nb hc2 hb3
      go_wp2_with fail
      refine (C3.out w3 hc3).mono ?_
      rintro e w4 ⟨rfl, hb4⟩
      have hc4 := Nb hc3 hb4
      go_wp2_with fail
      refine (C4.out w4 hc4).mono ?_
      rintro e w5 ⟨rfl, hb5⟩
      have hc5 := Nb hc4 hb5
      go_wp2_with fail
      refine (C5.out w5 hc5).mono ?_
      rintro e w6 ⟨rfl, hb6⟩
      have hc6 := Nb hc5 hb6
      go_wp2_with fail
      refine (C6.out w6 hc6).mono ?_
      rintro e w7 ⟨rfl, hb7⟩
      have hc7 := Nb hc6 hb7
      go_wp2_with fail
      refine (C7.out w7 hc7).mono ?_
      rintro e w8 ⟨rfl, hb8⟩
      have hc8 := Nb hc7 hb8
      go_wp2_with fail
      refine (C8.out w8 hc8).mono ?_
      rintro e w9 ⟨rfl, hb9⟩
      have hc9 := Nb hc8 hb9
      go_wp2_with fail
      refine (C9.out w9 hc9).mono ?_
      rintro e w10 ⟨rfl, hb10⟩
      have hc10 := Nb hc9 hb10
      go_wp2_with fail
      refine (C10.out w10 hc10).mono ?_
      rintro e w11 ⟨rfl, hb11⟩
      have hc11 := Nb hc10 hb11
      go_wp2_with fail
      go_ret
      exact ⟨rfl, hc11⟩
    obtain ⟨rfl, rfl, rfl⟩ := M12 k9 k10
    clear M12
    subst k9
    subst k10
    go_enter Tryd.func10, Tryd.ntmps10
    go_wp2_with fail
    refine (C0.out W (Below.refl W.heap.size W)).mono ?_
    rintro e w1 ⟨rfl, hb1⟩
    have hc1 := Nb (Below.refl W.heap.size W) hb1
    go_wp2_with fail
    refine (C1.out w1 hc1).mono ?_
    rintro e w2 ⟨rfl, hb2⟩
    have hc2 := Nb hc1 hb2
    go_wp2_with fail
    refine (C2.out w2 hc2).mono ?_
    rintro e w3 ⟨rfl, hb3⟩
    have hc3 := Nb hc2 hb3
    go_wp2_with fail
    refine (C3.out w3 hc3).mono ?_
    rintro e w4 ⟨rfl, hb4⟩
    have hc4 := Nb hc3 hb4
    go_wp2_with fail
    refine (C4.out w4 hc4).mono ?_
    rintro e w5 ⟨rfl, hb5⟩
    have hc5 := Nb hc4 hb5
    go_wp2_with fail
    refine (C5.out w5 hc5).mono ?_
    rintro e w6 ⟨rfl, hb6⟩
    have hc6 := Nb hc5 hb6
    go_wp2_with fail
    refine (C6.out w6 hc6).mono ?_
    rintro e w7 ⟨rfl, hb7⟩
    have hc7 := Nb hc6 hb7
    go_wp2_with fail
    refine (C7.out w7 hc7).mono ?_
    rintro e w8 ⟨rfl, hb8⟩
    have hc8 := Nb hc7 hb8
    go_wp2_with fail
    refine (C8.out w8 hc8).mono ?_
    rintro e w9 ⟨rfl, hb9⟩
    have hc9 := Nb hc8 hb9
    go_wp2_with fail
    refine (C9.out w9 hc9).mono ?_
    rintro e w10 ⟨rfl, hb10⟩
    have hc10 := Nb hc9 hb10
    go_wp2_with fail
    refine (C10.out w10 hc10).mono ?_
    rintro e w11 ⟨rfl, hb11⟩
    have hc11 := Nb hc10 hb11
    go_wp2_with fail
    refine (C11.out w11 hc11).mono ?_
    rintro e w12 ⟨rfl, hb12⟩
    have hc12 := Nb hc11 hb12
    go_wp2_with fail
    refine (C12.out w12 hc12).mono ?_
    rintro e w13 ⟨rfl, hb13⟩
    have hc13 := Nb hc12 hb13
    go_wp2_with fail
    go_ret
    exact ⟨rfl, hc13⟩
end Go.Proofs.YtabebggkfjddbaaDoor
