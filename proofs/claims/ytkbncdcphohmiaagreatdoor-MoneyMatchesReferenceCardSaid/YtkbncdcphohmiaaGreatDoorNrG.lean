/- The reference of layer 4: the functions that the laws call. Printed by gen/nrg.py. -/
import Derived.Test.YtkbncdcphohmiaaGreatDoorNrF
import Derived.Test.YtkbncdcphohmiaaGreatDoorNrE
import Derived.Test.YtkbncdcphohmiaaGreatDoorNaIM
set_option linter.unusedSimpArgs false
set_option linter.unusedVariables false
namespace Go.Proofs.YtkbncdcphohmiaaGreatDoor
open Go.RowKit
set_option maxRecDepth 100000

theorem rlimited (R : Nat) (w : World) :
    Calls Tryz.prog 103 #[.string (tx R)] w fun e w' => e = .returned (.tuple #[.string (sN R), .int .i64 (eN R)]) ∧ w = w' := by
  have h300 := tx_le300 R
  unfold sN eN
  by_cases h : R < LIM
  · rw [if_pos h, if_pos h]
    have h1 : ((tx R).size : Int) ≤ 300 := by have := h300.2 h; omega
    clear h300 h
    generalize tx R = s at *
    go_enter Tryz.func103, Tryz.ntmps103
    go_wp2_with fail
    go_ret2
    exact ⟨rfl, rfl⟩
  · rw [if_neg h, if_neg h]
    have h1 : ¬ ((tx R).size : Int) ≤ 300 := by intro k; exact h (h300.1 (by omega))
    clear h300 h
    generalize tx R = s at *
    go_enter Tryz.func103, Tryz.ntmps103
    go_wp2_with fail
    go_ret2
    exact ⟨rfl, rfl⟩

theorem rgcd_lim {m n : Nat} (hm : m < LIM) (hn : n < LIM) : Nat.gcd m n < LIM := by
  rcases Nat.eq_zero_or_pos n with rfl | h
  · rwa [Nat.gcd_zero_right]
  · exact Nat.lt_of_le_of_lt (Nat.gcd_le_right m h) hn
theorem sz300 {m : Nat} (h : m < LIM) : (tx m).size ≤ 300 := (tx_le300 m).2 h

set_option maxHeartbeats 1000000 in
theorem radd_any (s t : ByteArray) (w : World) (hs : s.size ≤ 1000) (ht : t.size ≤ 1000) :
    Calls Tryz.prog 87 #[.string s, .string t] w fun e w' => e = .returned (.tuple #[.string ((opF (fun m n => m + n)) s t).1, .int .i64 ((opF (fun m n => m + n)) s t).2]) ∧ Below w.heap.size w w' := by
  have I1 := Lib.hid (fun w' => ris_any s w' hs)
  have I2 := Lib.hid (fun w' => ris_any t w' ht)
  unfold opF
  rcases Bool.eq_false_or_eq_true (isB s) with h1 | h1
  rotate_left
  · rw [h1] at I1 ⊢
    go_enter Tryz.func87, Tryz.ntmps87
    go_wp2_with fail
    refine (I1.out _).mono ?_
    rintro e w1 ⟨rfl, rfl⟩
    go_wp2_with fail
    go_ret2
    exact ⟨rfl, Below.refl _ _⟩
  rcases Bool.eq_false_or_eq_true (isB t) with h2 | h2
  rotate_left
  · rw [h1] at I1 ⊢
    rw [h2] at I2 ⊢
    go_enter Tryz.func87, Tryz.ntmps87
    go_wp2_with fail
    refine (I1.out _).mono ?_
    rintro e w1 ⟨rfl, rfl⟩
    go_wp2_with fail
    refine (I2.out _).mono ?_
    rintro e w1 ⟨rfl, rfl⟩
    go_wp2_with fail
    go_ret2
    exact ⟨rfl, Below.refl _ _⟩
  · rw [h1] at I1 ⊢
    rw [h2] at I2 ⊢
    obtain ⟨m, hm, rfl⟩ := isB_tx h1
    obtain ⟨n, hn, rfl⟩ := isB_tx h2
    rw [nv_tx, nv_tx, Bool.and_self, if_pos rfl]

    have P := Lib.hid (rplus_tx m n w (by have := sz300 hm; omega) (by have := sz300 hn; omega))
    have L := Lib.hid (rlimited (m + n))
    dsimp only
    generalize tx (m + n) = R at *
    generalize sN (m + n) = S at *
    generalize eN (m + n) = E at *
    clear hs ht h1 h2 hm hn
    go_enter Tryz.func87, Tryz.ntmps87
    go_wp2_with fail
    refine (I1.out _).mono ?_
    rintro e w1 ⟨rfl, rfl⟩
    go_wp2_with fail
    refine (I2.out _).mono ?_
    rintro e w1 ⟨rfl, rfl⟩
    go_wp2_with fail
    refine P.out.mono ?_
    rintro e w1 ⟨rfl, hb⟩
    go_wp2_with fail
    refine (L.out _).mono ?_
    rintro e w1 ⟨rfl, rfl⟩
    go_wp2_with fail
    go_ret2
    exact ⟨rfl, hb⟩

set_option maxHeartbeats 1000000 in
theorem rmul_any (s t : ByteArray) (w : World) (hs : s.size ≤ 1000) (ht : t.size ≤ 1000) :
    Calls Tryz.prog 75 #[.string s, .string t] w fun e w' => e = .returned (.tuple #[.string ((opF (fun m n => m * n)) s t).1, .int .i64 ((opF (fun m n => m * n)) s t).2]) ∧ Below w.heap.size w w' := by
  have I1 := Lib.hid (fun w' => ris_any s w' hs)
  have I2 := Lib.hid (fun w' => ris_any t w' ht)
  unfold opF
  rcases Bool.eq_false_or_eq_true (isB s) with h1 | h1
  rotate_left
  · rw [h1] at I1 ⊢
    go_enter Tryz.func75, Tryz.ntmps75
    go_wp2_with fail
    refine (I1.out _).mono ?_
    rintro e w1 ⟨rfl, rfl⟩
    go_wp2_with fail
    go_ret2
    exact ⟨rfl, Below.refl _ _⟩
  rcases Bool.eq_false_or_eq_true (isB t) with h2 | h2
  rotate_left
  · rw [h1] at I1 ⊢
    rw [h2] at I2 ⊢
    go_enter Tryz.func75, Tryz.ntmps75
    go_wp2_with fail
    refine (I1.out _).mono ?_
    rintro e w1 ⟨rfl, rfl⟩
    go_wp2_with fail
    refine (I2.out _).mono ?_
    rintro e w1 ⟨rfl, rfl⟩
    go_wp2_with fail
    go_ret2
    exact ⟨rfl, Below.refl _ _⟩
  · rw [h1] at I1 ⊢
    rw [h2] at I2 ⊢
    obtain ⟨m, hm, rfl⟩ := isB_tx h1
    obtain ⟨n, hn, rfl⟩ := isB_tx h2
    rw [nv_tx, nv_tx, Bool.and_self, if_pos rfl]

    have P := Lib.hid (rtimes_tx m n w (by have := sz300 hm; omega) (by have := sz300 hn; omega))
    have L := Lib.hid (rlimited (m * n))
    dsimp only
    generalize tx (m * n) = R at *
    generalize sN (m * n) = S at *
    generalize eN (m * n) = E at *
    clear hs ht h1 h2 hm hn
    go_enter Tryz.func75, Tryz.ntmps75
    go_wp2_with fail
    refine (I1.out _).mono ?_
    rintro e w1 ⟨rfl, rfl⟩
    go_wp2_with fail
    refine (I2.out _).mono ?_
    rintro e w1 ⟨rfl, rfl⟩
    go_wp2_with fail
    refine P.out.mono ?_
    rintro e w1 ⟨rfl, hb⟩
    go_wp2_with fail
    refine (L.out _).mono ?_
    rintro e w1 ⟨rfl, rfl⟩
    go_wp2_with fail
    go_ret2
    exact ⟨rfl, hb⟩

set_option maxHeartbeats 1000000 in
theorem rgcd_any (s t : ByteArray) (w : World) (hs : s.size ≤ 1000) (ht : t.size ≤ 1000) :
    Calls Tryz.prog 84 #[.string s, .string t] w fun e w' => e = .returned (.tuple #[.string ((opF Nat.gcd) s t).1, .int .i64 ((opF Nat.gcd) s t).2]) ∧ Below w.heap.size w w' := by
  have I1 := Lib.hid (fun w' => ris_any s w' hs)
  have I2 := Lib.hid (fun w' => ris_any t w' ht)
  unfold opF
  rcases Bool.eq_false_or_eq_true (isB s) with h1 | h1
  rotate_left
  · rw [h1] at I1 ⊢
    go_enter Tryz.func84, Tryz.ntmps84
    go_wp2_with fail
    refine (I1.out _).mono ?_
    rintro e w1 ⟨rfl, rfl⟩
    go_wp2_with fail
    go_ret2
    exact ⟨rfl, Below.refl _ _⟩
  rcases Bool.eq_false_or_eq_true (isB t) with h2 | h2
  rotate_left
  · rw [h1] at I1 ⊢
    rw [h2] at I2 ⊢
    go_enter Tryz.func84, Tryz.ntmps84
    go_wp2_with fail
    refine (I1.out _).mono ?_
    rintro e w1 ⟨rfl, rfl⟩
    go_wp2_with fail
    refine (I2.out _).mono ?_
    rintro e w1 ⟨rfl, rfl⟩
    go_wp2_with fail
    go_ret2
    exact ⟨rfl, Below.refl _ _⟩
  · rw [h1] at I1 ⊢
    rw [h2] at I2 ⊢
    obtain ⟨m, hm, rfl⟩ := isB_tx h1
    obtain ⟨n, hn, rfl⟩ := isB_tx h2
    rw [nv_tx, nv_tx, Bool.and_self, if_pos rfl]

    have P := Lib.hid (rcommon_tx m n w (by have := sz300 hm; omega) (by have := sz300 hn; omega))
    have hg := rgcd_lim hm hn
    dsimp only
    unfold sN eN
    rw [if_pos hg, if_pos hg]
    clear hg
    generalize tx (Nat.gcd m n) = R at *
    clear hs ht h1 h2 hm hn
    go_enter Tryz.func84, Tryz.ntmps84
    go_wp2_with fail
    refine (I1.out _).mono ?_
    rintro e w1 ⟨rfl, rfl⟩
    go_wp2_with fail
    refine (I2.out _).mono ?_
    rintro e w1 ⟨rfl, rfl⟩
    go_wp2_with fail
    refine P.out.mono ?_
    rintro e w1 ⟨rfl, hb⟩
    go_wp2_with fail
    go_ret2
    exact ⟨rfl, hb⟩

set_option maxHeartbeats 1000000 in
theorem rsub_any (s t : ByteArray) (w : World) (hs : s.size ≤ 1000) (ht : t.size ≤ 1000) :
    Calls Tryz.prog 88 #[.string s, .string t] w fun e w' => e = .returned (.tuple #[.string (subF s t).1, .int .i64 (subF s t).2]) ∧ Below w.heap.size w w' := by
  have I1 := Lib.hid (fun w' => ris_any s w' hs)
  have I2 := Lib.hid (fun w' => ris_any t w' ht)
  unfold subF
  rcases Bool.eq_false_or_eq_true (isB s) with h1 | h1
  rotate_left
  · rw [h1] at I1 ⊢
    go_enter Tryz.func88, Tryz.ntmps88
    go_wp2_with fail
    refine (I1.out _).mono ?_
    rintro e w1 ⟨rfl, rfl⟩
    go_wp2_with fail
    go_ret2
    exact ⟨rfl, Below.refl _ _⟩
  rcases Bool.eq_false_or_eq_true (isB t) with h2 | h2
  rotate_left
  · rw [h1] at I1 ⊢
    rw [h2] at I2 ⊢
    go_enter Tryz.func88, Tryz.ntmps88
    go_wp2_with fail
    refine (I1.out _).mono ?_
    rintro e w1 ⟨rfl, rfl⟩
    go_wp2_with fail
    refine (I2.out _).mono ?_
    rintro e w1 ⟨rfl, rfl⟩
    go_wp2_with fail
    go_ret2
    exact ⟨rfl, Below.refl _ _⟩
  · rw [h1] at I1 ⊢
    rw [h2] at I2 ⊢
    obtain ⟨m, hm, rfl⟩ := isB_tx h1
    obtain ⟨n, hn, rfl⟩ := isB_tx h2
    rw [nv_tx, nv_tx, Bool.and_self, if_pos rfl]

    have P := Lib.hid (fun v => order_tx m n v (by have := sz300 hm; omega) (by have := sz300 hn; omega))
    by_cases hl : m < n
    · rw [if_pos hl]
      rw [show cmpN m n = -1 by unfold cmpN; rw [if_pos hl]] at P
      clear hl
      clear hs ht h1 h2 hm hn
      go_enter Tryz.func88, Tryz.ntmps88
      go_wp2_with fail
      refine (I1.out _).mono ?_
      rintro e w1 ⟨rfl, rfl⟩
      go_wp2_with fail
      refine (I2.out _).mono ?_
      rintro e w1 ⟨rfl, rfl⟩
      go_wp2_with fail
      refine (P.out _).mono ?_
      rintro e w1 ⟨rfl, rfl⟩
      go_wp2_with fail
      go_ret2
      exact ⟨rfl, Below.refl _ _⟩
    · rw [if_neg hl]
      have hc := cmp_ge m n hl
      have Q := Lib.hid (rminus_tx m n w (by have := sz300 hm; omega) (by have := sz300 hn; omega) (by omega))
      generalize cmpN m n = c at *
      generalize tx (m - n) = R at *
      clear hl
      clear hs ht h1 h2 hm hn
      go_enter Tryz.func88, Tryz.ntmps88
      go_wp2_with fail
      refine (I1.out _).mono ?_
      rintro e w1 ⟨rfl, rfl⟩
      go_wp2_with fail
      refine (I2.out _).mono ?_
      rintro e w1 ⟨rfl, rfl⟩
      go_wp2_with fail
      refine (P.out _).mono ?_
      rintro e w1 ⟨rfl, rfl⟩
      go_wp2_with fail
      refine Q.out.mono ?_
      rintro e w1 ⟨rfl, hb⟩
      go_wp2_with fail
      go_ret2
      exact ⟨rfl, hb⟩

set_option maxHeartbeats 1000000 in
theorem rcompare_any (s t : ByteArray) (w : World) (hs : s.size ≤ 1000) (ht : t.size ≤ 1000) :
    Calls Tryz.prog 125 #[.string s, .string t] w fun e w' => e = .returned (.tuple #[.int .i64 (cmpF s t).1, .int .i64 (cmpF s t).2]) ∧ Below w.heap.size w w' := by
  have I1 := Lib.hid (fun w' => ris_any s w' hs)
  have I2 := Lib.hid (fun w' => ris_any t w' ht)
  unfold cmpF
  rcases Bool.eq_false_or_eq_true (isB s) with h1 | h1
  rotate_left
  · rw [h1] at I1 ⊢
    go_enter Tryz.func125, Tryz.ntmps125
    go_wp2_with fail
    refine (I1.out _).mono ?_
    rintro e w1 ⟨rfl, rfl⟩
    go_wp2_with fail
    go_ret2
    exact ⟨rfl, Below.refl _ _⟩
  rcases Bool.eq_false_or_eq_true (isB t) with h2 | h2
  rotate_left
  · rw [h1] at I1 ⊢
    rw [h2] at I2 ⊢
    go_enter Tryz.func125, Tryz.ntmps125
    go_wp2_with fail
    refine (I1.out _).mono ?_
    rintro e w1 ⟨rfl, rfl⟩
    go_wp2_with fail
    refine (I2.out _).mono ?_
    rintro e w1 ⟨rfl, rfl⟩
    go_wp2_with fail
    go_ret2
    exact ⟨rfl, Below.refl _ _⟩
  · rw [h1] at I1 ⊢
    rw [h2] at I2 ⊢
    obtain ⟨m, hm, rfl⟩ := isB_tx h1
    obtain ⟨n, hn, rfl⟩ := isB_tx h2
    rw [nv_tx, nv_tx, Bool.and_self, if_pos rfl]

    have P := Lib.hid (fun v => order_tx m n v (by have := sz300 hm; omega) (by have := sz300 hn; omega))
    generalize cmpN m n = R at *
    clear hs ht h1 h2 hm hn
    go_enter Tryz.func125, Tryz.ntmps125
    go_wp2_with fail
    refine (I1.out _).mono ?_
    rintro e w1 ⟨rfl, rfl⟩
    go_wp2_with fail
    refine (I2.out _).mono ?_
    rintro e w1 ⟨rfl, rfl⟩
    go_wp2_with fail
    refine (P.out _).mono ?_
    rintro e w1 ⟨rfl, rfl⟩
    go_wp2_with fail
    go_ret2
    exact ⟨rfl, Below.refl _ _⟩

set_option maxHeartbeats 1000000 in
theorem rdiv_any (s t : ByteArray) (w : World) (hs : s.size ≤ 1000) (ht : t.size ≤ 1000) :
    Calls Tryz.prog 85 #[.string s, .string t] w fun e w' => e = .returned (.tuple #[.string (divF s t).1, .string (divF s t).2.1, .int .i64 (divF s t).2.2]) ∧ Below w.heap.size w w' := by
  have I1 := Lib.hid (fun w' => ris_any s w' hs)
  have I2 := Lib.hid (fun w' => ris_any t w' ht)
  unfold divF
  rcases Bool.eq_false_or_eq_true (isB s) with h1 | h1
  rotate_left
  · rw [h1] at I1 ⊢
    go_enter Tryz.func85, Tryz.ntmps85
    go_wp2_with fail
    refine (I1.out _).mono ?_
    rintro e w1 ⟨rfl, rfl⟩
    go_wp2_with fail
    go_ret3
    exact ⟨rfl, Below.refl _ _⟩
  rcases Bool.eq_false_or_eq_true (isB t) with h2 | h2
  rotate_left
  · rw [h1] at I1 ⊢
    rw [h2] at I2 ⊢
    go_enter Tryz.func85, Tryz.ntmps85
    go_wp2_with fail
    refine (I1.out _).mono ?_
    rintro e w1 ⟨rfl, rfl⟩
    go_wp2_with fail
    refine (I2.out _).mono ?_
    rintro e w1 ⟨rfl, rfl⟩
    go_wp2_with fail
    go_ret3
    exact ⟨rfl, Below.refl _ _⟩
  · rw [h1] at I1 ⊢
    rw [h2] at I2 ⊢
    obtain ⟨m, hm, rfl⟩ := isB_tx h1
    obtain ⟨n, hn, rfl⟩ := isB_tx h2
    rw [nv_tx, nv_tx, Bool.and_self, if_pos rfl]

    by_cases h0 : n = 0
    · rw [if_pos h0]
      subst h0
      have hz : ((tx 0).toList == [48]) = true := by rw [tx_zero, ByteArray.toList_eq]; rfl
      generalize tx 0 = t at *
      clear hs ht h1 h2 hm hn
      go_enter Tryz.func85, Tryz.ntmps85
      go_wp2_with fail
      refine (I1.out _).mono ?_
      rintro e w1 ⟨rfl, rfl⟩
      go_wp2_with fail
      refine (I2.out _).mono ?_
      rintro e w1 ⟨rfl, rfl⟩
      go_wp2_with fail
      go_ret3
      exact ⟨rfl, Below.refl _ _⟩
    · rw [if_neg h0]
      have hz : ((tx n).toList == [48]) = false := ne48 (fun e => h0 (tx_inj (e.trans tx_zero.symm)))
      have Q := Lib.hid (rover_tx m n w (by have := sz300 hm; omega) (by have := sz300 hn; omega) (by omega))
      generalize tx (m / n) = R at *
      generalize tx (m % n) = T at *
      clear h0
      clear hs ht h1 h2 hm hn
      go_enter Tryz.func85, Tryz.ntmps85
      go_wp2_with fail
      refine (I1.out _).mono ?_
      rintro e w1 ⟨rfl, rfl⟩
      go_wp2_with fail
      refine (I2.out _).mono ?_
      rintro e w1 ⟨rfl, rfl⟩
      go_wp2_with fail
      refine Q.out.mono ?_
      rintro e w1 ⟨rfl, hb⟩
      go_wp2_with fail
      go_ret3
      exact ⟨rfl, hb⟩


theorem nine_tx : tx 9223372036854775807 = ⟨#[57, 50, 50, 51, 51, 55, 50, 48, 51, 54, 56, 53, 52, 55, 55, 53, 56, 48, 55]⟩ :=
  tx_of [57, 50, 50, 51, 51, 55, 50, 48, 51, 54, 56, 53, 52, 55, 55, 53, 56, 48, 55] 9223372036854775807 (by decide) (by decide)
theorem val_take_le (l : List UInt8) (hall : l.all Na.isD = true) (k : Nat) (hk : k ≤ l.length) : Na.val (l.take k) ≤ Na.val l := by
  have e : l = l.take k ++ l.drop k := (List.take_append_drop k l).symm
  have h := Na.val_append (l.take k) (l.drop k)
  rw [List.take_append_drop] at h
  rw [h]
  have : Na.val (l.take k) * 1 ≤ Na.val (l.take k) * 10 ^ (l.drop k).length := Nat.mul_le_mul_left _ (Nat.pow_pos (by omega))
  omega

set_option maxHeartbeats 1000000 in
theorem rint_any (s : ByteArray) (w : World) (hs : s.size ≤ 1000) :
    Calls Tryz.prog 86 #[.string s] w fun e w' => e = .returned (.tuple #[.int .i64 (intF s).1, .int .i64 (intF s).2]) ∧ Below w.heap.size w w' := by
  have I1 := Lib.hid (fun w' => ris_any s w' hs)
  unfold intF
  rcases Bool.eq_false_or_eq_true (isB s) with h1 | h1
  rotate_left
  · rw [h1] at I1 ⊢
    go_enter Tryz.func86, Tryz.ntmps86
    go_wp2_with fail
    refine (I1.out _).mono ?_
    rintro e w1 ⟨rfl, rfl⟩
    go_wp2_with fail
    go_ret2
    exact ⟨rfl, Below.refl _ _⟩
  · rw [h1] at I1 ⊢
    obtain ⟨m, hm, rfl⟩ := isB_tx h1
    rw [nv_tx, if_pos rfl]
    have P := Lib.hid (fun v => order_tx m 9223372036854775807 v (by have := sz300 hm; omega) (by rw [nine_tx]; decide))
    rw [nine_tx] at P
    by_cases hl : m < 9223372036854775808
    · rw [if_pos hl]
      have hc : cmpN m 9223372036854775807 ≤ 0 := by unfold cmpN; split <;> (try split) <;> omega
      have hall := tx_all m
      have hlen : (tx m).data.toList.length = (tx m).size := by simp
      have HD := Lib.hid (fun k h => dig_at (tx m) k h hall)
      have HT := Lib.hid (val_take1 (tx m).data.toList)
      have HB := Lib.hid (fun k hk => val_take_le (tx m).data.toList hall k hk)
      have HE := Lib.hid (show Na.val ((tx m).data.toList.take (tx m).size) = m by rw [← hlen, List.take_length, tx_val])
      have HV := Lib.hid (show Na.val (tx m).data.toList = m from tx_val m)
      rw [hlen] at HT HB
      generalize cmpN m 9223372036854775807 = c at *
      generalize (tx m).data.toList = l at *
      generalize tx m = s at *
      clear hall hlen h1 hm
      go_enter Tryz.func86, Tryz.ntmps86
      go_wp2_with fail
      refine (I1.out _).mono ?_
      rintro e w1 ⟨rfl, rfl⟩
      go_wp2_with fail
      refine (P.out _).mono ?_
      rintro e w1 ⟨rfl, rfl⟩
      go_wp2_with fail
      go_loop [4, 5] (fun v i => ∃ k x : Nat, i = .int .i64 (k : Int) ∧ v = .int .i64 (x : Int) ∧ k ≤ s.size ∧ x < 9223372036854775808 ∧ Hid (x = Na.val (l.take k))) (fun _ i => s.size - (intOf i).toNat)
      case atStart => exact ⟨0, 0, by first | rfl | (congr 1), by first | rfl | (congr 1), by omega, by omega, Lib.hid (by simp [Na.val_nil])⟩
      case round =>
        obtain ⟨k, x, rfl, rfl, hk, hx, HX⟩ := hrel
        by_cases hlt : k < s.size
        · obtain ⟨d, hd, hsd, hdv⟩ := HD.out k hlt
          have e1 := HT.out k hlt
          have e2 := HB.out (k + 1) (by omega)
          rw [e1, ← HX.out, ← hdv, HV.out] at e2
          have HX2 : Hid (x * 10 + d = Na.val (l.take (k + 1))) := Lib.hid (by rw [e1, ← HX.out, ← hdv])
          have e3 : x * 10 + d < 9223372036854775808 := by omega
          clear e1 e2 HX hdv
          go_wp2
          exact ⟨⟨k + 1, x * 10 + d, by go_num, by go_num, by omega, e3, HX2⟩, by simp [intOf]; omega⟩
        · obtain rfl : k = s.size := by omega
          have HX2 : Hid (x = m) := Lib.hid (by rw [HX.out, HE.out])
          clear HX
          go_wp2
          go_ret2
          rw [HX2.out]
          exact ⟨rfl, Below.refl _ _⟩
    · rw [if_neg hl]
      rw [show cmpN m 9223372036854775807 = 1 by unfold cmpN; rw [if_neg (by omega), if_pos (by omega)]] at P
      generalize tx m = s at *
      clear hl h1 hm
      go_enter Tryz.func86, Tryz.ntmps86
      go_wp2_with fail
      refine (I1.out _).mono ?_
      rintro e w1 ⟨rfl, rfl⟩
      go_wp2_with fail
      refine (P.out _).mono ?_
      rintro e w1 ⟨rfl, rfl⟩
      go_wp2_with fail
      go_ret2
      exact ⟨rfl, Below.refl _ _⟩

theorem rof_neg (n : Int) (w : World) (h : n < 0) :
    Calls Tryz.prog 102 #[.int .i64 n] w fun e w' => e = .returned (.string ⟨#[]⟩) ∧ Below w.heap.size w w' := by
  go_enter Tryz.func102, Tryz.ntmps102
  go_wp2
  go_ret
  exact ⟨rfl, Below.refl _ _⟩
theorem rof_any (n : Nat) (w : World) (h : n ≤ 9223372036854775807) :
    Calls Tryz.prog 102 #[.int .i64 (n : Int)] w fun e w' => e = .returned (.string (tx n)) ∧ Below w.heap.size w w' := by
  have HI := Lib.hid (rdecimal_any n w (by omega))
  have h0 : ¬ (n : Int) < 0 := by omega
  go_enter Tryz.func102, Tryz.ntmps102
  go_wp2_with fail
  refine HI.out.mono ?_
  rintro e w1 ⟨rfl, rfl⟩
  go_wp2_with fail
  go_ret
  exact ⟨rfl, Below.refl _ _⟩
end Go.Proofs.YtkbncdcphohmiaaGreatDoor
