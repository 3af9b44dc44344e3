/- Package ratio: Compare, Floor and Of at all numbers. -/
import Derived.Test.YtkbncdcphohmiaaGreatDoorRaO
import Derived.Test.YtkbncdcphohmiaaGreatDoorRaPP
set_option linter.unusedSimpArgs false
set_option linter.unusedVariables false
namespace Go.Proofs.YtkbncdcphohmiaaGreatDoor
open Go.RowKit
open Ra (Fit)
set_option maxRecDepth 100000

theorem startB (w : World) (r1 r2 : R3) (w2 : World) (h : w2 = (w.alloc (ob r1)).alloc (ob r2)) :
    Below w.heap.size w w2 ∧ At w2 w.heap.size r1 ∧ At w2 (w.heap.size + 1) r2 := by
  obtain ⟨w1, e1⟩ : ∃ v, v = w.alloc (ob r1) := ⟨_, rfl⟩
  rw [← e1] at h
  have s1 : w1.heap.size = w.heap.size + 1 := by rw [e1]; exact size_al _ _
  have b1 : Below w.heap.size w w1 := by rw [e1]; exact al _ _
  have b2 : Below w1.heap.size w1 w2 := by rw [h]; exact al _ _
  have a1 : At w1 w.heap.size r1 := by rw [e1]; exact At.ob _ _
  have a2 : At w2 (w.heap.size + 1) r2 := by rw [h, ← s1]; exact At.ob _ _
  exact ⟨Nb b1 b2, a1.bt b2, a2⟩
def sgn (q : Rat) : Int := if q = 0 then 0 else if q < 0 then -1 else 1
def cmpQ (a b : R3) : Int × Int :=
  if (vR a && vR b) = false then (0, 1)
  else if (lg a || lg b) = true then (0, 2)
  else (sgn (qv a - qv b), 0)

set_option maxHeartbeats 1000000 in
theorem cmp_err (a b : R3) (s3 : Bool) (n3 d3 : ByteArray) (n : Int) (he : n ≠ 0) (w : World) (hz : Zr w.heap.size w)
    (O : Hid (∀ v, Below w.heap.size w v → Calls Tryz.prog 61 #[oV 64 62, rV a, rV b] v fun e w' => e = .returned (.tuple #[rV (s3, n3, d3), .int .i64 n]) ∧ Below v.heap.size v w')) :
    Calls Tryz.prog 31 #[rV a, rV b] w fun e w' => e = .returned (.tuple #[.int .i64 0, .int .i64 n]) ∧ Below w.heap.size w w' := by
  obtain ⟨s1, n1, d1⟩ := a
  obtain ⟨s2, n2, d2⟩ := b
  have he2 := (nez he).1
  obtain ⟨hb2, A2, D2⟩ := startB w (s1, n1, d1) (s2, n2, d2) _ rfl
  unfold ob at hb2 A2 D2
  unfold rV oV at O
  unfold rV
  simp only at O hb2 A2 D2 ⊢
  obtain ⟨a0, a1, a2, _, _, _⟩ := A2.cells
  obtain ⟨b0, b1, b2, _, _, _⟩ := D2.cells
  go_enter Tryz.func31, Tryz.ntmps31
  go_wp2_with fail
  refine (O.out _ hb2).mono ?_
  rintro e w4 ⟨rfl, g4⟩
  have hb4 := Nb hb2 g4
  have X5 := At.new w4 s3 n3 d3
  have hb5 := Nb hb4 (al w4 (.cells #[.bool s3, .string n3, .string d3] 32))
  clear a0 a1 a2 b0 b1 b2 A2 D2 hb2
  obtain ⟨x0, x1, x2, _, _, _⟩ := X5.cells
  obtain ⟨z0, z1, z2, _⟩ := hz.bt hb5
  go_wp2_with fail
  go_ret2
  exact ⟨rfl, hb5⟩

set_option maxHeartbeats 1000000 in
theorem cmp_zero (a b : R3) (w : World) (hz : Zr w.heap.size w)
    (O : Hid (∀ v, Below w.heap.size w v → Calls Tryz.prog 61 #[oV 64 62, rV a, rV b] v fun e w' => e = .returned (.tuple #[rV (false, ⟨#[48]⟩, ⟨#[49]⟩), .int .i64 0]) ∧ Below v.heap.size v w')) :
    Calls Tryz.prog 31 #[rV a, rV b] w fun e w' => e = .returned (.tuple #[.int .i64 0, .int .i64 0]) ∧ Below w.heap.size w w' := by
  obtain ⟨s1, n1, d1⟩ := a
  obtain ⟨s2, n2, d2⟩ := b
  obtain ⟨hb2, A2, D2⟩ := startB w (s1, n1, d1) (s2, n2, d2) _ rfl
  unfold ob at hb2 A2 D2
  unfold rV oV at O
  unfold rV
  simp only at O hb2 A2 D2 ⊢
  obtain ⟨a0, a1, a2, _, _, _⟩ := A2.cells
  obtain ⟨b0, b1, b2, _, _, _⟩ := D2.cells
  go_enter Tryz.func31, Tryz.ntmps31
  go_wp2_with fail
  refine (O.out _ hb2).mono ?_
  rintro e w4 ⟨rfl, g4⟩
  have hb4 := Nb hb2 g4
  have X5 := At.new w4 false ⟨#[48]⟩ ⟨#[49]⟩
  have hb5 := Nb hb4 (al w4 (.cells #[.bool false, .string ⟨#[48]⟩, .string ⟨#[49]⟩] 32))
  clear a0 a1 a2 b0 b1 b2 A2 D2 hb2
  obtain ⟨x0, x1, x2, _, _, _⟩ := X5.cells
  obtain ⟨z0, z1, z2, _⟩ := hz.bt hb5
  go_wp2_with fail
  go_ret2
  exact ⟨rfl, hb5⟩

set_option maxHeartbeats 1000000 in
theorem cmp_neg (a b : R3) (n3 d3 : ByteArray) (w : World) (hz : Zr w.heap.size w)
    (O : Hid (∀ v, Below w.heap.size w v → Calls Tryz.prog 61 #[oV 64 62, rV a, rV b] v fun e w' => e = .returned (.tuple #[rV (true, n3, d3), .int .i64 0]) ∧ Below v.heap.size v w')) :
    Calls Tryz.prog 31 #[rV a, rV b] w fun e w' => e = .returned (.tuple #[.int .i64 (-1), .int .i64 0]) ∧ Below w.heap.size w w' := by
  obtain ⟨s1, n1, d1⟩ := a
  obtain ⟨s2, n2, d2⟩ := b
  obtain ⟨hb2, A2, D2⟩ := startB w (s1, n1, d1) (s2, n2, d2) _ rfl
  unfold ob at hb2 A2 D2
  unfold rV oV at O
  unfold rV
  simp only at O hb2 A2 D2 ⊢
  obtain ⟨a0, a1, a2, _, _, _⟩ := A2.cells
  obtain ⟨b0, b1, b2, _, _, _⟩ := D2.cells
  go_enter Tryz.func31, Tryz.ntmps31
  go_wp2_with fail
  refine (O.out _ hb2).mono ?_
  rintro e w4 ⟨rfl, g4⟩
  have hb4 := Nb hb2 g4
  have X5 := At.new w4 true n3 d3
  have hb5 := Nb hb4 (al w4 (.cells #[.bool true, .string n3, .string d3] 32))
  clear a0 a1 a2 b0 b1 b2 A2 D2 hb2
  obtain ⟨x0, x1, x2, _, _, _⟩ := X5.cells
  obtain ⟨z0, z1, z2, _⟩ := hz.bt hb5
  go_wp2_with fail
  go_ret2
  exact ⟨rfl, hb5⟩

set_option maxHeartbeats 1000000 in
theorem cmp_pos (a b : R3) (n3 d3 : ByteArray) (h48 : (n3.toList == [48]) = false) (w : World) (hz : Zr w.heap.size w)
    (O : Hid (∀ v, Below w.heap.size w v → Calls Tryz.prog 61 #[oV 64 62, rV a, rV b] v fun e w' => e = .returned (.tuple #[rV (false, n3, d3), .int .i64 0]) ∧ Below v.heap.size v w')) :
    Calls Tryz.prog 31 #[rV a, rV b] w fun e w' => e = .returned (.tuple #[.int .i64 1, .int .i64 0]) ∧ Below w.heap.size w w' := by
  obtain ⟨s1, n1, d1⟩ := a
  obtain ⟨s2, n2, d2⟩ := b
  obtain ⟨hb2, A2, D2⟩ := startB w (s1, n1, d1) (s2, n2, d2) _ rfl
  unfold ob at hb2 A2 D2
  unfold rV oV at O
  unfold rV
  simp only at O hb2 A2 D2 ⊢
  obtain ⟨a0, a1, a2, _, _, _⟩ := A2.cells
  obtain ⟨b0, b1, b2, _, _, _⟩ := D2.cells
  go_enter Tryz.func31, Tryz.ntmps31
  go_wp2_with fail
  refine (O.out _ hb2).mono ?_
  rintro e w4 ⟨rfl, g4⟩
  have hb4 := Nb hb2 g4
  have X5 := At.new w4 false n3 d3
  have hb5 := Nb hb4 (al w4 (.cells #[.bool false, .string n3, .string d3] 32))
  clear a0 a1 a2 b0 b1 b2 A2 D2 hb2
  obtain ⟨x0, x1, x2, _, _, _⟩ := X5.cells
  obtain ⟨z0, z1, z2, _⟩ := hz.bt hb5
  go_wp2_with fail
  go_ret2
  exact ⟨rfl, hb5⟩

theorem sgn_sumT (p q : Rat) (h : p ≠ q) : (sumT p (-q)).1 = decide (p - q < 0) ∧ (sumT p (-q)).2.1 ≠ 0 := by
  obtain ⟨h1, h2⟩ := sumT_mk p (-q)
  rw [← Rat.sub_eq_add_neg] at h1
  have hN : (sumT p (-q)).2.1 ≠ 0 := by
    intro e
    have := (Ra.mk_zero (sumT p (-q)).1 (sumT p (-q)).2.1 (sumT p (-q)).2.2 h2).2 e
    rw [h1] at this
    apply h
    grind
  refine ⟨?_, hN⟩
  have := Ra.mk_neg (sumT p (-q)).1 (sumT p (-q)).2.1 (sumT p (-q)).2.2 h2
  rw [h1] at this
  cases hs : (sumT p (-q)).1
  · symm
    apply decide_eq_false
    intro hl
    have := (this.1 hl).1
    rw [hs] at this
    cases this
  · symm
    exact decide_eq_true (this.2 ⟨hs, hN⟩)

theorem opCompare (a b : R3) (w : World) (hP : Pw w.heap.size w) (ha : a.2.1.size ≤ maxLen ∧ a.2.2.size ≤ maxLen) (hb : b.2.1.size ≤ maxLen ∧ b.2.2.size ≤ maxLen) :
    Calls Tryz.prog 31 #[rV a, rV b] w fun e w' => e = .returned (.tuple #[.int .i64 (cmpQ a b).1, .int .i64 (cmpQ a b).2]) ∧ Below w.heap.size w w' := by
  unfold cmpQ
  by_cases hv : (vR a && vR b) = false
  · rw [if_pos hv]
    exact cmp_err a b _ _ _ 1 (by omega) w hP.2 (Lib.hid (fun v h => of_bad _ _ a b v (hP.bt h) ha hb hv))
  · rw [if_neg hv]
    have hv : vR a = true ∧ vR b = true := by simpa using hv
    obtain ⟨p, hp, rfl⟩ := vR_ex hv.1
    obtain ⟨q, hq, rfl⟩ := vR_ex hv.2
    rw [qv_rf, qv_rf]
    have O := fun v (h : Below w.heap.size w v) => of_sub p q v (hP.bt h) hp hq
    cases hl : (lg (rf p) || lg (rf q))
    · rw [if_neg (by simp)]
      simp only [hl, limT, Bool.false_eq_true, if_false] at O
      dsimp only
      unfold sgn
      by_cases h0 : p = q
      · subst h0
        rw [if_pos (by grind)]
        have : sumR p (-p) = (false, ⟨#[48]⟩, ⟨#[49]⟩) := by
          unfold sumR sumT
          rw [if_pos (by grind), tx_zero, tx_one]
        rw [this] at O
        exact cmp_zero _ _ w hP.2 (Lib.hid O)
      · rw [if_neg (by grind)]
        obtain ⟨h1, h2⟩ := sgn_sumT p q h0
        have h48 : ((tx (sumT p (-q)).2.1).toList == [48]) = false := by simpa using tx_ne48 h2
        unfold sumR at O
        by_cases h3 : p - q < 0
        · rw [if_pos h3]
          rw [h1, decide_eq_true h3] at O
          exact cmp_neg _ _ _ _ w hP.2 (Lib.hid O)
        · rw [if_neg h3]
          rw [h1, decide_eq_false h3] at O
          exact cmp_pos _ _ _ _ h48 w hP.2 (Lib.hid O)
    · rw [if_pos rfl]
      simp only [hl, limT, if_true] at O
      exact cmp_err _ _ _ _ _ 2 (by omega) w hP.2 (Lib.hid O)

theorem floor_no (a : R3) (w : World)
    (V : Hid (∀ v, Below w.heap.size w v → Calls Tryz.prog 29 #[rV a] v fun e w' => e = .returned (.bool false) ∧ Below v.heap.size v w')) :
    Calls Tryz.prog 48 #[rV a] w fun e w' => e = .returned (.tuple #[.int .i64 0, .int .i64 1]) ∧ Below w.heap.size w w' := by
  obtain ⟨s, n, d⟩ := a
  have hb0 := al w (.cells #[.bool s, .string n, .string d] 32)
  have A0 := At.new w s n d
  unfold rV at V ⊢
  simp only at V ⊢
  obtain ⟨a0, a1, a2, _, _, _⟩ := A0.cells
  go_enter Tryz.func48, Tryz.ntmps48
  go_wp2_with fail
  refine (V.out _ hb0).mono ?_
  rintro e w1 ⟨rfl, h1⟩
  go_wp2_with fail
  go_ret2
  exact ⟨rfl, Nb hb0 h1⟩

set_option maxHeartbeats 1000000 in
theorem floor_pos (n d m q r : ByteArray) (k : Int) (w : World)
    (V : Hid (∀ v, Below w.heap.size w v → Calls Tryz.prog 29 #[rV (false, n, d)] v fun e w' => e = .returned (.bool true) ∧ Below v.heap.size v w'))
    
    (D : Hid (∀ v, Below w.heap.size w v → Calls Tryz.prog 81 #[.string n, .string d] v fun e w' => e = .returned (.tuple #[.string q, .string r, .int .i64 0]) ∧ Below v.heap.size v w'))
    (I : Hid (∀ v, Below w.heap.size w v → Calls Tryz.prog 82 #[.string q] v fun e w' => e = .returned (.tuple #[.int .i64 k, .int .i64 0]) ∧ Below v.heap.size v w')) :
    Calls Tryz.prog 48 #[rV (false, n, d)] w fun e w' => e = .returned (.tuple #[.int .i64 k, .int .i64 0]) ∧ Below w.heap.size w w' := by
  have hb0 := al w (.cells #[.bool false, .string n, .string d] 32)
  have A0 := At.new w false n d
  unfold rV at V ⊢
  simp only at V ⊢
  obtain ⟨a0, a1, a2, _, _, _⟩ := A0.cells
  go_enter Tryz.func48, Tryz.ntmps48
  go_wp2_with fail
  refine (V.out _ hb0).mono ?_
  rintro e w1 ⟨rfl, h1⟩
  have hb1 := Nb hb0 h1
  have A1 := A0.bt h1
  clear a0 a1 a2 hb0 A0
  obtain ⟨a0, a1, a2, _, _, _⟩ := A1.cells
  go_wp2_with fail
  refine (D.out _ hb1).mono ?_
  rintro e w2 ⟨rfl, h2⟩
  have hb2 := Nb hb1 h2
  have A2 := A1.bt h2
  clear a0 a1 a2 hb1 A1
  obtain ⟨a0, a1, a2, _, _, _⟩ := A2.cells
  go_wp2_with fail
  refine (I.out _ hb2).mono ?_
  rintro e w3 ⟨rfl, h3⟩
  have hb3 := Nb hb2 h3
  have A3 := A2.bt h3
  clear a0 a1 a2 hb2 A2
  obtain ⟨a0, a1, a2, _, _, _⟩ := A3.cells
  go_wp2_with fail
  go_ret2
  exact ⟨rfl, hb3⟩

set_option maxHeartbeats 1000000 in
theorem floor_posbad (n d m q r : ByteArray) (k : Int) (e0 : Int) (he : e0 ≠ 0) (w : World)
    (V : Hid (∀ v, Below w.heap.size w v → Calls Tryz.prog 29 #[rV (false, n, d)] v fun e w' => e = .returned (.bool true) ∧ Below v.heap.size v w'))
    
    (D : Hid (∀ v, Below w.heap.size w v → Calls Tryz.prog 81 #[.string n, .string d] v fun e w' => e = .returned (.tuple #[.string q, .string r, .int .i64 0]) ∧ Below v.heap.size v w'))
    (I : Hid (∀ v, Below w.heap.size w v → Calls Tryz.prog 82 #[.string q] v fun e w' => e = .returned (.tuple #[.int .i64 k, .int .i64 e0]) ∧ Below v.heap.size v w')) :
    Calls Tryz.prog 48 #[rV (false, n, d)] w fun e w' => e = .returned (.tuple #[.int .i64 0, .int .i64 e0]) ∧ Below w.heap.size w w' := by
  have he2 := (nez he).1
  have hb0 := al w (.cells #[.bool false, .string n, .string d] 32)
  have A0 := At.new w false n d
  unfold rV at V ⊢
  simp only at V ⊢
  obtain ⟨a0, a1, a2, _, _, _⟩ := A0.cells
  go_enter Tryz.func48, Tryz.ntmps48
  go_wp2_with fail
  refine (V.out _ hb0).mono ?_
  rintro e w1 ⟨rfl, h1⟩
  have hb1 := Nb hb0 h1
  have A1 := A0.bt h1
  clear a0 a1 a2 hb0 A0
  obtain ⟨a0, a1, a2, _, _, _⟩ := A1.cells
  go_wp2_with fail
  refine (D.out _ hb1).mono ?_
  rintro e w2 ⟨rfl, h2⟩
  have hb2 := Nb hb1 h2
  have A2 := A1.bt h2
  clear a0 a1 a2 hb1 A1
  obtain ⟨a0, a1, a2, _, _, _⟩ := A2.cells
  go_wp2_with fail
  refine (I.out _ hb2).mono ?_
  rintro e w3 ⟨rfl, h3⟩
  have hb3 := Nb hb2 h3
  have A3 := A2.bt h3
  clear a0 a1 a2 hb2 A2
  obtain ⟨a0, a1, a2, _, _, _⟩ := A3.cells
  go_wp2_with fail
  go_ret2
  exact ⟨rfl, hb3⟩

set_option maxHeartbeats 1000000 in
theorem floor_neg (n d m q r : ByteArray) (k : Int) (hk : -9223372036854775808 ≤ -1 - k ∧ -1 - k ≤ 9223372036854775807) (w : World)
    (V : Hid (∀ v, Below w.heap.size w v → Calls Tryz.prog 29 #[rV (true, n, d)] v fun e w' => e = .returned (.bool true) ∧ Below v.heap.size v w'))
    (SB : Hid (∀ v, Below w.heap.size w v → Calls Tryz.prog 80 #[.string n, .string ⟨#[49]⟩] v fun e w' => e = .returned (.tuple #[.string m, .int .i64 0]) ∧ Below v.heap.size v w'))
    (D : Hid (∀ v, Below w.heap.size w v → Calls Tryz.prog 81 #[.string m, .string d] v fun e w' => e = .returned (.tuple #[.string q, .string r, .int .i64 0]) ∧ Below v.heap.size v w'))
    (I : Hid (∀ v, Below w.heap.size w v → Calls Tryz.prog 82 #[.string q] v fun e w' => e = .returned (.tuple #[.int .i64 k, .int .i64 0]) ∧ Below v.heap.size v w')) :
    Calls Tryz.prog 48 #[rV (true, n, d)] w fun e w' => e = .returned (.tuple #[.int .i64 (-1 - k), .int .i64 0]) ∧ Below w.heap.size w w' := by
  have hw : IntKind.i64.wrap (-1 - k) = -1 - k := by rw [IntKind.wrap_i64]; omega
  have hb0 := al w (.cells #[.bool true, .string n, .string d] 32)
  have A0 := At.new w true n d
  unfold rV at V ⊢
  simp only at V ⊢
  obtain ⟨a0, a1, a2, _, _, _⟩ := A0.cells
  go_enter Tryz.func48, Tryz.ntmps48
  go_wp2_with fail
  refine (V.out _ hb0).mono ?_
  rintro e w1 ⟨rfl, h1⟩
  have hb1 := Nb hb0 h1
  have A1 := A0.bt h1
  clear a0 a1 a2 hb0 A0
  obtain ⟨a0, a1, a2, _, _, _⟩ := A1.cells
  go_wp2_with fail
  refine (SB.out _ hb1).mono ?_
  rintro e w2 ⟨rfl, h2⟩
  have hb2 := Nb hb1 h2
  have A2 := A1.bt h2
  clear a0 a1 a2 hb1 A1
  obtain ⟨a0, a1, a2, _, _, _⟩ := A2.cells
  go_wp2_with fail
  refine (D.out _ hb2).mono ?_
  rintro e w3 ⟨rfl, h3⟩
  have hb3 := Nb hb2 h3
  have A3 := A2.bt h3
  clear a0 a1 a2 hb2 A2
  obtain ⟨a0, a1, a2, _, _, _⟩ := A3.cells
  go_wp2_with fail
  refine (I.out _ hb3).mono ?_
  rintro e w4 ⟨rfl, h4⟩
  have hb4 := Nb hb3 h4
  have A4 := A3.bt h4
  clear a0 a1 a2 hb3 A3
  obtain ⟨a0, a1, a2, _, _, _⟩ := A4.cells
  go_wp2_with fail
  go_ret2
  exact ⟨rfl, hb4⟩

set_option maxHeartbeats 1000000 in
theorem floor_negbad (n d m q r : ByteArray) (k : Int) (e0 : Int) (he : e0 ≠ 0) (w : World)
    (V : Hid (∀ v, Below w.heap.size w v → Calls Tryz.prog 29 #[rV (true, n, d)] v fun e w' => e = .returned (.bool true) ∧ Below v.heap.size v w'))
    (SB : Hid (∀ v, Below w.heap.size w v → Calls Tryz.prog 80 #[.string n, .string ⟨#[49]⟩] v fun e w' => e = .returned (.tuple #[.string m, .int .i64 0]) ∧ Below v.heap.size v w'))
    (D : Hid (∀ v, Below w.heap.size w v → Calls Tryz.prog 81 #[.string m, .string d] v fun e w' => e = .returned (.tuple #[.string q, .string r, .int .i64 0]) ∧ Below v.heap.size v w'))
    (I : Hid (∀ v, Below w.heap.size w v → Calls Tryz.prog 82 #[.string q] v fun e w' => e = .returned (.tuple #[.int .i64 k, .int .i64 e0]) ∧ Below v.heap.size v w')) :
    Calls Tryz.prog 48 #[rV (true, n, d)] w fun e w' => e = .returned (.tuple #[.int .i64 0, .int .i64 e0]) ∧ Below w.heap.size w w' := by
  have he2 := (nez he).1
  have hb0 := al w (.cells #[.bool true, .string n, .string d] 32)
  have A0 := At.new w true n d
  unfold rV at V ⊢
  simp only at V ⊢
  obtain ⟨a0, a1, a2, _, _, _⟩ := A0.cells
  go_enter Tryz.func48, Tryz.ntmps48
  go_wp2_with fail
  refine (V.out _ hb0).mono ?_
  rintro e w1 ⟨rfl, h1⟩
  have hb1 := Nb hb0 h1
  have A1 := A0.bt h1
  clear a0 a1 a2 hb0 A0
  obtain ⟨a0, a1, a2, _, _, _⟩ := A1.cells
  go_wp2_with fail
  refine (SB.out _ hb1).mono ?_
  rintro e w2 ⟨rfl, h2⟩
  have hb2 := Nb hb1 h2
  have A2 := A1.bt h2
  clear a0 a1 a2 hb1 A1
  obtain ⟨a0, a1, a2, _, _, _⟩ := A2.cells
  go_wp2_with fail
  refine (D.out _ hb2).mono ?_
  rintro e w3 ⟨rfl, h3⟩
  have hb3 := Nb hb2 h3
  have A3 := A2.bt h3
  clear a0 a1 a2 hb2 A2
  obtain ⟨a0, a1, a2, _, _, _⟩ := A3.cells
  go_wp2_with fail
  refine (I.out _ hb3).mono ?_
  rintro e w4 ⟨rfl, h4⟩
  have hb4 := Nb hb3 h4
  have A4 := A3.bt h4
  clear a0 a1 a2 hb3 A3
  obtain ⟨a0, a1, a2, _, _, _⟩ := A4.cells
  go_wp2_with fail
  go_ret2
  exact ⟨rfl, hb4⟩

def floorF (a : R3) : Int × Int := if vR a = false then (0, 1) else if -9223372036854775808 ≤ (qv a).floor ∧ (qv a).floor ≤ 9223372036854775807 then ((qv a).floor, 0) else (0, 10)

theorem floor_nonneg (q : Rat) (h : ¬ q < 0) : q.floor = ((q.num.natAbs / q.den : Nat) : Int) := by
  have h0 : 0 ≤ q.num := Rat.num_nonneg.2 (Rat.not_lt.1 h)
  rw [Rat.floor_def, Int.natCast_ediv]
  congr 1
  omega
theorem floor_neg' (q : Rat) (h : q < 0) : q.floor = -1 - (((q.num.natAbs - 1) / q.den : Nat) : Int) ∧ 1 ≤ q.num.natAbs := by
  have h0 : q.num < 0 := by
    have : ¬ 0 ≤ q.num := fun k => (Rat.not_lt.2 (Rat.num_nonneg.1 k)) h
    omega
  refine ⟨?_, by omega⟩
  have h1 : q.num = Int.negSucc (q.num.natAbs - 1) := by omega
  have hd : 0 < (q.den : Int) := by have := q.den_nz; omega
  have h2 := Int.negSucc_ediv (q.num.natAbs - 1) hd
  have h3 : ((q.num.natAbs - 1 : Nat) : Int).ediv q.den = (((q.num.natAbs - 1) / q.den : Nat) : Int) := rfl
  rw [← h1, h3] at h2
  rw [Rat.floor_def, h2]
  generalize (q.num.natAbs - 1) / q.den = k
  omega

theorem opFloor (a : R3) (w : World) (hP : Pw w.heap.size w) (ha : a.2.1.size ≤ maxLen ∧ a.2.2.size ≤ maxLen) :
    Calls Tryz.prog 48 #[rV a] w fun e w' => e = .returned (.tuple #[.int .i64 (floorF a).1, .int .i64 (floorF a).2]) ∧ Below w.heap.size w w' := by
  have V := Lib.hid (fun v (h : Below w.heap.size w v) => valid_any a v (hP.bt h) ha.1 ha.2)
  unfold floorF
  cases hv : vR a
  · rw [hv] at V
    rw [if_pos rfl]
    exact floor_no a w V
  · rw [hv] at V
    rw [if_neg (by simp)]
    obtain ⟨q, hq, rfl⟩ := vR_ex hv
    rw [qv_rf]
    have I := fun (m : Nat) (hm : m < LIM) => Lib.hid (fun v (h : Below w.heap.size w v) => integerF (tx m) v (tx_len hm) (hP.bt h).1)
    have D := fun (m : Nat) (hm : m < LIM) => Lib.hid (fun v (h : Below w.heap.size w v) => div_tx m q.den v hm hq.2 q.den_nz (hP.bt h).1)
    unfold rf at V ⊢
    by_cases h0 : q < 0
    · obtain ⟨e1, e2⟩ := floor_neg' q h0
      rw [decide_eq_true h0] at V ⊢
      have l1 : q.num.natAbs - 1 < LIM := by have := hq.1; omega
      have l2 : (q.num.natAbs - 1) / q.den < LIM := Nat.lt_of_le_of_lt (Nat.div_le_self _ _) l1
      have SB := Lib.hid (fun v (h : Below w.heap.size w v) => sub_tx q.num.natAbs 1 v (hP.bt h).1 hq.1 (by have := hq.1; omega) e2)
      rw [tx_one] at SB
      have I := I _ l2
      unfold intF at I
      rw [isB_txl l2, if_pos rfl, nv_tx] at I
      rw [e1]
      by_cases h1 : (q.num.natAbs - 1) / q.den < 9223372036854775808
      · rw [if_pos h1] at I
        rw [if_pos (by generalize (q.num.natAbs - 1) / q.den = k at *; omega)]
        exact floor_neg _ _ _ _ _ _ (by generalize (q.num.natAbs - 1) / q.den = k at *; omega) w V SB (D _ l1) I
      · rw [if_neg h1] at I
        rw [if_neg (by generalize (q.num.natAbs - 1) / q.den = k at *; omega)]
        exact floor_negbad _ _ _ _ _ _ _ (show (10 : Int) ≠ 0 by omega) w V SB (D _ l1) I
    · have e1 := floor_nonneg q h0
      rw [decide_eq_false h0] at V ⊢
      have l2 : q.num.natAbs / q.den < LIM := Nat.lt_of_le_of_lt (Nat.div_le_self _ _) hq.1
      have I := I _ l2
      unfold intF at I
      rw [isB_txl l2, if_pos rfl, nv_tx] at I
      rw [e1]
      by_cases h1 : q.num.natAbs / q.den < 9223372036854775808
      · rw [if_pos h1] at I
        rw [if_pos (by generalize q.num.natAbs / q.den = k at *; omega)]
        exact floor_pos _ _ ⟨#[]⟩ _ _ _ w V (D _ hq.1) I
      · rw [if_neg h1] at I
        rw [if_neg (by generalize q.num.natAbs / q.den = k at *; omega)]
        exact floor_posbad _ _ ⟨#[]⟩ _ _ _ _ (show (10 : Int) ≠ 0 by omega) w V (D _ hq.1) I
end Go.Proofs.YtkbncdcphohmiaaGreatDoor

