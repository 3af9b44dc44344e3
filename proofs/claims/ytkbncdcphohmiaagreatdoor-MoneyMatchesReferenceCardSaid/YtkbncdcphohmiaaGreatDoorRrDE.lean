import Derived.Test.YtkbncdcphohmiaaGreatDoorRrAB
/- The reference of layer 5: Add. Printed by gen/rr_d.py. -/
set_option linter.unusedSimpArgs false
set_option linter.unusedVariables false
namespace Go.Proofs.YtkbncdcphohmiaaGreatDoor
open Go.RowKit
open Ra (Fit)
set_option maxRecDepth 100000

set_option maxHeartbeats 1000000 in
theorem radd_v1 (s1 s2 : Bool) (n1 d1 n2 d2 : ByteArray) (w : World)
    (V1 : Hid (∀ v, Calls Tryz.prog 49 #[rV (s1, n1, d1)] v fun e w' => e = .returned (.bool false) ∧ Below v.heap.size v w')) :
    Calls Tryz.prog 89 #[rV (s1, n1, d1), rV (s2, n2, d2)] w fun e w' => e = .returned (.tuple #[rV (false, ⟨#[]⟩, ⟨#[]⟩), .int .i64 1]) ∧ Below w.heap.size w w' := by
  unfold rV at V1 ⊢
  simp only at V1 ⊢
  obtain ⟨hb0, A0, D0, R0, n0⟩ := start3 w (s1, n1, d1) (s2, n2, d2) (false, nil', nil') _ rfl
  unfold ob nil' at hb0 A0 D0 R0 n0
  simp only at hb0 A0 D0 R0 n0
  obtain ⟨a0, a1, a2, _, _, _⟩ := A0.cells
  obtain ⟨b0, b1, b2, _, _, _⟩ := D0.cells
  go_enter Tryz.func89, Tryz.ntmps89
  go_wp2_with fail
  refine (V1.out _).mono ?_
  rintro e w1 ⟨rfl, g1⟩
  have hb1 := Nb hb0 g1
  have A1 := A0.bt g1
  have D1 := D0.bt g1
  have R1 := R0.bt g1
  clear a0 a1 a2 b0 b1 b2 A0 D0 R0 hb0 g1
  obtain ⟨a0, a1, a2, _, _, _⟩ := A1.cells
  obtain ⟨b0, b1, b2, _, _, _⟩ := D1.cells
  obtain ⟨r0, r1, r2, f0, f1, f2⟩ := R1.cells
  go_wp2_with fail
  exact bodyPost_ret (out2 Tryz.results89 _ _ _ _ _ rfl rfl (R1.set _ _ _)) rfl ⟨rfl, Bset2 hb1 (by omega) _ _ _⟩

set_option maxHeartbeats 1000000 in
theorem radd_v2 (s1 s2 : Bool) (n1 d1 n2 d2 : ByteArray) (w : World)
    (V1 : Hid (∀ v, Calls Tryz.prog 49 #[rV (s1, n1, d1)] v fun e w' => e = .returned (.bool true) ∧ Below v.heap.size v w'))
    (V2 : Hid (∀ v, Calls Tryz.prog 49 #[rV (s2, n2, d2)] v fun e w' => e = .returned (.bool false) ∧ Below v.heap.size v w')) :
    Calls Tryz.prog 89 #[rV (s1, n1, d1), rV (s2, n2, d2)] w fun e w' => e = .returned (.tuple #[rV (false, ⟨#[]⟩, ⟨#[]⟩), .int .i64 1]) ∧ Below w.heap.size w w' := by
  unfold rV at V1 V2 ⊢
  simp only at V1 V2 ⊢
  obtain ⟨hb0, A0, D0, R0, n0⟩ := start3 w (s1, n1, d1) (s2, n2, d2) (false, nil', nil') _ rfl
  unfold ob nil' at hb0 A0 D0 R0 n0
  simp only at hb0 A0 D0 R0 n0
  obtain ⟨a0, a1, a2, _, _, _⟩ := A0.cells
  obtain ⟨b0, b1, b2, _, _, _⟩ := D0.cells
  go_enter Tryz.func89, Tryz.ntmps89
  go_wp2_with fail
  refine (V1.out _).mono ?_
  rintro e w1 ⟨rfl, g1⟩
  have hb1 := Nb hb0 g1
  have A1 := A0.bt g1
  have D1 := D0.bt g1
  have R1 := R0.bt g1
  clear a0 a1 a2 b0 b1 b2 A0 D0 R0 hb0 g1
  obtain ⟨a0, a1, a2, _, _, _⟩ := A1.cells
  obtain ⟨b0, b1, b2, _, _, _⟩ := D1.cells
  go_wp2_with fail
  refine (V2.out _).mono ?_
  rintro e w2 ⟨rfl, g2⟩
  have hb2 := Nb hb1 g2
  have A2 := A1.bt g2
  have D2 := D1.bt g2
  have R2 := R1.bt g2
  clear a0 a1 a2 b0 b1 b2 A1 D1 R1 hb1 g2
  obtain ⟨a0, a1, a2, _, _, _⟩ := A2.cells
  obtain ⟨b0, b1, b2, _, _, _⟩ := D2.cells
  obtain ⟨r0, r1, r2, f0, f1, f2⟩ := R2.cells
  go_wp2_with fail
  exact bodyPost_ret (out2 Tryz.results89 _ _ _ _ _ rfl rfl (R2.set _ _ _)) rfl ⟨rfl, Bset2 hb2 (by omega) _ _ _⟩

set_option maxHeartbeats 1000000 in
theorem radd_l1 (s1 s2 : Bool) (n1 d1 n2 d2 : ByteArray) (w : World)
    (V1 : Hid (∀ v, Calls Tryz.prog 49 #[rV (s1, n1, d1)] v fun e w' => e = .returned (.bool true) ∧ Below v.heap.size v w'))
    (V2 : Hid (∀ v, Calls Tryz.prog 49 #[rV (s2, n2, d2)] v fun e w' => e = .returned (.bool true) ∧ Below v.heap.size v w'))
    (L1 : Hid (∀ v, Calls Tryz.prog 74 #[rV (s1, n1, d1)] v fun e w' => e = .returned (.bool true) ∧ Below v.heap.size v w')) :
    Calls Tryz.prog 89 #[rV (s1, n1, d1), rV (s2, n2, d2)] w fun e w' => e = .returned (.tuple #[rV (false, ⟨#[]⟩, ⟨#[]⟩), .int .i64 2]) ∧ Below w.heap.size w w' := by
  unfold rV at V1 V2 L1 ⊢
  simp only at V1 V2 L1 ⊢
  obtain ⟨hb0, A0, D0, R0, n0⟩ := start3 w (s1, n1, d1) (s2, n2, d2) (false, nil', nil') _ rfl
  unfold ob nil' at hb0 A0 D0 R0 n0
  simp only at hb0 A0 D0 R0 n0
  obtain ⟨a0, a1, a2, _, _, _⟩ := A0.cells
  obtain ⟨b0, b1, b2, _, _, _⟩ := D0.cells
  go_enter Tryz.func89, Tryz.ntmps89
  go_wp2_with fail
  refine (V1.out _).mono ?_
  rintro e w1 ⟨rfl, g1⟩
  have hb1 := Nb hb0 g1
  have A1 := A0.bt g1
  have D1 := D0.bt g1
  have R1 := R0.bt g1
  clear a0 a1 a2 b0 b1 b2 A0 D0 R0 hb0 g1
  obtain ⟨a0, a1, a2, _, _, _⟩ := A1.cells
  obtain ⟨b0, b1, b2, _, _, _⟩ := D1.cells
  go_wp2_with fail
  refine (V2.out _).mono ?_
  rintro e w2 ⟨rfl, g2⟩
  have hb2 := Nb hb1 g2
  have A2 := A1.bt g2
  have D2 := D1.bt g2
  have R2 := R1.bt g2
  clear a0 a1 a2 b0 b1 b2 A1 D1 R1 hb1 g2
  obtain ⟨a0, a1, a2, _, _, _⟩ := A2.cells
  obtain ⟨b0, b1, b2, _, _, _⟩ := D2.cells
  go_wp2_with fail
  refine (L1.out _).mono ?_
  rintro e w3 ⟨rfl, g3⟩
  have hb3 := Nb hb2 g3
  have A3 := A2.bt g3
  have D3 := D2.bt g3
  have R3 := R2.bt g3
  clear a0 a1 a2 b0 b1 b2 A2 D2 R2 hb2 g3
  obtain ⟨a0, a1, a2, _, _, _⟩ := A3.cells
  obtain ⟨b0, b1, b2, _, _, _⟩ := D3.cells
  obtain ⟨r0, r1, r2, f0, f1, f2⟩ := R3.cells
  go_wp2_with fail
  exact bodyPost_ret (out2 Tryz.results89 _ _ _ _ _ rfl rfl (R3.set _ _ _)) rfl ⟨rfl, Bset2 hb3 (by omega) _ _ _⟩

set_option maxHeartbeats 1000000 in
theorem radd_l2 (s1 s2 : Bool) (n1 d1 n2 d2 : ByteArray) (w : World)
    (V1 : Hid (∀ v, Calls Tryz.prog 49 #[rV (s1, n1, d1)] v fun e w' => e = .returned (.bool true) ∧ Below v.heap.size v w'))
    (V2 : Hid (∀ v, Calls Tryz.prog 49 #[rV (s2, n2, d2)] v fun e w' => e = .returned (.bool true) ∧ Below v.heap.size v w'))
    (L1 : Hid (∀ v, Calls Tryz.prog 74 #[rV (s1, n1, d1)] v fun e w' => e = .returned (.bool false) ∧ Below v.heap.size v w'))
    (L2 : Hid (∀ v, Calls Tryz.prog 74 #[rV (s2, n2, d2)] v fun e w' => e = .returned (.bool true) ∧ Below v.heap.size v w')) :
    Calls Tryz.prog 89 #[rV (s1, n1, d1), rV (s2, n2, d2)] w fun e w' => e = .returned (.tuple #[rV (false, ⟨#[]⟩, ⟨#[]⟩), .int .i64 2]) ∧ Below w.heap.size w w' := by
  unfold rV at V1 V2 L1 L2 ⊢
  simp only at V1 V2 L1 L2 ⊢
  obtain ⟨hb0, A0, D0, R0, n0⟩ := start3 w (s1, n1, d1) (s2, n2, d2) (false, nil', nil') _ rfl
  unfold ob nil' at hb0 A0 D0 R0 n0
  simp only at hb0 A0 D0 R0 n0
  obtain ⟨a0, a1, a2, _, _, _⟩ := A0.cells
  obtain ⟨b0, b1, b2, _, _, _⟩ := D0.cells
  go_enter Tryz.func89, Tryz.ntmps89
  go_wp2_with fail
  refine (V1.out _).mono ?_
  rintro e w1 ⟨rfl, g1⟩
  have hb1 := Nb hb0 g1
  have A1 := A0.bt g1
  have D1 := D0.bt g1
  have R1 := R0.bt g1
  clear a0 a1 a2 b0 b1 b2 A0 D0 R0 hb0 g1
  obtain ⟨a0, a1, a2, _, _, _⟩ := A1.cells
  obtain ⟨b0, b1, b2, _, _, _⟩ := D1.cells
  go_wp2_with fail
  refine (V2.out _).mono ?_
  rintro e w2 ⟨rfl, g2⟩
  have hb2 := Nb hb1 g2
  have A2 := A1.bt g2
  have D2 := D1.bt g2
  have R2 := R1.bt g2
  clear a0 a1 a2 b0 b1 b2 A1 D1 R1 hb1 g2
  obtain ⟨a0, a1, a2, _, _, _⟩ := A2.cells
  obtain ⟨b0, b1, b2, _, _, _⟩ := D2.cells
  go_wp2_with fail
  refine (L1.out _).mono ?_
  rintro e w3 ⟨rfl, g3⟩
  have hb3 := Nb hb2 g3
  have A3 := A2.bt g3
  have D3 := D2.bt g3
  have R3 := R2.bt g3
  clear a0 a1 a2 b0 b1 b2 A2 D2 R2 hb2 g3
  obtain ⟨a0, a1, a2, _, _, _⟩ := A3.cells
  obtain ⟨b0, b1, b2, _, _, _⟩ := D3.cells
  go_wp2_with fail
  refine (L2.out _).mono ?_
  rintro e w4 ⟨rfl, g4⟩
  have hb4 := Nb hb3 g4
  have A4 := A3.bt g4
  have D4 := D3.bt g4
  have R4 := R3.bt g4
  clear a0 a1 a2 b0 b1 b2 A3 D3 R3 hb3 g4
  obtain ⟨a0, a1, a2, _, _, _⟩ := A4.cells
  obtain ⟨b0, b1, b2, _, _, _⟩ := D4.cells
  obtain ⟨r0, r1, r2, f0, f1, f2⟩ := R4.cells
  go_wp2_with fail
  exact bodyPost_ret (out2 Tryz.results89 _ _ _ _ _ rfl rfl (R4.set _ _ _)) rfl ⟨rfl, Bset2 hb4 (by omega) _ _ _⟩

set_option maxHeartbeats 1000000 in
theorem radd_same (s1 : Bool) (n1 d1 n2 d2 : ByteArray) (x y dd t : ByteArray) (sr : Bool) (nr dr : ByteArray) (w : World)
    (V1 : Hid (∀ v, Calls Tryz.prog 49 #[rV (s1, n1, d1)] v fun e w' => e = .returned (.bool true) ∧ Below v.heap.size v w'))
    (V2 : Hid (∀ v, Calls Tryz.prog 49 #[rV (s1, n2, d2)] v fun e w' => e = .returned (.bool true) ∧ Below v.heap.size v w'))
    (L1 : Hid (∀ v, Calls Tryz.prog 74 #[rV (s1, n1, d1)] v fun e w' => e = .returned (.bool false) ∧ Below v.heap.size v w'))
    (L2 : Hid (∀ v, Calls Tryz.prog 74 #[rV (s1, n2, d2)] v fun e w' => e = .returned (.bool false) ∧ Below v.heap.size v w'))
    (M1 : Hid (∀ v, Calls Tryz.prog 75 #[.string n1, .string d2] v fun e w' => e = .returned (.tuple #[.string x, .int .i64 0]) ∧ Below v.heap.size v w'))
    (M2 : Hid (∀ v, Calls Tryz.prog 75 #[.string n2, .string d1] v fun e w' => e = .returned (.tuple #[.string y, .int .i64 0]) ∧ Below v.heap.size v w'))
    (M3 : Hid (∀ v, Calls Tryz.prog 75 #[.string d1, .string d2] v fun e w' => e = .returned (.tuple #[.string dd, .int .i64 0]) ∧ Below v.heap.size v w'))
    (AD : Hid (∀ v, Calls Tryz.prog 87 #[.string x, .string y] v fun e w' => e = .returned (.tuple #[.string t, .int .i64 0]) ∧ Below v.heap.size v w'))
    (RD : Hid (∀ v, Calls Tryz.prog 72 #[.bool s1, .string t, .string dd] v fun e w' => e = .returned (.tuple #[rV (sr, nr, dr), .int .i64 0]) ∧ Below v.heap.size v w')) :
    Calls Tryz.prog 89 #[rV (s1, n1, d1), rV (s1, n2, d2)] w fun e w' => e = .returned (.tuple #[rV (sr, nr, dr), .int .i64 0]) ∧ Below w.heap.size w w' := by
  unfold rV at V1 V2 L1 L2 RD ⊢
  simp only at V1 V2 L1 L2 RD ⊢
  obtain ⟨hb0, A0, D0, R0, n0⟩ := start3 w (s1, n1, d1) (s1, n2, d2) (false, nil', nil') _ rfl
  unfold ob nil' at hb0 A0 D0 R0 n0
  simp only at hb0 A0 D0 R0 n0
  obtain ⟨a0, a1, a2, _, _, _⟩ := A0.cells
  obtain ⟨b0, b1, b2, _, _, _⟩ := D0.cells
  go_enter Tryz.func89, Tryz.ntmps89
  go_wp2_with fail
  refine (V1.out _).mono ?_
  rintro e w1 ⟨rfl, g1⟩
  have hb1 := Nb hb0 g1
  have A1 := A0.bt g1
  have D1 := D0.bt g1
  have R1 := R0.bt g1
  clear a0 a1 a2 b0 b1 b2 A0 D0 R0 hb0 g1
  obtain ⟨a0, a1, a2, _, _, _⟩ := A1.cells
  obtain ⟨b0, b1, b2, _, _, _⟩ := D1.cells
  go_wp2_with fail
  refine (V2.out _).mono ?_
  rintro e w2 ⟨rfl, g2⟩
  have hb2 := Nb hb1 g2
  have A2 := A1.bt g2
  have D2 := D1.bt g2
  have R2 := R1.bt g2
  clear a0 a1 a2 b0 b1 b2 A1 D1 R1 hb1 g2
  obtain ⟨a0, a1, a2, _, _, _⟩ := A2.cells
  obtain ⟨b0, b1, b2, _, _, _⟩ := D2.cells
  go_wp2_with fail
  refine (L1.out _).mono ?_
  rintro e w3 ⟨rfl, g3⟩
  have hb3 := Nb hb2 g3
  have A3 := A2.bt g3
  have D3 := D2.bt g3
  have R3 := R2.bt g3
  clear a0 a1 a2 b0 b1 b2 A2 D2 R2 hb2 g3
  obtain ⟨a0, a1, a2, _, _, _⟩ := A3.cells
  obtain ⟨b0, b1, b2, _, _, _⟩ := D3.cells
  go_wp2_with fail
  refine (L2.out _).mono ?_
  rintro e w4 ⟨rfl, g4⟩
  have hb4 := Nb hb3 g4
  have A4 := A3.bt g4
  have D4 := D3.bt g4
  have R4 := R3.bt g4
  clear a0 a1 a2 b0 b1 b2 A3 D3 R3 hb3 g4
  obtain ⟨a0, a1, a2, _, _, _⟩ := A4.cells
  obtain ⟨b0, b1, b2, _, _, _⟩ := D4.cells
  go_wp2_with fail
  refine (M1.out _).mono ?_
  rintro e w5 ⟨rfl, g5⟩
  have hb5 := Nb hb4 g5
  have A5 := A4.bt g5
  have D5 := D4.bt g5
  have R5 := R4.bt g5
  clear a0 a1 a2 b0 b1 b2 A4 D4 R4 hb4 g5
  obtain ⟨a0, a1, a2, _, _, _⟩ := A5.cells
  obtain ⟨b0, b1, b2, _, _, _⟩ := D5.cells
  go_wp2_with fail
  refine (M2.out _).mono ?_
  rintro e w6 ⟨rfl, g6⟩
  have hb6 := Nb hb5 g6
  have A6 := A5.bt g6
  have D6 := D5.bt g6
  have R6 := R5.bt g6
  clear a0 a1 a2 b0 b1 b2 A5 D5 R5 hb5 g6
  obtain ⟨a0, a1, a2, _, _, _⟩ := A6.cells
  obtain ⟨b0, b1, b2, _, _, _⟩ := D6.cells
  go_wp2_with fail
  refine (M3.out _).mono ?_
  rintro e w7 ⟨rfl, g7⟩
  have hb7 := Nb hb6 g7
  have A7 := A6.bt g7
  have D7 := D6.bt g7
  have R7 := R6.bt g7
  clear a0 a1 a2 b0 b1 b2 A6 D6 R6 hb6 g7
  obtain ⟨a0, a1, a2, _, _, _⟩ := A7.cells
  obtain ⟨b0, b1, b2, _, _, _⟩ := D7.cells
  go_wp2_with fail
  refine (AD.out _).mono ?_
  rintro e w8 ⟨rfl, g8⟩
  have hb8 := Nb hb7 g8
  have A8 := A7.bt g8
  have D8 := D7.bt g8
  have R8 := R7.bt g8
  clear a0 a1 a2 b0 b1 b2 A7 D7 R7 hb7 g8
  obtain ⟨a0, a1, a2, _, _, _⟩ := A8.cells
  obtain ⟨b0, b1, b2, _, _, _⟩ := D8.cells
  go_wp2_with fail
  refine (RD.out _).mono ?_
  rintro e w9 ⟨rfl, g9⟩
  have hb9 := Nb hb8 g9
  have A9 := A8.bt g9
  have D9 := D8.bt g9
  have R9 := R8.bt g9
  clear a0 a1 a2 b0 b1 b2 A8 D8 R8 hb8 g9
  obtain ⟨a0, a1, a2, _, _, _⟩ := A9.cells
  obtain ⟨b0, b1, b2, _, _, _⟩ := D9.cells
  obtain ⟨r0, r1, r2, f0, f1, f2⟩ := R9.cells
  go_wp2_with fail
  exact bodyPost_ret (out2 Tryz.results89 _ _ _ _ _ rfl rfl (R9.set _ _ _)) rfl ⟨rfl, Bset2 hb9 (by omega) _ _ _⟩

set_option maxHeartbeats 1000000 in
theorem radd_less (s1 : Bool) (n1 d1 n2 d2 : ByteArray) (c : Int) (hc : c < 0) (x y dd t : ByteArray) (sr : Bool) (nr dr : ByteArray) (w : World)
    (V1 : Hid (∀ v, Calls Tryz.prog 49 #[rV (s1, n1, d1)] v fun e w' => e = .returned (.bool true) ∧ Below v.heap.size v w'))
    (V2 : Hid (∀ v, Calls Tryz.prog 49 #[rV (!s1, n2, d2)] v fun e w' => e = .returned (.bool true) ∧ Below v.heap.size v w'))
    (L1 : Hid (∀ v, Calls Tryz.prog 74 #[rV (s1, n1, d1)] v fun e w' => e = .returned (.bool false) ∧ Below v.heap.size v w'))
    (L2 : Hid (∀ v, Calls Tryz.prog 74 #[rV (!s1, n2, d2)] v fun e w' => e = .returned (.bool false) ∧ Below v.heap.size v w'))
    (M1 : Hid (∀ v, Calls Tryz.prog 75 #[.string n1, .string d2] v fun e w' => e = .returned (.tuple #[.string x, .int .i64 0]) ∧ Below v.heap.size v w'))
    (M2 : Hid (∀ v, Calls Tryz.prog 75 #[.string n2, .string d1] v fun e w' => e = .returned (.tuple #[.string y, .int .i64 0]) ∧ Below v.heap.size v w'))
    (M3 : Hid (∀ v, Calls Tryz.prog 75 #[.string d1, .string d2] v fun e w' => e = .returned (.tuple #[.string dd, .int .i64 0]) ∧ Below v.heap.size v w'))
    (CM : Hid (∀ v, Calls Tryz.prog 125 #[.string x, .string y] v fun e w' => e = .returned (.tuple #[.int .i64 c, .int .i64 0]) ∧ Below v.heap.size v w'))
    (SU : Hid (∀ v, Calls Tryz.prog 88 #[.string y, .string x] v fun e w' => e = .returned (.tuple #[.string t, .int .i64 0]) ∧ Below v.heap.size v w'))
    (RD : Hid (∀ v, Calls Tryz.prog 72 #[.bool (!s1), .string t, .string dd] v fun e w' => e = .returned (.tuple #[rV (sr, nr, dr), .int .i64 0]) ∧ Below v.heap.size v w')) :
    Calls Tryz.prog 89 #[rV (s1, n1, d1), rV (!s1, n2, d2)] w fun e w' => e = .returned (.tuple #[rV (sr, nr, dr), .int .i64 0]) ∧ Below w.heap.size w w' := by
  unfold rV at V1 V2 L1 L2 RD ⊢
  simp only at V1 V2 L1 L2 RD ⊢
  obtain ⟨hb0, A0, D0, R0, n0⟩ := start3 w (s1, n1, d1) (!s1, n2, d2) (false, nil', nil') _ rfl
  unfold ob nil' at hb0 A0 D0 R0 n0
  simp only at hb0 A0 D0 R0 n0
  cases s1
  all_goals
    obtain ⟨a0, a1, a2, _, _, _⟩ := A0.cells
    obtain ⟨b0, b1, b2, _, _, _⟩ := D0.cells
    go_enter Tryz.func89, Tryz.ntmps89
    go_wp2_with fail
    refine (V1.out _).mono ?_
    rintro e w1 ⟨rfl, g1⟩
    have hb1 := Nb hb0 g1
    have A1 := A0.bt g1
    have D1 := D0.bt g1
    have R1 := R0.bt g1
    clear a0 a1 a2 b0 b1 b2 A0 D0 R0 hb0 g1
    obtain ⟨a0, a1, a2, _, _, _⟩ := A1.cells
    obtain ⟨b0, b1, b2, _, _, _⟩ := D1.cells
    go_wp2_with fail
    refine (V2.out _).mono ?_
    rintro e w2 ⟨rfl, g2⟩
    have hb2 := Nb hb1 g2
    have A2 := A1.bt g2
    have D2 := D1.bt g2
    have R2 := R1.bt g2
    clear a0 a1 a2 b0 b1 b2 A1 D1 R1 hb1 g2
    obtain ⟨a0, a1, a2, _, _, _⟩ := A2.cells
    obtain ⟨b0, b1, b2, _, _, _⟩ := D2.cells
    go_wp2_with fail
    refine (L1.out _).mono ?_
    rintro e w3 ⟨rfl, g3⟩
    have hb3 := Nb hb2 g3
    have A3 := A2.bt g3
    have D3 := D2.bt g3
    have R3 := R2.bt g3
    clear a0 a1 a2 b0 b1 b2 A2 D2 R2 hb2 g3
    obtain ⟨a0, a1, a2, _, _, _⟩ := A3.cells
    obtain ⟨b0, b1, b2, _, _, _⟩ := D3.cells
    go_wp2_with fail
    refine (L2.out _).mono ?_
    rintro e w4 ⟨rfl, g4⟩
    have hb4 := Nb hb3 g4
    have A4 := A3.bt g4
    have D4 := D3.bt g4
    have R4 := R3.bt g4
    clear a0 a1 a2 b0 b1 b2 A3 D3 R3 hb3 g4
    obtain ⟨a0, a1, a2, _, _, _⟩ := A4.cells
    obtain ⟨b0, b1, b2, _, _, _⟩ := D4.cells
    go_wp2_with fail
    refine (M1.out _).mono ?_
    rintro e w5 ⟨rfl, g5⟩
    have hb5 := Nb hb4 g5
    have A5 := A4.bt g5
    have D5 := D4.bt g5
    have R5 := R4.bt g5
    clear a0 a1 a2 b0 b1 b2 A4 D4 R4 hb4 g5
    obtain ⟨a0, a1, a2, _, _, _⟩ := A5.cells
    obtain ⟨b0, b1, b2, _, _, _⟩ := D5.cells
    go_wp2_with fail
    refine (M2.out _).mono ?_
    rintro e w6 ⟨rfl, g6⟩
    have hb6 := Nb hb5 g6
    have A6 := A5.bt g6
    have D6 := D5.bt g6
    have R6 := R5.bt g6
    clear a0 a1 a2 b0 b1 b2 A5 D5 R5 hb5 g6
    obtain ⟨a0, a1, a2, _, _, _⟩ := A6.cells
    obtain ⟨b0, b1, b2, _, _, _⟩ := D6.cells
    go_wp2_with fail
    refine (M3.out _).mono ?_
    rintro e w7 ⟨rfl, g7⟩
    have hb7 := Nb hb6 g7
    have A7 := A6.bt g7
    have D7 := D6.bt g7
    have R7 := R6.bt g7
    clear a0 a1 a2 b0 b1 b2 A6 D6 R6 hb6 g7
    obtain ⟨a0, a1, a2, _, _, _⟩ := A7.cells
    obtain ⟨b0, b1, b2, _, _, _⟩ := D7.cells
    go_wp2_with fail
    refine (CM.out _).mono ?_
    rintro e w8 ⟨rfl, g8⟩
    have hb8 := Nb hb7 g8
    have A8 := A7.bt g8
    have D8 := D7.bt g8
    have R8 := R7.bt g8
    clear a0 a1 a2 b0 b1 b2 A7 D7 R7 hb7 g8
    obtain ⟨a0, a1, a2, _, _, _⟩ := A8.cells
    obtain ⟨b0, b1, b2, _, _, _⟩ := D8.cells
    go_wp2_with fail
    refine (SU.out _).mono ?_
    rintro e w9 ⟨rfl, g9⟩
    have hb9 := Nb hb8 g9
    have A9 := A8.bt g9
    have D9 := D8.bt g9
    have R9 := R8.bt g9
    clear a0 a1 a2 b0 b1 b2 A8 D8 R8 hb8 g9
    obtain ⟨a0, a1, a2, _, _, _⟩ := A9.cells
    obtain ⟨b0, b1, b2, _, _, _⟩ := D9.cells
    go_wp2_with fail
    refine (RD.out _).mono ?_
    rintro e w10 ⟨rfl, g10⟩
    have hb10 := Nb hb9 g10
    have A10 := A9.bt g10
    have D10 := D9.bt g10
    have R10 := R9.bt g10
    clear a0 a1 a2 b0 b1 b2 A9 D9 R9 hb9 g10
    obtain ⟨a0, a1, a2, _, _, _⟩ := A10.cells
    obtain ⟨b0, b1, b2, _, _, _⟩ := D10.cells
    obtain ⟨r0, r1, r2, f0, f1, f2⟩ := R10.cells
    go_wp2_with fail
    exact bodyPost_ret (out2 Tryz.results89 _ _ _ _ _ rfl rfl (R10.set _ _ _)) rfl ⟨rfl, Bset2 hb10 (by omega) _ _ _⟩

set_option maxHeartbeats 1000000 in
theorem radd_more (s1 : Bool) (n1 d1 n2 d2 : ByteArray) (c : Int) (hc : 0 ≤ c) (x y dd t : ByteArray) (sr : Bool) (nr dr : ByteArray) (w : World)
    (V1 : Hid (∀ v, Calls Tryz.prog 49 #[rV (s1, n1, d1)] v fun e w' => e = .returned (.bool true) ∧ Below v.heap.size v w'))
    (V2 : Hid (∀ v, Calls Tryz.prog 49 #[rV (!s1, n2, d2)] v fun e w' => e = .returned (.bool true) ∧ Below v.heap.size v w'))
    (L1 : Hid (∀ v, Calls Tryz.prog 74 #[rV (s1, n1, d1)] v fun e w' => e = .returned (.bool false) ∧ Below v.heap.size v w'))
    (L2 : Hid (∀ v, Calls Tryz.prog 74 #[rV (!s1, n2, d2)] v fun e w' => e = .returned (.bool false) ∧ Below v.heap.size v w'))
    (M1 : Hid (∀ v, Calls Tryz.prog 75 #[.string n1, .string d2] v fun e w' => e = .returned (.tuple #[.string x, .int .i64 0]) ∧ Below v.heap.size v w'))
    (M2 : Hid (∀ v, Calls Tryz.prog 75 #[.string n2, .string d1] v fun e w' => e = .returned (.tuple #[.string y, .int .i64 0]) ∧ Below v.heap.size v w'))
    (M3 : Hid (∀ v, Calls Tryz.prog 75 #[.string d1, .string d2] v fun e w' => e = .returned (.tuple #[.string dd, .int .i64 0]) ∧ Below v.heap.size v w'))
    (CM : Hid (∀ v, Calls Tryz.prog 125 #[.string x, .string y] v fun e w' => e = .returned (.tuple #[.int .i64 c, .int .i64 0]) ∧ Below v.heap.size v w'))
    (SU : Hid (∀ v, Calls Tryz.prog 88 #[.string x, .string y] v fun e w' => e = .returned (.tuple #[.string t, .int .i64 0]) ∧ Below v.heap.size v w'))
    (RD : Hid (∀ v, Calls Tryz.prog 72 #[.bool s1, .string t, .string dd] v fun e w' => e = .returned (.tuple #[rV (sr, nr, dr), .int .i64 0]) ∧ Below v.heap.size v w')) :
    Calls Tryz.prog 89 #[rV (s1, n1, d1), rV (!s1, n2, d2)] w fun e w' => e = .returned (.tuple #[rV (sr, nr, dr), .int .i64 0]) ∧ Below w.heap.size w w' := by
  unfold rV at V1 V2 L1 L2 RD ⊢
  simp only at V1 V2 L1 L2 RD ⊢
  obtain ⟨hb0, A0, D0, R0, n0⟩ := start3 w (s1, n1, d1) (!s1, n2, d2) (false, nil', nil') _ rfl
  unfold ob nil' at hb0 A0 D0 R0 n0
  simp only at hb0 A0 D0 R0 n0
  cases s1
  all_goals
    obtain ⟨a0, a1, a2, _, _, _⟩ := A0.cells
    obtain ⟨b0, b1, b2, _, _, _⟩ := D0.cells
    go_enter Tryz.func89, Tryz.ntmps89
    go_wp2_with fail
    refine (V1.out _).mono ?_
    rintro e w1 ⟨rfl, g1⟩
    have hb1 := Nb hb0 g1
    have A1 := A0.bt g1
    have D1 := D0.bt g1
    have R1 := R0.bt g1
    clear a0 a1 a2 b0 b1 b2 A0 D0 R0 hb0 g1
    obtain ⟨a0, a1, a2, _, _, _⟩ := A1.cells
    obtain ⟨b0, b1, b2, _, _, _⟩ := D1.cells
    go_wp2_with fail
    refine (V2.out _).mono ?_
    rintro e w2 ⟨rfl, g2⟩
    have hb2 := Nb hb1 g2
    have A2 := A1.bt g2
    have D2 := D1.bt g2
    have R2 := R1.bt g2
    clear a0 a1 a2 b0 b1 b2 A1 D1 R1 hb1 g2
    obtain ⟨a0, a1, a2, _, _, _⟩ := A2.cells
    obtain ⟨b0, b1, b2, _, _, _⟩ := D2.cells
    go_wp2_with fail
    refine (L1.out _).mono ?_
    rintro e w3 ⟨rfl, g3⟩
    have hb3 := Nb hb2 g3
    have A3 := A2.bt g3
    have D3 := D2.bt g3
    have R3 := R2.bt g3
    clear a0 a1 a2 b0 b1 b2 A2 D2 R2 hb2 g3
    obtain ⟨a0, a1, a2, _, _, _⟩ := A3.cells
    obtain ⟨b0, b1, b2, _, _, _⟩ := D3.cells
    go_wp2_with fail
    refine (L2.out _).mono ?_
    rintro e w4 ⟨rfl, g4⟩
    have hb4 := Nb hb3 g4
    have A4 := A3.bt g4
    have D4 := D3.bt g4
    have R4 := R3.bt g4
    clear a0 a1 a2 b0 b1 b2 A3 D3 R3 hb3 g4
    obtain ⟨a0, a1, a2, _, _, _⟩ := A4.cells
    obtain ⟨b0, b1, b2, _, _, _⟩ := D4.cells
    go_wp2_with fail
    refine (M1.out _).mono ?_
    rintro e w5 ⟨rfl, g5⟩
    have hb5 := Nb hb4 g5
    have A5 := A4.bt g5
    have D5 := D4.bt g5
    have R5 := R4.bt g5
    clear a0 a1 a2 b0 b1 b2 A4 D4 R4 hb4 g5
    obtain ⟨a0, a1, a2, _, _, _⟩ := A5.cells
    obtain ⟨b0, b1, b2, _, _, _⟩ := D5.cells
    go_wp2_with fail
    refine (M2.out _).mono ?_
    rintro e w6 ⟨rfl, g6⟩
    have hb6 := Nb hb5 g6
    have A6 := A5.bt g6
    have D6 := D5.bt g6
    have R6 := R5.bt g6
    clear a0 a1 a2 b0 b1 b2 A5 D5 R5 hb5 g6
    obtain ⟨a0, a1, a2, _, _, _⟩ := A6.cells
    obtain ⟨b0, b1, b2, _, _, _⟩ := D6.cells
    go_wp2_with fail
    refine (M3.out _).mono ?_
    rintro e w7 ⟨rfl, g7⟩
    have hb7 := Nb hb6 g7
    have A7 := A6.bt g7
    have D7 := D6.bt g7
    have R7 := R6.bt g7
    clear a0 a1 a2 b0 b1 b2 A6 D6 R6 hb6 g7
    obtain ⟨a0, a1, a2, _, _, _⟩ := A7.cells
    obtain ⟨b0, b1, b2, _, _, _⟩ := D7.cells
    go_wp2_with fail
    refine (CM.out _).mono ?_
    rintro e w8 ⟨rfl, g8⟩
    have hb8 := Nb hb7 g8
    have A8 := A7.bt g8
    have D8 := D7.bt g8
    have R8 := R7.bt g8
    clear a0 a1 a2 b0 b1 b2 A7 D7 R7 hb7 g8
    obtain ⟨a0, a1, a2, _, _, _⟩ := A8.cells
    obtain ⟨b0, b1, b2, _, _, _⟩ := D8.cells
    go_wp2_with fail
    refine (SU.out _).mono ?_
    rintro e w9 ⟨rfl, g9⟩
    have hb9 := Nb hb8 g9
    have A9 := A8.bt g9
    have D9 := D8.bt g9
    have R9 := R8.bt g9
    clear a0 a1 a2 b0 b1 b2 A8 D8 R8 hb8 g9
    obtain ⟨a0, a1, a2, _, _, _⟩ := A9.cells
    obtain ⟨b0, b1, b2, _, _, _⟩ := D9.cells
    go_wp2_with fail
    refine (RD.out _).mono ?_
    rintro e w10 ⟨rfl, g10⟩
    have hb10 := Nb hb9 g10
    have A10 := A9.bt g10
    have D10 := D9.bt g10
    have R10 := R9.bt g10
    clear a0 a1 a2 b0 b1 b2 A9 D9 R9 hb9 g10
    obtain ⟨a0, a1, a2, _, _, _⟩ := A10.cells
    obtain ⟨b0, b1, b2, _, _, _⟩ := D10.cells
    obtain ⟨r0, r1, r2, f0, f1, f2⟩ := R10.cells
    go_wp2_with fail
    exact bodyPost_ret (out2 Tryz.results89 _ _ _ _ _ rfl rfl (R10.set _ _ _)) rfl ⟨rfl, Bset2 hb10 (by omega) _ _ _⟩

end Go.Proofs.YtkbncdcphohmiaaGreatDoor

/- The reference of layer 5: Sub, Mul, Div (each way). Printed by gen/rr_d.py. -/
set_option linter.unusedSimpArgs false
set_option linter.unusedVariables false
namespace Go.Proofs.YtkbncdcphohmiaaGreatDoor
open Go.RowKit
open Ra (Fit)
set_option maxRecDepth 100000

set_option maxHeartbeats 1000000 in
theorem rsub_v1 (s1 s2 : Bool) (n1 d1 n2 d2 : ByteArray) (w : World)
    (V1 : Hid (∀ v, Calls Tryz.prog 49 #[rV (s1, n1, d1)] v fun e w' => e = .returned (.bool false) ∧ Below v.heap.size v w')) :
    Calls Tryz.prog 51 #[rV (s1, n1, d1), rV (s2, n2, d2)] w fun e w' => e = .returned (.tuple #[rV (false, ⟨#[]⟩, ⟨#[]⟩), .int .i64 1]) ∧ Below w.heap.size w w' := by
  unfold rV at V1 ⊢
  simp only at V1 ⊢
  obtain ⟨hb0, A0, D0, R0, n0⟩ := start3 w (s1, n1, d1) (s2, n2, d2) (false, nil', nil') _ rfl
  unfold ob nil' at hb0 A0 D0 R0 n0
  simp only at hb0 A0 D0 R0 n0
  obtain ⟨a0, a1, a2, _, _, _⟩ := A0.cells
  obtain ⟨b0, b1, b2, _, _, _⟩ := D0.cells
  go_enter Tryz.func51, Tryz.ntmps51
  go_wp2_with fail
  refine (V1.out _).mono ?_
  rintro e w1 ⟨rfl, g1⟩
  have hb1 := Nb hb0 g1
  have A1 := A0.bt g1
  have D1 := D0.bt g1
  have R1 := R0.bt g1
  clear a0 a1 a2 b0 b1 b2 A0 D0 R0 hb0 g1
  obtain ⟨a0, a1, a2, _, _, _⟩ := A1.cells
  obtain ⟨b0, b1, b2, _, _, _⟩ := D1.cells
  obtain ⟨r0, r1, r2, f0, f1, f2⟩ := R1.cells
  go_wp2_with fail
  exact bodyPost_ret (out2 Tryz.results51 _ _ _ _ _ rfl rfl (R1.set _ _ _)) rfl ⟨rfl, Bset2 hb1 (by omega) _ _ _⟩

set_option maxHeartbeats 1000000 in
theorem rsub_v2 (s1 s2 : Bool) (n1 d1 n2 d2 : ByteArray) (w : World)
    (V1 : Hid (∀ v, Calls Tryz.prog 49 #[rV (s1, n1, d1)] v fun e w' => e = .returned (.bool true) ∧ Below v.heap.size v w'))
    (V2 : Hid (∀ v, Calls Tryz.prog 49 #[rV (s2, n2, d2)] v fun e w' => e = .returned (.bool false) ∧ Below v.heap.size v w')) :
    Calls Tryz.prog 51 #[rV (s1, n1, d1), rV (s2, n2, d2)] w fun e w' => e = .returned (.tuple #[rV (false, ⟨#[]⟩, ⟨#[]⟩), .int .i64 1]) ∧ Below w.heap.size w w' := by
  unfold rV at V1 V2 ⊢
  simp only at V1 V2 ⊢
  obtain ⟨hb0, A0, D0, R0, n0⟩ := start3 w (s1, n1, d1) (s2, n2, d2) (false, nil', nil') _ rfl
  unfold ob nil' at hb0 A0 D0 R0 n0
  simp only at hb0 A0 D0 R0 n0
  obtain ⟨a0, a1, a2, _, _, _⟩ := A0.cells
  obtain ⟨b0, b1, b2, _, _, _⟩ := D0.cells
  go_enter Tryz.func51, Tryz.ntmps51
  go_wp2_with fail
  refine (V1.out _).mono ?_
  rintro e w1 ⟨rfl, g1⟩
  have hb1 := Nb hb0 g1
  have A1 := A0.bt g1
  have D1 := D0.bt g1
  have R1 := R0.bt g1
  clear a0 a1 a2 b0 b1 b2 A0 D0 R0 hb0 g1
  obtain ⟨a0, a1, a2, _, _, _⟩ := A1.cells
  obtain ⟨b0, b1, b2, _, _, _⟩ := D1.cells
  go_wp2_with fail
  refine (V2.out _).mono ?_
  rintro e w2 ⟨rfl, g2⟩
  have hb2 := Nb hb1 g2
  have A2 := A1.bt g2
  have D2 := D1.bt g2
  have R2 := R1.bt g2
  clear a0 a1 a2 b0 b1 b2 A1 D1 R1 hb1 g2
  obtain ⟨a0, a1, a2, _, _, _⟩ := A2.cells
  obtain ⟨b0, b1, b2, _, _, _⟩ := D2.cells
  obtain ⟨r0, r1, r2, f0, f1, f2⟩ := R2.cells
  go_wp2_with fail
  exact bodyPost_ret (out2 Tryz.results51 _ _ _ _ _ rfl rfl (R2.set _ _ _)) rfl ⟨rfl, Bset2 hb2 (by omega) _ _ _⟩

set_option maxHeartbeats 1000000 in
theorem rmul_v1 (s1 s2 : Bool) (n1 d1 n2 d2 : ByteArray) (w : World)
    (V1 : Hid (∀ v, Calls Tryz.prog 49 #[rV (s1, n1, d1)] v fun e w' => e = .returned (.bool false) ∧ Below v.heap.size v w')) :
    Calls Tryz.prog 43 #[rV (s1, n1, d1), rV (s2, n2, d2)] w fun e w' => e = .returned (.tuple #[rV (false, ⟨#[]⟩, ⟨#[]⟩), .int .i64 1]) ∧ Below w.heap.size w w' := by
  unfold rV at V1 ⊢
  simp only at V1 ⊢
  obtain ⟨hb0, A0, D0, R0, n0⟩ := start3 w (s1, n1, d1) (s2, n2, d2) (false, nil', nil') _ rfl
  unfold ob nil' at hb0 A0 D0 R0 n0
  simp only at hb0 A0 D0 R0 n0
  obtain ⟨a0, a1, a2, _, _, _⟩ := A0.cells
  obtain ⟨b0, b1, b2, _, _, _⟩ := D0.cells
  go_enter Tryz.func43, Tryz.ntmps43
  go_wp2_with fail
  refine (V1.out _).mono ?_
  rintro e w1 ⟨rfl, g1⟩
  have hb1 := Nb hb0 g1
  have A1 := A0.bt g1
  have D1 := D0.bt g1
  have R1 := R0.bt g1
  clear a0 a1 a2 b0 b1 b2 A0 D0 R0 hb0 g1
  obtain ⟨a0, a1, a2, _, _, _⟩ := A1.cells
  obtain ⟨b0, b1, b2, _, _, _⟩ := D1.cells
  obtain ⟨r0, r1, r2, f0, f1, f2⟩ := R1.cells
  go_wp2_with fail
  exact bodyPost_ret (out2 Tryz.results43 _ _ _ _ _ rfl rfl (R1.set _ _ _)) rfl ⟨rfl, Bset2 hb1 (by omega) _ _ _⟩

set_option maxHeartbeats 1000000 in
theorem rmul_v2 (s1 s2 : Bool) (n1 d1 n2 d2 : ByteArray) (w : World)
    (V1 : Hid (∀ v, Calls Tryz.prog 49 #[rV (s1, n1, d1)] v fun e w' => e = .returned (.bool true) ∧ Below v.heap.size v w'))
    (V2 : Hid (∀ v, Calls Tryz.prog 49 #[rV (s2, n2, d2)] v fun e w' => e = .returned (.bool false) ∧ Below v.heap.size v w')) :
    Calls Tryz.prog 43 #[rV (s1, n1, d1), rV (s2, n2, d2)] w fun e w' => e = .returned (.tuple #[rV (false, ⟨#[]⟩, ⟨#[]⟩), .int .i64 1]) ∧ Below w.heap.size w w' := by
  unfold rV at V1 V2 ⊢
  simp only at V1 V2 ⊢
  obtain ⟨hb0, A0, D0, R0, n0⟩ := start3 w (s1, n1, d1) (s2, n2, d2) (false, nil', nil') _ rfl
  unfold ob nil' at hb0 A0 D0 R0 n0
  simp only at hb0 A0 D0 R0 n0
  obtain ⟨a0, a1, a2, _, _, _⟩ := A0.cells
  obtain ⟨b0, b1, b2, _, _, _⟩ := D0.cells
  go_enter Tryz.func43, Tryz.ntmps43
  go_wp2_with fail
  refine (V1.out _).mono ?_
  rintro e w1 ⟨rfl, g1⟩
  have hb1 := Nb hb0 g1
  have A1 := A0.bt g1
  have D1 := D0.bt g1
  have R1 := R0.bt g1
  clear a0 a1 a2 b0 b1 b2 A0 D0 R0 hb0 g1
  obtain ⟨a0, a1, a2, _, _, _⟩ := A1.cells
  obtain ⟨b0, b1, b2, _, _, _⟩ := D1.cells
  go_wp2_with fail
  refine (V2.out _).mono ?_
  rintro e w2 ⟨rfl, g2⟩
  have hb2 := Nb hb1 g2
  have A2 := A1.bt g2
  have D2 := D1.bt g2
  have R2 := R1.bt g2
  clear a0 a1 a2 b0 b1 b2 A1 D1 R1 hb1 g2
  obtain ⟨a0, a1, a2, _, _, _⟩ := A2.cells
  obtain ⟨b0, b1, b2, _, _, _⟩ := D2.cells
  obtain ⟨r0, r1, r2, f0, f1, f2⟩ := R2.cells
  go_wp2_with fail
  exact bodyPost_ret (out2 Tryz.results43 _ _ _ _ _ rfl rfl (R2.set _ _ _)) rfl ⟨rfl, Bset2 hb2 (by omega) _ _ _⟩

set_option maxHeartbeats 1000000 in
theorem rmul_l1 (s1 s2 : Bool) (n1 d1 n2 d2 : ByteArray) (w : World)
    (V1 : Hid (∀ v, Calls Tryz.prog 49 #[rV (s1, n1, d1)] v fun e w' => e = .returned (.bool true) ∧ Below v.heap.size v w'))
    (V2 : Hid (∀ v, Calls Tryz.prog 49 #[rV (s2, n2, d2)] v fun e w' => e = .returned (.bool true) ∧ Below v.heap.size v w'))
    (L1 : Hid (∀ v, Calls Tryz.prog 74 #[rV (s1, n1, d1)] v fun e w' => e = .returned (.bool true) ∧ Below v.heap.size v w')) :
    Calls Tryz.prog 43 #[rV (s1, n1, d1), rV (s2, n2, d2)] w fun e w' => e = .returned (.tuple #[rV (false, ⟨#[]⟩, ⟨#[]⟩), .int .i64 2]) ∧ Below w.heap.size w w' := by
  unfold rV at V1 V2 L1 ⊢
  simp only at V1 V2 L1 ⊢
  obtain ⟨hb0, A0, D0, R0, n0⟩ := start3 w (s1, n1, d1) (s2, n2, d2) (false, nil', nil') _ rfl
  unfold ob nil' at hb0 A0 D0 R0 n0
  simp only at hb0 A0 D0 R0 n0
  obtain ⟨a0, a1, a2, _, _, _⟩ := A0.cells
  obtain ⟨b0, b1, b2, _, _, _⟩ := D0.cells
  go_enter Tryz.func43, Tryz.ntmps43
  go_wp2_with fail
  refine (V1.out _).mono ?_
  rintro e w1 ⟨rfl, g1⟩
  have hb1 := Nb hb0 g1
  have A1 := A0.bt g1
  have D1 := D0.bt g1
  have R1 := R0.bt g1
  clear a0 a1 a2 b0 b1 b2 A0 D0 R0 hb0 g1
  obtain ⟨a0, a1, a2, _, _, _⟩ := A1.cells
  obtain ⟨b0, b1, b2, _, _, _⟩ := D1.cells
  go_wp2_with fail
  refine (V2.out _).mono ?_
  rintro e w2 ⟨rfl, g2⟩
  have hb2 := Nb hb1 g2
  have A2 := A1.bt g2
  have D2 := D1.bt g2
  have R2 := R1.bt g2
  clear a0 a1 a2 b0 b1 b2 A1 D1 R1 hb1 g2
  obtain ⟨a0, a1, a2, _, _, _⟩ := A2.cells
  obtain ⟨b0, b1, b2, _, _, _⟩ := D2.cells
  go_wp2_with fail
  refine (L1.out _).mono ?_
  rintro e w3 ⟨rfl, g3⟩
  have hb3 := Nb hb2 g3
  have A3 := A2.bt g3
  have D3 := D2.bt g3
  have R3 := R2.bt g3
  clear a0 a1 a2 b0 b1 b2 A2 D2 R2 hb2 g3
  obtain ⟨a0, a1, a2, _, _, _⟩ := A3.cells
  obtain ⟨b0, b1, b2, _, _, _⟩ := D3.cells
  obtain ⟨r0, r1, r2, f0, f1, f2⟩ := R3.cells
  go_wp2_with fail
  exact bodyPost_ret (out2 Tryz.results43 _ _ _ _ _ rfl rfl (R3.set _ _ _)) rfl ⟨rfl, Bset2 hb3 (by omega) _ _ _⟩

set_option maxHeartbeats 1000000 in
theorem rmul_l2 (s1 s2 : Bool) (n1 d1 n2 d2 : ByteArray) (w : World)
    (V1 : Hid (∀ v, Calls Tryz.prog 49 #[rV (s1, n1, d1)] v fun e w' => e = .returned (.bool true) ∧ Below v.heap.size v w'))
    (V2 : Hid (∀ v, Calls Tryz.prog 49 #[rV (s2, n2, d2)] v fun e w' => e = .returned (.bool true) ∧ Below v.heap.size v w'))
    (L1 : Hid (∀ v, Calls Tryz.prog 74 #[rV (s1, n1, d1)] v fun e w' => e = .returned (.bool false) ∧ Below v.heap.size v w'))
    (L2 : Hid (∀ v, Calls Tryz.prog 74 #[rV (s2, n2, d2)] v fun e w' => e = .returned (.bool true) ∧ Below v.heap.size v w')) :
    Calls Tryz.prog 43 #[rV (s1, n1, d1), rV (s2, n2, d2)] w fun e w' => e = .returned (.tuple #[rV (false, ⟨#[]⟩, ⟨#[]⟩), .int .i64 2]) ∧ Below w.heap.size w w' := by
  unfold rV at V1 V2 L1 L2 ⊢
  simp only at V1 V2 L1 L2 ⊢
  obtain ⟨hb0, A0, D0, R0, n0⟩ := start3 w (s1, n1, d1) (s2, n2, d2) (false, nil', nil') _ rfl
  unfold ob nil' at hb0 A0 D0 R0 n0
  simp only at hb0 A0 D0 R0 n0
  obtain ⟨a0, a1, a2, _, _, _⟩ := A0.cells
  obtain ⟨b0, b1, b2, _, _, _⟩ := D0.cells
  go_enter Tryz.func43, Tryz.ntmps43
  go_wp2_with fail
  refine (V1.out _).mono ?_
  rintro e w1 ⟨rfl, g1⟩
  have hb1 := Nb hb0 g1
  have A1 := A0.bt g1
  have D1 := D0.bt g1
  have R1 := R0.bt g1
  clear a0 a1 a2 b0 b1 b2 A0 D0 R0 hb0 g1
  obtain ⟨a0, a1, a2, _, _, _⟩ := A1.cells
  obtain ⟨b0, b1, b2, _, _, _⟩ := D1.cells
  go_wp2_with fail
  refine (V2.out _).mono ?_
  rintro e w2 ⟨rfl, g2⟩
  have hb2 := Nb hb1 g2
  have A2 := A1.bt g2
  have D2 := D1.bt g2
  have R2 := R1.bt g2
  clear a0 a1 a2 b0 b1 b2 A1 D1 R1 hb1 g2
  obtain ⟨a0, a1, a2, _, _, _⟩ := A2.cells
  obtain ⟨b0, b1, b2, _, _, _⟩ := D2.cells
  go_wp2_with fail
  refine (L1.out _).mono ?_
  rintro e w3 ⟨rfl, g3⟩
  have hb3 := Nb hb2 g3
  have A3 := A2.bt g3
  have D3 := D2.bt g3
  have R3 := R2.bt g3
  clear a0 a1 a2 b0 b1 b2 A2 D2 R2 hb2 g3
  obtain ⟨a0, a1, a2, _, _, _⟩ := A3.cells
  obtain ⟨b0, b1, b2, _, _, _⟩ := D3.cells
  go_wp2_with fail
  refine (L2.out _).mono ?_
  rintro e w4 ⟨rfl, g4⟩
  have hb4 := Nb hb3 g4
  have A4 := A3.bt g4
  have D4 := D3.bt g4
  have R4 := R3.bt g4
  clear a0 a1 a2 b0 b1 b2 A3 D3 R3 hb3 g4
  obtain ⟨a0, a1, a2, _, _, _⟩ := A4.cells
  obtain ⟨b0, b1, b2, _, _, _⟩ := D4.cells
  obtain ⟨r0, r1, r2, f0, f1, f2⟩ := R4.cells
  go_wp2_with fail
  exact bodyPost_ret (out2 Tryz.results43 _ _ _ _ _ rfl rfl (R4.set _ _ _)) rfl ⟨rfl, Bset2 hb4 (by omega) _ _ _⟩



set_option maxHeartbeats 1000000 in
theorem rsub_ok (s1 s2 : Bool) (n1 d1 n2 d2 : ByteArray) (s3 : Bool) (n3 d3 : ByteArray) (ec : Int) (sr : Bool) (nr dr : ByteArray) (w : World)
    (V1 : Hid (∀ v, Calls Tryz.prog 49 #[rV (s1, n1, d1)] v fun e w' => e = .returned (.bool true) ∧ Below v.heap.size v w'))
    (V2 : Hid (∀ v, Calls Tryz.prog 49 #[rV (s2, n2, d2)] v fun e w' => e = .returned (.bool true) ∧ Below v.heap.size v w'))
    (NG : Hid (∀ v, Calls Tryz.prog 90 #[rV (s2, n2, d2)] v fun e w' => e = .returned (rV (s3, n3, d3)) ∧ Below v.heap.size v w'))
    (AD : Hid (∀ v, Calls Tryz.prog 89 #[rV (s1, n1, d1), rV (s3, n3, d3)] v fun e w' => e = .returned (.tuple #[rV (sr, nr, dr), .int .i64 ec]) ∧ Below v.heap.size v w')) :
    Calls Tryz.prog 51 #[rV (s1, n1, d1), rV (s2, n2, d2)] w fun e w' => e = .returned (.tuple #[rV (sr, nr, dr), .int .i64 ec]) ∧ Below w.heap.size w w' := by
  unfold rV at V1 V2 NG AD ⊢
  simp only at V1 V2 NG AD ⊢
  obtain ⟨hb0, A0, D0, R0, n0⟩ := start3 w (s1, n1, d1) (s2, n2, d2) (false, nil', nil') _ rfl
  unfold ob nil' at hb0 A0 D0 R0 n0
  simp only at hb0 A0 D0 R0 n0
  obtain ⟨a0, a1, a2, _, _, _⟩ := A0.cells
  obtain ⟨b0, b1, b2, _, _, _⟩ := D0.cells
  go_enter Tryz.func51, Tryz.ntmps51
  go_wp2_with fail
  refine (V1.out _).mono ?_
  rintro e w1 ⟨rfl, g1⟩
  have hb1 := Nb hb0 g1
  have A1 := A0.bt g1
  have D1 := D0.bt g1
  have R1 := R0.bt g1
  clear a0 a1 a2 b0 b1 b2 A0 D0 R0 hb0 g1
  obtain ⟨a0, a1, a2, _, _, _⟩ := A1.cells
  obtain ⟨b0, b1, b2, _, _, _⟩ := D1.cells
  go_wp2_with fail
  refine (V2.out _).mono ?_
  rintro e w3 ⟨rfl, g2⟩
  have hb3 := Nb hb1 g2
  have A3 := A1.bt g2
  have D3 := D1.bt g2
  have R3 := R1.bt g2
  clear a0 a1 a2 b0 b1 b2 A1 D1 R1 hb1 g2
  have S3 := Lib.hid (six A3 D3)
  have S3d := Lib.hid (six (A3.bt (Bd w3)) (D3.bt (Bd w3)))
  go_wp2_with fail
  go_region_held3 (fun w' => w'.cell? ⟨w.heap.size, 0, none⟩ = some (.bool s1) ∧ w'.cell? ⟨w.heap.size, 1, none⟩ = some (.string n1) ∧ w'.cell? ⟨w.heap.size, 2, none⟩ = some (.string d1) ∧ w'.cell? ⟨w.heap.size + 1, 0, none⟩ = some (.bool s2) ∧ w'.cell? ⟨w.heap.size + 1, 1, none⟩ = some (.string n2) ∧ w'.cell? ⟨w.heap.size + 1, 2, none⟩ = some (.string d2)) (first | exact SS.out | exact S5.out | exact S4.out | exact S3d.out | exact S3.out | go_keep)
    (first
      | (go_at_call 90
         (with_reducible refine (NG.out _).mono ?_)
         rintro e w4 ⟨rfl, g4⟩
         have hb4 := Nb (Nb hb3 (Bd w3)) g4
         have A4 := (A3.bt (Bd w3)).bt g4
         have D4 := (D3.bt (Bd w3)).bt g4
         have R4 := (R3.bt (Bd w3)).bt g4
         have S4 := Lib.hid (six A4 D4))
      | (go_at_call 89
         (with_reducible refine (AD.out _).mono ?_)
         rintro e w5 ⟨rfl, g5⟩
         have hb5 := Nb hb4 g5
         have A5 := A4.bt g5
         have D5 := D4.bt g5
         have R5 := R4.bt g5
         have S5 := Lib.hid (six A5 D5)
         have SS := Lib.hid (six (A5.far (show w.heap.size ≠ w.heap.size + 1 + 1 by omega) (sr, nr, dr)) (D5.far (show w.heap.size + 1 ≠ w.heap.size + 1 + 1 by omega) (sr, nr, dr)))
         simp only at SS
         obtain ⟨r0, r1, r2, f0, f1, f2⟩ := R5.cells)
      | fail)
  go_wp2_with fail
  exact bodyPost_ret (out2 Tryz.results51 _ _ _ _ _ rfl rfl (R5.set _ _ _)) rfl ⟨rfl, Bset2 hb5 (by omega) _ _ _⟩

set_option maxHeartbeats 1000000 in
theorem rmul_ok (s1 s2 : Bool) (n1 d1 n2 d2 : ByteArray) (x y : ByteArray) (sr : Bool) (nr dr : ByteArray) (w : World)
    (V1 : Hid (∀ v, Calls Tryz.prog 49 #[rV (s1, n1, d1)] v fun e w' => e = .returned (.bool true) ∧ Below v.heap.size v w'))
    (V2 : Hid (∀ v, Calls Tryz.prog 49 #[rV (s2, n2, d2)] v fun e w' => e = .returned (.bool true) ∧ Below v.heap.size v w'))
    (L1 : Hid (∀ v, Calls Tryz.prog 74 #[rV (s1, n1, d1)] v fun e w' => e = .returned (.bool false) ∧ Below v.heap.size v w'))
    (L2 : Hid (∀ v, Calls Tryz.prog 74 #[rV (s2, n2, d2)] v fun e w' => e = .returned (.bool false) ∧ Below v.heap.size v w'))
    (M1 : Hid (∀ v, Calls Tryz.prog 75 #[.string n1, .string n2] v fun e w' => e = .returned (.tuple #[.string x, .int .i64 0]) ∧ Below v.heap.size v w'))
    (M2 : Hid (∀ v, Calls Tryz.prog 75 #[.string d1, .string d2] v fun e w' => e = .returned (.tuple #[.string y, .int .i64 0]) ∧ Below v.heap.size v w'))
    (RD : Hid (∀ v, Calls Tryz.prog 72 #[.bool (s1 != s2), .string x, .string y] v fun e w' => e = .returned (.tuple #[rV (sr, nr, dr), .int .i64 0]) ∧ Below v.heap.size v w')) :
    Calls Tryz.prog 43 #[rV (s1, n1, d1), rV (s2, n2, d2)] w fun e w' => e = .returned (.tuple #[rV (sr, nr, dr), .int .i64 0]) ∧ Below w.heap.size w w' := by
  unfold rV at V1 V2 L1 L2 RD ⊢
  simp only at V1 V2 L1 L2 RD ⊢
  obtain ⟨hb0, A0, D0, R0, n0⟩ := start3 w (s1, n1, d1) (s2, n2, d2) (false, nil', nil') _ rfl
  unfold ob nil' at hb0 A0 D0 R0 n0
  simp only at hb0 A0 D0 R0 n0
  cases s1 <;> cases s2
  all_goals
    obtain ⟨a0, a1, a2, _, _, _⟩ := A0.cells
    obtain ⟨b0, b1, b2, _, _, _⟩ := D0.cells
    go_enter Tryz.func43, Tryz.ntmps43
    go_wp2_with fail
    refine (V1.out _).mono ?_
    rintro e w1 ⟨rfl, g1⟩
    have hb1 := Nb hb0 g1
    have A1 := A0.bt g1
    have D1 := D0.bt g1
    have R1 := R0.bt g1
    clear a0 a1 a2 b0 b1 b2 A0 D0 R0 hb0 g1
    obtain ⟨a0, a1, a2, _, _, _⟩ := A1.cells
    obtain ⟨b0, b1, b2, _, _, _⟩ := D1.cells
    go_wp2_with fail
    refine (V2.out _).mono ?_
    rintro e w2 ⟨rfl, g2⟩
    have hb2 := Nb hb1 g2
    have A2 := A1.bt g2
    have D2 := D1.bt g2
    have R2 := R1.bt g2
    clear a0 a1 a2 b0 b1 b2 A1 D1 R1 hb1 g2
    obtain ⟨a0, a1, a2, _, _, _⟩ := A2.cells
    obtain ⟨b0, b1, b2, _, _, _⟩ := D2.cells
    go_wp2_with fail
    refine (L1.out _).mono ?_
    rintro e w3 ⟨rfl, g3⟩
    have hb3 := Nb hb2 g3
    have A3 := A2.bt g3
    have D3 := D2.bt g3
    have R3 := R2.bt g3
    clear a0 a1 a2 b0 b1 b2 A2 D2 R2 hb2 g3
    obtain ⟨a0, a1, a2, _, _, _⟩ := A3.cells
    obtain ⟨b0, b1, b2, _, _, _⟩ := D3.cells
    go_wp2_with fail
    refine (L2.out _).mono ?_
    rintro e w4 ⟨rfl, g4⟩
    have hb4 := Nb hb3 g4
    have A4 := A3.bt g4
    have D4 := D3.bt g4
    have R4 := R3.bt g4
    clear a0 a1 a2 b0 b1 b2 A3 D3 R3 hb3 g4
    obtain ⟨a0, a1, a2, _, _, _⟩ := A4.cells
    obtain ⟨b0, b1, b2, _, _, _⟩ := D4.cells
    go_wp2_with fail
    refine (M1.out _).mono ?_
    rintro e w5 ⟨rfl, g5⟩
    have hb5 := Nb hb4 g5
    have A5 := A4.bt g5
    have D5 := D4.bt g5
    have R5 := R4.bt g5
    clear a0 a1 a2 b0 b1 b2 A4 D4 R4 hb4 g5
    obtain ⟨a0, a1, a2, _, _, _⟩ := A5.cells
    obtain ⟨b0, b1, b2, _, _, _⟩ := D5.cells
    go_wp2_with fail
    refine (M2.out _).mono ?_
    rintro e w6 ⟨rfl, g6⟩
    have hb6 := Nb hb5 g6
    have A6 := A5.bt g6
    have D6 := D5.bt g6
    have R6 := R5.bt g6
    clear a0 a1 a2 b0 b1 b2 A5 D5 R5 hb5 g6
    obtain ⟨a0, a1, a2, _, _, _⟩ := A6.cells
    obtain ⟨b0, b1, b2, _, _, _⟩ := D6.cells
    go_wp2_with fail
    refine (RD.out _).mono ?_
    rintro e w7 ⟨rfl, g7⟩
    have hb7 := Nb hb6 g7
    have A7 := A6.bt g7
    have D7 := D6.bt g7
    have R7 := R6.bt g7
    clear a0 a1 a2 b0 b1 b2 A6 D6 R6 hb6 g7
    obtain ⟨a0, a1, a2, _, _, _⟩ := A7.cells
    obtain ⟨b0, b1, b2, _, _, _⟩ := D7.cells
    obtain ⟨r0, r1, r2, f0, f1, f2⟩ := R7.cells
    go_wp2_with fail
    exact bodyPost_ret (out2 Tryz.results43 _ _ _ _ _ rfl rfl (R7.set _ _ _)) rfl ⟨rfl, Bset2 hb7 (by omega) _ _ _⟩



end Go.Proofs.YtkbncdcphohmiaaGreatDoor
