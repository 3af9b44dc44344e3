/- Package ratio: operation.of with same and sum. -/
import Derived.Test.YtmnnaaifebajnaaGreatDoorRaG
set_option linter.unusedSimpArgs false
set_option linter.unusedVariables false
namespace Go.Proofs.YtmnnaaifebajnaaGreatDoor
open Go.RowKit
open Ra (Fit)
set_option maxRecDepth 100000

set_option maxHeartbeats 1000000 in
theorem of_long1_add (s t : Bool) (x z y u : ByteArray) (t2 : Bool) (y2 u2 : ByteArray) (w : World)
    (VA : Hid (∀ v, Below w.heap.size w v → Calls Tryz.prog 16 #[rV (s, x, z)] v fun e w' => e = .returned (.bool true) ∧ Below v.heap.size v w'))
    (VB : Hid (∀ v, Below w.heap.size w v → Calls Tryz.prog 16 #[rV (t, y, u)] v fun e w' => e = .returned (.bool true) ∧ Below v.heap.size v w'))
    (TN : Hid (∀ v, Below w.heap.size w v → Calls Tryz.prog 41 #[rV (t, y, u)] v fun e w' => e = .returned (rV (t2, y2, u2)) ∧ Below v.heap.size v w'))
    (hu : u2.toList ≠ [48])
    (LA : Hid (∀ v, Below w.heap.size w v → Calls Tryz.prog 69 #[rV (s, x, z)] v fun e w' => e = .returned (.bool true) ∧ Below v.heap.size v w')) :
    Calls Tryz.prog 43 #[oV 41 42, rV (s, x, z), rV (t, y, u)] w fun e w' => e = .returned (.tuple #[rV zeroR, .int .i64 2]) ∧ Below w.heap.size w w' := by
  obtain ⟨hb0, A0, B0, R0, O0⟩ := start4o w 41 42 (s, x, z) (t, y, u) (false, nil', nil') _ rfl
  unfold oo ob nil' at hb0 A0 B0 R0 O0
  unfold rV at *
  unfold oV
  simp only at *
  obtain ⟨a0, a1, a2, _, _, _⟩ := A0.cells
  obtain ⟨b0, b1, b2, f0, f1, f2⟩ := B0.cells
  obtain ⟨o0, o1⟩ := O0.cells
  obtain ⟨r0, r1, r2, g0, g1, g2⟩ := R0.cells
  have hu2 : (u2.toList == [48]) = false := by simpa using hu
  go_enter Tryz.func43, Tryz.ntmps43
  go_wp2_with fail
  refine (VA.out _ hb0).mono ?_
  rintro e w1 ⟨rfl, h1⟩
  have hb1 := Nb hb0 h1
  have A1 := A0.bt h1
  have B1 := B0.bt h1
  have R1 := R0.bt h1
  have O1 := O0.bt h1
  clear hb0 A0 B0 R0 O0 h1 a0 a1 a2 b0 b1 b2 f0 f1 f2 o0 o1 r0 r1 r2 g0 g1 g2
  obtain ⟨a0, a1, a2, _, _, _⟩ := A1.cells
  obtain ⟨b0, b1, b2, f0, f1, f2⟩ := B1.cells
  obtain ⟨o0, o1⟩ := O1.cells
  obtain ⟨r0, r1, r2, g0, g1, g2⟩ := R1.cells
  go_wp2_with fail
  refine (VB.out _ hb1).mono ?_
  rintro e w2 ⟨rfl, h2⟩
  have hb2 := Nb hb1 h2
  have A2 := A1.bt h2
  have B2 := B1.bt h2
  have R2 := R1.bt h2
  have O2 := O1.bt h2
  clear hb1 A1 B1 R1 O1 h2 a0 a1 a2 b0 b1 b2 f0 f1 f2 o0 o1 r0 r1 r2 g0 g1 g2
  obtain ⟨a0, a1, a2, _, _, _⟩ := A2.cells
  obtain ⟨b0, b1, b2, f0, f1, f2⟩ := B2.cells
  obtain ⟨o0, o1⟩ := O2.cells
  obtain ⟨r0, r1, r2, g0, g1, g2⟩ := R2.cells
  go_wp2_with fail
  refine (TN.out _ hb2).mono ?_
  rintro e w3 ⟨rfl, h3⟩
  have hb3 := Nb hb2 h3
  have A3 := A2.bt h3
  have B3 := B2.bt h3
  have R3 := R2.bt h3
  have O3 := O2.bt h3
  clear hb2 A2 B2 R2 O2 h3 a0 a1 a2 b0 b1 b2 f0 f1 f2 o0 o1 r0 r1 r2 g0 g1 g2
  obtain ⟨a0, a1, a2, _, _, _⟩ := A3.cells
  obtain ⟨b0, b1, b2, f0, f1, f2⟩ := B3.cells
  obtain ⟨o0, o1⟩ := O3.cells
  obtain ⟨r0, r1, r2, g0, g1, g2⟩ := R3.cells
  have hb4 := Bset2 hb3 (b := w.heap.size + 1 + 1) (by omega) (.bool t2) (.string y2) (.string u2)
  have A4 := A3.far (b := w.heap.size + 1 + 1) (by omega) (t2, y2, u2)
  have B4 := B3.set t2 y2 u2
  have R4 := R3.far (b := w.heap.size + 1 + 1) (by omega) (t2, y2, u2)
  have O4 := O3.far (b := w.heap.size + 1 + 1) (by omega) (t2, y2, u2)
  obtain ⟨a0, a1, a2, _, _, _⟩ := A4.cells
  obtain ⟨b0, b1, b2, f0, f1, f2⟩ := B4.cells
  obtain ⟨o0, o1⟩ := O4.cells
  obtain ⟨r0, r1, r2, g0, g1, g2⟩ := R4.cells
  go_wp2_with fail
  refine (LA.out _ hb4).mono ?_
  rintro e w5 ⟨rfl, h5⟩
  have hb5 := Nb hb4 h5
  have A5 := A4.bt h5
  have B5 := B4.bt h5
  have R5 := R4.bt h5
  have O5 := O4.bt h5
  clear hb4 A4 B4 R4 O4 h5 a0 a1 a2 b0 b1 b2 f0 f1 f2 o0 o1 r0 r1 r2 g0 g1 g2
  obtain ⟨a0, a1, a2, _, _, _⟩ := A5.cells
  obtain ⟨b0, b1, b2, f0, f1, f2⟩ := B5.cells
  obtain ⟨o0, o1⟩ := O5.cells
  obtain ⟨r0, r1, r2, g0, g1, g2⟩ := R5.cells
  go_wp2_with fail
  exact bodyPost_ret (out2 Tryz.results43 _ _ _ _ _ rfl rfl (R5.set _ _ _)) rfl ⟨rfl, Bset2 hb5 (by omega) _ _ _⟩

set_option maxHeartbeats 1000000 in
theorem of_long2_add (s t : Bool) (x z y u : ByteArray) (t2 : Bool) (y2 u2 : ByteArray) (w : World)
    (VA : Hid (∀ v, Below w.heap.size w v → Calls Tryz.prog 16 #[rV (s, x, z)] v fun e w' => e = .returned (.bool true) ∧ Below v.heap.size v w'))
    (VB : Hid (∀ v, Below w.heap.size w v → Calls Tryz.prog 16 #[rV (t, y, u)] v fun e w' => e = .returned (.bool true) ∧ Below v.heap.size v w'))
    (TN : Hid (∀ v, Below w.heap.size w v → Calls Tryz.prog 41 #[rV (t, y, u)] v fun e w' => e = .returned (rV (t2, y2, u2)) ∧ Below v.heap.size v w'))
    (hu : u2.toList ≠ [48])
    (LA : Hid (∀ v, Below w.heap.size w v → Calls Tryz.prog 69 #[rV (s, x, z)] v fun e w' => e = .returned (.bool false) ∧ Below v.heap.size v w'))
    (LB : Hid (∀ v, Below w.heap.size w v → Calls Tryz.prog 69 #[rV (t2, y2, u2)] v fun e w' => e = .returned (.bool true) ∧ Below v.heap.size v w')) :
    Calls Tryz.prog 43 #[oV 41 42, rV (s, x, z), rV (t, y, u)] w fun e w' => e = .returned (.tuple #[rV zeroR, .int .i64 2]) ∧ Below w.heap.size w w' := by
  obtain ⟨hb0, A0, B0, R0, O0⟩ := start4o w 41 42 (s, x, z) (t, y, u) (false, nil', nil') _ rfl
  unfold oo ob nil' at hb0 A0 B0 R0 O0
  unfold rV at *
  unfold oV
  simp only at *
  obtain ⟨a0, a1, a2, _, _, _⟩ := A0.cells
  obtain ⟨b0, b1, b2, f0, f1, f2⟩ := B0.cells
  obtain ⟨o0, o1⟩ := O0.cells
  obtain ⟨r0, r1, r2, g0, g1, g2⟩ := R0.cells
  have hu2 : (u2.toList == [48]) = false := by simpa using hu
  go_enter Tryz.func43, Tryz.ntmps43
  go_wp2_with fail
  refine (VA.out _ hb0).mono ?_
  rintro e w1 ⟨rfl, h1⟩
  have hb1 := Nb hb0 h1
  have A1 := A0.bt h1
  have B1 := B0.bt h1
  have R1 := R0.bt h1
  have O1 := O0.bt h1
  clear hb0 A0 B0 R0 O0 h1 a0 a1 a2 b0 b1 b2 f0 f1 f2 o0 o1 r0 r1 r2 g0 g1 g2
  obtain ⟨a0, a1, a2, _, _, _⟩ := A1.cells
  obtain ⟨b0, b1, b2, f0, f1, f2⟩ := B1.cells
  obtain ⟨o0, o1⟩ := O1.cells
  obtain ⟨r0, r1, r2, g0, g1, g2⟩ := R1.cells
  go_wp2_with fail
  refine (VB.out _ hb1).mono ?_
  rintro e w2 ⟨rfl, h2⟩
  have hb2 := Nb hb1 h2
  have A2 := A1.bt h2
  have B2 := B1.bt h2
  have R2 := R1.bt h2
  have O2 := O1.bt h2
  clear hb1 A1 B1 R1 O1 h2 a0 a1 a2 b0 b1 b2 f0 f1 f2 o0 o1 r0 r1 r2 g0 g1 g2
  obtain ⟨a0, a1, a2, _, _, _⟩ := A2.cells
  obtain ⟨b0, b1, b2, f0, f1, f2⟩ := B2.cells
  obtain ⟨o0, o1⟩ := O2.cells
  obtain ⟨r0, r1, r2, g0, g1, g2⟩ := R2.cells
  go_wp2_with fail
  refine (TN.out _ hb2).mono ?_
  rintro e w3 ⟨rfl, h3⟩
  have hb3 := Nb hb2 h3
  have A3 := A2.bt h3
  have B3 := B2.bt h3
  have R3 := R2.bt h3
  have O3 := O2.bt h3
  clear hb2 A2 B2 R2 O2 h3 a0 a1 a2 b0 b1 b2 f0 f1 f2 o0 o1 r0 r1 r2 g0 g1 g2
  obtain ⟨a0, a1, a2, _, _, _⟩ := A3.cells
  obtain ⟨b0, b1, b2, f0, f1, f2⟩ := B3.cells
  obtain ⟨o0, o1⟩ := O3.cells
  obtain ⟨r0, r1, r2, g0, g1, g2⟩ := R3.cells
  have hb4 := Bset2 hb3 (b := w.heap.size + 1 + 1) (by omega) (.bool t2) (.string y2) (.string u2)
  have A4 := A3.far (b := w.heap.size + 1 + 1) (by omega) (t2, y2, u2)
  have B4 := B3.set t2 y2 u2
  have R4 := R3.far (b := w.heap.size + 1 + 1) (by omega) (t2, y2, u2)
  have O4 := O3.far (b := w.heap.size + 1 + 1) (by omega) (t2, y2, u2)
  obtain ⟨a0, a1, a2, _, _, _⟩ := A4.cells
  obtain ⟨b0, b1, b2, f0, f1, f2⟩ := B4.cells
  obtain ⟨o0, o1⟩ := O4.cells
  obtain ⟨r0, r1, r2, g0, g1, g2⟩ := R4.cells
  go_wp2_with fail
  refine (LA.out _ hb4).mono ?_
  rintro e w5 ⟨rfl, h5⟩
  have hb5 := Nb hb4 h5
  have A5 := A4.bt h5
  have B5 := B4.bt h5
  have R5 := R4.bt h5
  have O5 := O4.bt h5
  clear hb4 A4 B4 R4 O4 h5 a0 a1 a2 b0 b1 b2 f0 f1 f2 o0 o1 r0 r1 r2 g0 g1 g2
  obtain ⟨a0, a1, a2, _, _, _⟩ := A5.cells
  obtain ⟨b0, b1, b2, f0, f1, f2⟩ := B5.cells
  obtain ⟨o0, o1⟩ := O5.cells
  obtain ⟨r0, r1, r2, g0, g1, g2⟩ := R5.cells
  go_wp2_with fail
  refine (LB.out _ hb5).mono ?_
  rintro e w6 ⟨rfl, h6⟩
  have hb6 := Nb hb5 h6
  have A6 := A5.bt h6
  have B6 := B5.bt h6
  have R6 := R5.bt h6
  have O6 := O5.bt h6
  clear hb5 A5 B5 R5 O5 h6 a0 a1 a2 b0 b1 b2 f0 f1 f2 o0 o1 r0 r1 r2 g0 g1 g2
  obtain ⟨a0, a1, a2, _, _, _⟩ := A6.cells
  obtain ⟨b0, b1, b2, f0, f1, f2⟩ := B6.cells
  obtain ⟨o0, o1⟩ := O6.cells
  obtain ⟨r0, r1, r2, g0, g1, g2⟩ := R6.cells
  go_wp2_with fail
  exact bodyPost_ret (out2 Tryz.results43 _ _ _ _ _ rfl rfl (R6.set _ _ _)) rfl ⟨rfl, Bset2 hb6 (by omega) _ _ _⟩

set_option maxHeartbeats 1000000 in
theorem of_ok_add (s t : Bool) (x z y u : ByteArray) (t2 : Bool) (y2 u2 : ByteArray) (s3 : Bool) (x3 y3 : ByteArray) (w : World)
    (VA : Hid (∀ v, Below w.heap.size w v → Calls Tryz.prog 16 #[rV (s, x, z)] v fun e w' => e = .returned (.bool true) ∧ Below v.heap.size v w'))
    (VB : Hid (∀ v, Below w.heap.size w v → Calls Tryz.prog 16 #[rV (t, y, u)] v fun e w' => e = .returned (.bool true) ∧ Below v.heap.size v w'))
    (TN : Hid (∀ v, Below w.heap.size w v → Calls Tryz.prog 41 #[rV (t, y, u)] v fun e w' => e = .returned (rV (t2, y2, u2)) ∧ Below v.heap.size v w'))
    (hu : u2.toList ≠ [48])
    (LA : Hid (∀ v, Below w.heap.size w v → Calls Tryz.prog 69 #[rV (s, x, z)] v fun e w' => e = .returned (.bool false) ∧ Below v.heap.size v w'))
    (LB : Hid (∀ v, Below w.heap.size w v → Calls Tryz.prog 69 #[rV (t2, y2, u2)] v fun e w' => e = .returned (.bool false) ∧ Below v.heap.size v w'))
    (JN : Hid (∀ v, Below w.heap.size w v → Calls Tryz.prog 42 #[rV (s, x, z), rV (t2, y2, u2)] v fun e w' => e = .returned (.tuple #[rV (s3, x3, y3), .int .i64 0]) ∧ Below v.heap.size v w')) :
    Calls Tryz.prog 43 #[oV 41 42, rV (s, x, z), rV (t, y, u)] w fun e w' => e = .returned (.tuple #[rV (s3, x3, y3), .int .i64 0]) ∧ Below w.heap.size w w' := by
  obtain ⟨hb0, A0, B0, R0, O0⟩ := start4o w 41 42 (s, x, z) (t, y, u) (false, nil', nil') _ rfl
  unfold oo ob nil' at hb0 A0 B0 R0 O0
  unfold rV at *
  unfold oV
  simp only at *
  obtain ⟨a0, a1, a2, _, _, _⟩ := A0.cells
  obtain ⟨b0, b1, b2, f0, f1, f2⟩ := B0.cells
  obtain ⟨o0, o1⟩ := O0.cells
  obtain ⟨r0, r1, r2, g0, g1, g2⟩ := R0.cells
  have hu2 : (u2.toList == [48]) = false := by simpa using hu
  go_enter Tryz.func43, Tryz.ntmps43
  go_wp2_with fail
  refine (VA.out _ hb0).mono ?_
  rintro e w1 ⟨rfl, h1⟩
  have hb1 := Nb hb0 h1
  have A1 := A0.bt h1
  have B1 := B0.bt h1
  have R1 := R0.bt h1
  have O1 := O0.bt h1
  clear hb0 A0 B0 R0 O0 h1 a0 a1 a2 b0 b1 b2 f0 f1 f2 o0 o1 r0 r1 r2 g0 g1 g2
  obtain ⟨a0, a1, a2, _, _, _⟩ := A1.cells
  obtain ⟨b0, b1, b2, f0, f1, f2⟩ := B1.cells
  obtain ⟨o0, o1⟩ := O1.cells
  obtain ⟨r0, r1, r2, g0, g1, g2⟩ := R1.cells
  go_wp2_with fail
  refine (VB.out _ hb1).mono ?_
  rintro e w2 ⟨rfl, h2⟩
  have hb2 := Nb hb1 h2
  have A2 := A1.bt h2
  have B2 := B1.bt h2
  have R2 := R1.bt h2
  have O2 := O1.bt h2
  clear hb1 A1 B1 R1 O1 h2 a0 a1 a2 b0 b1 b2 f0 f1 f2 o0 o1 r0 r1 r2 g0 g1 g2
  obtain ⟨a0, a1, a2, _, _, _⟩ := A2.cells
  obtain ⟨b0, b1, b2, f0, f1, f2⟩ := B2.cells
  obtain ⟨o0, o1⟩ := O2.cells
  obtain ⟨r0, r1, r2, g0, g1, g2⟩ := R2.cells
  go_wp2_with fail
  refine (TN.out _ hb2).mono ?_
  rintro e w3 ⟨rfl, h3⟩
  have hb3 := Nb hb2 h3
  have A3 := A2.bt h3
  have B3 := B2.bt h3
  have R3 := R2.bt h3
  have O3 := O2.bt h3
  clear hb2 A2 B2 R2 O2 h3 a0 a1 a2 b0 b1 b2 f0 f1 f2 o0 o1 r0 r1 r2 g0 g1 g2
  obtain ⟨a0, a1, a2, _, _, _⟩ := A3.cells
  obtain ⟨b0, b1, b2, f0, f1, f2⟩ := B3.cells
  obtain ⟨o0, o1⟩ := O3.cells
  obtain ⟨r0, r1, r2, g0, g1, g2⟩ := R3.cells
  have hb4 := Bset2 hb3 (b := w.heap.size + 1 + 1) (by omega) (.bool t2) (.string y2) (.string u2)
  have A4 := A3.far (b := w.heap.size + 1 + 1) (by omega) (t2, y2, u2)
  have B4 := B3.set t2 y2 u2
  have R4 := R3.far (b := w.heap.size + 1 + 1) (by omega) (t2, y2, u2)
  have O4 := O3.far (b := w.heap.size + 1 + 1) (by omega) (t2, y2, u2)
  obtain ⟨a0, a1, a2, _, _, _⟩ := A4.cells
  obtain ⟨b0, b1, b2, f0, f1, f2⟩ := B4.cells
  obtain ⟨o0, o1⟩ := O4.cells
  obtain ⟨r0, r1, r2, g0, g1, g2⟩ := R4.cells
  go_wp2_with fail
  refine (LA.out _ hb4).mono ?_
  rintro e w5 ⟨rfl, h5⟩
  have hb5 := Nb hb4 h5
  have A5 := A4.bt h5
  have B5 := B4.bt h5
  have R5 := R4.bt h5
  have O5 := O4.bt h5
  clear hb4 A4 B4 R4 O4 h5 a0 a1 a2 b0 b1 b2 f0 f1 f2 o0 o1 r0 r1 r2 g0 g1 g2
  obtain ⟨a0, a1, a2, _, _, _⟩ := A5.cells
  obtain ⟨b0, b1, b2, f0, f1, f2⟩ := B5.cells
  obtain ⟨o0, o1⟩ := O5.cells
  obtain ⟨r0, r1, r2, g0, g1, g2⟩ := R5.cells
  go_wp2_with fail
  refine (LB.out _ hb5).mono ?_
  rintro e w6 ⟨rfl, h6⟩
  have hb6 := Nb hb5 h6
  have A6 := A5.bt h6
  have B6 := B5.bt h6
  have R6 := R5.bt h6
  have O6 := O5.bt h6
  clear hb5 A5 B5 R5 O5 h6 a0 a1 a2 b0 b1 b2 f0 f1 f2 o0 o1 r0 r1 r2 g0 g1 g2
  obtain ⟨a0, a1, a2, _, _, _⟩ := A6.cells
  obtain ⟨b0, b1, b2, f0, f1, f2⟩ := B6.cells
  obtain ⟨o0, o1⟩ := O6.cells
  obtain ⟨r0, r1, r2, g0, g1, g2⟩ := R6.cells
  go_wp2_with fail
  refine (JN.out _ hb6).mono ?_
  rintro e w7 ⟨rfl, h7⟩
  have hb7 := Nb hb6 h7
  have A7 := A6.bt h7
  have B7 := B6.bt h7
  have R7 := R6.bt h7
  have O7 := O6.bt h7
  clear hb6 A6 B6 R6 O6 h7 a0 a1 a2 b0 b1 b2 f0 f1 f2 o0 o1 r0 r1 r2 g0 g1 g2
  obtain ⟨a0, a1, a2, _, _, _⟩ := A7.cells
  obtain ⟨b0, b1, b2, f0, f1, f2⟩ := B7.cells
  obtain ⟨o0, o1⟩ := O7.cells
  obtain ⟨r0, r1, r2, g0, g1, g2⟩ := R7.cells
  go_wp2_with fail
  exact bodyPost_ret (out2 Tryz.results43 _ _ _ _ _ rfl rfl (R7.set _ _ _)) rfl ⟨rfl, Bset2 hb7 (by omega) _ _ _⟩
end Go.Proofs.YtmnnaaifebajnaaGreatDoor
