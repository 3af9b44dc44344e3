/- The reference of layer 5: Compare and Floor. Printed by gen/rr_g.py. -/
import Derived.Test.YtmnnaaifebajnaaGreatDoorRrF
set_option linter.unusedSimpArgs false
set_option linter.unusedVariables false
namespace Go.Proofs.YtmnnaaifebajnaaGreatDoor
open Go.RowKit
open Ra (Fit)
set_option maxRecDepth 100000

set_option maxHeartbeats 1000000 in
theorem rfl_no (n d : ByteArray) (s : Bool) (w : World)
    (V : Hid (∀ v, Calls Tryz.prog 17 #[rV (s, n, d)] v fun e w' => e = .returned (.bool false) ∧ Below v.heap.size v w')) :
    Calls Tryz.prog 27 #[rV (s, n, d)] w fun e w' => e = .returned (.tuple #[.int .i64 0, .int .i64 1]) ∧ Below w.heap.size w w' := by
  have hb0 := al w (.cells #[.bool s, .string n, .string d] 23)
  have A0 := At.new w s n d
  unfold rV at V ⊢
  simp only at V ⊢
  obtain ⟨a0, a1, a2, _, _, _⟩ := A0.cells
  go_enter Tryz.func27, Tryz.ntmps27
  go_wp2_with fail
  refine (V.out _).mono ?_
  rintro e w1 ⟨rfl, g1⟩
  have hb1 := Nb hb0 g1
  have A1 := A0.bt g1
  clear a0 a1 a2 A0 hb0 g1
  obtain ⟨a0, a1, a2, _, _, _⟩ := A1.cells
  go_wp2_with fail
  go_ret2
  exact ⟨rfl, hb1⟩

set_option maxHeartbeats 1000000 in
theorem rfl_pos (n d : ByteArray) (q r : ByteArray) (k : Int) (w : World)
    (V : Hid (∀ v, Calls Tryz.prog 17 #[rV (false, n, d)] v fun e w' => e = .returned (.bool true) ∧ Below v.heap.size v w'))
    (DV : Hid (∀ v, Calls Tryz.prog 58 #[.string n, .string d] v fun e w' => e = .returned (.tuple #[.string q, .string r, .int .i64 0]) ∧ Below v.heap.size v w'))
    (I : Hid (∀ v, Calls Tryz.prog 59 #[.string q] v fun e w' => e = .returned (.tuple #[.int .i64 k, .int .i64 0]) ∧ Below v.heap.size v w')) :
    Calls Tryz.prog 27 #[rV (false, n, d)] w fun e w' => e = .returned (.tuple #[.int .i64 k, .int .i64 0]) ∧ Below w.heap.size w w' := by
  have hb0 := al w (.cells #[.bool false, .string n, .string d] 23)
  have A0 := At.new w false n d
  unfold rV at V ⊢
  simp only at V ⊢
  obtain ⟨a0, a1, a2, _, _, _⟩ := A0.cells
  go_enter Tryz.func27, Tryz.ntmps27
  go_wp2_with fail
  refine (V.out _).mono ?_
  rintro e w1 ⟨rfl, g1⟩
  have hb1 := Nb hb0 g1
  have A1 := A0.bt g1
  clear a0 a1 a2 A0 hb0 g1
  obtain ⟨a0, a1, a2, _, _, _⟩ := A1.cells
  go_wp2_with fail
  refine (DV.out _).mono ?_
  rintro e w2 ⟨rfl, g2⟩
  have hb2 := Nb hb1 g2
  have A2 := A1.bt g2
  clear a0 a1 a2 A1 hb1 g2
  obtain ⟨a0, a1, a2, _, _, _⟩ := A2.cells
  go_wp2_with fail
  refine (I.out _).mono ?_
  rintro e w3 ⟨rfl, g3⟩
  have hb3 := Nb hb2 g3
  have A3 := A2.bt g3
  clear a0 a1 a2 A2 hb2 g3
  obtain ⟨a0, a1, a2, _, _, _⟩ := A3.cells
  go_wp2_with fail
  go_ret2
  exact ⟨rfl, hb3⟩

set_option maxHeartbeats 1000000 in
theorem rfl_posbad (n d : ByteArray) (q r : ByteArray) (w : World)
    (V : Hid (∀ v, Calls Tryz.prog 17 #[rV (false, n, d)] v fun e w' => e = .returned (.bool true) ∧ Below v.heap.size v w'))
    (DV : Hid (∀ v, Calls Tryz.prog 58 #[.string n, .string d] v fun e w' => e = .returned (.tuple #[.string q, .string r, .int .i64 0]) ∧ Below v.heap.size v w'))
    (I : Hid (∀ v, Calls Tryz.prog 59 #[.string q] v fun e w' => e = .returned (.tuple #[.int .i64 0, .int .i64 10]) ∧ Below v.heap.size v w')) :
    Calls Tryz.prog 27 #[rV (false, n, d)] w fun e w' => e = .returned (.tuple #[.int .i64 0, .int .i64 10]) ∧ Below w.heap.size w w' := by
  have hb0 := al w (.cells #[.bool false, .string n, .string d] 23)
  have A0 := At.new w false n d
  unfold rV at V ⊢
  simp only at V ⊢
  obtain ⟨a0, a1, a2, _, _, _⟩ := A0.cells
  go_enter Tryz.func27, Tryz.ntmps27
  go_wp2_with fail
  refine (V.out _).mono ?_
  rintro e w1 ⟨rfl, g1⟩
  have hb1 := Nb hb0 g1
  have A1 := A0.bt g1
  clear a0 a1 a2 A0 hb0 g1
  obtain ⟨a0, a1, a2, _, _, _⟩ := A1.cells
  go_wp2_with fail
  refine (DV.out _).mono ?_
  rintro e w2 ⟨rfl, g2⟩
  have hb2 := Nb hb1 g2
  have A2 := A1.bt g2
  clear a0 a1 a2 A1 hb1 g2
  obtain ⟨a0, a1, a2, _, _, _⟩ := A2.cells
  go_wp2_with fail
  refine (I.out _).mono ?_
  rintro e w3 ⟨rfl, g3⟩
  have hb3 := Nb hb2 g3
  have A3 := A2.bt g3
  clear a0 a1 a2 A2 hb2 g3
  obtain ⟨a0, a1, a2, _, _, _⟩ := A3.cells
  go_wp2_with fail
  go_ret2
  exact ⟨rfl, hb3⟩

set_option maxHeartbeats 1000000 in
theorem rfl_neg0 (n d : ByteArray) (q r p : ByteArray) (k : Int) (z : (r.toList == [48]) = true) (hk : 0 ≤ k ∧ k ≤ 9223372036854775807) (w : World)
    (V : Hid (∀ v, Calls Tryz.prog 17 #[rV (true, n, d)] v fun e w' => e = .returned (.bool true) ∧ Below v.heap.size v w'))
    (DV : Hid (∀ v, Calls Tryz.prog 58 #[.string n, .string d] v fun e w' => e = .returned (.tuple #[.string q, .string r, .int .i64 0]) ∧ Below v.heap.size v w'))
    (SB : Hid (∀ v, Calls Tryz.prog 48 #[.string q, .string ⟨#[49]⟩] v fun e w' => e = .returned (.tuple #[.string p, .int .i64 0]) ∧ Below v.heap.size v w'))
    (I : Hid (∀ v, Calls Tryz.prog 59 #[.string p] v fun e w' => e = .returned (.tuple #[.int .i64 k, .int .i64 0]) ∧ Below v.heap.size v w')) :
    Calls Tryz.prog 27 #[rV (true, n, d)] w fun e w' => e = .returned (.tuple #[.int .i64 (-k - 1), .int .i64 0]) ∧ Below w.heap.size w w' := by
  have hb0 := al w (.cells #[.bool true, .string n, .string d] 23)
  have A0 := At.new w true n d
  unfold rV at V ⊢
  simp only at V ⊢
  obtain ⟨a0, a1, a2, _, _, _⟩ := A0.cells
  go_enter Tryz.func27, Tryz.ntmps27
  go_wp2_with fail
  refine (V.out _).mono ?_
  rintro e w1 ⟨rfl, g1⟩
  have hb1 := Nb hb0 g1
  have A1 := A0.bt g1
  clear a0 a1 a2 A0 hb0 g1
  obtain ⟨a0, a1, a2, _, _, _⟩ := A1.cells
  go_wp2_with fail
  refine (DV.out _).mono ?_
  rintro e w2 ⟨rfl, g2⟩
  have hb2 := Nb hb1 g2
  have A2 := A1.bt g2
  clear a0 a1 a2 A1 hb1 g2
  obtain ⟨a0, a1, a2, _, _, _⟩ := A2.cells
  go_wp2_with fail
  refine (SB.out _).mono ?_
  rintro e w3 ⟨rfl, g3⟩
  have hb3 := Nb hb2 g3
  have A3 := A2.bt g3
  clear a0 a1 a2 A2 hb2 g3
  obtain ⟨a0, a1, a2, _, _, _⟩ := A3.cells
  go_wp2_with fail
  refine (I.out _).mono ?_
  rintro e w4 ⟨rfl, g4⟩
  have hb4 := Nb hb3 g4
  have A4 := A3.bt g4
  clear a0 a1 a2 A3 hb3 g4
  obtain ⟨a0, a1, a2, _, _, _⟩ := A4.cells
  go_wp2_with fail
  go_ret2
  exact ⟨rfl, hb4⟩

set_option maxHeartbeats 1000000 in
theorem rfl_neg0bad (n d : ByteArray) (q r p : ByteArray) (z : (r.toList == [48]) = true) (w : World)
    (V : Hid (∀ v, Calls Tryz.prog 17 #[rV (true, n, d)] v fun e w' => e = .returned (.bool true) ∧ Below v.heap.size v w'))
    (DV : Hid (∀ v, Calls Tryz.prog 58 #[.string n, .string d] v fun e w' => e = .returned (.tuple #[.string q, .string r, .int .i64 0]) ∧ Below v.heap.size v w'))
    (SB : Hid (∀ v, Calls Tryz.prog 48 #[.string q, .string ⟨#[49]⟩] v fun e w' => e = .returned (.tuple #[.string p, .int .i64 0]) ∧ Below v.heap.size v w'))
    (I : Hid (∀ v, Calls Tryz.prog 59 #[.string p] v fun e w' => e = .returned (.tuple #[.int .i64 0, .int .i64 10]) ∧ Below v.heap.size v w')) :
    Calls Tryz.prog 27 #[rV (true, n, d)] w fun e w' => e = .returned (.tuple #[.int .i64 0, .int .i64 10]) ∧ Below w.heap.size w w' := by
  have hb0 := al w (.cells #[.bool true, .string n, .string d] 23)
  have A0 := At.new w true n d
  unfold rV at V ⊢
  simp only at V ⊢
  obtain ⟨a0, a1, a2, _, _, _⟩ := A0.cells
  go_enter Tryz.func27, Tryz.ntmps27
  go_wp2_with fail
  refine (V.out _).mono ?_
  rintro e w1 ⟨rfl, g1⟩
  have hb1 := Nb hb0 g1
  have A1 := A0.bt g1
  clear a0 a1 a2 A0 hb0 g1
  obtain ⟨a0, a1, a2, _, _, _⟩ := A1.cells
  go_wp2_with fail
  refine (DV.out _).mono ?_
  rintro e w2 ⟨rfl, g2⟩
  have hb2 := Nb hb1 g2
  have A2 := A1.bt g2
  clear a0 a1 a2 A1 hb1 g2
  obtain ⟨a0, a1, a2, _, _, _⟩ := A2.cells
  go_wp2_with fail
  refine (SB.out _).mono ?_
  rintro e w3 ⟨rfl, g3⟩
  have hb3 := Nb hb2 g3
  have A3 := A2.bt g3
  clear a0 a1 a2 A2 hb2 g3
  obtain ⟨a0, a1, a2, _, _, _⟩ := A3.cells
  go_wp2_with fail
  refine (I.out _).mono ?_
  rintro e w4 ⟨rfl, g4⟩
  have hb4 := Nb hb3 g4
  have A4 := A3.bt g4
  clear a0 a1 a2 A3 hb3 g4
  obtain ⟨a0, a1, a2, _, _, _⟩ := A4.cells
  go_wp2_with fail
  go_ret2
  exact ⟨rfl, hb4⟩

set_option maxHeartbeats 1000000 in
theorem rfl_neg1 (n d : ByteArray) (q q2 r p : ByteArray) (k : Int) (z : (r.toList == [48]) = false) (hk : 0 ≤ k ∧ k ≤ 9223372036854775807) (w : World)
    (V : Hid (∀ v, Calls Tryz.prog 17 #[rV (true, n, d)] v fun e w' => e = .returned (.bool true) ∧ Below v.heap.size v w'))
    (DV : Hid (∀ v, Calls Tryz.prog 58 #[.string n, .string d] v fun e w' => e = .returned (.tuple #[.string q, .string r, .int .i64 0]) ∧ Below v.heap.size v w'))
    (AD : Hid (∀ v, Calls Tryz.prog 46 #[.string q, .string ⟨#[49]⟩] v fun e w' => e = .returned (.tuple #[.string q2, .int .i64 0]) ∧ Below v.heap.size v w'))
    (SB : Hid (∀ v, Calls Tryz.prog 48 #[.string q2, .string ⟨#[49]⟩] v fun e w' => e = .returned (.tuple #[.string p, .int .i64 0]) ∧ Below v.heap.size v w'))
    (I : Hid (∀ v, Calls Tryz.prog 59 #[.string p] v fun e w' => e = .returned (.tuple #[.int .i64 k, .int .i64 0]) ∧ Below v.heap.size v w')) :
    Calls Tryz.prog 27 #[rV (true, n, d)] w fun e w' => e = .returned (.tuple #[.int .i64 (-k - 1), .int .i64 0]) ∧ Below w.heap.size w w' := by
  have hb0 := al w (.cells #[.bool true, .string n, .string d] 23)
  have A0 := At.new w true n d
  unfold rV at V ⊢
  simp only at V ⊢
  obtain ⟨a0, a1, a2, _, _, _⟩ := A0.cells
  go_enter Tryz.func27, Tryz.ntmps27
  go_wp2_with fail
  refine (V.out _).mono ?_
  rintro e w1 ⟨rfl, g1⟩
  have hb1 := Nb hb0 g1
  have A1 := A0.bt g1
  clear a0 a1 a2 A0 hb0 g1
  obtain ⟨a0, a1, a2, _, _, _⟩ := A1.cells
  go_wp2_with fail
  refine (DV.out _).mono ?_
  rintro e w2 ⟨rfl, g2⟩
  have hb2 := Nb hb1 g2
  have A2 := A1.bt g2
  clear a0 a1 a2 A1 hb1 g2
  obtain ⟨a0, a1, a2, _, _, _⟩ := A2.cells
  go_wp2_with fail
  refine (AD.out _).mono ?_
  rintro e w3 ⟨rfl, g3⟩
  have hb3 := Nb hb2 g3
  have A3 := A2.bt g3
  clear a0 a1 a2 A2 hb2 g3
  obtain ⟨a0, a1, a2, _, _, _⟩ := A3.cells
  go_wp2_with fail
  refine (SB.out _).mono ?_
  rintro e w4 ⟨rfl, g4⟩
  have hb4 := Nb hb3 g4
  have A4 := A3.bt g4
  clear a0 a1 a2 A3 hb3 g4
  obtain ⟨a0, a1, a2, _, _, _⟩ := A4.cells
  go_wp2_with fail
  refine (I.out _).mono ?_
  rintro e w5 ⟨rfl, g5⟩
  have hb5 := Nb hb4 g5
  have A5 := A4.bt g5
  clear a0 a1 a2 A4 hb4 g5
  obtain ⟨a0, a1, a2, _, _, _⟩ := A5.cells
  go_wp2_with fail
  go_ret2
  exact ⟨rfl, hb5⟩

set_option maxHeartbeats 1000000 in
theorem rfl_neg1bad (n d : ByteArray) (q q2 r p : ByteArray) (z : (r.toList == [48]) = false) (w : World)
    (V : Hid (∀ v, Calls Tryz.prog 17 #[rV (true, n, d)] v fun e w' => e = .returned (.bool true) ∧ Below v.heap.size v w'))
    (DV : Hid (∀ v, Calls Tryz.prog 58 #[.string n, .string d] v fun e w' => e = .returned (.tuple #[.string q, .string r, .int .i64 0]) ∧ Below v.heap.size v w'))
    (AD : Hid (∀ v, Calls Tryz.prog 46 #[.string q, .string ⟨#[49]⟩] v fun e w' => e = .returned (.tuple #[.string q2, .int .i64 0]) ∧ Below v.heap.size v w'))
    (SB : Hid (∀ v, Calls Tryz.prog 48 #[.string q2, .string ⟨#[49]⟩] v fun e w' => e = .returned (.tuple #[.string p, .int .i64 0]) ∧ Below v.heap.size v w'))
    (I : Hid (∀ v, Calls Tryz.prog 59 #[.string p] v fun e w' => e = .returned (.tuple #[.int .i64 0, .int .i64 10]) ∧ Below v.heap.size v w')) :
    Calls Tryz.prog 27 #[rV (true, n, d)] w fun e w' => e = .returned (.tuple #[.int .i64 0, .int .i64 10]) ∧ Below w.heap.size w w' := by
  have hb0 := al w (.cells #[.bool true, .string n, .string d] 23)
  have A0 := At.new w true n d
  unfold rV at V ⊢
  simp only at V ⊢
  obtain ⟨a0, a1, a2, _, _, _⟩ := A0.cells
  go_enter Tryz.func27, Tryz.ntmps27
  go_wp2_with fail
  refine (V.out _).mono ?_
  rintro e w1 ⟨rfl, g1⟩
  have hb1 := Nb hb0 g1
  have A1 := A0.bt g1
  clear a0 a1 a2 A0 hb0 g1
  obtain ⟨a0, a1, a2, _, _, _⟩ := A1.cells
  go_wp2_with fail
  refine (DV.out _).mono ?_
  rintro e w2 ⟨rfl, g2⟩
  have hb2 := Nb hb1 g2
  have A2 := A1.bt g2
  clear a0 a1 a2 A1 hb1 g2
  obtain ⟨a0, a1, a2, _, _, _⟩ := A2.cells
  go_wp2_with fail
  refine (AD.out _).mono ?_
  rintro e w3 ⟨rfl, g3⟩
  have hb3 := Nb hb2 g3
  have A3 := A2.bt g3
  clear a0 a1 a2 A2 hb2 g3
  obtain ⟨a0, a1, a2, _, _, _⟩ := A3.cells
  go_wp2_with fail
  refine (SB.out _).mono ?_
  rintro e w4 ⟨rfl, g4⟩
  have hb4 := Nb hb3 g4
  have A4 := A3.bt g4
  clear a0 a1 a2 A3 hb3 g4
  obtain ⟨a0, a1, a2, _, _, _⟩ := A4.cells
  go_wp2_with fail
  refine (I.out _).mono ?_
  rintro e w5 ⟨rfl, g5⟩
  have hb5 := Nb hb4 g5
  have A5 := A4.bt g5
  clear a0 a1 a2 A4 hb4 g5
  obtain ⟨a0, a1, a2, _, _, _⟩ := A5.cells
  go_wp2_with fail
  go_ret2
  exact ⟨rfl, hb5⟩

set_option maxHeartbeats 1000000 in
theorem rcm_err (a b : R3) (s3 : Bool) (n3 d3 : ByteArray) (n : Int) (he : n ≠ 0) (he2 : (n == 0) = false) (w : World)
    (O : Hid (∀ v, Calls Tryz.prog 19 #[rV a, rV b] v fun e w' => e = .returned (.tuple #[rV (s3, n3, d3), .int .i64 n]) ∧ Below v.heap.size v w')) :
    Calls Tryz.prog 25 #[rV a, rV b] w fun e w' => e = .returned (.tuple #[.int .i64 0, .int .i64 n]) ∧ Below w.heap.size w w' := by
  obtain ⟨s1, n1, d1⟩ := a
  obtain ⟨s2, n2, d2⟩ := b
  obtain ⟨hb2, A2, D2⟩ := startB w (s1, n1, d1) (s2, n2, d2) _ rfl
  unfold ob at hb2 A2 D2
  unfold rV at O ⊢
  simp only at O hb2 A2 D2 ⊢
  obtain ⟨a0, a1, a2, _, _, _⟩ := A2.cells
  obtain ⟨b0, b1, b2, _, _, _⟩ := D2.cells
  go_enter Tryz.func25, Tryz.ntmps25
  go_wp2_with fail
  refine (O.out _).mono ?_
  rintro e w4 ⟨rfl, g4⟩
  have hb4 := Nb hb2 g4
  have X5 := At.new w4 s3 n3 d3
  have hb5 := Nb hb4 (al w4 (.cells #[.bool s3, .string n3, .string d3] 23))
  clear a0 a1 a2 b0 b1 b2 A2 D2 hb2
  obtain ⟨x0, x1, x2, _, _, _⟩ := X5.cells
  go_wp2_with fail
  go_ret2
  exact ⟨rfl, hb5⟩

set_option maxHeartbeats 1000000 in
theorem rcm_zero (a b : R3) (s3 : Bool) (n3 d3 : ByteArray) (z : (n3.toList == [48]) = true) (w : World)
    (O : Hid (∀ v, Calls Tryz.prog 19 #[rV a, rV b] v fun e w' => e = .returned (.tuple #[rV (s3, n3, d3), .int .i64 0]) ∧ Below v.heap.size v w')) :
    Calls Tryz.prog 25 #[rV a, rV b] w fun e w' => e = .returned (.tuple #[.int .i64 0, .int .i64 0]) ∧ Below w.heap.size w w' := by
  obtain ⟨s1, n1, d1⟩ := a
  obtain ⟨s2, n2, d2⟩ := b
  obtain ⟨hb2, A2, D2⟩ := startB w (s1, n1, d1) (s2, n2, d2) _ rfl
  unfold ob at hb2 A2 D2
  unfold rV at O ⊢
  simp only at O hb2 A2 D2 ⊢
  obtain ⟨a0, a1, a2, _, _, _⟩ := A2.cells
  obtain ⟨b0, b1, b2, _, _, _⟩ := D2.cells
  go_enter Tryz.func25, Tryz.ntmps25
  go_wp2_with fail
  refine (O.out _).mono ?_
  rintro e w4 ⟨rfl, g4⟩
  have hb4 := Nb hb2 g4
  have X5 := At.new w4 s3 n3 d3
  have hb5 := Nb hb4 (al w4 (.cells #[.bool s3, .string n3, .string d3] 23))
  clear a0 a1 a2 b0 b1 b2 A2 D2 hb2
  obtain ⟨x0, x1, x2, _, _, _⟩ := X5.cells
  go_wp2_with fail
  go_ret2
  exact ⟨rfl, hb5⟩

set_option maxHeartbeats 1000000 in
theorem rcm_neg (a b : R3) (n3 d3 : ByteArray) (z : (n3.toList == [48]) = false) (w : World)
    (O : Hid (∀ v, Calls Tryz.prog 19 #[rV a, rV b] v fun e w' => e = .returned (.tuple #[rV (true, n3, d3), .int .i64 0]) ∧ Below v.heap.size v w')) :
    Calls Tryz.prog 25 #[rV a, rV b] w fun e w' => e = .returned (.tuple #[.int .i64 (-1), .int .i64 0]) ∧ Below w.heap.size w w' := by
  obtain ⟨s1, n1, d1⟩ := a
  obtain ⟨s2, n2, d2⟩ := b
  obtain ⟨hb2, A2, D2⟩ := startB w (s1, n1, d1) (s2, n2, d2) _ rfl
  unfold ob at hb2 A2 D2
  unfold rV at O ⊢
  simp only at O hb2 A2 D2 ⊢
  obtain ⟨a0, a1, a2, _, _, _⟩ := A2.cells
  obtain ⟨b0, b1, b2, _, _, _⟩ := D2.cells
  go_enter Tryz.func25, Tryz.ntmps25
  go_wp2_with fail
  refine (O.out _).mono ?_
  rintro e w4 ⟨rfl, g4⟩
  have hb4 := Nb hb2 g4
  have X5 := At.new w4 true n3 d3
  have hb5 := Nb hb4 (al w4 (.cells #[.bool true, .string n3, .string d3] 23))
  clear a0 a1 a2 b0 b1 b2 A2 D2 hb2
  obtain ⟨x0, x1, x2, _, _, _⟩ := X5.cells
  go_wp2_with fail
  go_ret2
  exact ⟨rfl, hb5⟩

set_option maxHeartbeats 1000000 in
theorem rcm_pos (a b : R3) (n3 d3 : ByteArray) (z : (n3.toList == [48]) = false) (w : World)
    (O : Hid (∀ v, Calls Tryz.prog 19 #[rV a, rV b] v fun e w' => e = .returned (.tuple #[rV (false, n3, d3), .int .i64 0]) ∧ Below v.heap.size v w')) :
    Calls Tryz.prog 25 #[rV a, rV b] w fun e w' => e = .returned (.tuple #[.int .i64 1, .int .i64 0]) ∧ Below w.heap.size w w' := by
  obtain ⟨s1, n1, d1⟩ := a
  obtain ⟨s2, n2, d2⟩ := b
  obtain ⟨hb2, A2, D2⟩ := startB w (s1, n1, d1) (s2, n2, d2) _ rfl
  unfold ob at hb2 A2 D2
  unfold rV at O ⊢
  simp only at O hb2 A2 D2 ⊢
  obtain ⟨a0, a1, a2, _, _, _⟩ := A2.cells
  obtain ⟨b0, b1, b2, _, _, _⟩ := D2.cells
  go_enter Tryz.func25, Tryz.ntmps25
  go_wp2_with fail
  refine (O.out _).mono ?_
  rintro e w4 ⟨rfl, g4⟩
  have hb4 := Nb hb2 g4
  have X5 := At.new w4 false n3 d3
  have hb5 := Nb hb4 (al w4 (.cells #[.bool false, .string n3, .string d3] 23))
  clear a0 a1 a2 b0 b1 b2 A2 D2 hb2
  obtain ⟨x0, x1, x2, _, _, _⟩ := X5.cells
  go_wp2_with fail
  go_ret2
  exact ⟨rfl, hb5⟩

theorem rcompare_q (a b : R3) (w : World) (ha : a.2.1.size ≤ 1000 ∧ a.2.2.size ≤ 1000) (hb : b.2.1.size ≤ 1000 ∧ b.2.2.size ≤ 1000) :
    Calls Tryz.prog 25 #[rV a, rV b] w fun e w' => e = .returned (.tuple #[.int .i64 (cmpQ a b).1, .int .i64 (cmpQ a b).2]) ∧ Below w.heap.size w w' := by
  have O := fun v => rsub_q a b v ha hb
  unfold cmpQ
  unfold opQ at O
  by_cases hv : (vR a && vR b) = false
  · rw [if_pos hv]
    simp only [if_pos hv] at O
    exact rcm_err a b _ _ _ 1 (by omega) rfl w (Lib.hid O)
  · rw [if_neg hv]
    simp only [if_neg hv, Bool.false_and, Bool.false_eq_true, if_false] at O
    by_cases hl : (lg a || lg b) = true
    · rw [if_pos hl]
      simp only [if_pos hl] at O
      exact rcm_err a b _ _ _ 2 (by omega) rfl w (Lib.hid O)
    · rw [if_neg hl]
      simp only [if_neg hl] at O
      generalize qv a - qv b = q at *
      unfold sgn
      have z := tx48 q.num.natAbs
      by_cases h0 : q = 0
      · rw [if_pos h0]
        rw [decide_eq_true (abs_zero.2 h0)] at z
        exact rcm_zero a b _ _ _ z w (Lib.hid O)
      · rw [if_neg h0]
        rw [decide_eq_false (fun e => h0 (abs_zero.1 e))] at z
        unfold rf at O
        by_cases h1 : q < 0
        · rw [if_pos h1]
          rw [decide_eq_true h1] at O
          exact rcm_neg a b _ _ z w (Lib.hid O)
        · rw [if_neg h1]
          rw [decide_eq_false h1] at O
          exact rcm_pos a b _ _ z w (Lib.hid O)

theorem nint (m : Nat) (hm : m < LIM) : CallsV 59 #[.string (tx m)] (.tuple #[.int .i64 (if m < 9223372036854775808 then (m : Int) else 0), .int .i64 (if m < 9223372036854775808 then 0 else 10)]) := by
  refine Lib.hid fun v => ?_
  have := rint_any (tx m) v (sz1000 hm)
  unfold intF at this
  rw [isB_txl hm, if_pos rfl, nv_tx] at this
  by_cases h : m < 9223372036854775808
  · rw [if_pos h] at this
    rw [if_pos h, if_pos h]
    exact this
  · rw [if_neg h] at this
    rw [if_neg h, if_neg h]
    exact this
theorem ndiv (m n : Nat) (hm : m < LIM) (hn : n < LIM) (h0 : n ≠ 0) : CallsV 58 #[.string (tx m), .string (tx n)] (.tuple #[.string (tx (m / n)), .string (tx (m % n)), .int .i64 0]) := by
  refine Lib.hid fun v => ?_
  have := rdiv_any (tx m) (tx n) v (sz1000 hm) (sz1000 hn)
  rw [divF_ok m n hm hn h0] at this
  exact this
theorem ceil_zero (m d : Nat) (hd : 0 < d) (hm : 1 ≤ m) (h : m % d = 0) : m / d - 1 = (m - 1) / d ∧ 1 ≤ m / d := by
  have e := Nat.div_add_mod m d
  rw [h, Nat.add_zero] at e
  generalize hk : m / d = k at *
  have hk1 : 1 ≤ k := by
    rcases Nat.eq_zero_or_pos k with rfl | h
    · simp at e; omega
    · exact h
  refine ⟨?_, hk1⟩
  obtain ⟨j, rfl⟩ : ∃ j, k = j + 1 := ⟨k - 1, by omega⟩
  rw [Nat.mul_add, Nat.mul_one] at e
  rw [show m - 1 = (d - 1) + d * j by omega, Nat.add_mul_div_left _ _ hd, Nat.div_eq_of_lt (by omega)]
  omega
theorem ceil_pos (m d : Nat) (hd : 0 < d) (h : m % d ≠ 0) : m / d = (m - 1) / d ∧ m / d + 1 ≤ m := by
  have e := Nat.div_add_mod m d
  have l := Nat.mod_lt m hd
  generalize m / d = k at *
  generalize m % d = r at *
  refine ⟨?_, ?_⟩
  · rw [show m - 1 = (r - 1) + d * k by omega, Nat.add_mul_div_left _ _ hd, Nat.div_eq_of_lt (by omega)]
    omega
  · have : 1 * k ≤ d * k := Nat.mul_le_mul_right k hd
    omega

theorem rfloor_q (a : R3) (w : World) (ha : a.2.1.size ≤ 1000 ∧ a.2.2.size ≤ 1000) :
    Calls Tryz.prog 27 #[rV a] w fun e w' => e = .returned (.tuple #[.int .i64 (floorF a).1, .int .i64 (floorF a).2]) ∧ Below w.heap.size w w' := by
  have V := Lib.hid (fun v => rvalid_any a v ha.1 ha.2)
  unfold floorF
  cases hv : vR a
  · rw [hv] at V
    rw [if_pos rfl]
    exact rfl_no _ _ _ w V
  · rw [hv] at V
    rw [if_neg (by simp)]
    obtain ⟨q, hq, rfl⟩ := vR_ex hv
    rw [qv_rf]
    have hd : 0 < q.den := Nat.pos_of_ne_zero q.den_nz
    have DV := ndiv q.num.natAbs q.den hq.1 hq.2 q.den_nz
    have l0 : q.num.natAbs / q.den < LIM := Nat.lt_of_le_of_lt (Nat.div_le_self _ _) hq.1
    have one : 1 < LIM := small (by decide)
    unfold rf at V ⊢
    by_cases h0 : q < 0
    · obtain ⟨e1, e2⟩ := floor_neg' q h0
      rw [decide_eq_true h0] at V ⊢
      have l2 : (q.num.natAbs - 1) / q.den < LIM := Nat.lt_of_le_of_lt (Nat.div_le_self _ _) (by have := hq.1; omega)
      have I := nint _ l2
      rw [e1]
      have z := tx48 (q.num.natAbs % q.den)
      by_cases hr : q.num.natAbs % q.den = 0
      · rw [decide_eq_true hr] at z
        obtain ⟨c1, c2⟩ := ceil_zero _ _ hd e2 hr
        have SB := nsub (q.num.natAbs / q.den) 1 l0 one c2
        rw [c1, tx_one] at SB
        by_cases h1 : (q.num.natAbs - 1) / q.den < 9223372036854775808
        · rw [if_pos h1, if_pos h1] at I
          rw [if_pos (by generalize (q.num.natAbs - 1) / q.den = k at *; omega)]
          have hk : (0 : Int) ≤ (((q.num.natAbs - 1) / q.den : Nat) : Int) ∧ (((q.num.natAbs - 1) / q.den : Nat) : Int) ≤ 9223372036854775807 := by
            clear e1 I
            generalize (q.num.natAbs - 1) / q.den = k at h1 ⊢
            omega
          rw [show ∀ k : Int, -1 - k = -k - 1 from fun k => by omega]
          exact rfl_neg0 _ _ _ _ _ _ z hk w V DV SB I
        · rw [if_neg h1, if_neg h1] at I
          rw [if_neg (by generalize (q.num.natAbs - 1) / q.den = k at *; omega)]
          exact rfl_neg0bad _ _ _ _ _ z w V DV SB I
      · rw [decide_eq_false hr] at z
        obtain ⟨c1, c2⟩ := ceil_pos _ _ hd hr
        have AD := nadd (q.num.natAbs / q.den) 1 l0 one (by have := hq.1; omega)
        have SB := nsub (q.num.natAbs / q.den + 1) 1 (by have := hq.1; omega) one (Nat.le_add_left 1 _)
        rw [Nat.add_sub_cancel, c1, tx_one] at SB
        rw [c1, tx_one] at AD
        rw [c1] at DV
        by_cases h1 : (q.num.natAbs - 1) / q.den < 9223372036854775808
        · rw [if_pos h1, if_pos h1] at I
          rw [if_pos (by generalize (q.num.natAbs - 1) / q.den = k at *; omega)]
          have hk : (0 : Int) ≤ (((q.num.natAbs - 1) / q.den : Nat) : Int) ∧ (((q.num.natAbs - 1) / q.den : Nat) : Int) ≤ 9223372036854775807 := by
            clear e1 I
            generalize (q.num.natAbs - 1) / q.den = k at h1 ⊢
            omega
          rw [show ∀ k : Int, -1 - k = -k - 1 from fun k => by omega]
          exact rfl_neg1 _ _ _ _ _ _ _ z hk w V DV AD SB I
        · rw [if_neg h1, if_neg h1] at I
          rw [if_neg (by generalize (q.num.natAbs - 1) / q.den = k at *; omega)]
          exact rfl_neg1bad _ _ _ _ _ _ z w V DV AD SB I
    · have e1 := floor_nonneg q h0
      rw [decide_eq_false h0] at V ⊢
      have I := nint _ l0
      rw [e1]
      by_cases h1 : q.num.natAbs / q.den < 9223372036854775808
      · rw [if_pos h1, if_pos h1] at I
        rw [if_pos (by generalize q.num.natAbs / q.den = k at *; omega)]
        exact rfl_pos _ _ _ _ _ w V DV I
      · rw [if_neg h1, if_neg h1] at I
        rw [if_neg (by generalize q.num.natAbs / q.den = k at *; omega)]
        exact rfl_posbad _ _ _ _ w V DV I
end Go.Proofs.YtmnnaaifebajnaaGreatDoor
