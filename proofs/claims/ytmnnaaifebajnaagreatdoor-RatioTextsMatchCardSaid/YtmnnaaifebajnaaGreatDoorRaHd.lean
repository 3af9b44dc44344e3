/- The chapter's examples: the law's head returns true. -/
import Derived.Test.YtmnnaaifebajnaaGreatDoorRaL
set_option linter.unusedSimpArgs false
set_option linter.unusedVariables false
namespace Go.Proofs.YtmnnaaifebajnaaGreatDoor
open Go.RowKit
open Ra (Fit)
set_option maxRecDepth 100000

set_option maxHeartbeats 4000000 in
theorem head_run (s1 s2 s3 s5 s6 : Bool) (n1 d1 n2 d2 n3 d3 n5 d5 n6 d6 : ByteArray) (w : World)
    (H1 : Hid (∀ v, Below w.heap.size w v → Calls Tryz.prog 12 #[.int .i64 6, .int .i64 (-4)] v fun e w' => e = .returned (.tuple #[rV (true, ⟨#[51]⟩, ⟨#[50]⟩), .int .i64 0]) ∧ Below v.heap.size v w'))
    (G12 : Hid (∀ v, Below w.heap.size w v → Calls Tryz.prog 34 #[.int .i64 1, .int .i64 2] v fun e w' => e = .returned (rV (s1, n1, d1)) ∧ Below v.heap.size v w'))
    (Gm12 : Hid (∀ v, Below w.heap.size w v → Calls Tryz.prog 34 #[.int .i64 (-1), .int .i64 2] v fun e w' => e = .returned (rV (s2, n2, d2)) ∧ Below v.heap.size v w'))
    (H2 : Hid (∀ v, Below w.heap.size w v → Calls Tryz.prog 14 #[rV (s1, n1, d1), rV (s2, n2, d2)] v fun e w' => e = .returned (.tuple #[rV (false, ⟨#[48]⟩, ⟨#[49]⟩), .int .i64 0]) ∧ Below v.heap.size v w'))
    (G34 : Hid (∀ v, Below w.heap.size w v → Calls Tryz.prog 34 #[.int .i64 3, .int .i64 4] v fun e w' => e = .returned (rV (s3, n3, d3)) ∧ Below v.heap.size v w'))
    (H3 : Hid (∀ v, Below w.heap.size w v → Calls Tryz.prog 22 #[rV (s3, n3, d3), rV (s2, n2, d2)] v fun e w' => e = .returned (.tuple #[rV (true, ⟨#[51]⟩, ⟨#[50]⟩), .int .i64 0]) ∧ Below v.heap.size v w'))
    (Gm32 : Hid (∀ v, Below w.heap.size w v → Calls Tryz.prog 34 #[.int .i64 (-3), .int .i64 2] v fun e w' => e = .returned (rV (true, ⟨#[51]⟩, ⟨#[50]⟩)) ∧ Below v.heap.size v w'))
    (H4 : Hid (∀ v, Below w.heap.size w v → Calls Tryz.prog 26 #[rV (true, ⟨#[51]⟩, ⟨#[50]⟩)] v fun e w' => e = .returned (.tuple #[.int .i64 (-2), .int .i64 0]) ∧ Below v.heap.size v w'))
    (G5 : Hid (∀ v, Below w.heap.size w v → Calls Tryz.prog 34 #[.int .i64 5, .int .i64 1] v fun e w' => e = .returned (rV (s5, n5, d5)) ∧ Below v.heap.size v w'))
    (H5 : Hid (∀ v, Below w.heap.size w v → Calls Tryz.prog 26 #[rV (s5, n5, d5)] v fun e w' => e = .returned (.tuple #[.int .i64 5, .int .i64 0]) ∧ Below v.heap.size v w'))
    (H6 : Hid (∀ v, Below w.heap.size w v → Calls Tryz.prog 32 #[.string ⟨#[54, 47, 52]⟩] v fun e w' => e = .returned (.tuple #[rV (false, ⟨#[]⟩, ⟨#[]⟩), .int .i64 5]) ∧ Below v.heap.size v w'))
    (H7 : Hid (∀ v, Below w.heap.size w v → Calls Tryz.prog 32 #[.string ⟨#[45, 48]⟩] v fun e w' => e = .returned (.tuple #[rV (false, ⟨#[]⟩, ⟨#[]⟩), .int .i64 5]) ∧ Below v.heap.size v w'))
    (H8 : Hid (∀ v, Below w.heap.size w v → Calls Tryz.prog 32 #[.string ⟨#[52, 47, 49]⟩] v fun e w' => e = .returned (.tuple #[rV (false, ⟨#[]⟩, ⟨#[]⟩), .int .i64 5]) ∧ Below v.heap.size v w'))
    (Gm13 : Hid (∀ v, Below w.heap.size w v → Calls Tryz.prog 34 #[.int .i64 (-1), .int .i64 3] v fun e w' => e = .returned (rV (s6, n6, d6)) ∧ Below v.heap.size v w'))
    (H9 : Hid (∀ v, Below w.heap.size w v → Calls Tryz.prog 24 #[rV (s6, n6, d6), rV (s2, n2, d2)] v fun e w' => e = .returned (.tuple #[.int .i64 1, .int .i64 0]) ∧ Below v.heap.size v w')) :
    Calls Tryz.prog 10 #[] w fun e w' => e = .returned (.bool true) ∧ Below w.heap.size w w' := by
  have hb0 := Below.refl w.heap.size w
  unfold rV at G12 G34 G5 Gm12 Gm13 Gm32 H1 H2 H3 H4 H5 H6 H7 H8 H9
  simp only at G12 G34 G5 Gm12 Gm13 Gm32 H1 H2 H3 H4 H5 H6 H7 H8 H9
  go_enter Tryz.func10, Tryz.ntmps10
  go_wp2_with fail
  refine (H1.out _ hb0).mono ?_
  rintro e w1 ⟨rfl, g⟩
  have hb1 := Nb hb0 g
  clear g hb0 
  have hb1x := Nb hb1 (al w1 (.cells #[.bool true, .string ⟨#[51]⟩, .string ⟨#[50]⟩] 23))
  have A1x := At.new w1 true ⟨#[51]⟩ ⟨#[50]⟩
  clear hb1 
  go_wp2_with fail
  refine (G12.out _ hb1x).mono ?_
  rintro e w2 ⟨rfl, g⟩
  have hb2 := Nb hb1x g
  have A2 := A1x.bt g
  clear g hb1x A1x
  go_wp2_with fail
  refine (Gm12.out _ hb2).mono ?_
  rintro e w3 ⟨rfl, g⟩
  have hb3 := Nb hb2 g
  have A3 := A2.bt g
  clear g hb2 A2
  go_wp2_with fail
  refine (H2.out _ hb3).mono ?_
  rintro e w4 ⟨rfl, g⟩
  have hb4 := Nb hb3 g
  have A4 := A3.bt g
  clear g hb3 A3
  have hb4x := Nb hb4 (al w4 (.cells #[.bool false, .string ⟨#[48]⟩, .string ⟨#[49]⟩] 23))
  have A4x := A4.bt (al w4 (.cells #[.bool false, .string ⟨#[48]⟩, .string ⟨#[49]⟩] 23))
  have B4x := At.new w4 false ⟨#[48]⟩ ⟨#[49]⟩
  clear hb4 A4
  go_wp2_with fail
  refine (G34.out _ hb4x).mono ?_
  rintro e w5 ⟨rfl, g⟩
  have hb5 := Nb hb4x g
  have A5 := A4x.bt g
  have B5 := B4x.bt g
  clear g hb4x A4x B4x
  go_wp2_with fail
  refine (Gm12.out _ hb5).mono ?_
  rintro e w6 ⟨rfl, g⟩
  have hb6 := Nb hb5 g
  have A6 := A5.bt g
  have B6 := B5.bt g
  clear g hb5 A5 B5
  go_wp2_with fail
  refine (H3.out _ hb6).mono ?_
  rintro e w7 ⟨rfl, g⟩
  have hb7 := Nb hb6 g
  have A7 := A6.bt g
  have B7 := B6.bt g
  clear g hb6 A6 B6
  have hb7x := Nb hb7 (al w7 (.cells #[.bool true, .string ⟨#[51]⟩, .string ⟨#[50]⟩] 23))
  have A7x := A7.bt (al w7 (.cells #[.bool true, .string ⟨#[51]⟩, .string ⟨#[50]⟩] 23))
  have B7x := B7.bt (al w7 (.cells #[.bool true, .string ⟨#[51]⟩, .string ⟨#[50]⟩] 23))
  have C7x := At.new w7 true ⟨#[51]⟩ ⟨#[50]⟩
  clear hb7 A7 B7
  go_wp2_with fail
  refine (Gm32.out _ hb7x).mono ?_
  rintro e w8 ⟨rfl, g⟩
  have hb8 := Nb hb7x g
  have A8 := A7x.bt g
  have B8 := B7x.bt g
  have C8 := C7x.bt g
  clear g hb7x A7x B7x C7x
  go_wp2_with fail
  refine (H4.out _ hb8).mono ?_
  rintro e w9 ⟨rfl, g⟩
  have hb9 := Nb hb8 g
  have A9 := A8.bt g
  have B9 := B8.bt g
  have C9 := C8.bt g
  clear g hb8 A8 B8 C8
  go_wp2_with fail
  refine (G5.out _ hb9).mono ?_
  rintro e w10 ⟨rfl, g⟩
  have hb10 := Nb hb9 g
  have A10 := A9.bt g
  have B10 := B9.bt g
  have C10 := C9.bt g
  clear g hb9 A9 B9 C9
  go_wp2_with fail
  refine (H5.out _ hb10).mono ?_
  rintro e w11 ⟨rfl, g⟩
  have hb11 := Nb hb10 g
  have A11 := A10.bt g
  have B11 := B10.bt g
  have C11 := C10.bt g
  clear g hb10 A10 B10 C10
  go_wp2_with fail
  refine (H6.out _ hb11).mono ?_
  rintro e w12 ⟨rfl, g⟩
  have hb12 := Nb hb11 g
  have A12 := A11.bt g
  have B12 := B11.bt g
  have C12 := C11.bt g
  clear g hb11 A11 B11 C11
  have hb12x := Nb hb12 (al w12 (.cells #[.bool false, .string ⟨#[]⟩, .string ⟨#[]⟩] 23))
  have A12x := A12.bt (al w12 (.cells #[.bool false, .string ⟨#[]⟩, .string ⟨#[]⟩] 23))
  have B12x := B12.bt (al w12 (.cells #[.bool false, .string ⟨#[]⟩, .string ⟨#[]⟩] 23))
  have C12x := C12.bt (al w12 (.cells #[.bool false, .string ⟨#[]⟩, .string ⟨#[]⟩] 23))
  clear hb12 A12 B12 C12
  go_wp2_with fail
  refine (H7.out _ hb12x).mono ?_
  rintro e w13 ⟨rfl, g⟩
  have hb13 := Nb hb12x g
  have A13 := A12x.bt g
  have B13 := B12x.bt g
  have C13 := C12x.bt g
  clear g hb12x A12x B12x C12x
  have hb13x := Nb hb13 (al w13 (.cells #[.bool false, .string ⟨#[]⟩, .string ⟨#[]⟩] 23))
  have A13x := A13.bt (al w13 (.cells #[.bool false, .string ⟨#[]⟩, .string ⟨#[]⟩] 23))
  have B13x := B13.bt (al w13 (.cells #[.bool false, .string ⟨#[]⟩, .string ⟨#[]⟩] 23))
  have C13x := C13.bt (al w13 (.cells #[.bool false, .string ⟨#[]⟩, .string ⟨#[]⟩] 23))
  clear hb13 A13 B13 C13
  go_wp2_with fail
  refine (H8.out _ hb13x).mono ?_
  rintro e w14 ⟨rfl, g⟩
  have hb14 := Nb hb13x g
  have A14 := A13x.bt g
  have B14 := B13x.bt g
  have C14 := C13x.bt g
  clear g hb13x A13x B13x C13x
  have hb14x := Nb hb14 (al w14 (.cells #[.bool false, .string ⟨#[]⟩, .string ⟨#[]⟩] 23))
  have A14x := A14.bt (al w14 (.cells #[.bool false, .string ⟨#[]⟩, .string ⟨#[]⟩] 23))
  have B14x := B14.bt (al w14 (.cells #[.bool false, .string ⟨#[]⟩, .string ⟨#[]⟩] 23))
  have C14x := C14.bt (al w14 (.cells #[.bool false, .string ⟨#[]⟩, .string ⟨#[]⟩] 23))
  clear hb14 A14 B14 C14
  go_wp2_with fail
  refine (Gm13.out _ hb14x).mono ?_
  rintro e w15 ⟨rfl, g⟩
  have hb15 := Nb hb14x g
  have A15 := A14x.bt g
  have B15 := B14x.bt g
  have C15 := C14x.bt g
  clear g hb14x A14x B14x C14x
  go_wp2_with fail
  refine (Gm12.out _ hb15).mono ?_
  rintro e w16 ⟨rfl, g⟩
  have hb16 := Nb hb15 g
  have A16 := A15.bt g
  have B16 := B15.bt g
  have C16 := C15.bt g
  clear g hb15 A15 B15 C15
  go_wp2_with fail
  refine (H9.out _ hb16).mono ?_
  rintro e w17 ⟨rfl, g⟩
  have hb17 := Nb hb16 g
  have A17 := A16.bt g
  have B17 := B16.bt g
  have C17 := C16.bt g
  clear g hb16 A16 B16 C16
  obtain ⟨Ac0, Ac1, Ac2, _, _, _⟩ := A17.cells
  obtain ⟨Bc0, Bc1, Bc2, _, _, _⟩ := B17.cells
  obtain ⟨Cc0, Cc1, Cc2, _, _, _⟩ := C17.cells
  go_wp2_with fail
  go_ret
  exact ⟨rfl, hb17⟩

theorem head_any (w : World) (hP : Px w.heap.size w) :
    Calls Tryz.prog 10 #[] w fun e w' => e = .returned (.bool true) ∧ Below w.heap.size w w' := by
  have P := fun v (h : Below w.heap.size w v) => (hP.bt h).1
  have f1 : Fit L140 (1/2) := fit_small _ (by decide +kernel) (by decide +kernel)
  have f2 : Fit L140 (-1/2) := fit_small _ (by decide +kernel) (by decide +kernel)
  have f3 : Fit L140 (3/4) := fit_small _ (by decide +kernel) (by decide +kernel)
  have f4 : Fit L140 (-3/2) := fit_small _ (by decide +kernel) (by decide +kernel)
  have f5 : Fit L140 5 := fit_small _ (by decide +kernel) (by decide +kernel)
  have f6 : Fit L140 (-1/3) := fit_small _ (by decide +kernel) (by decide +kernel)
  have H1 := Lib.hid (fun v h => opOf 6 (-4) v (P v h) (by omega) (by omega))
  rw [ex_of1] at H1
  have G12 := Lib.hid (fun v h => lof 1 2 v (P v h) (by omega) (by omega))
  rw [ex_of 1 2 (1/2) (by omega) (by decide +kernel)] at G12
  have Gm12 := Lib.hid (fun v h => lof (-1) 2 v (P v h) (by omega) (by omega))
  rw [ex_of (-1) 2 (-1/2) (by omega) (by decide +kernel)] at Gm12
  have G34 := Lib.hid (fun v h => lof 3 4 v (P v h) (by omega) (by omega))
  rw [ex_of 3 4 (3/4) (by omega) (by decide +kernel)] at G34
  have Gm32 := Lib.hid (fun v h => lof (-3) 2 v (P v h) (by omega) (by omega))
  rw [ex_of (-3) 2 (-3/2) (by omega) (by decide +kernel)] at Gm32
  have G5 := Lib.hid (fun v h => lof 5 1 v (P v h) (by omega) (by omega))
  rw [ex_of 5 1 5 (by omega) (by decide +kernel)] at G5
  have Gm13 := Lib.hid (fun v h => lof (-1) 3 v (P v h) (by omega) (by omega))
  rw [ex_of (-1) 3 (-1/3) (by omega) (by decide +kernel)] at Gm13
  have H2 := Lib.hid (fun v h => addQ (1/2) (-1/2) v (P v h) f1 f2)
  rw [show (1/2 + -1/2 : Rat) = 0 by decide +kernel, rf_zero] at H2
  have H3 := Lib.hid (fun v h => divQ (3/4) (-1/2) v (P v h) f3 f2 (by decide +kernel))
  rw [show ((3/4) / (-1/2) : Rat) = -3/2 by decide +kernel, ex_32] at H3
  have H4 := Lib.hid (fun v h => floorQ (-3/2) v (P v h) (fit140 f4) (by decide +kernel))
  rw [show (-3/2 : Rat).floor = -2 by decide +kernel, ex_32] at H4
  rw [ex_32] at Gm32
  have H5 := Lib.hid (fun v h => floorQ 5 v (P v h) (fit140 f5) (by decide +kernel))
  rw [show (5 : Rat).floor = 5 by decide +kernel] at H5
  have H6 := Lib.hid (fun v h => parseR_any ⟨#[54, 47, 52]⟩ v (hP.bt h) (by decide))
  rw [ex_parse1] at H6
  have H7 := Lib.hid (fun v h => parseR_any ⟨#[45, 48]⟩ v (hP.bt h) (by decide))
  rw [ex_parse2] at H7
  have H8 := Lib.hid (fun v h => parseR_any ⟨#[52, 47, 49]⟩ v (hP.bt h) (by decide))
  rw [ex_parse3] at H8
  have H9 := Lib.hid (fun v h => cmpQ' (-1/3) (-1/2) v (P v h) f6 f2)
  rw [show sgn (-1/3 - -1/2 : Rat) = 1 by decide +kernel] at H9
  exact head_run _ _ _ _ _ _ _ _ _ _ _ _ _ _ _ w H1 G12 Gm12 H2 G34 H3 Gm32 H4 G5 H5 H6 H7 H8 Gm13 H9
end Go.Proofs.YtmnnaaifebajnaaGreatDoor

