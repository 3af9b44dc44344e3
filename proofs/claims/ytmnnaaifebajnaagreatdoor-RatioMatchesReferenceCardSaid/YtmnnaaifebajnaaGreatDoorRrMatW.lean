import Derived.Test.YtmnnaaifebajnaaGreatDoorRaHd
import Derived.Test.YtmnnaaifebajnaaGreatDoorRaSh
import Derived.Test.YtmnnaaifebajnaaGreatDoorRaLw
import Derived.Test.YtmnnaaifebajnaaGreatDoorRrG
import Derived.Deep.DeepCutAuto
/- RatioMatchesReference: the walk. -/
set_option linter.unusedSimpArgs false
set_option linter.unusedVariables false
namespace Go.Proofs.YtmnnaaifebajnaaGreatDoor
open Go.RowKit
open Ra (Fit)
set_option maxRecDepth 100000

theorem fift {v : World} {b1 b2 b3 b4 b5 : Nat} {s1 : Bool} {n1 d1 : ByteArray} {s2 : Bool} {n2 d2 : ByteArray} {s3 : Bool} {n3 d3 : ByteArray} {s4 : Bool} {n4 d4 : ByteArray} {s5 : Bool} {n5 d5 : ByteArray} (h1 : At v b1 (s1, n1, d1)) (h2 : At v b2 (s2, n2, d2)) (h3 : At v b3 (s3, n3, d3)) (h4 : At v b4 (s4, n4, d4)) (h5 : At v b5 (s5, n5, d5)) : v.cell? ⟨b1, 0, none⟩ = some (.bool s1) ∧ v.cell? ⟨b1, 1, none⟩ = some (.string n1) ∧ v.cell? ⟨b1, 2, none⟩ = some (.string d1) ∧ v.cell? ⟨b2, 0, none⟩ = some (.bool s2) ∧ v.cell? ⟨b2, 1, none⟩ = some (.string n2) ∧ v.cell? ⟨b2, 2, none⟩ = some (.string d2) ∧ v.cell? ⟨b3, 0, none⟩ = some (.bool s3) ∧ v.cell? ⟨b3, 1, none⟩ = some (.string n3) ∧ v.cell? ⟨b3, 2, none⟩ = some (.string d3) ∧ v.cell? ⟨b4, 0, none⟩ = some (.bool s4) ∧ v.cell? ⟨b4, 1, none⟩ = some (.string n4) ∧ v.cell? ⟨b4, 2, none⟩ = some (.string d4) ∧ v.cell? ⟨b5, 0, none⟩ = some (.bool s5) ∧ v.cell? ⟨b5, 1, none⟩ = some (.string n5) ∧ v.cell? ⟨b5, 2, none⟩ = some (.string d5) :=
  ⟨h1.cells.1, h1.cells.2.1, h1.cells.2.2.1, h2.cells.1, h2.cells.2.1, h2.cells.2.2.1, h3.cells.1, h3.cells.2.1, h3.cells.2.2.1, h4.cells.1, h4.cells.2.1, h4.cells.2.2.1, h5.cells.1, h5.cells.2.1, h5.cells.2.2.1⟩
theorem At.lt {w : World} {b : Nat} {r : R3} (h : At w b r) : b < w.heap.size := (Array.getElem?_eq_some_iff.1 h).1

set_option maxHeartbeats 1000000 in
theorem match_early (sa sb : Bool) (na da nb db : ByteArray) (m n : Int) (zna : na.size ≤ 9223372036854775807) (zda : da.size ≤ 9223372036854775807) (znb : nb.size ≤ 9223372036854775807) (zdb : db.size ≤ 9223372036854775807) (hns : ¬ ∀ x ∈ [na, da, nb, db], x.size ≤ 160) (w : World)
    (H : Hid (∀ v, Below w.heap.size w v → Calls Tryz.prog 10 #[] v fun e w' => e = .returned (.bool true) ∧ Below v.heap.size v w')) :
    Calls Tryz.prog 3 #[rV (sa, na, da), rV (sb, nb, db), .int .i64 m, .int .i64 n] w fun e w' => e = .returned (.bool true) ∧ Below w.heap.size w w' := by
  obtain ⟨hb0, A0, B0⟩ := startB w (sa, na, da) (sb, nb, db) _ rfl
  unfold ob at hb0 A0 B0
  unfold rV at  ⊢
  simp only at hb0 A0 B0  ⊢
  go_enter Tryz.func3, Tryz.ntmps3
  go_wp2_with fail
  refine (H.out _ hb0).mono ?_
  rintro e w1 ⟨rfl, g⟩
  have hb1 := Nb hb0 (g)
  have A1 := A0.bt (g)
  have B1 := B0.bt (g)
  clear hb0 A0 B0 g
  obtain ⟨Ac0, Ac1, Ac2, _, _, _⟩ := A1.cells
  obtain ⟨Bc0, Bc1, Bc2, _, _, _⟩ := B1.cells
  go_wp2_with fail
  have hX : (w1.alloc (.cells #[.bool sa, .string na, .string da, .bool sb, .string nb, .string db] 23)).heap[w1.heap.size]? = some (.cells #[.bool sa, .string na, .string da, .bool sb, .string nb, .string db] 23 (0, 0)) := heap_alloc_new _ _
  have SH := Lib.hid (lshort2 160 (by omega) w1.heap.size na da nb db (w1.alloc (.cells #[.bool sa, .string na, .string da, .bool sb, .string nb, .string db] 23)) (by rw [Lib.cell_of_heap hX]; rfl) (by rw [Lib.cell_of_heap hX]; rfl) (by rw [Lib.cell_of_heap hX]; rfl) (by rw [Lib.cell_of_heap hX]; rfl) zna zda znb zdb)
  rw [show ((160 : Nat) : Int) = 160 from rfl] at SH
  refine SH.out.mono ?_
  rintro e wS ⟨r, rfl, hr, rfl⟩
  clear Ac0 Ac1 Ac2 Bc0 Bc1 Bc2
  clear SH hX
  have hb1s := Nb hb1 (al w1 (.cells #[.bool sa, .string na, .string da, .bool sb, .string nb, .string db] 23))
  have A1s := A1.bt (al w1 (.cells #[.bool sa, .string na, .string da, .bool sb, .string nb, .string db] 23))
  have B1s := B1.bt (al w1 (.cells #[.bool sa, .string na, .string da, .bool sb, .string nb, .string db] 23))
  clear hb1 A1 B1 
  obtain rfl : r = false := by
    cases r
    · rfl
    · exact absurd (hr rfl) hns
  go_wp2_with fail
  go_ret
  exact ⟨rfl, hb1s⟩

set_option maxHeartbeats 4000000 in
theorem match_good (sa sb su sx sy sp sq : Bool) (na da nb db nu du nx dx ny dy np dp nq dq : ByteArray) (m n eo e1 e2 e3 e4 e5 e6 k1 k2 : Int) (va : Bool) (zna : na.size ≤ 9223372036854775807) (zda : da.size ≤ 9223372036854775807) (znb : nb.size ≤ 9223372036854775807) (zdb : db.size ≤ 9223372036854775807) (w : World)
    (H : Hid (∀ v, Below w.heap.size w v → Calls Tryz.prog 10 #[] v fun e w' => e = .returned (.bool true) ∧ Below v.heap.size v w'))
    (OF : Hid (∀ v, Below w.heap.size w v → Calls Tryz.prog 12 #[.int .i64 m, .int .i64 n] v fun e w' => e = .returned (.tuple #[rV (su, nu, du), .int .i64 eo]) ∧ Below v.heap.size v w'))
    (ROF : Hid (∀ v, Below w.heap.size w v → Calls Tryz.prog 13 #[.int .i64 m, .int .i64 n] v fun e w' => e = .returned (.tuple #[rV (su, nu, du), .int .i64 eo]) ∧ Below v.heap.size v w'))
    (AD : Hid (∀ v, Below w.heap.size w v → Calls Tryz.prog 14 #[rV (sa, na, da), rV (sb, nb, db)] v fun e w' => e = .returned (.tuple #[rV (sx, nx, dx), .int .i64 e1]) ∧ Below v.heap.size v w'))
    (RAD : Hid (∀ v, Below w.heap.size w v → Calls Tryz.prog 15 #[rV (sa, na, da), rV (sb, nb, db)] v fun e w' => e = .returned (.tuple #[rV (sx, nx, dx), .int .i64 e1]) ∧ Below v.heap.size v w'))
    (VA : Hid (∀ v, Below w.heap.size w v → Calls Tryz.prog 16 #[rV (sa, na, da)] v fun e w' => e = .returned (.bool va) ∧ Below v.heap.size v w'))
    (RVA : Hid (∀ v, Below w.heap.size w v → Calls Tryz.prog 17 #[rV (sa, na, da)] v fun e w' => e = .returned (.bool va) ∧ Below v.heap.size v w'))
    (SU : Hid (∀ v, Below w.heap.size w v → Calls Tryz.prog 18 #[rV (sa, na, da), rV (sb, nb, db)] v fun e w' => e = .returned (.tuple #[rV (sy, ny, dy), .int .i64 e2]) ∧ Below v.heap.size v w'))
    (RSU : Hid (∀ v, Below w.heap.size w v → Calls Tryz.prog 19 #[rV (sa, na, da), rV (sb, nb, db)] v fun e w' => e = .returned (.tuple #[rV (sy, ny, dy), .int .i64 e2]) ∧ Below v.heap.size v w'))
    (MU : Hid (∀ v, Below w.heap.size w v → Calls Tryz.prog 20 #[rV (sa, na, da), rV (sb, nb, db)] v fun e w' => e = .returned (.tuple #[rV (sp, np, dp), .int .i64 e3]) ∧ Below v.heap.size v w'))
    (RMU : Hid (∀ v, Below w.heap.size w v → Calls Tryz.prog 21 #[rV (sa, na, da), rV (sb, nb, db)] v fun e w' => e = .returned (.tuple #[rV (sp, np, dp), .int .i64 e3]) ∧ Below v.heap.size v w'))
    (DI : Hid (∀ v, Below w.heap.size w v → Calls Tryz.prog 22 #[rV (sa, na, da), rV (sb, nb, db)] v fun e w' => e = .returned (.tuple #[rV (sq, nq, dq), .int .i64 e4]) ∧ Below v.heap.size v w'))
    (RDI : Hid (∀ v, Below w.heap.size w v → Calls Tryz.prog 23 #[rV (sa, na, da), rV (sb, nb, db)] v fun e w' => e = .returned (.tuple #[rV (sq, nq, dq), .int .i64 e4]) ∧ Below v.heap.size v w'))
    (CM : Hid (∀ v, Below w.heap.size w v → Calls Tryz.prog 24 #[rV (sa, na, da), rV (sb, nb, db)] v fun e w' => e = .returned (.tuple #[.int .i64 k1, .int .i64 e5]) ∧ Below v.heap.size v w'))
    (RCM : Hid (∀ v, Below w.heap.size w v → Calls Tryz.prog 25 #[rV (sa, na, da), rV (sb, nb, db)] v fun e w' => e = .returned (.tuple #[.int .i64 k1, .int .i64 e5]) ∧ Below v.heap.size v w'))
    (FL : Hid (∀ v, Below w.heap.size w v → Calls Tryz.prog 26 #[rV (sa, na, da)] v fun e w' => e = .returned (.tuple #[.int .i64 k2, .int .i64 e6]) ∧ Below v.heap.size v w'))
    (RFL : Hid (∀ v, Below w.heap.size w v → Calls Tryz.prog 27 #[rV (sa, na, da)] v fun e w' => e = .returned (.tuple #[.int .i64 k2, .int .i64 e6]) ∧ Below v.heap.size v w')) :
    Calls Tryz.prog 3 #[rV (sa, na, da), rV (sb, nb, db), .int .i64 m, .int .i64 n] w fun e w' => e = .returned (.bool true) ∧ Below w.heap.size w w' := by
  obtain ⟨hb0, A0, B0⟩ := startB w (sa, na, da) (sb, nb, db) _ rfl
  unfold ob at hb0 A0 B0
  unfold rV at OF ROF AD RAD VA RVA SU RSU MU RMU DI RDI CM RCM FL RFL ⊢
  simp only at hb0 A0 B0 OF ROF AD RAD VA RVA SU RSU MU RMU DI RDI CM RCM FL RFL ⊢
  go_enter Tryz.func3, Tryz.ntmps3
  go_wp2_with fail
  refine (H.out _ hb0).mono ?_
  rintro e w1 ⟨rfl, g⟩
  have hb1 := Nb hb0 (g)
  have A1 := A0.bt (g)
  have B1 := B0.bt (g)
  clear hb0 A0 B0 g
  obtain ⟨Ac0, Ac1, Ac2, _, _, _⟩ := A1.cells
  obtain ⟨Bc0, Bc1, Bc2, _, _, _⟩ := B1.cells
  go_wp2_with fail
  have hX : (w1.alloc (.cells #[.bool sa, .string na, .string da, .bool sb, .string nb, .string db] 23)).heap[w1.heap.size]? = some (.cells #[.bool sa, .string na, .string da, .bool sb, .string nb, .string db] 23 (0, 0)) := heap_alloc_new _ _
  have SH := Lib.hid (lshort2 160 (by omega) w1.heap.size na da nb db (w1.alloc (.cells #[.bool sa, .string na, .string da, .bool sb, .string nb, .string db] 23)) (by rw [Lib.cell_of_heap hX]; rfl) (by rw [Lib.cell_of_heap hX]; rfl) (by rw [Lib.cell_of_heap hX]; rfl) (by rw [Lib.cell_of_heap hX]; rfl) zna zda znb zdb)
  rw [show ((160 : Nat) : Int) = 160 from rfl] at SH
  refine SH.out.mono ?_
  rintro e wS ⟨r, rfl, hr, rfl⟩
  clear Ac0 Ac1 Ac2 Bc0 Bc1 Bc2
  clear SH hX
  have hb1s := Nb hb1 (al w1 (.cells #[.bool sa, .string na, .string da, .bool sb, .string nb, .string db] 23))
  have A1s := A1.bt (al w1 (.cells #[.bool sa, .string na, .string da, .bool sb, .string nb, .string db] 23))
  have B1s := B1.bt (al w1 (.cells #[.bool sa, .string na, .string da, .bool sb, .string nb, .string db] 23))
  clear hb1 A1 B1 
  clear hr
  cases r
  · go_wp2_with fail
    go_ret
    exact ⟨rfl, hb1s⟩
  · go_wp2_with fail
    refine (OF.out _ hb1s).mono ?_
    rintro e w2 ⟨rfl, g⟩
    have hb2 := Nb hb1s (g)
    have A2 := A1s.bt (g)
    have B2 := B1s.bt (g)
    clear hb1s A1s B1s g
    have L2 := B2.lt
    have hb2x := Nb hb2 (al w2 (.cells #[.bool su, .string nu, .string du] 23))
    have A2x := A2.bt (al w2 (.cells #[.bool su, .string nu, .string du] 23))
    have B2x := B2.bt (al w2 (.cells #[.bool su, .string nu, .string du] 23))
    clear hb2 A2 B2 
    have Xo2x := At.new w2 su nu du
    obtain ⟨Xoc0, Xoc1, Xoc2, _, _, _⟩ := Xo2x.cells
    go_wp2_with fail
    refine (ROF.out _ hb2x).mono ?_
    rintro e w3 ⟨rfl, g⟩
    clear Xoc0 Xoc1 Xoc2
    have hb3 := Nb hb2x (g)
    have A3 := A2x.bt (g)
    have B3 := B2x.bt (g)
    have Xo3 := Xo2x.bt (g)
    clear hb2x A2x B2x Xo2x g
    have L3 := Xo3.lt
    have hb3x := Nb hb3 (al w3 (.cells #[.bool su, .string nu, .string du] 23))
    have A3x := A3.bt (al w3 (.cells #[.bool su, .string nu, .string du] 23))
    have B3x := B3.bt (al w3 (.cells #[.bool su, .string nu, .string du] 23))
    have Xo3x := Xo3.bt (al w3 (.cells #[.bool su, .string nu, .string du] 23))
    clear hb3 A3 B3 Xo3 
    have Xp3x := At.new w3 su nu du
    obtain ⟨Ac0, Ac1, Ac2, _, _, _⟩ := A3x.cells
    obtain ⟨Bc0, Bc1, Bc2, _, _, _⟩ := B3x.cells
    go_wp2_with fail
    refine (AD.out _ hb3x).mono ?_
    rintro e w4 ⟨rfl, g⟩
    clear Ac0 Ac1 Ac2 Bc0 Bc1 Bc2
    have hb4 := Nb hb3x (g)
    have A4 := A3x.bt (g)
    have B4 := B3x.bt (g)
    have Xo4 := Xo3x.bt (g)
    have Xp4 := Xp3x.bt (g)
    clear hb3x A3x B3x Xo3x Xp3x g
    have L4 := Xp4.lt
    have hb4x := Nb hb4 (al w4 (.cells #[.bool sx, .string nx, .string dx] 23))
    have A4x := A4.bt (al w4 (.cells #[.bool sx, .string nx, .string dx] 23))
    have B4x := B4.bt (al w4 (.cells #[.bool sx, .string nx, .string dx] 23))
    have Xo4x := Xo4.bt (al w4 (.cells #[.bool sx, .string nx, .string dx] 23))
    have Xp4x := Xp4.bt (al w4 (.cells #[.bool sx, .string nx, .string dx] 23))
    clear hb4 A4 B4 Xo4 Xp4 
    have Xx4x := At.new w4 sx nx dx
    obtain ⟨Ac0, Ac1, Ac2, _, _, _⟩ := A4x.cells
    obtain ⟨Bc0, Bc1, Bc2, _, _, _⟩ := B4x.cells
    go_wp2_with fail
    refine (RAD.out _ hb4x).mono ?_
    rintro e w5 ⟨rfl, g⟩
    clear Ac0 Ac1 Ac2 Bc0 Bc1 Bc2
    have hb5 := Nb hb4x (g)
    have A5 := A4x.bt (g)
    have B5 := B4x.bt (g)
    have Xo5 := Xo4x.bt (g)
    have Xp5 := Xp4x.bt (g)
    have Xx5 := Xx4x.bt (g)
    clear hb4x A4x B4x Xo4x Xp4x Xx4x g
    have L5 := Xx5.lt
    have hb5x := Nb hb5 (al w5 (.cells #[.bool sx, .string nx, .string dx] 23))
    have A5x := A5.bt (al w5 (.cells #[.bool sx, .string nx, .string dx] 23))
    have B5x := B5.bt (al w5 (.cells #[.bool sx, .string nx, .string dx] 23))
    have Xo5x := Xo5.bt (al w5 (.cells #[.bool sx, .string nx, .string dx] 23))
    have Xp5x := Xp5.bt (al w5 (.cells #[.bool sx, .string nx, .string dx] 23))
    have Xx5x := Xx5.bt (al w5 (.cells #[.bool sx, .string nx, .string dx] 23))
    clear hb5 A5 B5 Xo5 Xp5 Xx5 
    have Xy5x := At.new w5 sx nx dx
    obtain ⟨Ac0, Ac1, Ac2, _, _, _⟩ := A5x.cells
    obtain ⟨Bc0, Bc1, Bc2, _, _, _⟩ := B5x.cells
    obtain ⟨Xoc0, Xoc1, Xoc2, _, _, _⟩ := Xo5x.cells
    obtain ⟨Xpc0, Xpc1, Xpc2, _, _, _⟩ := Xp5x.cells
    obtain ⟨Xxc0, Xxc1, Xxc2, _, _, _⟩ := Xx5x.cells
    obtain ⟨Xyc0, Xyc1, Xyc2, _, _, _⟩ := Xy5x.cells
    go_wp2_with fail
    generalize w5.alloc (.cells #[.bool sx, .string nx, .string dx] 23) = v0 at *
    have F0 := Lib.hid (fift A5x Xo5x Xp5x Xx5x Xy5x)
    have F0d := Lib.hid (fift (A5x.bt (Bd v0)) (Xo5x.bt (Bd v0)) (Xp5x.bt (Bd v0)) (Xx5x.bt (Bd v0)) (Xy5x.bt (Bd v0)))
    go_region_held3 (fun w' => w'.cell? ⟨w.heap.size, 0, none⟩ = some (.bool sa) ∧ w'.cell? ⟨w.heap.size, 1, none⟩ = some (.string na) ∧ w'.cell? ⟨w.heap.size, 2, none⟩ = some (.string da) ∧ w'.cell? ⟨w2.heap.size, 0, none⟩ = some (.bool su) ∧ w'.cell? ⟨w2.heap.size, 1, none⟩ = some (.string nu) ∧ w'.cell? ⟨w2.heap.size, 2, none⟩ = some (.string du) ∧ w'.cell? ⟨w3.heap.size, 0, none⟩ = some (.bool su) ∧ w'.cell? ⟨w3.heap.size, 1, none⟩ = some (.string nu) ∧ w'.cell? ⟨w3.heap.size, 2, none⟩ = some (.string du) ∧ w'.cell? ⟨w4.heap.size, 0, none⟩ = some (.bool sx) ∧ w'.cell? ⟨w4.heap.size, 1, none⟩ = some (.string nx) ∧ w'.cell? ⟨w4.heap.size, 2, none⟩ = some (.string dx) ∧ w'.cell? ⟨w5.heap.size, 0, none⟩ = some (.bool sx) ∧ w'.cell? ⟨w5.heap.size, 1, none⟩ = some (.string nx) ∧ w'.cell? ⟨w5.heap.size, 2, none⟩ = some (.string dx)) (first | exact F2.out | exact F1.out | exact F0d.out | exact F0.out | go_keep)
      (first
        | (go_at_call 16
           (with_reducible refine (VA.out _ (Nb hb5x (Bd v0))).mono ?_)
           rintro e v1 ⟨rfl, g1⟩
           have hbV1 := Nb (Nb hb5x (Bd v0)) g1
           have AV1 := (A5x.bt (Bd v0)).bt g1
           have BV1 := (B5x.bt (Bd v0)).bt g1
           have XoV1 := (Xo5x.bt (Bd v0)).bt g1
           have XpV1 := (Xp5x.bt (Bd v0)).bt g1
           have XxV1 := (Xx5x.bt (Bd v0)).bt g1
           have XyV1 := (Xy5x.bt (Bd v0)).bt g1
           have F1 := Lib.hid (fift AV1 XoV1 XpV1 XxV1 XyV1))
        | (go_at_call 17
           (with_reducible refine (RVA.out _ hbV1).mono ?_)
           rintro e v2 ⟨rfl, g2⟩
           have hbV2 := Nb hbV1 g2
           have AV2 := AV1.bt g2
           have BV2 := BV1.bt g2
           have XoV2 := XoV1.bt g2
           have XpV2 := XpV1.bt g2
           have XxV2 := XxV1.bt g2
           have XyV2 := XyV1.bt g2
           have F2 := Lib.hid (fift AV2 XoV2 XpV2 XxV2 XyV2))
        | fail)
    clear Ac0 Ac1 Ac2 Bc0 Bc1 Bc2 Xoc0 Xoc1 Xoc2 Xpc0 Xpc1 Xpc2 Xxc0 Xxc1 Xxc2 Xyc0 Xyc1 Xyc2
    clear hb5x A5x B5x Xo5x Xp5x Xx5x Xy5x hbV1 AV1 BV1 XoV1 XpV1 XxV1 XyV1 F0 F0d F1 F2
    obtain ⟨Ac0, Ac1, Ac2, _, _, _⟩ := AV2.cells
    obtain ⟨Bc0, Bc1, Bc2, _, _, _⟩ := BV2.cells
    go_wp2_with fail
    refine (SU.out _ hbV2).mono ?_
    rintro e w6 ⟨rfl, g⟩
    clear Ac0 Ac1 Ac2 Bc0 Bc1 Bc2
    have hb6 := Nb hbV2 (g)
    have A6 := AV2.bt (g)
    have B6 := BV2.bt (g)
    have Xo6 := XoV2.bt (g)
    have Xp6 := XpV2.bt (g)
    have Xx6 := XxV2.bt (g)
    have Xy6 := XyV2.bt (g)
    clear hbV2 AV2 BV2 XoV2 XpV2 XxV2 XyV2 g
    obtain ⟨t0, t1, t2, tf0, tf1, tf2⟩ := Xx6.cells
    have hb6s := Bset2 hb6 (show w.heap.size ≤ w4.heap.size by omega) (.bool sy) (.string ny) (.string dy)
    have A6s := A6.far (show w.heap.size ≠ w4.heap.size by omega) (sy, ny, dy)
    have B6s := B6.far (show w.heap.size + 1 ≠ w4.heap.size by omega) (sy, ny, dy)
    have Xo6s := Xo6.far (show w2.heap.size ≠ w4.heap.size by omega) (sy, ny, dy)
    have Xp6s := Xp6.far (show w3.heap.size ≠ w4.heap.size by omega) (sy, ny, dy)
    have Xx6s := Xx6.set sy ny dy
    have Xy6s := Xy6.far (show w5.heap.size ≠ w4.heap.size by omega) (sy, ny, dy)
    simp only at A6s B6s Xo6s Xp6s Xy6s
    clear hb6 A6 B6 Xo6 Xp6 Xx6 Xy6
    obtain ⟨Ac0, Ac1, Ac2, _, _, _⟩ := A6s.cells
    obtain ⟨Bc0, Bc1, Bc2, _, _, _⟩ := B6s.cells
    go_wp2_with fail
    refine (RSU.out _ hb6s).mono ?_
    rintro e w7 ⟨rfl, g⟩
    clear Ac0 Ac1 Ac2 Bc0 Bc1 Bc2
    have hb7 := Nb hb6s (g)
    have A7 := A6s.bt (g)
    have B7 := B6s.bt (g)
    have Xo7 := Xo6s.bt (g)
    have Xp7 := Xp6s.bt (g)
    have Xx7 := Xx6s.bt (g)
    have Xy7 := Xy6s.bt (g)
    clear hb6s A6s B6s Xo6s Xp6s Xx6s Xy6s g
    clear t0 t1 t2 tf0 tf1 tf2
    obtain ⟨t0, t1, t2, tf0, tf1, tf2⟩ := Xy7.cells
    have hb7s := Bset2 hb7 (show w.heap.size ≤ w5.heap.size by omega) (.bool sy) (.string ny) (.string dy)
    have A7s := A7.far (show w.heap.size ≠ w5.heap.size by omega) (sy, ny, dy)
    have B7s := B7.far (show w.heap.size + 1 ≠ w5.heap.size by omega) (sy, ny, dy)
    have Xo7s := Xo7.far (show w2.heap.size ≠ w5.heap.size by omega) (sy, ny, dy)
    have Xp7s := Xp7.far (show w3.heap.size ≠ w5.heap.size by omega) (sy, ny, dy)
    have Xx7s := Xx7.far (show w4.heap.size ≠ w5.heap.size by omega) (sy, ny, dy)
    have Xy7s := Xy7.set sy ny dy
    simp only at A7s B7s Xo7s Xp7s Xx7s
    clear hb7 A7 B7 Xo7 Xp7 Xx7 Xy7
    obtain ⟨Ac0, Ac1, Ac2, _, _, _⟩ := A7s.cells
    obtain ⟨Bc0, Bc1, Bc2, _, _, _⟩ := B7s.cells
    obtain ⟨Xxc0, Xxc1, Xxc2, _, _, _⟩ := Xx7s.cells
    obtain ⟨Xyc0, Xyc1, Xyc2, _, _, _⟩ := Xy7s.cells
    go_wp2_with fail
    refine (MU.out _ hb7s).mono ?_
    rintro e w8 ⟨rfl, g⟩
    clear Ac0 Ac1 Ac2 Bc0 Bc1 Bc2 Xxc0 Xxc1 Xxc2 Xyc0 Xyc1 Xyc2
    have hb8 := Nb hb7s (g)
    have A8 := A7s.bt (g)
    have B8 := B7s.bt (g)
    have Xo8 := Xo7s.bt (g)
    have Xp8 := Xp7s.bt (g)
    have Xx8 := Xx7s.bt (g)
    have Xy8 := Xy7s.bt (g)
    clear hb7s A7s B7s Xo7s Xp7s Xx7s Xy7s g
    clear t0 t1 t2 tf0 tf1 tf2
    obtain ⟨t0, t1, t2, tf0, tf1, tf2⟩ := Xx8.cells
    have hb8s := Bset2 hb8 (show w.heap.size ≤ w4.heap.size by omega) (.bool sp) (.string np) (.string dp)
    have A8s := A8.far (show w.heap.size ≠ w4.heap.size by omega) (sp, np, dp)
    have B8s := B8.far (show w.heap.size + 1 ≠ w4.heap.size by omega) (sp, np, dp)
    have Xo8s := Xo8.far (show w2.heap.size ≠ w4.heap.size by omega) (sp, np, dp)
    have Xp8s := Xp8.far (show w3.heap.size ≠ w4.heap.size by omega) (sp, np, dp)
    have Xx8s := Xx8.set sp np dp
    have Xy8s := Xy8.far (show w5.heap.size ≠ w4.heap.size by omega) (sp, np, dp)
    simp only at A8s B8s Xo8s Xp8s Xy8s
    clear hb8 A8 B8 Xo8 Xp8 Xx8 Xy8
    obtain ⟨Ac0, Ac1, Ac2, _, _, _⟩ := A8s.cells
    obtain ⟨Bc0, Bc1, Bc2, _, _, _⟩ := B8s.cells
    go_wp2_with fail
    refine (RMU.out _ hb8s).mono ?_
    rintro e w9 ⟨rfl, g⟩
    clear Ac0 Ac1 Ac2 Bc0 Bc1 Bc2
    have hb9 := Nb hb8s (g)
    have A9 := A8s.bt (g)
    have B9 := B8s.bt (g)
    have Xo9 := Xo8s.bt (g)
    have Xp9 := Xp8s.bt (g)
    have Xx9 := Xx8s.bt (g)
    have Xy9 := Xy8s.bt (g)
    clear hb8s A8s B8s Xo8s Xp8s Xx8s Xy8s g
    clear t0 t1 t2 tf0 tf1 tf2
    obtain ⟨t0, t1, t2, tf0, tf1, tf2⟩ := Xy9.cells
    have hb9s := Bset2 hb9 (show w.heap.size ≤ w5.heap.size by omega) (.bool sp) (.string np) (.string dp)
    have A9s := A9.far (show w.heap.size ≠ w5.heap.size by omega) (sp, np, dp)
    have B9s := B9.far (show w.heap.size + 1 ≠ w5.heap.size by omega) (sp, np, dp)
    have Xo9s := Xo9.far (show w2.heap.size ≠ w5.heap.size by omega) (sp, np, dp)
    have Xp9s := Xp9.far (show w3.heap.size ≠ w5.heap.size by omega) (sp, np, dp)
    have Xx9s := Xx9.far (show w4.heap.size ≠ w5.heap.size by omega) (sp, np, dp)
    have Xy9s := Xy9.set sp np dp
    simp only at A9s B9s Xo9s Xp9s Xx9s
    clear hb9 A9 B9 Xo9 Xp9 Xx9 Xy9
    obtain ⟨Ac0, Ac1, Ac2, _, _, _⟩ := A9s.cells
    obtain ⟨Bc0, Bc1, Bc2, _, _, _⟩ := B9s.cells
    obtain ⟨Xxc0, Xxc1, Xxc2, _, _, _⟩ := Xx9s.cells
    obtain ⟨Xyc0, Xyc1, Xyc2, _, _, _⟩ := Xy9s.cells
    go_wp2_with fail
    refine (DI.out _ hb9s).mono ?_
    rintro e w10 ⟨rfl, g⟩
    clear Ac0 Ac1 Ac2 Bc0 Bc1 Bc2 Xxc0 Xxc1 Xxc2 Xyc0 Xyc1 Xyc2
    have hb10 := Nb hb9s (g)
    have A10 := A9s.bt (g)
    have B10 := B9s.bt (g)
    have Xo10 := Xo9s.bt (g)
    have Xp10 := Xp9s.bt (g)
    have Xx10 := Xx9s.bt (g)
    have Xy10 := Xy9s.bt (g)
    clear hb9s A9s B9s Xo9s Xp9s Xx9s Xy9s g
    clear t0 t1 t2 tf0 tf1 tf2
    obtain ⟨t0, t1, t2, tf0, tf1, tf2⟩ := Xx10.cells
    have hb10s := Bset2 hb10 (show w.heap.size ≤ w4.heap.size by omega) (.bool sq) (.string nq) (.string dq)
    have A10s := A10.far (show w.heap.size ≠ w4.heap.size by omega) (sq, nq, dq)
    have B10s := B10.far (show w.heap.size + 1 ≠ w4.heap.size by omega) (sq, nq, dq)
    have Xo10s := Xo10.far (show w2.heap.size ≠ w4.heap.size by omega) (sq, nq, dq)
    have Xp10s := Xp10.far (show w3.heap.size ≠ w4.heap.size by omega) (sq, nq, dq)
    have Xx10s := Xx10.set sq nq dq
    have Xy10s := Xy10.far (show w5.heap.size ≠ w4.heap.size by omega) (sq, nq, dq)
    simp only at A10s B10s Xo10s Xp10s Xy10s
    clear hb10 A10 B10 Xo10 Xp10 Xx10 Xy10
    obtain ⟨Ac0, Ac1, Ac2, _, _, _⟩ := A10s.cells
    obtain ⟨Bc0, Bc1, Bc2, _, _, _⟩ := B10s.cells
    go_wp2_with fail
    refine (RDI.out _ hb10s).mono ?_
    rintro e w11 ⟨rfl, g⟩
    clear Ac0 Ac1 Ac2 Bc0 Bc1 Bc2
    have hb11 := Nb hb10s (g)
    have A11 := A10s.bt (g)
    have B11 := B10s.bt (g)
    have Xo11 := Xo10s.bt (g)
    have Xp11 := Xp10s.bt (g)
    have Xx11 := Xx10s.bt (g)
    have Xy11 := Xy10s.bt (g)
    clear hb10s A10s B10s Xo10s Xp10s Xx10s Xy10s g
    clear t0 t1 t2 tf0 tf1 tf2
    obtain ⟨t0, t1, t2, tf0, tf1, tf2⟩ := Xy11.cells
    have hb11s := Bset2 hb11 (show w.heap.size ≤ w5.heap.size by omega) (.bool sq) (.string nq) (.string dq)
    have A11s := A11.far (show w.heap.size ≠ w5.heap.size by omega) (sq, nq, dq)
    have B11s := B11.far (show w.heap.size + 1 ≠ w5.heap.size by omega) (sq, nq, dq)
    have Xo11s := Xo11.far (show w2.heap.size ≠ w5.heap.size by omega) (sq, nq, dq)
    have Xp11s := Xp11.far (show w3.heap.size ≠ w5.heap.size by omega) (sq, nq, dq)
    have Xx11s := Xx11.far (show w4.heap.size ≠ w5.heap.size by omega) (sq, nq, dq)
    have Xy11s := Xy11.set sq nq dq
    simp only at A11s B11s Xo11s Xp11s Xx11s
    clear hb11 A11 B11 Xo11 Xp11 Xx11 Xy11
    obtain ⟨Ac0, Ac1, Ac2, _, _, _⟩ := A11s.cells
    obtain ⟨Bc0, Bc1, Bc2, _, _, _⟩ := B11s.cells
    obtain ⟨Xxc0, Xxc1, Xxc2, _, _, _⟩ := Xx11s.cells
    obtain ⟨Xyc0, Xyc1, Xyc2, _, _, _⟩ := Xy11s.cells
    go_wp2_with fail
    refine (CM.out _ hb11s).mono ?_
    rintro e w12 ⟨rfl, g⟩
    clear Ac0 Ac1 Ac2 Bc0 Bc1 Bc2 Xxc0 Xxc1 Xxc2 Xyc0 Xyc1 Xyc2
    have hb12 := Nb hb11s (g)
    have A12 := A11s.bt (g)
    have B12 := B11s.bt (g)
    have Xo12 := Xo11s.bt (g)
    have Xp12 := Xp11s.bt (g)
    have Xx12 := Xx11s.bt (g)
    have Xy12 := Xy11s.bt (g)
    clear hb11s A11s B11s Xo11s Xp11s Xx11s Xy11s g
    obtain ⟨Ac0, Ac1, Ac2, _, _, _⟩ := A12.cells
    obtain ⟨Bc0, Bc1, Bc2, _, _, _⟩ := B12.cells
    go_wp2_with fail
    refine (RCM.out _ hb12).mono ?_
    rintro e w13 ⟨rfl, g⟩
    clear Ac0 Ac1 Ac2 Bc0 Bc1 Bc2
    have hb13 := Nb hb12 (g)
    have A13 := A12.bt (g)
    have B13 := B12.bt (g)
    have Xo13 := Xo12.bt (g)
    have Xp13 := Xp12.bt (g)
    have Xx13 := Xx12.bt (g)
    have Xy13 := Xy12.bt (g)
    clear hb12 A12 B12 Xo12 Xp12 Xx12 Xy12 g
    obtain ⟨Ac0, Ac1, Ac2, _, _, _⟩ := A13.cells
    go_wp2_with fail
    refine (FL.out _ hb13).mono ?_
    rintro e w14 ⟨rfl, g⟩
    clear Ac0 Ac1 Ac2
    have hb14 := Nb hb13 (g)
    have A14 := A13.bt (g)
    have B14 := B13.bt (g)
    have Xo14 := Xo13.bt (g)
    have Xp14 := Xp13.bt (g)
    have Xx14 := Xx13.bt (g)
    have Xy14 := Xy13.bt (g)
    clear hb13 A13 B13 Xo13 Xp13 Xx13 Xy13 g
    obtain ⟨Ac0, Ac1, Ac2, _, _, _⟩ := A14.cells
    go_wp2_with fail
    refine (RFL.out _ hb14).mono ?_
    rintro e w15 ⟨rfl, g⟩
    clear Ac0 Ac1 Ac2
    have hb15 := Nb hb14 (g)
    have A15 := A14.bt (g)
    have B15 := B14.bt (g)
    have Xo15 := Xo14.bt (g)
    have Xp15 := Xp14.bt (g)
    have Xx15 := Xx14.bt (g)
    have Xy15 := Xy14.bt (g)
    clear hb14 A14 B14 Xo14 Xp14 Xx14 Xy14 g
    go_wp2_with fail
    go_ret
    exact ⟨rfl, hb15⟩

end Go.Proofs.YtmnnaaifebajnaaGreatDoor

/- RatioMatchesReference: the walk at all numbers. -/
set_option linter.unusedSimpArgs false
set_option linter.unusedVariables false
namespace Go.Proofs.YtmnnaaifebajnaaGreatDoor
open Go.RowKit
open Ra (Fit)
set_option maxRecDepth 100000

theorem match_walk (a b : R3) (m n : Int) (w : World) (hP : Px w.heap.size w) (ha : a.2.1.size ≤ maxLen ∧ a.2.2.size ≤ maxLen) (hb : b.2.1.size ≤ maxLen ∧ b.2.2.size ≤ maxLen) (hm : (Go.Lit.int .i64 m).wf = true) (hn : (Go.Lit.int .i64 n).wf = true) :
    Calls Tryz.prog 3 #[rV a, rV b, .int .i64 m, .int .i64 n] w fun e w' => e = .returned (.bool true) ∧ Below w.heap.size w w' := by
  obtain ⟨m0, m1⟩ : IntKind.i64.min ≤ m ∧ m ≤ IntKind.i64.max := by simpa [Go.Lit.wf] using hm
  change -9223372036854775808 ≤ m at m0
  change m ≤ 9223372036854775807 at m1
  obtain ⟨n0, n1⟩ : IntKind.i64.min ≤ n ∧ n ≤ IntKind.i64.max := by simpa [Go.Lit.wf] using hn
  change -9223372036854775808 ≤ n at n0
  change n ≤ 9223372036854775807 at n1
  have H := Lib.hid (fun v (h : Below w.heap.size w v) => head_any v (hP.bt h))
  by_cases hs : ∀ x ∈ [a.2.1, a.2.2, b.2.1, b.2.2], x.size ≤ 160
  · simp only [List.mem_cons, List.not_mem_nil, or_false, forall_eq_or_imp, forall_eq] at hs
    obtain ⟨s1, s2, s3, s4⟩ := hs
    have ka : a.2.1.size ≤ 1000 ∧ a.2.2.size ≤ 1000 := ⟨by omega, by omega⟩
    have kb : b.2.1.size ≤ 1000 ∧ b.2.2.size ≤ 1000 := ⟨by omega, by omega⟩
    have P := fun v (h : Below w.heap.size w v) => (hP.bt h).1
    exact match_good (m := m) (n := n) (zna := ha.1) (zda := ha.2) (znb := hb.1) (zdb := hb.2) (w := w) (H := H)
      (OF := Lib.hid (fun v h => opOf m n v (P v h) ⟨m0, m1⟩ ⟨n0, n1⟩)) (ROF := Lib.hid (fun v _ => rof m n v ⟨m0, m1⟩ ⟨n0, n1⟩))
      (AD := Lib.hid (fun v h => opAdd a b v (P v h) ha hb)) (RAD := Lib.hid (fun v _ => radd_q a b v ka kb))
      (VA := Lib.hid (fun v h => valid_any a v (P v h) ha.1 ha.2)) (RVA := Lib.hid (fun v _ => rvalid_any a v ka.1 ka.2))
      (SU := Lib.hid (fun v h => opSub a b v (P v h) ha hb)) (RSU := Lib.hid (fun v _ => rsub_q a b v ka kb))
      (MU := Lib.hid (fun v h => opMul a b v (P v h) ha hb)) (RMU := Lib.hid (fun v _ => rmul_q a b v ka kb))
      (DI := Lib.hid (fun v h => opDiv a b v (P v h) ha hb)) (RDI := Lib.hid (fun v _ => rdiv_q a b v ka kb))
      (CM := Lib.hid (fun v h => opCompare a b v (P v h) ha hb)) (RCM := Lib.hid (fun v _ => rcompare_q a b v ka kb))
      (FL := Lib.hid (fun v h => opFloor a v (P v h) ha)) (RFL := Lib.hid (fun v _ => rfloor_q a v ka))
  · exact match_early (sa := a.1) (sb := b.1) (m := m) (n := n) (zna := ha.1) (zda := ha.2) (znb := hb.1) (zdb := hb.2) (hns := hs) (w := w) (H := H)
end Go.Proofs.YtmnnaaifebajnaaGreatDoor
