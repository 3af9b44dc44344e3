/- RatioOrder: the walk. -/
import Derived.Test.YtmnnaaifebajnaaGreatDoorRaHd
import Derived.Test.YtmnnaaifebajnaaGreatDoorRaSh
import Derived.Test.YtmnnaaifebajnaaGreatDoorRaLw
import Derived.Deep.DeepCutAuto
set_option linter.unusedSimpArgs false
set_option linter.unusedVariables false
namespace Go.Proofs.YtmnnaaifebajnaaGreatDoor
open Go.RowKit
open Ra (Fit)
set_option maxRecDepth 100000

set_option maxHeartbeats 4000000 in
theorem order_good0 (sa sb sc s1 s2 : Bool) (na da nb db nc dc n1 d1 n2 d2 : ByteArray) (zna : na.size ≤ 9223372036854775807) (zda : da.size ≤ 9223372036854775807) (znb : nb.size ≤ 9223372036854775807) (zdb : db.size ≤ 9223372036854775807) (znc : nc.size ≤ 9223372036854775807) (zdc : dc.size ≤ 9223372036854775807) (x y z u : Int) (hx1 : ¬ x < -1) (hx2 : ¬ 1 < x) (hwy : IntKind.i64.wrap (-y) = x) (HC : Hid ((x = 0 ∧ sa = sb ∧ na = nb ∧ da = db) ∨ (¬ x = 0 ∧ (sa == sb) = false) ∨ (¬ x = 0 ∧ sa = sb ∧ (na.toList == nb.toList) = false) ∨ (¬ x = 0 ∧ sa = sb ∧ na = nb ∧ (da.toList == db.toList) = false))) (HT : Hid (0 < x ∨ (x ≤ 0 ∧ 0 < z) ∨ (x ≤ 0 ∧ z ≤ 0 ∧ u ≤ 0))) (HN : Hid (sc = true ∨ (sc = false ∧ nc = ⟨#[48]⟩))) (w : World)
    (H : Hid (∀ v, Below w.heap.size w v → Calls Tryz.prog 10 #[] v fun e w' => e = .returned (.bool true) ∧ Below v.heap.size v w'))
    (VA : Hid (∀ v, Below w.heap.size w v → Calls Tryz.prog 16 #[rV (sa, na, da)] v fun e w' => e = .returned (.bool true) ∧ Below v.heap.size v w'))
    (VB : Hid (∀ v, Below w.heap.size w v → Calls Tryz.prog 16 #[rV (sb, nb, db)] v fun e w' => e = .returned (.bool true) ∧ Below v.heap.size v w'))
    (VC : Hid (∀ v, Below w.heap.size w v → Calls Tryz.prog 16 #[rV (sc, nc, dc)] v fun e w' => e = .returned (.bool true) ∧ Below v.heap.size v w'))
    (E1 : Hid (∀ v, Below w.heap.size w v → Calls Tryz.prog 24 #[rV (sa, na, da), rV (sb, nb, db)] v fun e w' => e = .returned (.tuple #[.int .i64 x, .int .i64 0]) ∧ Below v.heap.size v w'))
    (E2 : Hid (∀ v, Below w.heap.size w v → Calls Tryz.prog 24 #[rV (sb, nb, db), rV (sa, na, da)] v fun e w' => e = .returned (.tuple #[.int .i64 y, .int .i64 0]) ∧ Below v.heap.size v w'))
    (E3 : Hid (∀ v, Below w.heap.size w v → Calls Tryz.prog 24 #[rV (sb, nb, db), rV (sc, nc, dc)] v fun e w' => e = .returned (.tuple #[.int .i64 z, .int .i64 0]) ∧ Below v.heap.size v w'))
    (E4 : Hid (∀ v, Below w.heap.size w v → Calls Tryz.prog 24 #[rV (sa, na, da), rV (sc, nc, dc)] v fun e w' => e = .returned (.tuple #[.int .i64 u, .int .i64 0]) ∧ Below v.heap.size v w'))
    (E5 : Hid (∀ v, Below w.heap.size w v → Calls Tryz.prog 14 #[rV (sa, na, da), rV (sc, nc, dc)] v fun e w' => e = .returned (.tuple #[rV (s1, n1, d1), .int .i64 0]) ∧ Below v.heap.size v w'))
    (E6 : Hid (∀ v, Below w.heap.size w v → Calls Tryz.prog 14 #[rV (sb, nb, db), rV (sc, nc, dc)] v fun e w' => e = .returned (.tuple #[rV (s2, n2, d2), .int .i64 0]) ∧ Below v.heap.size v w'))
    (E7 : Hid (∀ v, Below w.heap.size w v → Calls Tryz.prog 24 #[rV (s1, n1, d1), rV (s2, n2, d2)] v fun e w' => e = .returned (.tuple #[.int .i64 x, .int .i64 0]) ∧ Below v.heap.size v w')) :
    Calls Tryz.prog 6 #[rV (sa, na, da), rV (sb, nb, db), rV (sc, nc, dc)] w fun e w' => e = .returned (.bool true) ∧ Below w.heap.size w w' := by
  obtain ⟨hb0, A0, B0, C0, nn⟩ := start3 w (sa, na, da) (sb, nb, db) (sc, nc, dc) _ rfl
  unfold ob at hb0 A0 B0 C0
  unfold rV at VA VB VC E1 E2 E3 E4 E5 E6 E7 ⊢
  simp only at hb0 A0 B0 C0 VA VB VC E1 E2 E3 E4 E5 E6 E7 ⊢
  go_enter Tryz.func6, Tryz.ntmps6
  go_wp2_with fail
  refine (H.out _ hb0).mono ?_
  rintro e w1 ⟨rfl, g⟩
  have hb1 := Nb hb0 (g)
  have A1 := A0.bt (g)
  have B1 := B0.bt (g)
  have C1 := C0.bt (g)
  clear hb0 A0 B0 C0 g
  obtain ⟨Ac0, Ac1, Ac2, _, _, _⟩ := A1.cells
  obtain ⟨Bc0, Bc1, Bc2, _, _, _⟩ := B1.cells
  obtain ⟨Cc0, Cc1, Cc2, _, _, _⟩ := C1.cells
  go_wp2_with fail
  have hX : (w1.alloc (.cells #[.bool sa, .string na, .string da, .bool sb, .string nb, .string db, .bool sc, .string nc, .string dc] 23)).heap[w1.heap.size]? = some (.cells #[.bool sa, .string na, .string da, .bool sb, .string nb, .string db, .bool sc, .string nc, .string dc] 23 (0, 0)) := heap_alloc_new _ _
  have SH := Lib.hid (lshort3 40 (by omega) w1.heap.size na da nb db nc dc (w1.alloc (.cells #[.bool sa, .string na, .string da, .bool sb, .string nb, .string db, .bool sc, .string nc, .string dc] 23)) (by rw [Lib.cell_of_heap hX]; rfl) (by rw [Lib.cell_of_heap hX]; rfl) (by rw [Lib.cell_of_heap hX]; rfl) (by rw [Lib.cell_of_heap hX]; rfl) (by rw [Lib.cell_of_heap hX]; rfl) (by rw [Lib.cell_of_heap hX]; rfl) zna zda znb zdb znc zdc)
  rw [show ((40 : Nat) : Int) = 40 from rfl] at SH
  refine SH.out.mono ?_
  rintro e wS ⟨r, rfl, hr, rfl⟩
  clear Ac0 Ac1 Ac2 Bc0 Bc1 Bc2 Cc0 Cc1 Cc2
  clear SH hX
  have hb1s := Nb hb1 (al w1 (.cells #[.bool sa, .string na, .string da, .bool sb, .string nb, .string db, .bool sc, .string nc, .string dc] 23))
  have A1s := A1.bt (al w1 (.cells #[.bool sa, .string na, .string da, .bool sb, .string nb, .string db, .bool sc, .string nc, .string dc] 23))
  have B1s := B1.bt (al w1 (.cells #[.bool sa, .string na, .string da, .bool sb, .string nb, .string db, .bool sc, .string nc, .string dc] 23))
  have C1s := C1.bt (al w1 (.cells #[.bool sa, .string na, .string da, .bool sb, .string nb, .string db, .bool sc, .string nc, .string dc] 23))
  clear hb1 A1 B1 C1 
  clear hr
  cases r
  · go_wp2_with fail
    go_ret
    exact ⟨rfl, hb1s⟩
  · obtain ⟨Ac0, Ac1, Ac2, _, _, _⟩ := A1s.cells
    go_wp2_with fail
    refine (VA.out _ hb1s).mono ?_
    rintro e w2 ⟨rfl, g⟩
    clear Ac0 Ac1 Ac2
    have hb2 := Nb hb1s (g)
    have A2 := A1s.bt (g)
    have B2 := B1s.bt (g)
    have C2 := C1s.bt (g)
    clear hb1s A1s B1s C1s g
    obtain ⟨Bc0, Bc1, Bc2, _, _, _⟩ := B2.cells
    go_wp2_with fail
    refine (VB.out _ hb2).mono ?_
    rintro e w3 ⟨rfl, g⟩
    clear Bc0 Bc1 Bc2
    have hb3 := Nb hb2 (g)
    have A3 := A2.bt (g)
    have B3 := B2.bt (g)
    have C3 := C2.bt (g)
    clear hb2 A2 B2 C2 g
    obtain ⟨Cc0, Cc1, Cc2, _, _, _⟩ := C3.cells
    go_wp2_with fail
    refine (VC.out _ hb3).mono ?_
    rintro e w4 ⟨rfl, g⟩
    clear Cc0 Cc1 Cc2
    have hb4 := Nb hb3 (g)
    have A4 := A3.bt (g)
    have B4 := B3.bt (g)
    have C4 := C3.bt (g)
    clear hb3 A3 B3 C3 g
    obtain ⟨Ac0, Ac1, Ac2, _, _, _⟩ := A4.cells
    obtain ⟨Bc0, Bc1, Bc2, _, _, _⟩ := B4.cells
    go_wp2_with fail
    refine (E1.out _ hb4).mono ?_
    rintro e w5 ⟨rfl, g⟩
    clear Ac0 Ac1 Ac2 Bc0 Bc1 Bc2
    have hb5 := Nb hb4 (g)
    have A5 := A4.bt (g)
    have B5 := B4.bt (g)
    have C5 := C4.bt (g)
    clear hb4 A4 B4 C4 g
    obtain ⟨Bc0, Bc1, Bc2, _, _, _⟩ := B5.cells
    obtain ⟨Ac0, Ac1, Ac2, _, _, _⟩ := A5.cells
    go_wp2_with fail
    refine (E2.out _ hb5).mono ?_
    rintro e w6 ⟨rfl, g⟩
    clear Bc0 Bc1 Bc2 Ac0 Ac1 Ac2
    have hb6 := Nb hb5 (g)
    have A6 := A5.bt (g)
    have B6 := B5.bt (g)
    have C6 := C5.bt (g)
    clear hb5 A5 B5 C5 g
    obtain ⟨Bc0, Bc1, Bc2, _, _, _⟩ := B6.cells
    obtain ⟨Cc0, Cc1, Cc2, _, _, _⟩ := C6.cells
    go_wp2_with fail
    refine (E3.out _ hb6).mono ?_
    rintro e w7 ⟨rfl, g⟩
    clear Bc0 Bc1 Bc2 Cc0 Cc1 Cc2
    have hb7 := Nb hb6 (g)
    have A7 := A6.bt (g)
    have B7 := B6.bt (g)
    have C7 := C6.bt (g)
    clear hb6 A6 B6 C6 g
    obtain ⟨Ac0, Ac1, Ac2, _, _, _⟩ := A7.cells
    obtain ⟨Cc0, Cc1, Cc2, _, _, _⟩ := C7.cells
    go_wp2_with fail
    refine (E4.out _ hb7).mono ?_
    rintro e w8 ⟨rfl, g⟩
    clear Ac0 Ac1 Ac2 Cc0 Cc1 Cc2
    have hb8 := Nb hb7 (g)
    have A8 := A7.bt (g)
    have B8 := B7.bt (g)
    have C8 := C7.bt (g)
    clear hb7 A7 B7 C7 g
    obtain ⟨Ac0, Ac1, Ac2, _, _, _⟩ := A8.cells
    obtain ⟨Cc0, Cc1, Cc2, _, _, _⟩ := C8.cells
    go_wp2_with fail
    refine (E5.out _ hb8).mono ?_
    rintro e w9 ⟨rfl, g⟩
    clear Ac0 Ac1 Ac2 Cc0 Cc1 Cc2
    have hb9 := Nb hb8 (g)
    have A9 := A8.bt (g)
    have B9 := B8.bt (g)
    have C9 := C8.bt (g)
    clear hb8 A8 B8 C8 g
    have hb9x := Nb hb9 (al w9 (.cells #[.bool s1, .string n1, .string d1] 23))
    have A9x := A9.bt (al w9 (.cells #[.bool s1, .string n1, .string d1] 23))
    have B9x := B9.bt (al w9 (.cells #[.bool s1, .string n1, .string d1] 23))
    have C9x := C9.bt (al w9 (.cells #[.bool s1, .string n1, .string d1] 23))
    clear hb9 A9 B9 C9 
    have Xp9x := At.new w9 s1 n1 d1
    obtain ⟨Bc0, Bc1, Bc2, _, _, _⟩ := B9x.cells
    obtain ⟨Cc0, Cc1, Cc2, _, _, _⟩ := C9x.cells
    go_wp2_with fail
    refine (E6.out _ hb9x).mono ?_
    rintro e w10 ⟨rfl, g⟩
    clear Bc0 Bc1 Bc2 Cc0 Cc1 Cc2
    have hb10 := Nb hb9x (g)
    have A10 := A9x.bt (g)
    have B10 := B9x.bt (g)
    have C10 := C9x.bt (g)
    have Xp10 := Xp9x.bt (g)
    clear hb9x A9x B9x C9x Xp9x g
    have hb10x := Nb hb10 (al w10 (.cells #[.bool s2, .string n2, .string d2] 23))
    have A10x := A10.bt (al w10 (.cells #[.bool s2, .string n2, .string d2] 23))
    have B10x := B10.bt (al w10 (.cells #[.bool s2, .string n2, .string d2] 23))
    have C10x := C10.bt (al w10 (.cells #[.bool s2, .string n2, .string d2] 23))
    have Xp10x := Xp10.bt (al w10 (.cells #[.bool s2, .string n2, .string d2] 23))
    clear hb10 A10 B10 C10 Xp10 
    have Xq10x := At.new w10 s2 n2 d2
    obtain ⟨Xpc0, Xpc1, Xpc2, _, _, _⟩ := Xp10x.cells
    obtain ⟨Xqc0, Xqc1, Xqc2, _, _, _⟩ := Xq10x.cells
    go_wp2_with fail
    refine (E7.out _ hb10x).mono ?_
    rintro e w11 ⟨rfl, g⟩
    clear Xpc0 Xpc1 Xpc2 Xqc0 Xqc1 Xqc2
    have hb11 := Nb hb10x (g)
    have A11 := A10x.bt (g)
    have B11 := B10x.bt (g)
    have C11 := C10x.bt (g)
    have Xp11 := Xp10x.bt (g)
    have Xq11 := Xq10x.bt (g)
    clear hb10x A10x B10x C10x Xp10x Xq10x g
    obtain ⟨Ac0, Ac1, Ac2, _, _, _⟩ := A11.cells
    obtain ⟨Bc0, Bc1, Bc2, _, _, _⟩ := B11.cells
    go_upto_region 13 with fail
    go_cut [155] (fun s155 wx => s155 = .bool false ∧ Below w.heap.size w wx ∧ At wx w.heap.size (sa, na, da) ∧ At wx (w.heap.size + 1) (sb, nb, db) ∧ At wx (w.heap.size + 1 + 1) (sc, nc, dc))
    case first =>
      have hc := HC.out
      have ht := HT.out
      rcases hc with ⟨rfl, rfl, rfl, rfl⟩ | ⟨q1, q2⟩ | ⟨q1, rfl, q2⟩ | ⟨q1, rfl, rfl, q2⟩
      · rcases ht with q3 | ⟨q3, q4⟩ | ⟨q3, q4, q5⟩
        · exact absurd q3 (by omega)
        · go_wp2_with fail
          go_meet
          exact ⟨rfl, hb11, A11, B11, C11⟩
        · have b1 : decide (0 < u) = false := decide_eq_false (by omega)
          go_wp2_with fail
          go_meet
          exact ⟨rfl, hb11, A11, B11, C11⟩
      · have b0 : (x == 0) = false := by simpa using q1
        rcases ht with q3 | ⟨q3, q4⟩ | ⟨q3, q4, q5⟩
        · go_wp2_with fail
          go_meet
          exact ⟨rfl, hb11, A11, B11, C11⟩
        · go_wp2_with fail
          go_meet
          exact ⟨rfl, hb11, A11, B11, C11⟩
        · have b1 : decide (0 < u) = false := decide_eq_false (by omega)
          go_wp2_with fail
          go_meet
          exact ⟨rfl, hb11, A11, B11, C11⟩
      · have b0 : (x == 0) = false := by simpa using q1
        rcases ht with q3 | ⟨q3, q4⟩ | ⟨q3, q4, q5⟩
        · go_wp2_with fail
          go_meet
          exact ⟨rfl, hb11, A11, B11, C11⟩
        · go_wp2_with fail
          go_meet
          exact ⟨rfl, hb11, A11, B11, C11⟩
        · have b1 : decide (0 < u) = false := decide_eq_false (by omega)
          go_wp2_with fail
          go_meet
          exact ⟨rfl, hb11, A11, B11, C11⟩
      · have b0 : (x == 0) = false := by simpa using q1
        rcases ht with q3 | ⟨q3, q4⟩ | ⟨q3, q4, q5⟩
        · go_wp2_with fail
          go_meet
          exact ⟨rfl, hb11, A11, B11, C11⟩
        · go_wp2_with fail
          go_meet
          exact ⟨rfl, hb11, A11, B11, C11⟩
        · have b1 : decide (0 < u) = false := decide_eq_false (by omega)
          go_wp2_with fail
          go_meet
          exact ⟨rfl, hb11, A11, B11, C11⟩
    case rest =>
      clear Ac0 Ac1 Ac2 Bc0 Bc1 Bc2
      clear hb11 A11 B11 C11 Xp11 Xq11
      obtain ⟨rfl, hbR, AR, BR, CR⟩ := hcut
      obtain ⟨Ac0, Ac1, Ac2, _, _, _⟩ := AR.cells
      obtain ⟨Bc0, Bc1, Bc2, _, _, _⟩ := BR.cells
      obtain ⟨Cc0, Cc1, Cc2, _, _, _⟩ := CR.cells
      rcases HN.out with rfl | ⟨rfl, rfl⟩
      · go_wp2_with fail
        go_ret
        exact ⟨rfl, hbR⟩
      · go_wp2_with fail
        go_ret
        exact ⟨rfl, hbR⟩

end Go.Proofs.YtmnnaaifebajnaaGreatDoor
