/- RatioField: the walk. -/
import Derived.Test.YtmnnaaifebajnaaGreatDoorRaHd
import Derived.Test.YtmnnaaifebajnaaGreatDoorRaSh
import Derived.Test.YtmnnaaifebajnaaGreatDoorRaLw
set_option linter.unusedSimpArgs false
set_option linter.unusedVariables false
namespace Go.Proofs.YtmnnaaifebajnaaGreatDoor
open Go.RowKit
open Ra (Fit)
set_option maxRecDepth 100000

set_option maxHeartbeats 1000000 in
theorem field_early0 (sa sb sc : Bool) (na da nb db nc dc : ByteArray) (zna : na.size ≤ 9223372036854775807) (zda : da.size ≤ 9223372036854775807) (znb : nb.size ≤ 9223372036854775807) (zdb : db.size ≤ 9223372036854775807) (znc : nc.size ≤ 9223372036854775807) (zdc : dc.size ≤ 9223372036854775807) (hns : ¬ ∀ x ∈ [na, da, nb, db, nc, dc], x.size ≤ 40) (w : World)
    (H : Hid (∀ v, Below w.heap.size w v → Calls Tryz.prog 10 #[] v fun e w' => e = .returned (.bool true) ∧ Below v.heap.size v w')) :
    Calls Tryz.prog 5 #[rV (sa, na, da), rV (sb, nb, db), rV (sc, nc, dc)] w fun e w' => e = .returned (.bool true) ∧ Below w.heap.size w w' := by
  obtain ⟨hb0, A0, B0, C0, nn⟩ := start3 w (sa, na, da) (sb, nb, db) (sc, nc, dc) _ rfl
  unfold ob at hb0 A0 B0 C0
  unfold rV at  ⊢
  simp only at hb0 A0 B0 C0  ⊢
  go_enter Tryz.func5, Tryz.ntmps5
  go_wp2_with fail
  refine (H.out _ hb0).mono ?_
  rintro e w1 ⟨rfl, g⟩
  have hb1 := Nb hb0 (g)
  have A1 := A0.bt (g)
  have B1 := B0.bt (g)
  have C1 := C0.bt (g)
  clear hb0 A0 B0 C0 g
  obtain ⟨Ac0, Ac1, Ac2, _, _, _⟩ := A1.cells
  obtain ⟨Bc0, Bc1, Bc2, _, _, _⟩ := B1.cells
  obtain ⟨Cc0, Cc1, Cc2, _, _, _⟩ := C1.cells
  go_wp2_with fail
  have hX : (w1.alloc (.cells #[.bool sa, .string na, .string da, .bool sb, .string nb, .string db, .bool sc, .string nc, .string dc] 23)).heap[w1.heap.size]? = some (.cells #[.bool sa, .string na, .string da, .bool sb, .string nb, .string db, .bool sc, .string nc, .string dc] 23 (0, 0)) := heap_alloc_new _ _
  have SH := Lib.hid (lshort3 40 (by omega) w1.heap.size na da nb db nc dc (w1.alloc (.cells #[.bool sa, .string na, .string da, .bool sb, .string nb, .string db, .bool sc, .string nc, .string dc] 23)) (by rw [Lib.cell_of_heap hX]; rfl) (by rw [Lib.cell_of_heap hX]; rfl) (by rw [Lib.cell_of_heap hX]; rfl) (by rw [Lib.cell_of_heap hX]; rfl) (by rw [Lib.cell_of_heap hX]; rfl) (by rw [Lib.cell_of_heap hX]; rfl) zna zda znb zdb znc zdc)
  rw [show ((40 : Nat) : Int) = 40 from rfl] at SH
  refine SH.out.mono ?_
  rintro e wS ⟨r, rfl, hr, rfl⟩
  clear Ac0 Ac1 Ac2 Bc0 Bc1 Bc2 Cc0 Cc1 Cc2
  clear SH hX
  have hb1s := Nb hb1 (al w1 (.cells #[.bool sa, .string na, .string da, .bool sb, .string nb, .string db, .bool sc, .string nc, .string dc] 23))
  have A1s := A1.bt (al w1 (.cells #[.bool sa, .string na, .string da, .bool sb, .string nb, .string db, .bool sc, .string nc, .string dc] 23))
  have B1s := B1.bt (al w1 (.cells #[.bool sa, .string na, .string da, .bool sb, .string nb, .string db, .bool sc, .string nc, .string dc] 23))
  have C1s := C1.bt (al w1 (.cells #[.bool sa, .string na, .string da, .bool sb, .string nb, .string db, .bool sc, .string nc, .string dc] 23))
  clear hb1 A1 B1 C1 
  obtain rfl : r = false := by
    cases r
    · rfl
    · exact absurd (hr rfl) hns
  go_wp2_with fail
  go_ret
  exact ⟨rfl, hb1s⟩

set_option maxHeartbeats 1000000 in
theorem field_early1 (sa sb sc : Bool) (na da nb db nc dc : ByteArray) (zna : na.size ≤ 9223372036854775807) (zda : da.size ≤ 9223372036854775807) (znb : nb.size ≤ 9223372036854775807) (zdb : db.size ≤ 9223372036854775807) (znc : nc.size ≤ 9223372036854775807) (zdc : dc.size ≤ 9223372036854775807) (w : World)
    (H : Hid (∀ v, Below w.heap.size w v → Calls Tryz.prog 10 #[] v fun e w' => e = .returned (.bool true) ∧ Below v.heap.size v w'))
    (VA : Hid (∀ v, Below w.heap.size w v → Calls Tryz.prog 16 #[rV (sa, na, da)] v fun e w' => e = .returned (.bool false) ∧ Below v.heap.size v w')) :
    Calls Tryz.prog 5 #[rV (sa, na, da), rV (sb, nb, db), rV (sc, nc, dc)] w fun e w' => e = .returned (.bool true) ∧ Below w.heap.size w w' := by
  obtain ⟨hb0, A0, B0, C0, nn⟩ := start3 w (sa, na, da) (sb, nb, db) (sc, nc, dc) _ rfl
  unfold ob at hb0 A0 B0 C0
  unfold rV at VA ⊢
  simp only at hb0 A0 B0 C0 VA ⊢
  go_enter Tryz.func5, Tryz.ntmps5
  go_wp2_with fail
  refine (H.out _ hb0).mono ?_
  rintro e w1 ⟨rfl, g⟩
  have hb1 := Nb hb0 (g)
  have A1 := A0.bt (g)
  have B1 := B0.bt (g)
  have C1 := C0.bt (g)
  clear hb0 A0 B0 C0 g
  obtain ⟨Ac0, Ac1, Ac2, _, _, _⟩ := A1.cells
  obtain ⟨Bc0, Bc1, Bc2, _, _, _⟩ := B1.cells
  obtain ⟨Cc0, Cc1, Cc2, _, _, _⟩ := C1.cells
  go_wp2_with fail
  have hX : (w1.alloc (.cells #[.bool sa, .string na, .string da, .bool sb, .string nb, .string db, .bool sc, .string nc, .string dc] 23)).heap[w1.heap.size]? = some (.cells #[.bool sa, .string na, .string da, .bool sb, .string nb, .string db, .bool sc, .string nc, .string dc] 23 (0, 0)) := heap_alloc_new _ _
  have SH := Lib.hid (lshort3 40 (by omega) w1.heap.size na da nb db nc dc (w1.alloc (.cells #[.bool sa, .string na, .string da, .bool sb, .string nb, .string db, .bool sc, .string nc, .string dc] 23)) (by rw [Lib.cell_of_heap hX]; rfl) (by rw [Lib.cell_of_heap hX]; rfl) (by rw [Lib.cell_of_heap hX]; rfl) (by rw [Lib.cell_of_heap hX]; rfl) (by rw [Lib.cell_of_heap hX]; rfl) (by rw [Lib.cell_of_heap hX]; rfl) zna zda znb zdb znc zdc)
  rw [show ((40 : Nat) : Int) = 40 from rfl] at SH
  refine SH.out.mono ?_
  rintro e wS ⟨r, rfl, hr, rfl⟩
  clear Ac0 Ac1 Ac2 Bc0 Bc1 Bc2 Cc0 Cc1 Cc2
  clear SH hX
  have hb1s := Nb hb1 (al w1 (.cells #[.bool sa, .string na, .string da, .bool sb, .string nb, .string db, .bool sc, .string nc, .string dc] 23))
  have A1s := A1.bt (al w1 (.cells #[.bool sa, .string na, .string da, .bool sb, .string nb, .string db, .bool sc, .string nc, .string dc] 23))
  have B1s := B1.bt (al w1 (.cells #[.bool sa, .string na, .string da, .bool sb, .string nb, .string db, .bool sc, .string nc, .string dc] 23))
  have C1s := C1.bt (al w1 (.cells #[.bool sa, .string na, .string da, .bool sb, .string nb, .string db, .bool sc, .string nc, .string dc] 23))
  clear hb1 A1 B1 C1 
  clear hr
  cases r
  · go_wp2_with fail
    go_ret
    exact ⟨rfl, hb1s⟩
  · obtain ⟨Ac0, Ac1, Ac2, _, _, _⟩ := A1s.cells
    go_wp2_with fail
    refine (VA.out _ hb1s).mono ?_
    rintro e w2 ⟨rfl, g⟩
    clear Ac0 Ac1 Ac2
    have hb2 := Nb hb1s (g)
    have A2 := A1s.bt (g)
    have B2 := B1s.bt (g)
    have C2 := C1s.bt (g)
    clear hb1s A1s B1s C1s g
    go_wp2_with fail
    go_ret
    exact ⟨rfl, hb2⟩

set_option maxHeartbeats 1000000 in
theorem field_early2 (sa sb sc : Bool) (na da nb db nc dc : ByteArray) (zna : na.size ≤ 9223372036854775807) (zda : da.size ≤ 9223372036854775807) (znb : nb.size ≤ 9223372036854775807) (zdb : db.size ≤ 9223372036854775807) (znc : nc.size ≤ 9223372036854775807) (zdc : dc.size ≤ 9223372036854775807) (w : World)
    (H : Hid (∀ v, Below w.heap.size w v → Calls Tryz.prog 10 #[] v fun e w' => e = .returned (.bool true) ∧ Below v.heap.size v w'))
    (VA : Hid (∀ v, Below w.heap.size w v → Calls Tryz.prog 16 #[rV (sa, na, da)] v fun e w' => e = .returned (.bool true) ∧ Below v.heap.size v w'))
    (VB : Hid (∀ v, Below w.heap.size w v → Calls Tryz.prog 16 #[rV (sb, nb, db)] v fun e w' => e = .returned (.bool false) ∧ Below v.heap.size v w')) :
    Calls Tryz.prog 5 #[rV (sa, na, da), rV (sb, nb, db), rV (sc, nc, dc)] w fun e w' => e = .returned (.bool true) ∧ Below w.heap.size w w' := by
  obtain ⟨hb0, A0, B0, C0, nn⟩ := start3 w (sa, na, da) (sb, nb, db) (sc, nc, dc) _ rfl
  unfold ob at hb0 A0 B0 C0
  unfold rV at VA VB ⊢
  simp only at hb0 A0 B0 C0 VA VB ⊢
  go_enter Tryz.func5, Tryz.ntmps5
  go_wp2_with fail
  refine (H.out _ hb0).mono ?_
  rintro e w1 ⟨rfl, g⟩
  have hb1 := Nb hb0 (g)
  have A1 := A0.bt (g)
  have B1 := B0.bt (g)
  have C1 := C0.bt (g)
  clear hb0 A0 B0 C0 g
  obtain ⟨Ac0, Ac1, Ac2, _, _, _⟩ := A1.cells
  obtain ⟨Bc0, Bc1, Bc2, _, _, _⟩ := B1.cells
  obtain ⟨Cc0, Cc1, Cc2, _, _, _⟩ := C1.cells
  go_wp2_with fail
  have hX : (w1.alloc (.cells #[.bool sa, .string na, .string da, .bool sb, .string nb, .string db, .bool sc, .string nc, .string dc] 23)).heap[w1.heap.size]? = some (.cells #[.bool sa, .string na, .string da, .bool sb, .string nb, .string db, .bool sc, .string nc, .string dc] 23 (0, 0)) := heap_alloc_new _ _
  have SH := Lib.hid (lshort3 40 (by omega) w1.heap.size na da nb db nc dc (w1.alloc (.cells #[.bool sa, .string na, .string da, .bool sb, .string nb, .string db, .bool sc, .string nc, .string dc] 23)) (by rw [Lib.cell_of_heap hX]; rfl) (by rw [Lib.cell_of_heap hX]; rfl) (by rw [Lib.cell_of_heap hX]; rfl) (by rw [Lib.cell_of_heap hX]; rfl) (by rw [Lib.cell_of_heap hX]; rfl) (by rw [Lib.cell_of_heap hX]; rfl) zna zda znb zdb znc zdc)
  rw [show ((40 : Nat) : Int) = 40 from rfl] at SH
  refine SH.out.mono ?_
  rintro e wS ⟨r, rfl, hr, rfl⟩
  clear Ac0 Ac1 Ac2 Bc0 Bc1 Bc2 Cc0 Cc1 Cc2
  clear SH hX
  have hb1s := Nb hb1 (al w1 (.cells #[.bool sa, .string na, .string da, .bool sb, .string nb, .string db, .bool sc, .string nc, .string dc] 23))
  have A1s := A1.bt (al w1 (.cells #[.bool sa, .string na, .string da, .bool sb, .string nb, .string db, .bool sc, .string nc, .string dc] 23))
  have B1s := B1.bt (al w1 (.cells #[.bool sa, .string na, .string da, .bool sb, .string nb, .string db, .bool sc, .string nc, .string dc] 23))
  have C1s := C1.bt (al w1 (.cells #[.bool sa, .string na, .string da, .bool sb, .string nb, .string db, .bool sc, .string nc, .string dc] 23))
  clear hb1 A1 B1 C1 
  clear hr
  cases r
  · go_wp2_with fail
    go_ret
    exact ⟨rfl, hb1s⟩
  · obtain ⟨Ac0, Ac1, Ac2, _, _, _⟩ := A1s.cells
    go_wp2_with fail
    refine (VA.out _ hb1s).mono ?_
    rintro e w2 ⟨rfl, g⟩
    clear Ac0 Ac1 Ac2
    have hb2 := Nb hb1s (g)
    have A2 := A1s.bt (g)
    have B2 := B1s.bt (g)
    have C2 := C1s.bt (g)
    clear hb1s A1s B1s C1s g
    obtain ⟨Bc0, Bc1, Bc2, _, _, _⟩ := B2.cells
    go_wp2_with fail
    refine (VB.out _ hb2).mono ?_
    rintro e w3 ⟨rfl, g⟩
    clear Bc0 Bc1 Bc2
    have hb3 := Nb hb2 (g)
    have A3 := A2.bt (g)
    have B3 := B2.bt (g)
    have C3 := C2.bt (g)
    clear hb2 A2 B2 C2 g
    go_wp2_with fail
    go_ret
    exact ⟨rfl, hb3⟩

set_option maxHeartbeats 1000000 in
theorem field_early3 (sa sb sc : Bool) (na da nb db nc dc : ByteArray) (zna : na.size ≤ 9223372036854775807) (zda : da.size ≤ 9223372036854775807) (znb : nb.size ≤ 9223372036854775807) (zdb : db.size ≤ 9223372036854775807) (znc : nc.size ≤ 9223372036854775807) (zdc : dc.size ≤ 9223372036854775807) (w : World)
    (H : Hid (∀ v, Below w.heap.size w v → Calls Tryz.prog 10 #[] v fun e w' => e = .returned (.bool true) ∧ Below v.heap.size v w'))
    (VA : Hid (∀ v, Below w.heap.size w v → Calls Tryz.prog 16 #[rV (sa, na, da)] v fun e w' => e = .returned (.bool true) ∧ Below v.heap.size v w'))
    (VB : Hid (∀ v, Below w.heap.size w v → Calls Tryz.prog 16 #[rV (sb, nb, db)] v fun e w' => e = .returned (.bool true) ∧ Below v.heap.size v w'))
    (VC : Hid (∀ v, Below w.heap.size w v → Calls Tryz.prog 16 #[rV (sc, nc, dc)] v fun e w' => e = .returned (.bool false) ∧ Below v.heap.size v w')) :
    Calls Tryz.prog 5 #[rV (sa, na, da), rV (sb, nb, db), rV (sc, nc, dc)] w fun e w' => e = .returned (.bool true) ∧ Below w.heap.size w w' := by
  obtain ⟨hb0, A0, B0, C0, nn⟩ := start3 w (sa, na, da) (sb, nb, db) (sc, nc, dc) _ rfl
  unfold ob at hb0 A0 B0 C0
  unfold rV at VA VB VC ⊢
  simp only at hb0 A0 B0 C0 VA VB VC ⊢
  go_enter Tryz.func5, Tryz.ntmps5
  go_wp2_with fail
  refine (H.out _ hb0).mono ?_
  rintro e w1 ⟨rfl, g⟩
  have hb1 := Nb hb0 (g)
  have A1 := A0.bt (g)
  have B1 := B0.bt (g)
  have C1 := C0.bt (g)
  clear hb0 A0 B0 C0 g
  obtain ⟨Ac0, Ac1, Ac2, _, _, _⟩ := A1.cells
  obtain ⟨Bc0, Bc1, Bc2, _, _, _⟩ := B1.cells
  obtain ⟨Cc0, Cc1, Cc2, _, _, _⟩ := C1.cells
  go_wp2_with fail
  have hX : (w1.alloc (.cells #[.bool sa, .string na, .string da, .bool sb, .string nb, .string db, .bool sc, .string nc, .string dc] 23)).heap[w1.heap.size]? = some (.cells #[.bool sa, .string na, .string da, .bool sb, .string nb, .string db, .bool sc, .string nc, .string dc] 23 (0, 0)) := heap_alloc_new _ _
  have SH := Lib.hid (lshort3 40 (by omega) w1.heap.size na da nb db nc dc (w1.alloc (.cells #[.bool sa, .string na, .string da, .bool sb, .string nb, .string db, .bool sc, .string nc, .string dc] 23)) (by rw [Lib.cell_of_heap hX]; rfl) (by rw [Lib.cell_of_heap hX]; rfl) (by rw [Lib.cell_of_heap hX]; rfl) (by rw [Lib.cell_of_heap hX]; rfl) (by rw [Lib.cell_of_heap hX]; rfl) (by rw [Lib.cell_of_heap hX]; rfl) zna zda znb zdb znc zdc)
  rw [show ((40 : Nat) : Int) = 40 from rfl] at SH
  refine SH.out.mono ?_
  rintro e wS ⟨r, rfl, hr, rfl⟩
  clear Ac0 Ac1 Ac2 Bc0 Bc1 Bc2 Cc0 Cc1 Cc2
  clear SH hX
  have hb1s := Nb hb1 (al w1 (.cells #[.bool sa, .string na, .string da, .bool sb, .string nb, .string db, .bool sc, .string nc, .string dc] 23))
  have A1s := A1.bt (al w1 (.cells #[.bool sa, .string na, .string da, .bool sb, .string nb, .string db, .bool sc, .string nc, .string dc] 23))
  have B1s := B1.bt (al w1 (.cells #[.bool sa, .string na, .string da, .bool sb, .string nb, .string db, .bool sc, .string nc, .string dc] 23))
  have C1s := C1.bt (al w1 (.cells #[.bool sa, .string na, .string da, .bool sb, .string nb, .string db, .bool sc, .string nc, .string dc] 23))
  clear hb1 A1 B1 C1 
  clear hr
  cases r
  · go_wp2_with fail
    go_ret
    exact ⟨rfl, hb1s⟩
  · obtain ⟨Ac0, Ac1, Ac2, _, _, _⟩ := A1s.cells
    go_wp2_with fail
    refine (VA.out _ hb1s).mono ?_
    rintro e w2 ⟨rfl, g⟩
    clear Ac0 Ac1 Ac2
    have hb2 := Nb hb1s (g)
    have A2 := A1s.bt (g)
    have B2 := B1s.bt (g)
    have C2 := C1s.bt (g)
    clear hb1s A1s B1s C1s g
    obtain ⟨Bc0, Bc1, Bc2, _, _, _⟩ := B2.cells
    go_wp2_with fail
    refine (VB.out _ hb2).mono ?_
    rintro e w3 ⟨rfl, g⟩
    clear Bc0 Bc1 Bc2
    have hb3 := Nb hb2 (g)
    have A3 := A2.bt (g)
    have B3 := B2.bt (g)
    have C3 := C2.bt (g)
    clear hb2 A2 B2 C2 g
    obtain ⟨Cc0, Cc1, Cc2, _, _, _⟩ := C3.cells
    go_wp2_with fail
    refine (VC.out _ hb3).mono ?_
    rintro e w4 ⟨rfl, g⟩
    clear Cc0 Cc1 Cc2
    have hb4 := Nb hb3 (g)
    have A4 := A3.bt (g)
    have B4 := B3.bt (g)
    have C4 := C3.bt (g)
    clear hb3 A3 B3 C3 g
    go_wp2_with fail
    go_ret
    exact ⟨rfl, hb4⟩

set_option maxHeartbeats 4000000 in
theorem field_good0 (sa sc s1 s2 s3 s4 s5 s6 s7 : Bool) (na da nc dc n1 d1 n2 d2 n3 d3 n4 d4 n5 d5 n6 d6 n7 d7 : ByteArray) (zna : na.size ≤ 9223372036854775807) (zda : da.size ≤ 9223372036854775807) (znc : nc.size ≤ 9223372036854775807) (zdc : dc.size ≤ 9223372036854775807) (w : World)
    (H : Hid (∀ v, Below w.heap.size w v → Calls Tryz.prog 10 #[] v fun e w' => e = .returned (.bool true) ∧ Below v.heap.size v w'))
    (VA : Hid (∀ v, Below w.heap.size w v → Calls Tryz.prog 16 #[rV (sa, na, da)] v fun e w' => e = .returned (.bool true) ∧ Below v.heap.size v w'))
    (VB : Hid (∀ v, Below w.heap.size w v → Calls Tryz.prog 16 #[rV (false, ⟨#[48]⟩, ⟨#[49]⟩)] v fun e w' => e = .returned (.bool true) ∧ Below v.heap.size v w'))
    (VC : Hid (∀ v, Below w.heap.size w v → Calls Tryz.prog 16 #[rV (sc, nc, dc)] v fun e w' => e = .returned (.bool true) ∧ Below v.heap.size v w'))
    (E1 : Hid (∀ v, Below w.heap.size w v → Calls Tryz.prog 14 #[rV (sa, na, da), rV (false, ⟨#[48]⟩, ⟨#[49]⟩)] v fun e w' => e = .returned (.tuple #[rV (s1, n1, d1), .int .i64 0]) ∧ Below v.heap.size v w'))
    (E2 : Hid (∀ v, Below w.heap.size w v → Calls Tryz.prog 14 #[rV (false, ⟨#[48]⟩, ⟨#[49]⟩), rV (sa, na, da)] v fun e w' => e = .returned (.tuple #[rV (s1, n1, d1), .int .i64 0]) ∧ Below v.heap.size v w'))
    (E3 : Hid (∀ v, Below w.heap.size w v → Calls Tryz.prog 14 #[rV (false, ⟨#[48]⟩, ⟨#[49]⟩), rV (sc, nc, dc)] v fun e w' => e = .returned (.tuple #[rV (s2, n2, d2), .int .i64 0]) ∧ Below v.heap.size v w'))
    (E4 : Hid (∀ v, Below w.heap.size w v → Calls Tryz.prog 14 #[rV (s1, n1, d1), rV (sc, nc, dc)] v fun e w' => e = .returned (.tuple #[rV (s3, n3, d3), .int .i64 0]) ∧ Below v.heap.size v w'))
    (E5 : Hid (∀ v, Below w.heap.size w v → Calls Tryz.prog 14 #[rV (sa, na, da), rV (s2, n2, d2)] v fun e w' => e = .returned (.tuple #[rV (s3, n3, d3), .int .i64 0]) ∧ Below v.heap.size v w'))
    (E6 : Hid (∀ v, Below w.heap.size w v → Calls Tryz.prog 20 #[rV (sa, na, da), rV (false, ⟨#[48]⟩, ⟨#[49]⟩)] v fun e w' => e = .returned (.tuple #[rV (s4, n4, d4), .int .i64 0]) ∧ Below v.heap.size v w'))
    (E7 : Hid (∀ v, Below w.heap.size w v → Calls Tryz.prog 20 #[rV (false, ⟨#[48]⟩, ⟨#[49]⟩), rV (sa, na, da)] v fun e w' => e = .returned (.tuple #[rV (s4, n4, d4), .int .i64 0]) ∧ Below v.heap.size v w'))
    (E8 : Hid (∀ v, Below w.heap.size w v → Calls Tryz.prog 20 #[rV (sa, na, da), rV (sc, nc, dc)] v fun e w' => e = .returned (.tuple #[rV (s5, n5, d5), .int .i64 0]) ∧ Below v.heap.size v w'))
    (E9 : Hid (∀ v, Below w.heap.size w v → Calls Tryz.prog 20 #[rV (sa, na, da), rV (s2, n2, d2)] v fun e w' => e = .returned (.tuple #[rV (s6, n6, d6), .int .i64 0]) ∧ Below v.heap.size v w'))
    (E10 : Hid (∀ v, Below w.heap.size w v → Calls Tryz.prog 14 #[rV (s4, n4, d4), rV (s5, n5, d5)] v fun e w' => e = .returned (.tuple #[rV (s6, n6, d6), .int .i64 0]) ∧ Below v.heap.size v w'))
    (F1 : Hid (∀ v, Below w.heap.size w v → Calls Tryz.prog 18 #[rV (sa, na, da), rV (false, ⟨#[48]⟩, ⟨#[49]⟩)] v fun e w' => e = .returned (.tuple #[rV (s7, n7, d7), .int .i64 0]) ∧ Below v.heap.size v w'))
    (F2 : Hid (∀ v, Below w.heap.size w v → Calls Tryz.prog 14 #[rV (s7, n7, d7), rV (false, ⟨#[48]⟩, ⟨#[49]⟩)] v fun e w' => e = .returned (.tuple #[rV (sa, na, da), .int .i64 0]) ∧ Below v.heap.size v w'))
    (F3 : Hid (∀ v, Below w.heap.size w v → Calls Tryz.prog 22 #[rV (sa, na, da), rV (false, ⟨#[48]⟩, ⟨#[49]⟩)] v fun e w' => e = .returned (.tuple #[rV (false, ⟨#[]⟩, ⟨#[]⟩), .int .i64 15]) ∧ Below v.heap.size v w')) :
    Calls Tryz.prog 5 #[rV (sa, na, da), rV (false, ⟨#[48]⟩, ⟨#[49]⟩), rV (sc, nc, dc)] w fun e w' => e = .returned (.bool true) ∧ Below w.heap.size w w' := by
  have z48 : (⟨#[48]⟩ : ByteArray).size ≤ 9223372036854775807 := by decide
  have z49 : (⟨#[49]⟩ : ByteArray).size ≤ 9223372036854775807 := by decide
  obtain ⟨hb0, A0, B0, C0, nn⟩ := start3 w (sa, na, da) (false, ⟨#[48]⟩, ⟨#[49]⟩) (sc, nc, dc) _ rfl
  unfold ob at hb0 A0 B0 C0
  unfold rV at VA VB VC E1 E2 E3 E4 E5 E6 E7 E8 E9 E10 F1 F2 F3 ⊢
  simp only at hb0 A0 B0 C0 VA VB VC E1 E2 E3 E4 E5 E6 E7 E8 E9 E10 F1 F2 F3 ⊢
  go_enter Tryz.func5, Tryz.ntmps5
  go_wp2_with fail
  refine (H.out _ hb0).mono ?_
  rintro e w1 ⟨rfl, g⟩
  have hb1 := Nb hb0 (g)
  have A1 := A0.bt (g)
  have B1 := B0.bt (g)
  have C1 := C0.bt (g)
  clear hb0 A0 B0 C0 g
  obtain ⟨Ac0, Ac1, Ac2, _, _, _⟩ := A1.cells
  obtain ⟨Bc0, Bc1, Bc2, _, _, _⟩ := B1.cells
  obtain ⟨Cc0, Cc1, Cc2, _, _, _⟩ := C1.cells
  go_wp2_with fail
  have hX : (w1.alloc (.cells #[.bool sa, .string na, .string da, .bool false, .string ⟨#[48]⟩, .string ⟨#[49]⟩, .bool sc, .string nc, .string dc] 23)).heap[w1.heap.size]? = some (.cells #[.bool sa, .string na, .string da, .bool false, .string ⟨#[48]⟩, .string ⟨#[49]⟩, .bool sc, .string nc, .string dc] 23 (0, 0)) := heap_alloc_new _ _
  have SH := Lib.hid (lshort3 40 (by omega) w1.heap.size na da ⟨#[48]⟩ ⟨#[49]⟩ nc dc (w1.alloc (.cells #[.bool sa, .string na, .string da, .bool false, .string ⟨#[48]⟩, .string ⟨#[49]⟩, .bool sc, .string nc, .string dc] 23)) (by rw [Lib.cell_of_heap hX]; rfl) (by rw [Lib.cell_of_heap hX]; rfl) (by rw [Lib.cell_of_heap hX]; rfl) (by rw [Lib.cell_of_heap hX]; rfl) (by rw [Lib.cell_of_heap hX]; rfl) (by rw [Lib.cell_of_heap hX]; rfl) zna zda z48 z49 znc zdc)
  rw [show ((40 : Nat) : Int) = 40 from rfl] at SH
  refine SH.out.mono ?_
  rintro e wS ⟨r, rfl, hr, rfl⟩
  clear Ac0 Ac1 Ac2 Bc0 Bc1 Bc2 Cc0 Cc1 Cc2
  clear SH hX
  have hb1s := Nb hb1 (al w1 (.cells #[.bool sa, .string na, .string da, .bool false, .string ⟨#[48]⟩, .string ⟨#[49]⟩, .bool sc, .string nc, .string dc] 23))
  have A1s := A1.bt (al w1 (.cells #[.bool sa, .string na, .string da, .bool false, .string ⟨#[48]⟩, .string ⟨#[49]⟩, .bool sc, .string nc, .string dc] 23))
  have B1s := B1.bt (al w1 (.cells #[.bool sa, .string na, .string da, .bool false, .string ⟨#[48]⟩, .string ⟨#[49]⟩, .bool sc, .string nc, .string dc] 23))
  have C1s := C1.bt (al w1 (.cells #[.bool sa, .string na, .string da, .bool false, .string ⟨#[48]⟩, .string ⟨#[49]⟩, .bool sc, .string nc, .string dc] 23))
  clear hb1 A1 B1 C1 
  clear hr
  cases r
  · go_wp2_with fail
    go_ret
    exact ⟨rfl, hb1s⟩
  · obtain ⟨Ac0, Ac1, Ac2, _, _, _⟩ := A1s.cells
    go_wp2_with fail
    refine (VA.out _ hb1s).mono ?_
    rintro e w2 ⟨rfl, g⟩
    clear Ac0 Ac1 Ac2
    have hb2 := Nb hb1s (g)
    have A2 := A1s.bt (g)
    have B2 := B1s.bt (g)
    have C2 := C1s.bt (g)
    clear hb1s A1s B1s C1s g
    obtain ⟨Bc0, Bc1, Bc2, _, _, _⟩ := B2.cells
    go_wp2_with fail
    refine (VB.out _ hb2).mono ?_
    rintro e w3 ⟨rfl, g⟩
    clear Bc0 Bc1 Bc2
    have hb3 := Nb hb2 (g)
    have A3 := A2.bt (g)
    have B3 := B2.bt (g)
    have C3 := C2.bt (g)
    clear hb2 A2 B2 C2 g
    obtain ⟨Cc0, Cc1, Cc2, _, _, _⟩ := C3.cells
    go_wp2_with fail
    refine (VC.out _ hb3).mono ?_
    rintro e w4 ⟨rfl, g⟩
    clear Cc0 Cc1 Cc2
    have hb4 := Nb hb3 (g)
    have A4 := A3.bt (g)
    have B4 := B3.bt (g)
    have C4 := C3.bt (g)
    clear hb3 A3 B3 C3 g
    obtain ⟨Ac0, Ac1, Ac2, _, _, _⟩ := A4.cells
    obtain ⟨Bc0, Bc1, Bc2, _, _, _⟩ := B4.cells
    go_wp2_with fail
    refine (E1.out _ hb4).mono ?_
    rintro e w5 ⟨rfl, g⟩
    clear Ac0 Ac1 Ac2 Bc0 Bc1 Bc2
    have hb5 := Nb hb4 (g)
    have A5 := A4.bt (g)
    have B5 := B4.bt (g)
    have C5 := C4.bt (g)
    clear hb4 A4 B4 C4 g
    have hb5x := Nb hb5 (al w5 (.cells #[.bool s1, .string n1, .string d1] 23))
    have A5x := A5.bt (al w5 (.cells #[.bool s1, .string n1, .string d1] 23))
    have B5x := B5.bt (al w5 (.cells #[.bool s1, .string n1, .string d1] 23))
    have C5x := C5.bt (al w5 (.cells #[.bool s1, .string n1, .string d1] 23))
    clear hb5 A5 B5 C5 
    have Xab5x := At.new w5 s1 n1 d1
    obtain ⟨Bc0, Bc1, Bc2, _, _, _⟩ := B5x.cells
    obtain ⟨Ac0, Ac1, Ac2, _, _, _⟩ := A5x.cells
    go_wp2_with fail
    refine (E2.out _ hb5x).mono ?_
    rintro e w6 ⟨rfl, g⟩
    clear Bc0 Bc1 Bc2 Ac0 Ac1 Ac2
    have hb6 := Nb hb5x (g)
    have A6 := A5x.bt (g)
    have B6 := B5x.bt (g)
    have C6 := C5x.bt (g)
    have Xab6 := Xab5x.bt (g)
    clear hb5x A5x B5x C5x Xab5x g
    have hb6x := Nb hb6 (al w6 (.cells #[.bool s1, .string n1, .string d1] 23))
    have A6x := A6.bt (al w6 (.cells #[.bool s1, .string n1, .string d1] 23))
    have B6x := B6.bt (al w6 (.cells #[.bool s1, .string n1, .string d1] 23))
    have C6x := C6.bt (al w6 (.cells #[.bool s1, .string n1, .string d1] 23))
    have Xab6x := Xab6.bt (al w6 (.cells #[.bool s1, .string n1, .string d1] 23))
    clear hb6 A6 B6 C6 Xab6 
    have Xba6x := At.new w6 s1 n1 d1
    obtain ⟨Bc0, Bc1, Bc2, _, _, _⟩ := B6x.cells
    obtain ⟨Cc0, Cc1, Cc2, _, _, _⟩ := C6x.cells
    go_wp2_with fail
    refine (E3.out _ hb6x).mono ?_
    rintro e w7 ⟨rfl, g⟩
    clear Bc0 Bc1 Bc2 Cc0 Cc1 Cc2
    have hb7 := Nb hb6x (g)
    have A7 := A6x.bt (g)
    have B7 := B6x.bt (g)
    have C7 := C6x.bt (g)
    have Xab7 := Xab6x.bt (g)
    have Xba7 := Xba6x.bt (g)
    clear hb6x A6x B6x C6x Xab6x Xba6x g
    have hb7x := Nb hb7 (al w7 (.cells #[.bool s2, .string n2, .string d2] 23))
    have A7x := A7.bt (al w7 (.cells #[.bool s2, .string n2, .string d2] 23))
    have B7x := B7.bt (al w7 (.cells #[.bool s2, .string n2, .string d2] 23))
    have C7x := C7.bt (al w7 (.cells #[.bool s2, .string n2, .string d2] 23))
    have Xab7x := Xab7.bt (al w7 (.cells #[.bool s2, .string n2, .string d2] 23))
    have Xba7x := Xba7.bt (al w7 (.cells #[.bool s2, .string n2, .string d2] 23))
    clear hb7 A7 B7 C7 Xab7 Xba7 
    have Xbc7x := At.new w7 s2 n2 d2
    obtain ⟨Xabc0, Xabc1, Xabc2, _, _, _⟩ := Xab7x.cells
    obtain ⟨Cc0, Cc1, Cc2, _, _, _⟩ := C7x.cells
    go_wp2_with fail
    refine (E4.out _ hb7x).mono ?_
    rintro e w8 ⟨rfl, g⟩
    clear Xabc0 Xabc1 Xabc2 Cc0 Cc1 Cc2
    have hb8 := Nb hb7x (g)
    have A8 := A7x.bt (g)
    have B8 := B7x.bt (g)
    have C8 := C7x.bt (g)
    have Xab8 := Xab7x.bt (g)
    have Xba8 := Xba7x.bt (g)
    have Xbc8 := Xbc7x.bt (g)
    clear hb7x A7x B7x C7x Xab7x Xba7x Xbc7x g
    have hb8x := Nb hb8 (al w8 (.cells #[.bool s3, .string n3, .string d3] 23))
    have A8x := A8.bt (al w8 (.cells #[.bool s3, .string n3, .string d3] 23))
    have B8x := B8.bt (al w8 (.cells #[.bool s3, .string n3, .string d3] 23))
    have C8x := C8.bt (al w8 (.cells #[.bool s3, .string n3, .string d3] 23))
    have Xab8x := Xab8.bt (al w8 (.cells #[.bool s3, .string n3, .string d3] 23))
    have Xba8x := Xba8.bt (al w8 (.cells #[.bool s3, .string n3, .string d3] 23))
    have Xbc8x := Xbc8.bt (al w8 (.cells #[.bool s3, .string n3, .string d3] 23))
    clear hb8 A8 B8 C8 Xab8 Xba8 Xbc8 
    have Xx8x := At.new w8 s3 n3 d3
    obtain ⟨Ac0, Ac1, Ac2, _, _, _⟩ := A8x.cells
    obtain ⟨Xbcc0, Xbcc1, Xbcc2, _, _, _⟩ := Xbc8x.cells
    go_wp2_with fail
    refine (E5.out _ hb8x).mono ?_
    rintro e w9 ⟨rfl, g⟩
    clear Ac0 Ac1 Ac2 Xbcc0 Xbcc1 Xbcc2
    have hb9 := Nb hb8x (g)
    have A9 := A8x.bt (g)
    have B9 := B8x.bt (g)
    have C9 := C8x.bt (g)
    have Xab9 := Xab8x.bt (g)
    have Xba9 := Xba8x.bt (g)
    have Xbc9 := Xbc8x.bt (g)
    have Xx9 := Xx8x.bt (g)
    clear hb8x A8x B8x C8x Xab8x Xba8x Xbc8x Xx8x g
    have hb9x := Nb hb9 (al w9 (.cells #[.bool s3, .string n3, .string d3] 23))
    have A9x := A9.bt (al w9 (.cells #[.bool s3, .string n3, .string d3] 23))
    have B9x := B9.bt (al w9 (.cells #[.bool s3, .string n3, .string d3] 23))
    have C9x := C9.bt (al w9 (.cells #[.bool s3, .string n3, .string d3] 23))
    have Xab9x := Xab9.bt (al w9 (.cells #[.bool s3, .string n3, .string d3] 23))
    have Xba9x := Xba9.bt (al w9 (.cells #[.bool s3, .string n3, .string d3] 23))
    have Xbc9x := Xbc9.bt (al w9 (.cells #[.bool s3, .string n3, .string d3] 23))
    have Xx9x := Xx9.bt (al w9 (.cells #[.bool s3, .string n3, .string d3] 23))
    clear hb9 A9 B9 C9 Xab9 Xba9 Xbc9 Xx9 
    have Xy9x := At.new w9 s3 n3 d3
    obtain ⟨Ac0, Ac1, Ac2, _, _, _⟩ := A9x.cells
    obtain ⟨Bc0, Bc1, Bc2, _, _, _⟩ := B9x.cells
    go_wp2_with fail
    refine (E6.out _ hb9x).mono ?_
    rintro e w10 ⟨rfl, g⟩
    clear Ac0 Ac1 Ac2 Bc0 Bc1 Bc2
    have hb10 := Nb hb9x (g)
    have A10 := A9x.bt (g)
    have B10 := B9x.bt (g)
    have C10 := C9x.bt (g)
    have Xab10 := Xab9x.bt (g)
    have Xba10 := Xba9x.bt (g)
    have Xbc10 := Xbc9x.bt (g)
    have Xx10 := Xx9x.bt (g)
    have Xy10 := Xy9x.bt (g)
    clear hb9x A9x B9x C9x Xab9x Xba9x Xbc9x Xx9x Xy9x g
    have hb10x := Nb hb10 (al w10 (.cells #[.bool s4, .string n4, .string d4] 23))
    have A10x := A10.bt (al w10 (.cells #[.bool s4, .string n4, .string d4] 23))
    have B10x := B10.bt (al w10 (.cells #[.bool s4, .string n4, .string d4] 23))
    have C10x := C10.bt (al w10 (.cells #[.bool s4, .string n4, .string d4] 23))
    have Xab10x := Xab10.bt (al w10 (.cells #[.bool s4, .string n4, .string d4] 23))
    have Xba10x := Xba10.bt (al w10 (.cells #[.bool s4, .string n4, .string d4] 23))
    have Xbc10x := Xbc10.bt (al w10 (.cells #[.bool s4, .string n4, .string d4] 23))
    have Xx10x := Xx10.bt (al w10 (.cells #[.bool s4, .string n4, .string d4] 23))
    have Xy10x := Xy10.bt (al w10 (.cells #[.bool s4, .string n4, .string d4] 23))
    clear hb10 A10 B10 C10 Xab10 Xba10 Xbc10 Xx10 Xy10 
    have Xp10x := At.new w10 s4 n4 d4
    obtain ⟨Bc0, Bc1, Bc2, _, _, _⟩ := B10x.cells
    obtain ⟨Ac0, Ac1, Ac2, _, _, _⟩ := A10x.cells
    go_wp2_with fail
    refine (E7.out _ hb10x).mono ?_
    rintro e w11 ⟨rfl, g⟩
    clear Bc0 Bc1 Bc2 Ac0 Ac1 Ac2
    have hb11 := Nb hb10x (g)
    have A11 := A10x.bt (g)
    have B11 := B10x.bt (g)
    have C11 := C10x.bt (g)
    have Xab11 := Xab10x.bt (g)
    have Xba11 := Xba10x.bt (g)
    have Xbc11 := Xbc10x.bt (g)
    have Xx11 := Xx10x.bt (g)
    have Xy11 := Xy10x.bt (g)
    have Xp11 := Xp10x.bt (g)
    clear hb10x A10x B10x C10x Xab10x Xba10x Xbc10x Xx10x Xy10x Xp10x g
    have hb11x := Nb hb11 (al w11 (.cells #[.bool s4, .string n4, .string d4] 23))
    have A11x := A11.bt (al w11 (.cells #[.bool s4, .string n4, .string d4] 23))
    have B11x := B11.bt (al w11 (.cells #[.bool s4, .string n4, .string d4] 23))
    have C11x := C11.bt (al w11 (.cells #[.bool s4, .string n4, .string d4] 23))
    have Xab11x := Xab11.bt (al w11 (.cells #[.bool s4, .string n4, .string d4] 23))
    have Xba11x := Xba11.bt (al w11 (.cells #[.bool s4, .string n4, .string d4] 23))
    have Xbc11x := Xbc11.bt (al w11 (.cells #[.bool s4, .string n4, .string d4] 23))
    have Xx11x := Xx11.bt (al w11 (.cells #[.bool s4, .string n4, .string d4] 23))
    have Xy11x := Xy11.bt (al w11 (.cells #[.bool s4, .string n4, .string d4] 23))
    have Xp11x := Xp11.bt (al w11 (.cells #[.bool s4, .string n4, .string d4] 23))
    clear hb11 A11 B11 C11 Xab11 Xba11 Xbc11 Xx11 Xy11 Xp11 
    have Xq11x := At.new w11 s4 n4 d4
    obtain ⟨Ac0, Ac1, Ac2, _, _, _⟩ := A11x.cells
    obtain ⟨Cc0, Cc1, Cc2, _, _, _⟩ := C11x.cells
    go_wp2_with fail
    refine (E8.out _ hb11x).mono ?_
    rintro e w12 ⟨rfl, g⟩
    clear Ac0 Ac1 Ac2 Cc0 Cc1 Cc2
    have hb12 := Nb hb11x (g)
    have A12 := A11x.bt (g)
    have B12 := B11x.bt (g)
    have C12 := C11x.bt (g)
    have Xab12 := Xab11x.bt (g)
    have Xba12 := Xba11x.bt (g)
    have Xbc12 := Xbc11x.bt (g)
    have Xx12 := Xx11x.bt (g)
    have Xy12 := Xy11x.bt (g)
    have Xp12 := Xp11x.bt (g)
    have Xq12 := Xq11x.bt (g)
    clear hb11x A11x B11x C11x Xab11x Xba11x Xbc11x Xx11x Xy11x Xp11x Xq11x g
    have hb12x := Nb hb12 (al w12 (.cells #[.bool s5, .string n5, .string d5] 23))
    have A12x := A12.bt (al w12 (.cells #[.bool s5, .string n5, .string d5] 23))
    have B12x := B12.bt (al w12 (.cells #[.bool s5, .string n5, .string d5] 23))
    have C12x := C12.bt (al w12 (.cells #[.bool s5, .string n5, .string d5] 23))
    have Xab12x := Xab12.bt (al w12 (.cells #[.bool s5, .string n5, .string d5] 23))
    have Xba12x := Xba12.bt (al w12 (.cells #[.bool s5, .string n5, .string d5] 23))
    have Xbc12x := Xbc12.bt (al w12 (.cells #[.bool s5, .string n5, .string d5] 23))
    have Xx12x := Xx12.bt (al w12 (.cells #[.bool s5, .string n5, .string d5] 23))
    have Xy12x := Xy12.bt (al w12 (.cells #[.bool s5, .string n5, .string d5] 23))
    have Xp12x := Xp12.bt (al w12 (.cells #[.bool s5, .string n5, .string d5] 23))
    have Xq12x := Xq12.bt (al w12 (.cells #[.bool s5, .string n5, .string d5] 23))
    clear hb12 A12 B12 C12 Xab12 Xba12 Xbc12 Xx12 Xy12 Xp12 Xq12 
    have Xac12x := At.new w12 s5 n5 d5
    obtain ⟨Ac0, Ac1, Ac2, _, _, _⟩ := A12x.cells
    obtain ⟨Xbcc0, Xbcc1, Xbcc2, _, _, _⟩ := Xbc12x.cells
    go_wp2_with fail
    refine (E9.out _ hb12x).mono ?_
    rintro e w13 ⟨rfl, g⟩
    clear Ac0 Ac1 Ac2 Xbcc0 Xbcc1 Xbcc2
    have hb13 := Nb hb12x (g)
    have A13 := A12x.bt (g)
    have B13 := B12x.bt (g)
    have C13 := C12x.bt (g)
    have Xab13 := Xab12x.bt (g)
    have Xba13 := Xba12x.bt (g)
    have Xbc13 := Xbc12x.bt (g)
    have Xx13 := Xx12x.bt (g)
    have Xy13 := Xy12x.bt (g)
    have Xp13 := Xp12x.bt (g)
    have Xq13 := Xq12x.bt (g)
    have Xac13 := Xac12x.bt (g)
    clear hb12x A12x B12x C12x Xab12x Xba12x Xbc12x Xx12x Xy12x Xp12x Xq12x Xac12x g
    have hb13x := Nb hb13 (al w13 (.cells #[.bool s6, .string n6, .string d6] 23))
    have A13x := A13.bt (al w13 (.cells #[.bool s6, .string n6, .string d6] 23))
    have B13x := B13.bt (al w13 (.cells #[.bool s6, .string n6, .string d6] 23))
    have C13x := C13.bt (al w13 (.cells #[.bool s6, .string n6, .string d6] 23))
    have Xab13x := Xab13.bt (al w13 (.cells #[.bool s6, .string n6, .string d6] 23))
    have Xba13x := Xba13.bt (al w13 (.cells #[.bool s6, .string n6, .string d6] 23))
    have Xbc13x := Xbc13.bt (al w13 (.cells #[.bool s6, .string n6, .string d6] 23))
    have Xx13x := Xx13.bt (al w13 (.cells #[.bool s6, .string n6, .string d6] 23))
    have Xy13x := Xy13.bt (al w13 (.cells #[.bool s6, .string n6, .string d6] 23))
    have Xp13x := Xp13.bt (al w13 (.cells #[.bool s6, .string n6, .string d6] 23))
    have Xq13x := Xq13.bt (al w13 (.cells #[.bool s6, .string n6, .string d6] 23))
    have Xac13x := Xac13.bt (al w13 (.cells #[.bool s6, .string n6, .string d6] 23))
    clear hb13 A13 B13 C13 Xab13 Xba13 Xbc13 Xx13 Xy13 Xp13 Xq13 Xac13 
    have Xu13x := At.new w13 s6 n6 d6
    obtain ⟨Xpc0, Xpc1, Xpc2, _, _, _⟩ := Xp13x.cells
    obtain ⟨Xacc0, Xacc1, Xacc2, _, _, _⟩ := Xac13x.cells
    go_wp2_with fail
    refine (E10.out _ hb13x).mono ?_
    rintro e w14 ⟨rfl, g⟩
    clear Xpc0 Xpc1 Xpc2 Xacc0 Xacc1 Xacc2
    have hb14 := Nb hb13x (g)
    have A14 := A13x.bt (g)
    have B14 := B13x.bt (g)
    have C14 := C13x.bt (g)
    have Xab14 := Xab13x.bt (g)
    have Xba14 := Xba13x.bt (g)
    have Xbc14 := Xbc13x.bt (g)
    have Xx14 := Xx13x.bt (g)
    have Xy14 := Xy13x.bt (g)
    have Xp14 := Xp13x.bt (g)
    have Xq14 := Xq13x.bt (g)
    have Xac14 := Xac13x.bt (g)
    have Xu14 := Xu13x.bt (g)
    clear hb13x A13x B13x C13x Xab13x Xba13x Xbc13x Xx13x Xy13x Xp13x Xq13x Xac13x Xu13x g
    have hb14x := Nb hb14 (al w14 (.cells #[.bool s6, .string n6, .string d6] 23))
    have A14x := A14.bt (al w14 (.cells #[.bool s6, .string n6, .string d6] 23))
    have B14x := B14.bt (al w14 (.cells #[.bool s6, .string n6, .string d6] 23))
    have C14x := C14.bt (al w14 (.cells #[.bool s6, .string n6, .string d6] 23))
    have Xab14x := Xab14.bt (al w14 (.cells #[.bool s6, .string n6, .string d6] 23))
    have Xba14x := Xba14.bt (al w14 (.cells #[.bool s6, .string n6, .string d6] 23))
    have Xbc14x := Xbc14.bt (al w14 (.cells #[.bool s6, .string n6, .string d6] 23))
    have Xx14x := Xx14.bt (al w14 (.cells #[.bool s6, .string n6, .string d6] 23))
    have Xy14x := Xy14.bt (al w14 (.cells #[.bool s6, .string n6, .string d6] 23))
    have Xp14x := Xp14.bt (al w14 (.cells #[.bool s6, .string n6, .string d6] 23))
    have Xq14x := Xq14.bt (al w14 (.cells #[.bool s6, .string n6, .string d6] 23))
    have Xac14x := Xac14.bt (al w14 (.cells #[.bool s6, .string n6, .string d6] 23))
    have Xu14x := Xu14.bt (al w14 (.cells #[.bool s6, .string n6, .string d6] 23))
    clear hb14 A14 B14 C14 Xab14 Xba14 Xbc14 Xx14 Xy14 Xp14 Xq14 Xac14 Xu14 
    have Xv14x := At.new w14 s6 n6 d6
    obtain ⟨Ac0, Ac1, Ac2, _, _, _⟩ := A14x.cells
    obtain ⟨Bc0, Bc1, Bc2, _, _, _⟩ := B14x.cells
    go_wp2_with fail
    refine (F1.out _ hb14x).mono ?_
    rintro e w15 ⟨rfl, g⟩
    clear Ac0 Ac1 Ac2 Bc0 Bc1 Bc2
    have hb15 := Nb hb14x (g)
    have A15 := A14x.bt (g)
    have B15 := B14x.bt (g)
    have C15 := C14x.bt (g)
    have Xab15 := Xab14x.bt (g)
    have Xba15 := Xba14x.bt (g)
    have Xbc15 := Xbc14x.bt (g)
    have Xx15 := Xx14x.bt (g)
    have Xy15 := Xy14x.bt (g)
    have Xp15 := Xp14x.bt (g)
    have Xq15 := Xq14x.bt (g)
    have Xac15 := Xac14x.bt (g)
    have Xu15 := Xu14x.bt (g)
    have Xv15 := Xv14x.bt (g)
    clear hb14x A14x B14x C14x Xab14x Xba14x Xbc14x Xx14x Xy14x Xp14x Xq14x Xac14x Xu14x Xv14x g
    have hb15x := Nb hb15 (al w15 (.cells #[.bool s7, .string n7, .string d7] 23))
    have A15x := A15.bt (al w15 (.cells #[.bool s7, .string n7, .string d7] 23))
    have B15x := B15.bt (al w15 (.cells #[.bool s7, .string n7, .string d7] 23))
    have C15x := C15.bt (al w15 (.cells #[.bool s7, .string n7, .string d7] 23))
    have Xab15x := Xab15.bt (al w15 (.cells #[.bool s7, .string n7, .string d7] 23))
    have Xba15x := Xba15.bt (al w15 (.cells #[.bool s7, .string n7, .string d7] 23))
    have Xbc15x := Xbc15.bt (al w15 (.cells #[.bool s7, .string n7, .string d7] 23))
    have Xx15x := Xx15.bt (al w15 (.cells #[.bool s7, .string n7, .string d7] 23))
    have Xy15x := Xy15.bt (al w15 (.cells #[.bool s7, .string n7, .string d7] 23))
    have Xp15x := Xp15.bt (al w15 (.cells #[.bool s7, .string n7, .string d7] 23))
    have Xq15x := Xq15.bt (al w15 (.cells #[.bool s7, .string n7, .string d7] 23))
    have Xac15x := Xac15.bt (al w15 (.cells #[.bool s7, .string n7, .string d7] 23))
    have Xu15x := Xu15.bt (al w15 (.cells #[.bool s7, .string n7, .string d7] 23))
    have Xv15x := Xv15.bt (al w15 (.cells #[.bool s7, .string n7, .string d7] 23))
    clear hb15 A15 B15 C15 Xab15 Xba15 Xbc15 Xx15 Xy15 Xp15 Xq15 Xac15 Xu15 Xv15 
    have Xd15x := At.new w15 s7 n7 d7
    obtain ⟨Xdc0, Xdc1, Xdc2, _, _, _⟩ := Xd15x.cells
    obtain ⟨Bc0, Bc1, Bc2, _, _, _⟩ := B15x.cells
    go_wp2_with fail
    refine (F2.out _ hb15x).mono ?_
    rintro e w16 ⟨rfl, g⟩
    clear Xdc0 Xdc1 Xdc2 Bc0 Bc1 Bc2
    have hb16 := Nb hb15x (g)
    have A16 := A15x.bt (g)
    have B16 := B15x.bt (g)
    have C16 := C15x.bt (g)
    have Xab16 := Xab15x.bt (g)
    have Xba16 := Xba15x.bt (g)
    have Xbc16 := Xbc15x.bt (g)
    have Xx16 := Xx15x.bt (g)
    have Xy16 := Xy15x.bt (g)
    have Xp16 := Xp15x.bt (g)
    have Xq16 := Xq15x.bt (g)
    have Xac16 := Xac15x.bt (g)
    have Xu16 := Xu15x.bt (g)
    have Xv16 := Xv15x.bt (g)
    have Xd16 := Xd15x.bt (g)
    clear hb15x A15x B15x C15x Xab15x Xba15x Xbc15x Xx15x Xy15x Xp15x Xq15x Xac15x Xu15x Xv15x Xd15x g
    have hb16x := Nb hb16 (al w16 (.cells #[.bool sa, .string na, .string da] 23))
    have A16x := A16.bt (al w16 (.cells #[.bool sa, .string na, .string da] 23))
    have B16x := B16.bt (al w16 (.cells #[.bool sa, .string na, .string da] 23))
    have C16x := C16.bt (al w16 (.cells #[.bool sa, .string na, .string da] 23))
    have Xab16x := Xab16.bt (al w16 (.cells #[.bool sa, .string na, .string da] 23))
    have Xba16x := Xba16.bt (al w16 (.cells #[.bool sa, .string na, .string da] 23))
    have Xbc16x := Xbc16.bt (al w16 (.cells #[.bool sa, .string na, .string da] 23))
    have Xx16x := Xx16.bt (al w16 (.cells #[.bool sa, .string na, .string da] 23))
    have Xy16x := Xy16.bt (al w16 (.cells #[.bool sa, .string na, .string da] 23))
    have Xp16x := Xp16.bt (al w16 (.cells #[.bool sa, .string na, .string da] 23))
    have Xq16x := Xq16.bt (al w16 (.cells #[.bool sa, .string na, .string da] 23))
    have Xac16x := Xac16.bt (al w16 (.cells #[.bool sa, .string na, .string da] 23))
    have Xu16x := Xu16.bt (al w16 (.cells #[.bool sa, .string na, .string da] 23))
    have Xv16x := Xv16.bt (al w16 (.cells #[.bool sa, .string na, .string da] 23))
    have Xd16x := Xd16.bt (al w16 (.cells #[.bool sa, .string na, .string da] 23))
    clear hb16 A16 B16 C16 Xab16 Xba16 Xbc16 Xx16 Xy16 Xp16 Xq16 Xac16 Xu16 Xv16 Xd16 
    have Xk16x := At.new w16 sa na da
    obtain ⟨Ac0, Ac1, Ac2, _, _, _⟩ := A16x.cells
    obtain ⟨Bc0, Bc1, Bc2, _, _, _⟩ := B16x.cells
    go_wp2_with fail
    refine (F3.out _ hb16x).mono ?_
    rintro e w17 ⟨rfl, g⟩
    clear Ac0 Ac1 Ac2 Bc0 Bc1 Bc2
    have hb17 := Nb hb16x (g)
    have A17 := A16x.bt (g)
    have B17 := B16x.bt (g)
    have C17 := C16x.bt (g)
    have Xab17 := Xab16x.bt (g)
    have Xba17 := Xba16x.bt (g)
    have Xbc17 := Xbc16x.bt (g)
    have Xx17 := Xx16x.bt (g)
    have Xy17 := Xy16x.bt (g)
    have Xp17 := Xp16x.bt (g)
    have Xq17 := Xq16x.bt (g)
    have Xac17 := Xac16x.bt (g)
    have Xu17 := Xu16x.bt (g)
    have Xv17 := Xv16x.bt (g)
    have Xd17 := Xd16x.bt (g)
    have Xk17 := Xk16x.bt (g)
    clear hb16x A16x B16x C16x Xab16x Xba16x Xbc16x Xx16x Xy16x Xp16x Xq16x Xac16x Xu16x Xv16x Xd16x Xk16x g
    have hb17x := Nb hb17 (al w17 (.cells #[.bool false, .string ⟨#[]⟩, .string ⟨#[]⟩] 23))
    have A17x := A17.bt (al w17 (.cells #[.bool false, .string ⟨#[]⟩, .string ⟨#[]⟩] 23))
    have B17x := B17.bt (al w17 (.cells #[.bool false, .string ⟨#[]⟩, .string ⟨#[]⟩] 23))
    have C17x := C17.bt (al w17 (.cells #[.bool false, .string ⟨#[]⟩, .string ⟨#[]⟩] 23))
    have Xab17x := Xab17.bt (al w17 (.cells #[.bool false, .string ⟨#[]⟩, .string ⟨#[]⟩] 23))
    have Xba17x := Xba17.bt (al w17 (.cells #[.bool false, .string ⟨#[]⟩, .string ⟨#[]⟩] 23))
    have Xbc17x := Xbc17.bt (al w17 (.cells #[.bool false, .string ⟨#[]⟩, .string ⟨#[]⟩] 23))
    have Xx17x := Xx17.bt (al w17 (.cells #[.bool false, .string ⟨#[]⟩, .string ⟨#[]⟩] 23))
    have Xy17x := Xy17.bt (al w17 (.cells #[.bool false, .string ⟨#[]⟩, .string ⟨#[]⟩] 23))
    have Xp17x := Xp17.bt (al w17 (.cells #[.bool false, .string ⟨#[]⟩, .string ⟨#[]⟩] 23))
    have Xq17x := Xq17.bt (al w17 (.cells #[.bool false, .string ⟨#[]⟩, .string ⟨#[]⟩] 23))
    have Xac17x := Xac17.bt (al w17 (.cells #[.bool false, .string ⟨#[]⟩, .string ⟨#[]⟩] 23))
    have Xu17x := Xu17.bt (al w17 (.cells #[.bool false, .string ⟨#[]⟩, .string ⟨#[]⟩] 23))
    have Xv17x := Xv17.bt (al w17 (.cells #[.bool false, .string ⟨#[]⟩, .string ⟨#[]⟩] 23))
    have Xd17x := Xd17.bt (al w17 (.cells #[.bool false, .string ⟨#[]⟩, .string ⟨#[]⟩] 23))
    have Xk17x := Xk17.bt (al w17 (.cells #[.bool false, .string ⟨#[]⟩, .string ⟨#[]⟩] 23))
    clear hb17 A17 B17 C17 Xab17 Xba17 Xbc17 Xx17 Xy17 Xp17 Xq17 Xac17 Xu17 Xv17 Xd17 Xk17 
    obtain ⟨Xkc0, Xkc1, Xkc2, _, _, _⟩ := Xk17x.cells
    obtain ⟨Ac0, Ac1, Ac2, _, _, _⟩ := A17x.cells
    obtain ⟨Bc0, Bc1, Bc2, _, _, _⟩ := B17x.cells
    obtain ⟨Xabc0, Xabc1, Xabc2, _, _, _⟩ := Xab17x.cells
    obtain ⟨Xbac0, Xbac1, Xbac2, _, _, _⟩ := Xba17x.cells
    obtain ⟨Xxc0, Xxc1, Xxc2, _, _, _⟩ := Xx17x.cells
    obtain ⟨Xyc0, Xyc1, Xyc2, _, _, _⟩ := Xy17x.cells
    obtain ⟨Xpc0, Xpc1, Xpc2, _, _, _⟩ := Xp17x.cells
    obtain ⟨Xqc0, Xqc1, Xqc2, _, _, _⟩ := Xq17x.cells
    obtain ⟨Xuc0, Xuc1, Xuc2, _, _, _⟩ := Xu17x.cells
    obtain ⟨Xvc0, Xvc1, Xvc2, _, _, _⟩ := Xv17x.cells
    go_wp2_with fail
    go_ret
    exact ⟨rfl, hb17x⟩

set_option maxHeartbeats 4000000 in
theorem field_good1 (sa sb sc s1 s2 s3 s4 s5 s6 s7 s8 : Bool) (na da nb db nc dc n1 d1 n2 d2 n3 d3 n4 d4 n5 d5 n6 d6 n7 d7 n8 d8 : ByteArray) (zna : na.size ≤ 9223372036854775807) (zda : da.size ≤ 9223372036854775807) (znb : nb.size ≤ 9223372036854775807) (zdb : db.size ≤ 9223372036854775807) (znc : nc.size ≤ 9223372036854775807) (zdc : dc.size ≤ 9223372036854775807) (hq : (nb.toList == [48]) = false) (w : World)
    (H : Hid (∀ v, Below w.heap.size w v → Calls Tryz.prog 10 #[] v fun e w' => e = .returned (.bool true) ∧ Below v.heap.size v w'))
    (VA : Hid (∀ v, Below w.heap.size w v → Calls Tryz.prog 16 #[rV (sa, na, da)] v fun e w' => e = .returned (.bool true) ∧ Below v.heap.size v w'))
    (VB : Hid (∀ v, Below w.heap.size w v → Calls Tryz.prog 16 #[rV (sb, nb, db)] v fun e w' => e = .returned (.bool true) ∧ Below v.heap.size v w'))
    (VC : Hid (∀ v, Below w.heap.size w v → Calls Tryz.prog 16 #[rV (sc, nc, dc)] v fun e w' => e = .returned (.bool true) ∧ Below v.heap.size v w'))
    (E1 : Hid (∀ v, Below w.heap.size w v → Calls Tryz.prog 14 #[rV (sa, na, da), rV (sb, nb, db)] v fun e w' => e = .returned (.tuple #[rV (s1, n1, d1), .int .i64 0]) ∧ Below v.heap.size v w'))
    (E2 : Hid (∀ v, Below w.heap.size w v → Calls Tryz.prog 14 #[rV (sb, nb, db), rV (sa, na, da)] v fun e w' => e = .returned (.tuple #[rV (s1, n1, d1), .int .i64 0]) ∧ Below v.heap.size v w'))
    (E3 : Hid (∀ v, Below w.heap.size w v → Calls Tryz.prog 14 #[rV (sb, nb, db), rV (sc, nc, dc)] v fun e w' => e = .returned (.tuple #[rV (s2, n2, d2), .int .i64 0]) ∧ Below v.heap.size v w'))
    (E4 : Hid (∀ v, Below w.heap.size w v → Calls Tryz.prog 14 #[rV (s1, n1, d1), rV (sc, nc, dc)] v fun e w' => e = .returned (.tuple #[rV (s3, n3, d3), .int .i64 0]) ∧ Below v.heap.size v w'))
    (E5 : Hid (∀ v, Below w.heap.size w v → Calls Tryz.prog 14 #[rV (sa, na, da), rV (s2, n2, d2)] v fun e w' => e = .returned (.tuple #[rV (s3, n3, d3), .int .i64 0]) ∧ Below v.heap.size v w'))
    (E6 : Hid (∀ v, Below w.heap.size w v → Calls Tryz.prog 20 #[rV (sa, na, da), rV (sb, nb, db)] v fun e w' => e = .returned (.tuple #[rV (s4, n4, d4), .int .i64 0]) ∧ Below v.heap.size v w'))
    (E7 : Hid (∀ v, Below w.heap.size w v → Calls Tryz.prog 20 #[rV (sb, nb, db), rV (sa, na, da)] v fun e w' => e = .returned (.tuple #[rV (s4, n4, d4), .int .i64 0]) ∧ Below v.heap.size v w'))
    (E8 : Hid (∀ v, Below w.heap.size w v → Calls Tryz.prog 20 #[rV (sa, na, da), rV (sc, nc, dc)] v fun e w' => e = .returned (.tuple #[rV (s5, n5, d5), .int .i64 0]) ∧ Below v.heap.size v w'))
    (E9 : Hid (∀ v, Below w.heap.size w v → Calls Tryz.prog 20 #[rV (sa, na, da), rV (s2, n2, d2)] v fun e w' => e = .returned (.tuple #[rV (s6, n6, d6), .int .i64 0]) ∧ Below v.heap.size v w'))
    (E10 : Hid (∀ v, Below w.heap.size w v → Calls Tryz.prog 14 #[rV (s4, n4, d4), rV (s5, n5, d5)] v fun e w' => e = .returned (.tuple #[rV (s6, n6, d6), .int .i64 0]) ∧ Below v.heap.size v w'))
    (F1 : Hid (∀ v, Below w.heap.size w v → Calls Tryz.prog 18 #[rV (sa, na, da), rV (sb, nb, db)] v fun e w' => e = .returned (.tuple #[rV (s7, n7, d7), .int .i64 0]) ∧ Below v.heap.size v w'))
    (F2 : Hid (∀ v, Below w.heap.size w v → Calls Tryz.prog 14 #[rV (s7, n7, d7), rV (sb, nb, db)] v fun e w' => e = .returned (.tuple #[rV (sa, na, da), .int .i64 0]) ∧ Below v.heap.size v w'))
    (F3 : Hid (∀ v, Below w.heap.size w v → Calls Tryz.prog 22 #[rV (sa, na, da), rV (sb, nb, db)] v fun e w' => e = .returned (.tuple #[rV (s8, n8, d8), .int .i64 0]) ∧ Below v.heap.size v w'))
    (F4 : Hid (∀ v, Below w.heap.size w v → Calls Tryz.prog 20 #[rV (s8, n8, d8), rV (sb, nb, db)] v fun e w' => e = .returned (.tuple #[rV (sa, na, da), .int .i64 0]) ∧ Below v.heap.size v w')) :
    Calls Tryz.prog 5 #[rV (sa, na, da), rV (sb, nb, db), rV (sc, nc, dc)] w fun e w' => e = .returned (.bool true) ∧ Below w.heap.size w w' := by
  obtain ⟨hb0, A0, B0, C0, nn⟩ := start3 w (sa, na, da) (sb, nb, db) (sc, nc, dc) _ rfl
  unfold ob at hb0 A0 B0 C0
  unfold rV at VA VB VC E1 E2 E3 E4 E5 E6 E7 E8 E9 E10 F1 F2 F3 F4 ⊢
  simp only at hb0 A0 B0 C0 VA VB VC E1 E2 E3 E4 E5 E6 E7 E8 E9 E10 F1 F2 F3 F4 ⊢
  go_enter Tryz.func5, Tryz.ntmps5
  go_wp2_with fail
  refine (H.out _ hb0).mono ?_
  rintro e w1 ⟨rfl, g⟩
  have hb1 := Nb hb0 (g)
  have A1 := A0.bt (g)
  have B1 := B0.bt (g)
  have C1 := C0.bt (g)
  clear hb0 A0 B0 C0 g
  obtain ⟨Ac0, Ac1, Ac2, _, _, _⟩ := A1.cells
  obtain ⟨Bc0, Bc1, Bc2, _, _, _⟩ := B1.cells
  obtain ⟨Cc0, Cc1, Cc2, _, _, _⟩ := C1.cells
  go_wp2_with fail
  have hX : (w1.alloc (.cells #[.bool sa, .string na, .string da, .bool sb, .string nb, .string db, .bool sc, .string nc, .string dc] 23)).heap[w1.heap.size]? = some (.cells #[.bool sa, .string na, .string da, .bool sb, .string nb, .string db, .bool sc, .string nc, .string dc] 23 (0, 0)) := heap_alloc_new _ _
  have SH := Lib.hid (lshort3 40 (by omega) w1.heap.size na da nb db nc dc (w1.alloc (.cells #[.bool sa, .string na, .string da, .bool sb, .string nb, .string db, .bool sc, .string nc, .string dc] 23)) (by rw [Lib.cell_of_heap hX]; rfl) (by rw [Lib.cell_of_heap hX]; rfl) (by rw [Lib.cell_of_heap hX]; rfl) (by rw [Lib.cell_of_heap hX]; rfl) (by rw [Lib.cell_of_heap hX]; rfl) (by rw [Lib.cell_of_heap hX]; rfl) zna zda znb zdb znc zdc)
  rw [show ((40 : Nat) : Int) = 40 from rfl] at SH
  refine SH.out.mono ?_
  rintro e wS ⟨r, rfl, hr, rfl⟩
  clear Ac0 Ac1 Ac2 Bc0 Bc1 Bc2 Cc0 Cc1 Cc2
  clear SH hX
  have hb1s := Nb hb1 (al w1 (.cells #[.bool sa, .string na, .string da, .bool sb, .string nb, .string db, .bool sc, .string nc, .string dc] 23))
  have A1s := A1.bt (al w1 (.cells #[.bool sa, .string na, .string da, .bool sb, .string nb, .string db, .bool sc, .string nc, .string dc] 23))
  have B1s := B1.bt (al w1 (.cells #[.bool sa, .string na, .string da, .bool sb, .string nb, .string db, .bool sc, .string nc, .string dc] 23))
  have C1s := C1.bt (al w1 (.cells #[.bool sa, .string na, .string da, .bool sb, .string nb, .string db, .bool sc, .string nc, .string dc] 23))
  clear hb1 A1 B1 C1 
  clear hr
  cases r
  · go_wp2_with fail
    go_ret
    exact ⟨rfl, hb1s⟩
  · obtain ⟨Ac0, Ac1, Ac2, _, _, _⟩ := A1s.cells
    go_wp2_with fail
    refine (VA.out _ hb1s).mono ?_
    rintro e w2 ⟨rfl, g⟩
    clear Ac0 Ac1 Ac2
    have hb2 := Nb hb1s (g)
    have A2 := A1s.bt (g)
    have B2 := B1s.bt (g)
    have C2 := C1s.bt (g)
    clear hb1s A1s B1s C1s g
    obtain ⟨Bc0, Bc1, Bc2, _, _, _⟩ := B2.cells
    go_wp2_with fail
    refine (VB.out _ hb2).mono ?_
    rintro e w3 ⟨rfl, g⟩
    clear Bc0 Bc1 Bc2
    have hb3 := Nb hb2 (g)
    have A3 := A2.bt (g)
    have B3 := B2.bt (g)
    have C3 := C2.bt (g)
    clear hb2 A2 B2 C2 g
    obtain ⟨Cc0, Cc1, Cc2, _, _, _⟩ := C3.cells
    go_wp2_with fail
    refine (VC.out _ hb3).mono ?_
    rintro e w4 ⟨rfl, g⟩
    clear Cc0 Cc1 Cc2
    have hb4 := Nb hb3 (g)
    have A4 := A3.bt (g)
    have B4 := B3.bt (g)
    have C4 := C3.bt (g)
    clear hb3 A3 B3 C3 g
    obtain ⟨Ac0, Ac1, Ac2, _, _, _⟩ := A4.cells
    obtain ⟨Bc0, Bc1, Bc2, _, _, _⟩ := B4.cells
    go_wp2_with fail
    refine (E1.out _ hb4).mono ?_
    rintro e w5 ⟨rfl, g⟩
    clear Ac0 Ac1 Ac2 Bc0 Bc1 Bc2
    have hb5 := Nb hb4 (g)
    have A5 := A4.bt (g)
    have B5 := B4.bt (g)
    have C5 := C4.bt (g)
    clear hb4 A4 B4 C4 g
    have hb5x := Nb hb5 (al w5 (.cells #[.bool s1, .string n1, .string d1] 23))
    have A5x := A5.bt (al w5 (.cells #[.bool s1, .string n1, .string d1] 23))
    have B5x := B5.bt (al w5 (.cells #[.bool s1, .string n1, .string d1] 23))
    have C5x := C5.bt (al w5 (.cells #[.bool s1, .string n1, .string d1] 23))
    clear hb5 A5 B5 C5 
    have Xab5x := At.new w5 s1 n1 d1
    obtain ⟨Bc0, Bc1, Bc2, _, _, _⟩ := B5x.cells
    obtain ⟨Ac0, Ac1, Ac2, _, _, _⟩ := A5x.cells
    go_wp2_with fail
    refine (E2.out _ hb5x).mono ?_
    rintro e w6 ⟨rfl, g⟩
    clear Bc0 Bc1 Bc2 Ac0 Ac1 Ac2
    have hb6 := Nb hb5x (g)
    have A6 := A5x.bt (g)
    have B6 := B5x.bt (g)
    have C6 := C5x.bt (g)
    have Xab6 := Xab5x.bt (g)
    clear hb5x A5x B5x C5x Xab5x g
    have hb6x := Nb hb6 (al w6 (.cells #[.bool s1, .string n1, .string d1] 23))
    have A6x := A6.bt (al w6 (.cells #[.bool s1, .string n1, .string d1] 23))
    have B6x := B6.bt (al w6 (.cells #[.bool s1, .string n1, .string d1] 23))
    have C6x := C6.bt (al w6 (.cells #[.bool s1, .string n1, .string d1] 23))
    have Xab6x := Xab6.bt (al w6 (.cells #[.bool s1, .string n1, .string d1] 23))
    clear hb6 A6 B6 C6 Xab6 
    have Xba6x := At.new w6 s1 n1 d1
    obtain ⟨Bc0, Bc1, Bc2, _, _, _⟩ := B6x.cells
    obtain ⟨Cc0, Cc1, Cc2, _, _, _⟩ := C6x.cells
    go_wp2_with fail
    refine (E3.out _ hb6x).mono ?_
    rintro e w7 ⟨rfl, g⟩
    clear Bc0 Bc1 Bc2 Cc0 Cc1 Cc2
    have hb7 := Nb hb6x (g)
    have A7 := A6x.bt (g)
    have B7 := B6x.bt (g)
    have C7 := C6x.bt (g)
    have Xab7 := Xab6x.bt (g)
    have Xba7 := Xba6x.bt (g)
    clear hb6x A6x B6x C6x Xab6x Xba6x g
    have hb7x := Nb hb7 (al w7 (.cells #[.bool s2, .string n2, .string d2] 23))
    have A7x := A7.bt (al w7 (.cells #[.bool s2, .string n2, .string d2] 23))
    have B7x := B7.bt (al w7 (.cells #[.bool s2, .string n2, .string d2] 23))
    have C7x := C7.bt (al w7 (.cells #[.bool s2, .string n2, .string d2] 23))
    have Xab7x := Xab7.bt (al w7 (.cells #[.bool s2, .string n2, .string d2] 23))
    have Xba7x := Xba7.bt (al w7 (.cells #[.bool s2, .string n2, .string d2] 23))
    clear hb7 A7 B7 C7 Xab7 Xba7 
    have Xbc7x := At.new w7 s2 n2 d2
    obtain ⟨Xabc0, Xabc1, Xabc2, _, _, _⟩ := Xab7x.cells
    obtain ⟨Cc0, Cc1, Cc2, _, _, _⟩ := C7x.cells
    go_wp2_with fail
    refine (E4.out _ hb7x).mono ?_
    rintro e w8 ⟨rfl, g⟩
    clear Xabc0 Xabc1 Xabc2 Cc0 Cc1 Cc2
    have hb8 := Nb hb7x (g)
    have A8 := A7x.bt (g)
    have B8 := B7x.bt (g)
    have C8 := C7x.bt (g)
    have Xab8 := Xab7x.bt (g)
    have Xba8 := Xba7x.bt (g)
    have Xbc8 := Xbc7x.bt (g)
    clear hb7x A7x B7x C7x Xab7x Xba7x Xbc7x g
    have hb8x := Nb hb8 (al w8 (.cells #[.bool s3, .string n3, .string d3] 23))
    have A8x := A8.bt (al w8 (.cells #[.bool s3, .string n3, .string d3] 23))
    have B8x := B8.bt (al w8 (.cells #[.bool s3, .string n3, .string d3] 23))
    have C8x := C8.bt (al w8 (.cells #[.bool s3, .string n3, .string d3] 23))
    have Xab8x := Xab8.bt (al w8 (.cells #[.bool s3, .string n3, .string d3] 23))
    have Xba8x := Xba8.bt (al w8 (.cells #[.bool s3, .string n3, .string d3] 23))
    have Xbc8x := Xbc8.bt (al w8 (.cells #[.bool s3, .string n3, .string d3] 23))
    clear hb8 A8 B8 C8 Xab8 Xba8 Xbc8 
    have Xx8x := At.new w8 s3 n3 d3
    obtain ⟨Ac0, Ac1, Ac2, _, _, _⟩ := A8x.cells
    obtain ⟨Xbcc0, Xbcc1, Xbcc2, _, _, _⟩ := Xbc8x.cells
    go_wp2_with fail
    refine (E5.out _ hb8x).mono ?_
    rintro e w9 ⟨rfl, g⟩
    clear Ac0 Ac1 Ac2 Xbcc0 Xbcc1 Xbcc2
    have hb9 := Nb hb8x (g)
    have A9 := A8x.bt (g)
    have B9 := B8x.bt (g)
    have C9 := C8x.bt (g)
    have Xab9 := Xab8x.bt (g)
    have Xba9 := Xba8x.bt (g)
    have Xbc9 := Xbc8x.bt (g)
    have Xx9 := Xx8x.bt (g)
    clear hb8x A8x B8x C8x Xab8x Xba8x Xbc8x Xx8x g
    have hb9x := Nb hb9 (al w9 (.cells #[.bool s3, .string n3, .string d3] 23))
    have A9x := A9.bt (al w9 (.cells #[.bool s3, .string n3, .string d3] 23))
    have B9x := B9.bt (al w9 (.cells #[.bool s3, .string n3, .string d3] 23))
    have C9x := C9.bt (al w9 (.cells #[.bool s3, .string n3, .string d3] 23))
    have Xab9x := Xab9.bt (al w9 (.cells #[.bool s3, .string n3, .string d3] 23))
    have Xba9x := Xba9.bt (al w9 (.cells #[.bool s3, .string n3, .string d3] 23))
    have Xbc9x := Xbc9.bt (al w9 (.cells #[.bool s3, .string n3, .string d3] 23))
    have Xx9x := Xx9.bt (al w9 (.cells #[.bool s3, .string n3, .string d3] 23))
    clear hb9 A9 B9 C9 Xab9 Xba9 Xbc9 Xx9 
    have Xy9x := At.new w9 s3 n3 d3
    obtain ⟨Ac0, Ac1, Ac2, _, _, _⟩ := A9x.cells
    obtain ⟨Bc0, Bc1, Bc2, _, _, _⟩ := B9x.cells
    go_wp2_with fail
    refine (E6.out _ hb9x).mono ?_
    rintro e w10 ⟨rfl, g⟩
    clear Ac0 Ac1 Ac2 Bc0 Bc1 Bc2
    have hb10 := Nb hb9x (g)
    have A10 := A9x.bt (g)
    have B10 := B9x.bt (g)
    have C10 := C9x.bt (g)
    have Xab10 := Xab9x.bt (g)
    have Xba10 := Xba9x.bt (g)
    have Xbc10 := Xbc9x.bt (g)
    have Xx10 := Xx9x.bt (g)
    have Xy10 := Xy9x.bt (g)
    clear hb9x A9x B9x C9x Xab9x Xba9x Xbc9x Xx9x Xy9x g
    have hb10x := Nb hb10 (al w10 (.cells #[.bool s4, .string n4, .string d4] 23))
    have A10x := A10.bt (al w10 (.cells #[.bool s4, .string n4, .string d4] 23))
    have B10x := B10.bt (al w10 (.cells #[.bool s4, .string n4, .string d4] 23))
    have C10x := C10.bt (al w10 (.cells #[.bool s4, .string n4, .string d4] 23))
    have Xab10x := Xab10.bt (al w10 (.cells #[.bool s4, .string n4, .string d4] 23))
    have Xba10x := Xba10.bt (al w10 (.cells #[.bool s4, .string n4, .string d4] 23))
    have Xbc10x := Xbc10.bt (al w10 (.cells #[.bool s4, .string n4, .string d4] 23))
    have Xx10x := Xx10.bt (al w10 (.cells #[.bool s4, .string n4, .string d4] 23))
    have Xy10x := Xy10.bt (al w10 (.cells #[.bool s4, .string n4, .string d4] 23))
    clear hb10 A10 B10 C10 Xab10 Xba10 Xbc10 Xx10 Xy10 
    have Xp10x := At.new w10 s4 n4 d4
    obtain ⟨Bc0, Bc1, Bc2, _, _, _⟩ := B10x.cells
    obtain ⟨Ac0, Ac1, Ac2, _, _, _⟩ := A10x.cells
    go_wp2_with fail
    refine (E7.out _ hb10x).mono ?_
    rintro e w11 ⟨rfl, g⟩
    clear Bc0 Bc1 Bc2 Ac0 Ac1 Ac2
    have hb11 := Nb hb10x (g)
    have A11 := A10x.bt (g)
    have B11 := B10x.bt (g)
    have C11 := C10x.bt (g)
    have Xab11 := Xab10x.bt (g)
    have Xba11 := Xba10x.bt (g)
    have Xbc11 := Xbc10x.bt (g)
    have Xx11 := Xx10x.bt (g)
    have Xy11 := Xy10x.bt (g)
    have Xp11 := Xp10x.bt (g)
    clear hb10x A10x B10x C10x Xab10x Xba10x Xbc10x Xx10x Xy10x Xp10x g
    have hb11x := Nb hb11 (al w11 (.cells #[.bool s4, .string n4, .string d4] 23))
    have A11x := A11.bt (al w11 (.cells #[.bool s4, .string n4, .string d4] 23))
    have B11x := B11.bt (al w11 (.cells #[.bool s4, .string n4, .string d4] 23))
    have C11x := C11.bt (al w11 (.cells #[.bool s4, .string n4, .string d4] 23))
    have Xab11x := Xab11.bt (al w11 (.cells #[.bool s4, .string n4, .string d4] 23))
    have Xba11x := Xba11.bt (al w11 (.cells #[.bool s4, .string n4, .string d4] 23))
    have Xbc11x := Xbc11.bt (al w11 (.cells #[.bool s4, .string n4, .string d4] 23))
    have Xx11x := Xx11.bt (al w11 (.cells #[.bool s4, .string n4, .string d4] 23))
    have Xy11x := Xy11.bt (al w11 (.cells #[.bool s4, .string n4, .string d4] 23))
    have Xp11x := Xp11.bt (al w11 (.cells #[.bool s4, .string n4, .string d4] 23))
    clear hb11 A11 B11 C11 Xab11 Xba11 Xbc11 Xx11 Xy11 Xp11 
    have Xq11x := At.new w11 s4 n4 d4
    obtain ⟨Ac0, Ac1, Ac2, _, _, _⟩ := A11x.cells
    obtain ⟨Cc0, Cc1, Cc2, _, _, _⟩ := C11x.cells
    go_wp2_with fail
    refine (E8.out _ hb11x).mono ?_
    rintro e w12 ⟨rfl, g⟩
    clear Ac0 Ac1 Ac2 Cc0 Cc1 Cc2
    have hb12 := Nb hb11x (g)
    have A12 := A11x.bt (g)
    have B12 := B11x.bt (g)
    have C12 := C11x.bt (g)
    have Xab12 := Xab11x.bt (g)
    have Xba12 := Xba11x.bt (g)
    have Xbc12 := Xbc11x.bt (g)
    have Xx12 := Xx11x.bt (g)
    have Xy12 := Xy11x.bt (g)
    have Xp12 := Xp11x.bt (g)
    have Xq12 := Xq11x.bt (g)
    clear hb11x A11x B11x C11x Xab11x Xba11x Xbc11x Xx11x Xy11x Xp11x Xq11x g
    have hb12x := Nb hb12 (al w12 (.cells #[.bool s5, .string n5, .string d5] 23))
    have A12x := A12.bt (al w12 (.cells #[.bool s5, .string n5, .string d5] 23))
    have B12x := B12.bt (al w12 (.cells #[.bool s5, .string n5, .string d5] 23))
    have C12x := C12.bt (al w12 (.cells #[.bool s5, .string n5, .string d5] 23))
    have Xab12x := Xab12.bt (al w12 (.cells #[.bool s5, .string n5, .string d5] 23))
    have Xba12x := Xba12.bt (al w12 (.cells #[.bool s5, .string n5, .string d5] 23))
    have Xbc12x := Xbc12.bt (al w12 (.cells #[.bool s5, .string n5, .string d5] 23))
    have Xx12x := Xx12.bt (al w12 (.cells #[.bool s5, .string n5, .string d5] 23))
    have Xy12x := Xy12.bt (al w12 (.cells #[.bool s5, .string n5, .string d5] 23))
    have Xp12x := Xp12.bt (al w12 (.cells #[.bool s5, .string n5, .string d5] 23))
    have Xq12x := Xq12.bt (al w12 (.cells #[.bool s5, .string n5, .string d5] 23))
    clear hb12 A12 B12 C12 Xab12 Xba12 Xbc12 Xx12 Xy12 Xp12 Xq12 
    have Xac12x := At.new w12 s5 n5 d5
    obtain ⟨Ac0, Ac1, Ac2, _, _, _⟩ := A12x.cells
    obtain ⟨Xbcc0, Xbcc1, Xbcc2, _, _, _⟩ := Xbc12x.cells
    go_wp2_with fail
    refine (E9.out _ hb12x).mono ?_
    rintro e w13 ⟨rfl, g⟩
    clear Ac0 Ac1 Ac2 Xbcc0 Xbcc1 Xbcc2
    have hb13 := Nb hb12x (g)
    have A13 := A12x.bt (g)
    have B13 := B12x.bt (g)
    have C13 := C12x.bt (g)
    have Xab13 := Xab12x.bt (g)
    have Xba13 := Xba12x.bt (g)
    have Xbc13 := Xbc12x.bt (g)
    have Xx13 := Xx12x.bt (g)
    have Xy13 := Xy12x.bt (g)
    have Xp13 := Xp12x.bt (g)
    have Xq13 := Xq12x.bt (g)
    have Xac13 := Xac12x.bt (g)
    clear hb12x A12x B12x C12x Xab12x Xba12x Xbc12x Xx12x Xy12x Xp12x Xq12x Xac12x g
    have hb13x := Nb hb13 (al w13 (.cells #[.bool s6, .string n6, .string d6] 23))
    have A13x := A13.bt (al w13 (.cells #[.bool s6, .string n6, .string d6] 23))
    have B13x := B13.bt (al w13 (.cells #[.bool s6, .string n6, .string d6] 23))
    have C13x := C13.bt (al w13 (.cells #[.bool s6, .string n6, .string d6] 23))
    have Xab13x := Xab13.bt (al w13 (.cells #[.bool s6, .string n6, .string d6] 23))
    have Xba13x := Xba13.bt (al w13 (.cells #[.bool s6, .string n6, .string d6] 23))
    have Xbc13x := Xbc13.bt (al w13 (.cells #[.bool s6, .string n6, .string d6] 23))
    have Xx13x := Xx13.bt (al w13 (.cells #[.bool s6, .string n6, .string d6] 23))
    have Xy13x := Xy13.bt (al w13 (.cells #[.bool s6, .string n6, .string d6] 23))
    have Xp13x := Xp13.bt (al w13 (.cells #[.bool s6, .string n6, .string d6] 23))
    have Xq13x := Xq13.bt (al w13 (.cells #[.bool s6, .string n6, .string d6] 23))
    have Xac13x := Xac13.bt (al w13 (.cells #[.bool s6, .string n6, .string d6] 23))
    clear hb13 A13 B13 C13 Xab13 Xba13 Xbc13 Xx13 Xy13 Xp13 Xq13 Xac13 
    have Xu13x := At.new w13 s6 n6 d6
    obtain ⟨Xpc0, Xpc1, Xpc2, _, _, _⟩ := Xp13x.cells
    obtain ⟨Xacc0, Xacc1, Xacc2, _, _, _⟩ := Xac13x.cells
    go_wp2_with fail
    refine (E10.out _ hb13x).mono ?_
    rintro e w14 ⟨rfl, g⟩
    clear Xpc0 Xpc1 Xpc2 Xacc0 Xacc1 Xacc2
    have hb14 := Nb hb13x (g)
    have A14 := A13x.bt (g)
    have B14 := B13x.bt (g)
    have C14 := C13x.bt (g)
    have Xab14 := Xab13x.bt (g)
    have Xba14 := Xba13x.bt (g)
    have Xbc14 := Xbc13x.bt (g)
    have Xx14 := Xx13x.bt (g)
    have Xy14 := Xy13x.bt (g)
    have Xp14 := Xp13x.bt (g)
    have Xq14 := Xq13x.bt (g)
    have Xac14 := Xac13x.bt (g)
    have Xu14 := Xu13x.bt (g)
    clear hb13x A13x B13x C13x Xab13x Xba13x Xbc13x Xx13x Xy13x Xp13x Xq13x Xac13x Xu13x g
    have hb14x := Nb hb14 (al w14 (.cells #[.bool s6, .string n6, .string d6] 23))
    have A14x := A14.bt (al w14 (.cells #[.bool s6, .string n6, .string d6] 23))
    have B14x := B14.bt (al w14 (.cells #[.bool s6, .string n6, .string d6] 23))
    have C14x := C14.bt (al w14 (.cells #[.bool s6, .string n6, .string d6] 23))
    have Xab14x := Xab14.bt (al w14 (.cells #[.bool s6, .string n6, .string d6] 23))
    have Xba14x := Xba14.bt (al w14 (.cells #[.bool s6, .string n6, .string d6] 23))
    have Xbc14x := Xbc14.bt (al w14 (.cells #[.bool s6, .string n6, .string d6] 23))
    have Xx14x := Xx14.bt (al w14 (.cells #[.bool s6, .string n6, .string d6] 23))
    have Xy14x := Xy14.bt (al w14 (.cells #[.bool s6, .string n6, .string d6] 23))
    have Xp14x := Xp14.bt (al w14 (.cells #[.bool s6, .string n6, .string d6] 23))
    have Xq14x := Xq14.bt (al w14 (.cells #[.bool s6, .string n6, .string d6] 23))
    have Xac14x := Xac14.bt (al w14 (.cells #[.bool s6, .string n6, .string d6] 23))
    have Xu14x := Xu14.bt (al w14 (.cells #[.bool s6, .string n6, .string d6] 23))
    clear hb14 A14 B14 C14 Xab14 Xba14 Xbc14 Xx14 Xy14 Xp14 Xq14 Xac14 Xu14 
    have Xv14x := At.new w14 s6 n6 d6
    obtain ⟨Ac0, Ac1, Ac2, _, _, _⟩ := A14x.cells
    obtain ⟨Bc0, Bc1, Bc2, _, _, _⟩ := B14x.cells
    go_wp2_with fail
    refine (F1.out _ hb14x).mono ?_
    rintro e w15 ⟨rfl, g⟩
    clear Ac0 Ac1 Ac2 Bc0 Bc1 Bc2
    have hb15 := Nb hb14x (g)
    have A15 := A14x.bt (g)
    have B15 := B14x.bt (g)
    have C15 := C14x.bt (g)
    have Xab15 := Xab14x.bt (g)
    have Xba15 := Xba14x.bt (g)
    have Xbc15 := Xbc14x.bt (g)
    have Xx15 := Xx14x.bt (g)
    have Xy15 := Xy14x.bt (g)
    have Xp15 := Xp14x.bt (g)
    have Xq15 := Xq14x.bt (g)
    have Xac15 := Xac14x.bt (g)
    have Xu15 := Xu14x.bt (g)
    have Xv15 := Xv14x.bt (g)
    clear hb14x A14x B14x C14x Xab14x Xba14x Xbc14x Xx14x Xy14x Xp14x Xq14x Xac14x Xu14x Xv14x g
    have hb15x := Nb hb15 (al w15 (.cells #[.bool s7, .string n7, .string d7] 23))
    have A15x := A15.bt (al w15 (.cells #[.bool s7, .string n7, .string d7] 23))
    have B15x := B15.bt (al w15 (.cells #[.bool s7, .string n7, .string d7] 23))
    have C15x := C15.bt (al w15 (.cells #[.bool s7, .string n7, .string d7] 23))
    have Xab15x := Xab15.bt (al w15 (.cells #[.bool s7, .string n7, .string d7] 23))
    have Xba15x := Xba15.bt (al w15 (.cells #[.bool s7, .string n7, .string d7] 23))
    have Xbc15x := Xbc15.bt (al w15 (.cells #[.bool s7, .string n7, .string d7] 23))
    have Xx15x := Xx15.bt (al w15 (.cells #[.bool s7, .string n7, .string d7] 23))
    have Xy15x := Xy15.bt (al w15 (.cells #[.bool s7, .string n7, .string d7] 23))
    have Xp15x := Xp15.bt (al w15 (.cells #[.bool s7, .string n7, .string d7] 23))
    have Xq15x := Xq15.bt (al w15 (.cells #[.bool s7, .string n7, .string d7] 23))
    have Xac15x := Xac15.bt (al w15 (.cells #[.bool s7, .string n7, .string d7] 23))
    have Xu15x := Xu15.bt (al w15 (.cells #[.bool s7, .string n7, .string d7] 23))
    have Xv15x := Xv15.bt (al w15 (.cells #[.bool s7, .string n7, .string d7] 23))
    clear hb15 A15 B15 C15 Xab15 Xba15 Xbc15 Xx15 Xy15 Xp15 Xq15 Xac15 Xu15 Xv15 
    have Xd15x := At.new w15 s7 n7 d7
    obtain ⟨Xdc0, Xdc1, Xdc2, _, _, _⟩ := Xd15x.cells
    obtain ⟨Bc0, Bc1, Bc2, _, _, _⟩ := B15x.cells
    go_wp2_with fail
    refine (F2.out _ hb15x).mono ?_
    rintro e w16 ⟨rfl, g⟩
    clear Xdc0 Xdc1 Xdc2 Bc0 Bc1 Bc2
    have hb16 := Nb hb15x (g)
    have A16 := A15x.bt (g)
    have B16 := B15x.bt (g)
    have C16 := C15x.bt (g)
    have Xab16 := Xab15x.bt (g)
    have Xba16 := Xba15x.bt (g)
    have Xbc16 := Xbc15x.bt (g)
    have Xx16 := Xx15x.bt (g)
    have Xy16 := Xy15x.bt (g)
    have Xp16 := Xp15x.bt (g)
    have Xq16 := Xq15x.bt (g)
    have Xac16 := Xac15x.bt (g)
    have Xu16 := Xu15x.bt (g)
    have Xv16 := Xv15x.bt (g)
    have Xd16 := Xd15x.bt (g)
    clear hb15x A15x B15x C15x Xab15x Xba15x Xbc15x Xx15x Xy15x Xp15x Xq15x Xac15x Xu15x Xv15x Xd15x g
    have hb16x := Nb hb16 (al w16 (.cells #[.bool sa, .string na, .string da] 23))
    have A16x := A16.bt (al w16 (.cells #[.bool sa, .string na, .string da] 23))
    have B16x := B16.bt (al w16 (.cells #[.bool sa, .string na, .string da] 23))
    have C16x := C16.bt (al w16 (.cells #[.bool sa, .string na, .string da] 23))
    have Xab16x := Xab16.bt (al w16 (.cells #[.bool sa, .string na, .string da] 23))
    have Xba16x := Xba16.bt (al w16 (.cells #[.bool sa, .string na, .string da] 23))
    have Xbc16x := Xbc16.bt (al w16 (.cells #[.bool sa, .string na, .string da] 23))
    have Xx16x := Xx16.bt (al w16 (.cells #[.bool sa, .string na, .string da] 23))
    have Xy16x := Xy16.bt (al w16 (.cells #[.bool sa, .string na, .string da] 23))
    have Xp16x := Xp16.bt (al w16 (.cells #[.bool sa, .string na, .string da] 23))
    have Xq16x := Xq16.bt (al w16 (.cells #[.bool sa, .string na, .string da] 23))
    have Xac16x := Xac16.bt (al w16 (.cells #[.bool sa, .string na, .string da] 23))
    have Xu16x := Xu16.bt (al w16 (.cells #[.bool sa, .string na, .string da] 23))
    have Xv16x := Xv16.bt (al w16 (.cells #[.bool sa, .string na, .string da] 23))
    have Xd16x := Xd16.bt (al w16 (.cells #[.bool sa, .string na, .string da] 23))
    clear hb16 A16 B16 C16 Xab16 Xba16 Xbc16 Xx16 Xy16 Xp16 Xq16 Xac16 Xu16 Xv16 Xd16 
    have Xk16x := At.new w16 sa na da
    obtain ⟨Ac0, Ac1, Ac2, _, _, _⟩ := A16x.cells
    obtain ⟨Bc0, Bc1, Bc2, _, _, _⟩ := B16x.cells
    go_wp2_with fail
    refine (F3.out _ hb16x).mono ?_
    rintro e w17 ⟨rfl, g⟩
    clear Ac0 Ac1 Ac2 Bc0 Bc1 Bc2
    have hb17 := Nb hb16x (g)
    have A17 := A16x.bt (g)
    have B17 := B16x.bt (g)
    have C17 := C16x.bt (g)
    have Xab17 := Xab16x.bt (g)
    have Xba17 := Xba16x.bt (g)
    have Xbc17 := Xbc16x.bt (g)
    have Xx17 := Xx16x.bt (g)
    have Xy17 := Xy16x.bt (g)
    have Xp17 := Xp16x.bt (g)
    have Xq17 := Xq16x.bt (g)
    have Xac17 := Xac16x.bt (g)
    have Xu17 := Xu16x.bt (g)
    have Xv17 := Xv16x.bt (g)
    have Xd17 := Xd16x.bt (g)
    have Xk17 := Xk16x.bt (g)
    clear hb16x A16x B16x C16x Xab16x Xba16x Xbc16x Xx16x Xy16x Xp16x Xq16x Xac16x Xu16x Xv16x Xd16x Xk16x g
    have hb17x := Nb hb17 (al w17 (.cells #[.bool s8, .string n8, .string d8] 23))
    have A17x := A17.bt (al w17 (.cells #[.bool s8, .string n8, .string d8] 23))
    have B17x := B17.bt (al w17 (.cells #[.bool s8, .string n8, .string d8] 23))
    have C17x := C17.bt (al w17 (.cells #[.bool s8, .string n8, .string d8] 23))
    have Xab17x := Xab17.bt (al w17 (.cells #[.bool s8, .string n8, .string d8] 23))
    have Xba17x := Xba17.bt (al w17 (.cells #[.bool s8, .string n8, .string d8] 23))
    have Xbc17x := Xbc17.bt (al w17 (.cells #[.bool s8, .string n8, .string d8] 23))
    have Xx17x := Xx17.bt (al w17 (.cells #[.bool s8, .string n8, .string d8] 23))
    have Xy17x := Xy17.bt (al w17 (.cells #[.bool s8, .string n8, .string d8] 23))
    have Xp17x := Xp17.bt (al w17 (.cells #[.bool s8, .string n8, .string d8] 23))
    have Xq17x := Xq17.bt (al w17 (.cells #[.bool s8, .string n8, .string d8] 23))
    have Xac17x := Xac17.bt (al w17 (.cells #[.bool s8, .string n8, .string d8] 23))
    have Xu17x := Xu17.bt (al w17 (.cells #[.bool s8, .string n8, .string d8] 23))
    have Xv17x := Xv17.bt (al w17 (.cells #[.bool s8, .string n8, .string d8] 23))
    have Xd17x := Xd17.bt (al w17 (.cells #[.bool s8, .string n8, .string d8] 23))
    have Xk17x := Xk17.bt (al w17 (.cells #[.bool s8, .string n8, .string d8] 23))
    clear hb17 A17 B17 C17 Xab17 Xba17 Xbc17 Xx17 Xy17 Xp17 Xq17 Xac17 Xu17 Xv17 Xd17 Xk17 
    have Xz17x := At.new w17 s8 n8 d8
    obtain ⟨Xkc0, Xkc1, Xkc2, _, _, _⟩ := Xk17x.cells
    obtain ⟨Ac0, Ac1, Ac2, _, _, _⟩ := A17x.cells
    obtain ⟨Bc0, Bc1, Bc2, _, _, _⟩ := B17x.cells
    obtain ⟨Xzc0, Xzc1, Xzc2, _, _, _⟩ := Xz17x.cells
    go_wp2_with fail
    refine (F4.out _ hb17x).mono ?_
    rintro e w18 ⟨rfl, g⟩
    clear Xkc0 Xkc1 Xkc2 Ac0 Ac1 Ac2 Bc0 Bc1 Bc2 Xzc0 Xzc1 Xzc2
    have hb18 := Nb hb17x (g)
    have A18 := A17x.bt (g)
    have B18 := B17x.bt (g)
    have C18 := C17x.bt (g)
    have Xab18 := Xab17x.bt (g)
    have Xba18 := Xba17x.bt (g)
    have Xbc18 := Xbc17x.bt (g)
    have Xx18 := Xx17x.bt (g)
    have Xy18 := Xy17x.bt (g)
    have Xp18 := Xp17x.bt (g)
    have Xq18 := Xq17x.bt (g)
    have Xac18 := Xac17x.bt (g)
    have Xu18 := Xu17x.bt (g)
    have Xv18 := Xv17x.bt (g)
    have Xd18 := Xd17x.bt (g)
    have Xk18 := Xk17x.bt (g)
    have Xz18 := Xz17x.bt (g)
    clear hb17x A17x B17x C17x Xab17x Xba17x Xbc17x Xx17x Xy17x Xp17x Xq17x Xac17x Xu17x Xv17x Xd17x Xk17x Xz17x g
    have hb18x := Nb hb18 (al w18 (.cells #[.bool sa, .string na, .string da] 23))
    have A18x := A18.bt (al w18 (.cells #[.bool sa, .string na, .string da] 23))
    have B18x := B18.bt (al w18 (.cells #[.bool sa, .string na, .string da] 23))
    have C18x := C18.bt (al w18 (.cells #[.bool sa, .string na, .string da] 23))
    have Xab18x := Xab18.bt (al w18 (.cells #[.bool sa, .string na, .string da] 23))
    have Xba18x := Xba18.bt (al w18 (.cells #[.bool sa, .string na, .string da] 23))
    have Xbc18x := Xbc18.bt (al w18 (.cells #[.bool sa, .string na, .string da] 23))
    have Xx18x := Xx18.bt (al w18 (.cells #[.bool sa, .string na, .string da] 23))
    have Xy18x := Xy18.bt (al w18 (.cells #[.bool sa, .string na, .string da] 23))
    have Xp18x := Xp18.bt (al w18 (.cells #[.bool sa, .string na, .string da] 23))
    have Xq18x := Xq18.bt (al w18 (.cells #[.bool sa, .string na, .string da] 23))
    have Xac18x := Xac18.bt (al w18 (.cells #[.bool sa, .string na, .string da] 23))
    have Xu18x := Xu18.bt (al w18 (.cells #[.bool sa, .string na, .string da] 23))
    have Xv18x := Xv18.bt (al w18 (.cells #[.bool sa, .string na, .string da] 23))
    have Xd18x := Xd18.bt (al w18 (.cells #[.bool sa, .string na, .string da] 23))
    have Xk18x := Xk18.bt (al w18 (.cells #[.bool sa, .string na, .string da] 23))
    have Xz18x := Xz18.bt (al w18 (.cells #[.bool sa, .string na, .string da] 23))
    clear hb18 A18 B18 C18 Xab18 Xba18 Xbc18 Xx18 Xy18 Xp18 Xq18 Xac18 Xu18 Xv18 Xd18 Xk18 Xz18 
    have Xm18x := At.new w18 sa na da
    obtain ⟨Xmc0, Xmc1, Xmc2, _, _, _⟩ := Xm18x.cells
    obtain ⟨Ac0, Ac1, Ac2, _, _, _⟩ := A18x.cells
    obtain ⟨Xabc0, Xabc1, Xabc2, _, _, _⟩ := Xab18x.cells
    obtain ⟨Xbac0, Xbac1, Xbac2, _, _, _⟩ := Xba18x.cells
    obtain ⟨Xxc0, Xxc1, Xxc2, _, _, _⟩ := Xx18x.cells
    obtain ⟨Xyc0, Xyc1, Xyc2, _, _, _⟩ := Xy18x.cells
    obtain ⟨Xpc0, Xpc1, Xpc2, _, _, _⟩ := Xp18x.cells
    obtain ⟨Xqc0, Xqc1, Xqc2, _, _, _⟩ := Xq18x.cells
    obtain ⟨Xuc0, Xuc1, Xuc2, _, _, _⟩ := Xu18x.cells
    obtain ⟨Xvc0, Xvc1, Xvc2, _, _, _⟩ := Xv18x.cells
    go_wp2_with fail
    go_ret
    exact ⟨rfl, hb18x⟩

end Go.Proofs.YtmnnaaifebajnaaGreatDoor
