/- RatioOrder: the walk. -/
import Derived.Test.YtmnnaaifebajnaaGreatDoorRaHd
import Derived.Test.YtmnnaaifebajnaaGreatDoorRaSh
import Derived.Test.YtmnnaaifebajnaaGreatDoorRaLw
import Derived.Deep.DeepCutAuto
set_option linter.unusedSimpArgs false
set_option linter.unusedVariables false
namespace Go.Proofs.YtmnnaaifebajnaaGreatDoor
open Go.RowKit
open Ra (Fit)
set_option maxRecDepth 100000

set_option maxHeartbeats 1000000 in
theorem order_early0 (sa sb sc : Bool) (na da nb db nc dc : ByteArray) (zna : na.size ≤ 9223372036854775807) (zda : da.size ≤ 9223372036854775807) (znb : nb.size ≤ 9223372036854775807) (zdb : db.size ≤ 9223372036854775807) (znc : nc.size ≤ 9223372036854775807) (zdc : dc.size ≤ 9223372036854775807) (hns : ¬ ∀ x ∈ [na, da, nb, db, nc, dc], x.size ≤ 40) (w : World)
    (H : Hid (∀ v, Below w.heap.size w v → Calls Tryz.prog 10 #[] v fun e w' => e = .returned (.bool true) ∧ Below v.heap.size v w')) :
    Calls Tryz.prog 6 #[rV (sa, na, da), rV (sb, nb, db), rV (sc, nc, dc)] w fun e w' => e = .returned (.bool true) ∧ Below w.heap.size w w' := by
  obtain ⟨hb0, A0, B0, C0, nn⟩ := start3 w (sa, na, da) (sb, nb, db) (sc, nc, dc) _ rfl
  unfold ob at hb0 A0 B0 C0
  unfold rV at  ⊢
  simp only at hb0 A0 B0 C0  ⊢
  go_enter Tryz.func6, Tryz.ntmps6
  go_wp2_with fail
  refine (H.out _ hb0).mono ?_
  rintro e w1 ⟨rfl, g⟩
  have hb1 := Nb hb0 (g)
  have A1 := A0.bt (g)
  have B1 := B0.bt (g)
  have C1 := C0.bt (g)
  clear hb0 A0 B0 C0 g
  obtain ⟨Ac0, Ac1, Ac2, _, _, _⟩ := A1.cells
  obtain ⟨Bc0, Bc1, Bc2, _, _, _⟩ := B1.cells
  obtain ⟨Cc0, Cc1, Cc2, _, _, _⟩ := C1.cells
  go_wp2_with fail
  have hX : (w1.alloc (.cells #[.bool sa, .string na, .string da, .bool sb, .string nb, .string db, .bool sc, .string nc, .string dc] 23)).heap[w1.heap.size]? = some (.cells #[.bool sa, .string na, .string da, .bool sb, .string nb, .string db, .bool sc, .string nc, .string dc] 23 (0, 0)) := heap_alloc_new _ _
  have SH := Lib.hid (lshort3 40 (by omega) w1.heap.size na da nb db nc dc (w1.alloc (.cells #[.bool sa, .string na, .string da, .bool sb, .string nb, .string db, .bool sc, .string nc, .string dc] 23)) (by rw [Lib.cell_of_heap hX]; rfl) (by rw [Lib.cell_of_heap hX]; rfl) (by rw [Lib.cell_of_heap hX]; rfl) (by rw [Lib.cell_of_heap hX]; rfl) (by rw [Lib.cell_of_heap hX]; rfl) (by rw [Lib.cell_of_heap hX]; rfl) zna zda znb zdb znc zdc)
  rw [show ((40 : Nat) : Int) = 40 from rfl] at SH
  refine SH.out.mono ?_
  rintro e wS ⟨r, rfl, hr, rfl⟩
  clear Ac0 Ac1 Ac2 Bc0 Bc1 Bc2 Cc0 Cc1 Cc2
  clear SH hX
  have hb1s := Nb hb1 (al w1 (.cells #[.bool sa, .string na, .string da, .bool sb, .string nb, .string db, .bool sc, .string nc, .string dc] 23))
  have A1s := A1.bt (al w1 (.cells #[.bool sa, .string na, .string da, .bool sb, .string nb, .string db, .bool sc, .string nc, .string dc] 23))
  have B1s := B1.bt (al w1 (.cells #[.bool sa, .string na, .string da, .bool sb, .string nb, .string db, .bool sc, .string nc, .string dc] 23))
  have C1s := C1.bt (al w1 (.cells #[.bool sa, .string na, .string da, .bool sb, .string nb, .string db, .bool sc, .string nc, .string dc] 23))
  clear hb1 A1 B1 C1 
  obtain rfl : r = false := by
    cases r
    · rfl
    · exact absurd (hr rfl) hns
  go_wp2_with fail
  go_ret
  exact ⟨rfl, hb1s⟩

set_option maxHeartbeats 1000000 in
theorem order_early1 (sa sb sc : Bool) (na da nb db nc dc : ByteArray) (zna : na.size ≤ 9223372036854775807) (zda : da.size ≤ 9223372036854775807) (znb : nb.size ≤ 9223372036854775807) (zdb : db.size ≤ 9223372036854775807) (znc : nc.size ≤ 9223372036854775807) (zdc : dc.size ≤ 9223372036854775807) (w : World)
    (H : Hid (∀ v, Below w.heap.size w v → Calls Tryz.prog 10 #[] v fun e w' => e = .returned (.bool true) ∧ Below v.heap.size v w'))
    (VA : Hid (∀ v, Below w.heap.size w v → Calls Tryz.prog 16 #[rV (sa, na, da)] v fun e w' => e = .returned (.bool false) ∧ Below v.heap.size v w')) :
    Calls Tryz.prog 6 #[rV (sa, na, da), rV (sb, nb, db), rV (sc, nc, dc)] w fun e w' => e = .returned (.bool true) ∧ Below w.heap.size w w' := by
  obtain ⟨hb0, A0, B0, C0, nn⟩ := start3 w (sa, na, da) (sb, nb, db) (sc, nc, dc) _ rfl
  unfold ob at hb0 A0 B0 C0
  unfold rV at VA ⊢
  simp only at hb0 A0 B0 C0 VA ⊢
  go_enter Tryz.func6, Tryz.ntmps6
  go_wp2_with fail
  refine (H.out _ hb0).mono ?_
  rintro e w1 ⟨rfl, g⟩
  have hb1 := Nb hb0 (g)
  have A1 := A0.bt (g)
  have B1 := B0.bt (g)
  have C1 := C0.bt (g)
  clear hb0 A0 B0 C0 g
  obtain ⟨Ac0, Ac1, Ac2, _, _, _⟩ := A1.cells
  obtain ⟨Bc0, Bc1, Bc2, _, _, _⟩ := B1.cells
  obtain ⟨Cc0, Cc1, Cc2, _, _, _⟩ := C1.cells
  go_wp2_with fail
  have hX : (w1.alloc (.cells #[.bool sa, .string na, .string da, .bool sb, .string nb, .string db, .bool sc, .string nc, .string dc] 23)).heap[w1.heap.size]? = some (.cells #[.bool sa, .string na, .string da, .bool sb, .string nb, .string db, .bool sc, .string nc, .string dc] 23 (0, 0)) := heap_alloc_new _ _
  have SH := Lib.hid (lshort3 40 (by omega) w1.heap.size na da nb db nc dc (w1.alloc (.cells #[.bool sa, .string na, .string da, .bool sb, .string nb, .string db, .bool sc, .string nc, .string dc] 23)) (by rw [Lib.cell_of_heap hX]; rfl) (by rw [Lib.cell_of_heap hX]; rfl) (by rw [Lib.cell_of_heap hX]; rfl) (by rw [Lib.cell_of_heap hX]; rfl) (by rw [Lib.cell_of_heap hX]; rfl) (by rw [Lib.cell_of_heap hX]; rfl) zna zda znb zdb znc zdc)
  rw [show ((40 : Nat) : Int) = 40 from rfl] at SH
  refine SH.out.mono ?_
  rintro e wS ⟨r, rfl, hr, rfl⟩
  clear Ac0 Ac1 Ac2 Bc0 Bc1 Bc2 Cc0 Cc1 Cc2
  clear SH hX
  have hb1s := Nb hb1 (al w1 (.cells #[.bool sa, .string na, .string da, .bool sb, .string nb, .string db, .bool sc, .string nc, .string dc] 23))
  have A1s := A1.bt (al w1 (.cells #[.bool sa, .string na, .string da, .bool sb, .string nb, .string db, .bool sc, .string nc, .string dc] 23))
  have B1s := B1.bt (al w1 (.cells #[.bool sa, .string na, .string da, .bool sb, .string nb, .string db, .bool sc, .string nc, .string dc] 23))
  have C1s := C1.bt (al w1 (.cells #[.bool sa, .string na, .string da, .bool sb, .string nb, .string db, .bool sc, .string nc, .string dc] 23))
  clear hb1 A1 B1 C1 
  clear hr
  cases r
  · go_wp2_with fail
    go_ret
    exact ⟨rfl, hb1s⟩
  · obtain ⟨Ac0, Ac1, Ac2, _, _, _⟩ := A1s.cells
    go_wp2_with fail
    refine (VA.out _ hb1s).mono ?_
    rintro e w2 ⟨rfl, g⟩
    clear Ac0 Ac1 Ac2
    have hb2 := Nb hb1s (g)
    have A2 := A1s.bt (g)
    have B2 := B1s.bt (g)
    have C2 := C1s.bt (g)
    clear hb1s A1s B1s C1s g
    go_wp2_with fail
    go_ret
    exact ⟨rfl, hb2⟩

set_option maxHeartbeats 1000000 in
theorem order_early2 (sa sb sc : Bool) (na da nb db nc dc : ByteArray) (zna : na.size ≤ 9223372036854775807) (zda : da.size ≤ 9223372036854775807) (znb : nb.size ≤ 9223372036854775807) (zdb : db.size ≤ 9223372036854775807) (znc : nc.size ≤ 9223372036854775807) (zdc : dc.size ≤ 9223372036854775807) (w : World)
    (H : Hid (∀ v, Below w.heap.size w v → Calls Tryz.prog 10 #[] v fun e w' => e = .returned (.bool true) ∧ Below v.heap.size v w'))
    (VA : Hid (∀ v, Below w.heap.size w v → Calls Tryz.prog 16 #[rV (sa, na, da)] v fun e w' => e = .returned (.bool true) ∧ Below v.heap.size v w'))
    (VB : Hid (∀ v, Below w.heap.size w v → Calls Tryz.prog 16 #[rV (sb, nb, db)] v fun e w' => e = .returned (.bool false) ∧ Below v.heap.size v w')) :
    Calls Tryz.prog 6 #[rV (sa, na, da), rV (sb, nb, db), rV (sc, nc, dc)] w fun e w' => e = .returned (.bool true) ∧ Below w.heap.size w w' := by
  obtain ⟨hb0, A0, B0, C0, nn⟩ := start3 w (sa, na, da) (sb, nb, db) (sc, nc, dc) _ rfl
  unfold ob at hb0 A0 B0 C0
  unfold rV at VA VB ⊢
  simp only at hb0 A0 B0 C0 VA VB ⊢
  go_enter Tryz.func6, Tryz.ntmps6
  go_wp2_with fail
  refine (H.out _ hb0).mono ?_
  rintro e w1 ⟨rfl, g⟩
  have hb1 := Nb hb0 (g)
  have A1 := A0.bt (g)
  have B1 := B0.bt (g)
  have C1 := C0.bt (g)
  clear hb0 A0 B0 C0 g
  obtain ⟨Ac0, Ac1, Ac2, _, _, _⟩ := A1.cells
  obtain ⟨Bc0, Bc1, Bc2, _, _, _⟩ := B1.cells
  obtain ⟨Cc0, Cc1, Cc2, _, _, _⟩ := C1.cells
  go_wp2_with fail
  have hX : (w1.alloc (.cells #[.bool sa, .string na, .string da, .bool sb, .string nb, .string db, .bool sc, .string nc, .string dc] 23)).heap[w1.heap.size]? = some (.cells #[.bool sa, .string na, .string da, .bool sb, .string nb, .string db, .bool sc, .string nc, .string dc] 23 (0, 0)) := heap_alloc_new _ _
  have SH := Lib.hid (lshort3 40 (by omega) w1.heap.size na da nb db nc dc (w1.alloc (.cells #[.bool sa, .string na, .string da, .bool sb, .string nb, .string db, .bool sc, .string nc, .string dc] 23)) (by rw [Lib.cell_of_heap hX]; rfl) (by rw [Lib.cell_of_heap hX]; rfl) (by rw [Lib.cell_of_heap hX]; rfl) (by rw [Lib.cell_of_heap hX]; rfl) (by rw [Lib.cell_of_heap hX]; rfl) (by rw [Lib.cell_of_heap hX]; rfl) zna zda znb zdb znc zdc)
  rw [show ((40 : Nat) : Int) = 40 from rfl] at SH
  refine SH.out.mono ?_
  rintro e wS ⟨r, rfl, hr, rfl⟩
  clear Ac0 Ac1 Ac2 Bc0 Bc1 Bc2 Cc0 Cc1 Cc2
  clear SH hX
  have hb1s := Nb hb1 (al w1 (.cells #[.bool sa, .string na, .string da, .bool sb, .string nb, .string db, .bool sc, .string nc, .string dc] 23))
  have A1s := A1.bt (al w1 (.cells #[.bool sa, .string na, .string da, .bool sb, .string nb, .string db, .bool sc, .string nc, .string dc] 23))
  have B1s := B1.bt (al w1 (.cells #[.bool sa, .string na, .string da, .bool sb, .string nb, .string db, .bool sc, .string nc, .string dc] 23))
  have C1s := C1.bt (al w1 (.cells #[.bool sa, .string na, .string da, .bool sb, .string nb, .string db, .bool sc, .string nc, .string dc] 23))
  clear hb1 A1 B1 C1 
  clear hr
  cases r
  · go_wp2_with fail
    go_ret
    exact ⟨rfl, hb1s⟩
  · obtain ⟨Ac0, Ac1, Ac2, _, _, _⟩ := A1s.cells
    go_wp2_with fail
    refine (VA.out _ hb1s).mono ?_
    rintro e w2 ⟨rfl, g⟩
    clear Ac0 Ac1 Ac2
    have hb2 := Nb hb1s (g)
    have A2 := A1s.bt (g)
    have B2 := B1s.bt (g)
    have C2 := C1s.bt (g)
    clear hb1s A1s B1s C1s g
    obtain ⟨Bc0, Bc1, Bc2, _, _, _⟩ := B2.cells
    go_wp2_with fail
    refine (VB.out _ hb2).mono ?_
    rintro e w3 ⟨rfl, g⟩
    clear Bc0 Bc1 Bc2
    have hb3 := Nb hb2 (g)
    have A3 := A2.bt (g)
    have B3 := B2.bt (g)
    have C3 := C2.bt (g)
    clear hb2 A2 B2 C2 g
    go_wp2_with fail
    go_ret
    exact ⟨rfl, hb3⟩

set_option maxHeartbeats 1000000 in
theorem order_early3 (sa sb sc : Bool) (na da nb db nc dc : ByteArray) (zna : na.size ≤ 9223372036854775807) (zda : da.size ≤ 9223372036854775807) (znb : nb.size ≤ 9223372036854775807) (zdb : db.size ≤ 9223372036854775807) (znc : nc.size ≤ 9223372036854775807) (zdc : dc.size ≤ 9223372036854775807) (w : World)
    (H : Hid (∀ v, Below w.heap.size w v → Calls Tryz.prog 10 #[] v fun e w' => e = .returned (.bool true) ∧ Below v.heap.size v w'))
    (VA : Hid (∀ v, Below w.heap.size w v → Calls Tryz.prog 16 #[rV (sa, na, da)] v fun e w' => e = .returned (.bool true) ∧ Below v.heap.size v w'))
    (VB : Hid (∀ v, Below w.heap.size w v → Calls Tryz.prog 16 #[rV (sb, nb, db)] v fun e w' => e = .returned (.bool true) ∧ Below v.heap.size v w'))
    (VC : Hid (∀ v, Below w.heap.size w v → Calls Tryz.prog 16 #[rV (sc, nc, dc)] v fun e w' => e = .returned (.bool false) ∧ Below v.heap.size v w')) :
    Calls Tryz.prog 6 #[rV (sa, na, da), rV (sb, nb, db), rV (sc, nc, dc)] w fun e w' => e = .returned (.bool true) ∧ Below w.heap.size w w' := by
  obtain ⟨hb0, A0, B0, C0, nn⟩ := start3 w (sa, na, da) (sb, nb, db) (sc, nc, dc) _ rfl
  unfold ob at hb0 A0 B0 C0
  unfold rV at VA VB VC ⊢
  simp only at hb0 A0 B0 C0 VA VB VC ⊢
  go_enter Tryz.func6, Tryz.ntmps6
  go_wp2_with fail
  refine (H.out _ hb0).mono ?_
  rintro e w1 ⟨rfl, g⟩
  have hb1 := Nb hb0 (g)
  have A1 := A0.bt (g)
  have B1 := B0.bt (g)
  have C1 := C0.bt (g)
  clear hb0 A0 B0 C0 g
  obtain ⟨Ac0, Ac1, Ac2, _, _, _⟩ := A1.cells
  obtain ⟨Bc0, Bc1, Bc2, _, _, _⟩ := B1.cells
  obtain ⟨Cc0, Cc1, Cc2, _, _, _⟩ := C1.cells
  go_wp2_with fail
  have hX : (w1.alloc (.cells #[.bool sa, .string na, .string da, .bool sb, .string nb, .string db, .bool sc, .string nc, .string dc] 23)).heap[w1.heap.size]? = some (.cells #[.bool sa, .string na, .string da, .bool sb, .string nb, .string db, .bool sc, .string nc, .string dc] 23 (0, 0)) := heap_alloc_new _ _
  have SH := Lib.hid (lshort3 40 (by omega) w1.heap.size na da nb db nc dc (w1.alloc (.cells #[.bool sa, .string na, .string da, .bool sb, .string nb, .string db, .bool sc, .string nc, .string dc] 23)) (by rw [Lib.cell_of_heap hX]; rfl) (by rw [Lib.cell_of_heap hX]; rfl) (by rw [Lib.cell_of_heap hX]; rfl) (by rw [Lib.cell_of_heap hX]; rfl) (by rw [Lib.cell_of_heap hX]; rfl) (by rw [Lib.cell_of_heap hX]; rfl) zna zda znb zdb znc zdc)
  rw [show ((40 : Nat) : Int) = 40 from rfl] at SH
  refine SH.out.mono ?_
  rintro e wS ⟨r, rfl, hr, rfl⟩
  clear Ac0 Ac1 Ac2 Bc0 Bc1 Bc2 Cc0 Cc1 Cc2
  clear SH hX
  have hb1s := Nb hb1 (al w1 (.cells #[.bool sa, .string na, .string da, .bool sb, .string nb, .string db, .bool sc, .string nc, .string dc] 23))
  have A1s := A1.bt (al w1 (.cells #[.bool sa, .string na, .string da, .bool sb, .string nb, .string db, .bool sc, .string nc, .string dc] 23))
  have B1s := B1.bt (al w1 (.cells #[.bool sa, .string na, .string da, .bool sb, .string nb, .string db, .bool sc, .string nc, .string dc] 23))
  have C1s := C1.bt (al w1 (.cells #[.bool sa, .string na, .string da, .bool sb, .string nb, .string db, .bool sc, .string nc, .string dc] 23))
  clear hb1 A1 B1 C1 
  clear hr
  cases r
  · go_wp2_with fail
    go_ret
    exact ⟨rfl, hb1s⟩
  · obtain ⟨Ac0, Ac1, Ac2, _, _, _⟩ := A1s.cells
    go_wp2_with fail
    refine (VA.out _ hb1s).mono ?_
    rintro e w2 ⟨rfl, g⟩
    clear Ac0 Ac1 Ac2
    have hb2 := Nb hb1s (g)
    have A2 := A1s.bt (g)
    have B2 := B1s.bt (g)
    have C2 := C1s.bt (g)
    clear hb1s A1s B1s C1s g
    obtain ⟨Bc0, Bc1, Bc2, _, _, _⟩ := B2.cells
    go_wp2_with fail
    refine (VB.out _ hb2).mono ?_
    rintro e w3 ⟨rfl, g⟩
    clear Bc0 Bc1 Bc2
    have hb3 := Nb hb2 (g)
    have A3 := A2.bt (g)
    have B3 := B2.bt (g)
    have C3 := C2.bt (g)
    clear hb2 A2 B2 C2 g
    obtain ⟨Cc0, Cc1, Cc2, _, _, _⟩ := C3.cells
    go_wp2_with fail
    refine (VC.out _ hb3).mono ?_
    rintro e w4 ⟨rfl, g⟩
    clear Cc0 Cc1 Cc2
    have hb4 := Nb hb3 (g)
    have A4 := A3.bt (g)
    have B4 := B3.bt (g)
    have C4 := C3.bt (g)
    clear hb3 A3 B3 C3 g
    go_wp2_with fail
    go_ret
    exact ⟨rfl, hb4⟩

end Go.Proofs.YtmnnaaifebajnaaGreatDoor
