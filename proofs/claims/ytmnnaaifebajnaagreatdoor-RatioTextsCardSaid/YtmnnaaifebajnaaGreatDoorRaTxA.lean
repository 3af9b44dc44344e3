/- RatioTexts: the walk. -/
import Derived.Test.YtmnnaaifebajnaaGreatDoorRaHd
import Derived.Test.YtmnnaaifebajnaaGreatDoorRaSh
import Derived.Test.YtmnnaaifebajnaaGreatDoorRaLw
import Derived.Deep.DeepCutAuto
set_option linter.unusedSimpArgs false
set_option linter.unusedVariables false
namespace Go.Proofs.YtmnnaaifebajnaaGreatDoor
open Go.RowKit
open Ra (Fit)
set_option maxRecDepth 100000

set_option maxHeartbeats 1000000 in
theorem texts_early0 (sa sb : Bool) (na da nb db : ByteArray) (text : ByteArray) (zt : text.size ≤ 9223372036854775807) (zna : na.size ≤ 9223372036854775807) (zda : da.size ≤ 9223372036854775807) (znb : nb.size ≤ 9223372036854775807) (zdb : db.size ≤ 9223372036854775807) (hns : ¬ ∀ x ∈ [na, da, nb, db], x.size ≤ 300) (w : World)
    (H : Hid (∀ v, Below w.heap.size w v → Calls Tryz.prog 10 #[] v fun e w' => e = .returned (.bool true) ∧ Below v.heap.size v w')) :
    Calls Tryz.prog 7 #[rV (sa, na, da), rV (sb, nb, db), .string text] w fun e w' => e = .returned (.bool true) ∧ Below w.heap.size w w' := by
  obtain ⟨hb0, A0, B0⟩ := startB w (sa, na, da) (sb, nb, db) _ rfl
  unfold ob at hb0 A0 B0
  unfold rV at  ⊢
  simp only at hb0 A0 B0  ⊢
  go_enter Tryz.func7, Tryz.ntmps7
  go_wp2_with fail
  refine (H.out _ hb0).mono ?_
  rintro e w1 ⟨rfl, g⟩
  have hb1 := Nb hb0 (g)
  have A1 := A0.bt (g)
  have B1 := B0.bt (g)
  clear hb0 A0 B0 g
  obtain ⟨Ac0, Ac1, Ac2, _, _, _⟩ := A1.cells
  obtain ⟨Bc0, Bc1, Bc2, _, _, _⟩ := B1.cells
  go_wp2_with fail
  have hX : (w1.alloc (.cells #[.bool sa, .string na, .string da, .bool sb, .string nb, .string db] 23)).heap[w1.heap.size]? = some (.cells #[.bool sa, .string na, .string da, .bool sb, .string nb, .string db] 23 (0, 0)) := heap_alloc_new _ _
  have SH := Lib.hid (lshort2 300 (by omega) w1.heap.size na da nb db (w1.alloc (.cells #[.bool sa, .string na, .string da, .bool sb, .string nb, .string db] 23)) (by rw [Lib.cell_of_heap hX]; rfl) (by rw [Lib.cell_of_heap hX]; rfl) (by rw [Lib.cell_of_heap hX]; rfl) (by rw [Lib.cell_of_heap hX]; rfl) zna zda znb zdb)
  rw [show ((300 : Nat) : Int) = 300 from rfl] at SH
  refine SH.out.mono ?_
  rintro e wS ⟨r, rfl, hr, rfl⟩
  clear Ac0 Ac1 Ac2 Bc0 Bc1 Bc2
  clear SH hX
  have hb1s := Nb hb1 (al w1 (.cells #[.bool sa, .string na, .string da, .bool sb, .string nb, .string db] 23))
  have A1s := A1.bt (al w1 (.cells #[.bool sa, .string na, .string da, .bool sb, .string nb, .string db] 23))
  have B1s := B1.bt (al w1 (.cells #[.bool sa, .string na, .string da, .bool sb, .string nb, .string db] 23))
  clear hb1 A1 B1 
  obtain rfl : r = false := by
    cases r
    · rfl
    · exact absurd (hr rfl) hns
  go_wp2_with fail
  go_ret
  exact ⟨rfl, hb1s⟩

set_option maxHeartbeats 1000000 in
theorem texts_early1 (sa sb : Bool) (na da nb db : ByteArray) (text : ByteArray) (zt : text.size ≤ 9223372036854775807) (zna : na.size ≤ 9223372036854775807) (zda : da.size ≤ 9223372036854775807) (znb : nb.size ≤ 9223372036854775807) (zdb : db.size ≤ 9223372036854775807) (ht : (620 : Int) < text.size) (w : World)
    (H : Hid (∀ v, Below w.heap.size w v → Calls Tryz.prog 10 #[] v fun e w' => e = .returned (.bool true) ∧ Below v.heap.size v w')) :
    Calls Tryz.prog 7 #[rV (sa, na, da), rV (sb, nb, db), .string text] w fun e w' => e = .returned (.bool true) ∧ Below w.heap.size w w' := by
  obtain ⟨hb0, A0, B0⟩ := startB w (sa, na, da) (sb, nb, db) _ rfl
  unfold ob at hb0 A0 B0
  unfold rV at  ⊢
  simp only at hb0 A0 B0  ⊢
  go_enter Tryz.func7, Tryz.ntmps7
  go_wp2_with fail
  refine (H.out _ hb0).mono ?_
  rintro e w1 ⟨rfl, g⟩
  have hb1 := Nb hb0 (g)
  have A1 := A0.bt (g)
  have B1 := B0.bt (g)
  clear hb0 A0 B0 g
  obtain ⟨Ac0, Ac1, Ac2, _, _, _⟩ := A1.cells
  obtain ⟨Bc0, Bc1, Bc2, _, _, _⟩ := B1.cells
  go_wp2_with fail
  have hX : (w1.alloc (.cells #[.bool sa, .string na, .string da, .bool sb, .string nb, .string db] 23)).heap[w1.heap.size]? = some (.cells #[.bool sa, .string na, .string da, .bool sb, .string nb, .string db] 23 (0, 0)) := heap_alloc_new _ _
  have SH := Lib.hid (lshort2 300 (by omega) w1.heap.size na da nb db (w1.alloc (.cells #[.bool sa, .string na, .string da, .bool sb, .string nb, .string db] 23)) (by rw [Lib.cell_of_heap hX]; rfl) (by rw [Lib.cell_of_heap hX]; rfl) (by rw [Lib.cell_of_heap hX]; rfl) (by rw [Lib.cell_of_heap hX]; rfl) zna zda znb zdb)
  rw [show ((300 : Nat) : Int) = 300 from rfl] at SH
  refine SH.out.mono ?_
  rintro e wS ⟨r, rfl, hr, rfl⟩
  clear Ac0 Ac1 Ac2 Bc0 Bc1 Bc2
  clear SH hX
  have hb1s := Nb hb1 (al w1 (.cells #[.bool sa, .string na, .string da, .bool sb, .string nb, .string db] 23))
  have A1s := A1.bt (al w1 (.cells #[.bool sa, .string na, .string da, .bool sb, .string nb, .string db] 23))
  have B1s := B1.bt (al w1 (.cells #[.bool sa, .string na, .string da, .bool sb, .string nb, .string db] 23))
  clear hb1 A1 B1 
  clear hr
  cases r
  · go_wp2_with fail
    go_ret
    exact ⟨rfl, hb1s⟩
  · go_wp2_with fail
    go_ret
    exact ⟨rfl, hb1s⟩

set_option maxHeartbeats 1000000 in
theorem texts_no_err (sa sb : Bool) (na da nb db : ByteArray) (text : ByteArray) (zt : text.size ≤ 9223372036854775807) (zna : na.size ≤ 9223372036854775807) (zda : da.size ≤ 9223372036854775807) (znb : nb.size ≤ 9223372036854775807) (zdb : db.size ≤ 9223372036854775807) (ht : ¬ (620 : Int) < text.size) (w : World)
    (H : Hid (∀ v, Below w.heap.size w v → Calls Tryz.prog 10 #[] v fun e w' => e = .returned (.bool true) ∧ Below v.heap.size v w'))
    (TA : Hid (∀ v, Below w.heap.size w v → Calls Tryz.prog 30 #[rV (sa, na, da)] v fun e w' => e = .returned (.tuple #[.string ⟨#[]⟩, .int .i64 1]) ∧ Below v.heap.size v w'))
    (VA : Hid (∀ v, Below w.heap.size w v → Calls Tryz.prog 16 #[rV (sa, na, da)] v fun e w' => e = .returned (.bool false) ∧ Below v.heap.size v w'))
    (PT : Hid (∀ v, Below w.heap.size w v → Calls Tryz.prog 32 #[.string text] v fun e w' => e = .returned (.tuple #[rV (false, ⟨#[]⟩, ⟨#[]⟩), .int .i64 5]) ∧ Below v.heap.size v w')) :
    Calls Tryz.prog 7 #[rV (sa, na, da), rV (sb, nb, db), .string text] w fun e w' => e = .returned (.bool true) ∧ Below w.heap.size w w' := by
  obtain ⟨hb0, A0, B0⟩ := startB w (sa, na, da) (sb, nb, db) _ rfl
  unfold ob at hb0 A0 B0
  unfold rV at TA VA PT ⊢
  simp only at hb0 A0 B0 TA VA PT ⊢
  go_enter Tryz.func7, Tryz.ntmps7
  go_wp2_with fail
  refine (H.out _ hb0).mono ?_
  rintro e w1 ⟨rfl, g⟩
  have hb1 := Nb hb0 (g)
  have A1 := A0.bt (g)
  have B1 := B0.bt (g)
  clear hb0 A0 B0 g
  obtain ⟨Ac0, Ac1, Ac2, _, _, _⟩ := A1.cells
  obtain ⟨Bc0, Bc1, Bc2, _, _, _⟩ := B1.cells
  go_wp2_with fail
  have hX : (w1.alloc (.cells #[.bool sa, .string na, .string da, .bool sb, .string nb, .string db] 23)).heap[w1.heap.size]? = some (.cells #[.bool sa, .string na, .string da, .bool sb, .string nb, .string db] 23 (0, 0)) := heap_alloc_new _ _
  have SH := Lib.hid (lshort2 300 (by omega) w1.heap.size na da nb db (w1.alloc (.cells #[.bool sa, .string na, .string da, .bool sb, .string nb, .string db] 23)) (by rw [Lib.cell_of_heap hX]; rfl) (by rw [Lib.cell_of_heap hX]; rfl) (by rw [Lib.cell_of_heap hX]; rfl) (by rw [Lib.cell_of_heap hX]; rfl) zna zda znb zdb)
  rw [show ((300 : Nat) : Int) = 300 from rfl] at SH
  refine SH.out.mono ?_
  rintro e wS ⟨r, rfl, hr, rfl⟩
  clear Ac0 Ac1 Ac2 Bc0 Bc1 Bc2
  clear SH hX
  have hb1s := Nb hb1 (al w1 (.cells #[.bool sa, .string na, .string da, .bool sb, .string nb, .string db] 23))
  have A1s := A1.bt (al w1 (.cells #[.bool sa, .string na, .string da, .bool sb, .string nb, .string db] 23))
  have B1s := B1.bt (al w1 (.cells #[.bool sa, .string na, .string da, .bool sb, .string nb, .string db] 23))
  clear hb1 A1 B1 
  clear hr
  cases r
  · go_wp2_with fail
    go_ret
    exact ⟨rfl, hb1s⟩
  · obtain ⟨Ac0, Ac1, Ac2, _, _, _⟩ := A1s.cells
    go_wp2_with fail
    refine (TA.out _ hb1s).mono ?_
    rintro e w2 ⟨rfl, g⟩
    clear Ac0 Ac1 Ac2
    have hb2 := Nb hb1s (g)
    have A2 := A1s.bt (g)
    have B2 := B1s.bt (g)
    clear hb1s A1s B1s g
    obtain ⟨Ac0, Ac1, Ac2, _, _, _⟩ := A2.cells
    go_wp2_with fail
    refine (VA.out _ hb2).mono ?_
    rintro e w3 ⟨rfl, g⟩
    clear Ac0 Ac1 Ac2
    have hb3 := Nb hb2 (g)
    have A3 := A2.bt (g)
    have B3 := B2.bt (g)
    clear hb2 A2 B2 g
    go_wp2_with fail
    refine (PT.out _ hb3).mono ?_
    rintro e w4 ⟨rfl, g⟩
    have hb4 := Nb hb3 (g)
    have A4 := A3.bt (g)
    have B4 := B3.bt (g)
    clear hb3 A3 B3 g
    have hb4x := Nb hb4 (al w4 (.cells #[.bool false, .string ⟨#[]⟩, .string ⟨#[]⟩] 23))
    have A4x := A4.bt (al w4 (.cells #[.bool false, .string ⟨#[]⟩, .string ⟨#[]⟩] 23))
    have B4x := B4.bt (al w4 (.cells #[.bool false, .string ⟨#[]⟩, .string ⟨#[]⟩] 23))
    clear hb4 A4 B4 
    go_wp2_with fail
    go_ret
    exact ⟨rfl, hb4x⟩

set_option maxHeartbeats 1000000 in
theorem texts_no_ok (sa sb sx : Bool) (na da nb db nx dx : ByteArray) (text : ByteArray) (zt : text.size ≤ 9223372036854775807) (zna : na.size ≤ 9223372036854775807) (zda : da.size ≤ 9223372036854775807) (znb : nb.size ≤ 9223372036854775807) (zdb : db.size ≤ 9223372036854775807) (ht : ¬ (620 : Int) < text.size) (w : World)
    (H : Hid (∀ v, Below w.heap.size w v → Calls Tryz.prog 10 #[] v fun e w' => e = .returned (.bool true) ∧ Below v.heap.size v w'))
    (TA : Hid (∀ v, Below w.heap.size w v → Calls Tryz.prog 30 #[rV (sa, na, da)] v fun e w' => e = .returned (.tuple #[.string ⟨#[]⟩, .int .i64 1]) ∧ Below v.heap.size v w'))
    (VA : Hid (∀ v, Below w.heap.size w v → Calls Tryz.prog 16 #[rV (sa, na, da)] v fun e w' => e = .returned (.bool false) ∧ Below v.heap.size v w'))
    (PT : Hid (∀ v, Below w.heap.size w v → Calls Tryz.prog 32 #[.string text] v fun e w' => e = .returned (.tuple #[rV (sx, nx, dx), .int .i64 0]) ∧ Below v.heap.size v w'))
    (TX : Hid (∀ v, Below w.heap.size w v → Calls Tryz.prog 30 #[rV (sx, nx, dx)] v fun e w' => e = .returned (.tuple #[.string text, .int .i64 0]) ∧ Below v.heap.size v w'))
    (VX : Hid (∀ v, Below w.heap.size w v → Calls Tryz.prog 16 #[rV (sx, nx, dx)] v fun e w' => e = .returned (.bool true) ∧ Below v.heap.size v w')) :
    Calls Tryz.prog 7 #[rV (sa, na, da), rV (sb, nb, db), .string text] w fun e w' => e = .returned (.bool true) ∧ Below w.heap.size w w' := by
  obtain ⟨hb0, A0, B0⟩ := startB w (sa, na, da) (sb, nb, db) _ rfl
  unfold ob at hb0 A0 B0
  unfold rV at TA VA PT TX VX ⊢
  simp only at hb0 A0 B0 TA VA PT TX VX ⊢
  go_enter Tryz.func7, Tryz.ntmps7
  go_wp2_with fail
  refine (H.out _ hb0).mono ?_
  rintro e w1 ⟨rfl, g⟩
  have hb1 := Nb hb0 (g)
  have A1 := A0.bt (g)
  have B1 := B0.bt (g)
  clear hb0 A0 B0 g
  obtain ⟨Ac0, Ac1, Ac2, _, _, _⟩ := A1.cells
  obtain ⟨Bc0, Bc1, Bc2, _, _, _⟩ := B1.cells
  go_wp2_with fail
  have hX : (w1.alloc (.cells #[.bool sa, .string na, .string da, .bool sb, .string nb, .string db] 23)).heap[w1.heap.size]? = some (.cells #[.bool sa, .string na, .string da, .bool sb, .string nb, .string db] 23 (0, 0)) := heap_alloc_new _ _
  have SH := Lib.hid (lshort2 300 (by omega) w1.heap.size na da nb db (w1.alloc (.cells #[.bool sa, .string na, .string da, .bool sb, .string nb, .string db] 23)) (by rw [Lib.cell_of_heap hX]; rfl) (by rw [Lib.cell_of_heap hX]; rfl) (by rw [Lib.cell_of_heap hX]; rfl) (by rw [Lib.cell_of_heap hX]; rfl) zna zda znb zdb)
  rw [show ((300 : Nat) : Int) = 300 from rfl] at SH
  refine SH.out.mono ?_
  rintro e wS ⟨r, rfl, hr, rfl⟩
  clear Ac0 Ac1 Ac2 Bc0 Bc1 Bc2
  clear SH hX
  have hb1s := Nb hb1 (al w1 (.cells #[.bool sa, .string na, .string da, .bool sb, .string nb, .string db] 23))
  have A1s := A1.bt (al w1 (.cells #[.bool sa, .string na, .string da, .bool sb, .string nb, .string db] 23))
  have B1s := B1.bt (al w1 (.cells #[.bool sa, .string na, .string da, .bool sb, .string nb, .string db] 23))
  clear hb1 A1 B1 
  clear hr
  cases r
  · go_wp2_with fail
    go_ret
    exact ⟨rfl, hb1s⟩
  · obtain ⟨Ac0, Ac1, Ac2, _, _, _⟩ := A1s.cells
    go_wp2_with fail
    refine (TA.out _ hb1s).mono ?_
    rintro e w2 ⟨rfl, g⟩
    clear Ac0 Ac1 Ac2
    have hb2 := Nb hb1s (g)
    have A2 := A1s.bt (g)
    have B2 := B1s.bt (g)
    clear hb1s A1s B1s g
    obtain ⟨Ac0, Ac1, Ac2, _, _, _⟩ := A2.cells
    go_wp2_with fail
    refine (VA.out _ hb2).mono ?_
    rintro e w3 ⟨rfl, g⟩
    clear Ac0 Ac1 Ac2
    have hb3 := Nb hb2 (g)
    have A3 := A2.bt (g)
    have B3 := B2.bt (g)
    clear hb2 A2 B2 g
    go_wp2_with fail
    refine (PT.out _ hb3).mono ?_
    rintro e w4 ⟨rfl, g⟩
    have hb4 := Nb hb3 (g)
    have A4 := A3.bt (g)
    have B4 := B3.bt (g)
    clear hb3 A3 B3 g
    have hb4x := Nb hb4 (al w4 (.cells #[.bool sx, .string nx, .string dx] 23))
    have A4x := A4.bt (al w4 (.cells #[.bool sx, .string nx, .string dx] 23))
    have B4x := B4.bt (al w4 (.cells #[.bool sx, .string nx, .string dx] 23))
    clear hb4 A4 B4 
    have Xx4x := At.new w4 sx nx dx
    obtain ⟨Xxc0, Xxc1, Xxc2, _, _, _⟩ := Xx4x.cells
    go_wp2_with fail
    refine (TX.out _ hb4x).mono ?_
    rintro e w5 ⟨rfl, g⟩
    clear Xxc0 Xxc1 Xxc2
    have hb5 := Nb hb4x (g)
    have A5 := A4x.bt (g)
    have B5 := B4x.bt (g)
    have Xx5 := Xx4x.bt (g)
    clear hb4x A4x B4x Xx4x g
    obtain ⟨Xxc0, Xxc1, Xxc2, _, _, _⟩ := Xx5.cells
    go_wp2_with fail
    refine (VX.out _ hb5).mono ?_
    rintro e w6 ⟨rfl, g⟩
    clear Xxc0 Xxc1 Xxc2
    have hb6 := Nb hb5 (g)
    have A6 := A5.bt (g)
    have B6 := B5.bt (g)
    have Xx6 := Xx5.bt (g)
    clear hb5 A5 B5 Xx5 g
    go_wp2_with fail
    go_ret
    exact ⟨rfl, hb6⟩

set_option maxHeartbeats 1000000 in
theorem texts_bad_err (sa sb : Bool) (na da nb db : ByteArray) (text : ByteArray) (zt : text.size ≤ 9223372036854775807) (zna : na.size ≤ 9223372036854775807) (zda : da.size ≤ 9223372036854775807) (znb : nb.size ≤ 9223372036854775807) (zdb : db.size ≤ 9223372036854775807) (ht : ¬ (620 : Int) < text.size) (ts : ByteArray) (w : World)
    (H : Hid (∀ v, Below w.heap.size w v → Calls Tryz.prog 10 #[] v fun e w' => e = .returned (.bool true) ∧ Below v.heap.size v w'))
    (TA : Hid (∀ v, Below w.heap.size w v → Calls Tryz.prog 30 #[rV (sa, na, da)] v fun e w' => e = .returned (.tuple #[.string ts, .int .i64 0]) ∧ Below v.heap.size v w'))
    (VA : Hid (∀ v, Below w.heap.size w v → Calls Tryz.prog 16 #[rV (sa, na, da)] v fun e w' => e = .returned (.bool true) ∧ Below v.heap.size v w'))
    (PA : Hid (∀ v, Below w.heap.size w v → Calls Tryz.prog 32 #[.string ts] v fun e w' => e = .returned (.tuple #[rV (sa, na, da), .int .i64 0]) ∧ Below v.heap.size v w'))
    (TB : Hid (∀ v, Below w.heap.size w v → Calls Tryz.prog 30 #[rV (sb, nb, db)] v fun e w' => e = .returned (.tuple #[.string ⟨#[]⟩, .int .i64 1]) ∧ Below v.heap.size v w'))
    (PT : Hid (∀ v, Below w.heap.size w v → Calls Tryz.prog 32 #[.string text] v fun e w' => e = .returned (.tuple #[rV (false, ⟨#[]⟩, ⟨#[]⟩), .int .i64 5]) ∧ Below v.heap.size v w')) :
    Calls Tryz.prog 7 #[rV (sa, na, da), rV (sb, nb, db), .string text] w fun e w' => e = .returned (.bool true) ∧ Below w.heap.size w w' := by
  obtain ⟨hb0, A0, B0⟩ := startB w (sa, na, da) (sb, nb, db) _ rfl
  unfold ob at hb0 A0 B0
  unfold rV at TA VA PA TB PT ⊢
  simp only at hb0 A0 B0 TA VA PA TB PT ⊢
  go_enter Tryz.func7, Tryz.ntmps7
  go_wp2_with fail
  refine (H.out _ hb0).mono ?_
  rintro e w1 ⟨rfl, g⟩
  have hb1 := Nb hb0 (g)
  have A1 := A0.bt (g)
  have B1 := B0.bt (g)
  clear hb0 A0 B0 g
  obtain ⟨Ac0, Ac1, Ac2, _, _, _⟩ := A1.cells
  obtain ⟨Bc0, Bc1, Bc2, _, _, _⟩ := B1.cells
  go_wp2_with fail
  have hX : (w1.alloc (.cells #[.bool sa, .string na, .string da, .bool sb, .string nb, .string db] 23)).heap[w1.heap.size]? = some (.cells #[.bool sa, .string na, .string da, .bool sb, .string nb, .string db] 23 (0, 0)) := heap_alloc_new _ _
  have SH := Lib.hid (lshort2 300 (by omega) w1.heap.size na da nb db (w1.alloc (.cells #[.bool sa, .string na, .string da, .bool sb, .string nb, .string db] 23)) (by rw [Lib.cell_of_heap hX]; rfl) (by rw [Lib.cell_of_heap hX]; rfl) (by rw [Lib.cell_of_heap hX]; rfl) (by rw [Lib.cell_of_heap hX]; rfl) zna zda znb zdb)
  rw [show ((300 : Nat) : Int) = 300 from rfl] at SH
  refine SH.out.mono ?_
  rintro e wS ⟨r, rfl, hr, rfl⟩
  clear Ac0 Ac1 Ac2 Bc0 Bc1 Bc2
  clear SH hX
  have hb1s := Nb hb1 (al w1 (.cells #[.bool sa, .string na, .string da, .bool sb, .string nb, .string db] 23))
  have A1s := A1.bt (al w1 (.cells #[.bool sa, .string na, .string da, .bool sb, .string nb, .string db] 23))
  have B1s := B1.bt (al w1 (.cells #[.bool sa, .string na, .string da, .bool sb, .string nb, .string db] 23))
  clear hb1 A1 B1 
  clear hr
  cases r
  · go_wp2_with fail
    go_ret
    exact ⟨rfl, hb1s⟩
  · obtain ⟨Ac0, Ac1, Ac2, _, _, _⟩ := A1s.cells
    go_wp2_with fail
    refine (TA.out _ hb1s).mono ?_
    rintro e w2 ⟨rfl, g⟩
    clear Ac0 Ac1 Ac2
    have hb2 := Nb hb1s (g)
    have A2 := A1s.bt (g)
    have B2 := B1s.bt (g)
    clear hb1s A1s B1s g
    obtain ⟨Ac0, Ac1, Ac2, _, _, _⟩ := A2.cells
    go_wp2_with fail
    refine (VA.out _ hb2).mono ?_
    rintro e w3 ⟨rfl, g⟩
    clear Ac0 Ac1 Ac2
    have hb3 := Nb hb2 (g)
    have A3 := A2.bt (g)
    have B3 := B2.bt (g)
    clear hb2 A2 B2 g
    go_wp2_with fail
    refine (PA.out _ hb3).mono ?_
    rintro e w4 ⟨rfl, g⟩
    have hb4 := Nb hb3 (g)
    have A4 := A3.bt (g)
    have B4 := B3.bt (g)
    clear hb3 A3 B3 g
    have hb4x := Nb hb4 (al w4 (.cells #[.bool sa, .string na, .string da] 23))
    have A4x := A4.bt (al w4 (.cells #[.bool sa, .string na, .string da] 23))
    have B4x := B4.bt (al w4 (.cells #[.bool sa, .string na, .string da] 23))
    clear hb4 A4 B4 
    have Xk4x := At.new w4 sa na da
    obtain ⟨Bc0, Bc1, Bc2, _, _, _⟩ := B4x.cells
    go_wp2_with fail
    refine (TB.out _ hb4x).mono ?_
    rintro e w5 ⟨rfl, g⟩
    clear Bc0 Bc1 Bc2
    have hb5 := Nb hb4x (g)
    have A5 := A4x.bt (g)
    have B5 := B4x.bt (g)
    have Xk5 := Xk4x.bt (g)
    clear hb4x A4x B4x Xk4x g
    obtain ⟨Ac0, Ac1, Ac2, _, _, _⟩ := A5.cells
    obtain ⟨Bc0, Bc1, Bc2, _, _, _⟩ := B5.cells
    obtain ⟨Xkc0, Xkc1, Xkc2, _, _, _⟩ := Xk5.cells
    go_wp2_with fail
    refine (PT.out _ hb5).mono ?_
    rintro e w6 ⟨rfl, g⟩
    clear Ac0 Ac1 Ac2 Bc0 Bc1 Bc2 Xkc0 Xkc1 Xkc2
    have hb6 := Nb hb5 (g)
    have A6 := A5.bt (g)
    have B6 := B5.bt (g)
    have Xk6 := Xk5.bt (g)
    clear hb5 A5 B5 Xk5 g
    have hb6x := Nb hb6 (al w6 (.cells #[.bool false, .string ⟨#[]⟩, .string ⟨#[]⟩] 23))
    have A6x := A6.bt (al w6 (.cells #[.bool false, .string ⟨#[]⟩, .string ⟨#[]⟩] 23))
    have B6x := B6.bt (al w6 (.cells #[.bool false, .string ⟨#[]⟩, .string ⟨#[]⟩] 23))
    have Xk6x := Xk6.bt (al w6 (.cells #[.bool false, .string ⟨#[]⟩, .string ⟨#[]⟩] 23))
    clear hb6 A6 B6 Xk6 
    go_wp2_with fail
    go_ret
    exact ⟨rfl, hb6x⟩

set_option maxHeartbeats 1000000 in
theorem texts_bad_ok (sa sb sx : Bool) (na da nb db nx dx : ByteArray) (text : ByteArray) (zt : text.size ≤ 9223372036854775807) (zna : na.size ≤ 9223372036854775807) (zda : da.size ≤ 9223372036854775807) (znb : nb.size ≤ 9223372036854775807) (zdb : db.size ≤ 9223372036854775807) (ht : ¬ (620 : Int) < text.size) (ts : ByteArray) (w : World)
    (H : Hid (∀ v, Below w.heap.size w v → Calls Tryz.prog 10 #[] v fun e w' => e = .returned (.bool true) ∧ Below v.heap.size v w'))
    (TA : Hid (∀ v, Below w.heap.size w v → Calls Tryz.prog 30 #[rV (sa, na, da)] v fun e w' => e = .returned (.tuple #[.string ts, .int .i64 0]) ∧ Below v.heap.size v w'))
    (VA : Hid (∀ v, Below w.heap.size w v → Calls Tryz.prog 16 #[rV (sa, na, da)] v fun e w' => e = .returned (.bool true) ∧ Below v.heap.size v w'))
    (PA : Hid (∀ v, Below w.heap.size w v → Calls Tryz.prog 32 #[.string ts] v fun e w' => e = .returned (.tuple #[rV (sa, na, da), .int .i64 0]) ∧ Below v.heap.size v w'))
    (TB : Hid (∀ v, Below w.heap.size w v → Calls Tryz.prog 30 #[rV (sb, nb, db)] v fun e w' => e = .returned (.tuple #[.string ⟨#[]⟩, .int .i64 1]) ∧ Below v.heap.size v w'))
    (PT : Hid (∀ v, Below w.heap.size w v → Calls Tryz.prog 32 #[.string text] v fun e w' => e = .returned (.tuple #[rV (sx, nx, dx), .int .i64 0]) ∧ Below v.heap.size v w'))
    (TX : Hid (∀ v, Below w.heap.size w v → Calls Tryz.prog 30 #[rV (sx, nx, dx)] v fun e w' => e = .returned (.tuple #[.string text, .int .i64 0]) ∧ Below v.heap.size v w'))
    (VX : Hid (∀ v, Below w.heap.size w v → Calls Tryz.prog 16 #[rV (sx, nx, dx)] v fun e w' => e = .returned (.bool true) ∧ Below v.heap.size v w')) :
    Calls Tryz.prog 7 #[rV (sa, na, da), rV (sb, nb, db), .string text] w fun e w' => e = .returned (.bool true) ∧ Below w.heap.size w w' := by
  obtain ⟨hb0, A0, B0⟩ := startB w (sa, na, da) (sb, nb, db) _ rfl
  unfold ob at hb0 A0 B0
  unfold rV at TA VA PA TB PT TX VX ⊢
  simp only at hb0 A0 B0 TA VA PA TB PT TX VX ⊢
  go_enter Tryz.func7, Tryz.ntmps7
  go_wp2_with fail
  refine (H.out _ hb0).mono ?_
  rintro e w1 ⟨rfl, g⟩
  have hb1 := Nb hb0 (g)
  have A1 := A0.bt (g)
  have B1 := B0.bt (g)
  clear hb0 A0 B0 g
  obtain ⟨Ac0, Ac1, Ac2, _, _, _⟩ := A1.cells
  obtain ⟨Bc0, Bc1, Bc2, _, _, _⟩ := B1.cells
  go_wp2_with fail
  have hX : (w1.alloc (.cells #[.bool sa, .string na, .string da, .bool sb, .string nb, .string db] 23)).heap[w1.heap.size]? = some (.cells #[.bool sa, .string na, .string da, .bool sb, .string nb, .string db] 23 (0, 0)) := heap_alloc_new _ _
  have SH := Lib.hid (lshort2 300 (by omega) w1.heap.size na da nb db (w1.alloc (.cells #[.bool sa, .string na, .string da, .bool sb, .string nb, .string db] 23)) (by rw [Lib.cell_of_heap hX]; rfl) (by rw [Lib.cell_of_heap hX]; rfl) (by rw [Lib.cell_of_heap hX]; rfl) (by rw [Lib.cell_of_heap hX]; rfl) zna zda znb zdb)
  rw [show ((300 : Nat) : Int) = 300 from rfl] at SH
  refine SH.out.mono ?_
  rintro e wS ⟨r, rfl, hr, rfl⟩
  clear Ac0 Ac1 Ac2 Bc0 Bc1 Bc2
  clear SH hX
  have hb1s := Nb hb1 (al w1 (.cells #[.bool sa, .string na, .string da, .bool sb, .string nb, .string db] 23))
  have A1s := A1.bt (al w1 (.cells #[.bool sa, .string na, .string da, .bool sb, .string nb, .string db] 23))
  have B1s := B1.bt (al w1 (.cells #[.bool sa, .string na, .string da, .bool sb, .string nb, .string db] 23))
  clear hb1 A1 B1 
  clear hr
  cases r
  · go_wp2_with fail
    go_ret
    exact ⟨rfl, hb1s⟩
  · obtain ⟨Ac0, Ac1, Ac2, _, _, _⟩ := A1s.cells
    go_wp2_with fail
    refine (TA.out _ hb1s).mono ?_
    rintro e w2 ⟨rfl, g⟩
    clear Ac0 Ac1 Ac2
    have hb2 := Nb hb1s (g)
    have A2 := A1s.bt (g)
    have B2 := B1s.bt (g)
    clear hb1s A1s B1s g
    obtain ⟨Ac0, Ac1, Ac2, _, _, _⟩ := A2.cells
    go_wp2_with fail
    refine (VA.out _ hb2).mono ?_
    rintro e w3 ⟨rfl, g⟩
    clear Ac0 Ac1 Ac2
    have hb3 := Nb hb2 (g)
    have A3 := A2.bt (g)
    have B3 := B2.bt (g)
    clear hb2 A2 B2 g
    go_wp2_with fail
    refine (PA.out _ hb3).mono ?_
    rintro e w4 ⟨rfl, g⟩
    have hb4 := Nb hb3 (g)
    have A4 := A3.bt (g)
    have B4 := B3.bt (g)
    clear hb3 A3 B3 g
    have hb4x := Nb hb4 (al w4 (.cells #[.bool sa, .string na, .string da] 23))
    have A4x := A4.bt (al w4 (.cells #[.bool sa, .string na, .string da] 23))
    have B4x := B4.bt (al w4 (.cells #[.bool sa, .string na, .string da] 23))
    clear hb4 A4 B4 
    have Xk4x := At.new w4 sa na da
    obtain ⟨Bc0, Bc1, Bc2, _, _, _⟩ := B4x.cells
    go_wp2_with fail
    refine (TB.out _ hb4x).mono ?_
    rintro e w5 ⟨rfl, g⟩
    clear Bc0 Bc1 Bc2
    have hb5 := Nb hb4x (g)
    have A5 := A4x.bt (g)
    have B5 := B4x.bt (g)
    have Xk5 := Xk4x.bt (g)
    clear hb4x A4x B4x Xk4x g
    obtain ⟨Ac0, Ac1, Ac2, _, _, _⟩ := A5.cells
    obtain ⟨Bc0, Bc1, Bc2, _, _, _⟩ := B5.cells
    obtain ⟨Xkc0, Xkc1, Xkc2, _, _, _⟩ := Xk5.cells
    go_wp2_with fail
    refine (PT.out _ hb5).mono ?_
    rintro e w6 ⟨rfl, g⟩
    clear Ac0 Ac1 Ac2 Bc0 Bc1 Bc2 Xkc0 Xkc1 Xkc2
    have hb6 := Nb hb5 (g)
    have A6 := A5.bt (g)
    have B6 := B5.bt (g)
    have Xk6 := Xk5.bt (g)
    clear hb5 A5 B5 Xk5 g
    have hb6x := Nb hb6 (al w6 (.cells #[.bool sx, .string nx, .string dx] 23))
    have A6x := A6.bt (al w6 (.cells #[.bool sx, .string nx, .string dx] 23))
    have B6x := B6.bt (al w6 (.cells #[.bool sx, .string nx, .string dx] 23))
    have Xk6x := Xk6.bt (al w6 (.cells #[.bool sx, .string nx, .string dx] 23))
    clear hb6 A6 B6 Xk6 
    have Xx6x := At.new w6 sx nx dx
    obtain ⟨Xxc0, Xxc1, Xxc2, _, _, _⟩ := Xx6x.cells
    go_wp2_with fail
    refine (TX.out _ hb6x).mono ?_
    rintro e w7 ⟨rfl, g⟩
    clear Xxc0 Xxc1 Xxc2
    have hb7 := Nb hb6x (g)
    have A7 := A6x.bt (g)
    have B7 := B6x.bt (g)
    have Xk7 := Xk6x.bt (g)
    have Xx7 := Xx6x.bt (g)
    clear hb6x A6x B6x Xk6x Xx6x g
    obtain ⟨Xxc0, Xxc1, Xxc2, _, _, _⟩ := Xx7.cells
    go_wp2_with fail
    refine (VX.out _ hb7).mono ?_
    rintro e w8 ⟨rfl, g⟩
    clear Xxc0 Xxc1 Xxc2
    have hb8 := Nb hb7 (g)
    have A8 := A7.bt (g)
    have B8 := B7.bt (g)
    have Xk8 := Xk7.bt (g)
    have Xx8 := Xx7.bt (g)
    clear hb7 A7 B7 Xk7 Xx7 g
    go_wp2_with fail
    go_ret
    exact ⟨rfl, hb8⟩

set_option maxHeartbeats 1000000 in
theorem texts_ne_err (sa sb : Bool) (na da nb db : ByteArray) (text : ByteArray) (zt : text.size ≤ 9223372036854775807) (zna : na.size ≤ 9223372036854775807) (zda : da.size ≤ 9223372036854775807) (znb : nb.size ≤ 9223372036854775807) (zdb : db.size ≤ 9223372036854775807) (ht : ¬ (620 : Int) < text.size) (ts : ByteArray) (tb : ByteArray) (hne : (ts.toList == tb.toList) = false) (w : World)
    (H : Hid (∀ v, Below w.heap.size w v → Calls Tryz.prog 10 #[] v fun e w' => e = .returned (.bool true) ∧ Below v.heap.size v w'))
    (TA : Hid (∀ v, Below w.heap.size w v → Calls Tryz.prog 30 #[rV (sa, na, da)] v fun e w' => e = .returned (.tuple #[.string ts, .int .i64 0]) ∧ Below v.heap.size v w'))
    (VA : Hid (∀ v, Below w.heap.size w v → Calls Tryz.prog 16 #[rV (sa, na, da)] v fun e w' => e = .returned (.bool true) ∧ Below v.heap.size v w'))
    (PA : Hid (∀ v, Below w.heap.size w v → Calls Tryz.prog 32 #[.string ts] v fun e w' => e = .returned (.tuple #[rV (sa, na, da), .int .i64 0]) ∧ Below v.heap.size v w'))
    (TB : Hid (∀ v, Below w.heap.size w v → Calls Tryz.prog 30 #[rV (sb, nb, db)] v fun e w' => e = .returned (.tuple #[.string tb, .int .i64 0]) ∧ Below v.heap.size v w'))
    (PT : Hid (∀ v, Below w.heap.size w v → Calls Tryz.prog 32 #[.string text] v fun e w' => e = .returned (.tuple #[rV (false, ⟨#[]⟩, ⟨#[]⟩), .int .i64 5]) ∧ Below v.heap.size v w')) :
    Calls Tryz.prog 7 #[rV (sa, na, da), rV (sb, nb, db), .string text] w fun e w' => e = .returned (.bool true) ∧ Below w.heap.size w w' := by
  obtain ⟨hb0, A0, B0⟩ := startB w (sa, na, da) (sb, nb, db) _ rfl
  unfold ob at hb0 A0 B0
  unfold rV at TA VA PA TB PT ⊢
  simp only at hb0 A0 B0 TA VA PA TB PT ⊢
  go_enter Tryz.func7, Tryz.ntmps7
  go_wp2_with fail
  refine (H.out _ hb0).mono ?_
  rintro e w1 ⟨rfl, g⟩
  have hb1 := Nb hb0 (g)
  have A1 := A0.bt (g)
  have B1 := B0.bt (g)
  clear hb0 A0 B0 g
  obtain ⟨Ac0, Ac1, Ac2, _, _, _⟩ := A1.cells
  obtain ⟨Bc0, Bc1, Bc2, _, _, _⟩ := B1.cells
  go_wp2_with fail
  have hX : (w1.alloc (.cells #[.bool sa, .string na, .string da, .bool sb, .string nb, .string db] 23)).heap[w1.heap.size]? = some (.cells #[.bool sa, .string na, .string da, .bool sb, .string nb, .string db] 23 (0, 0)) := heap_alloc_new _ _
  have SH := Lib.hid (lshort2 300 (by omega) w1.heap.size na da nb db (w1.alloc (.cells #[.bool sa, .string na, .string da, .bool sb, .string nb, .string db] 23)) (by rw [Lib.cell_of_heap hX]; rfl) (by rw [Lib.cell_of_heap hX]; rfl) (by rw [Lib.cell_of_heap hX]; rfl) (by rw [Lib.cell_of_heap hX]; rfl) zna zda znb zdb)
  rw [show ((300 : Nat) : Int) = 300 from rfl] at SH
  refine SH.out.mono ?_
  rintro e wS ⟨r, rfl, hr, rfl⟩
  clear Ac0 Ac1 Ac2 Bc0 Bc1 Bc2
  clear SH hX
  have hb1s := Nb hb1 (al w1 (.cells #[.bool sa, .string na, .string da, .bool sb, .string nb, .string db] 23))
  have A1s := A1.bt (al w1 (.cells #[.bool sa, .string na, .string da, .bool sb, .string nb, .string db] 23))
  have B1s := B1.bt (al w1 (.cells #[.bool sa, .string na, .string da, .bool sb, .string nb, .string db] 23))
  clear hb1 A1 B1 
  clear hr
  cases r
  · go_wp2_with fail
    go_ret
    exact ⟨rfl, hb1s⟩
  · obtain ⟨Ac0, Ac1, Ac2, _, _, _⟩ := A1s.cells
    go_wp2_with fail
    refine (TA.out _ hb1s).mono ?_
    rintro e w2 ⟨rfl, g⟩
    clear Ac0 Ac1 Ac2
    have hb2 := Nb hb1s (g)
    have A2 := A1s.bt (g)
    have B2 := B1s.bt (g)
    clear hb1s A1s B1s g
    obtain ⟨Ac0, Ac1, Ac2, _, _, _⟩ := A2.cells
    go_wp2_with fail
    refine (VA.out _ hb2).mono ?_
    rintro e w3 ⟨rfl, g⟩
    clear Ac0 Ac1 Ac2
    have hb3 := Nb hb2 (g)
    have A3 := A2.bt (g)
    have B3 := B2.bt (g)
    clear hb2 A2 B2 g
    go_wp2_with fail
    refine (PA.out _ hb3).mono ?_
    rintro e w4 ⟨rfl, g⟩
    have hb4 := Nb hb3 (g)
    have A4 := A3.bt (g)
    have B4 := B3.bt (g)
    clear hb3 A3 B3 g
    have hb4x := Nb hb4 (al w4 (.cells #[.bool sa, .string na, .string da] 23))
    have A4x := A4.bt (al w4 (.cells #[.bool sa, .string na, .string da] 23))
    have B4x := B4.bt (al w4 (.cells #[.bool sa, .string na, .string da] 23))
    clear hb4 A4 B4 
    have Xk4x := At.new w4 sa na da
    obtain ⟨Bc0, Bc1, Bc2, _, _, _⟩ := B4x.cells
    go_wp2_with fail
    refine (TB.out _ hb4x).mono ?_
    rintro e w5 ⟨rfl, g⟩
    clear Bc0 Bc1 Bc2
    have hb5 := Nb hb4x (g)
    have A5 := A4x.bt (g)
    have B5 := B4x.bt (g)
    have Xk5 := Xk4x.bt (g)
    clear hb4x A4x B4x Xk4x g
    obtain ⟨Ac0, Ac1, Ac2, _, _, _⟩ := A5.cells
    obtain ⟨Bc0, Bc1, Bc2, _, _, _⟩ := B5.cells
    obtain ⟨Xkc0, Xkc1, Xkc2, _, _, _⟩ := Xk5.cells
    go_wp2_with fail
    refine (PT.out _ hb5).mono ?_
    rintro e w6 ⟨rfl, g⟩
    clear Ac0 Ac1 Ac2 Bc0 Bc1 Bc2 Xkc0 Xkc1 Xkc2
    have hb6 := Nb hb5 (g)
    have A6 := A5.bt (g)
    have B6 := B5.bt (g)
    have Xk6 := Xk5.bt (g)
    clear hb5 A5 B5 Xk5 g
    have hb6x := Nb hb6 (al w6 (.cells #[.bool false, .string ⟨#[]⟩, .string ⟨#[]⟩] 23))
    have A6x := A6.bt (al w6 (.cells #[.bool false, .string ⟨#[]⟩, .string ⟨#[]⟩] 23))
    have B6x := B6.bt (al w6 (.cells #[.bool false, .string ⟨#[]⟩, .string ⟨#[]⟩] 23))
    have Xk6x := Xk6.bt (al w6 (.cells #[.bool false, .string ⟨#[]⟩, .string ⟨#[]⟩] 23))
    clear hb6 A6 B6 Xk6 
    go_wp2_with fail
    go_ret
    exact ⟨rfl, hb6x⟩

set_option maxHeartbeats 1000000 in
theorem texts_ne_ok (sa sb sx : Bool) (na da nb db nx dx : ByteArray) (text : ByteArray) (zt : text.size ≤ 9223372036854775807) (zna : na.size ≤ 9223372036854775807) (zda : da.size ≤ 9223372036854775807) (znb : nb.size ≤ 9223372036854775807) (zdb : db.size ≤ 9223372036854775807) (ht : ¬ (620 : Int) < text.size) (ts : ByteArray) (tb : ByteArray) (hne : (ts.toList == tb.toList) = false) (w : World)
    (H : Hid (∀ v, Below w.heap.size w v → Calls Tryz.prog 10 #[] v fun e w' => e = .returned (.bool true) ∧ Below v.heap.size v w'))
    (TA : Hid (∀ v, Below w.heap.size w v → Calls Tryz.prog 30 #[rV (sa, na, da)] v fun e w' => e = .returned (.tuple #[.string ts, .int .i64 0]) ∧ Below v.heap.size v w'))
    (VA : Hid (∀ v, Below w.heap.size w v → Calls Tryz.prog 16 #[rV (sa, na, da)] v fun e w' => e = .returned (.bool true) ∧ Below v.heap.size v w'))
    (PA : Hid (∀ v, Below w.heap.size w v → Calls Tryz.prog 32 #[.string ts] v fun e w' => e = .returned (.tuple #[rV (sa, na, da), .int .i64 0]) ∧ Below v.heap.size v w'))
    (TB : Hid (∀ v, Below w.heap.size w v → Calls Tryz.prog 30 #[rV (sb, nb, db)] v fun e w' => e = .returned (.tuple #[.string tb, .int .i64 0]) ∧ Below v.heap.size v w'))
    (PT : Hid (∀ v, Below w.heap.size w v → Calls Tryz.prog 32 #[.string text] v fun e w' => e = .returned (.tuple #[rV (sx, nx, dx), .int .i64 0]) ∧ Below v.heap.size v w'))
    (TX : Hid (∀ v, Below w.heap.size w v → Calls Tryz.prog 30 #[rV (sx, nx, dx)] v fun e w' => e = .returned (.tuple #[.string text, .int .i64 0]) ∧ Below v.heap.size v w'))
    (VX : Hid (∀ v, Below w.heap.size w v → Calls Tryz.prog 16 #[rV (sx, nx, dx)] v fun e w' => e = .returned (.bool true) ∧ Below v.heap.size v w')) :
    Calls Tryz.prog 7 #[rV (sa, na, da), rV (sb, nb, db), .string text] w fun e w' => e = .returned (.bool true) ∧ Below w.heap.size w w' := by
  obtain ⟨hb0, A0, B0⟩ := startB w (sa, na, da) (sb, nb, db) _ rfl
  unfold ob at hb0 A0 B0
  unfold rV at TA VA PA TB PT TX VX ⊢
  simp only at hb0 A0 B0 TA VA PA TB PT TX VX ⊢
  go_enter Tryz.func7, Tryz.ntmps7
  go_wp2_with fail
  refine (H.out _ hb0).mono ?_
  rintro e w1 ⟨rfl, g⟩
  have hb1 := Nb hb0 (g)
  have A1 := A0.bt (g)
  have B1 := B0.bt (g)
  clear hb0 A0 B0 g
  obtain ⟨Ac0, Ac1, Ac2, _, _, _⟩ := A1.cells
  obtain ⟨Bc0, Bc1, Bc2, _, _, _⟩ := B1.cells
  go_wp2_with fail
  have hX : (w1.alloc (.cells #[.bool sa, .string na, .string da, .bool sb, .string nb, .string db] 23)).heap[w1.heap.size]? = some (.cells #[.bool sa, .string na, .string da, .bool sb, .string nb, .string db] 23 (0, 0)) := heap_alloc_new _ _
  have SH := Lib.hid (lshort2 300 (by omega) w1.heap.size na da nb db (w1.alloc (.cells #[.bool sa, .string na, .string da, .bool sb, .string nb, .string db] 23)) (by rw [Lib.cell_of_heap hX]; rfl) (by rw [Lib.cell_of_heap hX]; rfl) (by rw [Lib.cell_of_heap hX]; rfl) (by rw [Lib.cell_of_heap hX]; rfl) zna zda znb zdb)
  rw [show ((300 : Nat) : Int) = 300 from rfl] at SH
  refine SH.out.mono ?_
  rintro e wS ⟨r, rfl, hr, rfl⟩
  clear Ac0 Ac1 Ac2 Bc0 Bc1 Bc2
  clear SH hX
  have hb1s := Nb hb1 (al w1 (.cells #[.bool sa, .string na, .string da, .bool sb, .string nb, .string db] 23))
  have A1s := A1.bt (al w1 (.cells #[.bool sa, .string na, .string da, .bool sb, .string nb, .string db] 23))
  have B1s := B1.bt (al w1 (.cells #[.bool sa, .string na, .string da, .bool sb, .string nb, .string db] 23))
  clear hb1 A1 B1 
  clear hr
  cases r
  · go_wp2_with fail
    go_ret
    exact ⟨rfl, hb1s⟩
  · obtain ⟨Ac0, Ac1, Ac2, _, _, _⟩ := A1s.cells
    go_wp2_with fail
    refine (TA.out _ hb1s).mono ?_
    rintro e w2 ⟨rfl, g⟩
    clear Ac0 Ac1 Ac2
    have hb2 := Nb hb1s (g)
    have A2 := A1s.bt (g)
    have B2 := B1s.bt (g)
    clear hb1s A1s B1s g
    obtain ⟨Ac0, Ac1, Ac2, _, _, _⟩ := A2.cells
    go_wp2_with fail
    refine (VA.out _ hb2).mono ?_
    rintro e w3 ⟨rfl, g⟩
    clear Ac0 Ac1 Ac2
    have hb3 := Nb hb2 (g)
    have A3 := A2.bt (g)
    have B3 := B2.bt (g)
    clear hb2 A2 B2 g
    go_wp2_with fail
    refine (PA.out _ hb3).mono ?_
    rintro e w4 ⟨rfl, g⟩
    have hb4 := Nb hb3 (g)
    have A4 := A3.bt (g)
    have B4 := B3.bt (g)
    clear hb3 A3 B3 g
    have hb4x := Nb hb4 (al w4 (.cells #[.bool sa, .string na, .string da] 23))
    have A4x := A4.bt (al w4 (.cells #[.bool sa, .string na, .string da] 23))
    have B4x := B4.bt (al w4 (.cells #[.bool sa, .string na, .string da] 23))
    clear hb4 A4 B4 
    have Xk4x := At.new w4 sa na da
    obtain ⟨Bc0, Bc1, Bc2, _, _, _⟩ := B4x.cells
    go_wp2_with fail
    refine (TB.out _ hb4x).mono ?_
    rintro e w5 ⟨rfl, g⟩
    clear Bc0 Bc1 Bc2
    have hb5 := Nb hb4x (g)
    have A5 := A4x.bt (g)
    have B5 := B4x.bt (g)
    have Xk5 := Xk4x.bt (g)
    clear hb4x A4x B4x Xk4x g
    obtain ⟨Ac0, Ac1, Ac2, _, _, _⟩ := A5.cells
    obtain ⟨Bc0, Bc1, Bc2, _, _, _⟩ := B5.cells
    obtain ⟨Xkc0, Xkc1, Xkc2, _, _, _⟩ := Xk5.cells
    go_wp2_with fail
    refine (PT.out _ hb5).mono ?_
    rintro e w6 ⟨rfl, g⟩
    clear Ac0 Ac1 Ac2 Bc0 Bc1 Bc2 Xkc0 Xkc1 Xkc2
    have hb6 := Nb hb5 (g)
    have A6 := A5.bt (g)
    have B6 := B5.bt (g)
    have Xk6 := Xk5.bt (g)
    clear hb5 A5 B5 Xk5 g
    have hb6x := Nb hb6 (al w6 (.cells #[.bool sx, .string nx, .string dx] 23))
    have A6x := A6.bt (al w6 (.cells #[.bool sx, .string nx, .string dx] 23))
    have B6x := B6.bt (al w6 (.cells #[.bool sx, .string nx, .string dx] 23))
    have Xk6x := Xk6.bt (al w6 (.cells #[.bool sx, .string nx, .string dx] 23))
    clear hb6 A6 B6 Xk6 
    have Xx6x := At.new w6 sx nx dx
    obtain ⟨Xxc0, Xxc1, Xxc2, _, _, _⟩ := Xx6x.cells
    go_wp2_with fail
    refine (TX.out _ hb6x).mono ?_
    rintro e w7 ⟨rfl, g⟩
    clear Xxc0 Xxc1 Xxc2
    have hb7 := Nb hb6x (g)
    have A7 := A6x.bt (g)
    have B7 := B6x.bt (g)
    have Xk7 := Xk6x.bt (g)
    have Xx7 := Xx6x.bt (g)
    clear hb6x A6x B6x Xk6x Xx6x g
    obtain ⟨Xxc0, Xxc1, Xxc2, _, _, _⟩ := Xx7.cells
    go_wp2_with fail
    refine (VX.out _ hb7).mono ?_
    rintro e w8 ⟨rfl, g⟩
    clear Xxc0 Xxc1 Xxc2
    have hb8 := Nb hb7 (g)
    have A8 := A7.bt (g)
    have B8 := B7.bt (g)
    have Xk8 := Xk7.bt (g)
    have Xx8 := Xx7.bt (g)
    clear hb7 A7 B7 Xk7 Xx7 g
    go_wp2_with fail
    go_ret
    exact ⟨rfl, hb8⟩

set_option maxHeartbeats 1000000 in
theorem texts_eq_err (sa : Bool) (na da : ByteArray) (text : ByteArray) (zt : text.size ≤ 9223372036854775807) (zna : na.size ≤ 9223372036854775807) (zda : da.size ≤ 9223372036854775807) (ht : ¬ (620 : Int) < text.size) (ts : ByteArray) (w : World)
    (H : Hid (∀ v, Below w.heap.size w v → Calls Tryz.prog 10 #[] v fun e w' => e = .returned (.bool true) ∧ Below v.heap.size v w'))
    (TA : Hid (∀ v, Below w.heap.size w v → Calls Tryz.prog 30 #[rV (sa, na, da)] v fun e w' => e = .returned (.tuple #[.string ts, .int .i64 0]) ∧ Below v.heap.size v w'))
    (VA : Hid (∀ v, Below w.heap.size w v → Calls Tryz.prog 16 #[rV (sa, na, da)] v fun e w' => e = .returned (.bool true) ∧ Below v.heap.size v w'))
    (PA : Hid (∀ v, Below w.heap.size w v → Calls Tryz.prog 32 #[.string ts] v fun e w' => e = .returned (.tuple #[rV (sa, na, da), .int .i64 0]) ∧ Below v.heap.size v w'))
    (PT : Hid (∀ v, Below w.heap.size w v → Calls Tryz.prog 32 #[.string text] v fun e w' => e = .returned (.tuple #[rV (false, ⟨#[]⟩, ⟨#[]⟩), .int .i64 5]) ∧ Below v.heap.size v w')) :
    Calls Tryz.prog 7 #[rV (sa, na, da), rV (sa, na, da), .string text] w fun e w' => e = .returned (.bool true) ∧ Below w.heap.size w w' := by
  obtain ⟨hb0, A0, B0⟩ := startB w (sa, na, da) (sa, na, da) _ rfl
  unfold ob at hb0 A0 B0
  unfold rV at TA VA PA PT ⊢
  simp only at hb0 A0 B0 TA VA PA PT ⊢
  go_enter Tryz.func7, Tryz.ntmps7
  go_wp2_with fail
  refine (H.out _ hb0).mono ?_
  rintro e w1 ⟨rfl, g⟩
  have hb1 := Nb hb0 (g)
  have A1 := A0.bt (g)
  have B1 := B0.bt (g)
  clear hb0 A0 B0 g
  obtain ⟨Ac0, Ac1, Ac2, _, _, _⟩ := A1.cells
  obtain ⟨Bc0, Bc1, Bc2, _, _, _⟩ := B1.cells
  go_wp2_with fail
  have hX : (w1.alloc (.cells #[.bool sa, .string na, .string da, .bool sa, .string na, .string da] 23)).heap[w1.heap.size]? = some (.cells #[.bool sa, .string na, .string da, .bool sa, .string na, .string da] 23 (0, 0)) := heap_alloc_new _ _
  have SH := Lib.hid (lshort2 300 (by omega) w1.heap.size na da na da (w1.alloc (.cells #[.bool sa, .string na, .string da, .bool sa, .string na, .string da] 23)) (by rw [Lib.cell_of_heap hX]; rfl) (by rw [Lib.cell_of_heap hX]; rfl) (by rw [Lib.cell_of_heap hX]; rfl) (by rw [Lib.cell_of_heap hX]; rfl) zna zda zna zda)
  rw [show ((300 : Nat) : Int) = 300 from rfl] at SH
  refine SH.out.mono ?_
  rintro e wS ⟨r, rfl, hr, rfl⟩
  clear Ac0 Ac1 Ac2 Bc0 Bc1 Bc2
  clear SH hX
  have hb1s := Nb hb1 (al w1 (.cells #[.bool sa, .string na, .string da, .bool sa, .string na, .string da] 23))
  have A1s := A1.bt (al w1 (.cells #[.bool sa, .string na, .string da, .bool sa, .string na, .string da] 23))
  have B1s := B1.bt (al w1 (.cells #[.bool sa, .string na, .string da, .bool sa, .string na, .string da] 23))
  clear hb1 A1 B1 
  clear hr
  cases r
  · go_wp2_with fail
    go_ret
    exact ⟨rfl, hb1s⟩
  · obtain ⟨Ac0, Ac1, Ac2, _, _, _⟩ := A1s.cells
    go_wp2_with fail
    refine (TA.out _ hb1s).mono ?_
    rintro e w2 ⟨rfl, g⟩
    clear Ac0 Ac1 Ac2
    have hb2 := Nb hb1s (g)
    have A2 := A1s.bt (g)
    have B2 := B1s.bt (g)
    clear hb1s A1s B1s g
    obtain ⟨Ac0, Ac1, Ac2, _, _, _⟩ := A2.cells
    go_wp2_with fail
    refine (VA.out _ hb2).mono ?_
    rintro e w3 ⟨rfl, g⟩
    clear Ac0 Ac1 Ac2
    have hb3 := Nb hb2 (g)
    have A3 := A2.bt (g)
    have B3 := B2.bt (g)
    clear hb2 A2 B2 g
    go_wp2_with fail
    refine (PA.out _ hb3).mono ?_
    rintro e w4 ⟨rfl, g⟩
    have hb4 := Nb hb3 (g)
    have A4 := A3.bt (g)
    have B4 := B3.bt (g)
    clear hb3 A3 B3 g
    have hb4x := Nb hb4 (al w4 (.cells #[.bool sa, .string na, .string da] 23))
    have A4x := A4.bt (al w4 (.cells #[.bool sa, .string na, .string da] 23))
    have B4x := B4.bt (al w4 (.cells #[.bool sa, .string na, .string da] 23))
    clear hb4 A4 B4 
    have Xk4x := At.new w4 sa na da
    obtain ⟨Bc0, Bc1, Bc2, _, _, _⟩ := B4x.cells
    go_wp2_with fail
    refine (TA.out _ hb4x).mono ?_
    rintro e w5 ⟨rfl, g⟩
    clear Bc0 Bc1 Bc2
    have hb5 := Nb hb4x (g)
    have A5 := A4x.bt (g)
    have B5 := B4x.bt (g)
    have Xk5 := Xk4x.bt (g)
    clear hb4x A4x B4x Xk4x g
    obtain ⟨Ac0, Ac1, Ac2, _, _, _⟩ := A5.cells
    obtain ⟨Bc0, Bc1, Bc2, _, _, _⟩ := B5.cells
    obtain ⟨Xkc0, Xkc1, Xkc2, _, _, _⟩ := Xk5.cells
    go_wp2_with fail
    refine (PT.out _ hb5).mono ?_
    rintro e w6 ⟨rfl, g⟩
    clear Ac0 Ac1 Ac2 Bc0 Bc1 Bc2 Xkc0 Xkc1 Xkc2
    have hb6 := Nb hb5 (g)
    have A6 := A5.bt (g)
    have B6 := B5.bt (g)
    have Xk6 := Xk5.bt (g)
    clear hb5 A5 B5 Xk5 g
    have hb6x := Nb hb6 (al w6 (.cells #[.bool false, .string ⟨#[]⟩, .string ⟨#[]⟩] 23))
    have A6x := A6.bt (al w6 (.cells #[.bool false, .string ⟨#[]⟩, .string ⟨#[]⟩] 23))
    have B6x := B6.bt (al w6 (.cells #[.bool false, .string ⟨#[]⟩, .string ⟨#[]⟩] 23))
    have Xk6x := Xk6.bt (al w6 (.cells #[.bool false, .string ⟨#[]⟩, .string ⟨#[]⟩] 23))
    clear hb6 A6 B6 Xk6 
    go_wp2_with fail
    go_ret
    exact ⟨rfl, hb6x⟩

set_option maxHeartbeats 1000000 in
theorem texts_eq_ok (sa sx : Bool) (na da nx dx : ByteArray) (text : ByteArray) (zt : text.size ≤ 9223372036854775807) (zna : na.size ≤ 9223372036854775807) (zda : da.size ≤ 9223372036854775807) (ht : ¬ (620 : Int) < text.size) (ts : ByteArray) (w : World)
    (H : Hid (∀ v, Below w.heap.size w v → Calls Tryz.prog 10 #[] v fun e w' => e = .returned (.bool true) ∧ Below v.heap.size v w'))
    (TA : Hid (∀ v, Below w.heap.size w v → Calls Tryz.prog 30 #[rV (sa, na, da)] v fun e w' => e = .returned (.tuple #[.string ts, .int .i64 0]) ∧ Below v.heap.size v w'))
    (VA : Hid (∀ v, Below w.heap.size w v → Calls Tryz.prog 16 #[rV (sa, na, da)] v fun e w' => e = .returned (.bool true) ∧ Below v.heap.size v w'))
    (PA : Hid (∀ v, Below w.heap.size w v → Calls Tryz.prog 32 #[.string ts] v fun e w' => e = .returned (.tuple #[rV (sa, na, da), .int .i64 0]) ∧ Below v.heap.size v w'))
    (PT : Hid (∀ v, Below w.heap.size w v → Calls Tryz.prog 32 #[.string text] v fun e w' => e = .returned (.tuple #[rV (sx, nx, dx), .int .i64 0]) ∧ Below v.heap.size v w'))
    (TX : Hid (∀ v, Below w.heap.size w v → Calls Tryz.prog 30 #[rV (sx, nx, dx)] v fun e w' => e = .returned (.tuple #[.string text, .int .i64 0]) ∧ Below v.heap.size v w'))
    (VX : Hid (∀ v, Below w.heap.size w v → Calls Tryz.prog 16 #[rV (sx, nx, dx)] v fun e w' => e = .returned (.bool true) ∧ Below v.heap.size v w')) :
    Calls Tryz.prog 7 #[rV (sa, na, da), rV (sa, na, da), .string text] w fun e w' => e = .returned (.bool true) ∧ Below w.heap.size w w' := by
  obtain ⟨hb0, A0, B0⟩ := startB w (sa, na, da) (sa, na, da) _ rfl
  unfold ob at hb0 A0 B0
  unfold rV at TA VA PA PT TX VX ⊢
  simp only at hb0 A0 B0 TA VA PA PT TX VX ⊢
  go_enter Tryz.func7, Tryz.ntmps7
  go_wp2_with fail
  refine (H.out _ hb0).mono ?_
  rintro e w1 ⟨rfl, g⟩
  have hb1 := Nb hb0 (g)
  have A1 := A0.bt (g)
  have B1 := B0.bt (g)
  clear hb0 A0 B0 g
  obtain ⟨Ac0, Ac1, Ac2, _, _, _⟩ := A1.cells
  obtain ⟨Bc0, Bc1, Bc2, _, _, _⟩ := B1.cells
  go_wp2_with fail
  have hX : (w1.alloc (.cells #[.bool sa, .string na, .string da, .bool sa, .string na, .string da] 23)).heap[w1.heap.size]? = some (.cells #[.bool sa, .string na, .string da, .bool sa, .string na, .string da] 23 (0, 0)) := heap_alloc_new _ _
  have SH := Lib.hid (lshort2 300 (by omega) w1.heap.size na da na da (w1.alloc (.cells #[.bool sa, .string na, .string da, .bool sa, .string na, .string da] 23)) (by rw [Lib.cell_of_heap hX]; rfl) (by rw [Lib.cell_of_heap hX]; rfl) (by rw [Lib.cell_of_heap hX]; rfl) (by rw [Lib.cell_of_heap hX]; rfl) zna zda zna zda)
  rw [show ((300 : Nat) : Int) = 300 from rfl] at SH
  refine SH.out.mono ?_
  rintro e wS ⟨r, rfl, hr, rfl⟩
  clear Ac0 Ac1 Ac2 Bc0 Bc1 Bc2
  clear SH hX
  have hb1s := Nb hb1 (al w1 (.cells #[.bool sa, .string na, .string da, .bool sa, .string na, .string da] 23))
  have A1s := A1.bt (al w1 (.cells #[.bool sa, .string na, .string da, .bool sa, .string na, .string da] 23))
  have B1s := B1.bt (al w1 (.cells #[.bool sa, .string na, .string da, .bool sa, .string na, .string da] 23))
  clear hb1 A1 B1 
  clear hr
  cases r
  · go_wp2_with fail
    go_ret
    exact ⟨rfl, hb1s⟩
  · obtain ⟨Ac0, Ac1, Ac2, _, _, _⟩ := A1s.cells
    go_wp2_with fail
    refine (TA.out _ hb1s).mono ?_
    rintro e w2 ⟨rfl, g⟩
    clear Ac0 Ac1 Ac2
    have hb2 := Nb hb1s (g)
    have A2 := A1s.bt (g)
    have B2 := B1s.bt (g)
    clear hb1s A1s B1s g
    obtain ⟨Ac0, Ac1, Ac2, _, _, _⟩ := A2.cells
    go_wp2_with fail
    refine (VA.out _ hb2).mono ?_
    rintro e w3 ⟨rfl, g⟩
    clear Ac0 Ac1 Ac2
    have hb3 := Nb hb2 (g)
    have A3 := A2.bt (g)
    have B3 := B2.bt (g)
    clear hb2 A2 B2 g
    go_wp2_with fail
    refine (PA.out _ hb3).mono ?_
    rintro e w4 ⟨rfl, g⟩
    have hb4 := Nb hb3 (g)
    have A4 := A3.bt (g)
    have B4 := B3.bt (g)
    clear hb3 A3 B3 g
    have hb4x := Nb hb4 (al w4 (.cells #[.bool sa, .string na, .string da] 23))
    have A4x := A4.bt (al w4 (.cells #[.bool sa, .string na, .string da] 23))
    have B4x := B4.bt (al w4 (.cells #[.bool sa, .string na, .string da] 23))
    clear hb4 A4 B4 
    have Xk4x := At.new w4 sa na da
    obtain ⟨Bc0, Bc1, Bc2, _, _, _⟩ := B4x.cells
    go_wp2_with fail
    refine (TA.out _ hb4x).mono ?_
    rintro e w5 ⟨rfl, g⟩
    clear Bc0 Bc1 Bc2
    have hb5 := Nb hb4x (g)
    have A5 := A4x.bt (g)
    have B5 := B4x.bt (g)
    have Xk5 := Xk4x.bt (g)
    clear hb4x A4x B4x Xk4x g
    obtain ⟨Ac0, Ac1, Ac2, _, _, _⟩ := A5.cells
    obtain ⟨Bc0, Bc1, Bc2, _, _, _⟩ := B5.cells
    obtain ⟨Xkc0, Xkc1, Xkc2, _, _, _⟩ := Xk5.cells
    go_wp2_with fail
    refine (PT.out _ hb5).mono ?_
    rintro e w6 ⟨rfl, g⟩
    clear Ac0 Ac1 Ac2 Bc0 Bc1 Bc2 Xkc0 Xkc1 Xkc2
    have hb6 := Nb hb5 (g)
    have A6 := A5.bt (g)
    have B6 := B5.bt (g)
    have Xk6 := Xk5.bt (g)
    clear hb5 A5 B5 Xk5 g
    have hb6x := Nb hb6 (al w6 (.cells #[.bool sx, .string nx, .string dx] 23))
    have A6x := A6.bt (al w6 (.cells #[.bool sx, .string nx, .string dx] 23))
    have B6x := B6.bt (al w6 (.cells #[.bool sx, .string nx, .string dx] 23))
    have Xk6x := Xk6.bt (al w6 (.cells #[.bool sx, .string nx, .string dx] 23))
    clear hb6 A6 B6 Xk6 
    have Xx6x := At.new w6 sx nx dx
    obtain ⟨Xxc0, Xxc1, Xxc2, _, _, _⟩ := Xx6x.cells
    go_wp2_with fail
    refine (TX.out _ hb6x).mono ?_
    rintro e w7 ⟨rfl, g⟩
    clear Xxc0 Xxc1 Xxc2
    have hb7 := Nb hb6x (g)
    have A7 := A6x.bt (g)
    have B7 := B6x.bt (g)
    have Xk7 := Xk6x.bt (g)
    have Xx7 := Xx6x.bt (g)
    clear hb6x A6x B6x Xk6x Xx6x g
    obtain ⟨Xxc0, Xxc1, Xxc2, _, _, _⟩ := Xx7.cells
    go_wp2_with fail
    refine (VX.out _ hb7).mono ?_
    rintro e w8 ⟨rfl, g⟩
    clear Xxc0 Xxc1 Xxc2
    have hb8 := Nb hb7 (g)
    have A8 := A7.bt (g)
    have B8 := B7.bt (g)
    have Xk8 := Xk7.bt (g)
    have Xx8 := Xx7.bt (g)
    clear hb7 A7 B7 Xk7 Xx7 g
    go_wp2_with fail
    go_ret
    exact ⟨rfl, hb8⟩

end Go.Proofs.YtmnnaaifebajnaaGreatDoor
