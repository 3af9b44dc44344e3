/- RatioFloors: the walk. -/
import Derived.Test.YtmnnaaifebajnaaGreatDoorRaHd
import Derived.Test.YtmnnaaifebajnaaGreatDoorRaSh
import Derived.Test.YtmnnaaifebajnaaGreatDoorRaLw
import Derived.Deep.DeepCutAuto
set_option linter.unusedSimpArgs false
set_option linter.unusedVariables false
namespace Go.Proofs.YtmnnaaifebajnaaGreatDoor
open Go.RowKit
open Ra (Fit)
set_option maxRecDepth 100000

set_option maxHeartbeats 2000000 in
theorem floors_early0 (sa si : Bool) (na da ni di : ByteArray) (m : Int) (zna : na.size ≤ 9223372036854775807) (zda : da.size ≤ 9223372036854775807) (hns : ¬ ∀ x ∈ [na, da], x.size ≤ 100) (w : World)
    (H : Hid (∀ v, Below w.heap.size w v → Calls Tryz.prog 10 #[] v fun e w' => e = .returned (.bool true) ∧ Below v.heap.size v w'))
    (OI : Hid (∀ v, Below w.heap.size w v → Calls Tryz.prog 12 #[.int .i64 m, .int .i64 1] v fun e w' => e = .returned (.tuple #[rV (si, ni, di), .int .i64 0]) ∧ Below v.heap.size v w'))
    (FI : Hid (∀ v, Below w.heap.size w v → Calls Tryz.prog 26 #[rV (si, ni, di)] v fun e w' => e = .returned (.tuple #[.int .i64 m, .int .i64 0]) ∧ Below v.heap.size v w')) :
    Calls Tryz.prog 8 #[rV (sa, na, da), .int .i64 m] w fun e w' => e = .returned (.bool true) ∧ Below w.heap.size w w' := by
  obtain ⟨hb0, A0⟩ := start1 w (sa, na, da) _ rfl
  unfold ob at hb0 A0
  unfold rV at OI FI ⊢
  simp only at hb0 A0 OI FI ⊢
  go_enter Tryz.func8, Tryz.ntmps8
  go_wp2_with fail
  refine (H.out _ hb0).mono ?_
  rintro e w1 ⟨rfl, g⟩
  have hb1 := Nb hb0 (g)
  have A1 := A0.bt (g)
  clear hb0 A0 g
  go_wp2_with fail
  refine (OI.out _ hb1).mono ?_
  rintro e w2 ⟨rfl, g⟩
  have hb2 := Nb hb1 (g)
  have A2 := A1.bt (g)
  clear hb1 A1 g
  have hb2x := Nb hb2 (al w2 (.cells #[.bool si, .string ni, .string di] 23))
  have A2x := A2.bt (al w2 (.cells #[.bool si, .string ni, .string di] 23))
  clear hb2 A2 
  have Xi2x := At.new w2 si ni di
  obtain ⟨Xic0, Xic1, Xic2, _, _, _⟩ := Xi2x.cells
  go_wp2_with fail
  refine (FI.out _ hb2x).mono ?_
  rintro e w3 ⟨rfl, g⟩
  clear Xic0 Xic1 Xic2
  have hb3 := Nb hb2x (g)
  have A3 := A2x.bt (g)
  have Xi3 := Xi2x.bt (g)
  clear hb2x A2x Xi2x g
  obtain ⟨Ac0, Ac1, Ac2, _, _, _⟩ := A3.cells
  go_wp2_with fail
  have hX : (w3.alloc (.cells #[.bool sa, .string na, .string da] 23)).heap[w3.heap.size]? = some (.cells #[.bool sa, .string na, .string da] 23 (0, 0)) := heap_alloc_new _ _
  have SH := Lib.hid (lshort1 100 (by omega) w3.heap.size na da (w3.alloc (.cells #[.bool sa, .string na, .string da] 23)) (by rw [Lib.cell_of_heap hX]; rfl) (by rw [Lib.cell_of_heap hX]; rfl) zna zda)
  rw [show ((100 : Nat) : Int) = 100 from rfl] at SH
  refine SH.out.mono ?_
  rintro e wS ⟨r, rfl, hr, rfl⟩
  clear Ac0 Ac1 Ac2
  clear SH hX
  have hb3s := Nb hb3 (al w3 (.cells #[.bool sa, .string na, .string da] 23))
  have A3s := A3.bt (al w3 (.cells #[.bool sa, .string na, .string da] 23))
  have Xi3s := Xi3.bt (al w3 (.cells #[.bool sa, .string na, .string da] 23))
  clear hb3 A3 Xi3 
  obtain rfl : r = false := by
    cases r
    · rfl
    · exact absurd (hr rfl) hns
  go_wp2_with fail
  go_ret
  exact ⟨rfl, hb3s⟩

set_option maxHeartbeats 2000000 in
theorem floors_early1 (sa si : Bool) (na da ni di : ByteArray) (m : Int) (zna : na.size ≤ 9223372036854775807) (zda : da.size ≤ 9223372036854775807) (w : World)
    (H : Hid (∀ v, Below w.heap.size w v → Calls Tryz.prog 10 #[] v fun e w' => e = .returned (.bool true) ∧ Below v.heap.size v w'))
    (OI : Hid (∀ v, Below w.heap.size w v → Calls Tryz.prog 12 #[.int .i64 m, .int .i64 1] v fun e w' => e = .returned (.tuple #[rV (si, ni, di), .int .i64 0]) ∧ Below v.heap.size v w'))
    (FI : Hid (∀ v, Below w.heap.size w v → Calls Tryz.prog 26 #[rV (si, ni, di)] v fun e w' => e = .returned (.tuple #[.int .i64 m, .int .i64 0]) ∧ Below v.heap.size v w'))
    (VA : Hid (∀ v, Below w.heap.size w v → Calls Tryz.prog 16 #[rV (sa, na, da)] v fun e w' => e = .returned (.bool false) ∧ Below v.heap.size v w')) :
    Calls Tryz.prog 8 #[rV (sa, na, da), .int .i64 m] w fun e w' => e = .returned (.bool true) ∧ Below w.heap.size w w' := by
  obtain ⟨hb0, A0⟩ := start1 w (sa, na, da) _ rfl
  unfold ob at hb0 A0
  unfold rV at OI FI VA ⊢
  simp only at hb0 A0 OI FI VA ⊢
  go_enter Tryz.func8, Tryz.ntmps8
  go_wp2_with fail
  refine (H.out _ hb0).mono ?_
  rintro e w1 ⟨rfl, g⟩
  have hb1 := Nb hb0 (g)
  have A1 := A0.bt (g)
  clear hb0 A0 g
  go_wp2_with fail
  refine (OI.out _ hb1).mono ?_
  rintro e w2 ⟨rfl, g⟩
  have hb2 := Nb hb1 (g)
  have A2 := A1.bt (g)
  clear hb1 A1 g
  have hb2x := Nb hb2 (al w2 (.cells #[.bool si, .string ni, .string di] 23))
  have A2x := A2.bt (al w2 (.cells #[.bool si, .string ni, .string di] 23))
  clear hb2 A2 
  have Xi2x := At.new w2 si ni di
  obtain ⟨Xic0, Xic1, Xic2, _, _, _⟩ := Xi2x.cells
  go_wp2_with fail
  refine (FI.out _ hb2x).mono ?_
  rintro e w3 ⟨rfl, g⟩
  clear Xic0 Xic1 Xic2
  have hb3 := Nb hb2x (g)
  have A3 := A2x.bt (g)
  have Xi3 := Xi2x.bt (g)
  clear hb2x A2x Xi2x g
  obtain ⟨Ac0, Ac1, Ac2, _, _, _⟩ := A3.cells
  go_wp2_with fail
  have hX : (w3.alloc (.cells #[.bool sa, .string na, .string da] 23)).heap[w3.heap.size]? = some (.cells #[.bool sa, .string na, .string da] 23 (0, 0)) := heap_alloc_new _ _
  have SH := Lib.hid (lshort1 100 (by omega) w3.heap.size na da (w3.alloc (.cells #[.bool sa, .string na, .string da] 23)) (by rw [Lib.cell_of_heap hX]; rfl) (by rw [Lib.cell_of_heap hX]; rfl) zna zda)
  rw [show ((100 : Nat) : Int) = 100 from rfl] at SH
  refine SH.out.mono ?_
  rintro e wS ⟨r, rfl, hr, rfl⟩
  clear Ac0 Ac1 Ac2
  clear SH hX
  have hb3s := Nb hb3 (al w3 (.cells #[.bool sa, .string na, .string da] 23))
  have A3s := A3.bt (al w3 (.cells #[.bool sa, .string na, .string da] 23))
  have Xi3s := Xi3.bt (al w3 (.cells #[.bool sa, .string na, .string da] 23))
  clear hb3 A3 Xi3 
  clear hr
  cases r
  · go_wp2_with fail
    go_ret
    exact ⟨rfl, hb3s⟩
  · obtain ⟨Ac0, Ac1, Ac2, _, _, _⟩ := A3s.cells
    go_wp2_with fail
    refine (VA.out _ hb3s).mono ?_
    rintro e w4 ⟨rfl, g⟩
    clear Ac0 Ac1 Ac2
    have hb4 := Nb hb3s (g)
    have A4 := A3s.bt (g)
    have Xi4 := Xi3s.bt (g)
    clear hb3s A3s Xi3s g
    go_wp2_with fail
    go_ret
    exact ⟨rfl, hb4⟩

set_option maxHeartbeats 2000000 in
theorem floors_range (sa si : Bool) (na da ni di : ByteArray) (m : Int) (zna : na.size ≤ 9223372036854775807) (zda : da.size ≤ 9223372036854775807) (w : World)
    (H : Hid (∀ v, Below w.heap.size w v → Calls Tryz.prog 10 #[] v fun e w' => e = .returned (.bool true) ∧ Below v.heap.size v w'))
    (OI : Hid (∀ v, Below w.heap.size w v → Calls Tryz.prog 12 #[.int .i64 m, .int .i64 1] v fun e w' => e = .returned (.tuple #[rV (si, ni, di), .int .i64 0]) ∧ Below v.heap.size v w'))
    (FI : Hid (∀ v, Below w.heap.size w v → Calls Tryz.prog 26 #[rV (si, ni, di)] v fun e w' => e = .returned (.tuple #[.int .i64 m, .int .i64 0]) ∧ Below v.heap.size v w'))
    (VA : Hid (∀ v, Below w.heap.size w v → Calls Tryz.prog 16 #[rV (sa, na, da)] v fun e w' => e = .returned (.bool true) ∧ Below v.heap.size v w'))
    (FA : Hid (∀ v, Below w.heap.size w v → Calls Tryz.prog 26 #[rV (sa, na, da)] v fun e w' => e = .returned (.tuple #[.int .i64 0, .int .i64 10]) ∧ Below v.heap.size v w')) :
    Calls Tryz.prog 8 #[rV (sa, na, da), .int .i64 m] w fun e w' => e = .returned (.bool true) ∧ Below w.heap.size w w' := by
  obtain ⟨hb0, A0⟩ := start1 w (sa, na, da) _ rfl
  unfold ob at hb0 A0
  unfold rV at OI FI VA FA ⊢
  simp only at hb0 A0 OI FI VA FA ⊢
  go_enter Tryz.func8, Tryz.ntmps8
  go_wp2_with fail
  refine (H.out _ hb0).mono ?_
  rintro e w1 ⟨rfl, g⟩
  have hb1 := Nb hb0 (g)
  have A1 := A0.bt (g)
  clear hb0 A0 g
  go_wp2_with fail
  refine (OI.out _ hb1).mono ?_
  rintro e w2 ⟨rfl, g⟩
  have hb2 := Nb hb1 (g)
  have A2 := A1.bt (g)
  clear hb1 A1 g
  have hb2x := Nb hb2 (al w2 (.cells #[.bool si, .string ni, .string di] 23))
  have A2x := A2.bt (al w2 (.cells #[.bool si, .string ni, .string di] 23))
  clear hb2 A2 
  have Xi2x := At.new w2 si ni di
  obtain ⟨Xic0, Xic1, Xic2, _, _, _⟩ := Xi2x.cells
  go_wp2_with fail
  refine (FI.out _ hb2x).mono ?_
  rintro e w3 ⟨rfl, g⟩
  clear Xic0 Xic1 Xic2
  have hb3 := Nb hb2x (g)
  have A3 := A2x.bt (g)
  have Xi3 := Xi2x.bt (g)
  clear hb2x A2x Xi2x g
  obtain ⟨Ac0, Ac1, Ac2, _, _, _⟩ := A3.cells
  go_wp2_with fail
  have hX : (w3.alloc (.cells #[.bool sa, .string na, .string da] 23)).heap[w3.heap.size]? = some (.cells #[.bool sa, .string na, .string da] 23 (0, 0)) := heap_alloc_new _ _
  have SH := Lib.hid (lshort1 100 (by omega) w3.heap.size na da (w3.alloc (.cells #[.bool sa, .string na, .string da] 23)) (by rw [Lib.cell_of_heap hX]; rfl) (by rw [Lib.cell_of_heap hX]; rfl) zna zda)
  rw [show ((100 : Nat) : Int) = 100 from rfl] at SH
  refine SH.out.mono ?_
  rintro e wS ⟨r, rfl, hr, rfl⟩
  clear Ac0 Ac1 Ac2
  clear SH hX
  have hb3s := Nb hb3 (al w3 (.cells #[.bool sa, .string na, .string da] 23))
  have A3s := A3.bt (al w3 (.cells #[.bool sa, .string na, .string da] 23))
  have Xi3s := Xi3.bt (al w3 (.cells #[.bool sa, .string na, .string da] 23))
  clear hb3 A3 Xi3 
  clear hr
  cases r
  · go_wp2_with fail
    go_ret
    exact ⟨rfl, hb3s⟩
  · obtain ⟨Ac0, Ac1, Ac2, _, _, _⟩ := A3s.cells
    go_wp2_with fail
    refine (VA.out _ hb3s).mono ?_
    rintro e w4 ⟨rfl, g⟩
    clear Ac0 Ac1 Ac2
    have hb4 := Nb hb3s (g)
    have A4 := A3s.bt (g)
    have Xi4 := Xi3s.bt (g)
    clear hb3s A3s Xi3s g
    obtain ⟨Ac0, Ac1, Ac2, _, _, _⟩ := A4.cells
    go_wp2_with fail
    refine (FA.out _ hb4).mono ?_
    rintro e w5 ⟨rfl, g⟩
    clear Ac0 Ac1 Ac2
    have hb5 := Nb hb4 (g)
    have A5 := A4.bt (g)
    have Xi5 := Xi4.bt (g)
    clear hb4 A4 Xi4 g
    go_wp2_with fail
    go_ret
    exact ⟨rfl, hb5⟩

set_option maxHeartbeats 2000000 in
theorem floors_end (sa si : Bool) (na da ni di : ByteArray) (m : Int) (zna : na.size ≤ 9223372036854775807) (zda : da.size ≤ 9223372036854775807) (k : Int) (hw : IntKind.i64.wrap (k + 1) = -9223372036854775808) (hk : (-9223372036854775808 : Int) < k) (w : World)
    (H : Hid (∀ v, Below w.heap.size w v → Calls Tryz.prog 10 #[] v fun e w' => e = .returned (.bool true) ∧ Below v.heap.size v w'))
    (OI : Hid (∀ v, Below w.heap.size w v → Calls Tryz.prog 12 #[.int .i64 m, .int .i64 1] v fun e w' => e = .returned (.tuple #[rV (si, ni, di), .int .i64 0]) ∧ Below v.heap.size v w'))
    (FI : Hid (∀ v, Below w.heap.size w v → Calls Tryz.prog 26 #[rV (si, ni, di)] v fun e w' => e = .returned (.tuple #[.int .i64 m, .int .i64 0]) ∧ Below v.heap.size v w'))
    (VA : Hid (∀ v, Below w.heap.size w v → Calls Tryz.prog 16 #[rV (sa, na, da)] v fun e w' => e = .returned (.bool true) ∧ Below v.heap.size v w'))
    (FA : Hid (∀ v, Below w.heap.size w v → Calls Tryz.prog 26 #[rV (sa, na, da)] v fun e w' => e = .returned (.tuple #[.int .i64 k, .int .i64 0]) ∧ Below v.heap.size v w')) :
    Calls Tryz.prog 8 #[rV (sa, na, da), .int .i64 m] w fun e w' => e = .returned (.bool true) ∧ Below w.heap.size w w' := by
  obtain ⟨hb0, A0⟩ := start1 w (sa, na, da) _ rfl
  unfold ob at hb0 A0
  unfold rV at OI FI VA FA ⊢
  simp only at hb0 A0 OI FI VA FA ⊢
  go_enter Tryz.func8, Tryz.ntmps8
  go_wp2_with fail
  refine (H.out _ hb0).mono ?_
  rintro e w1 ⟨rfl, g⟩
  have hb1 := Nb hb0 (g)
  have A1 := A0.bt (g)
  clear hb0 A0 g
  go_wp2_with fail
  refine (OI.out _ hb1).mono ?_
  rintro e w2 ⟨rfl, g⟩
  have hb2 := Nb hb1 (g)
  have A2 := A1.bt (g)
  clear hb1 A1 g
  have hb2x := Nb hb2 (al w2 (.cells #[.bool si, .string ni, .string di] 23))
  have A2x := A2.bt (al w2 (.cells #[.bool si, .string ni, .string di] 23))
  clear hb2 A2 
  have Xi2x := At.new w2 si ni di
  obtain ⟨Xic0, Xic1, Xic2, _, _, _⟩ := Xi2x.cells
  go_wp2_with fail
  refine (FI.out _ hb2x).mono ?_
  rintro e w3 ⟨rfl, g⟩
  clear Xic0 Xic1 Xic2
  have hb3 := Nb hb2x (g)
  have A3 := A2x.bt (g)
  have Xi3 := Xi2x.bt (g)
  clear hb2x A2x Xi2x g
  obtain ⟨Ac0, Ac1, Ac2, _, _, _⟩ := A3.cells
  go_wp2_with fail
  have hX : (w3.alloc (.cells #[.bool sa, .string na, .string da] 23)).heap[w3.heap.size]? = some (.cells #[.bool sa, .string na, .string da] 23 (0, 0)) := heap_alloc_new _ _
  have SH := Lib.hid (lshort1 100 (by omega) w3.heap.size na da (w3.alloc (.cells #[.bool sa, .string na, .string da] 23)) (by rw [Lib.cell_of_heap hX]; rfl) (by rw [Lib.cell_of_heap hX]; rfl) zna zda)
  rw [show ((100 : Nat) : Int) = 100 from rfl] at SH
  refine SH.out.mono ?_
  rintro e wS ⟨r, rfl, hr, rfl⟩
  clear Ac0 Ac1 Ac2
  clear SH hX
  have hb3s := Nb hb3 (al w3 (.cells #[.bool sa, .string na, .string da] 23))
  have A3s := A3.bt (al w3 (.cells #[.bool sa, .string na, .string da] 23))
  have Xi3s := Xi3.bt (al w3 (.cells #[.bool sa, .string na, .string da] 23))
  clear hb3 A3 Xi3 
  clear hr
  cases r
  · go_wp2_with fail
    go_ret
    exact ⟨rfl, hb3s⟩
  · obtain ⟨Ac0, Ac1, Ac2, _, _, _⟩ := A3s.cells
    go_wp2_with fail
    refine (VA.out _ hb3s).mono ?_
    rintro e w4 ⟨rfl, g⟩
    clear Ac0 Ac1 Ac2
    have hb4 := Nb hb3s (g)
    have A4 := A3s.bt (g)
    have Xi4 := Xi3s.bt (g)
    clear hb3s A3s Xi3s g
    obtain ⟨Ac0, Ac1, Ac2, _, _, _⟩ := A4.cells
    go_wp2_with fail
    refine (FA.out _ hb4).mono ?_
    rintro e w5 ⟨rfl, g⟩
    clear Ac0 Ac1 Ac2
    have hb5 := Nb hb4 (g)
    have A5 := A4.bt (g)
    have Xi5 := Xi4.bt (g)
    clear hb4 A4 Xi4 g
    go_wp2_with fail
    go_ret
    exact ⟨rfl, hb5⟩

set_option maxHeartbeats 2000000 in
theorem floors_ok (sa si sk sl : Bool) (na da ni di nk dk nl dl : ByteArray) (m : Int) (zna : na.size ≤ 9223372036854775807) (zda : da.size ≤ 9223372036854775807) (k : Int) (k2 : Int) (hw : IntKind.i64.wrap (k + 1) = k2) (hk : ¬ k2 < k) (x y : Int) (hx : 0 ≤ x) (hy : y < 0) (w : World)
    (H : Hid (∀ v, Below w.heap.size w v → Calls Tryz.prog 10 #[] v fun e w' => e = .returned (.bool true) ∧ Below v.heap.size v w'))
    (OI : Hid (∀ v, Below w.heap.size w v → Calls Tryz.prog 12 #[.int .i64 m, .int .i64 1] v fun e w' => e = .returned (.tuple #[rV (si, ni, di), .int .i64 0]) ∧ Below v.heap.size v w'))
    (FI : Hid (∀ v, Below w.heap.size w v → Calls Tryz.prog 26 #[rV (si, ni, di)] v fun e w' => e = .returned (.tuple #[.int .i64 m, .int .i64 0]) ∧ Below v.heap.size v w'))
    (VA : Hid (∀ v, Below w.heap.size w v → Calls Tryz.prog 16 #[rV (sa, na, da)] v fun e w' => e = .returned (.bool true) ∧ Below v.heap.size v w'))
    (FA : Hid (∀ v, Below w.heap.size w v → Calls Tryz.prog 26 #[rV (sa, na, da)] v fun e w' => e = .returned (.tuple #[.int .i64 k, .int .i64 0]) ∧ Below v.heap.size v w'))
    (OK : Hid (∀ v, Below w.heap.size w v → Calls Tryz.prog 34 #[.int .i64 k, .int .i64 1] v fun e w' => e = .returned (rV (sk, nk, dk)) ∧ Below v.heap.size v w'))
    (OL : Hid (∀ v, Below w.heap.size w v → Calls Tryz.prog 34 #[.int .i64 k2, .int .i64 1] v fun e w' => e = .returned (rV (sl, nl, dl)) ∧ Below v.heap.size v w'))
    (C1 : Hid (∀ v, Below w.heap.size w v → Calls Tryz.prog 24 #[rV (sa, na, da), rV (sk, nk, dk)] v fun e w' => e = .returned (.tuple #[.int .i64 x, .int .i64 0]) ∧ Below v.heap.size v w'))
    (C2 : Hid (∀ v, Below w.heap.size w v → Calls Tryz.prog 24 #[rV (sa, na, da), rV (sl, nl, dl)] v fun e w' => e = .returned (.tuple #[.int .i64 y, .int .i64 0]) ∧ Below v.heap.size v w')) :
    Calls Tryz.prog 8 #[rV (sa, na, da), .int .i64 m] w fun e w' => e = .returned (.bool true) ∧ Below w.heap.size w w' := by
  obtain ⟨hb0, A0⟩ := start1 w (sa, na, da) _ rfl
  unfold ob at hb0 A0
  unfold rV at OI FI VA FA OK OL C1 C2 ⊢
  simp only at hb0 A0 OI FI VA FA OK OL C1 C2 ⊢
  go_enter Tryz.func8, Tryz.ntmps8
  go_wp2_with fail
  refine (H.out _ hb0).mono ?_
  rintro e w1 ⟨rfl, g⟩
  have hb1 := Nb hb0 (g)
  have A1 := A0.bt (g)
  clear hb0 A0 g
  go_wp2_with fail
  refine (OI.out _ hb1).mono ?_
  rintro e w2 ⟨rfl, g⟩
  have hb2 := Nb hb1 (g)
  have A2 := A1.bt (g)
  clear hb1 A1 g
  have hb2x := Nb hb2 (al w2 (.cells #[.bool si, .string ni, .string di] 23))
  have A2x := A2.bt (al w2 (.cells #[.bool si, .string ni, .string di] 23))
  clear hb2 A2 
  have Xi2x := At.new w2 si ni di
  obtain ⟨Xic0, Xic1, Xic2, _, _, _⟩ := Xi2x.cells
  go_wp2_with fail
  refine (FI.out _ hb2x).mono ?_
  rintro e w3 ⟨rfl, g⟩
  clear Xic0 Xic1 Xic2
  have hb3 := Nb hb2x (g)
  have A3 := A2x.bt (g)
  have Xi3 := Xi2x.bt (g)
  clear hb2x A2x Xi2x g
  obtain ⟨Ac0, Ac1, Ac2, _, _, _⟩ := A3.cells
  go_wp2_with fail
  have hX : (w3.alloc (.cells #[.bool sa, .string na, .string da] 23)).heap[w3.heap.size]? = some (.cells #[.bool sa, .string na, .string da] 23 (0, 0)) := heap_alloc_new _ _
  have SH := Lib.hid (lshort1 100 (by omega) w3.heap.size na da (w3.alloc (.cells #[.bool sa, .string na, .string da] 23)) (by rw [Lib.cell_of_heap hX]; rfl) (by rw [Lib.cell_of_heap hX]; rfl) zna zda)
  rw [show ((100 : Nat) : Int) = 100 from rfl] at SH
  refine SH.out.mono ?_
  rintro e wS ⟨r, rfl, hr, rfl⟩
  clear Ac0 Ac1 Ac2
  clear SH hX
  have hb3s := Nb hb3 (al w3 (.cells #[.bool sa, .string na, .string da] 23))
  have A3s := A3.bt (al w3 (.cells #[.bool sa, .string na, .string da] 23))
  have Xi3s := Xi3.bt (al w3 (.cells #[.bool sa, .string na, .string da] 23))
  clear hb3 A3 Xi3 
  clear hr
  cases r
  · go_wp2_with fail
    go_ret
    exact ⟨rfl, hb3s⟩
  · obtain ⟨Ac0, Ac1, Ac2, _, _, _⟩ := A3s.cells
    go_wp2_with fail
    refine (VA.out _ hb3s).mono ?_
    rintro e w4 ⟨rfl, g⟩
    clear Ac0 Ac1 Ac2
    have hb4 := Nb hb3s (g)
    have A4 := A3s.bt (g)
    have Xi4 := Xi3s.bt (g)
    clear hb3s A3s Xi3s g
    obtain ⟨Ac0, Ac1, Ac2, _, _, _⟩ := A4.cells
    go_wp2_with fail
    refine (FA.out _ hb4).mono ?_
    rintro e w5 ⟨rfl, g⟩
    clear Ac0 Ac1 Ac2
    have hb5 := Nb hb4 (g)
    have A5 := A4.bt (g)
    have Xi5 := Xi4.bt (g)
    clear hb4 A4 Xi4 g
    go_wp2_with fail
    refine (OK.out _ hb5).mono ?_
    rintro e w6 ⟨rfl, g⟩
    have hb6 := Nb hb5 (g)
    have A6 := A5.bt (g)
    have Xi6 := Xi5.bt (g)
    clear hb5 A5 Xi5 g
    go_wp2_with fail
    refine (OL.out _ hb6).mono ?_
    rintro e w7 ⟨rfl, g⟩
    have hb7 := Nb hb6 (g)
    have A7 := A6.bt (g)
    have Xi7 := Xi6.bt (g)
    clear hb6 A6 Xi6 g
    obtain ⟨hB, Xk7y, Xl7y⟩ := startB w7 (sk, nk, dk) (sl, nl, dl) _ rfl
    unfold ob at hB Xk7y Xl7y
    simp only at hB Xk7y Xl7y
    have hb7y := Nb hb7 (hB)
    have A7y := A7.bt (hB)
    have Xi7y := Xi7.bt (hB)
    clear hb7 A7 Xi7 hB
    obtain ⟨Ac0, Ac1, Ac2, _, _, _⟩ := A7y.cells
    obtain ⟨Xkc0, Xkc1, Xkc2, _, _, _⟩ := Xk7y.cells
    go_wp2_with fail
    refine (C1.out _ hb7y).mono ?_
    rintro e w8 ⟨rfl, g⟩
    clear Ac0 Ac1 Ac2 Xkc0 Xkc1 Xkc2
    have hb8 := Nb hb7y (g)
    have A8 := A7y.bt (g)
    have Xi8 := Xi7y.bt (g)
    have Xk8 := Xk7y.bt (g)
    have Xl8 := Xl7y.bt (g)
    clear hb7y A7y Xi7y Xk7y Xl7y g
    obtain ⟨Ac0, Ac1, Ac2, _, _, _⟩ := A8.cells
    obtain ⟨Xlc0, Xlc1, Xlc2, _, _, _⟩ := Xl8.cells
    go_wp2_with fail
    refine (C2.out _ hb8).mono ?_
    rintro e w9 ⟨rfl, g⟩
    clear Ac0 Ac1 Ac2 Xlc0 Xlc1 Xlc2
    have hb9 := Nb hb8 (g)
    have A9 := A8.bt (g)
    have Xi9 := Xi8.bt (g)
    have Xk9 := Xk8.bt (g)
    have Xl9 := Xl8.bt (g)
    clear hb8 A8 Xi8 Xk8 Xl8 g
    go_wp2_with fail
    go_ret
    exact ⟨rfl, hb9⟩

end Go.Proofs.YtmnnaaifebajnaaGreatDoor
