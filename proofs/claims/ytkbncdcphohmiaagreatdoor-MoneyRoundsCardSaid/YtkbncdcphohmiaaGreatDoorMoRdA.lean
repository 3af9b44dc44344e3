/- MoneyRounds: the walks. -/
import Derived.Test.YtkbncdcphohmiaaGreatDoorMoV
import Derived.Test.YtkbncdcphohmiaaGreatDoorRaOf
import Derived.Lib.QuietBelow
import Derived.Deep.QuietTactic
import Derived.Deep.RegionHeld3
set_option linter.unusedSimpArgs false
set_option linter.unusedVariables false
namespace Go.Proofs.YtkbncdcphohmiaaGreatDoor
open Go.RowKit
set_option maxRecDepth 100000

theorem start1 (w : World) (r1 : R3) (w1 : World) (h : w1 = w.alloc (ob r1)) : Below w.heap.size w w1 ∧ At w1 w.heap.size r1 := by
  subst h
  exact ⟨al _ _, At.ob _ _⟩
theorem three {w : World} {p : Nat} {s : Bool} {a b : ByteArray} (h : At w p (s, a, b)) : w.cell? ⟨p, 0, none⟩ = some (.bool s) ∧ w.cell? ⟨p, 1, none⟩ = some (.string a) ∧ w.cell? ⟨p, 2, none⟩ = some (.string b) := ⟨h.cells.1, h.cells.2.1, h.cells.2.2.1⟩
theorem At.set1 {w : World} {b : Nat} {s : Bool} {n d : ByteArray} (h : At w b (s, n, d)) (t : Bool) : At (w.setCell ⟨b, 0, none⟩ (.bool t)) b (t, n, d) := heap_setCell_same w b 0 _ _ _ h
theorem Mo.fin_new {w v : World} (hb : Below w.heap.size w v) (q : R3) (W : World) (hW : W = v.alloc (.cells #[.bool q.1, .string q.2.1, .string q.2.2] 32)) : Below w.heap.size w W ∧ At W v.heap.size q := by
  subst hW
  exact ⟨Nb hb (al _ _), heap_alloc_new _ _⟩
theorem Mo.fin_old {w v : World} {b : Nat} {q0 : R3} (hb : Below w.heap.size w v) (X : At v b q0) (hn : w.heap.size < b) (q : R3) (W : World)
    (hW : W = (((v.setCell ⟨b, 0, none⟩ (.bool q.1)).setCell ⟨b, 1, none⟩ (.string q.2.1)).setCell ⟨b, 2, none⟩ (.string q.2.2))) : Below w.heap.size w W ∧ At W b q := by
  subst hW
  exact ⟨Bset2 hb (by omega) _ _ _, X.set _ _ _⟩

set_option maxHeartbeats 2000000 in
theorem Mo.rd_y1 (sa si : Bool) (na da ni di : ByteArray) (m : Int) (zna : na.size ≤ 9223372036854775807) (zda : da.size ≤ 9223372036854775807) (hne : (m != 9223372036854775807) = true) (h1 : (60 : Int) < (na.size : Int)) (w : World)
    (H : Hid (∀ v, Below w.heap.size w v → Calls Tryz.prog 10 #[] v fun e w' => e = .returned (.bool true) ∧ Below v.heap.size v w'))
    (O1 : Hid (∀ v, Below w.heap.size w v → Calls Tryz.prog 26 #[.int .i64 m, .int .i64 1] v fun e w' => e = .returned (rV (si, ni, di)) ∧ Below v.heap.size v w'))
    (RI : Hid (∀ v, Below w.heap.size w v → Calls Tryz.prog 21 #[rV (si, ni, di)] v fun e w' => e = .returned (.tuple #[.int .i64 m, .int .i64 0]) ∧ Below v.heap.size v w')) :
    Calls Tryz.prog 7 #[rV (sa, na, da), .int .i64 m] w fun e w' => e = .returned (.bool true) ∧ Below w.heap.size w w' := by
  obtain ⟨hb0, A0⟩ := start1 w (sa, na, da) _ rfl
  unfold ob at hb0 A0
  unfold rV at O1 RI ⊢
  simp only at hb0 A0 O1 RI ⊢
  go_enter Tryz.func7, Tryz.ntmps7
  go_wp2_with fail
  refine (H.out _ hb0).mono ?_
  rintro e w1 ⟨rfl, g⟩
  have hb1 := Nb hb0 (g)
  have A1 := A0.bt (g)
  clear hb0 A0 g
  go_wp2_with fail
  refine (O1.out _ hb1).mono ?_
  rintro e w2 ⟨rfl, g⟩
  have hb2 := Nb hb1 (g)
  have A2 := A1.bt (g)
  clear hb1 A1 g
  have hb2x := Nb hb2 (al w2 (.cells #[.bool si, .string ni, .string di] 32))
  have A2x := A2.bt (al w2 (.cells #[.bool si, .string ni, .string di] 32))
  clear hb2 A2 
  have Xi2x := At.new w2 si ni di
  obtain ⟨Xic0, Xic1, Xic2, _, _, _⟩ := Xi2x.cells
  go_wp2_with fail
  refine (RI.out _ hb2x).mono ?_
  rintro e w3 ⟨rfl, g⟩
  clear Xic0 Xic1 Xic2
  have hb3 := Nb hb2x (g)
  have A3 := A2x.bt (g)
  have Xi3 := Xi2x.bt (g)
  clear hb2x A2x Xi2x g
  obtain ⟨Ac0, Ac1, Ac2, _, _, _⟩ := A3.cells
  go_wp2_with fail
  go_ret
  exact ⟨rfl, hb3⟩


set_option maxHeartbeats 2000000 in
theorem Mo.rd_y2 (sa si : Bool) (na da ni di : ByteArray) (m : Int) (zna : na.size ≤ 9223372036854775807) (zda : da.size ≤ 9223372036854775807) (hne : (m != 9223372036854775807) = true) (h1 : ¬ (60 : Int) < (na.size : Int)) (h2 : (60 : Int) < (da.size : Int)) (w : World)
    (H : Hid (∀ v, Below w.heap.size w v → Calls Tryz.prog 10 #[] v fun e w' => e = .returned (.bool true) ∧ Below v.heap.size v w'))
    (O1 : Hid (∀ v, Below w.heap.size w v → Calls Tryz.prog 26 #[.int .i64 m, .int .i64 1] v fun e w' => e = .returned (rV (si, ni, di)) ∧ Below v.heap.size v w'))
    (RI : Hid (∀ v, Below w.heap.size w v → Calls Tryz.prog 21 #[rV (si, ni, di)] v fun e w' => e = .returned (.tuple #[.int .i64 m, .int .i64 0]) ∧ Below v.heap.size v w')) :
    Calls Tryz.prog 7 #[rV (sa, na, da), .int .i64 m] w fun e w' => e = .returned (.bool true) ∧ Below w.heap.size w w' := by
  obtain ⟨hb0, A0⟩ := start1 w (sa, na, da) _ rfl
  unfold ob at hb0 A0
  unfold rV at O1 RI ⊢
  simp only at hb0 A0 O1 RI ⊢
  go_enter Tryz.func7, Tryz.ntmps7
  go_wp2_with fail
  refine (H.out _ hb0).mono ?_
  rintro e w1 ⟨rfl, g⟩
  have hb1 := Nb hb0 (g)
  have A1 := A0.bt (g)
  clear hb0 A0 g
  go_wp2_with fail
  refine (O1.out _ hb1).mono ?_
  rintro e w2 ⟨rfl, g⟩
  have hb2 := Nb hb1 (g)
  have A2 := A1.bt (g)
  clear hb1 A1 g
  have hb2x := Nb hb2 (al w2 (.cells #[.bool si, .string ni, .string di] 32))
  have A2x := A2.bt (al w2 (.cells #[.bool si, .string ni, .string di] 32))
  clear hb2 A2 
  have Xi2x := At.new w2 si ni di
  obtain ⟨Xic0, Xic1, Xic2, _, _, _⟩ := Xi2x.cells
  go_wp2_with fail
  refine (RI.out _ hb2x).mono ?_
  rintro e w3 ⟨rfl, g⟩
  clear Xic0 Xic1 Xic2
  have hb3 := Nb hb2x (g)
  have A3 := A2x.bt (g)
  have Xi3 := Xi2x.bt (g)
  clear hb2x A2x Xi2x g
  obtain ⟨Ac0, Ac1, Ac2, _, _, _⟩ := A3.cells
  go_wp2_with fail
  go_ret
  exact ⟨rfl, hb3⟩


set_option maxHeartbeats 2000000 in
theorem Mo.rd_y3 (sa si : Bool) (na da ni di : ByteArray) (m : Int) (zna : na.size ≤ 9223372036854775807) (zda : da.size ≤ 9223372036854775807) (hne : (m != 9223372036854775807) = true) (h1 : ¬ (60 : Int) < (na.size : Int)) (h2 : ¬ (60 : Int) < (da.size : Int)) (w : World)
    (H : Hid (∀ v, Below w.heap.size w v → Calls Tryz.prog 10 #[] v fun e w' => e = .returned (.bool true) ∧ Below v.heap.size v w'))
    (O1 : Hid (∀ v, Below w.heap.size w v → Calls Tryz.prog 26 #[.int .i64 m, .int .i64 1] v fun e w' => e = .returned (rV (si, ni, di)) ∧ Below v.heap.size v w'))
    (RI : Hid (∀ v, Below w.heap.size w v → Calls Tryz.prog 21 #[rV (si, ni, di)] v fun e w' => e = .returned (.tuple #[.int .i64 m, .int .i64 0]) ∧ Below v.heap.size v w'))
    (RA : Hid (∀ v, Below w.heap.size w v → Calls Tryz.prog 21 #[rV (sa, na, da)] v fun e w' => e = .returned (.tuple #[.int .i64 0, .int .i64 1]) ∧ Below v.heap.size v w'))
    (VA : Hid (∀ v, Below w.heap.size w v → Calls Tryz.prog 29 #[rV (sa, na, da)] v fun e w' => e = .returned (.bool false) ∧ Below v.heap.size v w')) :
    Calls Tryz.prog 7 #[rV (sa, na, da), .int .i64 m] w fun e w' => e = .returned (.bool true) ∧ Below w.heap.size w w' := by
  obtain ⟨hb0, A0⟩ := start1 w (sa, na, da) _ rfl
  unfold ob at hb0 A0
  unfold rV at O1 RI RA VA ⊢
  simp only at hb0 A0 O1 RI RA VA ⊢
  go_enter Tryz.func7, Tryz.ntmps7
  go_wp2_with fail
  refine (H.out _ hb0).mono ?_
  rintro e w1 ⟨rfl, g⟩
  have hb1 := Nb hb0 (g)
  have A1 := A0.bt (g)
  clear hb0 A0 g
  go_wp2_with fail
  refine (O1.out _ hb1).mono ?_
  rintro e w2 ⟨rfl, g⟩
  have hb2 := Nb hb1 (g)
  have A2 := A1.bt (g)
  clear hb1 A1 g
  have hb2x := Nb hb2 (al w2 (.cells #[.bool si, .string ni, .string di] 32))
  have A2x := A2.bt (al w2 (.cells #[.bool si, .string ni, .string di] 32))
  clear hb2 A2 
  have Xi2x := At.new w2 si ni di
  obtain ⟨Xic0, Xic1, Xic2, _, _, _⟩ := Xi2x.cells
  go_wp2_with fail
  refine (RI.out _ hb2x).mono ?_
  rintro e w3 ⟨rfl, g⟩
  clear Xic0 Xic1 Xic2
  have hb3 := Nb hb2x (g)
  have A3 := A2x.bt (g)
  have Xi3 := Xi2x.bt (g)
  clear hb2x A2x Xi2x g
  obtain ⟨Ac0, Ac1, Ac2, _, _, _⟩ := A3.cells
  go_wp2_with fail
  refine (RA.out _ hb3).mono ?_
  rintro e w4 ⟨rfl, g⟩
  clear Ac0 Ac1 Ac2
  have hb4 := Nb hb3 (g)
  have A4 := A3.bt (g)
  have Xi4 := Xi3.bt (g)
  clear hb3 A3 Xi3 g
  obtain ⟨Ac0, Ac1, Ac2, _, _, _⟩ := A4.cells
  go_wp2_with fail
  refine (VA.out _ hb4).mono ?_
  rintro e w5 ⟨rfl, g⟩
  clear Ac0 Ac1 Ac2
  have hb5 := Nb hb4 (g)
  have A5 := A4.bt (g)
  have Xi5 := Xi4.bt (g)
  clear hb4 A4 Xi4 g
  go_wp2_with fail
  go_ret
  exact ⟨rfl, hb5⟩


set_option maxHeartbeats 2000000 in
theorem Mo.rd_y4 (sa si : Bool) (na da ni di : ByteArray) (m : Int) (zna : na.size ≤ 9223372036854775807) (zda : da.size ≤ 9223372036854775807) (hne : (m != 9223372036854775807) = true) (h1 : ¬ (60 : Int) < (na.size : Int)) (h2 : ¬ (60 : Int) < (da.size : Int)) (w : World)
    (H : Hid (∀ v, Below w.heap.size w v → Calls Tryz.prog 10 #[] v fun e w' => e = .returned (.bool true) ∧ Below v.heap.size v w'))
    (O1 : Hid (∀ v, Below w.heap.size w v → Calls Tryz.prog 26 #[.int .i64 m, .int .i64 1] v fun e w' => e = .returned (rV (si, ni, di)) ∧ Below v.heap.size v w'))
    (RI : Hid (∀ v, Below w.heap.size w v → Calls Tryz.prog 21 #[rV (si, ni, di)] v fun e w' => e = .returned (.tuple #[.int .i64 m, .int .i64 0]) ∧ Below v.heap.size v w'))
    (RA : Hid (∀ v, Below w.heap.size w v → Calls Tryz.prog 21 #[rV (sa, na, da)] v fun e w' => e = .returned (.tuple #[.int .i64 0, .int .i64 10]) ∧ Below v.heap.size v w'))
    (VA : Hid (∀ v, Below w.heap.size w v → Calls Tryz.prog 29 #[rV (sa, na, da)] v fun e w' => e = .returned (.bool true) ∧ Below v.heap.size v w')) :
    Calls Tryz.prog 7 #[rV (sa, na, da), .int .i64 m] w fun e w' => e = .returned (.bool true) ∧ Below w.heap.size w w' := by
  obtain ⟨hb0, A0⟩ := start1 w (sa, na, da) _ rfl
  unfold ob at hb0 A0
  unfold rV at O1 RI RA VA ⊢
  simp only at hb0 A0 O1 RI RA VA ⊢
  go_enter Tryz.func7, Tryz.ntmps7
  go_wp2_with fail
  refine (H.out _ hb0).mono ?_
  rintro e w1 ⟨rfl, g⟩
  have hb1 := Nb hb0 (g)
  have A1 := A0.bt (g)
  clear hb0 A0 g
  go_wp2_with fail
  refine (O1.out _ hb1).mono ?_
  rintro e w2 ⟨rfl, g⟩
  have hb2 := Nb hb1 (g)
  have A2 := A1.bt (g)
  clear hb1 A1 g
  have hb2x := Nb hb2 (al w2 (.cells #[.bool si, .string ni, .string di] 32))
  have A2x := A2.bt (al w2 (.cells #[.bool si, .string ni, .string di] 32))
  clear hb2 A2 
  have Xi2x := At.new w2 si ni di
  obtain ⟨Xic0, Xic1, Xic2, _, _, _⟩ := Xi2x.cells
  go_wp2_with fail
  refine (RI.out _ hb2x).mono ?_
  rintro e w3 ⟨rfl, g⟩
  clear Xic0 Xic1 Xic2
  have hb3 := Nb hb2x (g)
  have A3 := A2x.bt (g)
  have Xi3 := Xi2x.bt (g)
  clear hb2x A2x Xi2x g
  obtain ⟨Ac0, Ac1, Ac2, _, _, _⟩ := A3.cells
  go_wp2_with fail
  refine (RA.out _ hb3).mono ?_
  rintro e w4 ⟨rfl, g⟩
  clear Ac0 Ac1 Ac2
  have hb4 := Nb hb3 (g)
  have A4 := A3.bt (g)
  have Xi4 := Xi3.bt (g)
  clear hb3 A3 Xi3 g
  obtain ⟨Ac0, Ac1, Ac2, _, _, _⟩ := A4.cells
  go_wp2_with fail
  refine (VA.out _ hb4).mono ?_
  rintro e w5 ⟨rfl, g⟩
  clear Ac0 Ac1 Ac2
  have hb5 := Nb hb4 (g)
  have A5 := A4.bt (g)
  have Xi5 := Xi4.bt (g)
  clear hb4 A4 Xi4 g
  go_wp2_with fail
  go_ret
  exact ⟨rfl, hb5⟩


set_option maxHeartbeats 2000000 in
theorem Mo.rd_y5 (sa si sk sd sh : Bool) (na da ni di nk dk nd dd nh dh : ByteArray) (m : Int) (zna : na.size ≤ 9223372036854775807) (zda : da.size ≤ 9223372036854775807) (hne : (m != 9223372036854775807) = true) (h1 : ¬ (60 : Int) < (na.size : Int)) (h2 : ¬ (60 : Int) < (da.size : Int)) (k : Int) (w : World)
    (H : Hid (∀ v, Below w.heap.size w v → Calls Tryz.prog 10 #[] v fun e w' => e = .returned (.bool true) ∧ Below v.heap.size v w'))
    (O1 : Hid (∀ v, Below w.heap.size w v → Calls Tryz.prog 26 #[.int .i64 m, .int .i64 1] v fun e w' => e = .returned (rV (si, ni, di)) ∧ Below v.heap.size v w'))
    (RI : Hid (∀ v, Below w.heap.size w v → Calls Tryz.prog 21 #[rV (si, ni, di)] v fun e w' => e = .returned (.tuple #[.int .i64 m, .int .i64 0]) ∧ Below v.heap.size v w'))
    (RA : Hid (∀ v, Below w.heap.size w v → Calls Tryz.prog 21 #[rV (sa, na, da)] v fun e w' => e = .returned (.tuple #[.int .i64 k, .int .i64 0]) ∧ Below v.heap.size v w'))
    (OK : Hid (∀ v, Below w.heap.size w v → Calls Tryz.prog 26 #[.int .i64 k, .int .i64 1] v fun e w' => e = .returned (rV (sk, nk, dk)) ∧ Below v.heap.size v w'))
    (SU : Hid (∀ v, Below w.heap.size w v → Calls Tryz.prog 30 #[rV (sa, na, da), rV (sk, nk, dk)] v fun e w' => e = .returned (.tuple #[rV (sd, nd, dd), .int .i64 0]) ∧ Below v.heap.size v w'))
    (OH : Hid (∀ v, Below w.heap.size w v → Calls Tryz.prog 26 #[.int .i64 1, .int .i64 2] v fun e w' => e = .returned (rV (sh, nh, dh)) ∧ Below v.heap.size v w'))
    (CM : Hid (∀ v, Below w.heap.size w v → Calls Tryz.prog 31 #[rV (false, nd, dd), rV (sh, nh, dh)] v fun e w' => e = .returned (.tuple #[.int .i64 (-1), .int .i64 0]) ∧ Below v.heap.size v w')) :
    Calls Tryz.prog 7 #[rV (sa, na, da), .int .i64 m] w fun e w' => e = .returned (.bool true) ∧ Below w.heap.size w w' := by
  obtain ⟨hb0, A0⟩ := start1 w (sa, na, da) _ rfl
  unfold ob at hb0 A0
  unfold rV at O1 RI RA OK SU OH CM ⊢
  simp only at hb0 A0 O1 RI RA OK SU OH CM ⊢
  go_enter Tryz.func7, Tryz.ntmps7
  go_wp2_with fail
  refine (H.out _ hb0).mono ?_
  rintro e w1 ⟨rfl, g⟩
  have hb1 := Nb hb0 (g)
  have A1 := A0.bt (g)
  clear hb0 A0 g
  go_wp2_with fail
  refine (O1.out _ hb1).mono ?_
  rintro e w2 ⟨rfl, g⟩
  have hb2 := Nb hb1 (g)
  have A2 := A1.bt (g)
  clear hb1 A1 g
  have hb2x := Nb hb2 (al w2 (.cells #[.bool si, .string ni, .string di] 32))
  have A2x := A2.bt (al w2 (.cells #[.bool si, .string ni, .string di] 32))
  clear hb2 A2 
  have Xi2x := At.new w2 si ni di
  obtain ⟨Xic0, Xic1, Xic2, _, _, _⟩ := Xi2x.cells
  go_wp2_with fail
  refine (RI.out _ hb2x).mono ?_
  rintro e w3 ⟨rfl, g⟩
  clear Xic0 Xic1 Xic2
  have hb3 := Nb hb2x (g)
  have A3 := A2x.bt (g)
  have Xi3 := Xi2x.bt (g)
  clear hb2x A2x Xi2x g
  obtain ⟨Ac0, Ac1, Ac2, _, _, _⟩ := A3.cells
  go_wp2_with fail
  refine (RA.out _ hb3).mono ?_
  rintro e w4 ⟨rfl, g⟩
  clear Ac0 Ac1 Ac2
  have hb4 := Nb hb3 (g)
  have A4 := A3.bt (g)
  have Xi4 := Xi3.bt (g)
  clear hb3 A3 Xi3 g
  obtain ⟨Ac0, Ac1, Ac2, _, _, _⟩ := A4.cells
  go_wp2_with fail
  clear Xi4 H O1 RI RA h1 h2
  have N4 : w.heap.size < w4.heap.size := (Array.getElem?_eq_some_iff.1 (show w4.heap[w.heap.size]? = _ from A4)).1
  have S4 := Lib.hid (three A4)
  have S4d := Lib.hid (three (A4.bt (Bd w4)))
  have T4 := Lib.hid (three (A4.bt (al w4 (.cells #[.bool false, .string ⟨#[]⟩, .string ⟨#[]⟩] 32))))
  have T4d := Lib.hid (three ((A4.bt (al w4 (.cells #[.bool false, .string ⟨#[]⟩, .string ⟨#[]⟩] 32))).bt (Bd _)))
  go_region_held3 (fun w' => w'.cell? ⟨w.heap.size, 0, none⟩ = some (.bool sa) ∧ w'.cell? ⟨w.heap.size, 1, none⟩ = some (.string na) ∧ w'.cell? ⟨w.heap.size, 2, none⟩ = some (.string da)) (first | exact SS.out | exact T6.out | exact S6.out | exact T5.out | exact S5.out | exact T4d.out | exact T4.out | exact S4d.out | exact S4.out | go_keep)
    (first
      | (go_at_call 26
         (with_reducible refine (OK.out _ (Nb hb4 (Bd w4))).mono ?_)
         rintro e w5 ⟨rfl, g5⟩
         have hb5 := Nb (Nb hb4 (Bd w4)) g5
         have A5 := (A4.bt (Bd w4)).bt g5
         have S5 := Lib.hid (three A5)
         have T5 := Lib.hid (three (A5.bt (al w5 (.cells #[.bool false, .string ⟨#[]⟩, .string ⟨#[]⟩] 32)))))
      | (go_at_call 26
         (with_reducible refine (OK.out _ (Nb hb4 (Nb (al w4 (.cells #[.bool false, .string ⟨#[]⟩, .string ⟨#[]⟩] 32)) (Bd _)))).mono ?_)
         rintro e w5 ⟨rfl, g5⟩
         have hb5 := Nb (Nb hb4 (Nb (al w4 (.cells #[.bool false, .string ⟨#[]⟩, .string ⟨#[]⟩] 32)) (Bd _))) g5
         have A5 := (A4.bt (Nb (al w4 (.cells #[.bool false, .string ⟨#[]⟩, .string ⟨#[]⟩] 32)) (Bd _))).bt g5
         have BX5 := (At.new w4 false ⟨#[]⟩ ⟨#[]⟩).bt (Nb (Bd _) g5)
         have N5 := N4
         obtain ⟨b0, b1, b2, e0, e1, e2⟩ := BX5.cells
         have S5 := Lib.hid (three A5))
      | (go_at_call 30
         (with_reducible refine (SU.out _ hb5).mono ?_)
         rintro e w6 ⟨rfl, g6⟩
         have hb6 := Nb hb5 g6
         have A6 := A5.bt g6
         have BX6 := BX5.bt g6
         have N6 := N5
         obtain ⟨b0, b1, b2, e0, e1, e2⟩ := BX6.cells
         have S6 := Lib.hid (three A6)
         have SS := Lib.hid (three (A6.far (show w.heap.size ≠ w4.heap.size by omega) (sd, nd, dd))))
      | (go_at_call 30
         (with_reducible refine (SU.out _ hb5).mono ?_)
         rintro e w6 ⟨rfl, g6⟩
         have hb6 := Nb hb5 g6
         have A6 := A5.bt g6
         have S6 := Lib.hid (three A6)
         have T6 := Lib.hid (three (A6.bt (al w6 (.cells #[.bool false, .string ⟨#[]⟩, .string ⟨#[]⟩] 32))))
         have SS := Lib.hid (three (A6.bt (al w6 (.cells #[.bool sd, .string nd, .string dd] 32)))))
      | (go_at_call 30
         (with_reducible refine (SU.out _ (Nb hb5 (al w5 (.cells #[.bool false, .string ⟨#[]⟩, .string ⟨#[]⟩] 32)))).mono ?_)
         rintro e w6 ⟨rfl, g6⟩
         have hb6 := Nb (Nb hb5 (al w5 (.cells #[.bool false, .string ⟨#[]⟩, .string ⟨#[]⟩] 32))) g6
         have A6 := (A5.bt (al w5 (.cells #[.bool false, .string ⟨#[]⟩, .string ⟨#[]⟩] 32))).bt g6
         have BX6 := (At.new w5 false ⟨#[]⟩ ⟨#[]⟩).bt g6
         have N6 : w.heap.size < w5.heap.size := (Array.getElem?_eq_some_iff.1 (show w5.heap[w.heap.size]? = _ from A5)).1
         obtain ⟨b0, b1, b2, e0, e1, e2⟩ := BX6.cells
         have S6 := Lib.hid (three A6)
         have SS := Lib.hid (three (A6.far (show w.heap.size ≠ w5.heap.size by omega) (sd, nd, dd))))
      | fail)
  all_goals
    first
      | (have FF := Mo.fin_new hb6 (sd, nd, dd)
         have HLE := hb6.size
         refine gen (P := Exit.then _ _ _ _) _ ?_
         intro W hW
         obtain ⟨hbF, XF⟩ := FF W hW
         clear FF hW A6 A5 hb6 hb5
         obtain ⟨x0, x1, x2, f0, f1, f2⟩ := XF.cells
         go_wp2_with fail
         have X1 := XF.set1 false
         have hb1 := hbF.setCell (p := ⟨_, 0, none⟩) HLE (.bool false)
         clear x0 x1 x2 f0 f1 f2 XF hbF
         generalize W.setCell _ (.bool false) = W1 at *
         obtain ⟨x0, x1, x2, f0, f1, f2⟩ := X1.cells
         have y0 := fun dq os => cell_regrown x0 dq os
         have y1 := fun dq os => cell_regrown x1 dq os
         have y2 := fun dq os => cell_regrown x2 dq os
         have LYr := Lib.hid (fun dq os => Calls.regrown_of (OH.out (Go.Sort.grow (redrawn W1 dq) os) (Nb hb1 (below_regrown W1 dq os))))
         have LYc := Lib.hid (fun dq os => Calls.regrown_of (CM.out (Go.Sort.grow (redrawn W1 dq) os) (Nb hb1 (below_regrown W1 dq os))))
         refine wp_region_quiet_below (by kernel_rfl) (by kernel_rfl) ?_
         repeat (quiet_step (first | (go_at_call 26; exact LYr.out _ _) | (go_at_call 31; exact LYc.out _ _)))
         refine wpQuiet_nil ?_
         intro _ hw'
         obtain ⟨⟨dq, osq⟩, hw''⟩ := hw'
         subst hw''
         have hb3 := Nb hb1 (below_regrown W1 dq osq)
         clear LYr LYc y0 y1 y2 hb1 x0 x1 x2 f0 f1 f2 X1
         generalize Go.Sort.grow (redrawn W1 dq) osq = v at *
         go_wp2
         go_ret
         exact ⟨rfl, hb3⟩)
      | (have FF := Mo.fin_old hb6 (b := w4.heap.size) BX6 N6 (sd, nd, dd)
         have HLE : w.heap.size ≤ w4.heap.size := by omega
         refine gen (P := Exit.then _ _ _ _) _ ?_
         intro W hW
         obtain ⟨hbF, XF⟩ := FF W hW
         clear FF hW A6 A5 BX6 BX5 hb6 hb5 b0 b1 b2 e0 e1 e2
         obtain ⟨x0, x1, x2, f0, f1, f2⟩ := XF.cells
         go_wp2_with fail
         have X1 := XF.set1 false
         have hb1 := hbF.setCell (p := ⟨_, 0, none⟩) HLE (.bool false)
         clear x0 x1 x2 f0 f1 f2 XF hbF
         generalize W.setCell _ (.bool false) = W1 at *
         obtain ⟨x0, x1, x2, f0, f1, f2⟩ := X1.cells
         have y0 := fun dq os => cell_regrown x0 dq os
         have y1 := fun dq os => cell_regrown x1 dq os
         have y2 := fun dq os => cell_regrown x2 dq os
         have LYr := Lib.hid (fun dq os => Calls.regrown_of (OH.out (Go.Sort.grow (redrawn W1 dq) os) (Nb hb1 (below_regrown W1 dq os))))
         have LYc := Lib.hid (fun dq os => Calls.regrown_of (CM.out (Go.Sort.grow (redrawn W1 dq) os) (Nb hb1 (below_regrown W1 dq os))))
         refine wp_region_quiet_below (by kernel_rfl) (by kernel_rfl) ?_
         repeat (quiet_step (first | (go_at_call 26; exact LYr.out _ _) | (go_at_call 31; exact LYc.out _ _)))
         refine wpQuiet_nil ?_
         intro _ hw'
         obtain ⟨⟨dq, osq⟩, hw''⟩ := hw'
         subst hw''
         have hb3 := Nb hb1 (below_regrown W1 dq osq)
         clear LYr LYc y0 y1 y2 hb1 x0 x1 x2 f0 f1 f2 X1
         generalize Go.Sort.grow (redrawn W1 dq) osq = v at *
         go_wp2
         go_ret
         exact ⟨rfl, hb3⟩)
      | (have FF := Mo.fin_old hb6 (b := w5.heap.size) BX6 N6 (sd, nd, dd)
         have HLE : w.heap.size ≤ w5.heap.size := by omega
         refine gen (P := Exit.then _ _ _ _) _ ?_
         intro W hW
         obtain ⟨hbF, XF⟩ := FF W hW
         clear FF hW A6 A5 BX6 hb6 hb5 b0 b1 b2 e0 e1 e2
         obtain ⟨x0, x1, x2, f0, f1, f2⟩ := XF.cells
         go_wp2_with fail
         have X1 := XF.set1 false
         have hb1 := hbF.setCell (p := ⟨_, 0, none⟩) HLE (.bool false)
         clear x0 x1 x2 f0 f1 f2 XF hbF
         generalize W.setCell _ (.bool false) = W1 at *
         obtain ⟨x0, x1, x2, f0, f1, f2⟩ := X1.cells
         have y0 := fun dq os => cell_regrown x0 dq os
         have y1 := fun dq os => cell_regrown x1 dq os
         have y2 := fun dq os => cell_regrown x2 dq os
         have LYr := Lib.hid (fun dq os => Calls.regrown_of (OH.out (Go.Sort.grow (redrawn W1 dq) os) (Nb hb1 (below_regrown W1 dq os))))
         have LYc := Lib.hid (fun dq os => Calls.regrown_of (CM.out (Go.Sort.grow (redrawn W1 dq) os) (Nb hb1 (below_regrown W1 dq os))))
         refine wp_region_quiet_below (by kernel_rfl) (by kernel_rfl) ?_
         repeat (quiet_step (first | (go_at_call 26; exact LYr.out _ _) | (go_at_call 31; exact LYc.out _ _)))
         refine wpQuiet_nil ?_
         intro _ hw'
         obtain ⟨⟨dq, osq⟩, hw''⟩ := hw'
         subst hw''
         have hb3 := Nb hb1 (below_regrown W1 dq osq)
         clear LYr LYc y0 y1 y2 hb1 x0 x1 x2 f0 f1 f2 X1
         generalize Go.Sort.grow (redrawn W1 dq) osq = v at *
         go_wp2
         go_ret
         exact ⟨rfl, hb3⟩)


set_option maxHeartbeats 2000000 in
theorem Mo.rd_y6 (sa si sk sd sh : Bool) (na da ni di nk dk nd dd nh dh : ByteArray) (m : Int) (zna : na.size ≤ 9223372036854775807) (zda : da.size ≤ 9223372036854775807) (hne : (m != 9223372036854775807) = true) (h1 : ¬ (60 : Int) < (na.size : Int)) (h2 : ¬ (60 : Int) < (da.size : Int)) (k : Int) (hk : (k.tmod 2 == 0) = true) (w : World)
    (H : Hid (∀ v, Below w.heap.size w v → Calls Tryz.prog 10 #[] v fun e w' => e = .returned (.bool true) ∧ Below v.heap.size v w'))
    (O1 : Hid (∀ v, Below w.heap.size w v → Calls Tryz.prog 26 #[.int .i64 m, .int .i64 1] v fun e w' => e = .returned (rV (si, ni, di)) ∧ Below v.heap.size v w'))
    (RI : Hid (∀ v, Below w.heap.size w v → Calls Tryz.prog 21 #[rV (si, ni, di)] v fun e w' => e = .returned (.tuple #[.int .i64 m, .int .i64 0]) ∧ Below v.heap.size v w'))
    (RA : Hid (∀ v, Below w.heap.size w v → Calls Tryz.prog 21 #[rV (sa, na, da)] v fun e w' => e = .returned (.tuple #[.int .i64 k, .int .i64 0]) ∧ Below v.heap.size v w'))
    (OK : Hid (∀ v, Below w.heap.size w v → Calls Tryz.prog 26 #[.int .i64 k, .int .i64 1] v fun e w' => e = .returned (rV (sk, nk, dk)) ∧ Below v.heap.size v w'))
    (SU : Hid (∀ v, Below w.heap.size w v → Calls Tryz.prog 30 #[rV (sa, na, da), rV (sk, nk, dk)] v fun e w' => e = .returned (.tuple #[rV (sd, nd, dd), .int .i64 0]) ∧ Below v.heap.size v w'))
    (OH : Hid (∀ v, Below w.heap.size w v → Calls Tryz.prog 26 #[.int .i64 1, .int .i64 2] v fun e w' => e = .returned (rV (sh, nh, dh)) ∧ Below v.heap.size v w'))
    (CM : Hid (∀ v, Below w.heap.size w v → Calls Tryz.prog 31 #[rV (false, nd, dd), rV (sh, nh, dh)] v fun e w' => e = .returned (.tuple #[.int .i64 0, .int .i64 0]) ∧ Below v.heap.size v w')) :
    Calls Tryz.prog 7 #[rV (sa, na, da), .int .i64 m] w fun e w' => e = .returned (.bool true) ∧ Below w.heap.size w w' := by
  obtain ⟨hb0, A0⟩ := start1 w (sa, na, da) _ rfl
  unfold ob at hb0 A0
  unfold rV at O1 RI RA OK SU OH CM ⊢
  simp only at hb0 A0 O1 RI RA OK SU OH CM ⊢
  go_enter Tryz.func7, Tryz.ntmps7
  go_wp2_with fail
  refine (H.out _ hb0).mono ?_
  rintro e w1 ⟨rfl, g⟩
  have hb1 := Nb hb0 (g)
  have A1 := A0.bt (g)
  clear hb0 A0 g
  go_wp2_with fail
  refine (O1.out _ hb1).mono ?_
  rintro e w2 ⟨rfl, g⟩
  have hb2 := Nb hb1 (g)
  have A2 := A1.bt (g)
  clear hb1 A1 g
  have hb2x := Nb hb2 (al w2 (.cells #[.bool si, .string ni, .string di] 32))
  have A2x := A2.bt (al w2 (.cells #[.bool si, .string ni, .string di] 32))
  clear hb2 A2 
  have Xi2x := At.new w2 si ni di
  obtain ⟨Xic0, Xic1, Xic2, _, _, _⟩ := Xi2x.cells
  go_wp2_with fail
  refine (RI.out _ hb2x).mono ?_
  rintro e w3 ⟨rfl, g⟩
  clear Xic0 Xic1 Xic2
  have hb3 := Nb hb2x (g)
  have A3 := A2x.bt (g)
  have Xi3 := Xi2x.bt (g)
  clear hb2x A2x Xi2x g
  obtain ⟨Ac0, Ac1, Ac2, _, _, _⟩ := A3.cells
  go_wp2_with fail
  refine (RA.out _ hb3).mono ?_
  rintro e w4 ⟨rfl, g⟩
  clear Ac0 Ac1 Ac2
  have hb4 := Nb hb3 (g)
  have A4 := A3.bt (g)
  have Xi4 := Xi3.bt (g)
  clear hb3 A3 Xi3 g
  obtain ⟨Ac0, Ac1, Ac2, _, _, _⟩ := A4.cells
  go_wp2_with fail
  clear Xi4 H O1 RI RA h1 h2
  have N4 : w.heap.size < w4.heap.size := (Array.getElem?_eq_some_iff.1 (show w4.heap[w.heap.size]? = _ from A4)).1
  have S4 := Lib.hid (three A4)
  have S4d := Lib.hid (three (A4.bt (Bd w4)))
  have T4 := Lib.hid (three (A4.bt (al w4 (.cells #[.bool false, .string ⟨#[]⟩, .string ⟨#[]⟩] 32))))
  have T4d := Lib.hid (three ((A4.bt (al w4 (.cells #[.bool false, .string ⟨#[]⟩, .string ⟨#[]⟩] 32))).bt (Bd _)))
  go_region_held3 (fun w' => w'.cell? ⟨w.heap.size, 0, none⟩ = some (.bool sa) ∧ w'.cell? ⟨w.heap.size, 1, none⟩ = some (.string na) ∧ w'.cell? ⟨w.heap.size, 2, none⟩ = some (.string da)) (first | exact SS.out | exact T6.out | exact S6.out | exact T5.out | exact S5.out | exact T4d.out | exact T4.out | exact S4d.out | exact S4.out | go_keep)
    (first
      | (go_at_call 26
         (with_reducible refine (OK.out _ (Nb hb4 (Bd w4))).mono ?_)
         rintro e w5 ⟨rfl, g5⟩
         have hb5 := Nb (Nb hb4 (Bd w4)) g5
         have A5 := (A4.bt (Bd w4)).bt g5
         have S5 := Lib.hid (three A5)
         have T5 := Lib.hid (three (A5.bt (al w5 (.cells #[.bool false, .string ⟨#[]⟩, .string ⟨#[]⟩] 32)))))
      | (go_at_call 26
         (with_reducible refine (OK.out _ (Nb hb4 (Nb (al w4 (.cells #[.bool false, .string ⟨#[]⟩, .string ⟨#[]⟩] 32)) (Bd _)))).mono ?_)
         rintro e w5 ⟨rfl, g5⟩
         have hb5 := Nb (Nb hb4 (Nb (al w4 (.cells #[.bool false, .string ⟨#[]⟩, .string ⟨#[]⟩] 32)) (Bd _))) g5
         have A5 := (A4.bt (Nb (al w4 (.cells #[.bool false, .string ⟨#[]⟩, .string ⟨#[]⟩] 32)) (Bd _))).bt g5
         have BX5 := (At.new w4 false ⟨#[]⟩ ⟨#[]⟩).bt (Nb (Bd _) g5)
         have N5 := N4
         obtain ⟨b0, b1, b2, e0, e1, e2⟩ := BX5.cells
         have S5 := Lib.hid (three A5))
      | (go_at_call 30
         (with_reducible refine (SU.out _ hb5).mono ?_)
         rintro e w6 ⟨rfl, g6⟩
         have hb6 := Nb hb5 g6
         have A6 := A5.bt g6
         have BX6 := BX5.bt g6
         have N6 := N5
         obtain ⟨b0, b1, b2, e0, e1, e2⟩ := BX6.cells
         have S6 := Lib.hid (three A6)
         have SS := Lib.hid (three (A6.far (show w.heap.size ≠ w4.heap.size by omega) (sd, nd, dd))))
      | (go_at_call 30
         (with_reducible refine (SU.out _ hb5).mono ?_)
         rintro e w6 ⟨rfl, g6⟩
         have hb6 := Nb hb5 g6
         have A6 := A5.bt g6
         have S6 := Lib.hid (three A6)
         have T6 := Lib.hid (three (A6.bt (al w6 (.cells #[.bool false, .string ⟨#[]⟩, .string ⟨#[]⟩] 32))))
         have SS := Lib.hid (three (A6.bt (al w6 (.cells #[.bool sd, .string nd, .string dd] 32)))))
      | (go_at_call 30
         (with_reducible refine (SU.out _ (Nb hb5 (al w5 (.cells #[.bool false, .string ⟨#[]⟩, .string ⟨#[]⟩] 32)))).mono ?_)
         rintro e w6 ⟨rfl, g6⟩
         have hb6 := Nb (Nb hb5 (al w5 (.cells #[.bool false, .string ⟨#[]⟩, .string ⟨#[]⟩] 32))) g6
         have A6 := (A5.bt (al w5 (.cells #[.bool false, .string ⟨#[]⟩, .string ⟨#[]⟩] 32))).bt g6
         have BX6 := (At.new w5 false ⟨#[]⟩ ⟨#[]⟩).bt g6
         have N6 : w.heap.size < w5.heap.size := (Array.getElem?_eq_some_iff.1 (show w5.heap[w.heap.size]? = _ from A5)).1
         obtain ⟨b0, b1, b2, e0, e1, e2⟩ := BX6.cells
         have S6 := Lib.hid (three A6)
         have SS := Lib.hid (three (A6.far (show w.heap.size ≠ w5.heap.size by omega) (sd, nd, dd))))
      | fail)
  all_goals
    first
      | (have FF := Mo.fin_new hb6 (sd, nd, dd)
         have HLE := hb6.size
         refine gen (P := Exit.then _ _ _ _) _ ?_
         intro W hW
         obtain ⟨hbF, XF⟩ := FF W hW
         clear FF hW A6 A5 hb6 hb5
         obtain ⟨x0, x1, x2, f0, f1, f2⟩ := XF.cells
         go_wp2_with fail
         have X1 := XF.set1 false
         have hb1 := hbF.setCell (p := ⟨_, 0, none⟩) HLE (.bool false)
         clear x0 x1 x2 f0 f1 f2 XF hbF
         generalize W.setCell _ (.bool false) = W1 at *
         obtain ⟨x0, x1, x2, f0, f1, f2⟩ := X1.cells
         have y0 := fun dq os => cell_regrown x0 dq os
         have y1 := fun dq os => cell_regrown x1 dq os
         have y2 := fun dq os => cell_regrown x2 dq os
         have LYr := Lib.hid (fun dq os => Calls.regrown_of (OH.out (Go.Sort.grow (redrawn W1 dq) os) (Nb hb1 (below_regrown W1 dq os))))
         have LYc := Lib.hid (fun dq os => Calls.regrown_of (CM.out (Go.Sort.grow (redrawn W1 dq) os) (Nb hb1 (below_regrown W1 dq os))))
         refine wp_region_quiet_below (by kernel_rfl) (by kernel_rfl) ?_
         repeat (quiet_step (first | (go_at_call 26; exact LYr.out _ _) | (go_at_call 31; exact LYc.out _ _)))
         refine wpQuiet_nil ?_
         intro _ hw'
         obtain ⟨⟨dq, osq⟩, hw''⟩ := hw'
         subst hw''
         have hb3 := Nb hb1 (below_regrown W1 dq osq)
         clear LYr LYc y0 y1 y2 hb1 x0 x1 x2 f0 f1 f2 X1
         generalize Go.Sort.grow (redrawn W1 dq) osq = v at *
         go_wp2
         go_ret
         exact ⟨rfl, hb3⟩)
      | (have FF := Mo.fin_old hb6 (b := w4.heap.size) BX6 N6 (sd, nd, dd)
         have HLE : w.heap.size ≤ w4.heap.size := by omega
         refine gen (P := Exit.then _ _ _ _) _ ?_
         intro W hW
         obtain ⟨hbF, XF⟩ := FF W hW
         clear FF hW A6 A5 BX6 BX5 hb6 hb5 b0 b1 b2 e0 e1 e2
         obtain ⟨x0, x1, x2, f0, f1, f2⟩ := XF.cells
         go_wp2_with fail
         have X1 := XF.set1 false
         have hb1 := hbF.setCell (p := ⟨_, 0, none⟩) HLE (.bool false)
         clear x0 x1 x2 f0 f1 f2 XF hbF
         generalize W.setCell _ (.bool false) = W1 at *
         obtain ⟨x0, x1, x2, f0, f1, f2⟩ := X1.cells
         have y0 := fun dq os => cell_regrown x0 dq os
         have y1 := fun dq os => cell_regrown x1 dq os
         have y2 := fun dq os => cell_regrown x2 dq os
         have LYr := Lib.hid (fun dq os => Calls.regrown_of (OH.out (Go.Sort.grow (redrawn W1 dq) os) (Nb hb1 (below_regrown W1 dq os))))
         have LYc := Lib.hid (fun dq os => Calls.regrown_of (CM.out (Go.Sort.grow (redrawn W1 dq) os) (Nb hb1 (below_regrown W1 dq os))))
         refine wp_region_quiet_below (by kernel_rfl) (by kernel_rfl) ?_
         repeat (quiet_step (first | (go_at_call 26; exact LYr.out _ _) | (go_at_call 31; exact LYc.out _ _)))
         refine wpQuiet_nil ?_
         intro _ hw'
         obtain ⟨⟨dq, osq⟩, hw''⟩ := hw'
         subst hw''
         have hb3 := Nb hb1 (below_regrown W1 dq osq)
         clear LYr LYc y0 y1 y2 hb1 x0 x1 x2 f0 f1 f2 X1
         generalize Go.Sort.grow (redrawn W1 dq) osq = v at *
         go_wp2
         go_ret
         exact ⟨rfl, hb3⟩)
      | (have FF := Mo.fin_old hb6 (b := w5.heap.size) BX6 N6 (sd, nd, dd)
         have HLE : w.heap.size ≤ w5.heap.size := by omega
         refine gen (P := Exit.then _ _ _ _) _ ?_
         intro W hW
         obtain ⟨hbF, XF⟩ := FF W hW
         clear FF hW A6 A5 BX6 hb6 hb5 b0 b1 b2 e0 e1 e2
         obtain ⟨x0, x1, x2, f0, f1, f2⟩ := XF.cells
         go_wp2_with fail
         have X1 := XF.set1 false
         have hb1 := hbF.setCell (p := ⟨_, 0, none⟩) HLE (.bool false)
         clear x0 x1 x2 f0 f1 f2 XF hbF
         generalize W.setCell _ (.bool false) = W1 at *
         obtain ⟨x0, x1, x2, f0, f1, f2⟩ := X1.cells
         have y0 := fun dq os => cell_regrown x0 dq os
         have y1 := fun dq os => cell_regrown x1 dq os
         have y2 := fun dq os => cell_regrown x2 dq os
         have LYr := Lib.hid (fun dq os => Calls.regrown_of (OH.out (Go.Sort.grow (redrawn W1 dq) os) (Nb hb1 (below_regrown W1 dq os))))
         have LYc := Lib.hid (fun dq os => Calls.regrown_of (CM.out (Go.Sort.grow (redrawn W1 dq) os) (Nb hb1 (below_regrown W1 dq os))))
         refine wp_region_quiet_below (by kernel_rfl) (by kernel_rfl) ?_
         repeat (quiet_step (first | (go_at_call 26; exact LYr.out _ _) | (go_at_call 31; exact LYc.out _ _)))
         refine wpQuiet_nil ?_
         intro _ hw'
         obtain ⟨⟨dq, osq⟩, hw''⟩ := hw'
         subst hw''
         have hb3 := Nb hb1 (below_regrown W1 dq osq)
         clear LYr LYc y0 y1 y2 hb1 x0 x1 x2 f0 f1 f2 X1
         generalize Go.Sort.grow (redrawn W1 dq) osq = v at *
         go_wp2
         go_ret
         exact ⟨rfl, hb3⟩)


set_option maxHeartbeats 2000000 in
theorem Mo.rd_n1 (sa si : Bool) (na da ni di : ByteArray) (m : Int) (zna : na.size ≤ 9223372036854775807) (zda : da.size ≤ 9223372036854775807) (hm : m = 9223372036854775807) (h1 : (60 : Int) < (na.size : Int)) (w : World)
    (H : Hid (∀ v, Below w.heap.size w v → Calls Tryz.prog 10 #[] v fun e w' => e = .returned (.bool true) ∧ Below v.heap.size v w'))
    (O1 : Hid (∀ v, Below w.heap.size w v → Calls Tryz.prog 26 #[.int .i64 m, .int .i64 1] v fun e w' => e = .returned (rV (si, ni, di)) ∧ Below v.heap.size v w'))
    (RI : Hid (∀ v, Below w.heap.size w v → Calls Tryz.prog 21 #[rV (si, ni, di)] v fun e w' => e = .returned (.tuple #[.int .i64 0, .int .i64 10]) ∧ Below v.heap.size v w')) :
    Calls Tryz.prog 7 #[rV (sa, na, da), .int .i64 m] w fun e w' => e = .returned (.bool true) ∧ Below w.heap.size w w' := by
  subst hm
  obtain ⟨hb0, A0⟩ := start1 w (sa, na, da) _ rfl
  unfold ob at hb0 A0
  unfold rV at O1 RI ⊢
  simp only at hb0 A0 O1 RI ⊢
  go_enter Tryz.func7, Tryz.ntmps7
  go_wp2_with fail
  refine (H.out _ hb0).mono ?_
  rintro e w1 ⟨rfl, g⟩
  have hb1 := Nb hb0 (g)
  have A1 := A0.bt (g)
  clear hb0 A0 g
  go_wp2_with fail
  refine (O1.out _ hb1).mono ?_
  rintro e w2 ⟨rfl, g⟩
  have hb2 := Nb hb1 (g)
  have A2 := A1.bt (g)
  clear hb1 A1 g
  have hb2x := Nb hb2 (al w2 (.cells #[.bool si, .string ni, .string di] 32))
  have A2x := A2.bt (al w2 (.cells #[.bool si, .string ni, .string di] 32))
  clear hb2 A2 
  have Xi2x := At.new w2 si ni di
  obtain ⟨Xic0, Xic1, Xic2, _, _, _⟩ := Xi2x.cells
  go_wp2_with fail
  refine (RI.out _ hb2x).mono ?_
  rintro e w3 ⟨rfl, g⟩
  clear Xic0 Xic1 Xic2
  have hb3 := Nb hb2x (g)
  have A3 := A2x.bt (g)
  have Xi3 := Xi2x.bt (g)
  clear hb2x A2x Xi2x g
  obtain ⟨Ac0, Ac1, Ac2, _, _, _⟩ := A3.cells
  go_wp2_with fail
  go_ret
  exact ⟨rfl, hb3⟩


set_option maxHeartbeats 2000000 in
theorem Mo.rd_n2 (sa si : Bool) (na da ni di : ByteArray) (m : Int) (zna : na.size ≤ 9223372036854775807) (zda : da.size ≤ 9223372036854775807) (hm : m = 9223372036854775807) (h1 : ¬ (60 : Int) < (na.size : Int)) (h2 : (60 : Int) < (da.size : Int)) (w : World)
    (H : Hid (∀ v, Below w.heap.size w v → Calls Tryz.prog 10 #[] v fun e w' => e = .returned (.bool true) ∧ Below v.heap.size v w'))
    (O1 : Hid (∀ v, Below w.heap.size w v → Calls Tryz.prog 26 #[.int .i64 m, .int .i64 1] v fun e w' => e = .returned (rV (si, ni, di)) ∧ Below v.heap.size v w'))
    (RI : Hid (∀ v, Below w.heap.size w v → Calls Tryz.prog 21 #[rV (si, ni, di)] v fun e w' => e = .returned (.tuple #[.int .i64 0, .int .i64 10]) ∧ Below v.heap.size v w')) :
    Calls Tryz.prog 7 #[rV (sa, na, da), .int .i64 m] w fun e w' => e = .returned (.bool true) ∧ Below w.heap.size w w' := by
  subst hm
  obtain ⟨hb0, A0⟩ := start1 w (sa, na, da) _ rfl
  unfold ob at hb0 A0
  unfold rV at O1 RI ⊢
  simp only at hb0 A0 O1 RI ⊢
  go_enter Tryz.func7, Tryz.ntmps7
  go_wp2_with fail
  refine (H.out _ hb0).mono ?_
  rintro e w1 ⟨rfl, g⟩
  have hb1 := Nb hb0 (g)
  have A1 := A0.bt (g)
  clear hb0 A0 g
  go_wp2_with fail
  refine (O1.out _ hb1).mono ?_
  rintro e w2 ⟨rfl, g⟩
  have hb2 := Nb hb1 (g)
  have A2 := A1.bt (g)
  clear hb1 A1 g
  have hb2x := Nb hb2 (al w2 (.cells #[.bool si, .string ni, .string di] 32))
  have A2x := A2.bt (al w2 (.cells #[.bool si, .string ni, .string di] 32))
  clear hb2 A2 
  have Xi2x := At.new w2 si ni di
  obtain ⟨Xic0, Xic1, Xic2, _, _, _⟩ := Xi2x.cells
  go_wp2_with fail
  refine (RI.out _ hb2x).mono ?_
  rintro e w3 ⟨rfl, g⟩
  clear Xic0 Xic1 Xic2
  have hb3 := Nb hb2x (g)
  have A3 := A2x.bt (g)
  have Xi3 := Xi2x.bt (g)
  clear hb2x A2x Xi2x g
  obtain ⟨Ac0, Ac1, Ac2, _, _, _⟩ := A3.cells
  go_wp2_with fail
  go_ret
  exact ⟨rfl, hb3⟩


set_option maxHeartbeats 2000000 in
theorem Mo.rd_n3 (sa si : Bool) (na da ni di : ByteArray) (m : Int) (zna : na.size ≤ 9223372036854775807) (zda : da.size ≤ 9223372036854775807) (hm : m = 9223372036854775807) (h1 : ¬ (60 : Int) < (na.size : Int)) (h2 : ¬ (60 : Int) < (da.size : Int)) (w : World)
    (H : Hid (∀ v, Below w.heap.size w v → Calls Tryz.prog 10 #[] v fun e w' => e = .returned (.bool true) ∧ Below v.heap.size v w'))
    (O1 : Hid (∀ v, Below w.heap.size w v → Calls Tryz.prog 26 #[.int .i64 m, .int .i64 1] v fun e w' => e = .returned (rV (si, ni, di)) ∧ Below v.heap.size v w'))
    (RI : Hid (∀ v, Below w.heap.size w v → Calls Tryz.prog 21 #[rV (si, ni, di)] v fun e w' => e = .returned (.tuple #[.int .i64 0, .int .i64 10]) ∧ Below v.heap.size v w'))
    (RA : Hid (∀ v, Below w.heap.size w v → Calls Tryz.prog 21 #[rV (sa, na, da)] v fun e w' => e = .returned (.tuple #[.int .i64 0, .int .i64 1]) ∧ Below v.heap.size v w'))
    (VA : Hid (∀ v, Below w.heap.size w v → Calls Tryz.prog 29 #[rV (sa, na, da)] v fun e w' => e = .returned (.bool false) ∧ Below v.heap.size v w')) :
    Calls Tryz.prog 7 #[rV (sa, na, da), .int .i64 m] w fun e w' => e = .returned (.bool true) ∧ Below w.heap.size w w' := by
  subst hm
  obtain ⟨hb0, A0⟩ := start1 w (sa, na, da) _ rfl
  unfold ob at hb0 A0
  unfold rV at O1 RI RA VA ⊢
  simp only at hb0 A0 O1 RI RA VA ⊢
  go_enter Tryz.func7, Tryz.ntmps7
  go_wp2_with fail
  refine (H.out _ hb0).mono ?_
  rintro e w1 ⟨rfl, g⟩
  have hb1 := Nb hb0 (g)
  have A1 := A0.bt (g)
  clear hb0 A0 g
  go_wp2_with fail
  refine (O1.out _ hb1).mono ?_
  rintro e w2 ⟨rfl, g⟩
  have hb2 := Nb hb1 (g)
  have A2 := A1.bt (g)
  clear hb1 A1 g
  have hb2x := Nb hb2 (al w2 (.cells #[.bool si, .string ni, .string di] 32))
  have A2x := A2.bt (al w2 (.cells #[.bool si, .string ni, .string di] 32))
  clear hb2 A2 
  have Xi2x := At.new w2 si ni di
  obtain ⟨Xic0, Xic1, Xic2, _, _, _⟩ := Xi2x.cells
  go_wp2_with fail
  refine (RI.out _ hb2x).mono ?_
  rintro e w3 ⟨rfl, g⟩
  clear Xic0 Xic1 Xic2
  have hb3 := Nb hb2x (g)
  have A3 := A2x.bt (g)
  have Xi3 := Xi2x.bt (g)
  clear hb2x A2x Xi2x g
  obtain ⟨Ac0, Ac1, Ac2, _, _, _⟩ := A3.cells
  go_wp2_with fail
  refine (RA.out _ hb3).mono ?_
  rintro e w4 ⟨rfl, g⟩
  clear Ac0 Ac1 Ac2
  have hb4 := Nb hb3 (g)
  have A4 := A3.bt (g)
  have Xi4 := Xi3.bt (g)
  clear hb3 A3 Xi3 g
  obtain ⟨Ac0, Ac1, Ac2, _, _, _⟩ := A4.cells
  go_wp2_with fail
  refine (VA.out _ hb4).mono ?_
  rintro e w5 ⟨rfl, g⟩
  clear Ac0 Ac1 Ac2
  have hb5 := Nb hb4 (g)
  have A5 := A4.bt (g)
  have Xi5 := Xi4.bt (g)
  clear hb4 A4 Xi4 g
  go_wp2_with fail
  go_ret
  exact ⟨rfl, hb5⟩


set_option maxHeartbeats 2000000 in
theorem Mo.rd_n4 (sa si : Bool) (na da ni di : ByteArray) (m : Int) (zna : na.size ≤ 9223372036854775807) (zda : da.size ≤ 9223372036854775807) (hm : m = 9223372036854775807) (h1 : ¬ (60 : Int) < (na.size : Int)) (h2 : ¬ (60 : Int) < (da.size : Int)) (w : World)
    (H : Hid (∀ v, Below w.heap.size w v → Calls Tryz.prog 10 #[] v fun e w' => e = .returned (.bool true) ∧ Below v.heap.size v w'))
    (O1 : Hid (∀ v, Below w.heap.size w v → Calls Tryz.prog 26 #[.int .i64 m, .int .i64 1] v fun e w' => e = .returned (rV (si, ni, di)) ∧ Below v.heap.size v w'))
    (RI : Hid (∀ v, Below w.heap.size w v → Calls Tryz.prog 21 #[rV (si, ni, di)] v fun e w' => e = .returned (.tuple #[.int .i64 0, .int .i64 10]) ∧ Below v.heap.size v w'))
    (RA : Hid (∀ v, Below w.heap.size w v → Calls Tryz.prog 21 #[rV (sa, na, da)] v fun e w' => e = .returned (.tuple #[.int .i64 0, .int .i64 10]) ∧ Below v.heap.size v w'))
    (VA : Hid (∀ v, Below w.heap.size w v → Calls Tryz.prog 29 #[rV (sa, na, da)] v fun e w' => e = .returned (.bool true) ∧ Below v.heap.size v w')) :
    Calls Tryz.prog 7 #[rV (sa, na, da), .int .i64 m] w fun e w' => e = .returned (.bool true) ∧ Below w.heap.size w w' := by
  subst hm
  obtain ⟨hb0, A0⟩ := start1 w (sa, na, da) _ rfl
  unfold ob at hb0 A0
  unfold rV at O1 RI RA VA ⊢
  simp only at hb0 A0 O1 RI RA VA ⊢
  go_enter Tryz.func7, Tryz.ntmps7
  go_wp2_with fail
  refine (H.out _ hb0).mono ?_
  rintro e w1 ⟨rfl, g⟩
  have hb1 := Nb hb0 (g)
  have A1 := A0.bt (g)
  clear hb0 A0 g
  go_wp2_with fail
  refine (O1.out _ hb1).mono ?_
  rintro e w2 ⟨rfl, g⟩
  have hb2 := Nb hb1 (g)
  have A2 := A1.bt (g)
  clear hb1 A1 g
  have hb2x := Nb hb2 (al w2 (.cells #[.bool si, .string ni, .string di] 32))
  have A2x := A2.bt (al w2 (.cells #[.bool si, .string ni, .string di] 32))
  clear hb2 A2 
  have Xi2x := At.new w2 si ni di
  obtain ⟨Xic0, Xic1, Xic2, _, _, _⟩ := Xi2x.cells
  go_wp2_with fail
  refine (RI.out _ hb2x).mono ?_
  rintro e w3 ⟨rfl, g⟩
  clear Xic0 Xic1 Xic2
  have hb3 := Nb hb2x (g)
  have A3 := A2x.bt (g)
  have Xi3 := Xi2x.bt (g)
  clear hb2x A2x Xi2x g
  obtain ⟨Ac0, Ac1, Ac2, _, _, _⟩ := A3.cells
  go_wp2_with fail
  refine (RA.out _ hb3).mono ?_
  rintro e w4 ⟨rfl, g⟩
  clear Ac0 Ac1 Ac2
  have hb4 := Nb hb3 (g)
  have A4 := A3.bt (g)
  have Xi4 := Xi3.bt (g)
  clear hb3 A3 Xi3 g
  obtain ⟨Ac0, Ac1, Ac2, _, _, _⟩ := A4.cells
  go_wp2_with fail
  refine (VA.out _ hb4).mono ?_
  rintro e w5 ⟨rfl, g⟩
  clear Ac0 Ac1 Ac2
  have hb5 := Nb hb4 (g)
  have A5 := A4.bt (g)
  have Xi5 := Xi4.bt (g)
  clear hb4 A4 Xi4 g
  go_wp2_with fail
  go_ret
  exact ⟨rfl, hb5⟩


set_option maxHeartbeats 2000000 in
theorem Mo.rd_n5 (sa si sk sd sh : Bool) (na da ni di nk dk nd dd nh dh : ByteArray) (m : Int) (zna : na.size ≤ 9223372036854775807) (zda : da.size ≤ 9223372036854775807) (hm : m = 9223372036854775807) (h1 : ¬ (60 : Int) < (na.size : Int)) (h2 : ¬ (60 : Int) < (da.size : Int)) (k : Int) (w : World)
    (H : Hid (∀ v, Below w.heap.size w v → Calls Tryz.prog 10 #[] v fun e w' => e = .returned (.bool true) ∧ Below v.heap.size v w'))
    (O1 : Hid (∀ v, Below w.heap.size w v → Calls Tryz.prog 26 #[.int .i64 m, .int .i64 1] v fun e w' => e = .returned (rV (si, ni, di)) ∧ Below v.heap.size v w'))
    (RI : Hid (∀ v, Below w.heap.size w v → Calls Tryz.prog 21 #[rV (si, ni, di)] v fun e w' => e = .returned (.tuple #[.int .i64 0, .int .i64 10]) ∧ Below v.heap.size v w'))
    (RA : Hid (∀ v, Below w.heap.size w v → Calls Tryz.prog 21 #[rV (sa, na, da)] v fun e w' => e = .returned (.tuple #[.int .i64 k, .int .i64 0]) ∧ Below v.heap.size v w'))
    (OK : Hid (∀ v, Below w.heap.size w v → Calls Tryz.prog 26 #[.int .i64 k, .int .i64 1] v fun e w' => e = .returned (rV (sk, nk, dk)) ∧ Below v.heap.size v w'))
    (SU : Hid (∀ v, Below w.heap.size w v → Calls Tryz.prog 30 #[rV (sa, na, da), rV (sk, nk, dk)] v fun e w' => e = .returned (.tuple #[rV (sd, nd, dd), .int .i64 0]) ∧ Below v.heap.size v w'))
    (OH : Hid (∀ v, Below w.heap.size w v → Calls Tryz.prog 26 #[.int .i64 1, .int .i64 2] v fun e w' => e = .returned (rV (sh, nh, dh)) ∧ Below v.heap.size v w'))
    (CM : Hid (∀ v, Below w.heap.size w v → Calls Tryz.prog 31 #[rV (false, nd, dd), rV (sh, nh, dh)] v fun e w' => e = .returned (.tuple #[.int .i64 (-1), .int .i64 0]) ∧ Below v.heap.size v w')) :
    Calls Tryz.prog 7 #[rV (sa, na, da), .int .i64 m] w fun e w' => e = .returned (.bool true) ∧ Below w.heap.size w w' := by
  subst hm
  obtain ⟨hb0, A0⟩ := start1 w (sa, na, da) _ rfl
  unfold ob at hb0 A0
  unfold rV at O1 RI RA OK SU OH CM ⊢
  simp only at hb0 A0 O1 RI RA OK SU OH CM ⊢
  go_enter Tryz.func7, Tryz.ntmps7
  go_wp2_with fail
  refine (H.out _ hb0).mono ?_
  rintro e w1 ⟨rfl, g⟩
  have hb1 := Nb hb0 (g)
  have A1 := A0.bt (g)
  clear hb0 A0 g
  go_wp2_with fail
  refine (O1.out _ hb1).mono ?_
  rintro e w2 ⟨rfl, g⟩
  have hb2 := Nb hb1 (g)
  have A2 := A1.bt (g)
  clear hb1 A1 g
  have hb2x := Nb hb2 (al w2 (.cells #[.bool si, .string ni, .string di] 32))
  have A2x := A2.bt (al w2 (.cells #[.bool si, .string ni, .string di] 32))
  clear hb2 A2 
  have Xi2x := At.new w2 si ni di
  obtain ⟨Xic0, Xic1, Xic2, _, _, _⟩ := Xi2x.cells
  go_wp2_with fail
  refine (RI.out _ hb2x).mono ?_
  rintro e w3 ⟨rfl, g⟩
  clear Xic0 Xic1 Xic2
  have hb3 := Nb hb2x (g)
  have A3 := A2x.bt (g)
  have Xi3 := Xi2x.bt (g)
  clear hb2x A2x Xi2x g
  obtain ⟨Ac0, Ac1, Ac2, _, _, _⟩ := A3.cells
  go_wp2_with fail
  refine (RA.out _ hb3).mono ?_
  rintro e w4 ⟨rfl, g⟩
  clear Ac0 Ac1 Ac2
  have hb4 := Nb hb3 (g)
  have A4 := A3.bt (g)
  have Xi4 := Xi3.bt (g)
  clear hb3 A3 Xi3 g
  obtain ⟨Ac0, Ac1, Ac2, _, _, _⟩ := A4.cells
  go_wp2_with fail
  clear Xi4 H O1 RI RA h1 h2
  have N4 : w.heap.size < w4.heap.size := (Array.getElem?_eq_some_iff.1 (show w4.heap[w.heap.size]? = _ from A4)).1
  have S4 := Lib.hid (three A4)
  have S4d := Lib.hid (three (A4.bt (Bd w4)))
  have T4 := Lib.hid (three (A4.bt (al w4 (.cells #[.bool false, .string ⟨#[]⟩, .string ⟨#[]⟩] 32))))
  have T4d := Lib.hid (three ((A4.bt (al w4 (.cells #[.bool false, .string ⟨#[]⟩, .string ⟨#[]⟩] 32))).bt (Bd _)))
  go_region_held3 (fun w' => w'.cell? ⟨w.heap.size, 0, none⟩ = some (.bool sa) ∧ w'.cell? ⟨w.heap.size, 1, none⟩ = some (.string na) ∧ w'.cell? ⟨w.heap.size, 2, none⟩ = some (.string da)) (first | exact SS.out | exact T6.out | exact S6.out | exact T5.out | exact S5.out | exact T4d.out | exact T4.out | exact S4d.out | exact S4.out | go_keep)
    (first
      | (go_at_call 26
         (with_reducible refine (OK.out _ (Nb hb4 (Bd w4))).mono ?_)
         rintro e w5 ⟨rfl, g5⟩
         have hb5 := Nb (Nb hb4 (Bd w4)) g5
         have A5 := (A4.bt (Bd w4)).bt g5
         have S5 := Lib.hid (three A5)
         have T5 := Lib.hid (three (A5.bt (al w5 (.cells #[.bool false, .string ⟨#[]⟩, .string ⟨#[]⟩] 32)))))
      | (go_at_call 26
         (with_reducible refine (OK.out _ (Nb hb4 (Nb (al w4 (.cells #[.bool false, .string ⟨#[]⟩, .string ⟨#[]⟩] 32)) (Bd _)))).mono ?_)
         rintro e w5 ⟨rfl, g5⟩
         have hb5 := Nb (Nb hb4 (Nb (al w4 (.cells #[.bool false, .string ⟨#[]⟩, .string ⟨#[]⟩] 32)) (Bd _))) g5
         have A5 := (A4.bt (Nb (al w4 (.cells #[.bool false, .string ⟨#[]⟩, .string ⟨#[]⟩] 32)) (Bd _))).bt g5
         have BX5 := (At.new w4 false ⟨#[]⟩ ⟨#[]⟩).bt (Nb (Bd _) g5)
         have N5 := N4
         obtain ⟨b0, b1, b2, e0, e1, e2⟩ := BX5.cells
         have S5 := Lib.hid (three A5))
      | (go_at_call 30
         (with_reducible refine (SU.out _ hb5).mono ?_)
         rintro e w6 ⟨rfl, g6⟩
         have hb6 := Nb hb5 g6
         have A6 := A5.bt g6
         have BX6 := BX5.bt g6
         have N6 := N5
         obtain ⟨b0, b1, b2, e0, e1, e2⟩ := BX6.cells
         have S6 := Lib.hid (three A6)
         have SS := Lib.hid (three (A6.far (show w.heap.size ≠ w4.heap.size by omega) (sd, nd, dd))))
      | (go_at_call 30
         (with_reducible refine (SU.out _ hb5).mono ?_)
         rintro e w6 ⟨rfl, g6⟩
         have hb6 := Nb hb5 g6
         have A6 := A5.bt g6
         have S6 := Lib.hid (three A6)
         have T6 := Lib.hid (three (A6.bt (al w6 (.cells #[.bool false, .string ⟨#[]⟩, .string ⟨#[]⟩] 32))))
         have SS := Lib.hid (three (A6.bt (al w6 (.cells #[.bool sd, .string nd, .string dd] 32)))))
      | (go_at_call 30
         (with_reducible refine (SU.out _ (Nb hb5 (al w5 (.cells #[.bool false, .string ⟨#[]⟩, .string ⟨#[]⟩] 32)))).mono ?_)
         rintro e w6 ⟨rfl, g6⟩
         have hb6 := Nb (Nb hb5 (al w5 (.cells #[.bool false, .string ⟨#[]⟩, .string ⟨#[]⟩] 32))) g6
         have A6 := (A5.bt (al w5 (.cells #[.bool false, .string ⟨#[]⟩, .string ⟨#[]⟩] 32))).bt g6
         have BX6 := (At.new w5 false ⟨#[]⟩ ⟨#[]⟩).bt g6
         have N6 : w.heap.size < w5.heap.size := (Array.getElem?_eq_some_iff.1 (show w5.heap[w.heap.size]? = _ from A5)).1
         obtain ⟨b0, b1, b2, e0, e1, e2⟩ := BX6.cells
         have S6 := Lib.hid (three A6)
         have SS := Lib.hid (three (A6.far (show w.heap.size ≠ w5.heap.size by omega) (sd, nd, dd))))
      | fail)
  all_goals
    first
      | (have FF := Mo.fin_new hb6 (sd, nd, dd)
         have HLE := hb6.size
         refine gen (P := Exit.then _ _ _ _) _ ?_
         intro W hW
         obtain ⟨hbF, XF⟩ := FF W hW
         clear FF hW A6 A5 hb6 hb5
         obtain ⟨x0, x1, x2, f0, f1, f2⟩ := XF.cells
         go_wp2_with fail
         have X1 := XF.set1 false
         have hb1 := hbF.setCell (p := ⟨_, 0, none⟩) HLE (.bool false)
         clear x0 x1 x2 f0 f1 f2 XF hbF
         generalize W.setCell _ (.bool false) = W1 at *
         obtain ⟨x0, x1, x2, f0, f1, f2⟩ := X1.cells
         have y0 := fun dq os => cell_regrown x0 dq os
         have y1 := fun dq os => cell_regrown x1 dq os
         have y2 := fun dq os => cell_regrown x2 dq os
         have LYr := Lib.hid (fun dq os => Calls.regrown_of (OH.out (Go.Sort.grow (redrawn W1 dq) os) (Nb hb1 (below_regrown W1 dq os))))
         have LYc := Lib.hid (fun dq os => Calls.regrown_of (CM.out (Go.Sort.grow (redrawn W1 dq) os) (Nb hb1 (below_regrown W1 dq os))))
         refine wp_region_quiet_below (by kernel_rfl) (by kernel_rfl) ?_
         repeat (quiet_step (first | (go_at_call 26; exact LYr.out _ _) | (go_at_call 31; exact LYc.out _ _)))
         refine wpQuiet_nil ?_
         intro _ hw'
         obtain ⟨⟨dq, osq⟩, hw''⟩ := hw'
         subst hw''
         have hb3 := Nb hb1 (below_regrown W1 dq osq)
         clear LYr LYc y0 y1 y2 hb1 x0 x1 x2 f0 f1 f2 X1
         generalize Go.Sort.grow (redrawn W1 dq) osq = v at *
         go_wp2
         go_ret
         exact ⟨rfl, hb3⟩)
      | (have FF := Mo.fin_old hb6 (b := w4.heap.size) BX6 N6 (sd, nd, dd)
         have HLE : w.heap.size ≤ w4.heap.size := by omega
         refine gen (P := Exit.then _ _ _ _) _ ?_
         intro W hW
         obtain ⟨hbF, XF⟩ := FF W hW
         clear FF hW A6 A5 BX6 BX5 hb6 hb5 b0 b1 b2 e0 e1 e2
         obtain ⟨x0, x1, x2, f0, f1, f2⟩ := XF.cells
         go_wp2_with fail
         have X1 := XF.set1 false
         have hb1 := hbF.setCell (p := ⟨_, 0, none⟩) HLE (.bool false)
         clear x0 x1 x2 f0 f1 f2 XF hbF
         generalize W.setCell _ (.bool false) = W1 at *
         obtain ⟨x0, x1, x2, f0, f1, f2⟩ := X1.cells
         have y0 := fun dq os => cell_regrown x0 dq os
         have y1 := fun dq os => cell_regrown x1 dq os
         have y2 := fun dq os => cell_regrown x2 dq os
         have LYr := Lib.hid (fun dq os => Calls.regrown_of (OH.out (Go.Sort.grow (redrawn W1 dq) os) (Nb hb1 (below_regrown W1 dq os))))
         have LYc := Lib.hid (fun dq os => Calls.regrown_of (CM.out (Go.Sort.grow (redrawn W1 dq) os) (Nb hb1 (below_regrown W1 dq os))))
         refine wp_region_quiet_below (by kernel_rfl) (by kernel_rfl) ?_
         repeat (quiet_step (first | (go_at_call 26; exact LYr.out _ _) | (go_at_call 31; exact LYc.out _ _)))
         refine wpQuiet_nil ?_
         intro _ hw'
         obtain ⟨⟨dq, osq⟩, hw''⟩ := hw'
         subst hw''
         have hb3 := Nb hb1 (below_regrown W1 dq osq)
         clear LYr LYc y0 y1 y2 hb1 x0 x1 x2 f0 f1 f2 X1
         generalize Go.Sort.grow (redrawn W1 dq) osq = v at *
         go_wp2
         go_ret
         exact ⟨rfl, hb3⟩)
      | (have FF := Mo.fin_old hb6 (b := w5.heap.size) BX6 N6 (sd, nd, dd)
         have HLE : w.heap.size ≤ w5.heap.size := by omega
         refine gen (P := Exit.then _ _ _ _) _ ?_
         intro W hW
         obtain ⟨hbF, XF⟩ := FF W hW
         clear FF hW A6 A5 BX6 hb6 hb5 b0 b1 b2 e0 e1 e2
         obtain ⟨x0, x1, x2, f0, f1, f2⟩ := XF.cells
         go_wp2_with fail
         have X1 := XF.set1 false
         have hb1 := hbF.setCell (p := ⟨_, 0, none⟩) HLE (.bool false)
         clear x0 x1 x2 f0 f1 f2 XF hbF
         generalize W.setCell _ (.bool false) = W1 at *
         obtain ⟨x0, x1, x2, f0, f1, f2⟩ := X1.cells
         have y0 := fun dq os => cell_regrown x0 dq os
         have y1 := fun dq os => cell_regrown x1 dq os
         have y2 := fun dq os => cell_regrown x2 dq os
         have LYr := Lib.hid (fun dq os => Calls.regrown_of (OH.out (Go.Sort.grow (redrawn W1 dq) os) (Nb hb1 (below_regrown W1 dq os))))
         have LYc := Lib.hid (fun dq os => Calls.regrown_of (CM.out (Go.Sort.grow (redrawn W1 dq) os) (Nb hb1 (below_regrown W1 dq os))))
         refine wp_region_quiet_below (by kernel_rfl) (by kernel_rfl) ?_
         repeat (quiet_step (first | (go_at_call 26; exact LYr.out _ _) | (go_at_call 31; exact LYc.out _ _)))
         refine wpQuiet_nil ?_
         intro _ hw'
         obtain ⟨⟨dq, osq⟩, hw''⟩ := hw'
         subst hw''
         have hb3 := Nb hb1 (below_regrown W1 dq osq)
         clear LYr LYc y0 y1 y2 hb1 x0 x1 x2 f0 f1 f2 X1
         generalize Go.Sort.grow (redrawn W1 dq) osq = v at *
         go_wp2
         go_ret
         exact ⟨rfl, hb3⟩)


set_option maxHeartbeats 2000000 in
theorem Mo.rd_n6 (sa si sk sd sh : Bool) (na da ni di nk dk nd dd nh dh : ByteArray) (m : Int) (zna : na.size ≤ 9223372036854775807) (zda : da.size ≤ 9223372036854775807) (hm : m = 9223372036854775807) (h1 : ¬ (60 : Int) < (na.size : Int)) (h2 : ¬ (60 : Int) < (da.size : Int)) (k : Int) (hk : (k.tmod 2 == 0) = true) (w : World)
    (H : Hid (∀ v, Below w.heap.size w v → Calls Tryz.prog 10 #[] v fun e w' => e = .returned (.bool true) ∧ Below v.heap.size v w'))
    (O1 : Hid (∀ v, Below w.heap.size w v → Calls Tryz.prog 26 #[.int .i64 m, .int .i64 1] v fun e w' => e = .returned (rV (si, ni, di)) ∧ Below v.heap.size v w'))
    (RI : Hid (∀ v, Below w.heap.size w v → Calls Tryz.prog 21 #[rV (si, ni, di)] v fun e w' => e = .returned (.tuple #[.int .i64 0, .int .i64 10]) ∧ Below v.heap.size v w'))
    (RA : Hid (∀ v, Below w.heap.size w v → Calls Tryz.prog 21 #[rV (sa, na, da)] v fun e w' => e = .returned (.tuple #[.int .i64 k, .int .i64 0]) ∧ Below v.heap.size v w'))
    (OK : Hid (∀ v, Below w.heap.size w v → Calls Tryz.prog 26 #[.int .i64 k, .int .i64 1] v fun e w' => e = .returned (rV (sk, nk, dk)) ∧ Below v.heap.size v w'))
    (SU : Hid (∀ v, Below w.heap.size w v → Calls Tryz.prog 30 #[rV (sa, na, da), rV (sk, nk, dk)] v fun e w' => e = .returned (.tuple #[rV (sd, nd, dd), .int .i64 0]) ∧ Below v.heap.size v w'))
    (OH : Hid (∀ v, Below w.heap.size w v → Calls Tryz.prog 26 #[.int .i64 1, .int .i64 2] v fun e w' => e = .returned (rV (sh, nh, dh)) ∧ Below v.heap.size v w'))
    (CM : Hid (∀ v, Below w.heap.size w v → Calls Tryz.prog 31 #[rV (false, nd, dd), rV (sh, nh, dh)] v fun e w' => e = .returned (.tuple #[.int .i64 0, .int .i64 0]) ∧ Below v.heap.size v w')) :
    Calls Tryz.prog 7 #[rV (sa, na, da), .int .i64 m] w fun e w' => e = .returned (.bool true) ∧ Below w.heap.size w w' := by
  subst hm
  obtain ⟨hb0, A0⟩ := start1 w (sa, na, da) _ rfl
  unfold ob at hb0 A0
  unfold rV at O1 RI RA OK SU OH CM ⊢
  simp only at hb0 A0 O1 RI RA OK SU OH CM ⊢
  go_enter Tryz.func7, Tryz.ntmps7
  go_wp2_with fail
  refine (H.out _ hb0).mono ?_
  rintro e w1 ⟨rfl, g⟩
  have hb1 := Nb hb0 (g)
  have A1 := A0.bt (g)
  clear hb0 A0 g
  go_wp2_with fail
  refine (O1.out _ hb1).mono ?_
  rintro e w2 ⟨rfl, g⟩
  have hb2 := Nb hb1 (g)
  have A2 := A1.bt (g)
  clear hb1 A1 g
  have hb2x := Nb hb2 (al w2 (.cells #[.bool si, .string ni, .string di] 32))
  have A2x := A2.bt (al w2 (.cells #[.bool si, .string ni, .string di] 32))
  clear hb2 A2 
  have Xi2x := At.new w2 si ni di
  obtain ⟨Xic0, Xic1, Xic2, _, _, _⟩ := Xi2x.cells
  go_wp2_with fail
  refine (RI.out _ hb2x).mono ?_
  rintro e w3 ⟨rfl, g⟩
  clear Xic0 Xic1 Xic2
  have hb3 := Nb hb2x (g)
  have A3 := A2x.bt (g)
  have Xi3 := Xi2x.bt (g)
  clear hb2x A2x Xi2x g
  obtain ⟨Ac0, Ac1, Ac2, _, _, _⟩ := A3.cells
  go_wp2_with fail
  refine (RA.out _ hb3).mono ?_
  rintro e w4 ⟨rfl, g⟩
  clear Ac0 Ac1 Ac2
  have hb4 := Nb hb3 (g)
  have A4 := A3.bt (g)
  have Xi4 := Xi3.bt (g)
  clear hb3 A3 Xi3 g
  obtain ⟨Ac0, Ac1, Ac2, _, _, _⟩ := A4.cells
  go_wp2_with fail
  clear Xi4 H O1 RI RA h1 h2
  have N4 : w.heap.size < w4.heap.size := (Array.getElem?_eq_some_iff.1 (show w4.heap[w.heap.size]? = _ from A4)).1
  have S4 := Lib.hid (three A4)
  have S4d := Lib.hid (three (A4.bt (Bd w4)))
  have T4 := Lib.hid (three (A4.bt (al w4 (.cells #[.bool false, .string ⟨#[]⟩, .string ⟨#[]⟩] 32))))
  have T4d := Lib.hid (three ((A4.bt (al w4 (.cells #[.bool false, .string ⟨#[]⟩, .string ⟨#[]⟩] 32))).bt (Bd _)))
  go_region_held3 (fun w' => w'.cell? ⟨w.heap.size, 0, none⟩ = some (.bool sa) ∧ w'.cell? ⟨w.heap.size, 1, none⟩ = some (.string na) ∧ w'.cell? ⟨w.heap.size, 2, none⟩ = some (.string da)) (first | exact SS.out | exact T6.out | exact S6.out | exact T5.out | exact S5.out | exact T4d.out | exact T4.out | exact S4d.out | exact S4.out | go_keep)
    (first
      | (go_at_call 26
         (with_reducible refine (OK.out _ (Nb hb4 (Bd w4))).mono ?_)
         rintro e w5 ⟨rfl, g5⟩
         have hb5 := Nb (Nb hb4 (Bd w4)) g5
         have A5 := (A4.bt (Bd w4)).bt g5
         have S5 := Lib.hid (three A5)
         have T5 := Lib.hid (three (A5.bt (al w5 (.cells #[.bool false, .string ⟨#[]⟩, .string ⟨#[]⟩] 32)))))
      | (go_at_call 26
         (with_reducible refine (OK.out _ (Nb hb4 (Nb (al w4 (.cells #[.bool false, .string ⟨#[]⟩, .string ⟨#[]⟩] 32)) (Bd _)))).mono ?_)
         rintro e w5 ⟨rfl, g5⟩
         have hb5 := Nb (Nb hb4 (Nb (al w4 (.cells #[.bool false, .string ⟨#[]⟩, .string ⟨#[]⟩] 32)) (Bd _))) g5
         have A5 := (A4.bt (Nb (al w4 (.cells #[.bool false, .string ⟨#[]⟩, .string ⟨#[]⟩] 32)) (Bd _))).bt g5
         have BX5 := (At.new w4 false ⟨#[]⟩ ⟨#[]⟩).bt (Nb (Bd _) g5)
         have N5 := N4
         obtain ⟨b0, b1, b2, e0, e1, e2⟩ := BX5.cells
         have S5 := Lib.hid (three A5))
      | (go_at_call 30
         (with_reducible refine (SU.out _ hb5).mono ?_)
         rintro e w6 ⟨rfl, g6⟩
         have hb6 := Nb hb5 g6
         have A6 := A5.bt g6
         have BX6 := BX5.bt g6
         have N6 := N5
         obtain ⟨b0, b1, b2, e0, e1, e2⟩ := BX6.cells
         have S6 := Lib.hid (three A6)
         have SS := Lib.hid (three (A6.far (show w.heap.size ≠ w4.heap.size by omega) (sd, nd, dd))))
      | (go_at_call 30
         (with_reducible refine (SU.out _ hb5).mono ?_)
         rintro e w6 ⟨rfl, g6⟩
         have hb6 := Nb hb5 g6
         have A6 := A5.bt g6
         have S6 := Lib.hid (three A6)
         have T6 := Lib.hid (three (A6.bt (al w6 (.cells #[.bool false, .string ⟨#[]⟩, .string ⟨#[]⟩] 32))))
         have SS := Lib.hid (three (A6.bt (al w6 (.cells #[.bool sd, .string nd, .string dd] 32)))))
      | (go_at_call 30
         (with_reducible refine (SU.out _ (Nb hb5 (al w5 (.cells #[.bool false, .string ⟨#[]⟩, .string ⟨#[]⟩] 32)))).mono ?_)
         rintro e w6 ⟨rfl, g6⟩
         have hb6 := Nb (Nb hb5 (al w5 (.cells #[.bool false, .string ⟨#[]⟩, .string ⟨#[]⟩] 32))) g6
         have A6 := (A5.bt (al w5 (.cells #[.bool false, .string ⟨#[]⟩, .string ⟨#[]⟩] 32))).bt g6
         have BX6 := (At.new w5 false ⟨#[]⟩ ⟨#[]⟩).bt g6
         have N6 : w.heap.size < w5.heap.size := (Array.getElem?_eq_some_iff.1 (show w5.heap[w.heap.size]? = _ from A5)).1
         obtain ⟨b0, b1, b2, e0, e1, e2⟩ := BX6.cells
         have S6 := Lib.hid (three A6)
         have SS := Lib.hid (three (A6.far (show w.heap.size ≠ w5.heap.size by omega) (sd, nd, dd))))
      | fail)
  all_goals
    first
      | (have FF := Mo.fin_new hb6 (sd, nd, dd)
         have HLE := hb6.size
         refine gen (P := Exit.then _ _ _ _) _ ?_
         intro W hW
         obtain ⟨hbF, XF⟩ := FF W hW
         clear FF hW A6 A5 hb6 hb5
         obtain ⟨x0, x1, x2, f0, f1, f2⟩ := XF.cells
         go_wp2_with fail
         have X1 := XF.set1 false
         have hb1 := hbF.setCell (p := ⟨_, 0, none⟩) HLE (.bool false)
         clear x0 x1 x2 f0 f1 f2 XF hbF
         generalize W.setCell _ (.bool false) = W1 at *
         obtain ⟨x0, x1, x2, f0, f1, f2⟩ := X1.cells
         have y0 := fun dq os => cell_regrown x0 dq os
         have y1 := fun dq os => cell_regrown x1 dq os
         have y2 := fun dq os => cell_regrown x2 dq os
         have LYr := Lib.hid (fun dq os => Calls.regrown_of (OH.out (Go.Sort.grow (redrawn W1 dq) os) (Nb hb1 (below_regrown W1 dq os))))
         have LYc := Lib.hid (fun dq os => Calls.regrown_of (CM.out (Go.Sort.grow (redrawn W1 dq) os) (Nb hb1 (below_regrown W1 dq os))))
         refine wp_region_quiet_below (by kernel_rfl) (by kernel_rfl) ?_
         repeat (quiet_step (first | (go_at_call 26; exact LYr.out _ _) | (go_at_call 31; exact LYc.out _ _)))
         refine wpQuiet_nil ?_
         intro _ hw'
         obtain ⟨⟨dq, osq⟩, hw''⟩ := hw'
         subst hw''
         have hb3 := Nb hb1 (below_regrown W1 dq osq)
         clear LYr LYc y0 y1 y2 hb1 x0 x1 x2 f0 f1 f2 X1
         generalize Go.Sort.grow (redrawn W1 dq) osq = v at *
         go_wp2
         go_ret
         exact ⟨rfl, hb3⟩)
      | (have FF := Mo.fin_old hb6 (b := w4.heap.size) BX6 N6 (sd, nd, dd)
         have HLE : w.heap.size ≤ w4.heap.size := by omega
         refine gen (P := Exit.then _ _ _ _) _ ?_
         intro W hW
         obtain ⟨hbF, XF⟩ := FF W hW
         clear FF hW A6 A5 BX6 BX5 hb6 hb5 b0 b1 b2 e0 e1 e2
         obtain ⟨x0, x1, x2, f0, f1, f2⟩ := XF.cells
         go_wp2_with fail
         have X1 := XF.set1 false
         have hb1 := hbF.setCell (p := ⟨_, 0, none⟩) HLE (.bool false)
         clear x0 x1 x2 f0 f1 f2 XF hbF
         generalize W.setCell _ (.bool false) = W1 at *
         obtain ⟨x0, x1, x2, f0, f1, f2⟩ := X1.cells
         have y0 := fun dq os => cell_regrown x0 dq os
         have y1 := fun dq os => cell_regrown x1 dq os
         have y2 := fun dq os => cell_regrown x2 dq os
         have LYr := Lib.hid (fun dq os => Calls.regrown_of (OH.out (Go.Sort.grow (redrawn W1 dq) os) (Nb hb1 (below_regrown W1 dq os))))
         have LYc := Lib.hid (fun dq os => Calls.regrown_of (CM.out (Go.Sort.grow (redrawn W1 dq) os) (Nb hb1 (below_regrown W1 dq os))))
         refine wp_region_quiet_below (by kernel_rfl) (by kernel_rfl) ?_
         repeat (quiet_step (first | (go_at_call 26; exact LYr.out _ _) | (go_at_call 31; exact LYc.out _ _)))
         refine wpQuiet_nil ?_
         intro _ hw'
         obtain ⟨⟨dq, osq⟩, hw''⟩ := hw'
         subst hw''
         have hb3 := Nb hb1 (below_regrown W1 dq osq)
         clear LYr LYc y0 y1 y2 hb1 x0 x1 x2 f0 f1 f2 X1
         generalize Go.Sort.grow (redrawn W1 dq) osq = v at *
         go_wp2
         go_ret
         exact ⟨rfl, hb3⟩)
      | (have FF := Mo.fin_old hb6 (b := w5.heap.size) BX6 N6 (sd, nd, dd)
         have HLE : w.heap.size ≤ w5.heap.size := by omega
         refine gen (P := Exit.then _ _ _ _) _ ?_
         intro W hW
         obtain ⟨hbF, XF⟩ := FF W hW
         clear FF hW A6 A5 BX6 hb6 hb5 b0 b1 b2 e0 e1 e2
         obtain ⟨x0, x1, x2, f0, f1, f2⟩ := XF.cells
         go_wp2_with fail
         have X1 := XF.set1 false
         have hb1 := hbF.setCell (p := ⟨_, 0, none⟩) HLE (.bool false)
         clear x0 x1 x2 f0 f1 f2 XF hbF
         generalize W.setCell _ (.bool false) = W1 at *
         obtain ⟨x0, x1, x2, f0, f1, f2⟩ := X1.cells
         have y0 := fun dq os => cell_regrown x0 dq os
         have y1 := fun dq os => cell_regrown x1 dq os
         have y2 := fun dq os => cell_regrown x2 dq os
         have LYr := Lib.hid (fun dq os => Calls.regrown_of (OH.out (Go.Sort.grow (redrawn W1 dq) os) (Nb hb1 (below_regrown W1 dq os))))
         have LYc := Lib.hid (fun dq os => Calls.regrown_of (CM.out (Go.Sort.grow (redrawn W1 dq) os) (Nb hb1 (below_regrown W1 dq os))))
         refine wp_region_quiet_below (by kernel_rfl) (by kernel_rfl) ?_
         repeat (quiet_step (first | (go_at_call 26; exact LYr.out _ _) | (go_at_call 31; exact LYc.out _ _)))
         refine wpQuiet_nil ?_
         intro _ hw'
         obtain ⟨⟨dq, osq⟩, hw''⟩ := hw'
         subst hw''
         have hb3 := Nb hb1 (below_regrown W1 dq osq)
         clear LYr LYc y0 y1 y2 hb1 x0 x1 x2 f0 f1 f2 X1
         generalize Go.Sort.grow (redrawn W1 dq) osq = v at *
         go_wp2
         go_ret
         exact ⟨rfl, hb3⟩)

end Go.Proofs.YtkbncdcphohmiaaGreatDoor
