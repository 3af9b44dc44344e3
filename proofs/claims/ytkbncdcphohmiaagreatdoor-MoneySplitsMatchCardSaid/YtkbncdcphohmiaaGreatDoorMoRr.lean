/- Layer 8: the reference's Round. -/
import Derived.Test.YtkbncdcphohmiaaGreatDoorMoV
import Derived.Test.YtkbncdcphohmiaaGreatDoorRrFG
set_option linter.unusedSimpArgs false
set_option linter.unusedVariables false
namespace Go.Proofs.YtkbncdcphohmiaaGreatDoor
open Go.RowKit
set_option maxRecDepth 100000

set_option maxHeartbeats 2000000 in
theorem Mo.rr_1 (ps : Bool) (px py : ByteArray) (w : World) 
    (VA : Hid (∀ v, Below w.heap.size w v → Calls Tryz.prog 49 #[.agg #[.bool ps, .string px, .string py]] v fun e w' => e = .returned (.bool false) ∧ Below v.heap.size v w')) :
    Calls Tryz.prog 22 #[.agg #[.bool ps, .string px, .string py]] w fun e w' => e = .returned (.tuple #[.int .i64 0, .int .i64 1]) ∧ Below w.heap.size w w' := by
  have hb := al w (.cells #[.bool ps, .string px, .string py] 32)
  have A := At.new w ps px py
  go_enter Tryz.func22, Tryz.ntmps22
  go_wp2_with fail
  refine (VA.out _ hb).mono ?_
  rintro e v1 ⟨rfl, g⟩
  have hb' := Mo.Nb hb g
  have A' := A.bt g
  clear hb A
  have hb := hb'
  have A := A'
  clear hb' A'
  clear g
  go_wp2_with fail
  go_ret2
  exact ⟨rfl, hb⟩

set_option maxHeartbeats 2000000 in
theorem Mo.rr_2 (ps : Bool) (px py : ByteArray) (w : World) (h1 : ¬ (140 : Int) < (px.size : Int)) (h2 : ¬ (140 : Int) < (py.size : Int)) (k0 e0 : Int) (he : (e0 != 0) = true) 
    (VA : Hid (∀ v, Below w.heap.size w v → Calls Tryz.prog 49 #[.agg #[.bool ps, .string px, .string py]] v fun e w' => e = .returned (.bool true) ∧ Below v.heap.size v w'))
    (FL : Hid (∀ v, Below w.heap.size w v → Calls Tryz.prog 50 #[.agg #[.bool ps, .string px, .string py]] v fun e w' => e = .returned (.tuple #[.int .i64 k0, .int .i64 e0]) ∧ Below v.heap.size v w')) :
    Calls Tryz.prog 22 #[.agg #[.bool ps, .string px, .string py]] w fun e w' => e = .returned (.tuple #[.int .i64 0, .int .i64 10]) ∧ Below w.heap.size w w' := by
  have hb := al w (.cells #[.bool ps, .string px, .string py] 32)
  have A := At.new w ps px py
  go_enter Tryz.func22, Tryz.ntmps22
  go_wp2_with fail
  refine (VA.out _ hb).mono ?_
  rintro e v1 ⟨rfl, g⟩
  have hb' := Mo.Nb hb g
  have A' := A.bt g
  clear hb A
  have hb := hb'
  have A := A'
  clear hb' A'
  clear g
  obtain ⟨Ac0, Ac1, Ac2, _, _, _⟩ := A.cells
  go_wp2_with fail
  refine (FL.out _ hb).mono ?_
  rintro e v2 ⟨rfl, g⟩
  clear Ac0 Ac1 Ac2
  have hb' := Mo.Nb hb g
  have A' := A.bt g
  clear hb A
  have hb := hb'
  have A := A'
  clear hb' A'
  clear g
  go_wp2_with fail
  go_ret2
  exact ⟨rfl, hb⟩

set_option maxHeartbeats 2000000 in
theorem Mo.rr_3 (ps : Bool) (px py : ByteArray) (w : World) (h1 : ¬ (140 : Int) < (px.size : Int)) (h2 : ¬ (140 : Int) < (py.size : Int)) 
    (VA : Hid (∀ v, Below w.heap.size w v → Calls Tryz.prog 49 #[.agg #[.bool ps, .string px, .string py]] v fun e w' => e = .returned (.bool true) ∧ Below v.heap.size v w'))
    (FL : Hid (∀ v, Below w.heap.size w v → Calls Tryz.prog 50 #[.agg #[.bool ps, .string px, .string py]] v fun e w' => e = .returned (.tuple #[.int .i64 9223372036854775807, .int .i64 0]) ∧ Below v.heap.size v w')) :
    Calls Tryz.prog 22 #[.agg #[.bool ps, .string px, .string py]] w fun e w' => e = .returned (.tuple #[.int .i64 0, .int .i64 10]) ∧ Below w.heap.size w w' := by
  have hb := al w (.cells #[.bool ps, .string px, .string py] 32)
  have A := At.new w ps px py
  go_enter Tryz.func22, Tryz.ntmps22
  go_wp2_with fail
  refine (VA.out _ hb).mono ?_
  rintro e v1 ⟨rfl, g⟩
  have hb' := Mo.Nb hb g
  have A' := A.bt g
  clear hb A
  have hb := hb'
  have A := A'
  clear hb' A'
  clear g
  obtain ⟨Ac0, Ac1, Ac2, _, _, _⟩ := A.cells
  go_wp2_with fail
  refine (FL.out _ hb).mono ?_
  rintro e v2 ⟨rfl, g⟩
  clear Ac0 Ac1 Ac2
  have hb' := Mo.Nb hb g
  have A' := A.bt g
  clear hb A
  have hb := hb'
  have A := A'
  clear hb' A'
  clear g
  go_wp2_with fail
  go_ret2
  exact ⟨rfl, hb⟩

set_option maxHeartbeats 2000000 in
theorem Mo.rr_4 (ps os ts ds : Bool) (px py ox oy tx ty dx dy : ByteArray) (w : World) (h1 : ¬ (140 : Int) < (px.size : Int)) (h2 : ¬ (140 : Int) < (py.size : Int)) (k : Int) (hk1 : (k == 9223372036854775807) = false) (hk2 : -9223372036854775808 ≤ k) (hk3 : k < 9223372036854775807) 
    (VA : Hid (∀ v, Below w.heap.size w v → Calls Tryz.prog 49 #[.agg #[.bool ps, .string px, .string py]] v fun e w' => e = .returned (.bool true) ∧ Below v.heap.size v w'))
    (FL : Hid (∀ v, Below w.heap.size w v → Calls Tryz.prog 50 #[.agg #[.bool ps, .string px, .string py]] v fun e w' => e = .returned (.tuple #[.int .i64 k, .int .i64 0]) ∧ Below v.heap.size v w'))
    (OK : Hid (∀ v, Below w.heap.size w v → Calls Tryz.prog 42 #[.int .i64 k, .int .i64 1] v fun e w' => e = .returned (.tuple #[.agg #[.bool os, .string ox, .string oy], .int .i64 0]) ∧ Below v.heap.size v w'))
    (OH : Hid (∀ v, Below w.heap.size w v → Calls Tryz.prog 42 #[.int .i64 1, .int .i64 2] v fun e w' => e = .returned (.tuple #[.agg #[.bool ts, .string tx, .string ty], .int .i64 0]) ∧ Below v.heap.size v w'))
    (SU : Hid (∀ v, Below w.heap.size w v → Calls Tryz.prog 51 #[.agg #[.bool ps, .string px, .string py], .agg #[.bool os, .string ox, .string oy]] v fun e w' => e = .returned (.tuple #[.agg #[.bool ds, .string dx, .string dy], .int .i64 0]) ∧ Below v.heap.size v w'))
    (CM : Hid (∀ v, Below w.heap.size w v → Calls Tryz.prog 52 #[.agg #[.bool ds, .string dx, .string dy], .agg #[.bool ts, .string tx, .string ty]] v fun e w' => e = .returned (.tuple #[.int .i64 1, .int .i64 0]) ∧ Below v.heap.size v w')) :
    Calls Tryz.prog 22 #[.agg #[.bool ps, .string px, .string py]] w fun e w' => e = .returned (.tuple #[.int .i64 (k + 1), .int .i64 0]) ∧ Below w.heap.size w w' := by
  have hb := al w (.cells #[.bool ps, .string px, .string py] 32)
  have A := At.new w ps px py
  go_enter Tryz.func22, Tryz.ntmps22
  go_wp2_with fail
  refine (VA.out _ hb).mono ?_
  rintro e v1 ⟨rfl, g⟩
  have hb' := Mo.Nb hb g
  have A' := A.bt g
  clear hb A
  have hb := hb'
  have A := A'
  clear hb' A'
  clear g
  obtain ⟨Ac0, Ac1, Ac2, _, _, _⟩ := A.cells
  go_wp2_with fail
  refine (FL.out _ hb).mono ?_
  rintro e v2 ⟨rfl, g⟩
  clear Ac0 Ac1 Ac2
  have hb' := Mo.Nb hb g
  have A' := A.bt g
  clear hb A
  have hb := hb'
  have A := A'
  clear hb' A'
  clear g
  go_wp2_with fail
  refine (OK.out _ hb).mono ?_
  rintro e v3 ⟨rfl, g⟩
  have hb' := Mo.Nb hb g
  have A' := A.bt g
  clear hb A
  have hb := hb'
  have A := A'
  clear hb' A'
  clear g
  have hb' := Mo.Nb hb (al v3 (.cells #[.bool os, .string ox, .string oy] 32))
  have A' := A.bt (al v3 (.cells #[.bool os, .string ox, .string oy] 32))
  clear hb A
  have hb := hb'
  have A := A'
  clear hb' A'
  have O := At.new v3 os ox oy
  go_wp2_with fail
  refine (OH.out _ hb).mono ?_
  rintro e v4 ⟨rfl, g⟩
  have hb' := Mo.Nb hb g
  have A' := A.bt g
  have O' := O.bt g
  clear hb A O
  have hb := hb'
  have A := A'
  have O := O'
  clear hb' A' O'
  clear g
  have hb' := Mo.Nb hb (al v4 (.cells #[.bool ts, .string tx, .string ty] 32))
  have A' := A.bt (al v4 (.cells #[.bool ts, .string tx, .string ty] 32))
  have O' := O.bt (al v4 (.cells #[.bool ts, .string tx, .string ty] 32))
  clear hb A O
  have hb := hb'
  have A := A'
  have O := O'
  clear hb' A' O'
  have T := At.new v4 ts tx ty
  obtain ⟨Ac0, Ac1, Ac2, _, _, _⟩ := A.cells
  obtain ⟨Oc0, Oc1, Oc2, _, _, _⟩ := O.cells
  go_wp2_with fail
  refine (SU.out _ hb).mono ?_
  rintro e v5 ⟨rfl, g⟩
  clear Ac0 Ac1 Ac2
  clear Oc0 Oc1 Oc2
  have hb' := Mo.Nb hb g
  have A' := A.bt g
  have O' := O.bt g
  have T' := T.bt g
  clear hb A O T
  have hb := hb'
  have A := A'
  have O := O'
  have T := T'
  clear hb' A' O' T'
  clear g
  have hb' := Mo.Nb hb (al v5 (.cells #[.bool ds, .string dx, .string dy] 32))
  have A' := A.bt (al v5 (.cells #[.bool ds, .string dx, .string dy] 32))
  have O' := O.bt (al v5 (.cells #[.bool ds, .string dx, .string dy] 32))
  have T' := T.bt (al v5 (.cells #[.bool ds, .string dx, .string dy] 32))
  clear hb A O T
  have hb := hb'
  have A := A'
  have O := O'
  have T := T'
  clear hb' A' O' T'
  have D := At.new v5 ds dx dy
  obtain ⟨Dc0, Dc1, Dc2, _, _, _⟩ := D.cells
  obtain ⟨Tc0, Tc1, Tc2, _, _, _⟩ := T.cells
  go_wp2_with fail
  refine (CM.out _ hb).mono ?_
  rintro e v6 ⟨rfl, g⟩
  clear Dc0 Dc1 Dc2
  clear Tc0 Tc1 Tc2
  have hb' := Mo.Nb hb g
  have A' := A.bt g
  have O' := O.bt g
  have T' := T.bt g
  have D' := D.bt g
  clear hb A O T D
  have hb := hb'
  have A := A'
  have O := O'
  have T := T'
  have D := D'
  clear hb' A' O' T' D'
  clear g
  go_wp2_with fail
  go_ret2
  exact ⟨rfl, hb⟩

set_option maxHeartbeats 2000000 in
theorem Mo.rr_5 (ps os ts ds : Bool) (px py ox oy tx ty dx dy : ByteArray) (w : World) (h1 : ¬ (140 : Int) < (px.size : Int)) (h2 : ¬ (140 : Int) < (py.size : Int)) (k : Int) (hk1 : (k == 9223372036854775807) = false) (hk2 : -9223372036854775808 ≤ k) (hk3 : k < 9223372036854775807) 
    (VA : Hid (∀ v, Below w.heap.size w v → Calls Tryz.prog 49 #[.agg #[.bool ps, .string px, .string py]] v fun e w' => e = .returned (.bool true) ∧ Below v.heap.size v w'))
    (FL : Hid (∀ v, Below w.heap.size w v → Calls Tryz.prog 50 #[.agg #[.bool ps, .string px, .string py]] v fun e w' => e = .returned (.tuple #[.int .i64 k, .int .i64 0]) ∧ Below v.heap.size v w'))
    (OK : Hid (∀ v, Below w.heap.size w v → Calls Tryz.prog 42 #[.int .i64 k, .int .i64 1] v fun e w' => e = .returned (.tuple #[.agg #[.bool os, .string ox, .string oy], .int .i64 0]) ∧ Below v.heap.size v w'))
    (OH : Hid (∀ v, Below w.heap.size w v → Calls Tryz.prog 42 #[.int .i64 1, .int .i64 2] v fun e w' => e = .returned (.tuple #[.agg #[.bool ts, .string tx, .string ty], .int .i64 0]) ∧ Below v.heap.size v w'))
    (SU : Hid (∀ v, Below w.heap.size w v → Calls Tryz.prog 51 #[.agg #[.bool ps, .string px, .string py], .agg #[.bool os, .string ox, .string oy]] v fun e w' => e = .returned (.tuple #[.agg #[.bool ds, .string dx, .string dy], .int .i64 0]) ∧ Below v.heap.size v w'))
    (CM : Hid (∀ v, Below w.heap.size w v → Calls Tryz.prog 52 #[.agg #[.bool ds, .string dx, .string dy], .agg #[.bool ts, .string tx, .string ty]] v fun e w' => e = .returned (.tuple #[.int .i64 (-1), .int .i64 0]) ∧ Below v.heap.size v w')) :
    Calls Tryz.prog 22 #[.agg #[.bool ps, .string px, .string py]] w fun e w' => e = .returned (.tuple #[.int .i64 k, .int .i64 0]) ∧ Below w.heap.size w w' := by
  have hb := al w (.cells #[.bool ps, .string px, .string py] 32)
  have A := At.new w ps px py
  go_enter Tryz.func22, Tryz.ntmps22
  go_wp2_with fail
  refine (VA.out _ hb).mono ?_
  rintro e v1 ⟨rfl, g⟩
  have hb' := Mo.Nb hb g
  have A' := A.bt g
  clear hb A
  have hb := hb'
  have A := A'
  clear hb' A'
  clear g
  obtain ⟨Ac0, Ac1, Ac2, _, _, _⟩ := A.cells
  go_wp2_with fail
  refine (FL.out _ hb).mono ?_
  rintro e v2 ⟨rfl, g⟩
  clear Ac0 Ac1 Ac2
  have hb' := Mo.Nb hb g
  have A' := A.bt g
  clear hb A
  have hb := hb'
  have A := A'
  clear hb' A'
  clear g
  go_wp2_with fail
  refine (OK.out _ hb).mono ?_
  rintro e v3 ⟨rfl, g⟩
  have hb' := Mo.Nb hb g
  have A' := A.bt g
  clear hb A
  have hb := hb'
  have A := A'
  clear hb' A'
  clear g
  have hb' := Mo.Nb hb (al v3 (.cells #[.bool os, .string ox, .string oy] 32))
  have A' := A.bt (al v3 (.cells #[.bool os, .string ox, .string oy] 32))
  clear hb A
  have hb := hb'
  have A := A'
  clear hb' A'
  have O := At.new v3 os ox oy
  go_wp2_with fail
  refine (OH.out _ hb).mono ?_
  rintro e v4 ⟨rfl, g⟩
  have hb' := Mo.Nb hb g
  have A' := A.bt g
  have O' := O.bt g
  clear hb A O
  have hb := hb'
  have A := A'
  have O := O'
  clear hb' A' O'
  clear g
  have hb' := Mo.Nb hb (al v4 (.cells #[.bool ts, .string tx, .string ty] 32))
  have A' := A.bt (al v4 (.cells #[.bool ts, .string tx, .string ty] 32))
  have O' := O.bt (al v4 (.cells #[.bool ts, .string tx, .string ty] 32))
  clear hb A O
  have hb := hb'
  have A := A'
  have O := O'
  clear hb' A' O'
  have T := At.new v4 ts tx ty
  obtain ⟨Ac0, Ac1, Ac2, _, _, _⟩ := A.cells
  obtain ⟨Oc0, Oc1, Oc2, _, _, _⟩ := O.cells
  go_wp2_with fail
  refine (SU.out _ hb).mono ?_
  rintro e v5 ⟨rfl, g⟩
  clear Ac0 Ac1 Ac2
  clear Oc0 Oc1 Oc2
  have hb' := Mo.Nb hb g
  have A' := A.bt g
  have O' := O.bt g
  have T' := T.bt g
  clear hb A O T
  have hb := hb'
  have A := A'
  have O := O'
  have T := T'
  clear hb' A' O' T'
  clear g
  have hb' := Mo.Nb hb (al v5 (.cells #[.bool ds, .string dx, .string dy] 32))
  have A' := A.bt (al v5 (.cells #[.bool ds, .string dx, .string dy] 32))
  have O' := O.bt (al v5 (.cells #[.bool ds, .string dx, .string dy] 32))
  have T' := T.bt (al v5 (.cells #[.bool ds, .string dx, .string dy] 32))
  clear hb A O T
  have hb := hb'
  have A := A'
  have O := O'
  have T := T'
  clear hb' A' O' T'
  have D := At.new v5 ds dx dy
  obtain ⟨Dc0, Dc1, Dc2, _, _, _⟩ := D.cells
  obtain ⟨Tc0, Tc1, Tc2, _, _, _⟩ := T.cells
  go_wp2_with fail
  refine (CM.out _ hb).mono ?_
  rintro e v6 ⟨rfl, g⟩
  clear Dc0 Dc1 Dc2
  clear Tc0 Tc1 Tc2
  have hb' := Mo.Nb hb g
  have A' := A.bt g
  have O' := O.bt g
  have T' := T.bt g
  have D' := D.bt g
  clear hb A O T D
  have hb := hb'
  have A := A'
  have O := O'
  have T := T'
  have D := D'
  clear hb' A' O' T' D'
  clear g
  go_wp2_with fail
  go_ret2
  exact ⟨rfl, hb⟩

set_option maxHeartbeats 2000000 in
theorem Mo.rr_6 (ps os ts ds : Bool) (px py ox oy tx ty dx dy : ByteArray) (w : World) (h1 : ¬ (140 : Int) < (px.size : Int)) (h2 : ¬ (140 : Int) < (py.size : Int)) (k : Int) (hk1 : (k == 9223372036854775807) = false) (hk2 : -9223372036854775808 ≤ k) (hk3 : k < 9223372036854775807) (hp : (k.tmod 2 != 0) = true) 
    (VA : Hid (∀ v, Below w.heap.size w v → Calls Tryz.prog 49 #[.agg #[.bool ps, .string px, .string py]] v fun e w' => e = .returned (.bool true) ∧ Below v.heap.size v w'))
    (FL : Hid (∀ v, Below w.heap.size w v → Calls Tryz.prog 50 #[.agg #[.bool ps, .string px, .string py]] v fun e w' => e = .returned (.tuple #[.int .i64 k, .int .i64 0]) ∧ Below v.heap.size v w'))
    (OK : Hid (∀ v, Below w.heap.size w v → Calls Tryz.prog 42 #[.int .i64 k, .int .i64 1] v fun e w' => e = .returned (.tuple #[.agg #[.bool os, .string ox, .string oy], .int .i64 0]) ∧ Below v.heap.size v w'))
    (OH : Hid (∀ v, Below w.heap.size w v → Calls Tryz.prog 42 #[.int .i64 1, .int .i64 2] v fun e w' => e = .returned (.tuple #[.agg #[.bool ts, .string tx, .string ty], .int .i64 0]) ∧ Below v.heap.size v w'))
    (SU : Hid (∀ v, Below w.heap.size w v → Calls Tryz.prog 51 #[.agg #[.bool ps, .string px, .string py], .agg #[.bool os, .string ox, .string oy]] v fun e w' => e = .returned (.tuple #[.agg #[.bool ds, .string dx, .string dy], .int .i64 0]) ∧ Below v.heap.size v w'))
    (CM : Hid (∀ v, Below w.heap.size w v → Calls Tryz.prog 52 #[.agg #[.bool ds, .string dx, .string dy], .agg #[.bool ts, .string tx, .string ty]] v fun e w' => e = .returned (.tuple #[.int .i64 0, .int .i64 0]) ∧ Below v.heap.size v w')) :
    Calls Tryz.prog 22 #[.agg #[.bool ps, .string px, .string py]] w fun e w' => e = .returned (.tuple #[.int .i64 (k + 1), .int .i64 0]) ∧ Below w.heap.size w w' := by
  have hb := al w (.cells #[.bool ps, .string px, .string py] 32)
  have A := At.new w ps px py
  go_enter Tryz.func22, Tryz.ntmps22
  go_wp2_with fail
  refine (VA.out _ hb).mono ?_
  rintro e v1 ⟨rfl, g⟩
  have hb' := Mo.Nb hb g
  have A' := A.bt g
  clear hb A
  have hb := hb'
  have A := A'
  clear hb' A'
  clear g
  obtain ⟨Ac0, Ac1, Ac2, _, _, _⟩ := A.cells
  go_wp2_with fail
  refine (FL.out _ hb).mono ?_
  rintro e v2 ⟨rfl, g⟩
  clear Ac0 Ac1 Ac2
  have hb' := Mo.Nb hb g
  have A' := A.bt g
  clear hb A
  have hb := hb'
  have A := A'
  clear hb' A'
  clear g
  go_wp2_with fail
  refine (OK.out _ hb).mono ?_
  rintro e v3 ⟨rfl, g⟩
  have hb' := Mo.Nb hb g
  have A' := A.bt g
  clear hb A
  have hb := hb'
  have A := A'
  clear hb' A'
  clear g
  have hb' := Mo.Nb hb (al v3 (.cells #[.bool os, .string ox, .string oy] 32))
  have A' := A.bt (al v3 (.cells #[.bool os, .string ox, .string oy] 32))
  clear hb A
  have hb := hb'
  have A := A'
  clear hb' A'
  have O := At.new v3 os ox oy
  go_wp2_with fail
  refine (OH.out _ hb).mono ?_
  rintro e v4 ⟨rfl, g⟩
  have hb' := Mo.Nb hb g
  have A' := A.bt g
  have O' := O.bt g
  clear hb A O
  have hb := hb'
  have A := A'
  have O := O'
  clear hb' A' O'
  clear g
  have hb' := Mo.Nb hb (al v4 (.cells #[.bool ts, .string tx, .string ty] 32))
  have A' := A.bt (al v4 (.cells #[.bool ts, .string tx, .string ty] 32))
  have O' := O.bt (al v4 (.cells #[.bool ts, .string tx, .string ty] 32))
  clear hb A O
  have hb := hb'
  have A := A'
  have O := O'
  clear hb' A' O'
  have T := At.new v4 ts tx ty
  obtain ⟨Ac0, Ac1, Ac2, _, _, _⟩ := A.cells
  obtain ⟨Oc0, Oc1, Oc2, _, _, _⟩ := O.cells
  go_wp2_with fail
  refine (SU.out _ hb).mono ?_
  rintro e v5 ⟨rfl, g⟩
  clear Ac0 Ac1 Ac2
  clear Oc0 Oc1 Oc2
  have hb' := Mo.Nb hb g
  have A' := A.bt g
  have O' := O.bt g
  have T' := T.bt g
  clear hb A O T
  have hb := hb'
  have A := A'
  have O := O'
  have T := T'
  clear hb' A' O' T'
  clear g
  have hb' := Mo.Nb hb (al v5 (.cells #[.bool ds, .string dx, .string dy] 32))
  have A' := A.bt (al v5 (.cells #[.bool ds, .string dx, .string dy] 32))
  have O' := O.bt (al v5 (.cells #[.bool ds, .string dx, .string dy] 32))
  have T' := T.bt (al v5 (.cells #[.bool ds, .string dx, .string dy] 32))
  clear hb A O T
  have hb := hb'
  have A := A'
  have O := O'
  have T := T'
  clear hb' A' O' T'
  have D := At.new v5 ds dx dy
  obtain ⟨Dc0, Dc1, Dc2, _, _, _⟩ := D.cells
  obtain ⟨Tc0, Tc1, Tc2, _, _, _⟩ := T.cells
  go_wp2_with fail
  refine (CM.out _ hb).mono ?_
  rintro e v6 ⟨rfl, g⟩
  clear Dc0 Dc1 Dc2
  clear Tc0 Tc1 Tc2
  have hb' := Mo.Nb hb g
  have A' := A.bt g
  have O' := O.bt g
  have T' := T.bt g
  have D' := D.bt g
  clear hb A O T D
  have hb := hb'
  have A := A'
  have O := O'
  have T := T'
  have D := D'
  clear hb' A' O' T' D'
  clear g
  go_wp2_with fail
  go_ret2
  exact ⟨rfl, hb⟩

set_option maxHeartbeats 2000000 in
theorem Mo.rr_7 (ps os ts ds : Bool) (px py ox oy tx ty dx dy : ByteArray) (w : World) (h1 : ¬ (140 : Int) < (px.size : Int)) (h2 : ¬ (140 : Int) < (py.size : Int)) (k : Int) (hk1 : (k == 9223372036854775807) = false) (hk2 : -9223372036854775808 ≤ k) (hk3 : k < 9223372036854775807) (hp : (k.tmod 2 != 0) = false) 
    (VA : Hid (∀ v, Below w.heap.size w v → Calls Tryz.prog 49 #[.agg #[.bool ps, .string px, .string py]] v fun e w' => e = .returned (.bool true) ∧ Below v.heap.size v w'))
    (FL : Hid (∀ v, Below w.heap.size w v → Calls Tryz.prog 50 #[.agg #[.bool ps, .string px, .string py]] v fun e w' => e = .returned (.tuple #[.int .i64 k, .int .i64 0]) ∧ Below v.heap.size v w'))
    (OK : Hid (∀ v, Below w.heap.size w v → Calls Tryz.prog 42 #[.int .i64 k, .int .i64 1] v fun e w' => e = .returned (.tuple #[.agg #[.bool os, .string ox, .string oy], .int .i64 0]) ∧ Below v.heap.size v w'))
    (OH : Hid (∀ v, Below w.heap.size w v → Calls Tryz.prog 42 #[.int .i64 1, .int .i64 2] v fun e w' => e = .returned (.tuple #[.agg #[.bool ts, .string tx, .string ty], .int .i64 0]) ∧ Below v.heap.size v w'))
    (SU : Hid (∀ v, Below w.heap.size w v → Calls Tryz.prog 51 #[.agg #[.bool ps, .string px, .string py], .agg #[.bool os, .string ox, .string oy]] v fun e w' => e = .returned (.tuple #[.agg #[.bool ds, .string dx, .string dy], .int .i64 0]) ∧ Below v.heap.size v w'))
    (CM : Hid (∀ v, Below w.heap.size w v → Calls Tryz.prog 52 #[.agg #[.bool ds, .string dx, .string dy], .agg #[.bool ts, .string tx, .string ty]] v fun e w' => e = .returned (.tuple #[.int .i64 0, .int .i64 0]) ∧ Below v.heap.size v w')) :
    Calls Tryz.prog 22 #[.agg #[.bool ps, .string px, .string py]] w fun e w' => e = .returned (.tuple #[.int .i64 k, .int .i64 0]) ∧ Below w.heap.size w w' := by
  have hb := al w (.cells #[.bool ps, .string px, .string py] 32)
  have A := At.new w ps px py
  go_enter Tryz.func22, Tryz.ntmps22
  go_wp2_with fail
  refine (VA.out _ hb).mono ?_
  rintro e v1 ⟨rfl, g⟩
  have hb' := Mo.Nb hb g
  have A' := A.bt g
  clear hb A
  have hb := hb'
  have A := A'
  clear hb' A'
  clear g
  obtain ⟨Ac0, Ac1, Ac2, _, _, _⟩ := A.cells
  go_wp2_with fail
  refine (FL.out _ hb).mono ?_
  rintro e v2 ⟨rfl, g⟩
  clear Ac0 Ac1 Ac2
  have hb' := Mo.Nb hb g
  have A' := A.bt g
  clear hb A
  have hb := hb'
  have A := A'
  clear hb' A'
  clear g
  go_wp2_with fail
  refine (OK.out _ hb).mono ?_
  rintro e v3 ⟨rfl, g⟩
  have hb' := Mo.Nb hb g
  have A' := A.bt g
  clear hb A
  have hb := hb'
  have A := A'
  clear hb' A'
  clear g
  have hb' := Mo.Nb hb (al v3 (.cells #[.bool os, .string ox, .string oy] 32))
  have A' := A.bt (al v3 (.cells #[.bool os, .string ox, .string oy] 32))
  clear hb A
  have hb := hb'
  have A := A'
  clear hb' A'
  have O := At.new v3 os ox oy
  go_wp2_with fail
  refine (OH.out _ hb).mono ?_
  rintro e v4 ⟨rfl, g⟩
  have hb' := Mo.Nb hb g
  have A' := A.bt g
  have O' := O.bt g
  clear hb A O
  have hb := hb'
  have A := A'
  have O := O'
  clear hb' A' O'
  clear g
  have hb' := Mo.Nb hb (al v4 (.cells #[.bool ts, .string tx, .string ty] 32))
  have A' := A.bt (al v4 (.cells #[.bool ts, .string tx, .string ty] 32))
  have O' := O.bt (al v4 (.cells #[.bool ts, .string tx, .string ty] 32))
  clear hb A O
  have hb := hb'
  have A := A'
  have O := O'
  clear hb' A' O'
  have T := At.new v4 ts tx ty
  obtain ⟨Ac0, Ac1, Ac2, _, _, _⟩ := A.cells
  obtain ⟨Oc0, Oc1, Oc2, _, _, _⟩ := O.cells
  go_wp2_with fail
  refine (SU.out _ hb).mono ?_
  rintro e v5 ⟨rfl, g⟩
  clear Ac0 Ac1 Ac2
  clear Oc0 Oc1 Oc2
  have hb' := Mo.Nb hb g
  have A' := A.bt g
  have O' := O.bt g
  have T' := T.bt g
  clear hb A O T
  have hb := hb'
  have A := A'
  have O := O'
  have T := T'
  clear hb' A' O' T'
  clear g
  have hb' := Mo.Nb hb (al v5 (.cells #[.bool ds, .string dx, .string dy] 32))
  have A' := A.bt (al v5 (.cells #[.bool ds, .string dx, .string dy] 32))
  have O' := O.bt (al v5 (.cells #[.bool ds, .string dx, .string dy] 32))
  have T' := T.bt (al v5 (.cells #[.bool ds, .string dx, .string dy] 32))
  clear hb A O T
  have hb := hb'
  have A := A'
  have O := O'
  have T := T'
  clear hb' A' O' T'
  have D := At.new v5 ds dx dy
  obtain ⟨Dc0, Dc1, Dc2, _, _, _⟩ := D.cells
  obtain ⟨Tc0, Tc1, Tc2, _, _, _⟩ := T.cells
  go_wp2_with fail
  refine (CM.out _ hb).mono ?_
  rintro e v6 ⟨rfl, g⟩
  clear Dc0 Dc1 Dc2
  clear Tc0 Tc1 Tc2
  have hb' := Mo.Nb hb g
  have A' := A.bt g
  have O' := O.bt g
  have T' := T.bt g
  have D' := D.bt g
  clear hb A O T D
  have hb := hb'
  have A := A'
  have O := O'
  have T := T'
  have D := D'
  clear hb' A' O' T' D'
  clear g
  go_wp2_with fail
  go_ret2
  exact ⟨rfl, hb⟩

theorem Mo.rround_any (a : R3) (w : World) (hs : a.2.1.size ≤ 60 ∧ a.2.2.size ≤ 60) :
    Calls Tryz.prog 22 #[rV a] w fun e w' => e = .returned (.tuple #[.int .i64 (Mo.roundF a).1, .int .i64 (Mo.roundF a).2]) ∧ Below w.heap.size w w' := by
  have VA : Hid (∀ v, Below w.heap.size w v → _) := Lib.hid (fun v (_ : Below w.heap.size w v) => rvalid_any a v (by omega) (by omega))
  have FL : Hid (∀ v, Below w.heap.size w v → _) := Lib.hid (fun v (_ : Below w.heap.size w v) => rfloor_q a v ⟨by omega, by omega⟩)
  have z1 : ¬ (140 : Int) < (a.2.1.size : Int) := by omega
  have z2 : ¬ (140 : Int) < (a.2.2.size : Int) := by omega
  unfold floorF at FL
  unfold Mo.roundF
  cases hv : vR a with
  | false =>
    rw [hv] at VA
    rw [if_pos rfl]
    exact Mo.rr_1 (VA := VA)
  | true =>
    rw [hv] at VA FL
    obtain ⟨q, hq, rfl⟩ := vR_ex hv
    have hlg : lg (rf q) = false := (lg_rf q).2 (Ra.Fit.mono ((fit_size (k := 60) (by omega)).1 hs) (Nat.pow_le_pow_right (by omega) (by omega)))
    rw [if_neg (by simp), hlg, if_neg (by simp), qv_rf]
    rw [if_neg (by simp), qv_rf] at FL
    by_cases hr : -9223372036854775808 ≤ q.floor ∧ q.floor ≤ 9223372036854775807
    · rw [if_pos hr] at FL
      by_cases hm : q.floor = 9223372036854775807
      · rw [hm] at FL
        rw [if_neg (by omega)]
        exact Mo.rr_3 (h1 := z1) (h2 := z2) (VA := VA) (FL := FL)
      · rw [if_pos (by omega)]
        have f60 : Ra.Fit (10 ^ 60) q := (fit_size (k := 60) (by omega)).1 hs
        have f20 : Ra.Fit (10 ^ 20) (q.floor : Rat) := by
          refine ⟨?_, ?_⟩
          · rw [Rat.num_intCast]
            omega
          · rw [Rat.den_intCast]
            omega
        have g140 : ∀ {k : Nat} {p : Rat}, k ≤ 140 → Ra.Fit (10 ^ k) p → Ra.Fit L140 p := fun hk h => h.mono (Nat.pow_le_pow_right (by omega) hk)
        have fd : Ra.Fit (10 ^ 81) (q - (q.floor : Rat)) := (Ra.Fit.sub f60 f20).mono (by decide +kernel)
        have fh : Ra.Fit L140 (1 / 2 : Rat) := fit_small _ (by decide +kernel) (by decide +kernel)
        have zz : ∀ {k : Nat} {p : Rat}, 1 ≤ k → k ≤ 1000 → Ra.Fit (10 ^ k) p → (rf p).2.1.size ≤ 1000 ∧ (rf p).2.2.size ≤ 1000 := fun h1 hk h => by
          have := (fit_size h1).2 h
          omega
        have OK : ∀ v, Below w.heap.size w v → Calls Tryz.prog 42 #[.int .i64 q.floor, .int .i64 1] v fun e w' => e = .returned (.tuple #[rV (rf (q.floor : Rat)), .int .i64 0]) ∧ Below v.heap.size v w' := fun v _ => by
          have := rof q.floor 1 v hr (by omega)
          unfold ofF5 at this
          rw [if_neg (by omega)] at this
          have e : ((q.floor : Int) : Rat) / ((1 : Int) : Rat) = (q.floor : Rat) := by
            show (q.floor : Rat) / (1 : Rat) = _
            grind
          rw [e] at this
          exact this
        have OH : ∀ v, Below w.heap.size w v → Calls Tryz.prog 42 #[.int .i64 1, .int .i64 2] v fun e w' => e = .returned (.tuple #[rV (rf (1 / 2 : Rat)), .int .i64 0]) ∧ Below v.heap.size v w' := fun v _ => by
          have := rof 1 2 v (by omega) (by omega)
          unfold ofF5 at this
          rw [if_neg (by omega)] at this
          exact this
        have SU : ∀ v, Below w.heap.size w v → Calls Tryz.prog 51 #[rV (rf q), rV (rf (q.floor : Rat))] v fun e w' => e = .returned (.tuple #[rV (rf (q - (q.floor : Rat))), .int .i64 0]) ∧ Below v.heap.size v w' := fun v _ => by
          have := rsub_q (rf q) (rf (q.floor : Rat)) v (zz (by omega) (by omega) f60) (zz (by omega) (by omega) f20)
          rw [opQ_rf _ _ _ _ (g140 (by omega) f60) (g140 (by omega) f20) rfl] at this
          exact this
        have CM : ∀ v, Below w.heap.size w v → Calls Tryz.prog 52 #[rV (rf (q - (q.floor : Rat))), rV (rf (1 / 2 : Rat))] v fun e w' => e = .returned (.tuple #[.int .i64 (sgn (q - ((q.floor : Rat) + 1 / 2))), .int .i64 0]) ∧ Below v.heap.size v w' := fun v _ => by
          have := rcompare_q (rf (q - (q.floor : Rat))) (rf (1 / 2 : Rat)) v (zz (by omega) (by omega) fd) (zz (k := 1) (by omega) (by omega) ⟨by decide +kernel, by decide +kernel⟩)
          rw [Mo.half_rf, Mo.cmp_half, (vR_rf _).2 (fit140 (g140 (by omega) fd)), (lg_rf _).2 (g140 (by omega) fd), qv_rf, if_neg (by simp), if_neg (by simp), ← Mo.half_rf] at this
          have e : q - (q.floor : Rat) - 1 / 2 = q - ((q.floor : Rat) + 1 / 2) := by grind
          rw [e] at this
          exact this
        unfold Mo.rnd
        generalize rf (q - (q.floor : Rat)) = D at *
        generalize rf (q.floor : Rat) = O at *
        generalize rf (1 / 2 : Rat) = T at *
        have hb1 : (q.floor == 9223372036854775807) = false := by simp [hm]
        rcases Mo.sgn_cases (q - ((q.floor : Rat) + 1 / 2)) with hs | hs | hs
        · rw [hs] at CM ⊢
          by_cases hp : q.floor % 2 = 0
          · rw [if_neg (by omega)]
            exact Mo.rr_7 (h1 := z1) (h2 := z2) (hk1 := hb1) (hk2 := hr.1) (hk3 := by omega) (hp := by rw [(Mo.tmod2 _).2 hp]; rfl) (VA := VA) (FL := FL) (OK := Lib.hid OK) (OH := Lib.hid OH) (SU := Lib.hid SU) (CM := Lib.hid CM)
          · rw [if_pos (.inr ⟨rfl, hp⟩)]
            exact Mo.rr_6 (h1 := z1) (h2 := z2) (hk1 := hb1) (hk2 := hr.1) (hk3 := by omega) (hp := by simpa using fun e => hp ((Mo.tmod2 _).1 e)) (VA := VA) (FL := FL) (OK := Lib.hid OK) (OH := Lib.hid OH) (SU := Lib.hid SU) (CM := Lib.hid CM)
        · rw [hs] at CM ⊢
          rw [if_neg (by omega)]
          exact Mo.rr_5 (h1 := z1) (h2 := z2) (hk1 := hb1) (hk2 := hr.1) (hk3 := by omega) (VA := VA) (FL := FL) (OK := Lib.hid OK) (OH := Lib.hid OH) (SU := Lib.hid SU) (CM := Lib.hid CM)
        · rw [hs] at CM ⊢
          rw [if_pos (.inl (by decide))]
          exact Mo.rr_4 (h1 := z1) (h2 := z2) (hk1 := hb1) (hk2 := hr.1) (hk3 := by omega) (VA := VA) (FL := FL) (OK := Lib.hid OK) (OH := Lib.hid OH) (SU := Lib.hid SU) (CM := Lib.hid CM)
    · rw [if_neg hr] at FL
      rw [if_neg (by omega)]
      exact Mo.rr_2 (h1 := z1) (h2 := z2) (he := rfl) (VA := VA) (FL := FL)
end Go.Proofs.YtkbncdcphohmiaaGreatDoor
