/- MoneyConverts: the walks. -/
import Derived.Test.YtkbncdcphohmiaaGreatDoorMoV
import Derived.Lib.QuietBelow
import Derived.Deep.QuietTactic
set_option linter.unusedSimpArgs false
set_option linter.unusedVariables false
namespace Go.Proofs.YtkbncdcphohmiaaGreatDoor
open Go.RowKit
set_option maxRecDepth 100000

theorem Bk.set0 {w : World} {b : Nat} {t : TypeId} {x y : Value} (h : Bk w b t #[x, y]) (v : Value) : Bk (w.setCell ⟨b, 0, none⟩ v) b t #[v, y] := heap_setCell_same w b 0 _ _ _ h
theorem Bk.else0 {w : World} {b b' : Nat} {t : TypeId} {cs : Array Value} (h : Bk w b t cs) (hne : b ≠ b') (i : Nat) (v : Value) : Bk (w.setCell ⟨b', i, none⟩ v) b t cs := (Below.heap_setCell w ⟨b', i, none⟩ v b hne).trans h
theorem Mo.cv_start (w : World) (c c2 : ByteArray) (ua ub : Int) : Below w.heap.size w ((w.alloc (.cells #[.string c, .int .i64 ua] 24)).alloc (.cells #[.string c2, .int .i64 ub] 24)) ∧
    Bk ((w.alloc (.cells #[.string c, .int .i64 ua] 24)).alloc (.cells #[.string c2, .int .i64 ub] 24)) w.heap.size 24 #[.string c, .int .i64 ua] ∧
    Bk ((w.alloc (.cells #[.string c, .int .i64 ua] 24)).alloc (.cells #[.string c2, .int .i64 ub] 24)) (w.heap.size + 1) 24 #[.string c2, .int .i64 ub] := by
  refine ⟨Mo.Nb (Mo.al w _) (Mo.al _ _), (Bk.new w _ _).bt (Mo.al _ _), ?_⟩
  have := Bk.new (w.alloc (.cells #[.string c, .int .i64 ua] 24)) 24 #[.string c2, .int .i64 ub]
  simp only [World.size_alloc] at this
  exact this
theorem Mo.cv_sum {w v : World} {c c2 : ByteArray} {ua ub : Int} (hb : Below w.heap.size w v) (KA : Bk v w.heap.size 24 #[.string c, .int .i64 ua]) (KB : Bk v (w.heap.size + 1) 24 #[.string c2, .int .i64 ub]) (us : Int) (W : World) (hW : W = (v.setCell ⟨w.heap.size + 1, 0, none⟩ (.string c)).alloc (.cells #[.string c, .int .i64 us] 24)) :
    Below w.heap.size w W ∧ Bk W w.heap.size 24 #[.string c, .int .i64 ua] ∧ Bk W (w.heap.size + 1) 24 #[.string c, .int .i64 ub] ∧ Bk W v.heap.size 24 #[.string c, .int .i64 us] := by
  subst hW
  refine ⟨(hb.setCell (p := ⟨w.heap.size + 1, 0, none⟩) (Nat.le_succ _) _).trans ((Mo.al _ _).mono (by simp; exact hb.size)), (KA.else0 (by omega) 0 _).bt (Mo.al _ _), (KB.set0 _).bt (Mo.al _ _), ?_⟩
  have := Bk.new (v.setCell ⟨w.heap.size + 1, 0, none⟩ (.string c)) 24 #[.string c, .int .i64 us]
  simp only [World.size_setCell] at this
  exact this

set_option maxHeartbeats 4000000 in
theorem Mo.cv_e1 (A : Option Addr) (n cp : Nat) (base c c2 tc : ByteArray) (ua ub us day : Int) (xs ys : Bool) (xx xy yx yy : ByteArray) (w : World) (hus : IntKind.i64.wrap (ua + ub) = us) (e1 e2 : Int) (hn : (20 : Int) < (n : Int)) 
    (H : Hid (∀ v, Below w.heap.size w v → Calls Tryz.prog 10 #[] v fun e w' => e = .returned (.bool true) ∧ Below v.heap.size v w'))
    (CX : Hid (∀ v, Below w.heap.size w v → Calls Tryz.prog 13 #[.slice A n cp, .string base, .agg #[.string c, .int .i64 ua], .string tc, .int .i64 day] v fun e w' => e = .returned (.tuple #[.agg #[.bool xs, .string xx, .string xy], .int .i64 e1]) ∧ Below v.heap.size v w'))
    (CY : Hid (∀ v, Below w.heap.size w v → Calls Tryz.prog 13 #[.slice A n cp, .string base, .agg #[.string c, .int .i64 ub], .string tc, .int .i64 day] v fun e w' => e = .returned (.tuple #[.agg #[.bool ys, .string yx, .string yy], .int .i64 e2]) ∧ Below v.heap.size v w')) :
    Calls Tryz.prog 5 #[.slice A n cp, .string base, .agg #[.string c, .int .i64 ua], .agg #[.string c2, .int .i64 ub], .string tc, .int .i64 day] w fun e w' => e = .returned (.bool true) ∧ Below w.heap.size w w' := by
  obtain ⟨hb, KA, KB⟩ := Mo.cv_start w c c2 ua ub
  go_enter Tryz.func5, Tryz.ntmps5
  go_wp2_with fail
  refine (H.out _ hb).mono ?_
  rintro e v0 ⟨rfl, g⟩
  have hb' := Mo.Nb hb g
  have KA' := KA.bt g
  have KB' := KB.bt g
  clear hb KA KB
  have hb := hb'
  have KA := KA'
  have KB := KB'
  clear hb' KA' KB'
  clear g
  have kf := KB.frozen 0
  have KAc0 := KA.cell 0 _ rfl
  have KAc1 := KA.cell 1 _ rfl
  have KBc0 := KB.cell 0 _ rfl
  have KBc1 := KB.cell 1 _ rfl
  go_upto_region 4 with fail
  clear KAc0 KAc1
  clear KBc0 KBc1
  clear kf
  have FF := Mo.cv_sum hb KA KB us
  clear hb KA KB
  refine gen (P := Code.wp _ _ _ _) _ ?_
  intro W hW
  obtain ⟨hb, KA, KB, KS⟩ := FF W hW
  clear FF hW
  have KAc0 := KA.cell 0 _ rfl
  have KAc1 := KA.cell 1 _ rfl
  go_wp2_with fail
  refine (CX.out _ hb).mono ?_
  rintro e v1 ⟨rfl, g⟩
  clear KAc0 KAc1
  have hb' := Mo.Nb hb g
  have KA' := KA.bt g
  have KB' := KB.bt g
  have KS' := KS.bt g
  clear hb KA KB KS
  have hb := hb'
  have KA := KA'
  have KB := KB'
  have KS := KS'
  clear hb' KA' KB' KS'
  clear g
  have hb' := Mo.Nb hb (al v1 (.cells #[.bool xs, .string xx, .string xy] 32))
  have KA' := KA.bt (al v1 (.cells #[.bool xs, .string xx, .string xy] 32))
  have KB' := KB.bt (al v1 (.cells #[.bool xs, .string xx, .string xy] 32))
  have KS' := KS.bt (al v1 (.cells #[.bool xs, .string xx, .string xy] 32))
  clear hb KA KB KS
  have hb := hb'
  have KA := KA'
  have KB := KB'
  have KS := KS'
  clear hb' KA' KB' KS'
  have KBc0 := KB.cell 0 _ rfl
  have KBc1 := KB.cell 1 _ rfl
  go_wp2_with fail
  refine (CY.out _ hb).mono ?_
  rintro e v2 ⟨rfl, g⟩
  clear KBc0 KBc1
  have hb' := Mo.Nb hb g
  have KA' := KA.bt g
  have KB' := KB.bt g
  have KS' := KS.bt g
  clear hb KA KB KS
  have hb := hb'
  have KA := KA'
  have KB := KB'
  have KS := KS'
  clear hb' KA' KB' KS'
  clear g
  have hb' := Mo.Nb hb (al v2 (.cells #[.bool ys, .string yx, .string yy] 32))
  have KA' := KA.bt (al v2 (.cells #[.bool ys, .string yx, .string yy] 32))
  have KB' := KB.bt (al v2 (.cells #[.bool ys, .string yx, .string yy] 32))
  have KS' := KS.bt (al v2 (.cells #[.bool ys, .string yx, .string yy] 32))
  clear hb KA KB KS
  have hb := hb'
  have KA := KA'
  have KB := KB'
  have KS := KS'
  clear hb' KA' KB' KS'
  go_wp2_with fail
  go_ret
  exact ⟨rfl, hb⟩

set_option maxHeartbeats 4000000 in
theorem Mo.cv_e2 (A : Option Addr) (n cp : Nat) (base c c2 tc : ByteArray) (ua ub us day : Int) (xs ys : Bool) (xx xy yx yy : ByteArray) (w : World) (hus : IntKind.i64.wrap (ua + ub) = us) (e1 e2 : Int) (hn : ¬ (20 : Int) < (n : Int)) (h1 : (e1 != 0) = true) 
    (H : Hid (∀ v, Below w.heap.size w v → Calls Tryz.prog 10 #[] v fun e w' => e = .returned (.bool true) ∧ Below v.heap.size v w'))
    (CX : Hid (∀ v, Below w.heap.size w v → Calls Tryz.prog 13 #[.slice A n cp, .string base, .agg #[.string c, .int .i64 ua], .string tc, .int .i64 day] v fun e w' => e = .returned (.tuple #[.agg #[.bool xs, .string xx, .string xy], .int .i64 e1]) ∧ Below v.heap.size v w'))
    (CY : Hid (∀ v, Below w.heap.size w v → Calls Tryz.prog 13 #[.slice A n cp, .string base, .agg #[.string c, .int .i64 ub], .string tc, .int .i64 day] v fun e w' => e = .returned (.tuple #[.agg #[.bool ys, .string yx, .string yy], .int .i64 e2]) ∧ Below v.heap.size v w')) :
    Calls Tryz.prog 5 #[.slice A n cp, .string base, .agg #[.string c, .int .i64 ua], .agg #[.string c2, .int .i64 ub], .string tc, .int .i64 day] w fun e w' => e = .returned (.bool true) ∧ Below w.heap.size w w' := by
  obtain ⟨hb, KA, KB⟩ := Mo.cv_start w c c2 ua ub
  go_enter Tryz.func5, Tryz.ntmps5
  go_wp2_with fail
  refine (H.out _ hb).mono ?_
  rintro e v0 ⟨rfl, g⟩
  have hb' := Mo.Nb hb g
  have KA' := KA.bt g
  have KB' := KB.bt g
  clear hb KA KB
  have hb := hb'
  have KA := KA'
  have KB := KB'
  clear hb' KA' KB'
  clear g
  have kf := KB.frozen 0
  have KAc0 := KA.cell 0 _ rfl
  have KAc1 := KA.cell 1 _ rfl
  have KBc0 := KB.cell 0 _ rfl
  have KBc1 := KB.cell 1 _ rfl
  go_upto_region 4 with fail
  clear KAc0 KAc1
  clear KBc0 KBc1
  clear kf
  have FF := Mo.cv_sum hb KA KB us
  clear hb KA KB
  refine gen (P := Code.wp _ _ _ _) _ ?_
  intro W hW
  obtain ⟨hb, KA, KB, KS⟩ := FF W hW
  clear FF hW
  have KAc0 := KA.cell 0 _ rfl
  have KAc1 := KA.cell 1 _ rfl
  go_wp2_with fail
  refine (CX.out _ hb).mono ?_
  rintro e v1 ⟨rfl, g⟩
  clear KAc0 KAc1
  have hb' := Mo.Nb hb g
  have KA' := KA.bt g
  have KB' := KB.bt g
  have KS' := KS.bt g
  clear hb KA KB KS
  have hb := hb'
  have KA := KA'
  have KB := KB'
  have KS := KS'
  clear hb' KA' KB' KS'
  clear g
  have hb' := Mo.Nb hb (al v1 (.cells #[.bool xs, .string xx, .string xy] 32))
  have KA' := KA.bt (al v1 (.cells #[.bool xs, .string xx, .string xy] 32))
  have KB' := KB.bt (al v1 (.cells #[.bool xs, .string xx, .string xy] 32))
  have KS' := KS.bt (al v1 (.cells #[.bool xs, .string xx, .string xy] 32))
  clear hb KA KB KS
  have hb := hb'
  have KA := KA'
  have KB := KB'
  have KS := KS'
  clear hb' KA' KB' KS'
  have KBc0 := KB.cell 0 _ rfl
  have KBc1 := KB.cell 1 _ rfl
  go_wp2_with fail
  refine (CY.out _ hb).mono ?_
  rintro e v2 ⟨rfl, g⟩
  clear KBc0 KBc1
  have hb' := Mo.Nb hb g
  have KA' := KA.bt g
  have KB' := KB.bt g
  have KS' := KS.bt g
  clear hb KA KB KS
  have hb := hb'
  have KA := KA'
  have KB := KB'
  have KS := KS'
  clear hb' KA' KB' KS'
  clear g
  have hb' := Mo.Nb hb (al v2 (.cells #[.bool ys, .string yx, .string yy] 32))
  have KA' := KA.bt (al v2 (.cells #[.bool ys, .string yx, .string yy] 32))
  have KB' := KB.bt (al v2 (.cells #[.bool ys, .string yx, .string yy] 32))
  have KS' := KS.bt (al v2 (.cells #[.bool ys, .string yx, .string yy] 32))
  clear hb KA KB KS
  have hb := hb'
  have KA := KA'
  have KB := KB'
  have KS := KS'
  clear hb' KA' KB' KS'
  go_wp2_with fail
  go_ret
  exact ⟨rfl, hb⟩

set_option maxHeartbeats 4000000 in
theorem Mo.cv_e3 (A : Option Addr) (n cp : Nat) (base c c2 tc : ByteArray) (ua ub us day : Int) (xs ys : Bool) (xx xy yx yy : ByteArray) (w : World) (hus : IntKind.i64.wrap (ua + ub) = us) (e2 : Int) (hn : ¬ (20 : Int) < (n : Int)) (h1 : (e2 != 0) = true) 
    (H : Hid (∀ v, Below w.heap.size w v → Calls Tryz.prog 10 #[] v fun e w' => e = .returned (.bool true) ∧ Below v.heap.size v w'))
    (CX : Hid (∀ v, Below w.heap.size w v → Calls Tryz.prog 13 #[.slice A n cp, .string base, .agg #[.string c, .int .i64 ua], .string tc, .int .i64 day] v fun e w' => e = .returned (.tuple #[.agg #[.bool xs, .string xx, .string xy], .int .i64 0]) ∧ Below v.heap.size v w'))
    (CY : Hid (∀ v, Below w.heap.size w v → Calls Tryz.prog 13 #[.slice A n cp, .string base, .agg #[.string c, .int .i64 ub], .string tc, .int .i64 day] v fun e w' => e = .returned (.tuple #[.agg #[.bool ys, .string yx, .string yy], .int .i64 e2]) ∧ Below v.heap.size v w')) :
    Calls Tryz.prog 5 #[.slice A n cp, .string base, .agg #[.string c, .int .i64 ua], .agg #[.string c2, .int .i64 ub], .string tc, .int .i64 day] w fun e w' => e = .returned (.bool true) ∧ Below w.heap.size w w' := by
  obtain ⟨hb, KA, KB⟩ := Mo.cv_start w c c2 ua ub
  go_enter Tryz.func5, Tryz.ntmps5
  go_wp2_with fail
  refine (H.out _ hb).mono ?_
  rintro e v0 ⟨rfl, g⟩
  have hb' := Mo.Nb hb g
  have KA' := KA.bt g
  have KB' := KB.bt g
  clear hb KA KB
  have hb := hb'
  have KA := KA'
  have KB := KB'
  clear hb' KA' KB'
  clear g
  have kf := KB.frozen 0
  have KAc0 := KA.cell 0 _ rfl
  have KAc1 := KA.cell 1 _ rfl
  have KBc0 := KB.cell 0 _ rfl
  have KBc1 := KB.cell 1 _ rfl
  go_upto_region 4 with fail
  clear KAc0 KAc1
  clear KBc0 KBc1
  clear kf
  have FF := Mo.cv_sum hb KA KB us
  clear hb KA KB
  refine gen (P := Code.wp _ _ _ _) _ ?_
  intro W hW
  obtain ⟨hb, KA, KB, KS⟩ := FF W hW
  clear FF hW
  have KAc0 := KA.cell 0 _ rfl
  have KAc1 := KA.cell 1 _ rfl
  go_wp2_with fail
  refine (CX.out _ hb).mono ?_
  rintro e v1 ⟨rfl, g⟩
  clear KAc0 KAc1
  have hb' := Mo.Nb hb g
  have KA' := KA.bt g
  have KB' := KB.bt g
  have KS' := KS.bt g
  clear hb KA KB KS
  have hb := hb'
  have KA := KA'
  have KB := KB'
  have KS := KS'
  clear hb' KA' KB' KS'
  clear g
  have hb' := Mo.Nb hb (al v1 (.cells #[.bool xs, .string xx, .string xy] 32))
  have KA' := KA.bt (al v1 (.cells #[.bool xs, .string xx, .string xy] 32))
  have KB' := KB.bt (al v1 (.cells #[.bool xs, .string xx, .string xy] 32))
  have KS' := KS.bt (al v1 (.cells #[.bool xs, .string xx, .string xy] 32))
  clear hb KA KB KS
  have hb := hb'
  have KA := KA'
  have KB := KB'
  have KS := KS'
  clear hb' KA' KB' KS'
  have KBc0 := KB.cell 0 _ rfl
  have KBc1 := KB.cell 1 _ rfl
  go_wp2_with fail
  refine (CY.out _ hb).mono ?_
  rintro e v2 ⟨rfl, g⟩
  clear KBc0 KBc1
  have hb' := Mo.Nb hb g
  have KA' := KA.bt g
  have KB' := KB.bt g
  have KS' := KS.bt g
  clear hb KA KB KS
  have hb := hb'
  have KA := KA'
  have KB := KB'
  have KS := KS'
  clear hb' KA' KB' KS'
  clear g
  have hb' := Mo.Nb hb (al v2 (.cells #[.bool ys, .string yx, .string yy] 32))
  have KA' := KA.bt (al v2 (.cells #[.bool ys, .string yx, .string yy] 32))
  have KB' := KB.bt (al v2 (.cells #[.bool ys, .string yx, .string yy] 32))
  have KS' := KS.bt (al v2 (.cells #[.bool ys, .string yx, .string yy] 32))
  clear hb KA KB KS
  have hb := hb'
  have KA := KA'
  have KB := KB'
  have KS := KS'
  clear hb' KA' KB' KS'
  go_wp2_with fail
  go_ret
  exact ⟨rfl, hb⟩

set_option maxHeartbeats 4000000 in
theorem Mo.cv_ok0 (A : Option Addr) (n cp : Nat) (base c c2 tc : ByteArray) (ua ub us day : Int) (xs ys os ts is zs : Bool) (xx xy yx yy ox oy tx ty ix iy zx zy : ByteArray) (w : World) (hus : IntKind.i64.wrap (ua + ub) = us) (hn : ¬ (20 : Int) < (n : Int)) 
    (H : Hid (∀ v, Below w.heap.size w v → Calls Tryz.prog 10 #[] v fun e w' => e = .returned (.bool true) ∧ Below v.heap.size v w'))
    (CX : Hid (∀ v, Below w.heap.size w v → Calls Tryz.prog 13 #[.slice A n cp, .string base, .agg #[.string c, .int .i64 ua], .string tc, .int .i64 day] v fun e w' => e = .returned (.tuple #[.agg #[.bool xs, .string xx, .string xy], .int .i64 0]) ∧ Below v.heap.size v w'))
    (CY : Hid (∀ v, Below w.heap.size w v → Calls Tryz.prog 13 #[.slice A n cp, .string base, .agg #[.string c, .int .i64 ub], .string tc, .int .i64 day] v fun e w' => e = .returned (.tuple #[.agg #[.bool ys, .string yx, .string yy], .int .i64 0]) ∧ Below v.heap.size v w'))
    (CO : Hid (∀ v, Below w.heap.size w v → Calls Tryz.prog 13 #[.slice A n cp, .string base, .agg #[.string c, .int .i64 ua], .string c, .int .i64 day] v fun e w' => e = .returned (.tuple #[.agg #[.bool os, .string ox, .string oy], .int .i64 0]) ∧ Below v.heap.size v w'))
    (CU : Hid (∀ v, Below w.heap.size w v → Calls Tryz.prog 13 #[.slice A n cp, .string base, .agg #[.string base, .int .i64 1], .string tc, .int .i64 day] v fun e w' => e = .returned (.tuple #[.agg #[.bool ts, .string tx, .string ty], .int .i64 0]) ∧ Below v.heap.size v w'))
    (CI : Hid (∀ v, Below w.heap.size w v → Calls Tryz.prog 13 #[.slice A n cp, .string base, .agg #[.string c, .int .i64 ua], .string base, .int .i64 day] v fun e w' => e = .returned (.tuple #[.agg #[.bool is, .string ix, .string iy], .int .i64 0]) ∧ Below v.heap.size v w'))
    (OO : Hid (∀ v, Below w.heap.size w v → Calls Tryz.prog 26 #[.int .i64 ua, .int .i64 1] v fun e w' => e = .returned (.agg #[.bool os, .string ox, .string oy]) ∧ Below v.heap.size v w'))
    (MU : Hid (∀ v, Below w.heap.size w v → Calls Tryz.prog 27 #[.agg #[.bool is, .string ix, .string iy], .agg #[.bool ts, .string tx, .string ty]] v fun e w' => e = .returned (.tuple #[.agg #[.bool xs, .string xx, .string xy], .int .i64 0]) ∧ Below v.heap.size v w'))
    (CS : Hid (∀ v, Below w.heap.size w v → Calls Tryz.prog 13 #[.slice A n cp, .string base, .agg #[.string c, .int .i64 us], .string tc, .int .i64 day] v fun e w' => e = .returned (.tuple #[.agg #[.bool zs, .string zx, .string zy], .int .i64 0]) ∧ Below v.heap.size v w'))
    (AD : Hid (∀ v, Below w.heap.size w v → Calls Tryz.prog 28 #[.agg #[.bool xs, .string xx, .string xy], .agg #[.bool ys, .string yx, .string yy]] v fun e w' => e = .returned (.tuple #[.agg #[.bool zs, .string zx, .string zy], .int .i64 0]) ∧ Below v.heap.size v w')) :
    Calls Tryz.prog 5 #[.slice A n cp, .string base, .agg #[.string c, .int .i64 ua], .agg #[.string c2, .int .i64 ub], .string tc, .int .i64 day] w fun e w' => e = .returned (.bool true) ∧ Below w.heap.size w w' := by
  obtain ⟨hb, KA, KB⟩ := Mo.cv_start w c c2 ua ub
  go_enter Tryz.func5, Tryz.ntmps5
  go_wp2_with fail
  refine (H.out _ hb).mono ?_
  rintro e v0 ⟨rfl, g⟩
  have hb' := Mo.Nb hb g
  have KA' := KA.bt g
  have KB' := KB.bt g
  clear hb KA KB
  have hb := hb'
  have KA := KA'
  have KB := KB'
  clear hb' KA' KB'
  clear g
  have kf := KB.frozen 0
  have KAc0 := KA.cell 0 _ rfl
  have KAc1 := KA.cell 1 _ rfl
  have KBc0 := KB.cell 0 _ rfl
  have KBc1 := KB.cell 1 _ rfl
  go_upto_region 4 with fail
  clear KAc0 KAc1
  clear KBc0 KBc1
  clear kf
  have FF := Mo.cv_sum hb KA KB us
  clear hb KA KB
  refine gen (P := Code.wp _ _ _ _) _ ?_
  intro W hW
  obtain ⟨hb, KA, KB, KS⟩ := FF W hW
  clear FF hW
  have KAc0 := KA.cell 0 _ rfl
  have KAc1 := KA.cell 1 _ rfl
  go_wp2_with fail
  refine (CX.out _ hb).mono ?_
  rintro e v1 ⟨rfl, g⟩
  clear KAc0 KAc1
  have hb' := Mo.Nb hb g
  have KA' := KA.bt g
  have KB' := KB.bt g
  have KS' := KS.bt g
  clear hb KA KB KS
  have hb := hb'
  have KA := KA'
  have KB := KB'
  have KS := KS'
  clear hb' KA' KB' KS'
  clear g
  have hb' := Mo.Nb hb (al v1 (.cells #[.bool xs, .string xx, .string xy] 32))
  have KA' := KA.bt (al v1 (.cells #[.bool xs, .string xx, .string xy] 32))
  have KB' := KB.bt (al v1 (.cells #[.bool xs, .string xx, .string xy] 32))
  have KS' := KS.bt (al v1 (.cells #[.bool xs, .string xx, .string xy] 32))
  clear hb KA KB KS
  have hb := hb'
  have KA := KA'
  have KB := KB'
  have KS := KS'
  clear hb' KA' KB' KS'
  have X := At.new v1 xs xx xy
  have KBc0 := KB.cell 0 _ rfl
  have KBc1 := KB.cell 1 _ rfl
  go_wp2_with fail
  refine (CY.out _ hb).mono ?_
  rintro e v2 ⟨rfl, g⟩
  clear KBc0 KBc1
  have hb' := Mo.Nb hb g
  have KA' := KA.bt g
  have KB' := KB.bt g
  have KS' := KS.bt g
  have X' := X.bt g
  clear hb KA KB KS X
  have hb := hb'
  have KA := KA'
  have KB := KB'
  have KS := KS'
  have X := X'
  clear hb' KA' KB' KS' X'
  clear g
  have hb' := Mo.Nb hb (al v2 (.cells #[.bool ys, .string yx, .string yy] 32))
  have KA' := KA.bt (al v2 (.cells #[.bool ys, .string yx, .string yy] 32))
  have KB' := KB.bt (al v2 (.cells #[.bool ys, .string yx, .string yy] 32))
  have KS' := KS.bt (al v2 (.cells #[.bool ys, .string yx, .string yy] 32))
  have X' := X.bt (al v2 (.cells #[.bool ys, .string yx, .string yy] 32))
  clear hb KA KB KS X
  have hb := hb'
  have KA := KA'
  have KB := KB'
  have KS := KS'
  have X := X'
  clear hb' KA' KB' KS' X'
  have Y := At.new v2 ys yx yy
  have KAc0 := KA.cell 0 _ rfl
  have KAc1 := KA.cell 1 _ rfl
  go_wp2_with fail
  refine (CO.out _ hb).mono ?_
  rintro e v3 ⟨rfl, g⟩
  clear KAc0 KAc1
  have hb' := Mo.Nb hb g
  have KA' := KA.bt g
  have KB' := KB.bt g
  have KS' := KS.bt g
  have X' := X.bt g
  have Y' := Y.bt g
  clear hb KA KB KS X Y
  have hb := hb'
  have KA := KA'
  have KB := KB'
  have KS := KS'
  have X := X'
  have Y := Y'
  clear hb' KA' KB' KS' X' Y'
  clear g
  have hb' := Mo.Nb hb (al v3 (.cells #[.bool os, .string ox, .string oy] 32))
  have KA' := KA.bt (al v3 (.cells #[.bool os, .string ox, .string oy] 32))
  have KB' := KB.bt (al v3 (.cells #[.bool os, .string ox, .string oy] 32))
  have KS' := KS.bt (al v3 (.cells #[.bool os, .string ox, .string oy] 32))
  have X' := X.bt (al v3 (.cells #[.bool os, .string ox, .string oy] 32))
  have Y' := Y.bt (al v3 (.cells #[.bool os, .string ox, .string oy] 32))
  clear hb KA KB KS X Y
  have hb := hb'
  have KA := KA'
  have KB := KB'
  have KS := KS'
  have X := X'
  have Y := Y'
  clear hb' KA' KB' KS' X' Y'
  have O := At.new v3 os ox oy
  go_wp2_with fail
  refine (CU.out _ hb).mono ?_
  rintro e v4 ⟨rfl, g⟩
  have hb' := Mo.Nb hb g
  have KA' := KA.bt g
  have KB' := KB.bt g
  have KS' := KS.bt g
  have X' := X.bt g
  have Y' := Y.bt g
  have O' := O.bt g
  clear hb KA KB KS X Y O
  have hb := hb'
  have KA := KA'
  have KB := KB'
  have KS := KS'
  have X := X'
  have Y := Y'
  have O := O'
  clear hb' KA' KB' KS' X' Y' O'
  clear g
  have hb' := Mo.Nb hb (al v4 (.cells #[.bool ts, .string tx, .string ty] 32))
  have KA' := KA.bt (al v4 (.cells #[.bool ts, .string tx, .string ty] 32))
  have KB' := KB.bt (al v4 (.cells #[.bool ts, .string tx, .string ty] 32))
  have KS' := KS.bt (al v4 (.cells #[.bool ts, .string tx, .string ty] 32))
  have X' := X.bt (al v4 (.cells #[.bool ts, .string tx, .string ty] 32))
  have Y' := Y.bt (al v4 (.cells #[.bool ts, .string tx, .string ty] 32))
  have O' := O.bt (al v4 (.cells #[.bool ts, .string tx, .string ty] 32))
  clear hb KA KB KS X Y O
  have hb := hb'
  have KA := KA'
  have KB := KB'
  have KS := KS'
  have X := X'
  have Y := Y'
  have O := O'
  clear hb' KA' KB' KS' X' Y' O'
  have T := At.new v4 ts tx ty
  have KAc0 := KA.cell 0 _ rfl
  have KAc1 := KA.cell 1 _ rfl
  go_wp2_with fail
  refine (CI.out _ hb).mono ?_
  rintro e v5 ⟨rfl, g⟩
  clear KAc0 KAc1
  have hb' := Mo.Nb hb g
  have KA' := KA.bt g
  have KB' := KB.bt g
  have KS' := KS.bt g
  have X' := X.bt g
  have Y' := Y.bt g
  have O' := O.bt g
  have T' := T.bt g
  clear hb KA KB KS X Y O T
  have hb := hb'
  have KA := KA'
  have KB := KB'
  have KS := KS'
  have X := X'
  have Y := Y'
  have O := O'
  have T := T'
  clear hb' KA' KB' KS' X' Y' O' T'
  clear g
  have hb' := Mo.Nb hb (al v5 (.cells #[.bool is, .string ix, .string iy] 32))
  have KA' := KA.bt (al v5 (.cells #[.bool is, .string ix, .string iy] 32))
  have KB' := KB.bt (al v5 (.cells #[.bool is, .string ix, .string iy] 32))
  have KS' := KS.bt (al v5 (.cells #[.bool is, .string ix, .string iy] 32))
  have X' := X.bt (al v5 (.cells #[.bool is, .string ix, .string iy] 32))
  have Y' := Y.bt (al v5 (.cells #[.bool is, .string ix, .string iy] 32))
  have O' := O.bt (al v5 (.cells #[.bool is, .string ix, .string iy] 32))
  have T' := T.bt (al v5 (.cells #[.bool is, .string ix, .string iy] 32))
  clear hb KA KB KS X Y O T
  have hb := hb'
  have KA := KA'
  have KB := KB'
  have KS := KS'
  have X := X'
  have Y := Y'
  have O := O'
  have T := T'
  clear hb' KA' KB' KS' X' Y' O' T'
  have I := At.new v5 is ix iy
  obtain ⟨Oc0, Oc1, Oc2, _, _, _⟩ := O.cells
  have KAc0 := KA.cell 0 _ rfl
  have KAc1 := KA.cell 1 _ rfl
  go_wp2_with fail
  generalize hW : (v5.alloc (.cells #[.bool is, .string ix, .string iy] 32)) = wr at *
  clear hW
  have y0 := fun dq os => cell_regrown Oc0 dq os
  have y1 := fun dq os => cell_regrown Oc1 dq os
  have y2 := fun dq os => cell_regrown Oc2 dq os
  have y3 := fun dq os => cell_regrown KAc1 dq os
  have LYr := Lib.hid (fun dq os => Calls.regrown_of (OO.out (Go.Sort.grow (redrawn wr dq) os) (Mo.Nb hb (below_regrown wr dq os))))
  refine wp_region_quiet_below (by kernel_rfl) (by kernel_rfl) ?_
  repeat (quiet_step ((go_at_call 26; exact LYr.out _ _)))
  refine wpQuiet_nil ?_
  intro _ hw'
  obtain ⟨⟨dq, osq⟩, hw''⟩ := hw'
  subst hw''
  clear LYr y0 y1 y2 y3
  clear Oc0 Oc1 Oc2
  clear KAc0 KAc1
  clear O KA KB
  have hb' := Mo.Nb hb (below_regrown wr dq osq)
  have KS' := KS.bt (below_regrown wr dq osq)
  have X' := X.bt (below_regrown wr dq osq)
  have Y' := Y.bt (below_regrown wr dq osq)
  have T' := T.bt (below_regrown wr dq osq)
  have I' := I.bt (below_regrown wr dq osq)
  clear hb KS X Y T I
  have hb := hb'
  have KS := KS'
  have X := X'
  have Y := Y'
  have T := T'
  have I := I'
  clear hb' KS' X' Y' T' I'
  generalize Go.Sort.grow (redrawn wr dq) osq = vr at *
  obtain ⟨Ic0, Ic1, Ic2, _, _, _⟩ := I.cells
  obtain ⟨Tc0, Tc1, Tc2, _, _, _⟩ := T.cells
  go_wp2_with fail
  refine (MU.out _ hb).mono ?_
  rintro e v6 ⟨rfl, g⟩
  clear Ic0 Ic1 Ic2
  clear Tc0 Tc1 Tc2
  have hb' := Mo.Nb hb g
  have KS' := KS.bt g
  have X' := X.bt g
  have Y' := Y.bt g
  have T' := T.bt g
  have I' := I.bt g
  clear hb KS X Y T I
  have hb := hb'
  have KS := KS'
  have X := X'
  have Y := Y'
  have T := T'
  have I := I'
  clear hb' KS' X' Y' T' I'
  clear g
  have hb' := Mo.Nb hb (al v6 (.cells #[.bool xs, .string xx, .string xy] 32))
  have KS' := KS.bt (al v6 (.cells #[.bool xs, .string xx, .string xy] 32))
  have X' := X.bt (al v6 (.cells #[.bool xs, .string xx, .string xy] 32))
  have Y' := Y.bt (al v6 (.cells #[.bool xs, .string xx, .string xy] 32))
  have T' := T.bt (al v6 (.cells #[.bool xs, .string xx, .string xy] 32))
  have I' := I.bt (al v6 (.cells #[.bool xs, .string xx, .string xy] 32))
  clear hb KS X Y T I
  have hb := hb'
  have KS := KS'
  have X := X'
  have Y := Y'
  have T := T'
  have I := I'
  clear hb' KS' X' Y' T' I'
  have Z := At.new v6 xs xx xy
  obtain ⟨Zc0, Zc1, Zc2, _, _, _⟩ := Z.cells
  obtain ⟨Xc0, Xc1, Xc2, _, _, _⟩ := X.cells
  have KSc0 := KS.cell 0 _ rfl
  have KSc1 := KS.cell 1 _ rfl
  go_wp2_with fail
  refine (CS.out _ hb).mono ?_
  rintro e v7 ⟨rfl, g⟩
  clear Zc0 Zc1 Zc2
  clear Xc0 Xc1 Xc2
  clear KSc0 KSc1
  have hb' := Mo.Nb hb g
  have KS' := KS.bt g
  have X' := X.bt g
  have Y' := Y.bt g
  have T' := T.bt g
  have I' := I.bt g
  have Z' := Z.bt g
  clear hb KS X Y T I Z
  have hb := hb'
  have KS := KS'
  have X := X'
  have Y := Y'
  have T := T'
  have I := I'
  have Z := Z'
  clear hb' KS' X' Y' T' I' Z'
  clear g
  have hb' := Mo.Nb hb (al v7 (.cells #[.bool zs, .string zx, .string zy] 32))
  have KS' := KS.bt (al v7 (.cells #[.bool zs, .string zx, .string zy] 32))
  have X' := X.bt (al v7 (.cells #[.bool zs, .string zx, .string zy] 32))
  have Y' := Y.bt (al v7 (.cells #[.bool zs, .string zx, .string zy] 32))
  have T' := T.bt (al v7 (.cells #[.bool zs, .string zx, .string zy] 32))
  have I' := I.bt (al v7 (.cells #[.bool zs, .string zx, .string zy] 32))
  have Z' := Z.bt (al v7 (.cells #[.bool zs, .string zx, .string zy] 32))
  clear hb KS X Y T I Z
  have hb := hb'
  have KS := KS'
  have X := X'
  have Y := Y'
  have T := T'
  have I := I'
  have Z := Z'
  clear hb' KS' X' Y' T' I' Z'
  have S := At.new v7 zs zx zy
  obtain ⟨Xc0, Xc1, Xc2, _, _, _⟩ := X.cells
  obtain ⟨Yc0, Yc1, Yc2, _, _, _⟩ := Y.cells
  go_wp2_with fail
  refine (AD.out _ hb).mono ?_
  rintro e v8 ⟨rfl, g⟩
  clear Xc0 Xc1 Xc2
  clear Yc0 Yc1 Yc2
  have hb' := Mo.Nb hb g
  have KS' := KS.bt g
  have X' := X.bt g
  have Y' := Y.bt g
  have T' := T.bt g
  have I' := I.bt g
  have Z' := Z.bt g
  have S' := S.bt g
  clear hb KS X Y T I Z S
  have hb := hb'
  have KS := KS'
  have X := X'
  have Y := Y'
  have T := T'
  have I := I'
  have Z := Z'
  have S := S'
  clear hb' KS' X' Y' T' I' Z' S'
  clear g
  have hb' := Mo.Nb hb (al v8 (.cells #[.bool zs, .string zx, .string zy] 32))
  have KS' := KS.bt (al v8 (.cells #[.bool zs, .string zx, .string zy] 32))
  have X' := X.bt (al v8 (.cells #[.bool zs, .string zx, .string zy] 32))
  have Y' := Y.bt (al v8 (.cells #[.bool zs, .string zx, .string zy] 32))
  have T' := T.bt (al v8 (.cells #[.bool zs, .string zx, .string zy] 32))
  have I' := I.bt (al v8 (.cells #[.bool zs, .string zx, .string zy] 32))
  have Z' := Z.bt (al v8 (.cells #[.bool zs, .string zx, .string zy] 32))
  have S' := S.bt (al v8 (.cells #[.bool zs, .string zx, .string zy] 32))
  clear hb KS X Y T I Z S
  have hb := hb'
  have KS := KS'
  have X := X'
  have Y := Y'
  have T := T'
  have I := I'
  have Z := Z'
  have S := S'
  clear hb' KS' X' Y' T' I' Z' S'
  have B := At.new v8 zs zx zy
  obtain ⟨Sc0, Sc1, Sc2, _, _, _⟩ := S.cells
  obtain ⟨Bc0, Bc1, Bc2, _, _, _⟩ := B.cells
  go_wp2_with fail
  go_ret
  exact ⟨rfl, hb⟩

set_option maxHeartbeats 4000000 in
theorem Mo.cv_ok1 (A : Option Addr) (n cp : Nat) (base c c2 tc : ByteArray) (ua ub us day : Int) (xs ys os ts is zs fs : Bool) (xx xy yx yy ox oy tx ty ix iy zx zy fx fy : ByteArray) (w : World) (hus : IntKind.i64.wrap (ua + ub) = us) (hn : ¬ (20 : Int) < (n : Int)) 
    (H : Hid (∀ v, Below w.heap.size w v → Calls Tryz.prog 10 #[] v fun e w' => e = .returned (.bool true) ∧ Below v.heap.size v w'))
    (CX : Hid (∀ v, Below w.heap.size w v → Calls Tryz.prog 13 #[.slice A n cp, .string base, .agg #[.string c, .int .i64 ua], .string tc, .int .i64 day] v fun e w' => e = .returned (.tuple #[.agg #[.bool xs, .string xx, .string xy], .int .i64 0]) ∧ Below v.heap.size v w'))
    (CY : Hid (∀ v, Below w.heap.size w v → Calls Tryz.prog 13 #[.slice A n cp, .string base, .agg #[.string c, .int .i64 ub], .string tc, .int .i64 day] v fun e w' => e = .returned (.tuple #[.agg #[.bool ys, .string yx, .string yy], .int .i64 0]) ∧ Below v.heap.size v w'))
    (CO : Hid (∀ v, Below w.heap.size w v → Calls Tryz.prog 13 #[.slice A n cp, .string base, .agg #[.string c, .int .i64 ua], .string c, .int .i64 day] v fun e w' => e = .returned (.tuple #[.agg #[.bool os, .string ox, .string oy], .int .i64 0]) ∧ Below v.heap.size v w'))
    (CU : Hid (∀ v, Below w.heap.size w v → Calls Tryz.prog 13 #[.slice A n cp, .string base, .agg #[.string base, .int .i64 1], .string tc, .int .i64 day] v fun e w' => e = .returned (.tuple #[.agg #[.bool ts, .string tx, .string ty], .int .i64 0]) ∧ Below v.heap.size v w'))
    (CI : Hid (∀ v, Below w.heap.size w v → Calls Tryz.prog 13 #[.slice A n cp, .string base, .agg #[.string c, .int .i64 ua], .string base, .int .i64 day] v fun e w' => e = .returned (.tuple #[.agg #[.bool is, .string ix, .string iy], .int .i64 0]) ∧ Below v.heap.size v w'))
    (OO : Hid (∀ v, Below w.heap.size w v → Calls Tryz.prog 26 #[.int .i64 ua, .int .i64 1] v fun e w' => e = .returned (.agg #[.bool os, .string ox, .string oy]) ∧ Below v.heap.size v w'))
    (MU : Hid (∀ v, Below w.heap.size w v → Calls Tryz.prog 27 #[.agg #[.bool is, .string ix, .string iy], .agg #[.bool ts, .string tx, .string ty]] v fun e w' => e = .returned (.tuple #[.agg #[.bool xs, .string xx, .string xy], .int .i64 0]) ∧ Below v.heap.size v w'))
    (CS : Hid (∀ v, Below w.heap.size w v → Calls Tryz.prog 13 #[.slice A n cp, .string base, .agg #[.string c, .int .i64 us], .string tc, .int .i64 day] v fun e w' => e = .returned (.tuple #[.agg #[.bool zs, .string zx, .string zy], .int .i64 1]) ∧ Below v.heap.size v w'))
    (AD : Hid (∀ v, Below w.heap.size w v → Calls Tryz.prog 28 #[.agg #[.bool xs, .string xx, .string xy], .agg #[.bool ys, .string yx, .string yy]] v fun e w' => e = .returned (.tuple #[.agg #[.bool fs, .string fx, .string fy], .int .i64 0]) ∧ Below v.heap.size v w')) :
    Calls Tryz.prog 5 #[.slice A n cp, .string base, .agg #[.string c, .int .i64 ua], .agg #[.string c2, .int .i64 ub], .string tc, .int .i64 day] w fun e w' => e = .returned (.bool true) ∧ Below w.heap.size w w' := by
  obtain ⟨hb, KA, KB⟩ := Mo.cv_start w c c2 ua ub
  go_enter Tryz.func5, Tryz.ntmps5
  go_wp2_with fail
  refine (H.out _ hb).mono ?_
  rintro e v0 ⟨rfl, g⟩
  have hb' := Mo.Nb hb g
  have KA' := KA.bt g
  have KB' := KB.bt g
  clear hb KA KB
  have hb := hb'
  have KA := KA'
  have KB := KB'
  clear hb' KA' KB'
  clear g
  have kf := KB.frozen 0
  have KAc0 := KA.cell 0 _ rfl
  have KAc1 := KA.cell 1 _ rfl
  have KBc0 := KB.cell 0 _ rfl
  have KBc1 := KB.cell 1 _ rfl
  go_upto_region 4 with fail
  clear KAc0 KAc1
  clear KBc0 KBc1
  clear kf
  have FF := Mo.cv_sum hb KA KB us
  clear hb KA KB
  refine gen (P := Code.wp _ _ _ _) _ ?_
  intro W hW
  obtain ⟨hb, KA, KB, KS⟩ := FF W hW
  clear FF hW
  have KAc0 := KA.cell 0 _ rfl
  have KAc1 := KA.cell 1 _ rfl
  go_wp2_with fail
  refine (CX.out _ hb).mono ?_
  rintro e v1 ⟨rfl, g⟩
  clear KAc0 KAc1
  have hb' := Mo.Nb hb g
  have KA' := KA.bt g
  have KB' := KB.bt g
  have KS' := KS.bt g
  clear hb KA KB KS
  have hb := hb'
  have KA := KA'
  have KB := KB'
  have KS := KS'
  clear hb' KA' KB' KS'
  clear g
  have hb' := Mo.Nb hb (al v1 (.cells #[.bool xs, .string xx, .string xy] 32))
  have KA' := KA.bt (al v1 (.cells #[.bool xs, .string xx, .string xy] 32))
  have KB' := KB.bt (al v1 (.cells #[.bool xs, .string xx, .string xy] 32))
  have KS' := KS.bt (al v1 (.cells #[.bool xs, .string xx, .string xy] 32))
  clear hb KA KB KS
  have hb := hb'
  have KA := KA'
  have KB := KB'
  have KS := KS'
  clear hb' KA' KB' KS'
  have X := At.new v1 xs xx xy
  have KBc0 := KB.cell 0 _ rfl
  have KBc1 := KB.cell 1 _ rfl
  go_wp2_with fail
  refine (CY.out _ hb).mono ?_
  rintro e v2 ⟨rfl, g⟩
  clear KBc0 KBc1
  have hb' := Mo.Nb hb g
  have KA' := KA.bt g
  have KB' := KB.bt g
  have KS' := KS.bt g
  have X' := X.bt g
  clear hb KA KB KS X
  have hb := hb'
  have KA := KA'
  have KB := KB'
  have KS := KS'
  have X := X'
  clear hb' KA' KB' KS' X'
  clear g
  have hb' := Mo.Nb hb (al v2 (.cells #[.bool ys, .string yx, .string yy] 32))
  have KA' := KA.bt (al v2 (.cells #[.bool ys, .string yx, .string yy] 32))
  have KB' := KB.bt (al v2 (.cells #[.bool ys, .string yx, .string yy] 32))
  have KS' := KS.bt (al v2 (.cells #[.bool ys, .string yx, .string yy] 32))
  have X' := X.bt (al v2 (.cells #[.bool ys, .string yx, .string yy] 32))
  clear hb KA KB KS X
  have hb := hb'
  have KA := KA'
  have KB := KB'
  have KS := KS'
  have X := X'
  clear hb' KA' KB' KS' X'
  have Y := At.new v2 ys yx yy
  have KAc0 := KA.cell 0 _ rfl
  have KAc1 := KA.cell 1 _ rfl
  go_wp2_with fail
  refine (CO.out _ hb).mono ?_
  rintro e v3 ⟨rfl, g⟩
  clear KAc0 KAc1
  have hb' := Mo.Nb hb g
  have KA' := KA.bt g
  have KB' := KB.bt g
  have KS' := KS.bt g
  have X' := X.bt g
  have Y' := Y.bt g
  clear hb KA KB KS X Y
  have hb := hb'
  have KA := KA'
  have KB := KB'
  have KS := KS'
  have X := X'
  have Y := Y'
  clear hb' KA' KB' KS' X' Y'
  clear g
  have hb' := Mo.Nb hb (al v3 (.cells #[.bool os, .string ox, .string oy] 32))
  have KA' := KA.bt (al v3 (.cells #[.bool os, .string ox, .string oy] 32))
  have KB' := KB.bt (al v3 (.cells #[.bool os, .string ox, .string oy] 32))
  have KS' := KS.bt (al v3 (.cells #[.bool os, .string ox, .string oy] 32))
  have X' := X.bt (al v3 (.cells #[.bool os, .string ox, .string oy] 32))
  have Y' := Y.bt (al v3 (.cells #[.bool os, .string ox, .string oy] 32))
  clear hb KA KB KS X Y
  have hb := hb'
  have KA := KA'
  have KB := KB'
  have KS := KS'
  have X := X'
  have Y := Y'
  clear hb' KA' KB' KS' X' Y'
  have O := At.new v3 os ox oy
  go_wp2_with fail
  refine (CU.out _ hb).mono ?_
  rintro e v4 ⟨rfl, g⟩
  have hb' := Mo.Nb hb g
  have KA' := KA.bt g
  have KB' := KB.bt g
  have KS' := KS.bt g
  have X' := X.bt g
  have Y' := Y.bt g
  have O' := O.bt g
  clear hb KA KB KS X Y O
  have hb := hb'
  have KA := KA'
  have KB := KB'
  have KS := KS'
  have X := X'
  have Y := Y'
  have O := O'
  clear hb' KA' KB' KS' X' Y' O'
  clear g
  have hb' := Mo.Nb hb (al v4 (.cells #[.bool ts, .string tx, .string ty] 32))
  have KA' := KA.bt (al v4 (.cells #[.bool ts, .string tx, .string ty] 32))
  have KB' := KB.bt (al v4 (.cells #[.bool ts, .string tx, .string ty] 32))
  have KS' := KS.bt (al v4 (.cells #[.bool ts, .string tx, .string ty] 32))
  have X' := X.bt (al v4 (.cells #[.bool ts, .string tx, .string ty] 32))
  have Y' := Y.bt (al v4 (.cells #[.bool ts, .string tx, .string ty] 32))
  have O' := O.bt (al v4 (.cells #[.bool ts, .string tx, .string ty] 32))
  clear hb KA KB KS X Y O
  have hb := hb'
  have KA := KA'
  have KB := KB'
  have KS := KS'
  have X := X'
  have Y := Y'
  have O := O'
  clear hb' KA' KB' KS' X' Y' O'
  have T := At.new v4 ts tx ty
  have KAc0 := KA.cell 0 _ rfl
  have KAc1 := KA.cell 1 _ rfl
  go_wp2_with fail
  refine (CI.out _ hb).mono ?_
  rintro e v5 ⟨rfl, g⟩
  clear KAc0 KAc1
  have hb' := Mo.Nb hb g
  have KA' := KA.bt g
  have KB' := KB.bt g
  have KS' := KS.bt g
  have X' := X.bt g
  have Y' := Y.bt g
  have O' := O.bt g
  have T' := T.bt g
  clear hb KA KB KS X Y O T
  have hb := hb'
  have KA := KA'
  have KB := KB'
  have KS := KS'
  have X := X'
  have Y := Y'
  have O := O'
  have T := T'
  clear hb' KA' KB' KS' X' Y' O' T'
  clear g
  have hb' := Mo.Nb hb (al v5 (.cells #[.bool is, .string ix, .string iy] 32))
  have KA' := KA.bt (al v5 (.cells #[.bool is, .string ix, .string iy] 32))
  have KB' := KB.bt (al v5 (.cells #[.bool is, .string ix, .string iy] 32))
  have KS' := KS.bt (al v5 (.cells #[.bool is, .string ix, .string iy] 32))
  have X' := X.bt (al v5 (.cells #[.bool is, .string ix, .string iy] 32))
  have Y' := Y.bt (al v5 (.cells #[.bool is, .string ix, .string iy] 32))
  have O' := O.bt (al v5 (.cells #[.bool is, .string ix, .string iy] 32))
  have T' := T.bt (al v5 (.cells #[.bool is, .string ix, .string iy] 32))
  clear hb KA KB KS X Y O T
  have hb := hb'
  have KA := KA'
  have KB := KB'
  have KS := KS'
  have X := X'
  have Y := Y'
  have O := O'
  have T := T'
  clear hb' KA' KB' KS' X' Y' O' T'
  have I := At.new v5 is ix iy
  obtain ⟨Oc0, Oc1, Oc2, _, _, _⟩ := O.cells
  have KAc0 := KA.cell 0 _ rfl
  have KAc1 := KA.cell 1 _ rfl
  go_wp2_with fail
  generalize hW : (v5.alloc (.cells #[.bool is, .string ix, .string iy] 32)) = wr at *
  clear hW
  have y0 := fun dq os => cell_regrown Oc0 dq os
  have y1 := fun dq os => cell_regrown Oc1 dq os
  have y2 := fun dq os => cell_regrown Oc2 dq os
  have y3 := fun dq os => cell_regrown KAc1 dq os
  have LYr := Lib.hid (fun dq os => Calls.regrown_of (OO.out (Go.Sort.grow (redrawn wr dq) os) (Mo.Nb hb (below_regrown wr dq os))))
  refine wp_region_quiet_below (by kernel_rfl) (by kernel_rfl) ?_
  repeat (quiet_step ((go_at_call 26; exact LYr.out _ _)))
  refine wpQuiet_nil ?_
  intro _ hw'
  obtain ⟨⟨dq, osq⟩, hw''⟩ := hw'
  subst hw''
  clear LYr y0 y1 y2 y3
  clear Oc0 Oc1 Oc2
  clear KAc0 KAc1
  clear O KA KB
  have hb' := Mo.Nb hb (below_regrown wr dq osq)
  have KS' := KS.bt (below_regrown wr dq osq)
  have X' := X.bt (below_regrown wr dq osq)
  have Y' := Y.bt (below_regrown wr dq osq)
  have T' := T.bt (below_regrown wr dq osq)
  have I' := I.bt (below_regrown wr dq osq)
  clear hb KS X Y T I
  have hb := hb'
  have KS := KS'
  have X := X'
  have Y := Y'
  have T := T'
  have I := I'
  clear hb' KS' X' Y' T' I'
  generalize Go.Sort.grow (redrawn wr dq) osq = vr at *
  obtain ⟨Ic0, Ic1, Ic2, _, _, _⟩ := I.cells
  obtain ⟨Tc0, Tc1, Tc2, _, _, _⟩ := T.cells
  go_wp2_with fail
  refine (MU.out _ hb).mono ?_
  rintro e v6 ⟨rfl, g⟩
  clear Ic0 Ic1 Ic2
  clear Tc0 Tc1 Tc2
  have hb' := Mo.Nb hb g
  have KS' := KS.bt g
  have X' := X.bt g
  have Y' := Y.bt g
  have T' := T.bt g
  have I' := I.bt g
  clear hb KS X Y T I
  have hb := hb'
  have KS := KS'
  have X := X'
  have Y := Y'
  have T := T'
  have I := I'
  clear hb' KS' X' Y' T' I'
  clear g
  have hb' := Mo.Nb hb (al v6 (.cells #[.bool xs, .string xx, .string xy] 32))
  have KS' := KS.bt (al v6 (.cells #[.bool xs, .string xx, .string xy] 32))
  have X' := X.bt (al v6 (.cells #[.bool xs, .string xx, .string xy] 32))
  have Y' := Y.bt (al v6 (.cells #[.bool xs, .string xx, .string xy] 32))
  have T' := T.bt (al v6 (.cells #[.bool xs, .string xx, .string xy] 32))
  have I' := I.bt (al v6 (.cells #[.bool xs, .string xx, .string xy] 32))
  clear hb KS X Y T I
  have hb := hb'
  have KS := KS'
  have X := X'
  have Y := Y'
  have T := T'
  have I := I'
  clear hb' KS' X' Y' T' I'
  have Z := At.new v6 xs xx xy
  obtain ⟨Zc0, Zc1, Zc2, _, _, _⟩ := Z.cells
  obtain ⟨Xc0, Xc1, Xc2, _, _, _⟩ := X.cells
  have KSc0 := KS.cell 0 _ rfl
  have KSc1 := KS.cell 1 _ rfl
  go_wp2_with fail
  refine (CS.out _ hb).mono ?_
  rintro e v7 ⟨rfl, g⟩
  clear Zc0 Zc1 Zc2
  clear Xc0 Xc1 Xc2
  clear KSc0 KSc1
  have hb' := Mo.Nb hb g
  have KS' := KS.bt g
  have X' := X.bt g
  have Y' := Y.bt g
  have T' := T.bt g
  have I' := I.bt g
  have Z' := Z.bt g
  clear hb KS X Y T I Z
  have hb := hb'
  have KS := KS'
  have X := X'
  have Y := Y'
  have T := T'
  have I := I'
  have Z := Z'
  clear hb' KS' X' Y' T' I' Z'
  clear g
  have hb' := Mo.Nb hb (al v7 (.cells #[.bool zs, .string zx, .string zy] 32))
  have KS' := KS.bt (al v7 (.cells #[.bool zs, .string zx, .string zy] 32))
  have X' := X.bt (al v7 (.cells #[.bool zs, .string zx, .string zy] 32))
  have Y' := Y.bt (al v7 (.cells #[.bool zs, .string zx, .string zy] 32))
  have T' := T.bt (al v7 (.cells #[.bool zs, .string zx, .string zy] 32))
  have I' := I.bt (al v7 (.cells #[.bool zs, .string zx, .string zy] 32))
  have Z' := Z.bt (al v7 (.cells #[.bool zs, .string zx, .string zy] 32))
  clear hb KS X Y T I Z
  have hb := hb'
  have KS := KS'
  have X := X'
  have Y := Y'
  have T := T'
  have I := I'
  have Z := Z'
  clear hb' KS' X' Y' T' I' Z'
  have S := At.new v7 zs zx zy
  obtain ⟨Xc0, Xc1, Xc2, _, _, _⟩ := X.cells
  obtain ⟨Yc0, Yc1, Yc2, _, _, _⟩ := Y.cells
  go_wp2_with fail
  refine (AD.out _ hb).mono ?_
  rintro e v8 ⟨rfl, g⟩
  clear Xc0 Xc1 Xc2
  clear Yc0 Yc1 Yc2
  have hb' := Mo.Nb hb g
  have KS' := KS.bt g
  have X' := X.bt g
  have Y' := Y.bt g
  have T' := T.bt g
  have I' := I.bt g
  have Z' := Z.bt g
  have S' := S.bt g
  clear hb KS X Y T I Z S
  have hb := hb'
  have KS := KS'
  have X := X'
  have Y := Y'
  have T := T'
  have I := I'
  have Z := Z'
  have S := S'
  clear hb' KS' X' Y' T' I' Z' S'
  clear g
  have hb' := Mo.Nb hb (al v8 (.cells #[.bool fs, .string fx, .string fy] 32))
  have KS' := KS.bt (al v8 (.cells #[.bool fs, .string fx, .string fy] 32))
  have X' := X.bt (al v8 (.cells #[.bool fs, .string fx, .string fy] 32))
  have Y' := Y.bt (al v8 (.cells #[.bool fs, .string fx, .string fy] 32))
  have T' := T.bt (al v8 (.cells #[.bool fs, .string fx, .string fy] 32))
  have I' := I.bt (al v8 (.cells #[.bool fs, .string fx, .string fy] 32))
  have Z' := Z.bt (al v8 (.cells #[.bool fs, .string fx, .string fy] 32))
  have S' := S.bt (al v8 (.cells #[.bool fs, .string fx, .string fy] 32))
  clear hb KS X Y T I Z S
  have hb := hb'
  have KS := KS'
  have X := X'
  have Y := Y'
  have T := T'
  have I := I'
  have Z := Z'
  have S := S'
  clear hb' KS' X' Y' T' I' Z' S'
  have B := At.new v8 fs fx fy
  go_wp2_with fail
  go_ret
  exact ⟨rfl, hb⟩
end Go.Proofs.YtkbncdcphohmiaaGreatDoor
