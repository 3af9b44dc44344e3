/- Layer 10: tables; Valid. -/
import Derived.Test.YtkddpealobeleaaGreatDoorRwD
set_option linter.unusedSimpArgs false
set_option linter.unusedVariables false
namespace Go.Proofs.YtkddpealobeleaaGreatDoor
open Go.RowKit Go.Maps Go.ChangeMaps Go.Shelf
set_option maxRecDepth 100000
set_option maxHeartbeats 4000000
/-- A table that came in. -/
structure Rw.TV where
  A : Option Addr
  a : Nat
  B : Option Addr
  b : Nat
  C : Option Addr
  c : Nat
  R : List Rw.Rl
  D : List Rw.Dp
  E : List Rw.Dp
  d : Int
  o : Int
  i : Int
def Rw.TV.val (t : Rw.TV) : Value := .agg #[.slice t.A t.R.length t.a, .slice t.B t.D.length t.b, .slice t.C t.E.length t.c, .int .i64 t.d, .int .i64 t.o, .int .i64 t.i]
/-- Its rows lie in a world; its numbers and texts are values. -/
structure Rw.TV.In (t : Rw.TV) (w : World) : Prop where
  r : Rw.Rls w w.heap.size t.A t.R
  d : Rw.Dps w w.heap.size t.B t.D
  e : Rw.Dps w w.heap.size t.C t.E
  gr : Rw.AllRl t.R
  gd : Rw.AllDp t.D
  ge : Rw.AllDp t.E
  la : t.R.length ≤ t.a
  lb : t.D.length ≤ t.b
  lc : t.E.length ≤ t.c
  ma : t.a ≤ maxLen
  mb : t.b ≤ maxLen
  mc : t.c ≤ maxLen
theorem Rw.TV.In.bt {t : Rw.TV} {w v : World} (h : t.In w) (hb : Below w.heap.size w v) : t.In v :=
  ⟨h.r.bt hb, h.d.bt hb, h.e.bt hb, h.gr, h.gd, h.ge, h.la, h.lb, h.lc, h.ma, h.mb, h.mc⟩
def Rw.okL (r d e : Nat) : Bool := decide (1 ≤ r ∧ r ≤ 80 ∧ d ≤ 40 ∧ e ≤ 40)
def Rw.okT (t : Rw.TV) : Bool := Rw.okL t.R.length t.D.length t.E.length && (Rw.okC t.d && (Rw.okC t.o && (Rw.okC t.i && (Rw.oksRl t.R && (Rw.oksDp 12 t.D && Rw.oksDp 4 t.E)))))
theorem Rw.validT_any (t : Rw.TV) (w : World) (h : t.In w) (hT : Nm.Tb w.heap.size w) :
    Calls Tryz.prog 20 #[t.val] w fun e w' => e = .returned (.bool (Rw.okT t)) ∧ Below w.heap.size w w' := by
  obtain ⟨A, a, B, b, C, c, R, D, E, d, o, i⟩ := t
  obtain ⟨hr, hd, he, gr, gd, ge, la, lb, lc, ma, mb, mc⟩ := h
  simp only at hr hd he gr gd ge la lb lc ma mb mc
  unfold Rw.TV.val
  simp only
  obtain ⟨nR, hR⟩ : ∃ n, R.length = n := ⟨_, rfl⟩
  obtain ⟨nD, hD⟩ : ∃ n, D.length = n := ⟨_, rfl⟩
  obtain ⟨nE, hE⟩ : ∃ n, E.length = n := ⟨_, rfl⟩
  have HOK : Hid (Rw.okT ⟨A, a, B, b, C, c, R, D, E, d, o, i⟩ = (Rw.okL nR nD nE && (Rw.okC d && (Rw.okC o && (Rw.okC i && (Rw.oksRl R && (Rw.oksDp 12 D && Rw.oksDp 4 E))))))) := Lib.hid (by unfold Rw.okT; rw [← hR, ← hD, ← hE])
  generalize Rw.okT ⟨A, a, B, b, C, c, R, D, E, d, o, i⟩ = res at *
  rw [hR, hD, hE]
  rw [hR] at la
  rw [hD] at lb
  rw [hE] at lc
  have VR := Lib.hid (fun v (hv : Below w.heap.size w v) => Rw.validRl_any A a R nR hR v (hr.bt hv) gr (by omega) (hT.bt hv))
  have VD := Lib.hid (fun v (hv : Below w.heap.size w v) => Rw.validDp_any B b D 12 nD hD v (hd.bt hv) gd (by omega) (hT.bt hv))
  have VE := Lib.hid (fun v (hv : Below w.heap.size w v) => Rw.validDp_any C c E 4 nE hE v (he.bt hv) ge (by omega) (hT.bt hv))
  have hb := Nm.al w (.cells #[.slice A nR a, .slice B nD b, .slice C nE c, .int .i64 d, .int .i64 o, .int .i64 i] 25)
  have BX : Hid (Rw.Bx (w.alloc (.cells #[.slice A nR a, .slice B nD b, .slice C nE c, .int .i64 d, .int .i64 o, .int .i64 i] 25)) w.heap.size #[.slice A nR a, .slice B nD b, .slice C nE c, .int .i64 d, .int .i64 o, .int .i64 i] 25) := Lib.hid (heap_alloc_new _ _)
  unfold maxLen at ma mb mc
  clear hr hd he gr gd ge hR hD hE hT
  go_enter Tryz.func20, Tryz.ntmps20
  by_cases h0 : nR = 0
  · have HF : Hid (res = false) := Lib.hid (by rw [HOK.out]; unfold Rw.okL; rw [decide_eq_false (by omega)]; rfl)
    subst h0
    go_wp2
    go_ret
    exact ⟨congrArg (fun z => Ending.returned (.bool z)) HF.out.symm, hb⟩
  have h0a : ¬ (nR : Int) = 0 := by omega
  have h0b : ((nR : Int) == 0) = false := by simp; omega
  by_cases hnR : 80 < nR
  · have HF : Hid (res = false) := Lib.hid (by rw [HOK.out]; unfold Rw.okL; rw [decide_eq_false (by omega)]; rfl)
    have hnRi : (80 : Int) < (nR : Int) := by omega
    clear VR VD VE BX
    go_wp2
    go_ret
    exact ⟨congrArg (fun z => Ending.returned (.bool z)) HF.out.symm, hb⟩
  have hnRi : ¬ (80 : Int) < (nR : Int) := by omega
  by_cases hnD : 40 < nD
  · have HF : Hid (res = false) := Lib.hid (by rw [HOK.out]; unfold Rw.okL; rw [decide_eq_false (by omega)]; rfl)
    have hnDi : (40 : Int) < (nD : Int) := by omega
    clear VR VD VE BX
    go_wp2
    go_ret
    exact ⟨congrArg (fun z => Ending.returned (.bool z)) HF.out.symm, hb⟩
  have hnDi : ¬ (40 : Int) < (nD : Int) := by omega
  by_cases hnE : 40 < nE
  · have HF : Hid (res = false) := Lib.hid (by rw [HOK.out]; unfold Rw.okL; rw [decide_eq_false (by omega)]; rfl)
    have hnEi : (40 : Int) < (nE : Int) := by omega
    clear VR VD VE BX
    go_wp2
    go_ret
    exact ⟨congrArg (fun z => Ending.returned (.bool z)) HF.out.symm, hb⟩
  have hnEi : ¬ (40 : Int) < (nE : Int) := by omega
  have HLL : Hid (Rw.okL nR nD nE = true) := Lib.hid (by unfold Rw.okL; rw [decide_eq_true (by omega)])
  rw [HLL.out, Bool.true_and] at HOK
  clear HLL h0 hnR hnD hnE
  have x0 := BX.out.c 0 _ rfl
  have x1 := BX.out.c 1 _ rfl
  have x2 := BX.out.c 2 _ rfl
  have x3 := BX.out.c 3 _ rfl
  have x4 := BX.out.c 4 _ rfl
  have x5 := BX.out.c 5 _ rfl
  go_wp2_with fail
  refine (Rw.cost_any d _).mono ?_
  rintro e v ⟨rfl, rfl⟩
  cases ht0 : Rw.okC d with
  | false =>
    have HF : Hid (res = false) := Lib.hid (by rw [HOK.out]; simp [ht0])
    go_wp2
    go_ret
    exact ⟨congrArg (fun z => Ending.returned (.bool z)) HF.out.symm, hb⟩
  | true =>
  rw [ht0, Bool.true_and] at HOK
  go_wp2_with fail
  refine (Rw.cost_any o _).mono ?_
  rintro e v ⟨rfl, rfl⟩
  cases ht1 : Rw.okC o with
  | false =>
    have HF : Hid (res = false) := Lib.hid (by rw [HOK.out]; simp [ht1])
    go_wp2
    go_ret
    exact ⟨congrArg (fun z => Ending.returned (.bool z)) HF.out.symm, hb⟩
  | true =>
  rw [ht1, Bool.true_and] at HOK
  go_wp2_with fail
  refine (Rw.cost_any i _).mono ?_
  rintro e v ⟨rfl, rfl⟩
  cases ht2 : Rw.okC i with
  | false =>
    have HF : Hid (res = false) := Lib.hid (by rw [HOK.out]; simp [ht2])
    go_wp2
    go_ret
    exact ⟨congrArg (fun z => Ending.returned (.bool z)) HF.out.symm, hb⟩
  | true =>
  rw [ht2, Bool.true_and] at HOK
  go_wp2_with fail
  refine (VR.out _ hb).mono ?_
  rintro e v ⟨rfl, g⟩
  have hb' := Rw.Nb hb g
  have BX' := Lib.hid (BX.out.bt g)
  clear hb BX g
  have hb := hb'
  have BX := BX'
  clear hb' BX'
  have y31 := BX.out.c 1 _ rfl
  have y32 := BX.out.c 2 _ rfl
  cases ht3 : Rw.oksRl R with
  | false =>
    have HF : Hid (res = false) := Lib.hid (by rw [HOK.out]; simp [ht3])
    go_wp2
    go_ret
    exact ⟨congrArg (fun z => Ending.returned (.bool z)) HF.out.symm, hb⟩
  | true =>
  rw [ht3, Bool.true_and] at HOK
  go_wp2_with fail
  refine (VD.out _ hb).mono ?_
  rintro e v ⟨rfl, g⟩
  have hb' := Rw.Nb hb g
  have BX' := Lib.hid (BX.out.bt g)
  clear hb BX g
  have hb := hb'
  have BX := BX'
  clear hb' BX'
  have y41 := BX.out.c 1 _ rfl
  have y42 := BX.out.c 2 _ rfl
  cases ht4 : Rw.oksDp 12 D with
  | false =>
    have HF : Hid (res = false) := Lib.hid (by rw [HOK.out]; simp [ht4])
    go_wp2
    go_ret
    exact ⟨congrArg (fun z => Ending.returned (.bool z)) HF.out.symm, hb⟩
  | true =>
  rw [ht4, Bool.true_and] at HOK
  go_wp2_with fail
  refine (VE.out _ hb).mono ?_
  rintro e v ⟨rfl, g⟩
  have hb' := Rw.Nb hb g
  clear hb g
  have hb := hb'
  cases ht5 : Rw.oksDp 4 E with
  | false =>
    have HF : Hid (res = false) := Lib.hid (by rw [HOK.out]; simp [ht5])
    go_wp2
    go_ret
    exact ⟨congrArg (fun z => Ending.returned (.bool z)) HF.out.symm, hb⟩
  | true =>
  have HF : Hid (res = true) := Lib.hid (by rw [HOK.out, ht5])
  go_wp2
  go_ret
  exact ⟨congrArg (fun z => Ending.returned (.bool z)) HF.out.symm, hb⟩
end Go.Proofs.YtkddpealobeleaaGreatDoor
