/- Layer 10: RewriteFolds: the walk. -/
import Derived.Test.YtkddpealobeleaaGreatDoorRwHG
set_option linter.unusedSimpArgs false
set_option linter.unusedVariables false
namespace Go.Proofs.YtkddpealobeleaaGreatDoor
open Go.RowKit Go.Shelf
set_option maxRecDepth 100000
set_option maxHeartbeats 4000000
theorem Rw.folds_walk (t : Rw.TV) (k : Int) (x : ByteArray) (most : Int) (w : World) (hp : Rw.Pa w.heap.size w) (hi : t.In w) (wk : (Lit.int .i64 k).wf = true) (wx : x.size ≤ maxLen) (wm : (Lit.int .i64 most).wf = true) :
    Calls Tryz.prog 9 #[t.val, .int .i64 k, .string x, .int .i64 most] w fun e w' => e = .returned (.bool true) ∧ Below w.heap.size w w' := by
  obtain ⟨A, a, B, b, C, c, R, D, E, d, o, i⟩ := t
  obtain ⟨t, ht⟩ : ∃ t : Rw.TV, (⟨A, a, B, b, C, c, R, D, E, d, o, i⟩ : Rw.TV) = t := ⟨_, rfl⟩
  have hv : t.val = .agg #[.slice A R.length a, .slice B D.length b, .slice C E.length c, .int .i64 d, .int .i64 o, .int .i64 i] := by rw [← ht]; rfl
  rw [ht] at hi ⊢
  rw [hv]
  have HTE := Lib.hid ht
  have HIN := Lib.hid (fun v (g : Below w.heap.size w v) => hi.bt g)
  have HP := Lib.hid (fun v (g : Below w.heap.size w v) => hp.bt g)
  have C0 := Lib.hid (fun v (g : Below w.heap.size w v) => Rw.head_any v (hp.bt g))
  obtain ⟨fw, hfw⟩ : ∃ fw, Rw.few t = fw := ⟨_, rfl⟩
  have CF := Lib.hid (fun v (g : Below w.heap.size w v) => Rw.few_any t v (hi.bt g))
  obtain ⟨ok, hok⟩ : ∃ ok, Rw.okT t = ok := ⟨_, rfl⟩
  have CV := Lib.hid (fun v (g : Below w.heap.size w v) => Rw.validT_any t v (hi.bt g) (hp.bt g).tb)
  rw [hv, hfw] at CF
  rw [hv, hok] at CV
  have HFW := Lib.hid hfw
  have HOK := Lib.hid hok
  have HX := Lib.hid wx
  cases hfol : Nm.isW (Nm.sc k) x.data.toList with
  | false =>
    have C1 := Lib.hid (fun v (g : Below w.heap.size w v) => Nm.fold_bad k x v hfol wx (hp.bt g).tb)
    have hL : Rw.isL t k x = false := by unfold Rw.isL; rw [hfol, Bool.and_false]
    have C2 := Lib.hid (fun v (g : Below w.heap.size w v) => Rw.forms_bad t k x most v (hi.bt g) (hp.bt g).tb wx hL)
    rw [hv] at C2
    clear hL hfol wx
    have hbV := Nm.al w (.cells #[.slice A R.length a, .slice B D.length b, .slice C E.length c, .int .i64 d, .int .i64 o, .int .i64 i] 25)
    have BX : Hid (Rw.Bx (w.alloc (.cells #[.slice A R.length a, .slice B D.length b, .slice C E.length c, .int .i64 d, .int .i64 o, .int .i64 i] 25)) w.heap.size #[.slice A R.length a, .slice B D.length b, .slice C E.length c, .int .i64 d, .int .i64 o, .int .i64 i] 25) := Lib.hid (heap_alloc_new _ _)
    have HV := Lib.hid hbV
    clear hbV hfw hok hi hp ht hv
    have x0 : (w.alloc (.cells #[.slice A R.length a, .slice B D.length b, .slice C E.length c, .int .i64 d, .int .i64 o, .int .i64 i] 25)).cell? ⟨w.heap.size, 0, none⟩ = some (.slice A R.length a) := BX.out.c 0 _ rfl
    have x1 : (w.alloc (.cells #[.slice A R.length a, .slice B D.length b, .slice C E.length c, .int .i64 d, .int .i64 o, .int .i64 i] 25)).cell? ⟨w.heap.size, 1, none⟩ = some (.slice B D.length b) := BX.out.c 1 _ rfl
    have x2 : (w.alloc (.cells #[.slice A R.length a, .slice B D.length b, .slice C E.length c, .int .i64 d, .int .i64 o, .int .i64 i] 25)).cell? ⟨w.heap.size, 2, none⟩ = some (.slice C E.length c) := BX.out.c 2 _ rfl
    have x3 : (w.alloc (.cells #[.slice A R.length a, .slice B D.length b, .slice C E.length c, .int .i64 d, .int .i64 o, .int .i64 i] 25)).cell? ⟨w.heap.size, 3, none⟩ = some (.int .i64 d) := BX.out.c 3 _ rfl
    have x4 : (w.alloc (.cells #[.slice A R.length a, .slice B D.length b, .slice C E.length c, .int .i64 d, .int .i64 o, .int .i64 i] 25)).cell? ⟨w.heap.size, 4, none⟩ = some (.int .i64 o) := BX.out.c 4 _ rfl
    have x5 : (w.alloc (.cells #[.slice A R.length a, .slice B D.length b, .slice C E.length c, .int .i64 d, .int .i64 o, .int .i64 i] 25)).cell? ⟨w.heap.size, 5, none⟩ = some (.int .i64 i) := BX.out.c 5 _ rfl
    go_enter Tryz.func9, Tryz.ntmps9
    go_wp2_with fail
    refine (C0.out _ HV.out).mono ?_
    rintro e w1 ⟨rfl, g⟩
    have HV' := Lib.hid (Nm.Nb HV.out g)
    have BX' := Lib.hid (BX.out.bt g)
    clear HV BX x0 x1 x2 x3 x4 x5
    have HV := HV'
    have BX := BX'
    clear HV' BX'
    have x0 : w1.cell? ⟨w.heap.size, 0, none⟩ = some (.slice A R.length a) := BX.out.c 0 _ rfl
    have x1 : w1.cell? ⟨w.heap.size, 1, none⟩ = some (.slice B D.length b) := BX.out.c 1 _ rfl
    have x2 : w1.cell? ⟨w.heap.size, 2, none⟩ = some (.slice C E.length c) := BX.out.c 2 _ rfl
    have x3 : w1.cell? ⟨w.heap.size, 3, none⟩ = some (.int .i64 d) := BX.out.c 3 _ rfl
    have x4 : w1.cell? ⟨w.heap.size, 4, none⟩ = some (.int .i64 o) := BX.out.c 4 _ rfl
    have x5 : w1.cell? ⟨w.heap.size, 5, none⟩ = some (.int .i64 i) := BX.out.c 5 _ rfl
    clear g C0
    go_wp2_with fail
    refine (CF.out _ HV.out).mono ?_
    rintro e w2 ⟨rfl, g⟩
    have HV' := Lib.hid (Nm.Nb HV.out g)
    have BX' := Lib.hid (BX.out.bt g)
    clear HV BX x0 x1 x2 x3 x4 x5
    have HV := HV'
    have BX := BX'
    clear HV' BX'
    have x0 : w2.cell? ⟨w.heap.size, 0, none⟩ = some (.slice A R.length a) := BX.out.c 0 _ rfl
    have x1 : w2.cell? ⟨w.heap.size, 1, none⟩ = some (.slice B D.length b) := BX.out.c 1 _ rfl
    have x2 : w2.cell? ⟨w.heap.size, 2, none⟩ = some (.slice C E.length c) := BX.out.c 2 _ rfl
    have x3 : w2.cell? ⟨w.heap.size, 3, none⟩ = some (.int .i64 d) := BX.out.c 3 _ rfl
    have x4 : w2.cell? ⟨w.heap.size, 4, none⟩ = some (.int .i64 o) := BX.out.c 4 _ rfl
    have x5 : w2.cell? ⟨w.heap.size, 5, none⟩ = some (.int .i64 i) := BX.out.c 5 _ rfl
    clear g CF
    cases fw with
    | false =>
      go_wp2
      go_ret
      exact ⟨rfl, HV.out⟩
    | true =>
    by_cases h60 : 60 < x.size
    · have h60i : (60 : Int) < (x.size : Int) := by omega
      go_wp2
      go_ret
      exact ⟨rfl, HV.out⟩
    have h60i : ¬ (60 : Int) < (x.size : Int) := by omega
    clear h60
    go_wp2_with fail
    refine (CV.out _ HV.out).mono ?_
    rintro e w3 ⟨rfl, g⟩
    have HV' := Lib.hid (Nm.Nb HV.out g)
    have BX' := Lib.hid (BX.out.bt g)
    clear HV BX x0 x1 x2 x3 x4 x5
    have HV := HV'
    have BX := BX'
    clear HV' BX'
    have x0 : w3.cell? ⟨w.heap.size, 0, none⟩ = some (.slice A R.length a) := BX.out.c 0 _ rfl
    have x1 : w3.cell? ⟨w.heap.size, 1, none⟩ = some (.slice B D.length b) := BX.out.c 1 _ rfl
    have x2 : w3.cell? ⟨w.heap.size, 2, none⟩ = some (.slice C E.length c) := BX.out.c 2 _ rfl
    have x3 : w3.cell? ⟨w.heap.size, 3, none⟩ = some (.int .i64 d) := BX.out.c 3 _ rfl
    have x4 : w3.cell? ⟨w.heap.size, 4, none⟩ = some (.int .i64 o) := BX.out.c 4 _ rfl
    have x5 : w3.cell? ⟨w.heap.size, 5, none⟩ = some (.int .i64 i) := BX.out.c 5 _ rfl
    clear g CV
    cases ok with
    | false =>
      go_wp2
      go_ret
      exact ⟨rfl, HV.out⟩
    | true =>
    go_wp2_with fail
    refine (C1.out _ HV.out).mono ?_
    rintro e w4 ⟨rfl, g⟩
    have HV' := Lib.hid (Nm.Nb HV.out g)
    have BX' := Lib.hid (BX.out.bt g)
    clear HV BX x0 x1 x2 x3 x4 x5
    have HV := HV'
    have BX := BX'
    clear HV' BX'
    have x0 : w4.cell? ⟨w.heap.size, 0, none⟩ = some (.slice A R.length a) := BX.out.c 0 _ rfl
    have x1 : w4.cell? ⟨w.heap.size, 1, none⟩ = some (.slice B D.length b) := BX.out.c 1 _ rfl
    have x2 : w4.cell? ⟨w.heap.size, 2, none⟩ = some (.slice C E.length c) := BX.out.c 2 _ rfl
    have x3 : w4.cell? ⟨w.heap.size, 3, none⟩ = some (.int .i64 d) := BX.out.c 3 _ rfl
    have x4 : w4.cell? ⟨w.heap.size, 4, none⟩ = some (.int .i64 o) := BX.out.c 4 _ rfl
    have x5 : w4.cell? ⟨w.heap.size, 5, none⟩ = some (.int .i64 i) := BX.out.c 5 _ rfl
    clear g C1
    go_wp2_with fail
    refine (C2.out _ HV.out).mono ?_
    rintro e w5 ⟨rfl, g⟩
    have HV' := Lib.hid (Nm.Nb HV.out g)
    have BX' := Lib.hid (BX.out.bt g)
    clear HV BX x0 x1 x2 x3 x4 x5
    have HV := HV'
    have BX := BX'
    clear HV' BX'
    have x0 : w5.cell? ⟨w.heap.size, 0, none⟩ = some (.slice A R.length a) := BX.out.c 0 _ rfl
    have x1 : w5.cell? ⟨w.heap.size, 1, none⟩ = some (.slice B D.length b) := BX.out.c 1 _ rfl
    have x2 : w5.cell? ⟨w.heap.size, 2, none⟩ = some (.slice C E.length c) := BX.out.c 2 _ rfl
    have x3 : w5.cell? ⟨w.heap.size, 3, none⟩ = some (.int .i64 d) := BX.out.c 3 _ rfl
    have x4 : w5.cell? ⟨w.heap.size, 4, none⟩ = some (.int .i64 o) := BX.out.c 4 _ rfl
    have x5 : w5.cell? ⟨w.heap.size, 5, none⟩ = some (.int .i64 i) := BX.out.c 5 _ rfl
    clear g C2
    go_wp2
    go_ret
    exact ⟨rfl, HV.out⟩
  | true =>
    have hszf : (Rw.fd x).size ≤ maxLen := by rw [Rw.fd_size (k := k)]; exact wx
    have C1 : Hid (∀ v, Below w.heap.size w v → Calls Tryz.prog 32 #[.int .i64 k, .string x] v fun e w' => e = .returned (.tuple #[.string (Rw.fd x), .int .i64 0]) ∧ Below v.heap.size v w') := Lib.hid (fun v g => Nm.fold_ok k x v hfol wx (hp.bt g).tb)
    have C2 := Lib.hid (fun v (g : Below w.heap.size w v) => Rw.forms_gi t k x most v (hi.bt g) (hp.bt g).tb wx)
    have C3 := Lib.hid (fun v (g : Below w.heap.size w v) => (Rw.forms_gi t k (Rw.fd x) most v (hi.bt g) (hp.bt g).tb hszf))
    have C4 := Lib.hid (fun v (g : Below w.heap.size w v) => Rw.vars_gi t k x v (hi.bt g) (hp.bt g).tb wx)
    have C5 := Lib.hid (fun v (g : Below w.heap.size w v) => Rw.vars_gi t k (Rw.fd x) v (hi.bt g) (hp.bt g).tb hszf)
    have C6 := Lib.hid (fun v (g : Below w.heap.size w v) => Rw.drop_any t k x v (hi.bt g) (hp.bt g).tb wx)
    have C7 := Lib.hid (fun v (g : Below w.heap.size w v) => Rw.drop_any t k (Rw.fd x) v (hi.bt g) (hp.bt g).tb hszf)
    rw [Rw.varsV_fd hfol, Rw.err_fd hfol] at C5
    rw [Rw.dropV_fd hfol, Rw.err_fd hfol] at C7
    have herr : ok = true → Rw.err t k x = 0 := fun h => by
      unfold Rw.err
      rw [if_pos (by unfold Rw.isL; rw [hok, h, hfol]; rfl)]
    have HERR := Lib.hid herr
    have HFOL := Lib.hid hfol
    generalize Rw.dropV t k x = dv at *
    generalize Rw.varsV t k x = vv at *
    generalize Rw.err t k x = er at *
    obtain ⟨y, hy⟩ : ∃ y, Rw.fd x = y := ⟨_, rfl⟩
    rw [hy] at C1 C3 C5 C7
    have HFD := Lib.hid hy.symm
    clear hy
    rw [hv] at C2 C3 C4 C5 C6 C7
    clear herr hszf hfol wx
    have hbV := Nm.al w (.cells #[.slice A R.length a, .slice B D.length b, .slice C E.length c, .int .i64 d, .int .i64 o, .int .i64 i] 25)
    have BX : Hid (Rw.Bx (w.alloc (.cells #[.slice A R.length a, .slice B D.length b, .slice C E.length c, .int .i64 d, .int .i64 o, .int .i64 i] 25)) w.heap.size #[.slice A R.length a, .slice B D.length b, .slice C E.length c, .int .i64 d, .int .i64 o, .int .i64 i] 25) := Lib.hid (heap_alloc_new _ _)
    have HV := Lib.hid hbV
    clear hbV hfw hok hi hp ht hv
    have x0 : (w.alloc (.cells #[.slice A R.length a, .slice B D.length b, .slice C E.length c, .int .i64 d, .int .i64 o, .int .i64 i] 25)).cell? ⟨w.heap.size, 0, none⟩ = some (.slice A R.length a) := BX.out.c 0 _ rfl
    have x1 : (w.alloc (.cells #[.slice A R.length a, .slice B D.length b, .slice C E.length c, .int .i64 d, .int .i64 o, .int .i64 i] 25)).cell? ⟨w.heap.size, 1, none⟩ = some (.slice B D.length b) := BX.out.c 1 _ rfl
    have x2 : (w.alloc (.cells #[.slice A R.length a, .slice B D.length b, .slice C E.length c, .int .i64 d, .int .i64 o, .int .i64 i] 25)).cell? ⟨w.heap.size, 2, none⟩ = some (.slice C E.length c) := BX.out.c 2 _ rfl
    have x3 : (w.alloc (.cells #[.slice A R.length a, .slice B D.length b, .slice C E.length c, .int .i64 d, .int .i64 o, .int .i64 i] 25)).cell? ⟨w.heap.size, 3, none⟩ = some (.int .i64 d) := BX.out.c 3 _ rfl
    have x4 : (w.alloc (.cells #[.slice A R.length a, .slice B D.length b, .slice C E.length c, .int .i64 d, .int .i64 o, .int .i64 i] 25)).cell? ⟨w.heap.size, 4, none⟩ = some (.int .i64 o) := BX.out.c 4 _ rfl
    have x5 : (w.alloc (.cells #[.slice A R.length a, .slice B D.length b, .slice C E.length c, .int .i64 d, .int .i64 o, .int .i64 i] 25)).cell? ⟨w.heap.size, 5, none⟩ = some (.int .i64 i) := BX.out.c 5 _ rfl
    go_enter Tryz.func9, Tryz.ntmps9
    go_wp2_with fail
    refine (C0.out _ HV.out).mono ?_
    rintro e w1 ⟨rfl, g⟩
    have HV' := Lib.hid (Nm.Nb HV.out g)
    have BX' := Lib.hid (BX.out.bt g)
    clear HV BX x0 x1 x2 x3 x4 x5
    have HV := HV'
    have BX := BX'
    clear HV' BX'
    have x0 : w1.cell? ⟨w.heap.size, 0, none⟩ = some (.slice A R.length a) := BX.out.c 0 _ rfl
    have x1 : w1.cell? ⟨w.heap.size, 1, none⟩ = some (.slice B D.length b) := BX.out.c 1 _ rfl
    have x2 : w1.cell? ⟨w.heap.size, 2, none⟩ = some (.slice C E.length c) := BX.out.c 2 _ rfl
    have x3 : w1.cell? ⟨w.heap.size, 3, none⟩ = some (.int .i64 d) := BX.out.c 3 _ rfl
    have x4 : w1.cell? ⟨w.heap.size, 4, none⟩ = some (.int .i64 o) := BX.out.c 4 _ rfl
    have x5 : w1.cell? ⟨w.heap.size, 5, none⟩ = some (.int .i64 i) := BX.out.c 5 _ rfl
    clear g C0
    go_wp2_with fail
    refine (CF.out _ HV.out).mono ?_
    rintro e w2 ⟨rfl, g⟩
    have HV' := Lib.hid (Nm.Nb HV.out g)
    have BX' := Lib.hid (BX.out.bt g)
    clear HV BX x0 x1 x2 x3 x4 x5
    have HV := HV'
    have BX := BX'
    clear HV' BX'
    have x0 : w2.cell? ⟨w.heap.size, 0, none⟩ = some (.slice A R.length a) := BX.out.c 0 _ rfl
    have x1 : w2.cell? ⟨w.heap.size, 1, none⟩ = some (.slice B D.length b) := BX.out.c 1 _ rfl
    have x2 : w2.cell? ⟨w.heap.size, 2, none⟩ = some (.slice C E.length c) := BX.out.c 2 _ rfl
    have x3 : w2.cell? ⟨w.heap.size, 3, none⟩ = some (.int .i64 d) := BX.out.c 3 _ rfl
    have x4 : w2.cell? ⟨w.heap.size, 4, none⟩ = some (.int .i64 o) := BX.out.c 4 _ rfl
    have x5 : w2.cell? ⟨w.heap.size, 5, none⟩ = some (.int .i64 i) := BX.out.c 5 _ rfl
    clear g CF
    cases fw with
    | false =>
      go_wp2
      go_ret
      exact ⟨rfl, HV.out⟩
    | true =>
    by_cases h60 : 60 < x.size
    · have h60i : (60 : Int) < (x.size : Int) := by omega
      go_wp2
      go_ret
      exact ⟨rfl, HV.out⟩
    have h60i : ¬ (60 : Int) < (x.size : Int) := by omega
    clear h60
    go_wp2_with fail
    refine (CV.out _ HV.out).mono ?_
    rintro e w3 ⟨rfl, g⟩
    have HV' := Lib.hid (Nm.Nb HV.out g)
    have BX' := Lib.hid (BX.out.bt g)
    clear HV BX x0 x1 x2 x3 x4 x5
    have HV := HV'
    have BX := BX'
    clear HV' BX'
    have x0 : w3.cell? ⟨w.heap.size, 0, none⟩ = some (.slice A R.length a) := BX.out.c 0 _ rfl
    have x1 : w3.cell? ⟨w.heap.size, 1, none⟩ = some (.slice B D.length b) := BX.out.c 1 _ rfl
    have x2 : w3.cell? ⟨w.heap.size, 2, none⟩ = some (.slice C E.length c) := BX.out.c 2 _ rfl
    have x3 : w3.cell? ⟨w.heap.size, 3, none⟩ = some (.int .i64 d) := BX.out.c 3 _ rfl
    have x4 : w3.cell? ⟨w.heap.size, 4, none⟩ = some (.int .i64 o) := BX.out.c 4 _ rfl
    have x5 : w3.cell? ⟨w.heap.size, 5, none⟩ = some (.int .i64 i) := BX.out.c 5 _ rfl
    clear g CV
    cases ok with
    | false =>
      go_wp2
      go_ret
      exact ⟨rfl, HV.out⟩
    | true =>
    go_wp2_with fail
    refine (C1.out _ HV.out).mono ?_
    rintro e w4 ⟨rfl, g⟩
    have HV' := Lib.hid (Nm.Nb HV.out g)
    have BX' := Lib.hid (BX.out.bt g)
    clear HV BX x0 x1 x2 x3 x4 x5
    have HV := HV'
    have BX := BX'
    clear HV' BX'
    have x0 : w4.cell? ⟨w.heap.size, 0, none⟩ = some (.slice A R.length a) := BX.out.c 0 _ rfl
    have x1 : w4.cell? ⟨w.heap.size, 1, none⟩ = some (.slice B D.length b) := BX.out.c 1 _ rfl
    have x2 : w4.cell? ⟨w.heap.size, 2, none⟩ = some (.slice C E.length c) := BX.out.c 2 _ rfl
    have x3 : w4.cell? ⟨w.heap.size, 3, none⟩ = some (.int .i64 d) := BX.out.c 3 _ rfl
    have x4 : w4.cell? ⟨w.heap.size, 4, none⟩ = some (.int .i64 o) := BX.out.c 4 _ rfl
    have x5 : w4.cell? ⟨w.heap.size, 5, none⟩ = some (.int .i64 i) := BX.out.c 5 _ rfl
    clear g C1
    obtain rfl := HERR.out (by trivial)
    go_wp2_with fail
    refine (C2.out _ HV.out).mono ?_
    rintro e w5 ⟨c1, ss, ms, A1, ca1, M1, cm1, n1, rfl, hg1, l1, l2, l3, s1, z1, g⟩
    have HV' := Lib.hid (Nm.Nb HV.out g)
    have BX' := Lib.hid (BX.out.bt g)
    clear HV BX x0 x1 x2 x3 x4 x5
    have HV := HV'
    have BX := BX'
    clear HV' BX'
    have x0 : w5.cell? ⟨w.heap.size, 0, none⟩ = some (.slice A R.length a) := BX.out.c 0 _ rfl
    have x1 : w5.cell? ⟨w.heap.size, 1, none⟩ = some (.slice B D.length b) := BX.out.c 1 _ rfl
    have x2 : w5.cell? ⟨w.heap.size, 2, none⟩ = some (.slice C E.length c) := BX.out.c 2 _ rfl
    have x3 : w5.cell? ⟨w.heap.size, 3, none⟩ = some (.int .i64 d) := BX.out.c 3 _ rfl
    have x4 : w5.cell? ⟨w.heap.size, 4, none⟩ = some (.int .i64 o) := BX.out.c 4 _ rfl
    have x5 : w5.cell? ⟨w.heap.size, 5, none⟩ = some (.int .i64 i) := BX.out.c 5 _ rfl
    clear g C2
    have S1 := Lib.hid s1
    have Z1 := Lib.hid z1
    have G1 := Lib.hid (And.intro hg1 (And.intro l1 (And.intro l2 l3)))
    clear hg1 l1 l2 l3 s1 z1
    go_wp2_with fail
    refine (C3.out _ HV.out).mono ?_
    rintro e w6 ⟨c2, ts, ns, A2, ca2, M2, cm2, n2, rfl, hg2, m1, m2, m3, s2, z2, g⟩
    have HV' := Lib.hid (Nm.Nb HV.out g)
    have BX' := Lib.hid (BX.out.bt g)
    have S1' := Lib.hid (Nm.sbt S1.out g)
    clear S1
    have S1 := S1'
    clear S1'
    have Z1' := Lib.hid (Rw.Zs.bt Z1.out g)
    clear Z1
    have Z1 := Z1'
    clear Z1'
    clear HV BX x0 x1 x2 x3 x4 x5
    have HV := HV'
    have BX := BX'
    clear HV' BX'
    have x0 : w6.cell? ⟨w.heap.size, 0, none⟩ = some (.slice A R.length a) := BX.out.c 0 _ rfl
    have x1 : w6.cell? ⟨w.heap.size, 1, none⟩ = some (.slice B D.length b) := BX.out.c 1 _ rfl
    have x2 : w6.cell? ⟨w.heap.size, 2, none⟩ = some (.slice C E.length c) := BX.out.c 2 _ rfl
    have x3 : w6.cell? ⟨w.heap.size, 3, none⟩ = some (.int .i64 d) := BX.out.c 3 _ rfl
    have x4 : w6.cell? ⟨w.heap.size, 4, none⟩ = some (.int .i64 o) := BX.out.c 4 _ rfl
    have x5 : w6.cell? ⟨w.heap.size, 5, none⟩ = some (.int .i64 i) := BX.out.c 5 _ rfl
    clear g C3
    obtain ⟨rfl, rfl, rfl⟩ := G1.out.1.one (Rw.Gi.fd HFOL.out (HFD.out ▸ hg2))
    obtain rfl : n2 = n1 := by rw [← m1]; exact G1.out.2.1
    have S2 := Lib.hid s2
    have Z2 := Lib.hid z2
    clear hg2 m1 m2 m3 s2 z2
    go_wp2_with fail
    refine (C4.out _ HV.out).mono ?_
    rintro e w7 ⟨A3, ca3, n3, rfl, v1, v2, v3, g⟩
    have HV' := Lib.hid (Nm.Nb HV.out g)
    have BX' := Lib.hid (BX.out.bt g)
    have S1' := Lib.hid (Nm.sbt S1.out g)
    clear S1
    have S1 := S1'
    clear S1'
    have Z1' := Lib.hid (Rw.Zs.bt Z1.out g)
    clear Z1
    have Z1 := Z1'
    clear Z1'
    have S2' := Lib.hid (Nm.sbt S2.out g)
    clear S2
    have S2 := S2'
    clear S2'
    have Z2' := Lib.hid (Rw.Zs.bt Z2.out g)
    clear Z2
    have Z2 := Z2'
    clear Z2'
    clear HV BX x0 x1 x2 x3 x4 x5
    have HV := HV'
    have BX := BX'
    clear HV' BX'
    have x0 : w7.cell? ⟨w.heap.size, 0, none⟩ = some (.slice A R.length a) := BX.out.c 0 _ rfl
    have x1 : w7.cell? ⟨w.heap.size, 1, none⟩ = some (.slice B D.length b) := BX.out.c 1 _ rfl
    have x2 : w7.cell? ⟨w.heap.size, 2, none⟩ = some (.slice C E.length c) := BX.out.c 2 _ rfl
    have x3 : w7.cell? ⟨w.heap.size, 3, none⟩ = some (.int .i64 d) := BX.out.c 3 _ rfl
    have x4 : w7.cell? ⟨w.heap.size, 4, none⟩ = some (.int .i64 o) := BX.out.c 4 _ rfl
    have x5 : w7.cell? ⟨w.heap.size, 5, none⟩ = some (.int .i64 i) := BX.out.c 5 _ rfl
    clear g C4
    have V3 := Lib.hid v3
    have G3 := Lib.hid (And.intro v1 v2)
    clear v1 v2 v3
    go_wp2_with fail
    refine (C5.out _ HV.out).mono ?_
    rintro e w8 ⟨A4, ca4, n4, rfl, v1, v2, v3, g⟩
    have HV' := Lib.hid (Nm.Nb HV.out g)
    have BX' := Lib.hid (BX.out.bt g)
    have S1' := Lib.hid (Nm.sbt S1.out g)
    clear S1
    have S1 := S1'
    clear S1'
    have Z1' := Lib.hid (Rw.Zs.bt Z1.out g)
    clear Z1
    have Z1 := Z1'
    clear Z1'
    have S2' := Lib.hid (Nm.sbt S2.out g)
    clear S2
    have S2 := S2'
    clear S2'
    have Z2' := Lib.hid (Rw.Zs.bt Z2.out g)
    clear Z2
    have Z2 := Z2'
    clear Z2'
    have V3' := Lib.hid (Rw.Vs.bt V3.out g)
    clear V3
    have V3 := V3'
    clear V3'
    clear HV BX x0 x1 x2 x3 x4 x5
    have HV := HV'
    have BX := BX'
    clear HV' BX'
    have x0 : w8.cell? ⟨w.heap.size, 0, none⟩ = some (.slice A R.length a) := BX.out.c 0 _ rfl
    have x1 : w8.cell? ⟨w.heap.size, 1, none⟩ = some (.slice B D.length b) := BX.out.c 1 _ rfl
    have x2 : w8.cell? ⟨w.heap.size, 2, none⟩ = some (.slice C E.length c) := BX.out.c 2 _ rfl
    have x3 : w8.cell? ⟨w.heap.size, 3, none⟩ = some (.int .i64 d) := BX.out.c 3 _ rfl
    have x4 : w8.cell? ⟨w.heap.size, 4, none⟩ = some (.int .i64 o) := BX.out.c 4 _ rfl
    have x5 : w8.cell? ⟨w.heap.size, 5, none⟩ = some (.int .i64 i) := BX.out.c 5 _ rfl
    clear g C5
    obtain rfl : n4 = n3 := by rw [← v1]; exact G3.out.1
    have V4 := Lib.hid v3
    clear v1 v2 v3
    go_wp2_with fail
    refine (C6.out _ HV.out).mono ?_
    rintro e w9 ⟨rfl, g⟩
    have HV' := Lib.hid (Nm.Nb HV.out g)
    have BX' := Lib.hid (BX.out.bt g)
    have S1' := Lib.hid (Nm.sbt S1.out g)
    clear S1
    have S1 := S1'
    clear S1'
    have Z1' := Lib.hid (Rw.Zs.bt Z1.out g)
    clear Z1
    have Z1 := Z1'
    clear Z1'
    have S2' := Lib.hid (Nm.sbt S2.out g)
    clear S2
    have S2 := S2'
    clear S2'
    have Z2' := Lib.hid (Rw.Zs.bt Z2.out g)
    clear Z2
    have Z2 := Z2'
    clear Z2'
    have V3' := Lib.hid (Rw.Vs.bt V3.out g)
    clear V3
    have V3 := V3'
    clear V3'
    have V4' := Lib.hid (Rw.Vs.bt V4.out g)
    clear V4
    have V4 := V4'
    clear V4'
    clear HV BX x0 x1 x2 x3 x4 x5
    have HV := HV'
    have BX := BX'
    clear HV' BX'
    have x0 : w9.cell? ⟨w.heap.size, 0, none⟩ = some (.slice A R.length a) := BX.out.c 0 _ rfl
    have x1 : w9.cell? ⟨w.heap.size, 1, none⟩ = some (.slice B D.length b) := BX.out.c 1 _ rfl
    have x2 : w9.cell? ⟨w.heap.size, 2, none⟩ = some (.slice C E.length c) := BX.out.c 2 _ rfl
    have x3 : w9.cell? ⟨w.heap.size, 3, none⟩ = some (.int .i64 d) := BX.out.c 3 _ rfl
    have x4 : w9.cell? ⟨w.heap.size, 4, none⟩ = some (.int .i64 o) := BX.out.c 4 _ rfl
    have x5 : w9.cell? ⟨w.heap.size, 5, none⟩ = some (.int .i64 i) := BX.out.c 5 _ rfl
    clear g C6
    go_wp2_with fail
    refine (C7.out _ HV.out).mono ?_
    rintro e w10 ⟨rfl, g⟩
    have HV' := Lib.hid (Nm.Nb HV.out g)
    have BX' := Lib.hid (BX.out.bt g)
    have S1' := Lib.hid (Nm.sbt S1.out g)
    clear S1
    have S1 := S1'
    clear S1'
    have Z1' := Lib.hid (Rw.Zs.bt Z1.out g)
    clear Z1
    have Z1 := Z1'
    clear Z1'
    have S2' := Lib.hid (Nm.sbt S2.out g)
    clear S2
    have S2 := S2'
    clear S2'
    have Z2' := Lib.hid (Rw.Zs.bt Z2.out g)
    clear Z2
    have Z2 := Z2'
    clear Z2'
    have V3' := Lib.hid (Rw.Vs.bt V3.out g)
    clear V3
    have V3 := V3'
    clear V3'
    have V4' := Lib.hid (Rw.Vs.bt V4.out g)
    clear V4
    have V4 := V4'
    clear V4'
    clear HV BX x0 x1 x2 x3 x4 x5
    have HV := HV'
    have BX := BX'
    clear HV' BX'
    have x0 : w10.cell? ⟨w.heap.size, 0, none⟩ = some (.slice A R.length a) := BX.out.c 0 _ rfl
    have x1 : w10.cell? ⟨w.heap.size, 1, none⟩ = some (.slice B D.length b) := BX.out.c 1 _ rfl
    have x2 : w10.cell? ⟨w.heap.size, 2, none⟩ = some (.slice C E.length c) := BX.out.c 2 _ rfl
    have x3 : w10.cell? ⟨w.heap.size, 3, none⟩ = some (.int .i64 d) := BX.out.c 3 _ rfl
    have x4 : w10.cell? ⟨w.heap.size, 4, none⟩ = some (.int .i64 o) := BX.out.c 4 _ rfl
    have x5 : w10.cell? ⟨w.heap.size, 5, none⟩ = some (.int .i64 i) := BX.out.c 5 _ rfl
    clear g C7
    have SF := Rw.sameForms_any A1 ca1 ss M1 cm1 ms A2 ca2 ss M2 cm2 ms n2 n2 n2 n2 G1.out.2.1 G1.out.2.2.1 G1.out.2.1 G1.out.2.2.1 _ S1.out Z1.out S2.out Z2.out (by have := G1.out.2.2.2; omega)
    rw [Rw.sameF_self ss ms (by rw [G1.out.2.1]; exact G1.out.2.2.1)] at SF
    have SF := Lib.hid SF
    go_wp2_with fail
    refine (SF.out).mono ?_
    rintro e w11 ⟨rfl, g⟩
    have HV' := Lib.hid (Nm.Nb HV.out g)
    have BX' := Lib.hid (BX.out.bt g)
    have S1' := Lib.hid (Nm.sbt S1.out g)
    clear S1
    have S1 := S1'
    clear S1'
    have Z1' := Lib.hid (Rw.Zs.bt Z1.out g)
    clear Z1
    have Z1 := Z1'
    clear Z1'
    have S2' := Lib.hid (Nm.sbt S2.out g)
    clear S2
    have S2 := S2'
    clear S2'
    have Z2' := Lib.hid (Rw.Zs.bt Z2.out g)
    clear Z2
    have Z2 := Z2'
    clear Z2'
    have V3' := Lib.hid (Rw.Vs.bt V3.out g)
    clear V3
    have V3 := V3'
    clear V3'
    have V4' := Lib.hid (Rw.Vs.bt V4.out g)
    clear V4
    have V4 := V4'
    clear V4'
    clear HV BX x0 x1 x2 x3 x4 x5
    have HV := HV'
    have BX := BX'
    clear HV' BX'
    have x0 : w11.cell? ⟨w.heap.size, 0, none⟩ = some (.slice A R.length a) := BX.out.c 0 _ rfl
    have x1 : w11.cell? ⟨w.heap.size, 1, none⟩ = some (.slice B D.length b) := BX.out.c 1 _ rfl
    have x2 : w11.cell? ⟨w.heap.size, 2, none⟩ = some (.slice C E.length c) := BX.out.c 2 _ rfl
    have x3 : w11.cell? ⟨w.heap.size, 3, none⟩ = some (.int .i64 d) := BX.out.c 3 _ rfl
    have x4 : w11.cell? ⟨w.heap.size, 4, none⟩ = some (.int .i64 o) := BX.out.c 4 _ rfl
    have x5 : w11.cell? ⟨w.heap.size, 5, none⟩ = some (.int .i64 i) := BX.out.c 5 _ rfl
    clear g SF
    have SV := Rw.sameVars_any A3 ca3 vv A4 ca4 vv n4 n4 G3.out.1 G3.out.1 _ V3.out V4.out (by have := G3.out.2; omega)
    rw [decide_eq_true rfl] at SV
    have SV := Lib.hid SV
    go_wp2_with fail
    refine (SV.out).mono ?_
    rintro e w12 ⟨rfl, g⟩
    have HV' := Lib.hid (Nm.Nb HV.out g)
    have BX' := Lib.hid (BX.out.bt g)
    have S1' := Lib.hid (Nm.sbt S1.out g)
    clear S1
    have S1 := S1'
    clear S1'
    have Z1' := Lib.hid (Rw.Zs.bt Z1.out g)
    clear Z1
    have Z1 := Z1'
    clear Z1'
    have S2' := Lib.hid (Nm.sbt S2.out g)
    clear S2
    have S2 := S2'
    clear S2'
    have Z2' := Lib.hid (Rw.Zs.bt Z2.out g)
    clear Z2
    have Z2 := Z2'
    clear Z2'
    have V3' := Lib.hid (Rw.Vs.bt V3.out g)
    clear V3
    have V3 := V3'
    clear V3'
    have V4' := Lib.hid (Rw.Vs.bt V4.out g)
    clear V4
    have V4 := V4'
    clear V4'
    clear HV BX x0 x1 x2 x3 x4 x5
    have HV := HV'
    have BX := BX'
    clear HV' BX'
    have x0 : w12.cell? ⟨w.heap.size, 0, none⟩ = some (.slice A R.length a) := BX.out.c 0 _ rfl
    have x1 : w12.cell? ⟨w.heap.size, 1, none⟩ = some (.slice B D.length b) := BX.out.c 1 _ rfl
    have x2 : w12.cell? ⟨w.heap.size, 2, none⟩ = some (.slice C E.length c) := BX.out.c 2 _ rfl
    have x3 : w12.cell? ⟨w.heap.size, 3, none⟩ = some (.int .i64 d) := BX.out.c 3 _ rfl
    have x4 : w12.cell? ⟨w.heap.size, 4, none⟩ = some (.int .i64 o) := BX.out.c 4 _ rfl
    have x5 : w12.cell? ⟨w.heap.size, 5, none⟩ = some (.int .i64 i) := BX.out.c 5 _ rfl
    clear g SV
    go_wp2
    go_ret
    exact ⟨rfl, HV.out⟩
end Go.Proofs.YtkddpealobeleaaGreatDoor
