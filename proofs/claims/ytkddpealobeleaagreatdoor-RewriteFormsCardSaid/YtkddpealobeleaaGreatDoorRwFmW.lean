/- Layer 10: RewriteForms: the walk. -/
import Derived.Test.YtkddpealobeleaaGreatDoorRwLs
import Derived.Test.YtkddpealobeleaaGreatDoorRwRuM
import Derived.Lib.QuietBelow
import Derived.Laws.Cover1
import Derived.BigQuiet
set_option linter.unusedSimpArgs false
set_option linter.unusedVariables false
namespace Go.Proofs.YtkddpealobeleaaGreatDoor
open Go.RowKit Go.Shelf
set_option maxRecDepth 100000
set_option maxHeartbeats 4000000
theorem Rw.Gi.each {t : Rw.TV} {k : Int} {x : ByteArray} {most : Int} {ss : List ByteArray} {ms : List Int} (h : Rw.Gi t k x most 0 ss ms) (hL : Rw.isL t k x = true) :
    Rw.Ord ss ∧ ∀ i (_ : i < ss.length) (_ : i < ms.length), ∃ cc : Nat, ms[i] = (cc : Int) ∧ (cc : Int) ≤ most ∧ Rw.Least (Rw.rus k t.R) (Rw.lts k x) ss[i].data.toList cc ∧ ss[i].size ≤ 100 := by
  obtain ⟨hg, h12⟩ := Rw.isL_good hL
  rcases h with ⟨_, e, _⟩ | ⟨_, _, e, _⟩ | ⟨_, fs, a2, _, _, _, _, rfl, rfl⟩
  · omega
  · omega
  refine ⟨Rw.ord_of a2, fun i hi hi2 => ?_⟩
  rw [List.length_map] at hi
  obtain ⟨h1, h2⟩ := (a2.mem fs[i].1 fs[i].2).1 (List.getElem_mem _)
  have h3 := (h1.1.cost hg).2
  refine ⟨fs[i].2, by rw [List.getElem_map], h2, ?_, ?_⟩
  · rw [List.getElem_map, Nm.bt_list]
    exact h1
  · rw [List.getElem_map, Lib.size_eq, Nm.bt_list]
    omega
theorem Rw.Gi.two {t : Rw.TV} {k : Int} {x : ByteArray} {most : Int} {ss : List ByteArray} {ms : List Int} (h : Rw.Gi t k x most 2 ss ms) : ss = [] ∧ ms = [] := by
  rcases h with ⟨_, e, _⟩ | ⟨_, _, _, h1, h2⟩ | ⟨_, _, _, _, _, _, e, _⟩
  · omega
  · exact ⟨h1, h2⟩
  · omega
theorem Rw.Gi.c02 {t : Rw.TV} {k : Int} {x : ByteArray} {most : Int} {c : Int} {ss : List ByteArray} {ms : List Int} (h : Rw.Gi t k x most c ss ms) (hL : Rw.isL t k x = true) : c = 0 ∨ c = 2 := by
  rcases h with ⟨e, _⟩ | ⟨_, _, e, _⟩ | ⟨_, _, _, _, _, _, e, _⟩
  · rw [hL] at e
    cases e
  · exact .inr e
  · exact .inl e
theorem Rw.fm_walk (t : Rw.TV) (k : Int) (x : ByteArray) (most : Int) (w : World) (hp : Rw.Pa w.heap.size w) (hi : t.In w) (wk : (Lit.int .i64 k).wf = true) (wx : x.size ≤ maxLen) (wm : (Lit.int .i64 most).wf = true) :
    Calls Tryz.prog 6 #[t.val, .int .i64 k, .string x, .int .i64 most] w fun e w' => e = .returned (.bool true) ∧ Below w.heap.size w w' := by
  obtain ⟨A, a, B, b, C, c, R, D, E, d, o, ii⟩ := t
  obtain ⟨t, ht⟩ : ∃ t : Rw.TV, (⟨A, a, B, b, C, c, R, D, E, d, o, ii⟩ : Rw.TV) = t := ⟨_, rfl⟩
  have hv : t.val = .agg #[.slice A R.length a, .slice B D.length b, .slice C E.length c, .int .i64 d, .int .i64 o, .int .i64 ii] := by rw [← ht]; rfl
  rw [ht] at hi ⊢
  rw [hv]
  have HTE := Lib.hid ht
  have HIN := Lib.hid (fun v (g : Below w.heap.size w v) => hi.bt g)
  have HP := Lib.hid (fun v (g : Below w.heap.size w v) => hp.bt g)
  have C0 := Lib.hid (fun v (g : Below w.heap.size w v) => Rw.head_any v (hp.bt g))
  obtain ⟨fw, hfw⟩ : ∃ fw, Rw.few t = fw := ⟨_, rfl⟩
  have CF := Lib.hid (fun v (g : Below w.heap.size w v) => Rw.few_any t v (hi.bt g))
  obtain ⟨ok, hok⟩ : ∃ ok, Rw.okT t = ok := ⟨_, rfl⟩
  have CV := Lib.hid (fun v (g : Below w.heap.size w v) => Rw.validT_any t v (hi.bt g) (hp.bt g).tb)
  rw [hv, hfw] at CF
  rw [hv, hok] at CV
  have HFW := Lib.hid hfw
  have HOK := Lib.hid hok
  have C1 := Lib.hid (fun v (g : Below w.heap.size w v) => Rw.letters_any k x v wx (hp.bt g).tb)
  have C3 := Lib.hid (fun v (g : Below w.heap.size w v) => Rw.forms_gi t k x most v (hi.bt g) (hp.bt g).tb wx)
  rw [hv] at C3
  have HVT := Lib.hid hv
  clear wx wk wm
  have hbV := Nm.al w (.cells #[.slice A R.length a, .slice B D.length b, .slice C E.length c, .int .i64 d, .int .i64 o, .int .i64 ii] 25)
  have BX : Hid (Rw.Bx (w.alloc (.cells #[.slice A R.length a, .slice B D.length b, .slice C E.length c, .int .i64 d, .int .i64 o, .int .i64 ii] 25)) w.heap.size #[.slice A R.length a, .slice B D.length b, .slice C E.length c, .int .i64 d, .int .i64 o, .int .i64 ii] 25) := Lib.hid (heap_alloc_new _ _)
  have HV := Lib.hid hbV
  clear hbV hfw hok hi hp ht hv
  have x0 : (w.alloc (.cells #[.slice A R.length a, .slice B D.length b, .slice C E.length c, .int .i64 d, .int .i64 o, .int .i64 ii] 25)).cell? ⟨w.heap.size, 0, none⟩ = some (.slice A R.length a) := BX.out.c 0 _ rfl
  have x1 : (w.alloc (.cells #[.slice A R.length a, .slice B D.length b, .slice C E.length c, .int .i64 d, .int .i64 o, .int .i64 ii] 25)).cell? ⟨w.heap.size, 1, none⟩ = some (.slice B D.length b) := BX.out.c 1 _ rfl
  have x2 : (w.alloc (.cells #[.slice A R.length a, .slice B D.length b, .slice C E.length c, .int .i64 d, .int .i64 o, .int .i64 ii] 25)).cell? ⟨w.heap.size, 2, none⟩ = some (.slice C E.length c) := BX.out.c 2 _ rfl
  have x3 : (w.alloc (.cells #[.slice A R.length a, .slice B D.length b, .slice C E.length c, .int .i64 d, .int .i64 o, .int .i64 ii] 25)).cell? ⟨w.heap.size, 3, none⟩ = some (.int .i64 d) := BX.out.c 3 _ rfl
  have x4 : (w.alloc (.cells #[.slice A R.length a, .slice B D.length b, .slice C E.length c, .int .i64 d, .int .i64 o, .int .i64 ii] 25)).cell? ⟨w.heap.size, 4, none⟩ = some (.int .i64 o) := BX.out.c 4 _ rfl
  have x5 : (w.alloc (.cells #[.slice A R.length a, .slice B D.length b, .slice C E.length c, .int .i64 d, .int .i64 o, .int .i64 ii] 25)).cell? ⟨w.heap.size, 5, none⟩ = some (.int .i64 ii) := BX.out.c 5 _ rfl
  go_enter Tryz.func6, Tryz.ntmps6
  go_wp2_with fail
  refine (C0.out _ HV.out).mono ?_
  rintro e w1 ⟨rfl, g⟩
  have HV' := Lib.hid (Nm.Nb HV.out g)
  have BX' := Lib.hid (BX.out.bt g)
  clear HV BX x0 x1 x2 x3 x4 x5
  have HV := HV'
  have BX := BX'
  clear HV' BX'
  have x0 : w1.cell? ⟨w.heap.size, 0, none⟩ = some (.slice A R.length a) := BX.out.c 0 _ rfl
  have x1 : w1.cell? ⟨w.heap.size, 1, none⟩ = some (.slice B D.length b) := BX.out.c 1 _ rfl
  have x2 : w1.cell? ⟨w.heap.size, 2, none⟩ = some (.slice C E.length c) := BX.out.c 2 _ rfl
  have x3 : w1.cell? ⟨w.heap.size, 3, none⟩ = some (.int .i64 d) := BX.out.c 3 _ rfl
  have x4 : w1.cell? ⟨w.heap.size, 4, none⟩ = some (.int .i64 o) := BX.out.c 4 _ rfl
  have x5 : w1.cell? ⟨w.heap.size, 5, none⟩ = some (.int .i64 ii) := BX.out.c 5 _ rfl
  clear g C0
  go_wp2_with fail
  refine (C1.out _ HV.out).mono ?_
  rintro e w2 ⟨A1, ca1, n1, rfl, l1, l2, s1, g⟩
  have HV' := Lib.hid (Nm.Nb HV.out g)
  have BX' := Lib.hid (BX.out.bt g)
  clear HV BX x0 x1 x2 x3 x4 x5
  have HV := HV'
  have BX := BX'
  clear HV' BX'
  have x0 : w2.cell? ⟨w.heap.size, 0, none⟩ = some (.slice A R.length a) := BX.out.c 0 _ rfl
  have x1 : w2.cell? ⟨w.heap.size, 1, none⟩ = some (.slice B D.length b) := BX.out.c 1 _ rfl
  have x2 : w2.cell? ⟨w.heap.size, 2, none⟩ = some (.slice C E.length c) := BX.out.c 2 _ rfl
  have x3 : w2.cell? ⟨w.heap.size, 3, none⟩ = some (.int .i64 d) := BX.out.c 3 _ rfl
  have x4 : w2.cell? ⟨w.heap.size, 4, none⟩ = some (.int .i64 o) := BX.out.c 4 _ rfl
  have x5 : w2.cell? ⟨w.heap.size, 5, none⟩ = some (.int .i64 ii) := BX.out.c 5 _ rfl
  clear g C1
  have S1 := Lib.hid s1
  have G1 := Lib.hid (And.intro l1 l2)
  clear l1 l2 s1
  go_wp2_with fail
  refine (CF.out _ HV.out).mono ?_
  rintro e w3 ⟨rfl, g⟩
  have HV' := Lib.hid (Nm.Nb HV.out g)
  have BX' := Lib.hid (BX.out.bt g)
  have S1' := Lib.hid (Nm.sbt S1.out g)
  clear S1
  have S1 := S1'
  clear S1'
  clear HV BX x0 x1 x2 x3 x4 x5
  have HV := HV'
  have BX := BX'
  clear HV' BX'
  have x0 : w3.cell? ⟨w.heap.size, 0, none⟩ = some (.slice A R.length a) := BX.out.c 0 _ rfl
  have x1 : w3.cell? ⟨w.heap.size, 1, none⟩ = some (.slice B D.length b) := BX.out.c 1 _ rfl
  have x2 : w3.cell? ⟨w.heap.size, 2, none⟩ = some (.slice C E.length c) := BX.out.c 2 _ rfl
  have x3 : w3.cell? ⟨w.heap.size, 3, none⟩ = some (.int .i64 d) := BX.out.c 3 _ rfl
  have x4 : w3.cell? ⟨w.heap.size, 4, none⟩ = some (.int .i64 o) := BX.out.c 4 _ rfl
  have x5 : w3.cell? ⟨w.heap.size, 5, none⟩ = some (.int .i64 ii) := BX.out.c 5 _ rfl
  clear g CF
  cases fw with
  | false =>
    go_wp2
    go_ret
    exact ⟨rfl, HV.out⟩
  | true =>
  by_cases h60 : 60 < x.size
  · have h60i : (60 : Int) < (x.size : Int) := by omega
    go_wp2
    go_ret
    exact ⟨rfl, HV.out⟩
  have h60i : ¬ (60 : Int) < (x.size : Int) := by omega
  clear h60
  go_wp2_with fail
  refine (CV.out _ HV.out).mono ?_
  rintro e w4 ⟨rfl, g⟩
  have HV' := Lib.hid (Nm.Nb HV.out g)
  have BX' := Lib.hid (BX.out.bt g)
  have S1' := Lib.hid (Nm.sbt S1.out g)
  clear S1
  have S1 := S1'
  clear S1'
  clear HV BX x0 x1 x2 x3 x4 x5
  have HV := HV'
  have BX := BX'
  clear HV' BX'
  have x0 : w4.cell? ⟨w.heap.size, 0, none⟩ = some (.slice A R.length a) := BX.out.c 0 _ rfl
  have x1 : w4.cell? ⟨w.heap.size, 1, none⟩ = some (.slice B D.length b) := BX.out.c 1 _ rfl
  have x2 : w4.cell? ⟨w.heap.size, 2, none⟩ = some (.slice C E.length c) := BX.out.c 2 _ rfl
  have x3 : w4.cell? ⟨w.heap.size, 3, none⟩ = some (.int .i64 d) := BX.out.c 3 _ rfl
  have x4 : w4.cell? ⟨w.heap.size, 4, none⟩ = some (.int .i64 o) := BX.out.c 4 _ rfl
  have x5 : w4.cell? ⟨w.heap.size, 5, none⟩ = some (.int .i64 ii) := BX.out.c 5 _ rfl
  clear g CV
  cases ok with
  | false =>
    go_wp2
    go_ret
    exact ⟨rfl, HV.out⟩
  | true =>
  by_cases hn0 : n1 = 0
  · subst hn0
    go_wp2
    go_ret
    exact ⟨rfl, HV.out⟩
  have hn0i : ¬ (n1 : Int) = 0 := by omega
  have hn0b : ((n1 : Int) == 0) = false := by simp; omega
  have hw : Nm.isW (Nm.sc k) x.data.toList = true := by
    cases h : Nm.isW (Nm.sc k) x.data.toList with
    | true => rfl
    | false =>
      have := (Rw.lw_len k x).2.2 h
      have := G1.out.1
      omega
  have HLW : Hid (Rw.lw k x = (Rw.lts k x).map Nm.bt) := Lib.hid (by unfold Rw.lw; rw [if_pos hw])
  have HIL : Hid (Rw.isL t k x = true) := Lib.hid (by unfold Rw.isL; rw [HOK.out, hw]; rfl)
  rw [HLW.out] at S1 G1
  have HLL : Hid ((Rw.lts k x).length = n1) := Lib.hid (by have := G1.out.1; rwa [List.length_map] at this)
  have hn12 : n1 ≤ 12 := G1.out.2
  clear hn0 hw
  go_wp2_with fail
  refine (C3.out _ HV.out).mono ?_
  rintro e w5 ⟨c2, ss, ms, A2, ca2, M2, cm2, n2, rfl, hg2, m1, m2, m3, s2, z2, g⟩
  have HV' := Lib.hid (Nm.Nb HV.out g)
  have BX' := Lib.hid (BX.out.bt g)
  have S1' := Lib.hid (Nm.sbt S1.out g)
  clear S1
  have S1 := S1'
  clear S1'
  clear HV BX x0 x1 x2 x3 x4 x5
  have HV := HV'
  have BX := BX'
  clear HV' BX'
  have x0 : w5.cell? ⟨w.heap.size, 0, none⟩ = some (.slice A R.length a) := BX.out.c 0 _ rfl
  have x1 : w5.cell? ⟨w.heap.size, 1, none⟩ = some (.slice B D.length b) := BX.out.c 1 _ rfl
  have x2 : w5.cell? ⟨w.heap.size, 2, none⟩ = some (.slice C E.length c) := BX.out.c 2 _ rfl
  have x3 : w5.cell? ⟨w.heap.size, 3, none⟩ = some (.int .i64 d) := BX.out.c 3 _ rfl
  have x4 : w5.cell? ⟨w.heap.size, 4, none⟩ = some (.int .i64 o) := BX.out.c 4 _ rfl
  have x5 : w5.cell? ⟨w.heap.size, 5, none⟩ = some (.int .i64 ii) := BX.out.c 5 _ rfl
  clear g C3
  have S2 := Lib.hid s2
  have Z2 := Lib.hid z2
  have HM := Lib.hid (And.intro m1 (And.intro m2 m3))
  clear s2 z2 m1 m2 m3
  rcases hg2.c02 HIL.out with rfl | rfl
  · obtain ⟨ho, hev⟩ := hg2.each HIL.out
    have HEV := Lib.hid (And.intro ho hev)
    have hn2 : n2 ≤ 1000 := HM.out.2.2
    clear hg2 ho hev
    go_wp2
    clear x0 x1 x2 x3 x4 x5
    generalize hWR : w5 = V at *
    clear hWR
    go_loopw [14] (fun s14 wr => ∃ i : Nat, i ≤ n2 ∧ s14 = .int .i64 (i : Int) ∧ Hid (Below V.heap.size V wr)) (fun s14 _ => n2 - (intOf s14).toNat)
    case atStart => exact ⟨0, by omega, rfl, Lib.hid (Below.refl _ _)⟩
    case round =>
      obtain ⟨i, hi, rfl, HW⟩ := hrel
      have HBW := Lib.hid (Nm.Nb HV.out HW.out)
      by_cases hlt : i < n2
      · have hi1 : i < ss.length := by rw [HM.out.1]; exact hlt
        have hi2 : i < ms.length := by rw [HM.out.2.1]; exact hlt
        obtain ⟨sd, rfl, hsd, q0⟩ := S2.out i hi1
        obtain ⟨md, rfl, hmd, r0⟩ := Z2.out i hi2
        have hgd : ss.getD i ByteArray.empty = ss[i] := by rw [List.getD_eq_getElem?_getD, List.getElem?_eq_getElem hi1]; rfl
        rw [hgd] at q0
        obtain ⟨cc, hcc, hcm, hle, hsz⟩ := HEV.out.2 i hi1 hi2
        rw [hcc] at r0
        have y0 := Nm.cell_bt q0 HW.out
        have z0 := Nm.cell_bt r0 HW.out
        clear q0 r0
        have hlti : (i : Int) < (n2 : Int) := by omega
        have hc0 : ¬ (cc : Int) < 0 := by omega
        have hc1 : ¬ most < (cc : Int) := by omega
        have hd1 : decide ((cc : Int) < 0) = false := decide_eq_false hc0
        have hd2 : decide (most < (cc : Int)) = false := decide_eq_false hc1
        have HLS := Lib.hid (fun v (g : Below w.heap.size w v) (gv : Below V.heap.size V v) => Rw.least_any t k A1 ca1 (Rw.lts k x) n1 ss[i] ss[i].size cc HLL.out rfl v (HIN.out v g) HOK.out (HP.out v g).tb (Nm.sbt S1.out gv) hn12 (by omega) hle)
        rw [HVT.out] at HLS
        obtain ⟨y, hy⟩ : ∃ y, ss[i] = y := ⟨_, rfl⟩
        have HY := Lib.hid (show ∀ h : i < ss.length, ss[i] = y from fun _ => hy)
        rw [hy] at y0 HLS
        have BXr := Lib.hid (BX.out.bt HW.out)
        have x0 : wr.cell? ⟨w.heap.size, 0, none⟩ = some (.slice A R.length a) := BXr.out.c 0 _ rfl
        have x1 : wr.cell? ⟨w.heap.size, 1, none⟩ = some (.slice B D.length b) := BXr.out.c 1 _ rfl
        have x2 : wr.cell? ⟨w.heap.size, 2, none⟩ = some (.slice C E.length c) := BXr.out.c 2 _ rfl
        have x3 : wr.cell? ⟨w.heap.size, 3, none⟩ = some (.int .i64 d) := BXr.out.c 3 _ rfl
        have x4 : wr.cell? ⟨w.heap.size, 4, none⟩ = some (.int .i64 o) := BXr.out.c 4 _ rfl
        have x5 : wr.cell? ⟨w.heap.size, 5, none⟩ = some (.int .i64 ii) := BXr.out.c 5 _ rfl
        clear hi2 hle hcm hcc hgd hsz BXr
        by_cases hi0 : i = 0
        · have hip3 : decide (0 < i) = false := decide_eq_false (by omega)
          have h20 : (i : Int) < 20 := by omega
          clear hy hi1 hi0
          go_wp2
          go_quiet (fail)
          go_wp2
          have HWD := Lib.hid (Nm.drewB HW.out nq)
          have HBD := Lib.hid (Nm.drewB HBW.out nq)
          have x0 : (wr.drewN nq).cell? ⟨w.heap.size, 0, none⟩ = some (.slice A R.length a) := x0
          have x1 : (wr.drewN nq).cell? ⟨w.heap.size, 1, none⟩ = some (.slice B D.length b) := x1
          have x2 : (wr.drewN nq).cell? ⟨w.heap.size, 2, none⟩ = some (.slice C E.length c) := x2
          have x3 : (wr.drewN nq).cell? ⟨w.heap.size, 3, none⟩ = some (.int .i64 d) := x3
          have x4 : (wr.drewN nq).cell? ⟨w.heap.size, 4, none⟩ = some (.int .i64 o) := x4
          have x5 : (wr.drewN nq).cell? ⟨w.heap.size, 5, none⟩ = some (.int .i64 ii) := x5
          have y0 : (wr.drewN nq).cell? (sd.add i) = some (.string y) := y0
          have z0 : (wr.drewN nq).cell? (md.add i) = some (.int .i64 (cc : Int)) := z0
          generalize wr.drewN nq = U at *
          have LSr := Lib.hid (fun dq os => Calls.regrown_of (HLS.out (Go.Sort.grow (redrawn U dq) os) (Nm.Nb HBD.out (below_regrown U dq os)) (Nm.Nb HWD.out (below_regrown U dq os))))
          have X0 := fun dq os => cell_regrown x0 dq os
          have X1 := fun dq os => cell_regrown x1 dq os
          have X2 := fun dq os => cell_regrown x2 dq os
          have X3 := fun dq os => cell_regrown x3 dq os
          have X4 := fun dq os => cell_regrown x4 dq os
          have X5 := fun dq os => cell_regrown x5 dq os
          have Y0 := fun dq os => cell_regrown y0 dq os
          have Z0 := fun dq os => cell_regrown z0 dq os
          clear HLS x0 x1 x2 x3 x4 x5 y0 z0
          refine wp_region_quiet_below (by kernel_rfl) (by kernel_rfl) ?_
          repeat (quiet_step (first | (go_at_call 31; exact LSr.out _ _) | fail))
          refine wpQuiet_nil ?_
          intro _ hw'
          obtain ⟨⟨dq, osq⟩, hw''⟩ := hw'
          subst hw''
          go_wp2
          exact ⟨⟨i + 1, by omega, by go_num, Lib.hid (Nm.Nb HWD.out (below_regrown U dq osq))⟩, by simp [intOf]; omega⟩
        · have hj1 : i - 1 < ss.length := by omega
          obtain ⟨sd', e', hsd', v0⟩ := S2.out (i - 1) hj1
          cases e'
          have hgd : ss.getD (i - 1) ByteArray.empty = ss[i - 1] := by rw [List.getD_eq_getElem?_getD, List.getElem?_eq_getElem hj1]; rfl
          rw [hgd] at v0
          have hord := HEV.out.1 (i - 1) i hj1 hi1 (by omega)
          rw [hy] at hord
          obtain ⟨p, hp⟩ : ∃ p, ss[i - 1] = p := ⟨_, rfl⟩
          rw [hp] at v0 hord
          have v0 := Nm.cell_bt v0 HW.out
          have hbl : Op.bytesLess p.toList y.toList = true := by rw [Rw.less_eq]; exact decide_eq_true hord
          have hip : (0 : Int) < (i : Int) := by omega
          have hip2 : 0 < i := by omega
          have hip3 : decide (0 < i) = true := decide_eq_true hip2
          have hip4 : decide ((0 : Int) < (i : Int)) = true := decide_eq_true hip
          have hsub : (i : Int) - 1 = ((i - 1 : Nat) : Int) := by omega
          have hin : ((i - 1 : Nat) : Int) < (n2 : Int) := by omega
          have hwr : IntKind.i64.wrap ((i - 1 : Nat) : Int) = ((i - 1 : Nat) : Int) := by unfold IntKind.wrap; simp [IntKind.bits, IntKind.signed]; omega
          obtain ⟨i1, hi1e⟩ : ∃ i1, i - 1 = i1 := ⟨_, rfl⟩
          rw [hi1e] at v0 hsub hin hwr
          clear hgd hord hp hy hi1 hj1 hi1e
          by_cases h20 : (i : Int) < 20
          · go_wp2
            go_quiet (fail)
            go_wp2
            have HWD := Lib.hid (Nm.drewB HW.out nq)
            have HBD := Lib.hid (Nm.drewB HBW.out nq)
            have x0 : (wr.drewN nq).cell? ⟨w.heap.size, 0, none⟩ = some (.slice A R.length a) := x0
            have x1 : (wr.drewN nq).cell? ⟨w.heap.size, 1, none⟩ = some (.slice B D.length b) := x1
            have x2 : (wr.drewN nq).cell? ⟨w.heap.size, 2, none⟩ = some (.slice C E.length c) := x2
            have x3 : (wr.drewN nq).cell? ⟨w.heap.size, 3, none⟩ = some (.int .i64 d) := x3
            have x4 : (wr.drewN nq).cell? ⟨w.heap.size, 4, none⟩ = some (.int .i64 o) := x4
            have x5 : (wr.drewN nq).cell? ⟨w.heap.size, 5, none⟩ = some (.int .i64 ii) := x5
            have y0 : (wr.drewN nq).cell? (sd.add i) = some (.string y) := y0
            have z0 : (wr.drewN nq).cell? (md.add i) = some (.int .i64 (cc : Int)) := z0
            generalize wr.drewN nq = U at *
            have LSr := Lib.hid (fun dq os => Calls.regrown_of (HLS.out (Go.Sort.grow (redrawn U dq) os) (Nm.Nb HBD.out (below_regrown U dq os)) (Nm.Nb HWD.out (below_regrown U dq os))))
            have X0 := fun dq os => cell_regrown x0 dq os
            have X1 := fun dq os => cell_regrown x1 dq os
            have X2 := fun dq os => cell_regrown x2 dq os
            have X3 := fun dq os => cell_regrown x3 dq os
            have X4 := fun dq os => cell_regrown x4 dq os
            have X5 := fun dq os => cell_regrown x5 dq os
            have Y0 := fun dq os => cell_regrown y0 dq os
            have Z0 := fun dq os => cell_regrown z0 dq os
            clear HLS x0 x1 x2 x3 x4 x5 y0 z0
            refine wp_region_quiet_below (by kernel_rfl) (by kernel_rfl) ?_
            repeat (quiet_step (first | (go_at_call 31; exact LSr.out _ _) | fail))
            refine wpQuiet_nil ?_
            intro _ hw'
            obtain ⟨⟨dq, osq⟩, hw''⟩ := hw'
            subst hw''
            go_wp2
            exact ⟨⟨i + 1, by omega, by go_num, Lib.hid (Nm.Nb HWD.out (below_regrown U dq osq))⟩, by simp [intOf]; omega⟩
          · have hd20 : decide ((i : Int) < 20) = false := decide_eq_false h20
            go_wp2
            go_quiet (fail)
            go_wp2
            clear HLS x0 x1 x2 x3 x4 x5 y0 z0
            go_quiet (fail)
            go_wp2
            exact ⟨⟨i + 1, by omega, by go_num, Lib.hid (Nm.drewB HW.out _)⟩, by simp [intOf]; omega⟩
      · obtain rfl : i = n2 := by omega
        go_wp2
        go_ret
        exact ⟨rfl, HBW.out⟩
  · obtain ⟨rfl, rfl⟩ := hg2.two
    obtain rfl : n2 = 0 := HM.out.1.symm
    go_wp2
    go_ret
    exact ⟨rfl, HV.out⟩
end Go.Proofs.YtkddpealobeleaaGreatDoor
