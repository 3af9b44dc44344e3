/- Layer 10: RewriteMore: the walk. -/
import Derived.Test.YtkddpealobeleaaGreatDoorRwOw
set_option linter.unusedSimpArgs false
set_option linter.unusedVariables false
namespace Go.Proofs.YtkddpealobeleaaGreatDoor
open Go.RowKit Go.Shelf
set_option maxRecDepth 100000
set_option maxHeartbeats 4000000
theorem Rw.more_walk (t : Rw.TV) (k : Int) (x : ByteArray) (most : Int) (more : Int) (w : World) (hp : Rw.Pa w.heap.size w) (hi : t.In w) (wk : (Lit.int .i64 k).wf = true) (wx : x.size ≤ maxLen) (wm : (Lit.int .i64 most).wf = true) (wq : (Lit.int .u8 more).wf = true) :
    Calls Tryz.prog 7 #[t.val, .int .i64 k, .string x, .int .i64 most, .int .u8 more] w fun e w' => e = .returned (.bool true) ∧ Below w.heap.size w w' := by
  obtain ⟨hq0, hq1⟩ : 0 ≤ more ∧ more ≤ 255 := by simpa [Lit.wf, IntKind.min, IntKind.max, IntKind.signed, IntKind.bits] using wq
  obtain ⟨A, a, B, b, C, c, R, D, E, d, o, i⟩ := t
  obtain ⟨t, ht⟩ : ∃ t : Rw.TV, (⟨A, a, B, b, C, c, R, D, E, d, o, i⟩ : Rw.TV) = t := ⟨_, rfl⟩
  have hv : t.val = .agg #[.slice A R.length a, .slice B D.length b, .slice C E.length c, .int .i64 d, .int .i64 o, .int .i64 i] := by rw [← ht]; rfl
  rw [ht] at hi ⊢
  rw [hv]
  have HTE := Lib.hid ht
  have HIN := Lib.hid (fun v (g : Below w.heap.size w v) => hi.bt g)
  have HP := Lib.hid (fun v (g : Below w.heap.size w v) => hp.bt g)
  have C0 := Lib.hid (fun v (g : Below w.heap.size w v) => Rw.head_any v (hp.bt g))
  obtain ⟨fw, hfw⟩ : ∃ fw, Rw.few t = fw := ⟨_, rfl⟩
  have CF := Lib.hid (fun v (g : Below w.heap.size w v) => Rw.few_any t v (hi.bt g))
  obtain ⟨ok, hok⟩ : ∃ ok, Rw.okT t = ok := ⟨_, rfl⟩
  have CV := Lib.hid (fun v (g : Below w.heap.size w v) => Rw.validT_any t v (hi.bt g) (hp.bt g).tb)
  rw [hv, hfw] at CF
  rw [hv, hok] at CV
  have HFW := Lib.hid hfw
  have HOK := Lib.hid hok
  have C1 := Lib.hid (fun v (g : Below w.heap.size w v) => Rw.forms_gi t k x most v (hi.bt g) (hp.bt g).tb wx)
  have C2 := Lib.hid (fun v (g : Below w.heap.size w v) (b : Int) => Rw.forms_gi t k x b v (hi.bt g) (hp.bt g).tb wx)
  rw [hv] at C1 C2
  clear wx wm wk wq
  have hbV := Nm.al w (.cells #[.slice A R.length a, .slice B D.length b, .slice C E.length c, .int .i64 d, .int .i64 o, .int .i64 i] 25)
  have BX : Hid (Rw.Bx (w.alloc (.cells #[.slice A R.length a, .slice B D.length b, .slice C E.length c, .int .i64 d, .int .i64 o, .int .i64 i] 25)) w.heap.size #[.slice A R.length a, .slice B D.length b, .slice C E.length c, .int .i64 d, .int .i64 o, .int .i64 i] 25) := Lib.hid (heap_alloc_new _ _)
  have HV := Lib.hid hbV
  clear hbV hfw hok hi hp ht hv
  have x0 : (w.alloc (.cells #[.slice A R.length a, .slice B D.length b, .slice C E.length c, .int .i64 d, .int .i64 o, .int .i64 i] 25)).cell? ⟨w.heap.size, 0, none⟩ = some (.slice A R.length a) := BX.out.c 0 _ rfl
  have x1 : (w.alloc (.cells #[.slice A R.length a, .slice B D.length b, .slice C E.length c, .int .i64 d, .int .i64 o, .int .i64 i] 25)).cell? ⟨w.heap.size, 1, none⟩ = some (.slice B D.length b) := BX.out.c 1 _ rfl
  have x2 : (w.alloc (.cells #[.slice A R.length a, .slice B D.length b, .slice C E.length c, .int .i64 d, .int .i64 o, .int .i64 i] 25)).cell? ⟨w.heap.size, 2, none⟩ = some (.slice C E.length c) := BX.out.c 2 _ rfl
  have x3 : (w.alloc (.cells #[.slice A R.length a, .slice B D.length b, .slice C E.length c, .int .i64 d, .int .i64 o, .int .i64 i] 25)).cell? ⟨w.heap.size, 3, none⟩ = some (.int .i64 d) := BX.out.c 3 _ rfl
  have x4 : (w.alloc (.cells #[.slice A R.length a, .slice B D.length b, .slice C E.length c, .int .i64 d, .int .i64 o, .int .i64 i] 25)).cell? ⟨w.heap.size, 4, none⟩ = some (.int .i64 o) := BX.out.c 4 _ rfl
  have x5 : (w.alloc (.cells #[.slice A R.length a, .slice B D.length b, .slice C E.length c, .int .i64 d, .int .i64 o, .int .i64 i] 25)).cell? ⟨w.heap.size, 5, none⟩ = some (.int .i64 i) := BX.out.c 5 _ rfl
  go_enter Tryz.func7, Tryz.ntmps7
  go_wp2_with fail
  refine (C0.out _ HV.out).mono ?_
  rintro e w1 ⟨rfl, g⟩
  have HV' := Lib.hid (Nm.Nb HV.out g)
  have BX' := Lib.hid (BX.out.bt g)
  clear HV BX x0 x1 x2 x3 x4 x5
  have HV := HV'
  have BX := BX'
  clear HV' BX'
  have x0 : w1.cell? ⟨w.heap.size, 0, none⟩ = some (.slice A R.length a) := BX.out.c 0 _ rfl
  have x1 : w1.cell? ⟨w.heap.size, 1, none⟩ = some (.slice B D.length b) := BX.out.c 1 _ rfl
  have x2 : w1.cell? ⟨w.heap.size, 2, none⟩ = some (.slice C E.length c) := BX.out.c 2 _ rfl
  have x3 : w1.cell? ⟨w.heap.size, 3, none⟩ = some (.int .i64 d) := BX.out.c 3 _ rfl
  have x4 : w1.cell? ⟨w.heap.size, 4, none⟩ = some (.int .i64 o) := BX.out.c 4 _ rfl
  have x5 : w1.cell? ⟨w.heap.size, 5, none⟩ = some (.int .i64 i) := BX.out.c 5 _ rfl
  clear g C0
  go_wp2_with fail
  refine (CF.out _ HV.out).mono ?_
  rintro e w2 ⟨rfl, g⟩
  have HV' := Lib.hid (Nm.Nb HV.out g)
  have BX' := Lib.hid (BX.out.bt g)
  clear HV BX x0 x1 x2 x3 x4 x5
  have HV := HV'
  have BX := BX'
  clear HV' BX'
  have x0 : w2.cell? ⟨w.heap.size, 0, none⟩ = some (.slice A R.length a) := BX.out.c 0 _ rfl
  have x1 : w2.cell? ⟨w.heap.size, 1, none⟩ = some (.slice B D.length b) := BX.out.c 1 _ rfl
  have x2 : w2.cell? ⟨w.heap.size, 2, none⟩ = some (.slice C E.length c) := BX.out.c 2 _ rfl
  have x3 : w2.cell? ⟨w.heap.size, 3, none⟩ = some (.int .i64 d) := BX.out.c 3 _ rfl
  have x4 : w2.cell? ⟨w.heap.size, 4, none⟩ = some (.int .i64 o) := BX.out.c 4 _ rfl
  have x5 : w2.cell? ⟨w.heap.size, 5, none⟩ = some (.int .i64 i) := BX.out.c 5 _ rfl
  clear g CF
  cases fw with
  | false =>
    go_wp2
    go_ret
    exact ⟨rfl, HV.out⟩
  | true =>
  by_cases h60 : 60 < x.size
  · have h60i : (60 : Int) < (x.size : Int) := by omega
    go_wp2
    go_ret
    exact ⟨rfl, HV.out⟩
  have h60i : ¬ (60 : Int) < (x.size : Int) := by omega
  clear h60
  go_wp2_with fail
  refine (CV.out _ HV.out).mono ?_
  rintro e w3 ⟨rfl, g⟩
  have HV' := Lib.hid (Nm.Nb HV.out g)
  have BX' := Lib.hid (BX.out.bt g)
  clear HV BX x0 x1 x2 x3 x4 x5
  have HV := HV'
  have BX := BX'
  clear HV' BX'
  have x0 : w3.cell? ⟨w.heap.size, 0, none⟩ = some (.slice A R.length a) := BX.out.c 0 _ rfl
  have x1 : w3.cell? ⟨w.heap.size, 1, none⟩ = some (.slice B D.length b) := BX.out.c 1 _ rfl
  have x2 : w3.cell? ⟨w.heap.size, 2, none⟩ = some (.slice C E.length c) := BX.out.c 2 _ rfl
  have x3 : w3.cell? ⟨w.heap.size, 3, none⟩ = some (.int .i64 d) := BX.out.c 3 _ rfl
  have x4 : w3.cell? ⟨w.heap.size, 4, none⟩ = some (.int .i64 o) := BX.out.c 4 _ rfl
  have x5 : w3.cell? ⟨w.heap.size, 5, none⟩ = some (.int .i64 i) := BX.out.c 5 _ rfl
  clear g CV
  cases ok with
  | false =>
    go_wp2
    go_ret
    exact ⟨rfl, HV.out⟩
  | true =>
  by_cases hmb : 100000 < most
  · go_wp2
    go_ret
    exact ⟨rfl, HV.out⟩
  go_wp2_with fail
  refine (C1.out _ HV.out).mono ?_
  rintro e w4 ⟨c1, ss, ms, A1, ca1, M1, cm1, n1, rfl, hg1, l1, l2, l3, s1, z1, g⟩
  have HV' := Lib.hid (Nm.Nb HV.out g)
  have BX' := Lib.hid (BX.out.bt g)
  clear HV BX x0 x1 x2 x3 x4 x5
  have HV := HV'
  have BX := BX'
  clear HV' BX'
  have x0 : w4.cell? ⟨w.heap.size, 0, none⟩ = some (.slice A R.length a) := BX.out.c 0 _ rfl
  have x1 : w4.cell? ⟨w.heap.size, 1, none⟩ = some (.slice B D.length b) := BX.out.c 1 _ rfl
  have x2 : w4.cell? ⟨w.heap.size, 2, none⟩ = some (.slice C E.length c) := BX.out.c 2 _ rfl
  have x3 : w4.cell? ⟨w.heap.size, 3, none⟩ = some (.int .i64 d) := BX.out.c 3 _ rfl
  have x4 : w4.cell? ⟨w.heap.size, 4, none⟩ = some (.int .i64 o) := BX.out.c 4 _ rfl
  have x5 : w4.cell? ⟨w.heap.size, 5, none⟩ = some (.int .i64 i) := BX.out.c 5 _ rfl
  clear g C1
  have S1 := Lib.hid s1
  have Z1 := Lib.hid z1
  have G1 := Lib.hid (And.intro hg1 (And.intro l1 (And.intro l2 l3)))
  clear hg1 l1 l2 l3 s1 z1
  rcases (by omega : most < -1000 ∨ most = -1000 ∨ -1000 < most) with hcs | rfl | hcs
  · have hw : IntKind.i64.wrap ((-1000 : Int) + more) = -1000 + more := by unfold IntKind.wrap; simp [IntKind.bits, IntKind.signed]; omega
    go_wp2_with fail
    refine (C2.out _ HV.out _).mono ?_
    rintro e w5 ⟨c2, ts, ns, A2, ca2, M2, cm2, n2, rfl, hg2, m1, m2, m3, s2, z2, g⟩
    have HV' := Lib.hid (Nm.Nb HV.out g)
    have BX' := Lib.hid (BX.out.bt g)
    have S1' := Lib.hid (Nm.sbt S1.out g)
    clear S1
    have S1 := S1'
    clear S1'
    have Z1' := Lib.hid (Rw.Zs.bt Z1.out g)
    clear Z1
    have Z1 := Z1'
    clear Z1'
    clear HV BX x0 x1 x2 x3 x4 x5
    have HV := HV'
    have BX := BX'
    clear HV' BX'
    have x0 : w5.cell? ⟨w.heap.size, 0, none⟩ = some (.slice A R.length a) := BX.out.c 0 _ rfl
    have x1 : w5.cell? ⟨w.heap.size, 1, none⟩ = some (.slice B D.length b) := BX.out.c 1 _ rfl
    have x2 : w5.cell? ⟨w.heap.size, 2, none⟩ = some (.slice C E.length c) := BX.out.c 2 _ rfl
    have x3 : w5.cell? ⟨w.heap.size, 3, none⟩ = some (.int .i64 d) := BX.out.c 3 _ rfl
    have x4 : w5.cell? ⟨w.heap.size, 4, none⟩ = some (.int .i64 o) := BX.out.c 4 _ rfl
    have x5 : w5.cell? ⟨w.heap.size, 5, none⟩ = some (.int .i64 i) := BX.out.c 5 _ rfl
    clear g C2
    have S2 := Lib.hid s2
    have Z2 := Lib.hid z2
    obtain ⟨h012, h1⟩ := G1.out.1.one12 hg2
    rcases h012 with rfl | rfl | rfl
    · obtain ⟨rfl, hss, hms, hneg⟩ := G1.out.1.cut hg2 (by omega)
      have HC := Lib.hid (And.intro hss (And.intro hms hneg))
      have G2 := Lib.hid (And.intro m1 (And.intro m2 m3))
      clear hss hms hneg hg2 m1 m2 m3 h1
      have hn1 : n1 ≤ 1000 := G1.out.2.2.2
      have hn2 : n2 ≤ 1000 := G2.out.2.2
      have hbad : most < 0 → n1 = 0 := fun h => by rw [← G1.out.2.1, HC.out.2.2 h]; rfl
      by_cases hng : most < 0
      · obtain rfl := hbad hng
        clear hbad
        go_wp2
        generalize hWR : w5 = V at *
        clear hWR
        go_loopw [18, 19, 20] (fun s18 s19 s20 wr => ∃ (i : Nat) (uc uk : Value), i ≤ n2 ∧ s18 = uc ∧ s19 = uk ∧ s20 = .int .i64 (i : Int) ∧ Hid (Rw.OwnK Rw.KT wr V.heap.size uc ((Rw.cut ts ns most i).map (·.1))) ∧ Hid (Rw.OwnK Rw.KI wr V.heap.size uk ((Rw.cut ts ns most i).map (·.2))) ∧ Hid (Rw.Ap uc uk) ∧ Hid (Below V.heap.size V wr)) (fun _ _ s20 _ => n2 - (intOf s20).toNat)
        case atStart => exact ⟨0, _, _, by omega, rfl, rfl, rfl, Lib.hid (Rw.OwnK.nil _ _), Lib.hid (Rw.OwnK.nil _ _), Lib.hid (Rw.Ap.nil _), Lib.hid (Below.refl _ _)⟩
        case round =>
          obtain ⟨i, uc, uk, hi, rfl, rfl, rfl, HO1, HO2, HA, HW⟩ := hrel
          by_cases hlt : i < n2
          · have hi1 : i < ts.length := by have := G2.out.1; omega
            have hi2 : i < ns.length := by have := G2.out.2.1; omega
            have hst := Rw.cut_step (most := most) hi1 hi2
            have hln := Rw.cut_len ts ns most i
            obtain ⟨ad, rfl, had, hx0⟩ := S2.out i hi1
            obtain ⟨md, rfl, hmd, hp0⟩ := Z2.out i hi2
            have hx := (HW.out.cell (p := ad.add i) (by rw [add_block]; exact had)).trans hx0
            have hp := (HW.out.cell (p := md.add i) (by rw [add_block]; exact hmd)).trans hp0
            clear hx0 hp0
            obtain ⟨p, hpp⟩ : ∃ p, ts.getD i ByteArray.empty = p := ⟨_, rfl⟩
            obtain ⟨q, hqq⟩ : ∃ q, ns[i] = q := ⟨_, rfl⟩
            rw [hpp] at hx hst
            rw [hqq] at hp hst
            clear hpp hqq hi1 hi2
            by_cases hle : q ≤ most
            · rw [if_pos hle] at hst
              have HST := Lib.hid hst
              have g1 := Nm.al wr (.cells #[.string p] 9)
              have HO1' := Lib.hid (HO1.out.bt g1)
              have HO2' := Lib.hid (HO2.out.bt g1)
              have HN1 : Hid ((wr.alloc (.cells #[.string p] 9)).heap[wr.heap.size]? = some (.cells (Rw.KT.cs p).toArray 9 (0, 0))) := Lib.hid (heap_alloc_new _ _)
              have HB1 := Lib.hid (HW.out.trans (g1.mono HW.out.size))
              have HLN : Hid (((Rw.cut ts ns most i).map (·.1)).length ≤ 1000000 ∧ ((Rw.cut ts ns most i).map (·.2)).length ≤ 1000000) := Lib.hid ⟨by rw [List.length_map]; omega, by rw [List.length_map]; omega⟩
              have hp1 : (wr.alloc (.cells #[.string p] 9)).cell? (md.add i) = some (.int .i64 q) := (g1.cell (by rw [add_block]; exact Nat.lt_of_lt_of_le hmd HW.out.size)).trans hp
              have HMD := Lib.hid (show (md.add i).block < V.heap.size by rw [add_block]; exact hmd)
              clear hst hln g1 HO1 HO2
              go_wp2_with (first
                | (at_builtin
                   refine Rw.list_appendA Rw.okKT rfl (.tmp 103) (.tmp 108) rfl V.heap.size _ _ rfl HO1'.out wr.heap.size rfl p _ HN1.out HLN.out.1 HB1.out.size ?_
                   intro v2 w2 o2 g2 k2
                   have hp2 : w2.cell? (md.add i) = some (.int .i64 q) := (g2.cell HMD.out).trans hp1
                   obtain ⟨k3, k4⟩ := k2 _ _ _ _ _ HO2'.out HA.out.symm
                   have g3 := Nm.al w2 (.cells #[.int .i64 q] 3)
                   have HO3 := Lib.hid (Rw.OwnK.bt o2 g3)
                   have HO4 := Lib.hid (k3.bt g3)
                   have HAP := Lib.hid k4.symm
                   have HN2 : Hid ((w2.alloc (.cells #[.int .i64 q] 3)).heap[w2.heap.size]? = some (.cells (Rw.KI.cs q).toArray 3 (0, 0))) := Lib.hid (heap_alloc_new _ _)
                   have HB2 := Lib.hid ((HB1.out.trans g2).trans (g3.mono (HB1.out.trans g2).size))
                   clear o2 g2 k2 k3 k4 g3 HO1' HO2' HA HN1 HB1)
                | (at_builtin
                   refine Rw.list_appendA Rw.okKI rfl (.tmp 110) (.tmp 115) rfl V.heap.size _ _ rfl HO4.out w2.heap.size rfl q _ HN2.out HLN.out.2 HB2.out.size ?_
                   intro v3 w3 o5 g5 k5
                   obtain ⟨k6, k7⟩ := k5 _ _ _ _ _ HO3.out HAP.out
                   have HO5 := Lib.hid o5
                   have HO6 := Lib.hid k6
                   have HA2 := Lib.hid k7
                   have HB5 := Lib.hid (HB2.out.trans g5)
                   clear o5 g5 k5 k6 k7 HO3 HO4 HAP HN2 HB2)
                | fail)
              exact ⟨⟨i + 1, _, _, by omega, rfl, rfl, by go_num, Lib.hid (by rw [HST.out, List.map_append]; exact HO6.out), Lib.hid (by rw [HST.out, List.map_append]; exact HO5.out), HA2, HB5⟩, by simp [intOf]; omega⟩
            · rw [if_neg hle, List.append_nil] at hst
              have HST := Lib.hid hst
              clear hst hln
              go_wp2
              exact ⟨⟨i + 1, _, _, by omega, rfl, rfl, by go_num, Lib.hid (by rw [HST.out]; exact HO1.out), Lib.hid (by rw [HST.out]; exact HO2.out), HA, HW⟩, by simp [intOf]; omega⟩
          · obtain rfl : i = n2 := by omega
            obtain ⟨A3, ca3, rfl, s3, _, _⟩ := HO1.out.strs
            obtain ⟨M3, cm3, rfl, z3, _, _⟩ := HO2.out.zs
            have e1 : (Rw.cut ts ns most i).map (·.1) = ss := by rw [HC.out.1, G2.out.1]
            have e2 : (Rw.cut ts ns most i).map (·.2) = ms := by rw [HC.out.2.1, G2.out.1]
            rw [e1] at s3
            rw [e2] at z3
            rw [e1, e2, G1.out.2.1, G1.out.2.2.1]
            have SF := Rw.sameForms_any A1 ca1 ss M1 cm1 ms A3 ca3 ss M3 cm3 ms 0 0 0 0 G1.out.2.1 G1.out.2.2.1 G1.out.2.1 G1.out.2.2.1 wr (Nm.sbt S1.out HW.out) (Rw.Zs.bt Z1.out HW.out) s3 z3 (by omega)
            rw [Rw.sameF_self ss ms (by rw [G1.out.2.1]; exact G1.out.2.2.1)] at SF
            have SF := Lib.hid SF
            have HVV := Lib.hid (Nm.Nb HV.out HW.out)
            clear s3 z3 e1 e2 HO1 HO2 x0 x1 x2 x3 x4 x5
            go_wp2_with fail
            refine SF.out.mono ?_
            rintro e w9 ⟨rfl, g9⟩
            go_wp2
            go_ret
            exact ⟨rfl, Nm.Nb HVV.out g9⟩
      · omega
    · obtain rfl := h1 rfl
      clear hg2 m1 m2 m3 h1
      go_wp2
      go_ret
      exact ⟨rfl, HV.out⟩
    · clear hg2 m1 m2 m3 h1
      go_wp2
      go_ret
      exact ⟨rfl, HV.out⟩
  · have hw : IntKind.i64.wrap ((-1000 : Int) + more) = -1000 + more := by unfold IntKind.wrap; simp [IntKind.bits, IntKind.signed]; omega
    go_wp2_with fail
    refine (C2.out _ HV.out _).mono ?_
    rintro e w5 ⟨c2, ts, ns, A2, ca2, M2, cm2, n2, rfl, hg2, m1, m2, m3, s2, z2, g⟩
    have HV' := Lib.hid (Nm.Nb HV.out g)
    have BX' := Lib.hid (BX.out.bt g)
    have S1' := Lib.hid (Nm.sbt S1.out g)
    clear S1
    have S1 := S1'
    clear S1'
    have Z1' := Lib.hid (Rw.Zs.bt Z1.out g)
    clear Z1
    have Z1 := Z1'
    clear Z1'
    clear HV BX x0 x1 x2 x3 x4 x5
    have HV := HV'
    have BX := BX'
    clear HV' BX'
    have x0 : w5.cell? ⟨w.heap.size, 0, none⟩ = some (.slice A R.length a) := BX.out.c 0 _ rfl
    have x1 : w5.cell? ⟨w.heap.size, 1, none⟩ = some (.slice B D.length b) := BX.out.c 1 _ rfl
    have x2 : w5.cell? ⟨w.heap.size, 2, none⟩ = some (.slice C E.length c) := BX.out.c 2 _ rfl
    have x3 : w5.cell? ⟨w.heap.size, 3, none⟩ = some (.int .i64 d) := BX.out.c 3 _ rfl
    have x4 : w5.cell? ⟨w.heap.size, 4, none⟩ = some (.int .i64 o) := BX.out.c 4 _ rfl
    have x5 : w5.cell? ⟨w.heap.size, 5, none⟩ = some (.int .i64 i) := BX.out.c 5 _ rfl
    clear g C2
    have S2 := Lib.hid s2
    have Z2 := Lib.hid z2
    obtain ⟨h012, h1⟩ := G1.out.1.one12 hg2
    rcases h012 with rfl | rfl | rfl
    · obtain ⟨rfl, hss, hms, hneg⟩ := G1.out.1.cut hg2 (by omega)
      have HC := Lib.hid (And.intro hss (And.intro hms hneg))
      have G2 := Lib.hid (And.intro m1 (And.intro m2 m3))
      clear hss hms hneg hg2 m1 m2 m3 h1
      have hn1 : n1 ≤ 1000 := G1.out.2.2.2
      have hn2 : n2 ≤ 1000 := G2.out.2.2
      have hbad : (-1000) < 0 → n1 = 0 := fun h => by rw [← G1.out.2.1, HC.out.2.2 h]; rfl
      by_cases hng : (-1000) < 0
      · obtain rfl := hbad hng
        clear hbad
        go_wp2
        generalize hWR : w5 = V at *
        clear hWR
        go_loopw [18, 19, 20] (fun s18 s19 s20 wr => ∃ (i : Nat) (uc uk : Value), i ≤ n2 ∧ s18 = uc ∧ s19 = uk ∧ s20 = .int .i64 (i : Int) ∧ Hid (Rw.OwnK Rw.KT wr V.heap.size uc ((Rw.cut ts ns (-1000) i).map (·.1))) ∧ Hid (Rw.OwnK Rw.KI wr V.heap.size uk ((Rw.cut ts ns (-1000) i).map (·.2))) ∧ Hid (Rw.Ap uc uk) ∧ Hid (Below V.heap.size V wr)) (fun _ _ s20 _ => n2 - (intOf s20).toNat)
        case atStart => exact ⟨0, _, _, by omega, rfl, rfl, rfl, Lib.hid (Rw.OwnK.nil _ _), Lib.hid (Rw.OwnK.nil _ _), Lib.hid (Rw.Ap.nil _), Lib.hid (Below.refl _ _)⟩
        case round =>
          obtain ⟨i, uc, uk, hi, rfl, rfl, rfl, HO1, HO2, HA, HW⟩ := hrel
          by_cases hlt : i < n2
          · have hi1 : i < ts.length := by have := G2.out.1; omega
            have hi2 : i < ns.length := by have := G2.out.2.1; omega
            have hst := Rw.cut_step (most := (-1000)) hi1 hi2
            have hln := Rw.cut_len ts ns (-1000) i
            obtain ⟨ad, rfl, had, hx0⟩ := S2.out i hi1
            obtain ⟨md, rfl, hmd, hp0⟩ := Z2.out i hi2
            have hx := (HW.out.cell (p := ad.add i) (by rw [add_block]; exact had)).trans hx0
            have hp := (HW.out.cell (p := md.add i) (by rw [add_block]; exact hmd)).trans hp0
            clear hx0 hp0
            obtain ⟨p, hpp⟩ : ∃ p, ts.getD i ByteArray.empty = p := ⟨_, rfl⟩
            obtain ⟨q, hqq⟩ : ∃ q, ns[i] = q := ⟨_, rfl⟩
            rw [hpp] at hx hst
            rw [hqq] at hp hst
            clear hpp hqq hi1 hi2
            by_cases hle : q ≤ (-1000)
            · rw [if_pos hle] at hst
              have HST := Lib.hid hst
              have g1 := Nm.al wr (.cells #[.string p] 9)
              have HO1' := Lib.hid (HO1.out.bt g1)
              have HO2' := Lib.hid (HO2.out.bt g1)
              have HN1 : Hid ((wr.alloc (.cells #[.string p] 9)).heap[wr.heap.size]? = some (.cells (Rw.KT.cs p).toArray 9 (0, 0))) := Lib.hid (heap_alloc_new _ _)
              have HB1 := Lib.hid (HW.out.trans (g1.mono HW.out.size))
              have HLN : Hid (((Rw.cut ts ns (-1000) i).map (·.1)).length ≤ 1000000 ∧ ((Rw.cut ts ns (-1000) i).map (·.2)).length ≤ 1000000) := Lib.hid ⟨by rw [List.length_map]; omega, by rw [List.length_map]; omega⟩
              have hp1 : (wr.alloc (.cells #[.string p] 9)).cell? (md.add i) = some (.int .i64 q) := (g1.cell (by rw [add_block]; exact Nat.lt_of_lt_of_le hmd HW.out.size)).trans hp
              have HMD := Lib.hid (show (md.add i).block < V.heap.size by rw [add_block]; exact hmd)
              clear hst hln g1 HO1 HO2
              go_wp2_with (first
                | (at_builtin
                   refine Rw.list_appendA Rw.okKT rfl (.tmp 103) (.tmp 108) rfl V.heap.size _ _ rfl HO1'.out wr.heap.size rfl p _ HN1.out HLN.out.1 HB1.out.size ?_
                   intro v2 w2 o2 g2 k2
                   have hp2 : w2.cell? (md.add i) = some (.int .i64 q) := (g2.cell HMD.out).trans hp1
                   obtain ⟨k3, k4⟩ := k2 _ _ _ _ _ HO2'.out HA.out.symm
                   have g3 := Nm.al w2 (.cells #[.int .i64 q] 3)
                   have HO3 := Lib.hid (Rw.OwnK.bt o2 g3)
                   have HO4 := Lib.hid (k3.bt g3)
                   have HAP := Lib.hid k4.symm
                   have HN2 : Hid ((w2.alloc (.cells #[.int .i64 q] 3)).heap[w2.heap.size]? = some (.cells (Rw.KI.cs q).toArray 3 (0, 0))) := Lib.hid (heap_alloc_new _ _)
                   have HB2 := Lib.hid ((HB1.out.trans g2).trans (g3.mono (HB1.out.trans g2).size))
                   clear o2 g2 k2 k3 k4 g3 HO1' HO2' HA HN1 HB1)
                | (at_builtin
                   refine Rw.list_appendA Rw.okKI rfl (.tmp 110) (.tmp 115) rfl V.heap.size _ _ rfl HO4.out w2.heap.size rfl q _ HN2.out HLN.out.2 HB2.out.size ?_
                   intro v3 w3 o5 g5 k5
                   obtain ⟨k6, k7⟩ := k5 _ _ _ _ _ HO3.out HAP.out
                   have HO5 := Lib.hid o5
                   have HO6 := Lib.hid k6
                   have HA2 := Lib.hid k7
                   have HB5 := Lib.hid (HB2.out.trans g5)
                   clear o5 g5 k5 k6 k7 HO3 HO4 HAP HN2 HB2)
                | fail)
              exact ⟨⟨i + 1, _, _, by omega, rfl, rfl, by go_num, Lib.hid (by rw [HST.out, List.map_append]; exact HO6.out), Lib.hid (by rw [HST.out, List.map_append]; exact HO5.out), HA2, HB5⟩, by simp [intOf]; omega⟩
            · rw [if_neg hle, List.append_nil] at hst
              have HST := Lib.hid hst
              clear hst hln
              go_wp2
              exact ⟨⟨i + 1, _, _, by omega, rfl, rfl, by go_num, Lib.hid (by rw [HST.out]; exact HO1.out), Lib.hid (by rw [HST.out]; exact HO2.out), HA, HW⟩, by simp [intOf]; omega⟩
          · obtain rfl : i = n2 := by omega
            obtain ⟨A3, ca3, rfl, s3, _, _⟩ := HO1.out.strs
            obtain ⟨M3, cm3, rfl, z3, _, _⟩ := HO2.out.zs
            have e1 : (Rw.cut ts ns (-1000) i).map (·.1) = ss := by rw [HC.out.1, G2.out.1]
            have e2 : (Rw.cut ts ns (-1000) i).map (·.2) = ms := by rw [HC.out.2.1, G2.out.1]
            rw [e1] at s3
            rw [e2] at z3
            rw [e1, e2, G1.out.2.1, G1.out.2.2.1]
            have SF := Rw.sameForms_any A1 ca1 ss M1 cm1 ms A3 ca3 ss M3 cm3 ms 0 0 0 0 G1.out.2.1 G1.out.2.2.1 G1.out.2.1 G1.out.2.2.1 wr (Nm.sbt S1.out HW.out) (Rw.Zs.bt Z1.out HW.out) s3 z3 (by omega)
            rw [Rw.sameF_self ss ms (by rw [G1.out.2.1]; exact G1.out.2.2.1)] at SF
            have SF := Lib.hid SF
            have HVV := Lib.hid (Nm.Nb HV.out HW.out)
            clear s3 z3 e1 e2 HO1 HO2 x0 x1 x2 x3 x4 x5
            go_wp2_with fail
            refine SF.out.mono ?_
            rintro e w9 ⟨rfl, g9⟩
            go_wp2
            go_ret
            exact ⟨rfl, Nm.Nb HVV.out g9⟩
      · omega
    · obtain rfl := h1 rfl
      clear hg2 m1 m2 m3 h1
      go_wp2
      go_ret
      exact ⟨rfl, HV.out⟩
    · clear hg2 m1 m2 m3 h1
      go_wp2
      go_ret
      exact ⟨rfl, HV.out⟩
  · have hw : IntKind.i64.wrap (most + more) = most + more := by unfold IntKind.wrap; simp [IntKind.bits, IntKind.signed]; omega
    go_wp2_with fail
    refine (C2.out _ HV.out _).mono ?_
    rintro e w5 ⟨c2, ts, ns, A2, ca2, M2, cm2, n2, rfl, hg2, m1, m2, m3, s2, z2, g⟩
    have HV' := Lib.hid (Nm.Nb HV.out g)
    have BX' := Lib.hid (BX.out.bt g)
    have S1' := Lib.hid (Nm.sbt S1.out g)
    clear S1
    have S1 := S1'
    clear S1'
    have Z1' := Lib.hid (Rw.Zs.bt Z1.out g)
    clear Z1
    have Z1 := Z1'
    clear Z1'
    clear HV BX x0 x1 x2 x3 x4 x5
    have HV := HV'
    have BX := BX'
    clear HV' BX'
    have x0 : w5.cell? ⟨w.heap.size, 0, none⟩ = some (.slice A R.length a) := BX.out.c 0 _ rfl
    have x1 : w5.cell? ⟨w.heap.size, 1, none⟩ = some (.slice B D.length b) := BX.out.c 1 _ rfl
    have x2 : w5.cell? ⟨w.heap.size, 2, none⟩ = some (.slice C E.length c) := BX.out.c 2 _ rfl
    have x3 : w5.cell? ⟨w.heap.size, 3, none⟩ = some (.int .i64 d) := BX.out.c 3 _ rfl
    have x4 : w5.cell? ⟨w.heap.size, 4, none⟩ = some (.int .i64 o) := BX.out.c 4 _ rfl
    have x5 : w5.cell? ⟨w.heap.size, 5, none⟩ = some (.int .i64 i) := BX.out.c 5 _ rfl
    clear g C2
    have S2 := Lib.hid s2
    have Z2 := Lib.hid z2
    obtain ⟨h012, h1⟩ := G1.out.1.one12 hg2
    rcases h012 with rfl | rfl | rfl
    · obtain ⟨rfl, hss, hms, hneg⟩ := G1.out.1.cut hg2 (by omega)
      have HC := Lib.hid (And.intro hss (And.intro hms hneg))
      have G2 := Lib.hid (And.intro m1 (And.intro m2 m3))
      clear hss hms hneg hg2 m1 m2 m3 h1
      have hn1 : n1 ≤ 1000 := G1.out.2.2.2
      have hn2 : n2 ≤ 1000 := G2.out.2.2
      have hbad : most < 0 → n1 = 0 := fun h => by rw [← G1.out.2.1, HC.out.2.2 h]; rfl
      by_cases hng : most < 0
      · obtain rfl := hbad hng
        clear hbad
        go_wp2
        generalize hWR : w5 = V at *
        clear hWR
        go_loopw [18, 19, 20] (fun s18 s19 s20 wr => ∃ (i : Nat) (uc uk : Value), i ≤ n2 ∧ s18 = uc ∧ s19 = uk ∧ s20 = .int .i64 (i : Int) ∧ Hid (Rw.OwnK Rw.KT wr V.heap.size uc ((Rw.cut ts ns most i).map (·.1))) ∧ Hid (Rw.OwnK Rw.KI wr V.heap.size uk ((Rw.cut ts ns most i).map (·.2))) ∧ Hid (Rw.Ap uc uk) ∧ Hid (Below V.heap.size V wr)) (fun _ _ s20 _ => n2 - (intOf s20).toNat)
        case atStart => exact ⟨0, _, _, by omega, rfl, rfl, rfl, Lib.hid (Rw.OwnK.nil _ _), Lib.hid (Rw.OwnK.nil _ _), Lib.hid (Rw.Ap.nil _), Lib.hid (Below.refl _ _)⟩
        case round =>
          obtain ⟨i, uc, uk, hi, rfl, rfl, rfl, HO1, HO2, HA, HW⟩ := hrel
          by_cases hlt : i < n2
          · have hi1 : i < ts.length := by have := G2.out.1; omega
            have hi2 : i < ns.length := by have := G2.out.2.1; omega
            have hst := Rw.cut_step (most := most) hi1 hi2
            have hln := Rw.cut_len ts ns most i
            obtain ⟨ad, rfl, had, hx0⟩ := S2.out i hi1
            obtain ⟨md, rfl, hmd, hp0⟩ := Z2.out i hi2
            have hx := (HW.out.cell (p := ad.add i) (by rw [add_block]; exact had)).trans hx0
            have hp := (HW.out.cell (p := md.add i) (by rw [add_block]; exact hmd)).trans hp0
            clear hx0 hp0
            obtain ⟨p, hpp⟩ : ∃ p, ts.getD i ByteArray.empty = p := ⟨_, rfl⟩
            obtain ⟨q, hqq⟩ : ∃ q, ns[i] = q := ⟨_, rfl⟩
            rw [hpp] at hx hst
            rw [hqq] at hp hst
            clear hpp hqq hi1 hi2
            by_cases hle : q ≤ most
            · rw [if_pos hle] at hst
              have HST := Lib.hid hst
              have g1 := Nm.al wr (.cells #[.string p] 9)
              have HO1' := Lib.hid (HO1.out.bt g1)
              have HO2' := Lib.hid (HO2.out.bt g1)
              have HN1 : Hid ((wr.alloc (.cells #[.string p] 9)).heap[wr.heap.size]? = some (.cells (Rw.KT.cs p).toArray 9 (0, 0))) := Lib.hid (heap_alloc_new _ _)
              have HB1 := Lib.hid (HW.out.trans (g1.mono HW.out.size))
              have HLN : Hid (((Rw.cut ts ns most i).map (·.1)).length ≤ 1000000 ∧ ((Rw.cut ts ns most i).map (·.2)).length ≤ 1000000) := Lib.hid ⟨by rw [List.length_map]; omega, by rw [List.length_map]; omega⟩
              have hp1 : (wr.alloc (.cells #[.string p] 9)).cell? (md.add i) = some (.int .i64 q) := (g1.cell (by rw [add_block]; exact Nat.lt_of_lt_of_le hmd HW.out.size)).trans hp
              have HMD := Lib.hid (show (md.add i).block < V.heap.size by rw [add_block]; exact hmd)
              clear hst hln g1 HO1 HO2
              go_wp2_with (first
                | (at_builtin
                   refine Rw.list_appendA Rw.okKT rfl (.tmp 103) (.tmp 108) rfl V.heap.size _ _ rfl HO1'.out wr.heap.size rfl p _ HN1.out HLN.out.1 HB1.out.size ?_
                   intro v2 w2 o2 g2 k2
                   have hp2 : w2.cell? (md.add i) = some (.int .i64 q) := (g2.cell HMD.out).trans hp1
                   obtain ⟨k3, k4⟩ := k2 _ _ _ _ _ HO2'.out HA.out.symm
                   have g3 := Nm.al w2 (.cells #[.int .i64 q] 3)
                   have HO3 := Lib.hid (Rw.OwnK.bt o2 g3)
                   have HO4 := Lib.hid (k3.bt g3)
                   have HAP := Lib.hid k4.symm
                   have HN2 : Hid ((w2.alloc (.cells #[.int .i64 q] 3)).heap[w2.heap.size]? = some (.cells (Rw.KI.cs q).toArray 3 (0, 0))) := Lib.hid (heap_alloc_new _ _)
                   have HB2 := Lib.hid ((HB1.out.trans g2).trans (g3.mono (HB1.out.trans g2).size))
                   clear o2 g2 k2 k3 k4 g3 HO1' HO2' HA HN1 HB1)
                | (at_builtin
                   refine Rw.list_appendA Rw.okKI rfl (.tmp 110) (.tmp 115) rfl V.heap.size _ _ rfl HO4.out w2.heap.size rfl q _ HN2.out HLN.out.2 HB2.out.size ?_
                   intro v3 w3 o5 g5 k5
                   obtain ⟨k6, k7⟩ := k5 _ _ _ _ _ HO3.out HAP.out
                   have HO5 := Lib.hid o5
                   have HO6 := Lib.hid k6
                   have HA2 := Lib.hid k7
                   have HB5 := Lib.hid (HB2.out.trans g5)
                   clear o5 g5 k5 k6 k7 HO3 HO4 HAP HN2 HB2)
                | fail)
              exact ⟨⟨i + 1, _, _, by omega, rfl, rfl, by go_num, Lib.hid (by rw [HST.out, List.map_append]; exact HO6.out), Lib.hid (by rw [HST.out, List.map_append]; exact HO5.out), HA2, HB5⟩, by simp [intOf]; omega⟩
            · rw [if_neg hle, List.append_nil] at hst
              have HST := Lib.hid hst
              clear hst hln
              go_wp2
              exact ⟨⟨i + 1, _, _, by omega, rfl, rfl, by go_num, Lib.hid (by rw [HST.out]; exact HO1.out), Lib.hid (by rw [HST.out]; exact HO2.out), HA, HW⟩, by simp [intOf]; omega⟩
          · obtain rfl : i = n2 := by omega
            obtain ⟨A3, ca3, rfl, s3, _, _⟩ := HO1.out.strs
            obtain ⟨M3, cm3, rfl, z3, _, _⟩ := HO2.out.zs
            have e1 : (Rw.cut ts ns most i).map (·.1) = ss := by rw [HC.out.1, G2.out.1]
            have e2 : (Rw.cut ts ns most i).map (·.2) = ms := by rw [HC.out.2.1, G2.out.1]
            rw [e1] at s3
            rw [e2] at z3
            rw [e1, e2, G1.out.2.1, G1.out.2.2.1]
            have SF := Rw.sameForms_any A1 ca1 ss M1 cm1 ms A3 ca3 ss M3 cm3 ms 0 0 0 0 G1.out.2.1 G1.out.2.2.1 G1.out.2.1 G1.out.2.2.1 wr (Nm.sbt S1.out HW.out) (Rw.Zs.bt Z1.out HW.out) s3 z3 (by omega)
            rw [Rw.sameF_self ss ms (by rw [G1.out.2.1]; exact G1.out.2.2.1)] at SF
            have SF := Lib.hid SF
            have HVV := Lib.hid (Nm.Nb HV.out HW.out)
            clear s3 z3 e1 e2 HO1 HO2 x0 x1 x2 x3 x4 x5
            go_wp2_with fail
            refine SF.out.mono ?_
            rintro e w9 ⟨rfl, g9⟩
            go_wp2
            go_ret
            exact ⟨rfl, Nm.Nb HVV.out g9⟩
      · clear hbad
        go_wp2
        generalize hWR : w5 = V at *
        clear hWR
        go_loopw [18, 19, 20] (fun s18 s19 s20 wr => ∃ (i : Nat) (uc uk : Value), i ≤ n2 ∧ s18 = uc ∧ s19 = uk ∧ s20 = .int .i64 (i : Int) ∧ Hid (Rw.OwnK Rw.KT wr V.heap.size uc ((Rw.cut ts ns most i).map (·.1))) ∧ Hid (Rw.OwnK Rw.KI wr V.heap.size uk ((Rw.cut ts ns most i).map (·.2))) ∧ Hid (Rw.Ap uc uk) ∧ Hid (Below V.heap.size V wr)) (fun _ _ s20 _ => n2 - (intOf s20).toNat)
        case atStart => exact ⟨0, _, _, by omega, rfl, rfl, rfl, Lib.hid (Rw.OwnK.nil _ _), Lib.hid (Rw.OwnK.nil _ _), Lib.hid (Rw.Ap.nil _), Lib.hid (Below.refl _ _)⟩
        case round =>
          obtain ⟨i, uc, uk, hi, rfl, rfl, rfl, HO1, HO2, HA, HW⟩ := hrel
          by_cases hlt : i < n2
          · have hi1 : i < ts.length := by have := G2.out.1; omega
            have hi2 : i < ns.length := by have := G2.out.2.1; omega
            have hst := Rw.cut_step (most := most) hi1 hi2
            have hln := Rw.cut_len ts ns most i
            obtain ⟨ad, rfl, had, hx0⟩ := S2.out i hi1
            obtain ⟨md, rfl, hmd, hp0⟩ := Z2.out i hi2
            have hx := (HW.out.cell (p := ad.add i) (by rw [add_block]; exact had)).trans hx0
            have hp := (HW.out.cell (p := md.add i) (by rw [add_block]; exact hmd)).trans hp0
            clear hx0 hp0
            obtain ⟨p, hpp⟩ : ∃ p, ts.getD i ByteArray.empty = p := ⟨_, rfl⟩
            obtain ⟨q, hqq⟩ : ∃ q, ns[i] = q := ⟨_, rfl⟩
            rw [hpp] at hx hst
            rw [hqq] at hp hst
            clear hpp hqq hi1 hi2
            by_cases hle : q ≤ most
            · rw [if_pos hle] at hst
              have HST := Lib.hid hst
              have g1 := Nm.al wr (.cells #[.string p] 9)
              have HO1' := Lib.hid (HO1.out.bt g1)
              have HO2' := Lib.hid (HO2.out.bt g1)
              have HN1 : Hid ((wr.alloc (.cells #[.string p] 9)).heap[wr.heap.size]? = some (.cells (Rw.KT.cs p).toArray 9 (0, 0))) := Lib.hid (heap_alloc_new _ _)
              have HB1 := Lib.hid (HW.out.trans (g1.mono HW.out.size))
              have HLN : Hid (((Rw.cut ts ns most i).map (·.1)).length ≤ 1000000 ∧ ((Rw.cut ts ns most i).map (·.2)).length ≤ 1000000) := Lib.hid ⟨by rw [List.length_map]; omega, by rw [List.length_map]; omega⟩
              have hp1 : (wr.alloc (.cells #[.string p] 9)).cell? (md.add i) = some (.int .i64 q) := (g1.cell (by rw [add_block]; exact Nat.lt_of_lt_of_le hmd HW.out.size)).trans hp
              have HMD := Lib.hid (show (md.add i).block < V.heap.size by rw [add_block]; exact hmd)
              clear hst hln g1 HO1 HO2
              go_wp2_with (first
                | (at_builtin
                   refine Rw.list_appendA Rw.okKT rfl (.tmp 103) (.tmp 108) rfl V.heap.size _ _ rfl HO1'.out wr.heap.size rfl p _ HN1.out HLN.out.1 HB1.out.size ?_
                   intro v2 w2 o2 g2 k2
                   have hp2 : w2.cell? (md.add i) = some (.int .i64 q) := (g2.cell HMD.out).trans hp1
                   obtain ⟨k3, k4⟩ := k2 _ _ _ _ _ HO2'.out HA.out.symm
                   have g3 := Nm.al w2 (.cells #[.int .i64 q] 3)
                   have HO3 := Lib.hid (Rw.OwnK.bt o2 g3)
                   have HO4 := Lib.hid (k3.bt g3)
                   have HAP := Lib.hid k4.symm
                   have HN2 : Hid ((w2.alloc (.cells #[.int .i64 q] 3)).heap[w2.heap.size]? = some (.cells (Rw.KI.cs q).toArray 3 (0, 0))) := Lib.hid (heap_alloc_new _ _)
                   have HB2 := Lib.hid ((HB1.out.trans g2).trans (g3.mono (HB1.out.trans g2).size))
                   clear o2 g2 k2 k3 k4 g3 HO1' HO2' HA HN1 HB1)
                | (at_builtin
                   refine Rw.list_appendA Rw.okKI rfl (.tmp 110) (.tmp 115) rfl V.heap.size _ _ rfl HO4.out w2.heap.size rfl q _ HN2.out HLN.out.2 HB2.out.size ?_
                   intro v3 w3 o5 g5 k5
                   obtain ⟨k6, k7⟩ := k5 _ _ _ _ _ HO3.out HAP.out
                   have HO5 := Lib.hid o5
                   have HO6 := Lib.hid k6
                   have HA2 := Lib.hid k7
                   have HB5 := Lib.hid (HB2.out.trans g5)
                   clear o5 g5 k5 k6 k7 HO3 HO4 HAP HN2 HB2)
                | fail)
              exact ⟨⟨i + 1, _, _, by omega, rfl, rfl, by go_num, Lib.hid (by rw [HST.out, List.map_append]; exact HO6.out), Lib.hid (by rw [HST.out, List.map_append]; exact HO5.out), HA2, HB5⟩, by simp [intOf]; omega⟩
            · rw [if_neg hle, List.append_nil] at hst
              have HST := Lib.hid hst
              clear hst hln
              go_wp2
              exact ⟨⟨i + 1, _, _, by omega, rfl, rfl, by go_num, Lib.hid (by rw [HST.out]; exact HO1.out), Lib.hid (by rw [HST.out]; exact HO2.out), HA, HW⟩, by simp [intOf]; omega⟩
          · obtain rfl : i = n2 := by omega
            obtain ⟨A3, ca3, rfl, s3, _, _⟩ := HO1.out.strs
            obtain ⟨M3, cm3, rfl, z3, _, _⟩ := HO2.out.zs
            have e1 : (Rw.cut ts ns most i).map (·.1) = ss := by rw [HC.out.1, G2.out.1]
            have e2 : (Rw.cut ts ns most i).map (·.2) = ms := by rw [HC.out.2.1, G2.out.1]
            rw [e1] at s3
            rw [e2] at z3
            rw [e1, e2, G1.out.2.1, G1.out.2.2.1]
            have SF := Rw.sameForms_any A1 ca1 ss M1 cm1 ms A3 ca3 ss M3 cm3 ms n1 n1 n1 n1 G1.out.2.1 G1.out.2.2.1 G1.out.2.1 G1.out.2.2.1 wr (Nm.sbt S1.out HW.out) (Rw.Zs.bt Z1.out HW.out) s3 z3 (by omega)
            rw [Rw.sameF_self ss ms (by rw [G1.out.2.1]; exact G1.out.2.2.1)] at SF
            have SF := Lib.hid SF
            have HVV := Lib.hid (Nm.Nb HV.out HW.out)
            clear s3 z3 e1 e2 HO1 HO2 x0 x1 x2 x3 x4 x5
            go_wp2_with fail
            refine SF.out.mono ?_
            rintro e w9 ⟨rfl, g9⟩
            go_wp2
            go_ret
            exact ⟨rfl, Nm.Nb HVV.out g9⟩
    · obtain rfl := h1 rfl
      clear hg2 m1 m2 m3 h1
      go_wp2
      go_ret
      exact ⟨rfl, HV.out⟩
    · clear hg2 m1 m2 m3 h1
      go_wp2
      go_ret
      exact ⟨rfl, HV.out⟩
end Go.Proofs.YtkddpealobeleaaGreatDoor
