/- Layer 10: RewriteFinds: the walk. -/
import Derived.Test.YtkddpealobeleaaGreatDoorRwFi
set_option linter.unusedSimpArgs false
set_option linter.unusedVariables false
namespace Go.Proofs.YtkddpealobeleaaGreatDoor
open Go.RowKit Go.Shelf
set_option maxRecDepth 100000
set_option maxHeartbeats 4000000
theorem Rw.Gi.found {t : Rw.TV} {k : Int} {x : ByteArray} {most : Int} {ss : List ByteArray} {ms : List Int} {f : ByteArray} {sm : Nat} (h : Rw.Gi t k x most 0 ss ms) (hw : Rw.Wr (Rw.rus k t.R) (Rw.lts k x) f.data.toList sm) (hle : (sm : Int) ≤ most) :
    (∃ j, ∃ _ : j < ss.length, ss[j] = f) ∧ ∀ j (_ : j < ss.length) (_ : j < ms.length), ss[j] = f → ms[j] ≤ (sm : Int) := by
  rcases h with ⟨_, e, _⟩ | ⟨_, _, e, _⟩ | ⟨_, fs, ha, _, _, _, _, rfl, rfl⟩
  · omega
  · omega
  obtain ⟨d, hd, hm⟩ := ha.has hw hle
  refine ⟨?_, fun j h1 h2 hj => ?_⟩
  · obtain ⟨j, hj, he⟩ := List.getElem_of_mem hm
    refine ⟨j, by rw [List.length_map]; exact hj, ?_⟩
    rw [List.getElem_map, he]
    exact ByteArray.ext (Array.toList_inj.1 (by rw [Nm.bt_list]))
  · rw [List.length_map] at h1
    rw [List.getElem_map] at hj
    rw [List.getElem_map]
    have e : fs[j].1 = f.data.toList := by rw [← hj, Nm.bt_list]
    have hm2 : (f.data.toList, fs[j].2) ∈ fs := by rw [← e]; exact List.getElem_mem _
    have := ((ha.mem _ _).1 hm2).1.one ((ha.mem _ _).1 hm).1
    omega
theorem Rw.Gi.c12 {t : Rw.TV} {k : Int} {x : ByteArray} {most : Int} {c : Int} {ss : List ByteArray} {ms : List Int} (h : Rw.Gi t k x most c ss ms) (hL : Rw.isL t k x = true) : c = 0 ∨ c = 2 := by
  rcases h with ⟨e, _⟩ | ⟨_, _, e, _⟩ | ⟨_, _, _, _, _, _, e, _⟩
  · rw [hL] at e
    cases e
  · exact .inr e
  · exact .inl e
theorem Rw.finds_walk (t : Rw.TV) (k : Int) (x : ByteArray) (A5 : Option Addr) (c5 : Nat) (ch : List Int) (more : Int) (w : World) (hp : Rw.Pa w.heap.size w) (hi : t.In w) (wk : (Lit.int .i64 k).wf = true) (wx : x.size ≤ maxLen) (hz : Rw.Ys w w.heap.size A5 ch) (hk5 : ch.length ≤ c5) (hm5 : c5 ≤ maxLen) (wq : (Lit.int .u8 more).wf = true) :
    Calls Tryz.prog 5 #[t.val, .int .i64 k, .string x, .slice A5 ch.length c5, .int .u8 more] w fun e w' => e = .returned (.bool true) ∧ Below w.heap.size w w' := by
  obtain ⟨hq0, hq1⟩ : 0 ≤ more ∧ more ≤ 255 := by simpa [Lit.wf, IntKind.min, IntKind.max, IntKind.signed, IntKind.bits] using wq
  obtain ⟨nc, hnc⟩ : ∃ nc, ch.length = nc := ⟨_, rfl⟩
  rw [hnc] at hk5 ⊢
  have HNC := Lib.hid hnc
  have hncm : nc ≤ maxLen := by omega
  unfold maxLen at hncm
  have HZ := Lib.hid (fun v (g : Below w.heap.size w v) => hz.bt g)
  clear wq hnc hk5 hm5 hz
  obtain ⟨A, a, B, b, C, c, R, D, E, d, o, ii⟩ := t
  obtain ⟨t, ht⟩ : ∃ t : Rw.TV, (⟨A, a, B, b, C, c, R, D, E, d, o, ii⟩ : Rw.TV) = t := ⟨_, rfl⟩
  have hv : t.val = .agg #[.slice A R.length a, .slice B D.length b, .slice C E.length c, .int .i64 d, .int .i64 o, .int .i64 ii] := by rw [← ht]; rfl
  rw [ht] at hi ⊢
  rw [hv]
  have HTE := Lib.hid ht
  have HIN := Lib.hid (fun v (g : Below w.heap.size w v) => hi.bt g)
  have HP := Lib.hid (fun v (g : Below w.heap.size w v) => hp.bt g)
  have C0 := Lib.hid (fun v (g : Below w.heap.size w v) => Rw.head_any v (hp.bt g))
  obtain ⟨fw, hfw⟩ : ∃ fw, Rw.few t = fw := ⟨_, rfl⟩
  have CF := Lib.hid (fun v (g : Below w.heap.size w v) => Rw.few_any t v (hi.bt g))
  obtain ⟨ok, hok⟩ : ∃ ok, Rw.okT t = ok := ⟨_, rfl⟩
  have CV := Lib.hid (fun v (g : Below w.heap.size w v) => Rw.validT_any t v (hi.bt g) (hp.bt g).tb)
  rw [hv, hfw] at CF
  rw [hv, hok] at CV
  have HFW := Lib.hid hfw
  have HOK := Lib.hid hok
  have C1 := Lib.hid (fun v (g : Below w.heap.size w v) => Rw.letters_any k x v wx (hp.bt g).tb)
  have C3 := Lib.hid (fun v (g : Below w.heap.size w v) (b : Int) => Rw.forms_gi t k x b v (hi.bt g) (hp.bt g).tb wx)
  rw [hv] at C3
  clear wx wk
  have hbV := Nm.al w (.cells #[.slice A R.length a, .slice B D.length b, .slice C E.length c, .int .i64 d, .int .i64 o, .int .i64 ii] 25)
  have BX : Hid (Rw.Bx (w.alloc (.cells #[.slice A R.length a, .slice B D.length b, .slice C E.length c, .int .i64 d, .int .i64 o, .int .i64 ii] 25)) w.heap.size #[.slice A R.length a, .slice B D.length b, .slice C E.length c, .int .i64 d, .int .i64 o, .int .i64 ii] 25) := Lib.hid (heap_alloc_new _ _)
  have HV := Lib.hid hbV
  clear hbV hfw hok hi hp ht hv
  have x0 : (w.alloc (.cells #[.slice A R.length a, .slice B D.length b, .slice C E.length c, .int .i64 d, .int .i64 o, .int .i64 ii] 25)).cell? ⟨w.heap.size, 0, none⟩ = some (.slice A R.length a) := BX.out.c 0 _ rfl
  have x1 : (w.alloc (.cells #[.slice A R.length a, .slice B D.length b, .slice C E.length c, .int .i64 d, .int .i64 o, .int .i64 ii] 25)).cell? ⟨w.heap.size, 1, none⟩ = some (.slice B D.length b) := BX.out.c 1 _ rfl
  have x2 : (w.alloc (.cells #[.slice A R.length a, .slice B D.length b, .slice C E.length c, .int .i64 d, .int .i64 o, .int .i64 ii] 25)).cell? ⟨w.heap.size, 2, none⟩ = some (.slice C E.length c) := BX.out.c 2 _ rfl
  have x3 : (w.alloc (.cells #[.slice A R.length a, .slice B D.length b, .slice C E.length c, .int .i64 d, .int .i64 o, .int .i64 ii] 25)).cell? ⟨w.heap.size, 3, none⟩ = some (.int .i64 d) := BX.out.c 3 _ rfl
  have x4 : (w.alloc (.cells #[.slice A R.length a, .slice B D.length b, .slice C E.length c, .int .i64 d, .int .i64 o, .int .i64 ii] 25)).cell? ⟨w.heap.size, 4, none⟩ = some (.int .i64 o) := BX.out.c 4 _ rfl
  have x5 : (w.alloc (.cells #[.slice A R.length a, .slice B D.length b, .slice C E.length c, .int .i64 d, .int .i64 o, .int .i64 ii] 25)).cell? ⟨w.heap.size, 5, none⟩ = some (.int .i64 ii) := BX.out.c 5 _ rfl
  go_enter Tryz.func5, Tryz.ntmps5
  go_wp2_with fail
  refine (C0.out _ HV.out).mono ?_
  rintro e w1 ⟨rfl, g⟩
  have HV' := Lib.hid (Nm.Nb HV.out g)
  have BX' := Lib.hid (BX.out.bt g)
  clear HV BX x0 x1 x2 x3 x4 x5
  have HV := HV'
  have BX := BX'
  clear HV' BX'
  have x0 : w1.cell? ⟨w.heap.size, 0, none⟩ = some (.slice A R.length a) := BX.out.c 0 _ rfl
  have x1 : w1.cell? ⟨w.heap.size, 1, none⟩ = some (.slice B D.length b) := BX.out.c 1 _ rfl
  have x2 : w1.cell? ⟨w.heap.size, 2, none⟩ = some (.slice C E.length c) := BX.out.c 2 _ rfl
  have x3 : w1.cell? ⟨w.heap.size, 3, none⟩ = some (.int .i64 d) := BX.out.c 3 _ rfl
  have x4 : w1.cell? ⟨w.heap.size, 4, none⟩ = some (.int .i64 o) := BX.out.c 4 _ rfl
  have x5 : w1.cell? ⟨w.heap.size, 5, none⟩ = some (.int .i64 ii) := BX.out.c 5 _ rfl
  clear g C0
  go_wp2_with fail
  refine (C1.out _ HV.out).mono ?_
  rintro e w2 ⟨A1, ca1, n1, rfl, l1, l2, s1, g⟩
  have HV' := Lib.hid (Nm.Nb HV.out g)
  have BX' := Lib.hid (BX.out.bt g)
  clear HV BX x0 x1 x2 x3 x4 x5
  have HV := HV'
  have BX := BX'
  clear HV' BX'
  have x0 : w2.cell? ⟨w.heap.size, 0, none⟩ = some (.slice A R.length a) := BX.out.c 0 _ rfl
  have x1 : w2.cell? ⟨w.heap.size, 1, none⟩ = some (.slice B D.length b) := BX.out.c 1 _ rfl
  have x2 : w2.cell? ⟨w.heap.size, 2, none⟩ = some (.slice C E.length c) := BX.out.c 2 _ rfl
  have x3 : w2.cell? ⟨w.heap.size, 3, none⟩ = some (.int .i64 d) := BX.out.c 3 _ rfl
  have x4 : w2.cell? ⟨w.heap.size, 4, none⟩ = some (.int .i64 o) := BX.out.c 4 _ rfl
  have x5 : w2.cell? ⟨w.heap.size, 5, none⟩ = some (.int .i64 ii) := BX.out.c 5 _ rfl
  clear g C1
  have S1 := Lib.hid s1
  have G1 := Lib.hid (And.intro l1 l2)
  clear l1 l2 s1
  go_wp2_with fail
  refine (CF.out _ HV.out).mono ?_
  rintro e w3 ⟨rfl, g⟩
  have HV' := Lib.hid (Nm.Nb HV.out g)
  have BX' := Lib.hid (BX.out.bt g)
  have S1' := Lib.hid (Nm.sbt S1.out g)
  clear S1
  have S1 := S1'
  clear S1'
  clear HV BX x0 x1 x2 x3 x4 x5
  have HV := HV'
  have BX := BX'
  clear HV' BX'
  have x0 : w3.cell? ⟨w.heap.size, 0, none⟩ = some (.slice A R.length a) := BX.out.c 0 _ rfl
  have x1 : w3.cell? ⟨w.heap.size, 1, none⟩ = some (.slice B D.length b) := BX.out.c 1 _ rfl
  have x2 : w3.cell? ⟨w.heap.size, 2, none⟩ = some (.slice C E.length c) := BX.out.c 2 _ rfl
  have x3 : w3.cell? ⟨w.heap.size, 3, none⟩ = some (.int .i64 d) := BX.out.c 3 _ rfl
  have x4 : w3.cell? ⟨w.heap.size, 4, none⟩ = some (.int .i64 o) := BX.out.c 4 _ rfl
  have x5 : w3.cell? ⟨w.heap.size, 5, none⟩ = some (.int .i64 ii) := BX.out.c 5 _ rfl
  clear g CF
  cases fw with
  | false =>
    go_wp2
    go_ret
    exact ⟨rfl, HV.out⟩
  | true =>
  by_cases h60 : 60 < x.size
  · have h60i : (60 : Int) < (x.size : Int) := by omega
    go_wp2
    go_ret
    exact ⟨rfl, HV.out⟩
  have h60i : ¬ (60 : Int) < (x.size : Int) := by omega
  clear h60
  go_wp2_with fail
  refine (CV.out _ HV.out).mono ?_
  rintro e w4 ⟨rfl, g⟩
  have HV' := Lib.hid (Nm.Nb HV.out g)
  have BX' := Lib.hid (BX.out.bt g)
  have S1' := Lib.hid (Nm.sbt S1.out g)
  clear S1
  have S1 := S1'
  clear S1'
  clear HV BX x0 x1 x2 x3 x4 x5
  have HV := HV'
  have BX := BX'
  clear HV' BX'
  have x0 : w4.cell? ⟨w.heap.size, 0, none⟩ = some (.slice A R.length a) := BX.out.c 0 _ rfl
  have x1 : w4.cell? ⟨w.heap.size, 1, none⟩ = some (.slice B D.length b) := BX.out.c 1 _ rfl
  have x2 : w4.cell? ⟨w.heap.size, 2, none⟩ = some (.slice C E.length c) := BX.out.c 2 _ rfl
  have x3 : w4.cell? ⟨w.heap.size, 3, none⟩ = some (.int .i64 d) := BX.out.c 3 _ rfl
  have x4 : w4.cell? ⟨w.heap.size, 4, none⟩ = some (.int .i64 o) := BX.out.c 4 _ rfl
  have x5 : w4.cell? ⟨w.heap.size, 5, none⟩ = some (.int .i64 ii) := BX.out.c 5 _ rfl
  clear g CV
  cases ok with
  | false =>
    go_wp2
    go_ret
    exact ⟨rfl, HV.out⟩
  | true =>
  by_cases hn0 : n1 = 0
  · subst hn0
    go_wp2
    go_ret
    exact ⟨rfl, HV.out⟩
  have hn0i : ¬ (n1 : Int) = 0 := by omega
  have hn0b : ((n1 : Int) == 0) = false := by simp; omega
  have hw : Nm.isW (Nm.sc k) x.data.toList = true := by
    cases h : Nm.isW (Nm.sc k) x.data.toList with
    | true => rfl
    | false =>
      have := (Rw.lw_len k x).2.2 h
      have := G1.out.1
      omega
  have HLW : Hid (Rw.lw k x = (Rw.lts k x).map Nm.bt) := Lib.hid (by unfold Rw.lw; rw [if_pos hw])
  have HIL : Hid (Rw.isL t k x = true) := Lib.hid (by unfold Rw.isL; rw [HOK.out, hw]; rfl)
  rw [HLW.out] at S1 G1
  obtain ⟨L, hL⟩ : ∃ L, Rw.lts k x = L := ⟨_, rfl⟩
  rw [hL] at S1 G1
  have HL := Lib.hid hL
  have HLL : Hid (L.length = n1) := Lib.hid (by have := G1.out.1; rwa [List.length_map] at this)
  have hn12 : n1 ≤ 12 := G1.out.2
  obtain ⟨hR1, hR80, hRf⟩ := Rw.okT_rl HOK.out
  have hRgd := (Rw.isL_good HIL.out).1
  simp only [← HTE.out] at hR1 hR80 hRf hRgd
  have HRF := Lib.hid (And.intro hRf hRgd)
  obtain ⟨nR, hnR⟩ : ∃ nR, R.length = nR := ⟨_, rfl⟩
  rw [hnR] at hR1 hR80
  have HNR := Lib.hid hnR
  have hR0 : ¬ (nR : Int) = 0 := by omega
  have hR0b : ((nR : Int) == 0) = false := by simp; omega
  clear hn0 hw hL hRf hRgd
  rw [hnR] at BX x0 C3 ⊢
  clear hnR
  go_wp2
  clear x0 x1 x2 x3 x4 x5
  generalize hWR : w4 = V at *
  clear hWR
  go_loopw [13, 14, 15, 16] (fun s13 s14 s15 s16 wr => ∃ (f : ByteArray) (sm i st : Nat), st ≤ nc ∧ i ≤ n1 ∧ sm ≤ 1000 * i ∧ f.size ≤ 3 * i ∧ s13 = .string f ∧ s14 = .int .i64 (sm : Int) ∧ s15 = .int .i64 (i : Int) ∧ s16 = .int .i64 (st : Int) ∧ Hid (Rw.Wr (Rw.rus k R) (L.take i) f.data.toList sm) ∧ Hid (Below V.heap.size V wr)) (fun _ _ _ s16 _ => nc - (intOf s16).toNat)
  case atStart => exact ⟨⟨#[]⟩, 0, 0, 0, by omega, by omega, by omega, by decide, rfl, rfl, rfl, rfl, Lib.hid (by rw [List.take_zero]; exact Rw.Wr.nil), Lib.hid (Below.refl _ _)⟩
  case round =>
    obtain ⟨f, sm, i, st, hst, hi1, hsm, hfs, rfl, rfl, rfl, rfl, HWr, HW⟩ := hrel
    have HBW := Lib.hid (Nm.Nb HV.out HW.out)
    have BXr := Lib.hid (BX.out.bt HW.out)
    have x0 : wr.cell? ⟨w.heap.size, 0, none⟩ = some (.slice A nR a) := BXr.out.c 0 _ rfl
    by_cases hboth : st < nc ∧ i < n1
    · obtain ⟨hlt, hltn⟩ := hboth
      have hlti : (st : Int) < (nc : Int) := by omega
      have hltni : (i : Int) < (n1 : Int) := by omega
      obtain ⟨cd, rfl, hcd, hc, hc0, hc1⟩ := (HZ.out wr HBW.out) st (by rw [HNC.out]; exact hlt)
      obtain ⟨cv, hcv⟩ : ∃ cv, ch[st]'(by rw [HNC.out]; exact hlt) = cv := ⟨_, rfl⟩
      rw [hcv] at hc hc0 hc1
      clear hcv
      have HCV := Lib.hid (And.intro hc0 hc1)
      go_wp2
      go_quiet (fail)
      go_wp2
      obtain ⟨kk, hkk, hkn⟩ : ∃ kk : Nat, cv % (nR : Int) = (kk : Int) ∧ kk < nR := by
        have h1 := Int.emod_nonneg cv hR0
        have h2 := Int.emod_lt_of_pos cv (show (0 : Int) < (nR : Int) by omega)
        exact ⟨(cv % (nR : Int)).toNat, by omega, by omega⟩
      rw [hkk]
      have HWU := Lib.hid (Nm.drewB HW.out nq)
      generalize wr.drewN nq = U at *
      clear hkk hc hcd hc0 hc1 HCV x0 BXr HBW HW
      go_loopw [13, 14, 15, 17, 71] (fun s13 s14 s15 s17 s71 u => ∃ (kk cnt : Nat), kk < nR ∧ cnt ≤ nR ∧ s13 = .string f ∧ s14 = .int .i64 (sm : Int) ∧ s15 = .int .i64 (i : Int) ∧ s17 = .int .i64 (kk : Int) ∧ s71 = .int .i64 (cnt : Int) ∧ Hid (Below V.heap.size V u)) (fun _ _ _ _ s71 _ => nR - (intOf s71).toNat)
      case atStart => exact ⟨kk, 0, hkn, by omega, rfl, rfl, rfl, rfl, rfl, HWU⟩
      case round =>
        clear hkn HWU
        obtain ⟨kk, cnt, hkn, hcn, rfl, rfl, rfl, rfl, rfl, HWu⟩ := hrel
        by_cases hl : cnt < nR
        · have hli : (cnt : Int) < (nR : Int) := by omega
          have hkni : (kk : Int) < (nR : Int) := by omega
          have HBu := Lib.hid (Nm.Nb HV.out HWu.out)
          have BXu := Lib.hid (BX.out.bt HWu.out)
          have x0 : wr.cell? ⟨w.heap.size, 0, none⟩ = some (.slice A nR a) := BXu.out.c 0 _ rfl
          have hrow := (HIN.out wr HBu.out).r
          have hgr := (HIN.out wr HBu.out).gr
          rw [← HTE.out] at hrow hgr
          have hkR : kk < R.length := by rw [HNR.out]; exact hkn
          obtain ⟨ad, rfl, had, y0, y1, y2, y3⟩ := Rw.Rls.at hrow hkR
          have hrf := HRF.out.1 R[kk] (List.getElem_mem _)
          have hgk := hgr R[kk] (List.getElem_mem _)
          obtain ⟨m, hm⟩ : ∃ m, (Nm.ls (Nm.sc R[kk].k) R[kk].frm.data.toList).length = m := ⟨_, rfl⟩
          have hfw := (Rw.okF_word hrf.1).2.1
          have hto := Rw.okTo_size hrf.2.1
          have hfs2 := Rw.okF_size hrf.1
          have FT := Rw.fits_any R[kk] k A1 ca1 (L.map Nm.bt) n1 i m (by rw [List.length_map]; exact HLL.out) hm hfw hgk.frm wr (Nm.sbt S1.out HWu.out) (HP.out wr HBu.out).tb (by omega) (by omega)
          have hst1 := fun h => Rw.fit_step (R := R) (k := k) (L := L) (i := i) hkR hm h
          obtain ⟨cn, hcn2⟩ : ∃ cn : Nat, R[kk].cost = (cn : Int) := ⟨R[kk].cost.toNat, by have := hrf.2.2.1; omega⟩
          have hcn1 : cn ≤ 1000 := by have := hrf.2.2.2; omega
          have hcn3 : R[kk].cost.toNat = cn := by omega
          obtain ⟨y, hy⟩ : ∃ y, R[kk] = y := ⟨_, rfl⟩
          rw [hy] at y0 y1 y2 y3 FT hst1 hcn2 hto hcn3
          rw [hcn3] at hst1
          rw [hcn2] at y3
          unfold Rw.Rl.val at FT
          rw [hcn2] at FT
          obtain ⟨fb, hfb⟩ : ∃ fb, Rw.fitB y k (L.map Nm.bt) i = fb := ⟨_, rfl⟩
          rw [hfb] at FT hst1
          have FT := Lib.hid FT
          have HST := Lib.hid hst1
          have hm12 : m ≤ 12 := by rw [← hm]; exact (Nm.isW_iff.1 hfw).2.2
          clear hrow hgr hrf hgk hfw hfs2 hst1 hcn2 hcn3 hy hfb hm hkR
          go_wp2_with fail
          refine FT.out.mono ?_
          rintro e u2 ⟨rfl, g⟩
          have x0 := Nm.cell_bt x0 g
          have y2 := Nm.cell_bt y2 g
          have y3 := Nm.cell_bt y3 g
          have HWu2 := Lib.hid (HWu.out.trans (g.mono HWu.out.size))
          clear g FT y0 y1 BXu
          cases fb with
          | true =>
            obtain ⟨hq, hs⟩ := HST.out rfl
            have hq' : i + m ≤ n1 := by rw [← HLL.out]; exact hq
            have htk := Rw.take_step (by rw [HLL.out]; exact hi1) hs HWr.out
            have hsz : ¬ 9223372036854775807 < f.size + y.to.size := by omega
            have hcat : (f ++ y.to).data.toList = f.data.toList ++ y.to.data.toList := by simp
            have hcs : (f ++ y.to).size = f.size + y.to.size := by simp
            rw [← hcat] at htk
            have HN := Lib.hid htk
            have hmn := (Rw.step_bound HRF.out.2 hs).1
            have HX := Lib.hid (And.intro hcs hmn)
            clear hq hs htk hcat hcs hmn HST
            go_wp2
            exact ⟨⟨f ++ y.to, sm + cn, i + m, st + 1, by omega, hq', by have := HX.out.2; omega, by rw [HX.out.1]; have := HX.out.2; omega, rfl, by go_num, by go_num, by go_num, HN, HWu2⟩, by simp [intOf]; omega⟩
          | false =>
            go_wp2
            have hmod : ((kk : Int) + 1) % (nR : Int) = (((kk + 1) % nR : Nat) : Int) := by rw [Int.natCast_emod]; rfl
            exact ⟨⟨(kk + 1) % nR, cnt + 1, Nat.mod_lt _ (by omega), by omega, rfl, rfl, rfl, by first | rfl | (rw [hmod]) | simp, by go_num, HWu2⟩, by simp [intOf]; omega⟩
        · obtain rfl : cnt = nR := by omega
          go_wp2
          exact ⟨⟨f, sm, i, st + 1, by omega, hi1, hsm, hfs, rfl, rfl, rfl, by go_num, HWr, HWu⟩, by simp [intOf]; omega⟩
    · by_cases hdone : i < n1
      · have hlt : ¬ (st : Int) < (nc : Int) := by omega
        have hdi : (i : Int) < (n1 : Int) := by omega
        go_wp2
        go_ret
        exact ⟨rfl, HBW.out⟩
      · obtain rfl : i = n1 := by omega
        have hwr := HWr.out
        rw [List.take_of_length_le (by rw [HLL.out]; exact Nat.le_refl _)] at hwr
        have HWF := Lib.hid hwr
        clear hwr HWr
        have hwp : IntKind.i64.wrap ((sm : Int) + more) = (sm : Int) + more := by unfold IntKind.wrap; simp [IntKind.bits, IntKind.signed]; omega
        have x1 : wr.cell? ⟨w.heap.size, 1, none⟩ = some (.slice B D.length b) := BXr.out.c 1 _ rfl
        have x2 : wr.cell? ⟨w.heap.size, 2, none⟩ = some (.slice C E.length c) := BXr.out.c 2 _ rfl
        have x3 : wr.cell? ⟨w.heap.size, 3, none⟩ = some (.int .i64 d) := BXr.out.c 3 _ rfl
        have x4 : wr.cell? ⟨w.heap.size, 4, none⟩ = some (.int .i64 o) := BXr.out.c 4 _ rfl
        have x5 : wr.cell? ⟨w.heap.size, 5, none⟩ = some (.int .i64 ii) := BXr.out.c 5 _ rfl
        by_cases hstn : (st : Int) < (nc : Int)
        · go_wp2_with fail
          refine (C3.out _ HBW.out _).mono ?_
          rintro e w5 ⟨c2, ts, ns, A2, ca2, M2, cm2, n2, rfl, hg2, m1, m2, m3, s2, z2, g⟩
          have HB5 := Lib.hid (Nm.Nb HBW.out g)
          clear g x0 x1 x2 x3 x4 x5 BXr
          rcases hg2.c12 HIL.out with rfl | rfl
          · obtain ⟨hex, hle⟩ := hg2.found (f := f) (sm := sm) (by rw [HL.out, ← HTE.out]; exact HWF.out) (by omega)
            have HEX := Lib.hid (And.intro hex hle)
            have HM := Lib.hid (And.intro m1 m2)
            have S2 := Lib.hid s2
            have Z2 := Lib.hid z2
            clear hg2 hex hle m1 m2 s2 z2
            go_wp2
            go_loop [23] (fun s23 => ∃ j : Nat, j ≤ n2 ∧ s23 = .int .i64 (j : Int) ∧ Hid (∀ j' (_ : j' < j) (h : j' < ts.length), ts[j'] ≠ f)) (fun s23 => n2 - (intOf s23).toNat)
            case atStart => exact ⟨0, by omega, rfl, Lib.hid (fun j' h => absurd h (by omega))⟩
            case round =>
              obtain ⟨j, hj, rfl, HN⟩ := hrel
              by_cases hlt : j < n2
              · have hj1 : j < ts.length := by rw [HM.out.1]; exact hlt
                have hj2 : j < ns.length := by rw [HM.out.2]; exact hlt
                obtain ⟨td, rfl, htd, y0⟩ := S2.out j hj1
                obtain ⟨nd, rfl, hnd, z0⟩ := Z2.out j hj2
                have hle := HEX.out.2 j hj1 hj2
                have hgd : ts.getD j ByteArray.empty = ts[j] := by rw [List.getD_eq_getElem?_getD, List.getElem?_eq_getElem hj1]; rfl
                rw [hgd] at y0
                obtain ⟨y, hy⟩ : ∃ y, ts[j] = y := ⟨_, rfl⟩
                obtain ⟨z, hz⟩ : ∃ z, ns[j] = z := ⟨_, rfl⟩
                rw [hy] at y0 hle
                rw [hz] at z0 hle
                have HY := Lib.hid (show ∀ h : j < ts.length, ts[j] = y from fun _ => hy)
                clear hy
                clear hgd hz hj1 hj2
                by_cases hyf : y = f
                · have hzl : z ≤ (sm : Int) := hle hyf
                  subst hyf
                  clear hle
                  go_wp2
                  go_ret
                  exact ⟨rfl, HB5.out⟩
                · have hne := Rw.bytes_ne hyf
                  have hyf2 : ¬ y = f := hyf
                  have HN2 : Hid (∀ j' (_ : j' < j + 1) (h : j' < ts.length), ts[j'] ≠ f) := Lib.hid (fun j' h1 h2 e => by
                    rcases Nat.lt_or_ge j' j with h | h
                    · exact HN.out j' h h2 e
                    · obtain rfl : j' = j := by omega
                      exact hyf (by rw [← HY.out h2]; exact e))
                  clear hle
                  go_wp2
                  exact ⟨⟨j + 1, by omega, by go_num, HN2⟩, by simp [intOf]; omega⟩
              · exfalso
                obtain ⟨j', h1, h2⟩ := HEX.out.1
                exact HN.out j' (by have := HM.out.1; omega) h1 h2
          · clear hg2 m1 m2 s2 z2
            go_wp2
            go_ret
            exact ⟨rfl, HB5.out⟩
        · go_wp2_with fail
          refine (C3.out _ HBW.out _).mono ?_
          rintro e w5 ⟨c2, ts, ns, A2, ca2, M2, cm2, n2, rfl, hg2, m1, m2, m3, s2, z2, g⟩
          have HB5 := Lib.hid (Nm.Nb HBW.out g)
          clear g x0 x1 x2 x3 x4 x5 BXr
          rcases hg2.c12 HIL.out with rfl | rfl
          · obtain ⟨hex, hle⟩ := hg2.found (f := f) (sm := sm) (by rw [HL.out, ← HTE.out]; exact HWF.out) (by omega)
            have HEX := Lib.hid (And.intro hex hle)
            have HM := Lib.hid (And.intro m1 m2)
            have S2 := Lib.hid s2
            have Z2 := Lib.hid z2
            clear hg2 hex hle m1 m2 s2 z2
            go_wp2
            go_loop [23] (fun s23 => ∃ j : Nat, j ≤ n2 ∧ s23 = .int .i64 (j : Int) ∧ Hid (∀ j' (_ : j' < j) (h : j' < ts.length), ts[j'] ≠ f)) (fun s23 => n2 - (intOf s23).toNat)
            case atStart => exact ⟨0, by omega, rfl, Lib.hid (fun j' h => absurd h (by omega))⟩
            case round =>
              obtain ⟨j, hj, rfl, HN⟩ := hrel
              by_cases hlt : j < n2
              · have hj1 : j < ts.length := by rw [HM.out.1]; exact hlt
                have hj2 : j < ns.length := by rw [HM.out.2]; exact hlt
                obtain ⟨td, rfl, htd, y0⟩ := S2.out j hj1
                obtain ⟨nd, rfl, hnd, z0⟩ := Z2.out j hj2
                have hle := HEX.out.2 j hj1 hj2
                have hgd : ts.getD j ByteArray.empty = ts[j] := by rw [List.getD_eq_getElem?_getD, List.getElem?_eq_getElem hj1]; rfl
                rw [hgd] at y0
                obtain ⟨y, hy⟩ : ∃ y, ts[j] = y := ⟨_, rfl⟩
                obtain ⟨z, hz⟩ : ∃ z, ns[j] = z := ⟨_, rfl⟩
                rw [hy] at y0 hle
                rw [hz] at z0 hle
                have HY := Lib.hid (show ∀ h : j < ts.length, ts[j] = y from fun _ => hy)
                clear hy
                clear hgd hz hj1 hj2
                by_cases hyf : y = f
                · have hzl : z ≤ (sm : Int) := hle hyf
                  subst hyf
                  clear hle
                  go_wp2
                  go_ret
                  exact ⟨rfl, HB5.out⟩
                · have hne := Rw.bytes_ne hyf
                  have hyf2 : ¬ y = f := hyf
                  have HN2 : Hid (∀ j' (_ : j' < j + 1) (h : j' < ts.length), ts[j'] ≠ f) := Lib.hid (fun j' h1 h2 e => by
                    rcases Nat.lt_or_ge j' j with h | h
                    · exact HN.out j' h h2 e
                    · obtain rfl : j' = j := by omega
                      exact hyf (by rw [← HY.out h2]; exact e))
                  clear hle
                  go_wp2
                  exact ⟨⟨j + 1, by omega, by go_num, HN2⟩, by simp [intOf]; omega⟩
              · exfalso
                obtain ⟨j', h1, h2⟩ := HEX.out.1
                exact HN.out j' (by have := HM.out.1; omega) h1 h2
          · clear hg2 m1 m2 s2 z2
            go_wp2
            go_ret
            exact ⟨rfl, HB5.out⟩
end Go.Proofs.YtkddpealobeleaaGreatDoor
