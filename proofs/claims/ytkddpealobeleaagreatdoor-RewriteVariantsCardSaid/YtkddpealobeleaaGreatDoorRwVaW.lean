/- Layer 10: RewriteVariants: the walk. -/
import Derived.Test.YtkddpealobeleaaGreatDoorRwAt
import Derived.Deep.RegionHeld3
set_option linter.unusedSimpArgs false
set_option linter.unusedVariables false
namespace Go.Proofs.YtkddpealobeleaaGreatDoor
open Go.RowKit Go.Shelf
set_option maxRecDepth 100000
set_option maxHeartbeats 4000000
theorem Rw.undrew {a w : World} (h : Below a.drew.heap.size a.drew w) : Below a.heap.size a w := ⟨h.os, h.tape, h.output, h.size, h.block⟩
theorem Nm.rd_take (s : Nat) : ∀ l j, Nm.rd s ((Nm.rd s l).1.take j).flatten = ((Nm.rd s l).1.take j, []) := by
  refine Nm.ind s (fun l h j => by rw [Nm.rd_stop h, List.take_nil]; rfl) (fun l h ih j => ?_)
  have hl := Nm.ln_le s l
  have hj := Nm.rd_join s (l.drop (Nm.ln s l))
  rw [Nm.rd_step h]
  cases j with
  | zero => simp [Nm.rd]
  | succ j =>
    rw [List.take_succ_cons, List.flatten_cons]
    have hF := ih j
    have hj2 : ((Nm.rd s (l.drop (Nm.ln s l))).1.take j).flatten ++ (((Nm.rd s (l.drop (Nm.ln s l))).1.drop j).flatten ++ (Nm.rd s (l.drop (Nm.ln s l))).2) = l.drop (Nm.ln s l) := by
      rw [← List.append_assoc, ← List.flatten_append, List.take_append_drop, hj]
    generalize ((Nm.rd s (l.drop (Nm.ln s l))).1.take j).flatten = F at *
    generalize ((Nm.rd s (l.drop (Nm.ln s l))).1.drop j).flatten ++ (Nm.rd s (l.drop (Nm.ln s l))).2 = G at *
    have e2 : l.take (Nm.ln s l) ++ F = l.take (Nm.ln s l + F.length) := by
      rw [List.take_add, ← hj2, List.take_append_of_le_length (Nat.le_refl _), List.take_length]
    have e := Nm.ln_take (m := Nm.ln s l + F.length) h (by omega)
    have hd : (l.take (Nm.ln s l + F.length)).drop (Nm.ln s l) = F := by
      rw [← e2, List.drop_append_of_le_length (by rw [List.length_take]; omega), List.drop_eq_nil_of_le (by rw [List.length_take]; omega), List.nil_append]
    rw [e2, Nm.rd_step (by rw [e]; exact h), e, hd, hF, List.take_take, Nat.min_eq_left (by omega)]
theorem Rw.take_isW {k : Int} {x : ByteArray} {j : Nat} (hw : Nm.isW (Nm.sc k) x.data.toList = true) (h1 : 1 ≤ j) (hj : j ≤ (Rw.lts k x).length) : Nm.isW (Nm.sc k) ((Rw.lts k x).take j).flatten = true := by
  have h12 := (Rw.isW_lts hw).2
  have := Nm.rd_take (Nm.sc k) (x.data.toList.map Nm.low) j
  exact Nm.isW_of this (by show 1 ≤ ((Rw.lts k x).take j).length; rw [List.length_take]; omega) (by show ((Rw.lts k x).take j).length ≤ 12; rw [List.length_take]; omega)
/-- An ending that the statement finds. -/
theorem Rw.end_has {k : Int} {x : ByteArray} {M : List Nm.T} {n m : Nat} (hw : Nm.isW (Nm.sc k) x.data.toList = true) (hn : (Rw.lts k x).length = n) (hm : M.length = m) (hlt : m < n) (ha : Rw.atB ((Rw.lts k x).map Nm.bt) (n - m) (M.map Nm.bt) = true) :
    Rw.stem (Rw.lts k x) M ≠ [] ∧ Nm.isW (Nm.sc k) (Rw.stem (Rw.lts k x) M) = true ∧ Rw.stem (Rw.lts k x) M ++ M.flatten = x.data.toList.map Nm.low := by
  obtain ⟨h1, h2⟩ := Rw.atB_iff.1 ha
  have h3 : (Rw.lts k x).drop (n - m) = M := by
    rwa [List.take_of_length_le (by rw [List.length_drop, hm, hn]; omega)] at h2
  have hs : Rw.stem (Rw.lts k x) M = ((Rw.lts k x).take (n - m)).flatten := by
    unfold Rw.stem
    rw [hn, hm, if_pos ⟨hlt, h3⟩]
  have hW := Rw.take_isW hw (j := n - m) (by omega) (by omega)
  rw [hs]
  refine ⟨Nm.isW_ne hW, hW, ?_⟩
  rw [← Rw.lts_flat hw]
  conv => lhs; rhs; rw [← h3]
  rw [← List.flatten_append, List.take_append_drop]
theorem Rw.end_not {L M : List Nm.T} {n m : Nat} (hn : L.length = n) (hm : M.length = m) (h : ¬ (m < n ∧ Rw.atB (L.map Nm.bt) (n - m) (M.map Nm.bt) = true)) : Rw.stem L M = [] := by
  unfold Rw.stem
  rw [if_neg]
  rintro ⟨h1, h2⟩
  rw [hn, hm] at h1 h2
  refine h ⟨h1, Rw.atB_iff.2 ⟨by omega, ?_⟩⟩
  rw [h2, hm, List.take_of_length_le (by omega)]
theorem Rw.vars_walk (t : Rw.TV) (k : Int) (x : ByteArray) (w : World) (hp : Rw.Pa w.heap.size w) (hi : t.In w) (wk : (Lit.int .i64 k).wf = true) (wx : x.size ≤ maxLen) :
    Calls Tryz.prog 10 #[t.val, .int .i64 k, .string x] w fun e w' => e = .returned (.bool true) ∧ Below w.heap.size w w' := by
  obtain ⟨A, a, B, b, C, c, R, D, E, d, o, i⟩ := t
  obtain ⟨t, ht⟩ : ∃ t : Rw.TV, (⟨A, a, B, b, C, c, R, D, E, d, o, i⟩ : Rw.TV) = t := ⟨_, rfl⟩
  have hv : t.val = .agg #[.slice A R.length a, .slice B D.length b, .slice C E.length c, .int .i64 d, .int .i64 o, .int .i64 i] := by rw [← ht]; rfl
  rw [ht] at hi ⊢
  rw [hv]
  have HTE := Lib.hid ht
  have HIN := Lib.hid (fun v (g : Below w.heap.size w v) => hi.bt g)
  have HP := Lib.hid (fun v (g : Below w.heap.size w v) => hp.bt g)
  have C0 := Lib.hid (fun v (g : Below w.heap.size w v) => Rw.head_any v (hp.bt g))
  obtain ⟨fw, hfw⟩ : ∃ fw, Rw.few t = fw := ⟨_, rfl⟩
  have CF := Lib.hid (fun v (g : Below w.heap.size w v) => Rw.few_any t v (hi.bt g))
  obtain ⟨ok, hok⟩ : ∃ ok, Rw.okT t = ok := ⟨_, rfl⟩
  have CV := Lib.hid (fun v (g : Below w.heap.size w v) => Rw.validT_any t v (hi.bt g) (hp.bt g).tb)
  rw [hv, hfw] at CF
  rw [hv, hok] at CV
  have HFW := Lib.hid hfw
  have HOK := Lib.hid hok
  have C1 := Lib.hid (fun v (g : Below w.heap.size w v) => Rw.letters_any k x v wx (hp.bt g).tb)
  have C3 := Lib.hid (fun v (g : Below w.heap.size w v) => Rw.vars_gi t k x v (hi.bt g) (hp.bt g).tb wx)
  rw [hv] at C3
  have HWX := Lib.hid wx
  clear wx wk
  have hbV := Nm.al w (.cells #[.slice A R.length a, .slice B D.length b, .slice C E.length c, .int .i64 d, .int .i64 o, .int .i64 i] 25)
  have BX : Hid (Rw.Bx (w.alloc (.cells #[.slice A R.length a, .slice B D.length b, .slice C E.length c, .int .i64 d, .int .i64 o, .int .i64 i] 25)) w.heap.size #[.slice A R.length a, .slice B D.length b, .slice C E.length c, .int .i64 d, .int .i64 o, .int .i64 i] 25) := Lib.hid (heap_alloc_new _ _)
  have HV := Lib.hid hbV
  clear hbV hfw hok hi hp ht hv
  have x0 : (w.alloc (.cells #[.slice A R.length a, .slice B D.length b, .slice C E.length c, .int .i64 d, .int .i64 o, .int .i64 i] 25)).cell? ⟨w.heap.size, 0, none⟩ = some (.slice A R.length a) := BX.out.c 0 _ rfl
  have x1 : (w.alloc (.cells #[.slice A R.length a, .slice B D.length b, .slice C E.length c, .int .i64 d, .int .i64 o, .int .i64 i] 25)).cell? ⟨w.heap.size, 1, none⟩ = some (.slice B D.length b) := BX.out.c 1 _ rfl
  have x2 : (w.alloc (.cells #[.slice A R.length a, .slice B D.length b, .slice C E.length c, .int .i64 d, .int .i64 o, .int .i64 i] 25)).cell? ⟨w.heap.size, 2, none⟩ = some (.slice C E.length c) := BX.out.c 2 _ rfl
  have x3 : (w.alloc (.cells #[.slice A R.length a, .slice B D.length b, .slice C E.length c, .int .i64 d, .int .i64 o, .int .i64 i] 25)).cell? ⟨w.heap.size, 3, none⟩ = some (.int .i64 d) := BX.out.c 3 _ rfl
  have x4 : (w.alloc (.cells #[.slice A R.length a, .slice B D.length b, .slice C E.length c, .int .i64 d, .int .i64 o, .int .i64 i] 25)).cell? ⟨w.heap.size, 4, none⟩ = some (.int .i64 o) := BX.out.c 4 _ rfl
  have x5 : (w.alloc (.cells #[.slice A R.length a, .slice B D.length b, .slice C E.length c, .int .i64 d, .int .i64 o, .int .i64 i] 25)).cell? ⟨w.heap.size, 5, none⟩ = some (.int .i64 i) := BX.out.c 5 _ rfl
  go_enter Tryz.func10, Tryz.ntmps10
  go_wp2_with fail
  refine (C0.out _ HV.out).mono ?_
  rintro e w1 ⟨rfl, g⟩
  have HV' := Lib.hid (Nm.Nb HV.out g)
  have BX' := Lib.hid (BX.out.bt g)
  clear HV BX x0 x1 x2 x3 x4 x5
  have HV := HV'
  have BX := BX'
  clear HV' BX'
  have x0 : w1.cell? ⟨w.heap.size, 0, none⟩ = some (.slice A R.length a) := BX.out.c 0 _ rfl
  have x1 : w1.cell? ⟨w.heap.size, 1, none⟩ = some (.slice B D.length b) := BX.out.c 1 _ rfl
  have x2 : w1.cell? ⟨w.heap.size, 2, none⟩ = some (.slice C E.length c) := BX.out.c 2 _ rfl
  have x3 : w1.cell? ⟨w.heap.size, 3, none⟩ = some (.int .i64 d) := BX.out.c 3 _ rfl
  have x4 : w1.cell? ⟨w.heap.size, 4, none⟩ = some (.int .i64 o) := BX.out.c 4 _ rfl
  have x5 : w1.cell? ⟨w.heap.size, 5, none⟩ = some (.int .i64 i) := BX.out.c 5 _ rfl
  clear g C0
  go_wp2_with fail
  refine (C1.out _ HV.out).mono ?_
  rintro e w2 ⟨A1, ca1, n1, rfl, l1, l2, s1, g⟩
  have HV' := Lib.hid (Nm.Nb HV.out g)
  have BX' := Lib.hid (BX.out.bt g)
  clear HV BX x0 x1 x2 x3 x4 x5
  have HV := HV'
  have BX := BX'
  clear HV' BX'
  have x0 : w2.cell? ⟨w.heap.size, 0, none⟩ = some (.slice A R.length a) := BX.out.c 0 _ rfl
  have x1 : w2.cell? ⟨w.heap.size, 1, none⟩ = some (.slice B D.length b) := BX.out.c 1 _ rfl
  have x2 : w2.cell? ⟨w.heap.size, 2, none⟩ = some (.slice C E.length c) := BX.out.c 2 _ rfl
  have x3 : w2.cell? ⟨w.heap.size, 3, none⟩ = some (.int .i64 d) := BX.out.c 3 _ rfl
  have x4 : w2.cell? ⟨w.heap.size, 4, none⟩ = some (.int .i64 o) := BX.out.c 4 _ rfl
  have x5 : w2.cell? ⟨w.heap.size, 5, none⟩ = some (.int .i64 i) := BX.out.c 5 _ rfl
  clear g C1
  have S1 := Lib.hid s1
  have G1 := Lib.hid (And.intro l1 l2)
  clear l1 l2 s1
  go_wp2_with fail
  refine (CF.out _ HV.out).mono ?_
  rintro e w3 ⟨rfl, g⟩
  have HV' := Lib.hid (Nm.Nb HV.out g)
  have BX' := Lib.hid (BX.out.bt g)
  have S1' := Lib.hid (Nm.sbt S1.out g)
  clear S1
  have S1 := S1'
  clear S1'
  clear HV BX x0 x1 x2 x3 x4 x5
  have HV := HV'
  have BX := BX'
  clear HV' BX'
  have x0 : w3.cell? ⟨w.heap.size, 0, none⟩ = some (.slice A R.length a) := BX.out.c 0 _ rfl
  have x1 : w3.cell? ⟨w.heap.size, 1, none⟩ = some (.slice B D.length b) := BX.out.c 1 _ rfl
  have x2 : w3.cell? ⟨w.heap.size, 2, none⟩ = some (.slice C E.length c) := BX.out.c 2 _ rfl
  have x3 : w3.cell? ⟨w.heap.size, 3, none⟩ = some (.int .i64 d) := BX.out.c 3 _ rfl
  have x4 : w3.cell? ⟨w.heap.size, 4, none⟩ = some (.int .i64 o) := BX.out.c 4 _ rfl
  have x5 : w3.cell? ⟨w.heap.size, 5, none⟩ = some (.int .i64 i) := BX.out.c 5 _ rfl
  clear g CF
  cases fw with
  | false =>
    go_wp2
    go_ret
    exact ⟨rfl, HV.out⟩
  | true =>
  by_cases h60 : 60 < x.size
  · have h60i : (60 : Int) < (x.size : Int) := by omega
    go_wp2
    go_ret
    exact ⟨rfl, HV.out⟩
  have h60i : ¬ (60 : Int) < (x.size : Int) := by omega
  have H60 := Lib.hid h60
  clear h60
  go_wp2_with fail
  refine (CV.out _ HV.out).mono ?_
  rintro e w4 ⟨rfl, g⟩
  have HV' := Lib.hid (Nm.Nb HV.out g)
  have BX' := Lib.hid (BX.out.bt g)
  have S1' := Lib.hid (Nm.sbt S1.out g)
  clear S1
  have S1 := S1'
  clear S1'
  clear HV BX x0 x1 x2 x3 x4 x5
  have HV := HV'
  have BX := BX'
  clear HV' BX'
  have x0 : w4.cell? ⟨w.heap.size, 0, none⟩ = some (.slice A R.length a) := BX.out.c 0 _ rfl
  have x1 : w4.cell? ⟨w.heap.size, 1, none⟩ = some (.slice B D.length b) := BX.out.c 1 _ rfl
  have x2 : w4.cell? ⟨w.heap.size, 2, none⟩ = some (.slice C E.length c) := BX.out.c 2 _ rfl
  have x3 : w4.cell? ⟨w.heap.size, 3, none⟩ = some (.int .i64 d) := BX.out.c 3 _ rfl
  have x4 : w4.cell? ⟨w.heap.size, 4, none⟩ = some (.int .i64 o) := BX.out.c 4 _ rfl
  have x5 : w4.cell? ⟨w.heap.size, 5, none⟩ = some (.int .i64 i) := BX.out.c 5 _ rfl
  clear g CV
  cases ok with
  | false =>
    go_wp2
    go_ret
    exact ⟨rfl, HV.out⟩
  | true =>
  by_cases hn0 : n1 = 0
  · subst hn0
    go_wp2
    go_ret
    exact ⟨rfl, HV.out⟩
  have hn0i : ¬ (n1 : Int) = 0 := by omega
  have hn0b : ((n1 : Int) == 0) = false := by simp; omega
  have hw : Nm.isW (Nm.sc k) x.data.toList = true := by
    cases h : Nm.isW (Nm.sc k) x.data.toList with
    | true => rfl
    | false =>
      have := (Rw.lw_len k x).2.2 h
      have := G1.out.1
      omega
  have HLW : Hid (Rw.lw k x = (Rw.lts k x).map Nm.bt) := Lib.hid (by unfold Rw.lw; rw [if_pos hw])
  rw [HLW.out] at S1 G1
  have HLL : Hid ((Rw.lts k x).length = n1) := Lib.hid (by have := G1.out.1; rwa [List.length_map] at this)
  have C2 : Hid (∀ v, Below w.heap.size w v → Calls Tryz.prog 32 #[.int .i64 k, .string x] v fun e w' => e = .returned (.tuple #[.string (Rw.fd x), .int .i64 0]) ∧ Below v.heap.size v w') := Lib.hid (fun v g => Nm.fold_ok k x v hw HWX.out (HP.out v g).tb)
  have HIL : Hid (Rw.isL t k x = true) := Lib.hid (by unfold Rw.isL; rw [HOK.out, hw]; rfl)
  have herr : Rw.err t k x = 0 := by unfold Rw.err; rw [if_pos HIL.out]
  have HVV : Hid (Rw.varsV t k x = ⟨Rw.fd x, -1, 0⟩ :: Rw.endsF (Rw.lts k x) k 0 E) := Lib.hid (by unfold Rw.varsV; rw [if_pos HIL.out, ← HTE.out])
  rw [herr] at C3
  obtain ⟨vv, hvv⟩ : ∃ vv, Rw.varsV t k x = vv := ⟨_, rfl⟩
  rw [hvv] at C3 HVV
  obtain ⟨s, hs⟩ : ∃ s, Rw.fd x = s := ⟨_, rfl⟩
  rw [hs] at C2 HVV
  have HS := Lib.hid hs
  have HWW := Lib.hid hw
  clear hn0 hw herr hvv hs
  go_wp2_with fail
  refine (C2.out _ HV.out).mono ?_
  rintro e w5 ⟨rfl, g⟩
  have HV' := Lib.hid (Nm.Nb HV.out g)
  have BX' := Lib.hid (BX.out.bt g)
  have S1' := Lib.hid (Nm.sbt S1.out g)
  clear S1
  have S1 := S1'
  clear S1'
  clear HV BX x0 x1 x2 x3 x4 x5
  have HV := HV'
  have BX := BX'
  clear HV' BX'
  have x0 : w5.cell? ⟨w.heap.size, 0, none⟩ = some (.slice A R.length a) := BX.out.c 0 _ rfl
  have x1 : w5.cell? ⟨w.heap.size, 1, none⟩ = some (.slice B D.length b) := BX.out.c 1 _ rfl
  have x2 : w5.cell? ⟨w.heap.size, 2, none⟩ = some (.slice C E.length c) := BX.out.c 2 _ rfl
  have x3 : w5.cell? ⟨w.heap.size, 3, none⟩ = some (.int .i64 d) := BX.out.c 3 _ rfl
  have x4 : w5.cell? ⟨w.heap.size, 4, none⟩ = some (.int .i64 o) := BX.out.c 4 _ rfl
  have x5 : w5.cell? ⟨w.heap.size, 5, none⟩ = some (.int .i64 i) := BX.out.c 5 _ rfl
  clear g C2
  go_wp2_with fail
  refine (C3.out _ HV.out).mono ?_
  rintro e w6 ⟨A3, ca3, n3, rfl, v1, v2, v3, g⟩
  have HV' := Lib.hid (Nm.Nb HV.out g)
  have BX' := Lib.hid (BX.out.bt g)
  have S1' := Lib.hid (Nm.sbt S1.out g)
  clear S1
  have S1 := S1'
  clear S1'
  clear HV BX x0 x1 x2 x3 x4 x5
  have HV := HV'
  have BX := BX'
  clear HV' BX'
  have x0 : w6.cell? ⟨w.heap.size, 0, none⟩ = some (.slice A R.length a) := BX.out.c 0 _ rfl
  have x1 : w6.cell? ⟨w.heap.size, 1, none⟩ = some (.slice B D.length b) := BX.out.c 1 _ rfl
  have x2 : w6.cell? ⟨w.heap.size, 2, none⟩ = some (.slice C E.length c) := BX.out.c 2 _ rfl
  have x3 : w6.cell? ⟨w.heap.size, 3, none⟩ = some (.int .i64 d) := BX.out.c 3 _ rfl
  have x4 : w6.cell? ⟨w.heap.size, 4, none⟩ = some (.int .i64 o) := BX.out.c 4 _ rfl
  have x5 : w6.cell? ⟨w.heap.size, 5, none⟩ = some (.int .i64 i) := BX.out.c 5 _ rfl
  clear g C3
  have G3 := Lib.hid (And.intro v1 v2)
  have h0 : 0 < vv.length := by rw [HVV.out]; simp
  have hn3 : 0 < n3 := by have := G3.out.1; omega
  have hn3i : ¬ (n3 : Int) = 0 := by omega
  have hn3b : ((n3 : Int) == 0) = false := by simp; omega
  have hv0 : vv[0] = ⟨s, -1, 0⟩ := by simp [HVV.out]
  obtain ⟨vd, rfl, hvd, y0, y1, y2⟩ := v3.at h0
  rw [hv0] at y0 y1 y2
  rw [show 0 * 3 = 0 from rfl, show vd.add 0 = vd from rfl] at y0 y1 y2
  have V3 := Lib.hid v3
  clear v1 v2 v3 h0 hn3 hv0
  go_wp2
  clear y0 y1 y2 x0 x1 x2 x3 x4 x5
  have HT0 := Lib.hid (show Strs w6 w6.heap.size A1 ((Rw.lts k x).map Nm.bt) from S1.out)
  generalize hWR : w6 = V at *
  clear hWR
  go_loopw [13, 14] (fun s13 s14 wr => ∃ (j q : Nat), j ≤ E.length ∧ q ≤ n3 ∧ s13 = .int .i64 (q : Int) ∧ s14 = .int .i64 (j : Int) ∧ Hid (vv.drop q = Rw.endsF (Rw.lts k x) k j (E.drop j)) ∧ Hid (Below V.heap.size V wr)) (fun _ s14 _ => E.length - (intOf s14).toNat)
  case atStart => exact ⟨0, 1, by omega, by omega, rfl, rfl, Lib.hid (by rw [HVV.out]; rfl), Lib.hid (Below.refl _ _)⟩
  case round =>
    obtain ⟨j, q, hj, hq, rfl, rfl, HE, HW⟩ := hrel
    have HBW := Lib.hid (Nm.Nb HV.out HW.out)
    have BXr := Lib.hid (BX.out.bt HW.out)
    have x2 : wr.cell? ⟨w.heap.size, 2, none⟩ = some (.slice C E.length c) := BXr.out.c 2 _ rfl
    have hcE : E.length ≤ 40 ∧ E.length ≤ c := by
      have h1 := (Rw.fine_of HOK.out).ne
      have h2 := (HIN.out wr HBW.out).lc
      rw [← HTE.out] at h1 h2
      exact ⟨h1, h2⟩
    obtain ⟨hE40, hEc⟩ := hcE
    have h41 := G3.out.2
    by_cases hlt : j < E.length
    · have hrow := (HIN.out wr HBW.out).e
      have hword := Rw.end_word HOK.out (j := j) (by rw [← HTE.out]; exact hlt)
      have hgood := (HIN.out wr HBW.out).ge
      rw [← HTE.out] at hrow hgood
      simp only [← HTE.out] at hword
      have hgj := hgood E[j] (List.getElem_mem _)
      obtain ⟨ad, rfl, had, c0, c1, c2⟩ := Rw.Dps.at hrow hlt
      have hd : E.drop j = E[j] :: E.drop (j + 1) := List.drop_eq_getElem_cons hlt
      have HF := HE.out
      rw [hd] at HF
      clear hrow hgood hd
      obtain ⟨y, hy⟩ : ∃ y, E[j] = y := ⟨_, rfl⟩
      rw [hy] at c0 c1 c2 HF hgj
      have hword1 := hword.1
      rw [hy] at hword1
      clear hword hy HE
      unfold Rw.endsF at HF
      have L1 := Lib.hid (fun v (g : Below w.heap.size w v) => Nm.letters_ok y.k y.word v hword1 hgj.word (HP.out v g).tb)
      obtain ⟨m, hm⟩ : ∃ m, (Nm.ls (Nm.sc y.k) y.word.data.toList).length = m := ⟨_, rfl⟩
      have hm12 : 1 ≤ m ∧ m ≤ 12 := by rw [← hm]; exact (Nm.isW_iff.1 hword1).2
      have HM := Lib.hid hm
      have HYW := Lib.hid (And.intro hword1 hgj)
      have HFF := Lib.hid HF
      have j40 : (j : Int) < (E.length : Int) := by omega
      clear hword1 hgj HF hm
      have HBD : Hid (Below w.heap.size w wr.drew) := Lib.hid (Nm.drewB HBW.out 1)
      have L2 := Lib.hid (L1.out wr.drew HBD.out)
      clear L1
      go_wp2_with fail
      go_region_held3 (fun w' => w'.cell? ⟨w.heap.size, 2, none⟩ = some (.slice (some ad) E.length c) ∧ w'.cell? (ad.add (j * 3)) = some (.int .i64 y.k) ∧ w'.cell? { block := (ad.add (j * 3)).block, off := (ad.add (j * 3)).off + 1 } = some (.string y.word)) (first | exact ⟨x2, c0, c1⟩ | exact ⟨Nm.cell_bt x2 (Rw.undrew g4), Nm.cell_bt c0 (Rw.undrew g4), Nm.cell_bt c1 (Rw.undrew g4)⟩) (first
        | (go_at_call 33
           (with_reducible refine L2.out.mono ?_)
           rintro e w4 ⟨v4, rfl, o4, g4⟩)
        | fail)
      have g5 := Rw.undrew g4
      obtain ⟨A4, c4, rfl, s4, _, _⟩ := o4.form
      rw [List.length_map, HM.out]
      have HB4 := Lib.hid (Nm.Nb HBW.out g5)
      have HW4 := Lib.hid (HW.out.trans (g5.mono HW.out.size))
      have S4 := Lib.hid s4
      have T4 := Lib.hid (Nm.sbt HT0.out HW4.out)
      have x2 := Nm.cell_bt x2 g5
      have c0 := Nm.cell_bt c0 g5
      have c1 := Nm.cell_bt c1 g5
      have c2 := Nm.cell_bt c2 g5
      clear o4 s4 g4 g5 L2 HBD BXr HW HBW
      obtain ⟨M, hMM⟩ : ∃ M, Nm.ls (Nm.sc y.k) y.word.data.toList = M := ⟨_, rfl⟩
      rw [hMM] at HM S4
      have HMM := Lib.hid hMM
      clear hMM
      by_cases hk : y.k = k
      · have hkb : (y.k == k) = true := by simp [hk]
        have hM2 : Nm.ls (Nm.sc k) y.word.data.toList = M := by rw [← hk]; exact HMM.out
        rw [hM2] at HFF
        clear hM2
        by_cases hmn : m < n1
        · have hmni : (m : Int) < (n1 : Int) := by omega
          have AT := Rw.at_any A1 ca1 ((Rw.lts k x).map Nm.bt) n1 (n1 - m) A4 c4 (M.map Nm.bt) m (by rw [List.length_map]; exact HLL.out) (by rw [List.length_map]; exact HM.out) w4 T4.out S4.out (by have := G1.out.2; omega) (by omega) (by have := G1.out.2; omega)
          rw [show ((n1 - m : Nat) : Int) = (n1 : Int) - (m : Int) from by omega] at AT
          have AT := Lib.hid AT
          have hn12 : n1 ≤ 12 := G1.out.2
          obtain ⟨ab, hab⟩ : ∃ ab, Rw.atB ((Rw.lts k x).map Nm.bt) (n1 - m) (M.map Nm.bt) = ab := ⟨_, rfl⟩
          rw [hab] at AT
          have HAB := Lib.hid hab
          clear hab
          go_wp2_with fail
          refine AT.out.mono ?_
          rintro e w5 ⟨rfl, g6⟩
          have HB5 := Lib.hid (Nm.Nb HB4.out g6)
          have HW5 := Lib.hid (HW4.out.trans (g6.mono HW4.out.size))
          have x2 := Nm.cell_bt x2 g6
          have c0 := Nm.cell_bt c0 g6
          have c1 := Nm.cell_bt c1 g6
          have c2 := Nm.cell_bt c2 g6
          clear g6 HB4 HW4 S4 T4 AT
          cases ab with
          | false =>
            have HE2 : Hid (vv.drop q = Rw.endsF (Rw.lts k x) k (j + 1) (E.drop (j + 1))) := Lib.hid (by rw [HFF.out, if_neg (fun h => h.2 (Rw.end_not HLL.out HM.out (fun h => by rw [HAB.out] at h; cases h.2)))])
            go_wp2
            exact ⟨⟨j + 1, q, by omega, by omega, rfl, by go_num, HE2, HW5⟩, by simp [intOf]; omega⟩
          | true =>
            obtain ⟨e1, e2, e3⟩ := Rw.end_has HWW.out HLL.out HM.out hmn HAB.out
            have hdq : vv.drop q = ⟨Nm.bt (Rw.stem (Rw.lts k x) M), (j : Int), y.cost⟩ :: Rw.endsF (Rw.lts k x) k (j + 1) (E.drop (j + 1)) := by rw [HFF.out, if_pos ⟨hk, e1⟩]
            have hqn : q < vv.length := by
              rcases Nat.lt_or_ge q vv.length with h | h
              · exact h
              · rw [List.drop_eq_nil_of_le h] at hdq
                cases hdq
            rw [List.drop_eq_getElem_cons hqn] at hdq
            simp only [List.cons.injEq] at hdq
            have HE2 := Lib.hid hdq.2
            have hqn3 : q < n3 := by rw [← G3.out.1]; exact hqn
            have hqn3i : (q : Int) < (n3 : Int) := by omega
            have hqn3j : ¬ (n3 : Int) ≤ (q : Int) := by omega
            obtain ⟨vd', e4, hvd2, y0, y1, y2⟩ := (Rw.Vs.bt V3.out HW5.out).at hqn
            cases e4
            rw [hdq.1] at y0 y1 y2
            simp only at y0 y1 y2
            have hsz : (Nm.bt (Rw.stem (Rw.lts k x) M)).size ≤ 24 := by rw [Lib.size_eq, Nm.bt_list]; exact Nm.isW_len e2
            have hysz : y.word.size ≤ 24 := by rw [Lib.size_eq]; exact Nm.isW_len HYW.out.1
            have hMf : M.flatten = y.word.data.toList := by rw [← HMM.out]; exact Nm.ls_sum HYW.out.1
            rw [hMf] at e3
            obtain ⟨st, hst⟩ : ∃ st, Nm.bt (Rw.stem (Rw.lts k x) M) = st := ⟨_, rfl⟩
            have hcat : st ++ y.word = s := by
              rw [← HS.out, ← hst]
              refine ByteArray.ext (Array.toList_inj.1 ?_)
              unfold Rw.fd
              rw [Nm.bt_list]
              simp only [ByteArray.data_append, Array.toList_append]
              rw [← e3, Nm.bt_list]
            rw [hst] at y0 hsz
            have hss : ¬ 9223372036854775807 < st.size + y.word.size := by omega
            have L5 := Lib.hid (fun v (g : Below w.heap.size w v) => Nm.letters_ok k st v (by rw [← hst, Nm.bt_list]; exact e2) (by unfold maxLen; omega) (HP.out v g).tb)
            clear e1 e2 e3 hdq hqn hst hMf HFF
            go_wp2
            go_quiet (fail)
            go_wp2_with fail
            refine (L5.out _ (Nm.drewB HB5.out _)).mono ?_
            rintro e w6 ⟨v6, rfl, o6, g6⟩
            have HW6 := Lib.hid ((Nm.drewB HW5.out _).trans (g6.mono (Nm.drewB HW5.out _).size))
            clear g6 o6
            go_wp2
            exact ⟨⟨j + 1, q + 1, by omega, by omega, by go_num, by go_num, HE2, HW6⟩, by simp [intOf]; omega⟩
        · have hmni : ¬ (m : Int) < (n1 : Int) := by omega
          have HE2 : Hid (vv.drop q = Rw.endsF (Rw.lts k x) k (j + 1) (E.drop (j + 1))) := Lib.hid (by rw [HFF.out, if_neg (fun h => h.2 (Rw.end_not HLL.out HM.out (fun h => hmn h.1)))])
          go_wp2
          exact ⟨⟨j + 1, q, by omega, by omega, rfl, by go_num, HE2, HW4⟩, by simp [intOf]; omega⟩
      · have hkb : (y.k == k) = false := by simp [hk]
        have HE2 : Hid (vv.drop q = Rw.endsF (Rw.lts k x) k (j + 1) (E.drop (j + 1))) := Lib.hid (by rw [HFF.out, if_neg (fun h => hk h.1)])
        go_wp2
        exact ⟨⟨j + 1, q, by omega, by omega, rfl, by go_num, HE2, HW4⟩, by simp [intOf]; omega⟩
    · obtain rfl : j = E.length := by omega
      have HQ : Hid (q = n3) := Lib.hid (by
        have h1 := HE.out
        rw [List.drop_eq_nil_of_le (Nat.le_refl _)] at h1
        have h2 : vv.drop q = [] := h1
        have := List.drop_eq_nil_iff.1 h2
        have := G3.out.1
        omega)
      obtain rfl := HQ.out
      go_wp2
      go_ret
      exact ⟨rfl, HBW.out⟩
end Go.Proofs.YtkddpealobeleaaGreatDoor
