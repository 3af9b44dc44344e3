/- Layer 10: newSearch. -/
import Derived.Test.YtkddpealobeleaaGreatDoorRwPS
import Derived.Test.YtkddpealobeleaaGreatDoorRoundW
import Derived.BigFrameIn
import Derived.BigGuardIn
set_option linter.unusedSimpArgs false
set_option linter.unusedVariables false
namespace Go.Proofs.YtkddpealobeleaaGreatDoor
open Go.RowKit Go.Shelf
set_option maxRecDepth 100000
set_option maxHeartbeats 8000000
attribute [-go_sem] Builtin.append_
attribute [local go_sem] Oper.semAt_some
theorem Rw.box3 {W : World} {b : Nat} {x y z : Value} {ty : TypeId} (h : W.heap[b]? = some (.cells #[x, y, z] ty (0, 0))) (k l : Value) :
    W.cell? ⟨b, 0, none⟩ = some x ∧ W.cell? ⟨b, 1, none⟩ = some y ∧ W.cell? ⟨b, 2, none⟩ = some z ∧ W.frozen? ⟨b, 0, none⟩ = false ∧ W.frozen? ⟨b, 1, none⟩ = false ∧ W.frozen? ⟨b, 2, none⟩ = false ∧
      (W.setCell ⟨b, 0, none⟩ k).cell? ⟨b, 1, none⟩ = some y ∧ (W.setCell ⟨b, 0, none⟩ k).frozen? ⟨b, 1, none⟩ = false ∧
      ((W.setCell ⟨b, 0, none⟩ k).setCell ⟨b, 1, none⟩ l).cell? ⟨b, 2, none⟩ = some z ∧ ((W.setCell ⟨b, 0, none⟩ k).setCell ⟨b, 1, none⟩ l).frozen? ⟨b, 2, none⟩ = false := by
  refine ⟨by simp [World.cell?, h], by simp [World.cell?, h], by simp [World.cell?, h], Lib.frozen_of_heap h 0, Lib.frozen_of_heap h 1, Lib.frozen_of_heap h 2, ?_, ?_, ?_, ?_⟩
  · simp [World.setCell, World.cell?, Array.getElem?_modify, h]
  · rw [World.frozen?_setCell]
    exact Lib.frozen_of_heap h 1
  · simp [World.setCell, World.cell?, Array.getElem?_modify, h]
  · rw [World.frozen?_setCell, World.frozen?_setCell]
    exact Lib.frozen_of_heap h 2
/-- What newSearch gives. -/
def Rw.SePost (w : World) (n : Nat) (most : Int) (RU : List Rw.Ru) (L : List Nm.T) (e : Ending) (w' : World) : Prop :=
  ∃ gs gr sb vs rv, e = .returned (.agg #[.slice (some ⟨gs, 0, none⟩) n n, .slice (some ⟨gr, 0, none⟩) (n + 1) (n + 1), .int .i64 (min most 12000)]) ∧ Rw.Ns w' gs gr sb (w.heap.size + 4) n (min most 12000) vs rv (Rw.steps RU L) ∧ Rw.Right RU L n 0 rv ∧ Below w.heap.size w w' ∧ (w.heap.size < gs ∧ w.heap.size < gr ∧ w.heap.size < sb)
theorem Rw.search_any (AR AL : Option Addr) (a cL : Nat) (R : List Rw.Rl) (nR : Nat) (hR : R.length = nR) (L : List Nm.T) (n : Nat) (hL : L.length = n) (k most : Int) (w : World) (h1 : 1 ≤ n) (hn : n ≤ 12) (hnR : nR ≤ 80) (hcL : n ≤ cL) (hcm : cL ≤ maxLen)
    (hr : Rw.Rls w w.heap.size AR R) (hgr : Rw.AllRl R) (hf : ∀ x ∈ R, Rw.okF x.k x.frm.data.toList 3 = true ∧ Rw.okTo x.to.data.toList = true ∧ 0 ≤ x.cost ∧ x.cost ≤ 1000) (hl : Strs w w.heap.size AL (L.map Nm.bt)) (hT : Nm.Tb w.heap.size w) :
    Calls Tryz.prog 37 #[.slice AR nR a, .int .i64 k, .slice AL n cL, .int .i64 most] w (Rw.SePost w n most (Rw.rus k R) L) := by
  have hm1 := Rw.make_ss n (by omega)
  have hm2 := Rw.make_r n (by omega)
  have F1 := Lib.hid (Rw.four' w)
  have HR := Lib.hid hr
  have HGR := Lib.hid hgr
  have HF := Lib.hid hf
  have HL := Lib.hid hl
  have HTb := Lib.hid hT
  have HLN := Lib.hid (And.intro hR hL)
  obtain ⟨al, rfl, hal, _⟩ := hl 0 (by rw [List.length_map, hL]; omega)
  unfold maxLen at hcm
  clear hr hgr hf hl hT hR hL hal
  refine (callsIn_wide (n := 6)).1 ?_
  refine callsIn_of_wp_marks Tryz.func37 rfl trivial ?_ rfl
  simp only [Tryz.ntmps37, List.size_toArray, List.length_cons, List.length_nil, Nat.reduceAdd, Nat.reduceSub, Array.replicate_succ, Array.replicate_zero, List.push_toArray, List.append_toArray, List.nil_append, List.cons_append]
  refine (wpIn_wide (n := 6)).2 ?_
  go_wp2_with fail
  go_cut [9] from 20 to 29 (fun s9 wx => Rw.Made w n (min most 12000) s9 wx)
  case first =>
    go_region
    all_goals (go_wp2_with fail)
    all_goals go_meet
    all_goals (
      obtain ⟨f0, f1, f2, f3, fz, fb⟩ := F1.out _ _ _ _
      first
        | exact Rw.made_of w n _ 0 0 0 _ (w.heap.size + 1) (w.heap.size + 1 + 1) (w.heap.size + 1 + 1 + 1) f0 f1 f2 f3 fz fb (by omega)
        | exact Rw.made_of w n _ 0 0 0 _ (w.heap.size + 1 + 1) (w.heap.size + 1) (w.heap.size + 1 + 1 + 1) f0 f2 f1 f3 fz fb (by omega)
        | exact Rw.made_of w n _ 0 0 0 _ (w.heap.size + 1) (w.heap.size + 1 + 1 + 1) (w.heap.size + 1 + 1) f0 f1 f3 f2 fz fb (by omega)
        | exact Rw.made_of w n _ 0 0 0 _ (w.heap.size + 1 + 1 + 1) (w.heap.size + 1) (w.heap.size + 1 + 1) f0 f3 f1 f2 fz fb (by omega)
        | exact Rw.made_of w n _ 0 0 0 _ (w.heap.size + 1 + 1) (w.heap.size + 1 + 1 + 1) (w.heap.size + 1) f0 f2 f3 f1 fz fb (by omega)
        | exact Rw.made_of w n _ 0 0 0 _ (w.heap.size + 1 + 1 + 1) (w.heap.size + 1 + 1) (w.heap.size + 1) f0 f3 f2 f1 fz fb (by omega))
  case rest =>
    clear hm1 hm2 F1
    obtain ⟨gs, gr, sb, rfl, hNS, hD, hBW, hRB⟩ := hcut
    have HD := Lib.hid hD
    have HBW := Lib.hid hBW
    have HNS := Lib.hid (hNS.congr (su := Rw.steps (Rw.rus k (R.take 0)) L) (fun p _ => by simp [Rw.rus, Rw.steps]))
    have HRB := Lib.hid hRB
    clear hNS hD hBW hRB
    go_wp2_with fail
    go_loopw [32] (fun s32 wr => ∃ (i : Nat) (vs : List Value), i ≤ nR ∧ s32 = .int .i64 (i : Int) ∧ Hid (Rw.Ns wr gs gr sb (w.heap.size + 4) n (min most 12000) vs (Rw.rv0 n) (Rw.steps (Rw.rus k (R.take i)) L)) ∧ Hid (Below (w.heap.size + 1) wc wr)) (fun s32 _ => nR - (intOf s32).toNat)
    case atStart => exact ⟨0, _, Nat.zero_le _, rfl, HNS, Lib.hid (Below.refl _ _)⟩
    case round =>
      clear HNS
      obtain ⟨wr0, hwr0⟩ : ∃ wr0, wr = wr0 := ⟨_, rfl⟩
      rw [hwr0] at hrel ⊢
      clear hwr0
      obtain ⟨i, vs, hi, rfl, HNS, HBR⟩ := hrel
      have HNSZ : Hid (w.heap.size + 4 ≤ wr0.heap.size) := Lib.hid HNS.out.sz
      have HBw := Lib.hid (HBW.out.trans (HBR.out.mono (by omega)))
      by_cases hlt : i < nR
      · have hil : i < R.length := by rw [HLN.out.1]; exact hlt
        have hlti : (i : Int) < (nR : Int) := by omega
        have hi0 : (0 : Int) ≤ (i : Int) := by omega
        obtain ⟨ad, e0, had, c0, c1, c2, c3⟩ := (HR.out.below HBw.out (Nat.le_refl _)).at hil
        have hsn := Rw.rus_snoc k R i hil
        have hfi := HF.out _ (List.getElem_mem hil)
        have hgi := HGR.out _ (List.getElem_mem hil)
        obtain ⟨y, hy⟩ : ∃ y, R[i] = y := ⟨_, rfl⟩
        rw [hy] at hsn hfi hgi c0 c1 c2 c3
        subst e0
        have HSN := Lib.hid hsn
        have HFI := Lib.hid hfi
        have hyf := hgi.frm
        have hA := Nm.al wr0 (.cells #[.int .i64 y.k, .string y.frm, .string y.to, .int .i64 y.cost] 52)
        have BY : Hid (Rw.Bx (wr0.alloc (.cells #[.int .i64 y.k, .string y.frm, .string y.to, .int .i64 y.cost] 52)) wr0.heap.size #[.int .i64 y.k, .string y.frm, .string y.to, .int .i64 y.cost] 52) := Lib.hid (heap_alloc_new _ _)
        have HNS1 := Lib.hid (HNS.out.bt hA)
        have hsz0 : w.heap.size + 1 ≤ wr0.heap.size := by have := HNS.out.sz; omega
        have HBR1 := Lib.hid (HBR.out.trans (hA.mono hsz0))
        have HBw1 := Lib.hid (Rw.Nb HBw.out hA)
        have HOFF := Lib.hid (Rw.off_new HNS.out (Nat.le_refl wr0.heap.size))
        have hlt1 : wr0.heap.size < (wr0.alloc (.cells #[.int .i64 y.k, .string y.frm, .string y.to, .int .i64 y.cost] 52)).heap.size := by simp
        have HLT1 := Lib.hid hlt1
        clear hy hil had hsn hfi hgi hA HNS HBR HBw hlt1
        by_cases hk : y.k = k
        · have hk1 : (y.k != k) = false := by simp [hk]
          have HRU : Hid (Rw.rus k (R.take (i + 1)) = Rw.rus k (R.take i) ++ [Rw.ru y]) := Lib.hid (by rw [HSN.out, if_pos hk])
          obtain ⟨_, hwy, _, hl3⟩ := Rw.okF_word HFI.out.1
          have hwk : Nm.isW (Nm.sc k) y.frm.data.toList = true := by rw [← hk]; exact hwy
          obtain ⟨_, hm1, hm12⟩ := Nm.isW_iff.1 hwk
          have hrf : (Rw.ru y).frm = Nm.ls (Nm.sc k) y.frm.data.toList := by unfold Rw.ru; rw [hk]
          have L1 := Lib.hid (fun v (hv : Below w.heap.size w v) => Nm.letters_ok k y.frm v hwk hyf (HTb.out.bt hv))
          obtain ⟨F, hFF⟩ : ∃ F, Nm.ls (Nm.sc k) y.frm.data.toList = F := ⟨_, rfl⟩
          rw [hFF] at L1 hm1 hm12 hrf
          obtain ⟨m, hm⟩ : ∃ m, F.length = m := ⟨_, rfl⟩
          rw [hm] at hm1 hm12
          have hFm : (F.map Nm.bt).length = m := by rw [List.length_map, hm]
          have HM := Lib.hid (And.intro hFm (And.intro hrf (show (Rw.ru y).frm.length = m by rw [hrf, hm])))
          clear hwy hwk hFF hm hFm hrf hl3 hyf hk
          go_wp2_with fail
          refine (L1.out _ HBw1.out).mono ?_
          rintro e v ⟨u, rfl, o, g⟩
          have HNS2 := Lib.hid (HNS1.out.bt g)
          have HBR2 := Lib.hid (HBR1.out.trans (g.mono (by have := HLT1.out; omega)))
          have HBw2 := Lib.hid (Rw.Nb HBw1.out g)
          have HBY2 := Lib.hid (BY.out.bt g)
          have hol := OwnS.lt o
          obtain ⟨A2, c2', rfl, s2, hc2, hc2m⟩ := o.form
          obtain ⟨fd, rfl, hfd, _⟩ := s2 0 (by rw [HM.out.1]; omega)
          have hfl := hol fd.block rfl
          rw [HM.out.1] at hc2 ⊢
          have HS2 := Lib.hid s2
          have HFB := Lib.hid (And.intro hfl.1 hfl.2)
          have HOFF2 := Lib.hid (Rw.off_new HNS1.out hfl.1)
          have HSZ : Hid (wr0.heap.size < fd.block) := Lib.hid (Nat.lt_of_lt_of_le HLT1.out hfl.1)
          clear hol o g s2 hfd hfl HNS1 HBR1 HBw1 BY L1 c0 c1 c2 c3
          go_wp2_with fail
          go_loopw [14] (fun s14 wr2 => ∃ (x : Nat) (vs2 : List Value), m ≤ x ∧ (x ≤ n + 1 ∨ x = m) ∧ s14 = .int .i64 (x : Int) ∧ Hid (Rw.Ns wr2 gs gr sb (w.heap.size + 4) n (min most 12000) vs2 (Rw.rv0 n) (Rw.stI (Rw.rus k (R.take i)) (Rw.ru y) L m x)) ∧ Hid (Below (w.heap.size + 1) wc wr2) ∧ Hid (Rw.Off1 vs2 wr0.heap.size) ∧ Hid (Rw.Off1 vs2 fd.block) ∧
            Hid (Rw.Bx wr2 wr0.heap.size #[.int .i64 y.k, .string y.frm, .string y.to, .int .i64 y.cost] 52) ∧ Hid (Strs wr2 wr2.heap.size (some fd) (F.map Nm.bt)) ∧ Hid (fd.block < wr2.heap.size)) (fun s14 _ => n + 1 - (intOf s14).toNat)
          case atStart => exact ⟨m, vs, Nat.le_refl _, .inr rfl, rfl, Lib.hid (HNS2.out.congr fun p _ => (Rw.stI_start _ _ _ _ _).symm), HBR2, HOFF, HOFF2, HBY2, HS2, Lib.hid HFB.out.2⟩
          case round =>
            obtain ⟨x, vs2, hmx, hxn, rfl, HNS3, HB3, HO1, HO2, HBY3, HS3, HFB3⟩ := hrel
            clear HNS2 HBR2 HOFF HOFF2 HBY2 HS2 HFB
            by_cases hlt2 : x ≤ n
            · obtain ⟨pl, rfl⟩ : ∃ pl, x = m + pl := ⟨x - m, by omega⟩
              have hx0 : (m : Int) + (pl : Int) ≤ (n : Int) := by omega
              have hp0 : (0 : Int) ≤ (pl : Int) := by omega
              have hp1 : (pl : Int) ≤ (m : Int) + (pl : Int) := by omega
              have hp2 : (m : Int) + (pl : Int) ≤ (cL : Int) := by omega
              have hncp : ¬ (cL = pl) := by omega
              have hsub : (m : Int) + (pl : Int) - (m : Int) = (pl : Int) := by omega
              have hpln : pl < n := by omega
              have hplni : (pl : Int) < (n : Int) := by omega
              have hdl : (((L.map Nm.bt).drop pl).take m).length = m := by rw [List.length_take, List.length_drop, List.length_map, HLN.out.2]; omega
              have SLW := (HL.out.below (HBW.out.trans (HB3.out.mono (by omega))) (Nat.le_refl _))
              have SLW2 : Strs wr wr.heap.size (some al) (L.map Nm.bt) := fun j hj => by
                obtain ⟨ad', e, hlt', hc⟩ := SLW j hj
                exact ⟨ad', e, Nat.lt_of_lt_of_le hlt' (by have := HNS3.out.sz; omega), hc⟩
              have EQ := Rw.equal_any (some (al.add pl)) (cL - pl) (((L.map Nm.bt).drop pl).take m) (some fd) c2' (F.map Nm.bt) wr (Rw.strs_take (Rw.strs_drop SLW2 pl) m) HS3.out (by rw [hdl]; unfold maxLen; omega) (by rw [HM.out.1]; unfold maxLen; omega)
              rw [hdl, HM.out.1] at EQ
              have hfe : decide (((L.map Nm.bt).drop pl).take m = F.map Nm.bt) = Rw.fits L pl (Rw.ru y) := by
                have h3 := Rw.fits_eq L (m + pl) m (Rw.ru y) HM.out.2.2 (by omega) (by rw [HLN.out.2]; omega)
                rw [show m + pl - m = pl from by omega] at h3
                rw [h3, HM.out.2.1, ← List.map_drop, ← List.map_take]
                exact decide_eq_decide.2 Rw.bt_inj
              rw [hfe] at EQ
              clear SLW SLW2 hdl hfe
              cases hft : Rw.fits L pl (Rw.ru y) with
              | false =>
                rw [hft] at EQ
                have EQH := Lib.hid EQ
                have HST : Hid (∀ p, Rw.stI (Rw.rus k (R.take i)) (Rw.ru y) L m (m + pl + 1) p = Rw.stI (Rw.rus k (R.take i)) (Rw.ru y) L m (m + pl) p) := Lib.hid (fun p => Rw.stI_miss _ _ L m (m + pl) p HM.out.2.2 (by omega) (by rw [show m + pl - m = pl from by omega]; exact hft))
                clear EQ hft
                go_wp2_with fail
                refine EQH.out.mono ?_
                rintro e v3 ⟨rfl, g⟩
                have HNS4 := Lib.hid ((HNS3.out.bt g).congr fun p _ => (HST.out p).symm)
                have HB4 := Lib.hid (HB3.out.trans (g.mono (by have := HNS3.out.sz; omega)))
                have HBY4 := Lib.hid (HBY3.out.bt g)
                have HS4 := Lib.hid (Nm.sbt HS3.out g)
                have HFB4 : Hid (fd.block < v3.heap.size) := Lib.hid (Nat.lt_of_lt_of_le HFB3.out g.size)
                clear g HST
                go_wp2
                exact ⟨⟨m + pl + 1, vs2, by omega, by omega, by go_num, HNS4, HB4, HO1, HO2, HBY4, HS4, HFB4⟩, by simp [intOf]; omega⟩
              | true =>
                rw [hft] at EQ
                have EQH := Lib.hid EQ
                obtain ⟨cy, hcy⟩ : ∃ cy : Nat, y.cost = (cy : Int) := ⟨y.cost.toNat, by have := HFI.out.2.2.1; omega⟩
                have HST : Hid (∀ p, Rw.stI (Rw.rus k (R.take i)) (Rw.ru y) L m (m + pl + 1) p = if p = pl then Rw.stI (Rw.rus k (R.take i)) (Rw.ru y) L m (m + pl) pl ++ [(m + pl, cy, y.to.data.toList)] else Rw.stI (Rw.rus k (R.take i)) (Rw.ru y) L m (m + pl) p) := Lib.hid (fun p => by
                  have h3 := Rw.stI_hit (Rw.rus k (R.take i)) (Rw.ru y) L m (m + pl) p HM.out.2.2 (by omega) (by rw [show m + pl - m = pl from by omega]; exact hft)
                  rw [show m + pl - m = pl from by omega] at h3
                  rw [h3]
                  have : (Rw.ru y).cost = cy := by unfold Rw.ru; simp [hcy]
                  rw [this]
                  rfl)
                have hcs : (Rw.KS.cs (m + pl, cy, y.to.data.toList)).toArray = #[.int .i64 ((m : Int) + (pl : Int)), .int .i64 y.cost, .string y.to] := by
                  have hbt : Nm.bt y.to.data.toList = y.to := ByteArray.ext (Array.toList_inj.1 (Nm.bt_list _))
                  rw [hcy]
                  simp [Rw.KS, hbt]
                have HCS := Lib.hid hcs
                clear EQ hft hcy hcs
                go_wp2_with fail
                refine EQH.out.mono ?_
                rintro e v3 ⟨rfl, g⟩
                have HNS4 := Lib.hid (HNS3.out.bt g)
                have HB4 := Lib.hid (HB3.out.trans (g.mono (by have := HNS3.out.sz; omega)))
                have HBY4 := Lib.hid (HBY3.out.bt g)
                have HS4 := Lib.hid (Nm.sbt HS3.out g)
                have HFB4 : Hid (fd.block < v3.heap.size) := Lib.hid (Nat.lt_of_lt_of_le HFB3.out g.size)
                have hfew : (Rw.stI (Rw.rus k (R.take i)) (Rw.ru y) L m (m + pl) pl).length ≤ 1000 := by
                  have h3 := Rw.stI_few (Rw.rus k (R.take i)) (Rw.ru y) L m (m + pl) pl
                  have h4 := Rw.rus_few k (R.take i)
                  rw [List.length_take] at h4
                  omega
                obtain ⟨gn, cap, w3, hrun, s1, s2, s3, s4, s5, s6, s7⟩ := Rw.Ns.add HNS4.out pl hpln (m + pl, cy, y.to.data.toList) hfew
                rw [HCS.out] at hrun s1
                have hls := HNS4.out.ls
                have hpv : pl < vs2.length := by rw [hls]; exact hpln
                obtain ⟨u, hu⟩ : ∃ u, vs2[pl]'hpv = u := ⟨_, rfl⟩
                have hsl := HNS4.out.s pl hpln
                have hsA := s1.s pl hpln
                rw [hu] at hrun s2 s6 hsl hsA
                have e1 : v3.heap.size = v3.drew.heap.size := rfl
                have hbk : ∀ q (hq : q < vs2.length), vs2[q].ownBlock ≠ some sb := fun q hq e => by
                  have h3 := ((HNS4.out.own q hq).lt sb e).1
                  have h4 := HNS4.out.k3
                  omega
                have q1 := s7 sb (by have := HNS4.out.k3; have := HNS4.out.sz; omega) (Ne.symm HNS4.out.d2) hbk
                have q2 := s7 wr0.heap.size (HBY4.out.lt) (by have := HNS4.out.k1; have := HNSZ.out; omega) HO1.out
                have q3 := s7 fd.block HFB4.out (by have := HNS4.out.k1; have := HNSZ.out; have := HSZ.out; omega) HO2.out
                have a0 := HNS4.out.b0
                have b2 := HBY4.out.c 2 _ rfl
                have b3 := HBY4.out.c 3 _ rfl
                have HBYA := HBY4.out.bt (Nm.al v3 (.cells #[.int .i64 ((m : Int) + (pl : Int)), .int .i64 y.cost, .string y.to] 130))
                have a0A := s1.b0
                have b2A := HBYA.c 2 _ rfl
                have b3A := HBYA.c 3 _ rfl
                have cell_eq : ∀ {U : World} {b : Nat} (hb : U.heap[b]? = v3.heap[b]?) (o : Nat), U.cell? ⟨b, o, none⟩ = v3.cell? ⟨b, o, none⟩ := fun hb o => by simp [World.cell?, hb]
                have a03 := (cell_eq q1.1 0).trans a0
                have b23 := (cell_eq q2.1 2).trans b2
                have b33 := (cell_eq q2.1 3).trans b3
                have a04 := (cell_eq q1.2 0).trans a0
                have b24 := (cell_eq q2.2 2).trans b2
                have b34 := (cell_eq q2.2 3).trans b3
                have HNSN := Lib.hid (s4.congr (su := Rw.stI (Rw.rus k (R.take i)) (Rw.ru y) L m (m + pl + 1)) fun p _ => (HST.out p).symm)
                have HBN := Lib.hid (HB4.out.trans (s5 (w.heap.size + 1) (by have := HD.out.1; omega) (by omega)))
                have hsz4 := (s5 0 (Nat.zero_le _) (Nat.zero_le _)).size
                have HON1 := Lib.hid (Rw.off_set HO1.out hpv (W := v3.heap.size) HBY4.out.lt (by rw [hu]; exact s6) ((Rw.stI (Rw.rus k (R.take i)) (Rw.ru y) L m (m + pl) pl).length + 1) cap)
                have HON2 := Lib.hid (Rw.off_set HO2.out hpv (W := v3.heap.size) HFB4.out (by rw [hu]; exact s6) ((Rw.stI (Rw.rus k (R.take i)) (Rw.ru y) L m (m + pl) pl).length + 1) cap)
                have HBYN := Lib.hid (show Rw.Bx _ wr0.heap.size _ _ from q2.2.trans HBY4.out)
                have HSN4 : Hid (Strs (w3.setCell ⟨gs, pl, none⟩ (.slice (some ⟨gn, 0, none⟩) ((Rw.stI (Rw.rus k (R.take i)) (Rw.ru y) L m (m + pl) pl).length + 1) cap)) (w3.setCell ⟨gs, pl, none⟩ (.slice (some ⟨gn, 0, none⟩) ((Rw.stI (Rw.rus k (R.take i)) (Rw.ru y) L m (m + pl) pl).length + 1) cap)).heap.size (some fd) (F.map Nm.bt)) := Lib.hid (fun j hj => by
                  obtain ⟨ad', e, hlt', hc⟩ := HS4.out j hj
                  cases e
                  refine ⟨fd, rfl, Nat.lt_of_lt_of_le hlt' hsz4, ?_⟩
                  rw [← hc]
                  exact World.cell?_of_block (by rw [add_block]; exact q3.2))
                have HFBN : Hid (fd.block < (w3.setCell ⟨gs, pl, none⟩ (.slice (some ⟨gn, 0, none⟩) ((Rw.stI (Rw.rus k (R.take i)) (Rw.ru y) L m (m + pl) pl).length + 1) cap)).heap.size) := Lib.hid (Nat.lt_of_lt_of_le HFB4.out hsz4)
                clear s1 s4 s5 s6 s7 q1 q2 q3 cell_eq HBYA hbk hsz4 e1 g
                generalize (Rw.stI (Rw.rus k (R.take i)) (Rw.ru y) L m (m + pl) pl).length = sl at *
                replace hrun : (Builtin.append_ #[128, 128] 128 #[u, .slice (some ⟨v3.heap.size, 0, none⟩) 1 1]).run Tryz.prog (v3.alloc (.cells #[.int .i64 ((m : Int) + (pl : Int)), .int .i64 y.cost, .string y.to] 130)).drew = .ok (.slice (some ⟨gn, 0, none⟩) (sl + 1) cap) w3 := hrun
                have sa' : (v3.alloc (.cells #[.int .i64 ((m : Int) + (pl : Int)), .int .i64 y.cost, .string y.to] 130)).drew.cell? ⟨gs, pl, none⟩ = some u := hsA
                have sz' : v3.drew.cell? ⟨gs, pl, none⟩ = some u := hsl
                have z0 : v3.drew.cell? ⟨sb, 0, none⟩ = some (.slice (some ⟨gs, 0, none⟩) n n) := a0
                have z2 : v3.drew.cell? ⟨wr0.heap.size, 2, none⟩ = some (.string y.to) := b2
                have z3 : v3.drew.cell? ⟨wr0.heap.size, 3, none⟩ = some (.int .i64 y.cost) := b3
                have y0 : (v3.alloc (.cells #[.int .i64 ((m : Int) + (pl : Int)), .int .i64 y.cost, .string y.to] 130)).drew.cell? ⟨sb, 0, none⟩ = some (.slice (some ⟨gs, 0, none⟩) n n) := a0A
                have y2 : (v3.alloc (.cells #[.int .i64 ((m : Int) + (pl : Int)), .int .i64 y.cost, .string y.to] 130)).drew.cell? ⟨wr0.heap.size, 2, none⟩ = some (.string y.to) := b2A
                have y3 : (v3.alloc (.cells #[.int .i64 ((m : Int) + (pl : Int)), .int .i64 y.cost, .string y.to] 130)).drew.cell? ⟨wr0.heap.size, 3, none⟩ = some (.int .i64 y.cost) := b3A
                clear hsA hsl a0 b2 b3 a0A b2A b3A
                go_wp2_with fail
                refine Code.wp_mono Rw.onN_le ?_
                refine wp_region_held_drew (S := fun w' => w'.cell? ⟨sb, 0, none⟩ = some (.slice (some ⟨gs, 0, none⟩) n n) ∧ w'.cell? ⟨wr0.heap.size, 2, none⟩ = some (.string y.to) ∧ w'.cell? ⟨wr0.heap.size, 3, none⟩ = some (.int .i64 y.cost)) (by kernel_rfl) ⟨z0, z2, z3⟩ (fun hH => ?_)
                refine wpAnyH_take (i := 0) (v := ?v0) rfl (by kernel_rfl) (by kernel_rfl) (by kernel_rfl) (fun _ _ _ h => h) (Or.inl ⟨by rfl, ?hy0⟩) hH ?rest0
                case hy0 =>
                  intro w' hSw
                  obtain ⟨k1, k2, k3⟩ := hSw
                  go_simp
                  try with_reducible rfl
                try simp only [Act.put, List.setIfInBounds_toArray, List.set_cons_zero, List.set_cons_succ]
                refine wpAnyH_take (i := 1) (v := ?v1) rfl (by kernel_rfl) (by kernel_rfl) (by kernel_rfl) (fun _ _ _ h => h) (Or.inl ⟨by rfl, ?hy1⟩) hH ?rest1
                case hy1 =>
                  intro w' hSw
                  obtain ⟨k1, k2, k3⟩ := hSw
                  go_simp
                  try with_reducible rfl
                try simp only [Act.put, List.setIfInBounds_toArray, List.set_cons_zero, List.set_cons_succ]
                refine wpAnyH_take (i := 2) (v := ?v2) rfl (by kernel_rfl) (by kernel_rfl) (by kernel_rfl) (fun _ _ _ h => h) (Or.inl ⟨by rfl, ?hy2⟩) hH ?rest2
                case hy2 =>
                  intro w' hSw
                  obtain ⟨k1, k2, k3⟩ := hSw
                  go_simp
                  try with_reducible rfl
                try simp only [Act.put, List.setIfInBounds_toArray, List.set_cons_zero, List.set_cons_succ]
                refine wpAnyH_take (i := 3) (v := ?v3) rfl (by kernel_rfl) (by kernel_rfl) (by kernel_rfl) (fun _ _ _ h => h) (Or.inl ⟨by rfl, ?hy3⟩) hH ?rest3
                case hy3 =>
                  intro w' hSw
                  obtain ⟨k1, k2, k3⟩ := hSw
                  go_simp
                  try with_reducible rfl
                try simp only [Act.put, List.setIfInBounds_toArray, List.set_cons_zero, List.set_cons_succ]
                refine wpAnyH_take (i := 4) (v := ?v4) rfl (by kernel_rfl) (by kernel_rfl) (by kernel_rfl) (fun _ _ _ h => h) (Or.inl ⟨by rfl, ?hy4⟩) hH ?rest4
                case hy4 =>
                  intro w' hSw
                  obtain ⟨k1, k2, k3⟩ := hSw
                  go_simp
                  try with_reducible rfl
                try simp only [Act.put, List.setIfInBounds_toArray, List.set_cons_zero, List.set_cons_succ]
                refine wpAnyH_take (i := 5) (v := ?v5) rfl (by kernel_rfl) (by kernel_rfl) (by kernel_rfl) (fun _ _ _ h => h) (Or.inl ⟨by rfl, ?hy5⟩) hH ?rest5
                case hy5 =>
                  intro w' hSw
                  obtain ⟨k1, k2, k3⟩ := hSw
                  go_simp
                  try with_reducible rfl
                try simp only [Act.put, List.setIfInBounds_toArray, List.set_cons_zero, List.set_cons_succ]
                refine wpAnyH_take (i := 6) (v := ?v6) rfl (by kernel_rfl) (by kernel_rfl) (by kernel_rfl) (fun _ _ _ h => h) (Or.inl ⟨by rfl, ?hy6⟩) hH ?rest6
                case hy6 =>
                  intro w' hSw
                  obtain ⟨k1, k2, k3⟩ := hSw
                  go_simp
                  try with_reducible rfl
                try simp only [Act.put, List.setIfInBounds_toArray, List.set_cons_zero, List.set_cons_succ]
                refine wpAnyH_take (i := 8) (v := ?v8) rfl (by kernel_rfl) (by kernel_rfl) (by kernel_rfl) (fun _ _ _ h => h) (Or.inl ⟨by rfl, ?hy8⟩) hH ?rest8
                case hy8 =>
                  intro w' hSw
                  obtain ⟨k1, k2, k3⟩ := hSw
                  go_simp
                  try with_reducible rfl
                try simp only [Act.put, List.setIfInBounds_toArray, List.set_cons_zero, List.set_cons_succ]
                refine wpAnyH_take (i := 9) (v := ?v9) rfl (by kernel_rfl) (by kernel_rfl) (by kernel_rfl) (fun _ _ _ h => h) (Or.inl ⟨by rfl, ?hy9⟩) hH ?rest9
                case hy9 =>
                  intro w' hSw
                  obtain ⟨k1, k2, k3⟩ := hSw
                  go_simp
                  try with_reducible rfl
                try simp only [Act.put, List.setIfInBounds_toArray, List.set_cons_zero, List.set_cons_succ]
                refine wpAnyH_take (i := 10) (v := ?v10) rfl (by kernel_rfl) (by kernel_rfl) (by kernel_rfl) (fun _ _ _ h => h) (Or.inl ⟨by rfl, ?hy10⟩) hH ?rest10
                case hy10 =>
                  intro w' hSw
                  obtain ⟨k1, k2, k3⟩ := hSw
                  go_simp
                  try with_reducible rfl
                try simp only [Act.put, List.setIfInBounds_toArray, List.set_cons_zero, List.set_cons_succ]
                refine wpAnyH_take (i := 11) (v := ?v11) rfl (by kernel_rfl) (by kernel_rfl) (by kernel_rfl) (fun _ _ _ h => h) (Or.inl ⟨by rfl, ?hy11⟩) hH ?rest11
                case hy11 =>
                  intro w' hSw
                  obtain ⟨k1, k2, k3⟩ := hSw
                  go_simp
                  try with_reducible rfl
                try simp only [Act.put, List.setIfInBounds_toArray, List.set_cons_zero, List.set_cons_succ]
                refine wpAnyH_take (i := 12) (v := ?v12) rfl (by kernel_rfl) (by kernel_rfl) (by kernel_rfl) (fun _ _ _ h => h) (Or.inl ⟨by rfl, ?hy12⟩) hH ?rest12
                case hy12 =>
                  intro w' hSw
                  obtain ⟨k1, k2, k3⟩ := hSw
                  go_simp
                  try with_reducible rfl
                try simp only [Act.put, List.setIfInBounds_toArray, List.set_cons_zero, List.set_cons_succ]
                refine wpAnyH_take (i := 13) (v := ?v13) rfl (by kernel_rfl) (by kernel_rfl) (by kernel_rfl) (fun _ _ _ h => h) (Or.inl ⟨by rfl, ?hy13⟩) hH ?rest13
                case hy13 =>
                  intro w' hSw
                  obtain ⟨k1, k2, k3⟩ := hSw
                  go_simp
                  try with_reducible rfl
                try simp only [Act.put, List.setIfInBounds_toArray, List.set_cons_zero, List.set_cons_succ]
                refine wpAnyH_ready (rs := [7, 14]) (by kernel_rfl) (by simp) ?_
                refine AllReadyH.cons (i := 7) rfl (fun K hK => ?_) (AllReadyH.cons (i := 14) rfl (fun K hK => ?_) (AllReadyH.nil))
                · go_simp
                  refine hK.out _ _ hH (fun hH => ?_)
                  try simp only [Act.put, List.setIfInBounds_toArray, List.set_cons_zero, List.set_cons_succ]
                  refine wpAnyH_ready (rs := [14]) (by kernel_rfl) (by simp) ?_
                  refine AllReadyH.cons (i := 14) rfl (fun K hK => ?_) (AllReadyH.nil)
                  go_simp
                  refine hK.out _ _ ⟨y0, y2, y3⟩ (fun hH => ?_)
                  try simp only [Act.put, List.setIfInBounds_toArray, List.set_cons_zero, List.set_cons_succ]
                  refine wpAnyH_ready (rs := [15]) (by kernel_rfl) (by simp) ?_
                  refine AllReadyH.cons (i := 15) rfl (fun K hK => ?_) (AllReadyH.nil)
                  go_simp
                  refine hK.out _ _ ⟨a03, b23, b33⟩ (fun hH => ?_)
                  try simp only [Act.put, List.setIfInBounds_toArray, List.set_cons_zero, List.set_cons_succ]
                  refine wpAnyH_take (i := 16) (v := ?v16a) rfl (by kernel_rfl) (by kernel_rfl) (by kernel_rfl) (fun _ _ _ h => h) (Or.inl ⟨by rfl, ?hy16a⟩) hH ?rest16a
                  case hy16a =>
                    intro w' hSw
                    obtain ⟨k1, k2, k3⟩ := hSw
                    go_simp
                    try with_reducible rfl
                  try simp only [Act.put, List.setIfInBounds_toArray, List.set_cons_zero, List.set_cons_succ]
                  refine wpAnyH_ready (rs := [17]) (by kernel_rfl) (by simp) ?_
                  refine AllReadyH.cons (i := 17) rfl (fun K hK => ?_) (AllReadyH.nil)
                  go_simp
                  refine hK.out _ _ ⟨a04, b24, b34⟩ (fun hH => ?_)
                  try simp only [Act.put, List.setIfInBounds_toArray, List.set_cons_zero, List.set_cons_succ]
                  refine wpAnyH_done (by kernel_rfl) ?_ _
                  refine Rw.onN_of ?_
                  go_wp2_with fail
                  go_roundw
                  case rel => exact ⟨m + pl + 1, _, by omega, by omega, by go_num, HNSN, HBN, HON1, HON2, HBYN, HSN4, HFBN⟩
                  case measure => simp [intOf]; omega
                · go_simp
                  refine hK.out _ _ ⟨y0, y2, y3⟩ (fun hH => ?_)
                  try simp only [Act.put, List.setIfInBounds_toArray, List.set_cons_zero, List.set_cons_succ]
                  refine wpAnyH_ready (rs := [7]) (by kernel_rfl) (by simp) ?_
                  refine AllReadyH.cons (i := 7) rfl (fun K hK => ?_) (AllReadyH.nil)
                  go_simp
                  refine hK.out _ _ hH (fun hH => ?_)
                  try simp only [Act.put, List.setIfInBounds_toArray, List.set_cons_zero, List.set_cons_succ]
                  refine wpAnyH_ready (rs := [15]) (by kernel_rfl) (by simp) ?_
                  refine AllReadyH.cons (i := 15) rfl (fun K hK => ?_) (AllReadyH.nil)
                  go_simp
                  refine hK.out _ _ ⟨a03, b23, b33⟩ (fun hH => ?_)
                  try simp only [Act.put, List.setIfInBounds_toArray, List.set_cons_zero, List.set_cons_succ]
                  refine wpAnyH_take (i := 16) (v := ?v16b) rfl (by kernel_rfl) (by kernel_rfl) (by kernel_rfl) (fun _ _ _ h => h) (Or.inl ⟨by rfl, ?hy16b⟩) hH ?rest16b
                  case hy16b =>
                    intro w' hSw
                    obtain ⟨k1, k2, k3⟩ := hSw
                    go_simp
                    try with_reducible rfl
                  try simp only [Act.put, List.setIfInBounds_toArray, List.set_cons_zero, List.set_cons_succ]
                  refine wpAnyH_ready (rs := [17]) (by kernel_rfl) (by simp) ?_
                  refine AllReadyH.cons (i := 17) rfl (fun K hK => ?_) (AllReadyH.nil)
                  go_simp
                  refine hK.out _ _ ⟨a04, b24, b34⟩ (fun hH => ?_)
                  try simp only [Act.put, List.setIfInBounds_toArray, List.set_cons_zero, List.set_cons_succ]
                  refine wpAnyH_done (by kernel_rfl) ?_ _
                  refine Rw.onN_of ?_
                  go_wp2_with fail
                  go_roundw
                  case rel => exact ⟨m + pl + 1, _, by omega, by omega, by go_num, HNSN, HBN, HON1, HON2, HBYN, HSN4, HFBN⟩
                  case measure => simp [intOf]; omega
            · have hxg : n < x := by omega
              have hlt2i : ¬ (x : Int) ≤ (n : Int) := by omega
              have HNSE := Lib.hid (HNS3.out.congr (su := Rw.steps (Rw.rus k (R.take (i + 1))) L) fun p _ => by rw [HRU.out]; exact Rw.stI_end _ _ L m x p HM.out.2.2 (by rw [HLN.out.2]; exact hxg))
              go_wp2
              exact ⟨⟨i + 1, vs2, by omega, by go_num, HNSE, HB3⟩, by simp [intOf]; omega⟩
        · have hk1 : (y.k != k) = true := by simp [hk]
          have HRU : Hid (Rw.rus k (R.take (i + 1)) = Rw.rus k (R.take i)) := Lib.hid (by rw [HSN.out, if_neg hk, List.append_nil])
          go_wp2
          exact ⟨⟨i + 1, vs, by omega, by go_num, Lib.hid (by rw [HRU.out]; exact HNS1.out), HBR1⟩, by simp [intOf]; omega⟩
      · obtain rfl : i = nR := by omega
        have hRt : R.take i = R := List.take_of_length_le (by rw [HLN.out.1]; exact Nat.le_refl _)
        rw [hRt] at HNS
        obtain ⟨st, hst⟩ : ∃ st, Rw.steps (Rw.rus k R) L = st := ⟨_, rfl⟩
        rw [hst] at HNS
        have HST := Lib.hid hst
        have hlti : ¬ (i : Int) < (i : Int) := by omega
        have x0 := HNS.out.b0
        clear hst hRt
        go_wp2_with fail
        refine (Rw.back_made gs n n wr0).mono ?_
        rintro e w1 ⟨rfl, rfl⟩
        have hA := Nm.al wr0 (.cells #[.slice (some ⟨gs, 0, none⟩) n n] 70)
        have HNS1 := Lib.hid (HNS.out.bt hA)
        have hszr := HNS.out.sz
        have HBR1 := Lib.hid (HBR.out.trans (hA.mono (by omega)))
        have HBK : Hid ((wr0.alloc (.cells #[.slice (some ⟨gs, 0, none⟩) n n] 70)).heap[wr0.heap.size]? = some (.cells #[.slice (some ⟨gs, 0, none⟩) n n] 70 (0, 0))) := Lib.hid (heap_alloc_new _ _)
        have hsz1 : (wr0.alloc (.cells #[.slice (some ⟨gs, 0, none⟩) n n] 70)).heap.size = wr0.heap.size + 1 := by simp
        generalize hW0 : wr0.alloc (.cells #[.slice (some ⟨gs, 0, none⟩) n n] 70) = W0 at *
        clear hW0 hA x0 HNS HBR
        go_wp2_with fail
        refine (wpIn_wide (n := 5)).1 ?_
        refine Nm.wpIn_rangeFunc_good (encs := Rw.encB vs) (Kp := Nm.Kp (w.heap.size + 1) wr0.heap.size gs) (Gd := Rw.Gd n) (S := fun xs => xs = (List.range n).reverse) (Sp := Rw.Gd n) (w0 := W0) rfl (by decide) (gf := 118) (lb := #[.pointer (some ⟨wr0.heap.size, 0, none⟩)]) rfl trivial (enters_of Tryz.func118 (by kernel_rfl) rfl)
          (Rw.back_stops 4 (by decide) wr0.heap.size gs (w.heap.size + 1) n vs HNS1.out.ls (by omega) W0 (by omega) (by have := HNS1.out.k1; omega) (by omega) HBK.out HNS1.out.hs) Nm.Kp.trans (Nm.kp_b (by omega) (by omega) (by have := HNS1.out.k1; omega)) (Below.refl _ _) (fun _ => rfl)
          (Rw.RI w wc (wr0.heap.size + 1) gs gr sb n (min most 12000) vs st (Rw.rus k R) L) (fun _ _ _ => False) (Rw.RI.own w wc (wr0.heap.size + 1) gs gr sb n (min most 12000) vs st (Rw.rus k R) L W0.heap.size (by omega)) (fun _ _ _ _ _ hs _ _ => hs)
          ⟨⟨_, HNS1.out, Rw.right_start _ _ _ HLN.out.2⟩, HBR1.out, by omega⟩ ?a1 ?assign ?body ?done ?stop
        case assign =>
          intro l x W K hK
          dsimp only [Rw.encB]
          gi_wp2
          exact hK
        case stop => exact fun _ _ _ _ _ _ h _ => h.elim
        case body =>
          rintro l pre x W ⟨⟨rv, hns, hri⟩, hbl, hbg⟩ hgd
          have hx := Rw.gd_last hgd
          have hxn : x < n := by omega
          have hri' : Rw.Right (Rw.rus k R) L n (x + 1) rv := by rw [show x + 1 = n - pre.length from by omega]; exact hri
          have hRS := Rw.right_step (Rw.rus_good HF.out) HLN.out.2 hn hxn hri' hns.lr
          rw [HST.out] at hRS
          obtain ⟨A2, c2, hvx, hrd, hc2, hc2m⟩ := (hns.own x (by rw [hns.ls]; exact hxn)).form Rw.okS
          have hgx : vs[x]?.getD (.slice none 0 0) = .slice A2 (st x).length c2 := by rw [List.getElem?_eq_getElem (by rw [hns.ls]; exact hxn)]; exact hvx
          rw [hgx]
          obtain ⟨SL, hSL⟩ : ∃ SL, st x = SL := ⟨_, rfl⟩
          have HSLB : Hid (∀ s ∈ SL, x < s.1 ∧ s.1 ≤ n ∧ s.2.1 ≤ 1000) := Lib.hid (fun s hs => by
            have h1 := Rw.step_bound (L := L) (p := x) (q := s.1) (c := s.2.1) (t := s.2.2) (Rw.rus_good HF.out) (by rw [HST.out, hSL]; exact hs)
            exact ⟨h1.1, by rw [← HLN.out.2]; exact h1.2.1, h1.2.2.1⟩)
          have HRV : Hid (∀ q, x < q → q ≤ n → rv.getD q 0 ≤ 12001) := Lib.hid (fun q h1 h2 => (hri' q h1 h2).1)
          have hpv : x < vs.length := by rw [hns.ls]; exact hxn
          rw [hSL] at hRS hrd hc2 hvx ⊢
          have x1 := hns.b1
          have xf := hns.fr x
          have xr := hns.r x (by omega)
          unfold maxLen at hc2m
          have hx0 : (0 : Int) ≤ (x : Int) := by omega
          have hx1 : (x : Int) < (n : Int) + 1 := by omega
          have HRS := Lib.hid hRS
          have HVX := Lib.hid hvx
          have hk2 := hns.k2
          have HBX : Hid (Rw.Rd w wc gs gr sb n (min most 12000) vs st wr0.heap.size W (W.setCell ⟨gr, x, none⟩ (.int .i64 12001)) (rv.set x 12001)) := Lib.hid (Rw.Rd.start hns hbl (by have := HD.out.2.1; omega) hszr (by omega) x)
          clear hgx hvx hri hri' hRS hrd hgd
          gi_wp2
          generalize W.setCell ⟨gr, x, none⟩ (.int .i64 12001) = W1 at *
          gi_loopw [94] (fun s94 wr => ∃ j : Nat, j ≤ SL.length ∧ s94 = .int .i64 (j : Int) ∧ Hid (Rw.Rd w wc gs gr sb n (min most 12000) vs st wr0.heap.size W wr (rv.set x (Rw.minR (fun q => rv.getD q 0) (SL.take j))))) (fun s94 _ => SL.length - (intOf s94).toNat)
          case atStart => exact ⟨0, Nat.zero_le _, rfl, HBX⟩
          case round =>
            clear HBX
            obtain ⟨U, hU⟩ : ∃ U, wr = U := ⟨_, rfl⟩
            rw [hU] at hrel ⊢
            clear hU
            obtain ⟨j, hj, rfl, HR0⟩ := hrel
            by_cases hjl : j < SL.length
            · have hjli : (j : Int) < (SL.length : Int) := by omega
              have hj0 : (0 : Int) ≤ (j : Int) := by omega
              obtain ⟨ad, hA, c0, c1, c2x⟩ := Rw.Rd.read HR0.out hxn hpv HVX.out hSL j hjl
              subst hA
              have hb := HSLB.out _ (List.getElem_mem hjl)
              have htk : Rw.minR (fun q => rv.getD q 0) (SL.take (j + 1)) = min (Rw.minR (fun q => rv.getD q 0) (SL.take j)) ((SL[j]'hjl).2.1 + rv.getD (SL[j]'hjl).1 0) := by
                rw [List.take_add_one, List.getElem?_eq_getElem hjl]
                exact Rw.minR_snoc _ _ _
              obtain ⟨⟨nx, cy, tw⟩, hs⟩ : ∃ s, SL[j]'hjl = s := ⟨_, rfl⟩
              rw [hs] at c0 c1 c2x hb htk
              simp only at c0 c1 c2x hb htk
              obtain ⟨m, hm⟩ : ∃ m, Rw.minR (fun q => rv.getD q 0) (SL.take j) = m := ⟨_, rfl⟩
              rw [hm] at htk HR0
              obtain ⟨r, hr⟩ : ∃ r, rv.getD nx 0 = r := ⟨_, rfl⟩
              have hr12 := HRV.out nx hb.1 hb.2.1
              rw [hr] at htk hr12
              have HTK := Lib.hid htk
              have hr0 := HR0.out
              have HRN := Lib.hid (HR0.out.alloc (.cells #[.int .i64 (nx : Int), .int .i64 (cy : Int), .string (Nm.bt tw)] 130))
              have HBN : Hid ((U.alloc (.cells #[.int .i64 (nx : Int), .int .i64 (cy : Int), .string (Nm.bt tw)] 130)).heap[U.heap.size]? = some (.cells #[.int .i64 (nx : Int), .int .i64 (cy : Int), .string (Nm.bt tw)] 130 (0, 0))) := Lib.hid (heap_alloc_new _ _)
              have HH := Lib.hid (And.intro hr (And.intro hb hr12))
              clear hs hm htk hr hb hr12 hr0
              gi_wp2
              generalize hU1 : U.alloc (.cells #[.int .i64 (nx : Int), .int .i64 (cy : Int), .string (Nm.bt tw)] 130) = U1 at *
              have HV := Lib.hid HRN.out.drew
              have hll : (rv.set x m).length = n + 1 := HV.out.ns.lr
              have hnx := HH.out.2.1
              have y1 : U1.drew.cell? ⟨sb, 1, none⟩ = some (.slice (some ⟨gr, 0, none⟩) (n + 1) (n + 1)) := HV.out.ns.b1
              have y2 : U1.drew.cell? ⟨gr, x, none⟩ = some (.int .i64 (m : Int)) := (HV.out.ns.r x (by omega)).trans (by rw [List.getElem_set_self])
              have y5 : U1.drew.cell? ⟨gr, nx, none⟩ = some (.int .i64 (r : Int)) := (HV.out.ns.r nx (by omega)).trans (by
                rw [List.getElem_set_ne (by omega)]
                have h1 := HH.out.1
                rw [List.getD_eq_getElem?_getD, List.getElem?_eq_getElem (by rw [List.length_set] at hll; omega), Option.getD_some] at h1
                rw [h1])
              have hbv : U1.drew.heap[U.heap.size]? = some (.cells #[.int .i64 (nx : Int), .int .i64 (cy : Int), .string (Nm.bt tw)] 130 (0, 0)) := HBN.out
              have y3 : U1.drew.cell? ⟨U.heap.size, 1, none⟩ = some (.int .i64 (cy : Int)) := by simp [World.cell?, hbv]
              have y4 : U1.drew.cell? ⟨U.heap.size, 0, none⟩ = some (.int .i64 (nx : Int)) := by simp [World.cell?, hbv]
              have yf : U1.drew.frozen? ⟨gr, x, none⟩ = false := HV.out.ns.fr x
              have hn0 : (0 : Int) ≤ (nx : Int) := by omega
              have hn1 : (nx : Int) < (n : Int) + 1 := by omega
              have hcy0 : (0 : Int) ≤ (cy : Int) := by omega
              have hcy1 : (cy : Int) ≤ 1000 := by omega
              have hr0 : (0 : Int) ≤ (r : Int) := by omega
              have hr1 : (r : Int) ≤ 12001 := by have := HH.out.2.2; omega
              have HN2 : Hid (Rw.Rd w wc gs gr sb n (min most 12000) vs st wr0.heap.size W (U1.drew.setCell ⟨gr, x, none⟩ (.int .i64 (min (m : Int) ((cy : Int) + (r : Int))))) (rv.set x (Rw.minR (fun q => rv.getD q 0) (SL.take (j + 1))))) := Lib.hid (by
                have h1 := HV.out.setR x (min m (cy + r))
                rw [List.set_set, ← HTK.out] at h1
                have h2 : ((Rw.minR (fun q => rv.getD q 0) (SL.take (j + 1)) : Nat) : Int) = min (m : Int) ((cy : Int) + (r : Int)) := by rw [HTK.out]; omega
                rw [h2] at h1
                exact h1)
              clear hll hnx hbv HV HRN HBN hU1
              refine Rw.wpIn_tail 19 (by kernel_rfl) ?nd ?lo (by kernel_rfl) ?_
              case nd => exact Rw.no_defer (by kernel_rfl)
              case lo => rintro ⟨a, w, h⟩; exact h
              show wpStill Tryz.prog _ U1.drew (fun a' => wpList Tryz.prog _ _ _ a' U1.drew) _ _
              generalize U1.drew = V at *
              simp only [List.take_succ_cons, List.take_zero, List.drop_succ_cons, List.drop_zero]
              repeat still_step
              refine wpStill_nil ?_
              go_wp2_with fail
              gi_wp2
              exact ⟨⟨j + 1, by omega, by go_num, HN2⟩, by simp [intOf]; omega⟩
            · obtain rfl : j = SL.length := by omega
              have hjli : ¬ (SL.length : Int) < (SL.length : Int) := by omega
              rw [List.take_of_length_le (Nat.le_refl _)] at HR0
              gi_wp2
              have hrx : Rw.Right (Rw.rus k R) L n (n - (pre ++ [x]).length) (rv.set x (Rw.minR (fun q => rv.getD q 0) SL)) := by
                rw [show n - (pre ++ [x]).length = x from by simp; omega]
                exact HRS.out
              exact ⟨HR0.out.others, HR0.out.kp, ⟨⟨_, HR0.out.ns, hrx⟩, HR0.out.below, by have := HR0.out.lt; omega⟩⟩
        case done =>
          rintro D ys W hD rfl ⟨⟨rv, hns, hri⟩, hbl, hbg⟩ hK
          simp only [List.length_reverse, List.length_range, Nat.sub_self] at hri
          have hrb : W.heap[w.heap.size]? = some (.cells #[.slice none 0 0, .slice none 0 0, .int .i64 0] 72 (0, 0)) := (hbl.block _ (by omega)).trans HRB.out
          have a0 := hns.b0
          have a1 := hns.b1
          have a2 := hns.b2
          obtain ⟨r0, r1, r2, e0, e1, e2, r1', e1', r2', e2'⟩ := Rw.box3 hrb (.slice (some ⟨gs, 0, none⟩) n n) (.slice (some ⟨gr, 0, none⟩) (n + 1) (n + 1))
          gi_wp2
          go_wp2
          have hDn : D ≠ w.heap.size := by omega
          have hK2 : (((W.setCell ⟨w.heap.size, 0, none⟩ (.slice (some ⟨gs, 0, none⟩) n n)).setCell ⟨w.heap.size, 1, none⟩ (.slice (some ⟨gr, 0, none⟩) (n + 1) (n + 1))).setCell ⟨w.heap.size, 2, none⟩ (.int .i64 (min most 12000))).heap[D]? = some (.deferred (some [])) :=
            (Below.heap_setCell _ _ _ _ hDn).trans ((Below.heap_setCell _ _ _ _ hDn).trans ((Below.heap_setCell _ _ _ _ hDn).trans hK))
          have hns3 := ((hns.far (Rw.grown_set W w.heap.size 0 (.slice (some ⟨gs, 0, none⟩) n n)) (by omega) (by have := HD.out.1; omega) (by have := HD.out.2.1; omega) (by have := HD.out.2.2; omega)).far (Rw.grown_set _ w.heap.size 1 (.slice (some ⟨gr, 0, none⟩) (n + 1) (n + 1))) (by omega) (by have := HD.out.1; omega) (by have := HD.out.2.1; omega) (by have := HD.out.2.2; omega)).far (Rw.grown_set _ w.heap.size 2 (.int .i64 (min most 12000))) (by omega) (by have := HD.out.1; omega) (by have := HD.out.2.1; omega) (by have := HD.out.2.2; omega)
          have hb3 := ((HBW.out.trans (hbl.mono (by omega))).setCell (p := ⟨w.heap.size, 0, none⟩) (Nat.le_refl _) (.slice (some ⟨gs, 0, none⟩) n n)).setCell (p := ⟨w.heap.size, 1, none⟩) (Nat.le_refl _) (.slice (some ⟨gr, 0, none⟩) (n + 1) (n + 1)) |>.setCell (p := ⟨w.heap.size, 2, none⟩) (Nat.le_refl _) (.int .i64 (min most 12000))
          refine ⟨by simp, .inl ⟨_, _, rfl, run_takeDeferred hK2, ?_⟩⟩
          have hblk : (((W.setCell ⟨w.heap.size, 0, none⟩ (.slice (some ⟨gs, 0, none⟩) n n)).setCell ⟨w.heap.size, 1, none⟩ (.slice (some ⟨gr, 0, none⟩) (n + 1) (n + 1))).setCell ⟨w.heap.size, 2, none⟩ (.int .i64 (min most 12000))).heap[w.heap.size]? = some (.cells #[.slice (some ⟨gs, 0, none⟩) n n, .slice (some ⟨gr, 0, none⟩) (n + 1) (n + 1), .int .i64 (min most 12000)] 72 (0, 0)) := by
            simp [World.setCell, Array.getElem?_modify, hrb]
          generalize (((W.setCell ⟨w.heap.size, 0, none⟩ (.slice (some ⟨gs, 0, none⟩) n n)).setCell ⟨w.heap.size, 1, none⟩ (.slice (some ⟨gr, 0, none⟩) (n + 1) (n + 1))).setCell ⟨w.heap.size, 2, none⟩ (.int .i64 (min most 12000))) = X at *
          have hgr := grownBy_putObj' X D (.deferred none)
          have hrow : ∀ r, some D = some r → ∃ o : Obj, X.heap[r]? = some o ∧ o.isCells = false := fun r e => by cases e; exact ⟨_, hK2, rfl⟩
          have hns4 := hns3.grown hgr hrow
          have hblk4 := Rw.cells_grown hgr hrow hblk
          have hb4 := hb3.trans (belowK_b (w := w) (Nat.le_refl _) X D _ (.deferred none) (by omega) hK2 rfl rfl)
          have q0 : (X.putObj D (.deferred none)).cell? ⟨w.heap.size, 0, none⟩ = some (.slice (some ⟨gs, 0, none⟩) n n) := by simp [World.cell?, hblk4]
          have q1 : (X.putObj D (.deferred none)).cell? ⟨w.heap.size, 1, none⟩ = some (.slice (some ⟨gr, 0, none⟩) (n + 1) (n + 1)) := by simp [World.cell?, hblk4]
          have q2 : (X.putObj D (.deferred none)).cell? ⟨w.heap.size, 2, none⟩ = some (.int .i64 (min most 12000)) := by simp [World.cell?, hblk4]
          have hst := HST.out
          subst hst
          refine ⟨.agg #[.slice (some ⟨gs, 0, none⟩) n n, .slice (some ⟨gr, 0, none⟩) (n + 1) (n + 1), .int .i64 (min most 12000)], ?_, gs, gr, sb, vs, rv, rfl, hns4, hri, hb4, HD.out⟩
          simp [results, Tryz.f37, go_sem, q0, q1, q2]
end Go.Proofs.YtkddpealobeleaaGreatDoor
