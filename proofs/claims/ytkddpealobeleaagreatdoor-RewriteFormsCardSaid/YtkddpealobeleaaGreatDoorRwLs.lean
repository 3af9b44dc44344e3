/- Layer 10: the statement's least cost of a form. -/
import Derived.Test.YtkddpealobeleaaGreatDoorRwLsM
set_option linter.unusedSimpArgs false
set_option linter.unusedVariables false
namespace Go.Proofs.YtkddpealobeleaaGreatDoor
open Go.RowKit Go.Shelf
set_option maxRecDepth 100000
set_option maxHeartbeats 8000000
theorem Rw.infoSI : (Tryz.prog.info? 29).map (fun i => (i.zero, i.size, i.bytes)) = some (some (.slice none 0 0), 1, 24) := by kernel_rfl
theorem Rw.make_m (n : Nat) (hn : n ≤ 1000) (w : World) : (Instr.makeSlice 121 (.int .i64 ((n : Int) + 1)) (.int .i64 ((n : Int) + 1))).run Tryz.prog w = .ok (.slice (some ⟨w.heap.size, 0, none⟩) (n + 1) (n + 1)) (w.alloc (.cells (Array.replicate (n + 1) (Value.slice none 0 0)) 29)) := by
  obtain ⟨i0, hi, hz0, hz1, hz2⟩ := info_parts Rw.infoSI
  have := run_make (P := Tryz.prog) w 121 29 i0 (.slice none 0 0) Tryz.underlying121 hi hz0 .i64 .i64 ((n : Int) + 1) ((n : Int) + 1) (by omega) (Int.le_refl _) (by rw [hz2]; omega) (by omega)
  rw [this, hz1]
  simp only [show ((n : Int) + 1).toNat = n + 1 from by omega, Nat.mul_one]
  have e : madeCells (Value.slice none 0 0).cells (n + 1) = Array.replicate (n + 1) (Value.slice none 0 0) := by
    apply Array.ext'
    show (madeCells #[Value.slice none 0 0] (n + 1)).toList = _
    rw [toList_madeCells_one]
    simp
  rw [e]
theorem Rw.infoII : (Tryz.prog.info? 3).map (fun i => (i.zero, i.size, i.bytes)) = some (some (.int .i64 0), 1, 8) := by kernel_rfl
theorem Rw.make_i1 (n : Nat) (hn : n ≤ 1000) (w : World) : (Instr.makeSlice 29 (.int .i64 ((n : Int) + 1)) (.int .i64 ((n : Int) + 1))).run Tryz.prog w = .ok (.slice (some ⟨w.heap.size, 0, none⟩) (n + 1) (n + 1)) (w.alloc (.cells (Array.replicate (n + 1) (Value.int .i64 0)) 3)) := by
  obtain ⟨i0, hi, hz0, hz1, hz2⟩ := info_parts Rw.infoII
  have := run_make (P := Tryz.prog) w 29 3 i0 (.int .i64 0) Tryz.underlying29 hi hz0 .i64 .i64 ((n : Int) + 1) ((n : Int) + 1) (by omega) (Int.le_refl _) (by rw [hz2]; omega) (by omega)
  rw [this, hz1]
  simp only [show ((n : Int) + 1).toNat = n + 1 from by omega, Nat.mul_one]
  have e : madeCells (Value.int .i64 0).cells (n + 1) = Array.replicate (n + 1) (Value.int .i64 0) := by
    apply Array.ext'
    show (madeCells #[Value.int .i64 0] (n + 1)).toList = _
    rw [toList_madeCells_one]
    simp
  rw [e]
theorem Rw.Bm.start (W : World) (K n m : Nat) (hK : K ≤ W.heap.size) (F : Nat → Nat → Int) (bs : Nat → Nat) : Rw.Bm (W.alloc (.cells (Array.replicate (n + 1) (Value.slice none 0 0)) 29)) K W.heap.size n m 0 bs F :=
  ⟨(heap_alloc_new W _).trans (by
    congr 2
    apply Array.ext'
    apply List.ext_getElem (by simp)
    intro q h1 h2
    simp), fun i h => absurd h (by omega), fun i i' h => absurd h (by omega), fun i h => absurd h (by omega), fun i h => absurd h (by omega), hK⟩
theorem Rw.Bm.push' {W : World} {K gb n m j : Nat} {bs : Nat → Nat} {F : Nat → Nat → Int} (h : Rw.Bm W K gb n m j bs F) (hj : j ≤ n) (hK : K ≤ W.heap.size) :
    Rw.Bm ((W.alloc (.cells (Array.replicate (m + 1) (Value.int .i64 0)) 3)).setCell ⟨gb, j, none⟩ (.slice (some ⟨W.heap.size, 0, none⟩) (m + 1) (m + 1))) K gb n m (j + 1) (fun i => if i = j then W.heap.size else bs i) (fun i k => if i = j then 0 else F i k) := by
  have := h.push hj hK
  rwa [List.toArray_replicate] at this
theorem Rw.ext_take (f : ByteArray) (q l : Nat) (h : q + l ≤ f.size) : (f.extract q (q + l)).data.toList = (f.data.toList.drop q).take l := by
  simp [ByteArray.data_extract, Array.toList_extract, List.extract]
theorem Rw.least_any (t : Rw.TV) (k : Int) (A1 : Option Addr) (ca1 : Nat) (L : List Nm.T) (n : Nat) (f : ByteArray) (m : Nat) (cc : Nat) (hn : L.length = n) (hm : f.size = m) (w : World) (hi : t.In w) (hok : Rw.okT t = true) (hT : Nm.Tb w.heap.size w) (hs : Strs w w.heap.size A1 (L.map Nm.bt)) (hn12 : n ≤ 12) (hm36 : m ≤ 100)
    (hl : Rw.Least (Rw.rus k t.R) L f.data.toList cc) :
    Calls Tryz.prog 31 #[t.val, .int .i64 k, .slice A1 n ca1, .string f] w fun e w' => e = .returned (.int .i64 (cc : Int)) ∧ Below w.heap.size w w' := by
  obtain ⟨hR1, hR80, hRf⟩ := Rw.okT_rl hok
  have hRgd := Rw.rus_good (k := k) hRf
  obtain ⟨A, a, B, b, C, c, R, D, E, d, o, ii⟩ := t
  simp only at hR1 hR80 hRf hRgd hl
  obtain ⟨t, ht⟩ : ∃ t : Rw.TV, (⟨A, a, B, b, C, c, R, D, E, d, o, ii⟩ : Rw.TV) = t := ⟨_, rfl⟩
  have HTE := Lib.hid ht
  rw [show (Rw.TV.val ⟨A, a, B, b, C, c, R, D, E, d, o, ii⟩ : Value) = .agg #[.slice A R.length a, .slice B D.length b, .slice C E.length c, .int .i64 d, .int .i64 o, .int .i64 ii] from rfl]
  rw [ht] at hi
  have HIN := Lib.hid (fun v (g : Below w.heap.size w v) => hi.bt g)
  have HTB := Lib.hid (fun v (g : Below w.heap.size w v) => hT.bt g)
  have HRF := Lib.hid (And.intro hRf hRgd)
  have HLE := Lib.hid hl
  have HLL := Lib.hid hn
  have hfl : f.data.toList.length = m := by rw [← Lib.size_eq]; exact hm
  have HFL := Lib.hid (And.intro hfl hm)
  have S1 := Lib.hid (fun v (g : Below w.heap.size w v) => Nm.sbt hs g)
  obtain ⟨nR, hnR⟩ : ∃ nR, R.length = nR := ⟨_, rfl⟩
  rw [hnR] at hR1 hR80 ⊢
  have HNR := Lib.hid hnR
  have hbV := Nm.al w (.cells #[.slice A nR a, .slice B D.length b, .slice C E.length c, .int .i64 d, .int .i64 o, .int .i64 ii] 25)
  have BX : Hid (Rw.Bx (w.alloc (.cells #[.slice A nR a, .slice B D.length b, .slice C E.length c, .int .i64 d, .int .i64 o, .int .i64 ii] 25)) w.heap.size #[.slice A nR a, .slice B D.length b, .slice C E.length c, .int .i64 d, .int .i64 o, .int .i64 ii] 25) := Lib.hid (heap_alloc_new _ _)
  have HV := Lib.hid hbV
  have hmk := Rw.make_m n (by omega)
  have hmi := Rw.make_i1 m (by omega)
  have hmn : f.size = m := hm
  clear hRf hRgd hl hn hfl hs hi hok hT ht hnR hbV
  go_enter Tryz.func31, Tryz.ntmps31
  go_wp2_with fail
  have hgb : (w.alloc (.cells #[.slice A nR a, .slice B D.length b, .slice C E.length c, .int .i64 d, .int .i64 o, .int .i64 ii] 25)).heap.size = w.heap.size + 1 := by simp
  have BM0 := Rw.Bm.start (w.alloc (.cells #[.slice A nR a, .slice B D.length b, .slice C E.length c, .int .i64 d, .int .i64 o, .int .i64 ii] 25)) (w.heap.size + 1) n m (by omega) (fun _ _ => -1) (fun _ => 0)
  rw [hgb] at BM0
  have hb2 := Nm.al (w.alloc (.cells #[.slice A nR a, .slice B D.length b, .slice C E.length c, .int .i64 d, .int .i64 o, .int .i64 ii] 25)) (.cells (Array.replicate (n + 1) (Value.slice none 0 0)) 29)
  have BX2 := Lib.hid (BX.out.bt hb2)
  have HV2 := Lib.hid (Nm.Nb HV.out hb2)
  have HSZ : Hid (w.heap.size + 1 ≤ ((w.alloc (.cells #[.slice A nR a, .slice B D.length b, .slice C E.length c, .int .i64 d, .int .i64 o, .int .i64 ii] 25)).alloc (.cells (Array.replicate (n + 1) (Value.slice none 0 0)) 29)).heap.size) := Lib.hid (by simp)
  have HBM0 := Lib.hid BM0
  clear hgb BM0 hb2 BX HV
  generalize (w.alloc (.cells #[.slice A nR a, .slice B D.length b, .slice C E.length c, .int .i64 d, .int .i64 o, .int .i64 ii] 25)).alloc (.cells (Array.replicate (n + 1) (Value.slice none 0 0)) 29) = V at *
  obtain ⟨G, hG⟩ : ∃ G, w.heap.size + 1 = G := ⟨_, rfl⟩
  have HGE := Lib.hid hG
  rw [hG]
  rw [hG] at HBM0 HSZ
  clear hG
  go_loopw [25] (fun s25 wr => ∃ (j : Nat) (bs : Nat → Nat), j ≤ n + 1 ∧ s25 = .int .i64 (j : Int) ∧ Hid (Rw.Bm wr G G n m j bs (fun _ _ => -1)) ∧ Hid (Below G V wr)) (fun s25 _ => n + 1 - (intOf s25).toNat)
  case atStart => exact ⟨0, _, by omega, rfl, HBM0, Lib.hid (Below.refl _ _)⟩
  case round =>
    obtain ⟨j, bs, hj, rfl, HB, HW⟩ := hrel
    by_cases hlt : j < n + 1
    · have hlti : (j : Int) < (n : Int) + 1 := by omega
      have hj0 : (0 : Int) ≤ (j : Int) := by omega
      have hsz : G ≤ wr.heap.size := Nat.le_trans HSZ.out HW.out.size
      have HP := Lib.hid (HB.out.push' (by omega) hsz)
      have hA := HB.out.bt (Nm.al wr (.cells (Array.replicate (m + 1) (Value.int .i64 0)) 3))
      have z0 := hA.c0 (i := j) (by omega) (by omega)
      have zf := hA.f0 j
      have z1 := HP.out.c1 (i := j) (by omega) (by omega)
      simp only [if_true] at z1
      have HW1 : Hid (Below G V ((wr.alloc (.cells (Array.replicate (m + 1) (Value.int .i64 0)) 3)).setCell ⟨G, j, none⟩ (.slice (some ⟨wr.heap.size, 0, none⟩) (m + 1) (m + 1)))) := Lib.hid ((HW.out.alloc hsz _).setCell (p := ⟨G, j, none⟩) (Nat.le_refl _) _)
      have HPF := Lib.hid (show Rw.Bm _ G G n m (j + 1) _ (fun i k => if i = j then (if k < 0 then -1 else 0) else -1) from HP.out.congr fun i k hi hk => by by_cases h : i = j <;> simp [h])
      clear hA HP
      go_wp2
      clear z0 zf z1
      generalize ((wr.alloc (.cells (Array.replicate (m + 1) (Value.int .i64 0)) 3)).setCell ⟨G, j, none⟩ (.slice (some ⟨wr.heap.size, 0, none⟩) (m + 1) (m + 1))) = U at *
      generalize (fun i => if i = j then wr.heap.size else bs i) = bt at *
      go_loopw [40] (fun s40 wr => ∃ q : Nat, q ≤ m + 1 ∧ s40 = .int .i64 (q : Int) ∧ Hid (Rw.Bm wr G G n m (j + 1) bt (fun i k => if i = j then (if k < q then -1 else 0) else -1)) ∧ Hid (Below G V wr)) (fun s40 _ => m + 1 - (intOf s40).toNat)
      case atStart => exact ⟨0, by omega, rfl, HPF, HW1⟩
      case round =>
        clear HPF HW1 HB HW
        obtain ⟨q, hq, rfl, HB, HW⟩ := hrel
        by_cases hlq : q < m + 1
        · have hlqi : (q : Int) < (m : Int) + 1 := by omega
          have y1 := HB.out.c1 (i := j) (by omega) (by omega)
          have y2 := HB.out.c2 (i := j) (k := q) (by omega) (by omega)
          have yf := HB.out.f2 (i := j) (by omega) q
          have hlow := HB.out.low j (by omega)
          have HN := Lib.hid (show Rw.Bm _ G G n m (j + 1) bt (fun i k => if i = j then (if k < q + 1 then -1 else 0) else -1) from (HB.out.set (i := j) (k := q) (by omega) (by omega) (-1)).congr fun i k hi hk => by
            unfold Rw.up
            by_cases h : i = j
            · by_cases h2 : k = q
              · simp [h, h2]
              · by_cases h3 : k < q
                · simp [h, h2, h3, show k < q + 1 from by omega]
                · simp [h, h2, h3, show ¬ k < q + 1 from by omega]
            · simp [h])
          have HWN := Lib.hid (HW.out.setCell (p := ⟨bt j, q, none⟩) hlow (.int .i64 (-1)))
          clear hlow
          go_wp2
          exact ⟨⟨q + 1, by omega, by go_num, HN, HWN⟩, by simp [intOf]; omega⟩
        · obtain rfl : q = m + 1 := by omega
          rw [show ((m + 1 : Nat) : Int) = (m : Int) + 1 from rfl]
          have HN := Lib.hid (show Rw.Bm wr G G n m (j + 1) bt (fun _ _ => -1) from HB.out.congr fun i k hi hk => by
            by_cases h : i = j
            · simp [h, show k < m + 1 from by omega]
            · simp [h])
          go_wp2
          exact ⟨⟨j + 1, bt, by omega, by go_num, HN, HW⟩, by simp [intOf]; omega⟩
    · obtain rfl : j = n + 1 := by omega
      rw [show ((n + 1 : Nat) : Int) = (n : Int) + 1 from rfl]
      have y1 := HB.out.c1 (i := 0) (by omega) (by omega)
      have y2 := HB.out.c2 (i := 0) (k := 0) (by omega) (by omega)
      have yf := HB.out.f2 (i := 0) (by omega) 0
      have HN := Lib.hid (HB.out.set (i := 0) (k := 0) (by omega) (by omega) 0)
      have HWN := Lib.hid (HW.out.setCell (p := ⟨bs 0, 0, none⟩) (HB.out.low 0 (by omega)) (.int .i64 0))
      have HS : Hid (Rw.So (Rw.rus k R) L f.data.toList (Rw.up (fun _ _ => -1) 0 0 0)) := Lib.hid ⟨Rw.up_same _ _ _ _, fun p q _ _ => by
        by_cases h : p = 0 ∧ q = 0
        · obtain ⟨rfl, rfl⟩ := h
          exact .inr ⟨0, Rw.up_same _ _ _ _, by rw [List.take_zero, List.take_zero]; exact Rw.Wr.nil⟩
        · exact .inl (if_neg h)⟩
      go_wp2
      clear y1 y2 yf HB HW
      generalize (wr.setCell ⟨bs 0, 0, none⟩ (.int .i64 0)) = U at *
      generalize Rw.up (fun _ _ => -1) 0 0 0 = F0 at *
      have HC0 := Lib.hid (Rw.Cm.start R k L f.data.toList F0)
      go_loopw [12] (fun s12 wr => ∃ (p : Nat) (F : Nat → Nat → Int), p ≤ n ∧ s12 = .int .i64 (p : Int) ∧ Hid (Rw.Bm wr G G n m (n + 1) bs F) ∧ Hid (Rw.So (Rw.rus k R) L f.data.toList F) ∧ Hid (Rw.Cm R k L f.data.toList F p 0 0) ∧ Hid (Below G V wr)) (fun s12 _ => n - (intOf s12).toNat)
      case atStart => exact ⟨0, F0, by omega, rfl, HN, HS, HC0, HWN⟩
      case round =>
        clear HN HS HC0 HWN
        obtain ⟨p, F, hp, rfl, HB, HS, HC, HW⟩ := hrel
        by_cases hlt : p < n
        · have hlti : (p : Int) < (n : Int) := by omega
          go_wp2
          go_loopw [13] (fun s13 wr => ∃ (x : Nat) (F : Nat → Nat → Int), x ≤ nR ∧ s13 = .int .i64 (x : Int) ∧ Hid (Rw.Bm wr G G n m (n + 1) bs F) ∧ Hid (Rw.So (Rw.rus k R) L f.data.toList F) ∧ Hid (Rw.Cm R k L f.data.toList F p x 0) ∧ Hid (Below G V wr)) (fun s13 _ => nR - (intOf s13).toNat)
          case atStart => exact ⟨0, F, by omega, rfl, HB, HS, HC, HW⟩
          case round =>
            clear HB HS HC HW
            obtain ⟨x, F, hx, rfl, HB, HS, HC, HW⟩ := hrel
            have HBw := Lib.hid (HV2.out.trans (HW.out.mono (by rw [← HGE.out]; exact Nat.le_succ _)))
            have BXr := Lib.hid (BX2.out.below HW.out (by have := HGE.out; omega))
            have x0 : wr.cell? ⟨w.heap.size, 0, none⟩ = some (.slice A nR a) := BXr.out.c 0 _ rfl
            by_cases hlx : x < nR
            · have hlxi : (x : Int) < (nR : Int) := by omega
              have hrow := (HIN.out w (Below.refl _ _)).r
              have hgr := (HIN.out w (Below.refl _ _)).gr
              rw [← HTE.out] at hrow hgr
              have hxR : x < R.length := by rw [HNR.out]; exact hlx
              obtain ⟨ad, rfl, had, q0, q1, q2, q3⟩ := Rw.Rls.at hrow hxR
              have y0 := Nm.cell_bt q0 HBw.out
              have y1 := Nm.cell_bt q1 HBw.out
              have y2 := Nm.cell_bt q2 HBw.out
              have y3 := Nm.cell_bt q3 HBw.out
              have hrf := HRF.out.1 R[x] (List.getElem_mem _)
              have hgk := hgr R[x] (List.getElem_mem _)
              obtain ⟨mm, hmm⟩ : ∃ mm, (Nm.ls (Nm.sc R[x].k) R[x].frm.data.toList).length = mm := ⟨_, rfl⟩
              have hfw := (Rw.okF_word hrf.1).2.1
              have hto := Rw.okTo_size hrf.2.1
              have FT := Rw.fits_any R[x] k A1 ca1 (L.map Nm.bt) n p mm (by rw [List.length_map]; exact HLL.out) hmm hfw hgk.frm wr (S1.out wr HBw.out) (HTB.out wr HBw.out) (by omega) (by omega)
              have hst1 := fun h => Rw.fit_step (R := R) (k := k) (L := L) (i := p) hxR hmm h
              obtain ⟨cn, hcn2⟩ : ∃ cn : Nat, R[x].cost = (cn : Int) := ⟨R[x].cost.toNat, by have := hrf.2.2.1; omega⟩
              have hcn1 : cn ≤ 1000 := by have := hrf.2.2.2; omega
              have hcn3 : R[x].cost.toNat = cn := by omega
              have hmm12 : 1 ≤ mm ∧ mm ≤ 12 := by rw [← hmm]; exact (Nm.isW_iff.1 hfw).2
              obtain ⟨y, hy⟩ : ∃ y, R[x] = y := ⟨_, rfl⟩
              obtain ⟨fb, hfb⟩ : ∃ fb, Rw.fitB R[x] k (L.map Nm.bt) p = fb := ⟨_, rfl⟩
              rw [hfb] at FT hst1
              have HON : Hid (∀ (F : Nat → Nat → Int) (q : Nat), (fb = true → q + y.to.size ≤ m → (f.data.toList.drop q).take y.to.size = y.to.data.toList → 0 ≤ F p q → 0 ≤ F (p + mm) (q + y.to.size) ∧ F (p + mm) (q + y.to.size) ≤ F p q + (cn : Int)) → Rw.Hon R k L f.data.toList F p x q) := Lib.hid (fun F q h hx' h1 h2 h3 h4 => by
                rw [hfb] at h1
                rw [hmm, hcn2]
                rw [← Lib.size_eq, hy] at h2 h3 ⊢
                rw [HFL.out.1] at h2
                exact h h1 h2 h3 h4)
              rw [hy] at y0 y1 y2 y3 q2 q3 FT hst1 hcn2 hto hcn3
              rw [hcn3] at hst1
              rw [hcn2] at y3 q3
              unfold Rw.Rl.val at FT
              rw [hcn2] at FT
              have FT := Lib.hid FT
              have HST := Lib.hid hst1
              clear hrow hgr hrf hgk hfw hst1 hcn2 hcn3 hy hfb hmm
              go_wp2_with fail
              refine FT.out.mono ?_
              rintro e u2 ⟨rfl, g⟩
              have HB2 := Lib.hid (HB.out.bt g)
              have HW2 := Lib.hid (HW.out.trans (g.mono (Nat.le_trans HSZ.out HW.out.size)))
              have HQ := Lib.hid (And.intro q2 q3)
              have HAD := Lib.hid had
              have x0 := Nm.cell_bt x0 g
              have y2 := Nm.cell_bt y2 g
              have hts : y.to.size ≤ 3 := hto
              clear g q0 q1 q2 q3 y0 y1 y3 had hto FT BXr HBw HB HW hxR
              go_wp2
              clear x0 y2
              go_loopw [17] (fun s17 wr => ∃ (q : Nat) (F : Nat → Nat → Int), q ≤ m + 1 ∧ s17 = .int .i64 (q : Int) ∧ Hid (Rw.Bm wr G G n m (n + 1) bs F) ∧ Hid (Rw.So (Rw.rus k R) L f.data.toList F) ∧ Hid (Rw.Cm R k L f.data.toList F p x q) ∧ Hid (Below G V wr)) (fun s17 _ => m + 1 - (intOf s17).toNat)
              case atStart => exact ⟨0, F, by omega, rfl, HB2, HS, HC, HW2⟩
              case round =>
                clear HB2 HS HC HW2
                obtain ⟨q, F, hq, rfl, HB, HS, HC, HW⟩ := hrel
                have HBw := Lib.hid (HV2.out.trans (HW.out.mono (by rw [← HGE.out]; exact Nat.le_succ _)))
                have x0 : wr.cell? ⟨w.heap.size, 0, none⟩ = some (.slice (some ad) nR a) := (BX2.out.below HW.out (by have := HGE.out; omega)).c 0 _ rfl
                have y2 := Nm.cell_bt HQ.out.1 HBw.out
                have y3 := Nm.cell_bt HQ.out.2 HBw.out
                cases fb with
                | false =>
                  have HC2 := Lib.hid (HC.out.rule fun q' _ => HON.out F q' (fun h => by cases h))
                  clear y2 y3
                  go_wp2
                  exact ⟨⟨x + 1, F, by omega, by go_num, HB, HS, HC2, HW⟩, by simp [intOf]; omega⟩
                | true =>
                  by_cases hle : q + y.to.size ≤ m
                  · have hlei : (q : Int) + (y.to.size : Int) ≤ (m : Int) := by omega
                    have hle0 : (q : Int) ≤ (q : Int) + (y.to.size : Int) := by omega
                    have hqm : (q : Int) < (m : Int) + 1 := by omega
                    have hpn : (p : Int) < (n : Int) + 1 := by omega
                    have b1 := HB.out.c1 (i := p) (by omega) (by omega)
                    have b2 := HB.out.c2 (i := p) (k := q) (by omega) (by omega)
                    rcases HS.out.s p q (by rw [HLL.out]; omega) (by rw [HFL.out.1]; omega) with hneg | ⟨dn, hdn, hwr⟩
                    · have HC2 := Lib.hid (HC.out.next (HON.out F q (fun _ _ _ h => by omega)))
                      rw [hneg] at b2
                      clear y2 y3
                      go_wp2
                      exact ⟨⟨q + 1, F, by omega, by go_num, HB, HS, HC2, HW⟩, by simp [intOf]; omega⟩
                    · rw [hdn] at b2
                      have hd12 : dn ≤ 12000 := by
                        have := (hwr.cost HRF.out.2).1
                        rw [List.length_take] at this
                        omega
                      have hd0 : ¬ (dn : Int) < 0 := by omega
                      have hxt := Rw.ext_take f q y.to.size (by rw [HFL.out.2]; exact hle)
                      have HD := Lib.hid (And.intro hdn hwr)
                      clear hdn hwr
                      by_cases hex : f.extract q (q + y.to.size) = y.to
                      · have hxt2 : (f.data.toList.drop q).take y.to.size = y.to.data.toList := by rw [← hxt, hex]
                        obtain ⟨hq1, hq2⟩ := HST.out rfl
                        rw [HLL.out] at hq1
                        have hWn : Rw.Wr (Rw.rus k R) (L.take (p + mm)) (f.data.toList.take (q + y.to.size)) (dn + cn) := by
                          have h1 := Rw.take_step (by rw [HLL.out]; omega) hq2 HD.out.2
                          rwa [show f.data.toList.take (q + y.to.size) = f.data.toList.take q ++ y.to.data.toList from by rw [List.take_add, hxt2]]
                        have hpm : (p : Int) + (mm : Int) < (n : Int) + 1 := by omega
                        have hqt : (q : Int) + (y.to.size : Int) < (m : Int) + 1 := by omega
                        have b3 := HB.out.c1 (i := p + mm) (by omega) (by omega)
                        have b4 := HB.out.c2 (i := p + mm) (k := q + y.to.size) (by omega) (by omega)
                        have bf := HB.out.f2 (i := p + mm) (by omega) (q + y.to.size)
                        obtain ⟨ev, hev⟩ : ∃ ev, F (p + mm) (q + y.to.size) = ev := ⟨_, rfl⟩
                        rw [hev] at b4
                        have HEV := Lib.hid hev
                        have HWN := Lib.hid hWn
                        have HXT := Lib.hid hxt2
                        have hlow := HB.out.low (p + mm) (by omega)
                        clear hxt hxt2 hq2 hWn hev
                        have HST2 : Hid (∀ v : World, Below wr.heap.size wr v → (Below G V (v.setCell ⟨bs (p + mm), q + y.to.size, none⟩ (.int .i64 ((dn : Int) + (cn : Int)))) ∧ Rw.Bm (v.setCell ⟨bs (p + mm), q + y.to.size, none⟩ (.int .i64 ((dn : Int) + (cn : Int)))) G G n m (n + 1) bs (Rw.up F (p + mm) (q + y.to.size) ((dn : Int) + (cn : Int))))) := Lib.hid (fun v g => ⟨(HW.out.trans (g.mono (Nat.le_trans HSZ.out HW.out.size))).setCell (p := ⟨bs (p + mm), q + y.to.size, none⟩) hlow _, (HB.out.bt g).set (by omega) (by omega) _⟩)
                        have HSU : Hid (Rw.So (Rw.rus k R) L f.data.toList (Rw.up F (p + mm) (q + y.to.size) ((dn : Int) + (cn : Int)))) := Lib.hid (by
                          have := HS.out.up (i := p + mm) (j := q + y.to.size) (v := dn + cn) (by omega) HWN.out
                          rwa [show ((dn + cn : Nat) : Int) = (dn : Int) + (cn : Int) from by push_cast; rfl] at this)
                        have HCU : Hid ((ev < 0 ∨ (dn : Int) + (cn : Int) < ev) → Rw.Cm R k L f.data.toList (Rw.up F (p + mm) (q + y.to.size) ((dn : Int) + (cn : Int))) p x (q + 1)) := Lib.hid (fun h => by
                          have h1 := HC.out.up (i := p + mm) (j := q + y.to.size) (v := (dn : Int) + (cn : Int)) (by omega) (by omega) (by rw [HEV.out]; omega)
                          refine h1.next (HON.out _ q fun _ _ _ _ => ?_)
                          rw [Rw.up_same, Rw.up_row F _ (by omega), HD.out.1]
                          omega)
                        have HCN : Hid (¬ (ev < 0 ∨ (dn : Int) + (cn : Int) < ev) → Rw.Cm R k L f.data.toList F p x (q + 1)) := Lib.hid (fun h => by
                          refine HC.out.next (HON.out F q fun _ _ _ _ => ?_)
                          rw [HEV.out, HD.out.1]
                          omega)
                        clear hlow
                        by_cases he0 : ev < 0
                        · have HCZ := Lib.hid (HCU.out (.inl he0))
                          go_wp2
                          go_quiet (fail)
                          go_wp2
                          obtain ⟨gw, gb⟩ := HST2.out _ (Nm.drewB (Below.refl _ _) _)
                          exact ⟨⟨q + 1, _, by omega, by go_num, Lib.hid gb, HSU, HCZ, Lib.hid gw⟩, by simp [intOf]; omega⟩
                        · by_cases he1 : (dn : Int) + (cn : Int) < ev
                          · have HCZ := Lib.hid (HCU.out (.inr he1))
                            go_wp2
                            go_quiet (fail)
                            go_wp2
                            obtain ⟨gw, gb⟩ := HST2.out _ (Nm.drewB (Below.refl _ _) _)
                            exact ⟨⟨q + 1, _, by omega, by go_num, Lib.hid gb, HSU, HCZ, Lib.hid gw⟩, by simp [intOf]; omega⟩
                          · have HCZ := Lib.hid (HCN.out (by omega))
                            go_wp2
                            go_quiet (fail)
                            go_wp2
                            exact ⟨⟨q + 1, F, by omega, by go_num, Lib.hid (HB.out.bt (Nm.drewB (Below.refl _ _) _)), HS, HCZ, Lib.hid (Nm.drewB HW.out _)⟩, by simp [intOf]; omega⟩
                      · have hne := Rw.bytes_ne hex
                        have HC2 := Lib.hid (HC.out.next (HON.out F q (fun _ _ h _ => absurd (ByteArray.ext (Array.toList_inj.1 (hxt.trans h))) hex)))
                        clear hxt y3
                        go_wp2
                        exact ⟨⟨q + 1, F, by omega, by go_num, HB, HS, HC2, HW⟩, by simp [intOf]; omega⟩
                  · have hlei : ¬ (q : Int) + (y.to.size : Int) ≤ (m : Int) := by omega
                    have HC2 := Lib.hid (HC.out.rule fun q' hq' => HON.out F q' (fun _ h => by omega))
                    clear y2 y3
                    go_wp2
                    exact ⟨⟨x + 1, F, by omega, by go_num, HB, HS, HC2, HW⟩, by simp [intOf]; omega⟩
            · obtain rfl : x = nR := by omega
              have HC2 := Lib.hid (HC.out.place (by rw [HNR.out]; exact Nat.le_refl _))
              go_wp2
              exact ⟨⟨p + 1, F, by omega, by go_num, HB, HS, HC2, HW⟩, by simp [intOf]; omega⟩
        · obtain rfl : p = n := by omega
          have y1 := HB.out.c1 (i := p) (by omega) (by omega)
          have y2 := HB.out.c2 (i := p) (k := m) (by omega) (by omega)
          have HRES : Hid (F p m = (cc : Int)) := Lib.hid (by
            have hcm := HC.out
            rw [show p = L.length from HLL.out.symm] at hcm
            have h1 := Rw.Cm.least HRF.out.2 (fun z hz => (HRF.out.1 z hz).2.2.1) HS.out hcm p (by rw [HLL.out]; exact Nat.le_refl _) m (by rw [HFL.out.1]; exact Nat.le_refl _) cc (by
              rw [List.take_of_length_le (by rw [HLL.out]; exact Nat.le_refl _), List.take_of_length_le (by rw [HFL.out.1]; exact Nat.le_refl _)]
              exact HLE.out.1)
            rcases HS.out.s p m (by rw [HLL.out]; exact Nat.le_refl _) (by rw [HFL.out.1]; exact Nat.le_refl _) with h2 | ⟨c', h2, h3⟩
            · omega
            · rw [List.take_of_length_le (by rw [HLL.out]; exact Nat.le_refl _), List.take_of_length_le (by rw [HFL.out.1]; exact Nat.le_refl _)] at h3
              have := HLE.out.2 c' h3
              omega)
          rw [HRES.out] at y2
          go_wp2
          go_ret
          exact ⟨rfl, HV2.out.trans (HW.out.mono (by rw [← HGE.out]; exact Nat.le_succ _))⟩
end Go.Proofs.YtkddpealobeleaaGreatDoor
