/- Layer 9, the reference: Parse. -/
import Derived.Test.YtcjlnmfbanknhaaDoorNmRj
import Derived.Test.YtcjlnmfbanknhaaDoorNmRe
import Derived.Test.YtcjlnmfbanknhaaDoorNmQ
import Derived.BigRegion
set_option linter.unusedSimpArgs false
set_option linter.unusedVariables false
namespace Go.Proofs.YtcjlnmfbanknhaaDoor
open Go.RowKit Go.Shelf
set_option maxRecDepth 100000
set_option maxHeartbeats 8000000
attribute [-go_sem] Builtin.append_
theorem Nm.sc_nat {f : Nat} (h1 : 1 ≤ f) (h4 : f ≤ 4) : Nm.sc (f : Int) = f := by
  unfold Nm.sc
  rw [if_pos ⟨by omega, by omega⟩]
  omega
theorem Nm.b2_put {W : World} {E : Nat} {x u : Value} (h : Nm.B2 W E x u) (k v : Value) : ((W.setCell ⟨E, 0, none⟩ k).setCell ⟨E, 1, none⟩ v).cell? ⟨E, 0, none⟩ = some k ∧ ((W.setCell ⟨E, 0, none⟩ k).setCell ⟨E, 1, none⟩ v).cell? ⟨E, 1, none⟩ = some v := Nm.put2 h k v
/-- Behind an error. -/
theorem Nm.bad_post {w w' : World} {T : Nm.T} {e a : Int} (hp : Nm.parse T = ⟨0, [], e, a⟩) (hb : Below w.heap.size w w') : Nm.PPost w (Nm.parse T) (.returned (.tuple #[.agg #[.int .i64 0, .slice none 0 0], .int .i64 e, .int .i64 a])) w' := by
  rw [hp]
  exact ⟨_, rfl, OwnS.nil _ _, hb⟩
theorem Nm.two_sets {w V W : World} {R : Nat} (h : Below R V W) (hw : Below w.heap.size w V) (hR : R = w.heap.size) (x y : Value) : Below w.heap.size w ((W.setCell ⟨R, 0, none⟩ x).setCell ⟨R, 1, none⟩ y) := by
  subst hR
  exact hw.trans ((h.setCell (p := ⟨w.heap.size, 0, none⟩) (Nat.le_refl _) _).setCell (p := ⟨w.heap.size, 1, none⟩) (Nat.le_refl _) _)
theorem bytes_neN {x y : ByteArray} (h : x ≠ y) : (x.toList == y.toList) = false := by
  rw [beq_eq_false_iff_ne]
  intro e
  rw [ByteArray.toList_eq, ByteArray.toList_eq] at e
  exact h (ByteArray.ext (Array.toList_inj.1 e))
theorem Nm.rparse_any (t : ByteArray) (w : World) (hm : t.size ≤ 2000) :
    Calls Tryd.prog 14 #[.string t] w (Nm.PPost w (Nm.parse t.data.toList)) := by
  have HL : Hid (t.data.toList.length = t.size) := Lib.hid (Lib.size_eq t).symm
  have HM : Hid (t.data.toList.length ≤ 20000) := Lib.hid (by rw [HL.out]; omega)
  have hd0 : ¬ (20000 : Int) < (t.size : Int) := by omega
  have TI := Lib.hid (fun (j : Nat) (h1 : 1 ≤ j) (h4 : j ≤ 4) v => Nm.title_any j h1 h4 v)
  obtain ⟨V, hV⟩ : ∃ V, V = (w.alloc (.cells #[.int .i64 0, .slice none 0 0] 24)).alloc (.cells #[.int .i64 0, .slice none 0 0] 24) := ⟨_, rfl⟩
  have HBV : Hid (Below w.heap.size w V) := Lib.hid (by rw [hV]; exact (Nm.al w _).alloc (by simp) _)
  have HRV : Hid (Nm.B2 V w.heap.size (.int .i64 0) (.slice none 0 0)) := Lib.hid (by rw [hV]; exact (Below.heap_alloc _ _ _ (by simp)).trans (heap_alloc_new w _))
  have HEV : Hid (Nm.B2 V (w.heap.size + 1) (.int .i64 0) (.slice none 0 0)) := Lib.hid (by
    rw [hV]
    have := heap_alloc_new (w.alloc (.cells #[.int .i64 0, .slice none 0 0] 24)) (.cells #[.int .i64 0, .slice none 0 0] 24)
    simpa [Nm.B2] using this)
  have HV := Lib.hid hV
  clear hV
  go_enter Tryd.func14, Tryd.ntmps14
  go_wp2
  rw [← HV.out]
  obtain ⟨E, hE⟩ : ∃ E, w.heap.size + 1 = E := ⟨_, rfl⟩
  obtain ⟨R, hR⟩ : ∃ R, w.heap.size = R := ⟨_, rfl⟩
  have hER : R + 1 = E := by omega
  rw [hE] at HEV
  rw [hR] at HRV
  have HRW := Lib.hid hR
  have HER := Lib.hid hER
  try rw [hE]
  try rw [hR]
  clear hE hR HV hER
  go_loopw [6, 7, 8] (fun s6 s7 _ wr => ∃ (j f a : Nat), 1 ≤ j ∧ j ≤ 5 ∧ f ≤ 4 ∧ a ≤ 7 ∧ s6 = .int .i64 (a : Int) ∧ s7 = .int .i64 (j : Int) ∧ Hid (Nm.Fn t.data.toList j f a) ∧ Hid (Nm.B2 wr E (.int .i64 (f : Int)) (.slice none 0 0)) ∧ Hid (Below E V wr)) (fun _ s7 _ _ => 5 - (intOf s7).toNat)
  case atStart => exact ⟨1, 0, 0, by omega, by omega, by omega, by omega, rfl, rfl, Lib.hid (Nm.Fn.start _), HEV, Lib.hid (Below.refl _ _)⟩
  case round =>
    obtain ⟨j, f, a, hj1, hj5, hf4, ha7, rfl, rfl, HF, HE, HB⟩ := hrel
    have x0 := HE.out.c0
    have f0 := HE.out.f 0
    by_cases hlt : j ≤ 4
    · have hlt' : (j : Int) ≤ 4 := by omega
      have T1 := Lib.hid (TI.out j hj1 hlt)
      have htl := Nm.title_len hj1 hlt
      have hbt := Nm.bt_list (Nm.title j)
      obtain ⟨tb, htb⟩ : ∃ tb, Nm.bt (Nm.title j) = tb := ⟨_, rfl⟩
      rw [htb] at T1 hbt
      have hts : tb.size = (Nm.title j).length := by rw [Lib.size_eq, hbt]
      have htb7 : tb.size ≤ 7 := by omega
      have HTS := Lib.hid hts
      clear hts htl
      go_wp2_with fail
      refine (T1.out wr).mono ?_
      rintro e w1 ⟨rfl, g1⟩
      have HE1 := Lib.hid (HE.out.below g1 HE.out.lt)
      have HB1 := Lib.hid (HB.out.trans (g1.mono (Nat.le_of_lt HE.out.lt)))
      have y0 := HE1.out.c0
      have g0 := HE1.out.f 0
      clear g1 T1 x0 f0
      by_cases hsz : tb.size ≤ t.size
      · have hd1 : decide ((tb.size : Int) ≤ (t.size : Int)) = true := decide_eq_true (by omega)
        have hz1 : (0 : Int) ≤ (tb.size : Int) := by omega
        have hz2 : (tb.size : Int) ≤ (t.size : Int) := by omega
        have hxl : (t.extract 0 tb.size).data.toList = t.data.toList.take tb.size := by rw [Lib.extract_data]; simp
        obtain ⟨x, hx⟩ : ∃ x, t.extract 0 tb.size = x := ⟨_, rfl⟩
        rw [hx] at hxl
        by_cases hxt : x = tb
        · subst hxt
          have hT : t.data.toList = Nm.title j ++ t.data.toList.drop x.size := by
            conv => lhs; rw [← List.take_append_drop x.size t.data.toList, ← hxl, hbt]
          have HF1 := Lib.hid (Nm.Fn.hit hj1 hlt hT (f := f) (a := a))
          have hq : (x.toList == x.toList) = true := by simp
          rw [← HTS.out] at HF1
          clear hT hxl htb hbt HF
          go_wp2
          have HEN := Lib.hid (HE1.out.s0 (.int .i64 (j : Int)))
          have HBN := Lib.hid (HB1.out.setCell (p := ⟨E, 0, none⟩) (Nat.le_refl _) (.int .i64 (j : Int)))
          exact ⟨⟨j + 1, j, x.size, by omega, by omega, by omega, by omega, rfl, by go_num, HF1, HEN, HBN⟩, by simp [intOf]; omega⟩
        · have hne := bytes_neN hxt
          have HF1 := Lib.hid (HF.out.miss (by
            cases hp : (Nm.title j).isPrefixOf t.data.toList with
            | false => rfl
            | true =>
              obtain ⟨r, hr⟩ := List.isPrefixOf_iff_prefix.1 hp
              refine absurd (ByteArray.ext (Array.toList_inj.1 ?_)) hxt
              rw [hxl, hbt, ← hr, HTS.out]
              simp))
          clear hxl htb hbt HF
          go_wp2
          exact ⟨⟨j + 1, f, a, by omega, by omega, by omega, by omega, rfl, by go_num, HF1, HE1, HB1⟩, by simp [intOf]; omega⟩
      · have hd1 : decide ((tb.size : Int) ≤ (t.size : Int)) = false := decide_eq_false (by omega)
        have HF1 := Lib.hid (HF.out.miss (by
          cases hp : (Nm.title j).isPrefixOf t.data.toList with
          | false => rfl
          | true =>
            have := (List.isPrefixOf_iff_prefix.1 hp).length_le
            have := HL.out
            have := HTS.out
            omega))
        clear htb hbt HF
        go_wp2
        exact ⟨⟨j + 1, f, a, by omega, by omega, by omega, by omega, rfl, by go_num, HF1, HE1, HB1⟩, by simp [intOf]; omega⟩
    · have hj55 : j = 5 := by omega
      have hlt' : ¬ (j : Int) ≤ 4 := by omega
      have HFJ : Hid (Nm.Fn t.data.toList 5 f a) := Lib.hid (by rw [← hj55]; exact HF.out)
      clear HF hj55 hj1 hj5 hlt
      have HR := Lib.hid (HRV.out.below HB.out (by have := HER.out; omega))
      by_cases ha0 : a = 0
      · subst ha0
        obtain ⟨hf0, hp⟩ := HFJ.out.none HM.out
        have HP := Lib.hid hp
        obtain ⟨r0, r1, e0, e1, r1', e1'⟩ := Nm.box2 HR.out (.int .i64 0)
        clear hp hf0 x0 f0
        go_wp2
        have hp := Nm.put2 HR.out (.int .i64 0) (.slice none 0 0)
        refine bodyPost_ret (v := .tuple #[.agg #[.int .i64 0, .slice none 0 0], .int .i64 5, .int .i64 0]) (by simp [results, Tryd.f14, go_sem, hp.1, hp.2]) rfl
          (Nm.bad_post HP.out (Nm.two_sets (HB.out.mono (by have := HER.out; omega)) HBV.out HRW.out.symm _ _))
      · have ha0' : ((a : Int) == 0) = false := by simp; omega
        have ha0'' : ¬ (a : Int) = 0 := by omega
        obtain ⟨hf1, hf4', hal, r, hr⟩ := HFJ.out.some ha0
        have HTR := Lib.hid hr
        have hsc : Nm.Sc f t.data.toList a 0 false 0 [] := by rw [hal]; exact Nm.Sc.start (by rw [hr, List.length_append]; omega)
        have HSC := Lib.hid hsc
        have LN := Lib.hid (fun (i : Nat) (hi : i ≤ t.size) v => Nm.rlength_any (f : Int) t i v (by omega) (by omega))
        rw [Nm.sc_nat hf1 hf4'] at LN
        have HOW : Hid (OwnS wr (E + 1) (.slice none 0 0) (([] : List Nm.T).map Nm.bt)) := Lib.hid (OwnS.nil _ _)
        have HSZ : Hid (E + 1 ≤ wr.heap.size) := Lib.hid HE.out.lt
        clear hal hr hsc HFJ ha7 x0 f0
        go_wp2
        go_loopw [3, 4, 9, 10, 11, 12, 13] (fun _ _ s9 s10 s11 s12 _ wr => ∃ (i lt bg : Nat) (ins : Bool) (ws : List Nm.T) (v : Value), i ≤ t.size ∧ lt ≤ 12 ∧ bg ≤ i ∧ ws.length ≤ 6 ∧ s9 = .bool ins ∧ s10 = .int .i64 (lt : Int) ∧ s11 = .int .i64 (bg : Int) ∧ s12 = .int .i64 (i : Int) ∧ Hid (Nm.Sc f t.data.toList i bg ins lt ws) ∧ Hid (OwnS wr (E + 1) v (ws.map Nm.bt)) ∧ Hid (Nm.B2 wr E (.int .i64 (f : Int)) v) ∧ Hid (Below E V wr) ∧ Hid (E + 1 ≤ wr.heap.size)) (fun _ _ _ _ _ s12 _ _ => t.size - (intOf s12).toNat)
        case atStart => exact ⟨a, 0, 0, false, [], _, by have := HSC.out.le; have := HL.out; omega, by omega, by omega, by simp, rfl, rfl, rfl, rfl, HSC, HOW, HE, HB, HSZ⟩
        case round =>
          clear HSC HOW HE HB HSZ
          obtain ⟨i, lt, bg, ins, ws, v, hi, hlt12, hbg, h6, rfl, rfl, rfl, rfl, HSC, HOW, HE, HB, HSZ⟩ := hrel
          have hi0 : (0 : Int) ≤ (i : Int) := by omega
          have HR := Lib.hid (HRV.out.below HB.out (by have := HER.out; omega))
          have hmlen : (ws.map Nm.bt).length = ws.length := List.length_map ..
          obtain ⟨A, cp, hv, _, _, _⟩ := OwnS.form HOW.out
          rw [hmlen] at hv
          subst hv
          have z0 := HE.out.c0
          have z1 := HE.out.c1
          have fz1 := HE.out.f 1
          have HN := Lib.hid hmlen
          clear hmlen
          by_cases hlt : i < t.size
          · have hlt' : (i : Int) < (t.size : Int) := by omega
            have hget := Lib.data_getElem? t i hlt
            obtain ⟨x, hx⟩ : ∃ x : UInt8, t[i]'hlt = x := ⟨_, rfl⟩
            rw [hx] at hget
            have hxl := UInt8.toNat_lt x
            have HGET := Lib.hid hget
            clear hget
            by_cases h32 : x = 32
            · subst h32
              have hq : (((32 : UInt8).toNat : Int) == 32) = true := by decide
              have hq2 : (((32 : UInt8).toNat : Int)) = 32 := by decide
              cases ins with
              | false =>
                have HS := Lib.hid (HSC.out.blank0 HGET.out)
                clear hxl z0 z1 fz1
                go_wp2
                exact ⟨⟨i + 1, lt, bg, false, ws, _, by omega, by omega, by omega, h6, rfl, rfl, rfl, by go_num, HS, HOW, HE, HB, HSZ⟩, by simp [intOf]; omega⟩
              | true =>
                have HS := Lib.hid (HSC.out.blank1 HGET.out)
                obtain ⟨hib, hw5⟩ := HSC.out.ib rfl
                obtain ⟨g, cap, w3, hrun, s1, s2, s3, s4, s5, s6⟩ := Nm.words_round wr E (E + 1) _ _ _ (t.extract bg i) HE.out HOW.out (by omega) HSZ.out (by rw [HN.out]; omega)
                have htx : (t.extract bg i) = Nm.bt ((t.data.toList.drop bg).take (i - bg)) := by
                  refine ByteArray.ext (Array.toList_inj.1 ?_)
                  rw [Nm.bt_list, Lib.extract_data]
                  try rfl
                obtain ⟨tx, htxx⟩ : ∃ tx, (t.extract bg i) = tx := ⟨_, rfl⟩
                rw [htxx] at hrun s1 s4 htx
                have bg0 : (0 : Int) ≤ (bg : Int) := by omega
                have bg1 : (bg : Int) ≤ (i : Int) := by omega
                have bg2 : (i : Int) ≤ (t.size : Int) := by omega
                have zd : wr.drew.cell? ⟨E, 1, none⟩ = some (.slice A ws.length cp) := z1
                have sa := s1.c1
                have sa' : (wr.alloc (.cells #[.string tx] 9)).drew.cell? ⟨E, 1, none⟩ = some (.slice A ws.length cp) := sa
                have sb := s2.c1
                have sf := s2.f 1
                rw [HN.out] at hrun s3 s4 s5 s6
                replace hrun : (Builtin.append_ #[22, 22] 22 #[.slice A ws.length cp, .slice (some ⟨wr.heap.size, 0, none⟩) 1 1]).run Tryd.prog (wr.alloc (.cells #[.string tx] 9)).drew = .ok (.slice (some ⟨g, 0, none⟩) (ws.length + 1) cap) w3 := hrun
                have HEN := Lib.hid s3
                have HON := Lib.hid s4
                have HBN := Lib.hid (HB.out.trans s5)
                have HSN := Lib.hid s6
                have HTX := Lib.hid htx
                clear s1 s2 s3 s4 s5 s6 htx z0 fz1
                go_wp2_with fail
                refine wp_region_held_drew (S := fun w' => True) (by kernel_rfl) trivial (fun hH => ?_)
                refine wpAnyH_take (i := 0) (v := ?v0a) rfl (by kernel_rfl) (by kernel_rfl) (by kernel_rfl) (fun _ _ _ h => h) (Or.inl ⟨by rfl, ?hy0a⟩) hH ?rest0a
                case hy0a =>
                  intro w' hSw
                  go_simp
                  try with_reducible rfl
                try simp only [Act.put, List.setIfInBounds_toArray, List.set_cons_zero, List.set_cons_succ]
                refine wpAnyH_take (i := 2) (v := ?v2a) rfl (by kernel_rfl) (by kernel_rfl) (by kernel_rfl) (fun _ _ _ h => h) (Or.inl ⟨by rfl, ?hy2a⟩) hH ?rest2a
                case hy2a =>
                  intro w' hSw
                  go_simp
                  try with_reducible rfl
                try simp only [Act.put, List.setIfInBounds_toArray, List.set_cons_zero, List.set_cons_succ]
                refine wpAnyH_take (i := 3) (v := ?v3a) rfl (by kernel_rfl) (by kernel_rfl) (by kernel_rfl) (fun _ _ _ h => h) (Or.inl ⟨by rfl, ?hy3a⟩) hH ?rest3a
                case hy3a =>
                  intro w' hSw
                  go_simp
                  try with_reducible rfl
                try simp only [Act.put, List.setIfInBounds_toArray, List.set_cons_zero, List.set_cons_succ]
                refine wpAnyH_take (i := 4) (v := ?v4a) rfl (by kernel_rfl) (by kernel_rfl) (by kernel_rfl) (fun _ _ _ h => h) (Or.inl ⟨by rfl, ?hy4a⟩) hH ?rest4a
                case hy4a =>
                  intro w' hSw
                  go_simp
                  try with_reducible rfl
                try simp only [Act.put, List.setIfInBounds_toArray, List.set_cons_zero, List.set_cons_succ]
                refine wpAnyH_take (i := 5) (v := ?v5a) rfl (by kernel_rfl) (by kernel_rfl) (by kernel_rfl) (fun _ _ _ h => h) (Or.inl ⟨by rfl, ?hy5a⟩) hH ?rest5a
                case hy5a =>
                  intro w' hSw
                  go_simp
                  try with_reducible rfl
                try simp only [Act.put, List.setIfInBounds_toArray, List.set_cons_zero, List.set_cons_succ]
                refine wpAnyH_ready (rs := [1, 6]) (by kernel_rfl) (by simp) ?_
                refine AllReadyH.cons (i := 1) rfl (fun K hK => ?_) (AllReadyH.cons (i := 6) rfl (fun K hK => ?_) (AllReadyH.nil))
                · go_simp
                  refine hK.out _ _ trivial (fun hH => ?_)
                  try simp only [Act.put, List.setIfInBounds_toArray, List.set_cons_zero, List.set_cons_succ]
                  refine wpAnyH_ready (rs := [6]) (by kernel_rfl) (by simp) ?_
                  refine AllReadyH.cons (i := 6) rfl (fun K hK => ?_) (AllReadyH.nil)
                  go_simp
                  refine hK.out _ _ trivial (fun hH => ?_)
                  try simp only [Act.put, List.setIfInBounds_toArray, List.set_cons_zero, List.set_cons_succ]
                  refine wpAnyH_ready (rs := [7]) (by kernel_rfl) (by simp) ?_
                  refine AllReadyH.cons (i := 7) rfl (fun K hK => ?_) (AllReadyH.nil)
                  go_simp
                  refine hK.out _ _ trivial (fun hH => ?_)
                  try simp only [Act.put, List.setIfInBounds_toArray, List.set_cons_zero, List.set_cons_succ]
                  refine wpAnyH_take (i := 8) (v := ?v8ax) rfl (by kernel_rfl) (by kernel_rfl) (by kernel_rfl) (fun _ _ _ h => h) (Or.inl ⟨by rfl, ?hy8ax⟩) hH ?rest8ax
                  case hy8ax =>
                    intro w' hSw
                    go_simp
                    try with_reducible rfl
                  try simp only [Act.put, List.setIfInBounds_toArray, List.set_cons_zero, List.set_cons_succ]
                  refine wpAnyH_ready (rs := [9]) (by kernel_rfl) (by simp) ?_
                  refine AllReadyH.cons (i := 9) rfl (fun K hK => ?_) (AllReadyH.nil)
                  go_simp
                  refine hK.out _ _ trivial (fun hH => ?_)
                  try simp only [Act.put, List.setIfInBounds_toArray, List.set_cons_zero, List.set_cons_succ]
                  refine wpAnyH_done (by kernel_rfl) ?_ _
                  go_wp2_with fail
                  go_roundw
                  case rel => exact ⟨i + 1, lt, bg, false, ws ++ [(t.data.toList.drop bg).take (i - bg)], _, by omega, by omega, by omega, by simp; omega, rfl, rfl, rfl, by go_num, HS, Lib.hid (by rw [List.map_append, List.map_singleton, ← HTX.out]; exact HON.out), HEN, HBN, HSN⟩
                  case measure => simp [intOf]; omega
                · go_simp
                  refine hK.out _ _ trivial (fun hH => ?_)
                  try simp only [Act.put, List.setIfInBounds_toArray, List.set_cons_zero, List.set_cons_succ]
                  refine wpAnyH_ready (rs := [1]) (by kernel_rfl) (by simp) ?_
                  refine AllReadyH.cons (i := 1) rfl (fun K hK => ?_) (AllReadyH.nil)
                  go_simp
                  refine hK.out _ _ trivial (fun hH => ?_)
                  try simp only [Act.put, List.setIfInBounds_toArray, List.set_cons_zero, List.set_cons_succ]
                  refine wpAnyH_ready (rs := [7]) (by kernel_rfl) (by simp) ?_
                  refine AllReadyH.cons (i := 7) rfl (fun K hK => ?_) (AllReadyH.nil)
                  go_simp
                  refine hK.out _ _ trivial (fun hH => ?_)
                  try simp only [Act.put, List.setIfInBounds_toArray, List.set_cons_zero, List.set_cons_succ]
                  refine wpAnyH_take (i := 8) (v := ?v8ay) rfl (by kernel_rfl) (by kernel_rfl) (by kernel_rfl) (fun _ _ _ h => h) (Or.inl ⟨by rfl, ?hy8ay⟩) hH ?rest8ay
                  case hy8ay =>
                    intro w' hSw
                    go_simp
                    try with_reducible rfl
                  try simp only [Act.put, List.setIfInBounds_toArray, List.set_cons_zero, List.set_cons_succ]
                  refine wpAnyH_ready (rs := [9]) (by kernel_rfl) (by simp) ?_
                  refine AllReadyH.cons (i := 9) rfl (fun K hK => ?_) (AllReadyH.nil)
                  go_simp
                  refine hK.out _ _ trivial (fun hH => ?_)
                  try simp only [Act.put, List.setIfInBounds_toArray, List.set_cons_zero, List.set_cons_succ]
                  refine wpAnyH_done (by kernel_rfl) ?_ _
                  go_wp2_with fail
                  go_roundw
                  case rel => exact ⟨i + 1, lt, bg, false, ws ++ [(t.data.toList.drop bg).take (i - bg)], _, by omega, by omega, by omega, by simp; omega, rfl, rfl, rfl, by go_num, HS, Lib.hid (by rw [List.map_append, List.map_singleton, ← HTX.out]; exact HON.out), HEN, HBN, HSN⟩
                  case measure => simp [intOf]; omega
            · have hne : ((x.toNat : Int) == 32) = false := by
                have : x.toNat ≠ 32 := fun e => h32 (UInt8.toNat_inj.1 e)
                simp; omega
              have hne2 : ¬ (x.toNat = 32) := fun e => h32 (UInt8.toNat_inj.1 e)
              have hne3 : ¬ ((x.toNat : Int) = 32) := by omega
              have L1 := Lib.hid (LN.out i hi)
              have hln := Nm.ln_le f (t.data.toList.drop i)
              have hl2 := Nm.ln_two f (t.data.toList.drop i)
              rw [List.length_drop, HL.out] at hln
              have HXB := Lib.hid (fun h0 => HSC.out.bad HGET.out h32 h0)
              have HXF := Lib.hid (fun h0 hf => HSC.out.full h0 hf)
              have HXS0 := Lib.hid (fun (hins : ins = false) (h0 : Nm.ln f (t.data.toList.drop i) ≠ 0) (h6' : ws.length ≠ 6) => Nm.Sc.go0 (hins ▸ HSC.out) h0 h6')
              have HXS1 := Lib.hid (fun (hins : ins = true) (h0 : Nm.ln f (t.data.toList.drop i) ≠ 0) (h12 : lt ≠ 12) => Nm.Sc.go1 (hins ▸ HSC.out) h0 h12)
              obtain ⟨q, hq⟩ : ∃ q, Nm.ln f (t.data.toList.drop i) = q := ⟨_, rfl⟩
              rw [hq] at L1 hln hl2 HXB HXF HXS0 HXS1
              clear hq hxl
              go_wp2_with fail
              refine (L1.out wr).mono ?_
              rintro e w1 ⟨rfl, g1⟩
              have HE1 := Lib.hid (HE.out.below g1 HE.out.lt)
              have HB1 := Lib.hid (HB.out.trans (g1.mono (Nat.le_of_lt HE.out.lt)))
              have HR1 := Lib.hid (HRV.out.below HB1.out (by have := HER.out; omega))
              have HO1 := Lib.hid (own_below HOW.out g1)
              have HSZ1 : Hid (E + 1 ≤ w1.heap.size) := Lib.hid (Nat.le_trans HSZ.out g1.size)
              have y0 := HE1.out.c0
              have y1 := HE1.out.c1
              obtain ⟨r0, r1, e0, e1, r1', e1'⟩ := Nm.box2 HR1.out (.int .i64 0)
              clear g1 L1 z0 z1 fz1 HE HB HR HOW HSZ HSC
              by_cases h0 : q = 0
              · subst h0
                have HP := Lib.hid (Nm.parse_bad hf1 hf4' HTR.out HM.out (by decide) (HXB.out rfl))
                clear HXB HXF HXS0 HXS1
                go_wp2
                have hp := Nm.put2 HR1.out (.int .i64 0) (.slice none 0 0)
                have hpa : Nm.parse t.data.toList = ⟨0, [], 3, (i : Int)⟩ := by
                  rw [HP.out]
                  have := HL.out
                  congr 1
                  all_goals omega
                refine bodyPost_ret (v := .tuple #[.agg #[.int .i64 0, .slice none 0 0], .int .i64 3, .int .i64 ((i : Int))]) (by simp [results, Tryd.f14, go_sem, hp.1, hp.2]) rfl
                  (Nm.bad_post hpa (Nm.two_sets (HB1.out.mono (by have := HER.out; omega)) HBV.out HRW.out.symm _ _))
              · have hq0 : ((q : Int) == 0) = false := by simp; omega
                have hq1 : ¬ ((q : Int) = 0) := by omega
                cases ins with
                | false =>
                  by_cases h66 : ws.length = 6
                  · have h66' : (ws.length : Int) = 6 := by omega
                    have h66'' : ((ws.length : Int) == 6) = true := by simp; omega
                    have HP := Lib.hid (Nm.parse_bad hf1 hf4' HTR.out HM.out (by decide) (HXF.out h0 (.inl ⟨rfl, h66⟩)))
                    clear HXB HXF HXS0 HXS1 h66
                    go_wp2
                    have hp := Nm.put2 HR1.out (.int .i64 0) (.slice none 0 0)
                    have hpa : Nm.parse t.data.toList = ⟨0, [], 2, (i : Int)⟩ := by
                      rw [HP.out]
                      have := HL.out
                      congr 1
                      all_goals omega
                    refine bodyPost_ret (v := .tuple #[.agg #[.int .i64 0, .slice none 0 0], .int .i64 2, .int .i64 ((i : Int))]) (by simp [results, Tryd.f14, go_sem, hp.1, hp.2]) rfl
                      (Nm.bad_post hpa (Nm.two_sets (HB1.out.mono (by have := HER.out; omega)) HBV.out HRW.out.symm _ _))
                  · have h66' : ¬ (ws.length : Int) = 6 := by omega
                    have h66'' : ((ws.length : Int) == 6) = false := by simp; omega
                    have HS := Lib.hid (HXS0.out rfl h0 h66)
                    clear HXB HXF HXS0 HXS1 h66
                    go_wp2
                    exact ⟨⟨i + q, 1, i, true, ws, _, by omega, by omega, by omega, h6, rfl, by go_num, rfl, by go_num, HS, HO1, HE1, HB1, HSZ1⟩, by simp [intOf]; omega⟩
                | true =>
                  by_cases h12 : lt = 12
                  · subst h12
                    have HP := Lib.hid (Nm.parse_bad hf1 hf4' HTR.out HM.out (by decide) (HXF.out h0 (.inr ⟨rfl, rfl⟩)))
                    clear HXB HXF HXS0 HXS1
                    go_wp2
                    have hp := Nm.put2 HR1.out (.int .i64 0) (.slice none 0 0)
                    have hpa : Nm.parse t.data.toList = ⟨0, [], 2, (i : Int)⟩ := by
                      rw [HP.out]
                      have := HL.out
                      congr 1
                      all_goals omega
                    refine bodyPost_ret (v := .tuple #[.agg #[.int .i64 0, .slice none 0 0], .int .i64 2, .int .i64 ((i : Int))]) (by simp [results, Tryd.f14, go_sem, hp.1, hp.2]) rfl
                      (Nm.bad_post hpa (Nm.two_sets (HB1.out.mono (by have := HER.out; omega)) HBV.out HRW.out.symm _ _))
                  · have h12' : ¬ (12 : Int) < (lt : Int) + 1 := by omega
                    have HS := Lib.hid (HXS1.out rfl h0 h12)
                    clear HXB HXF HXS0 HXS1
                    go_wp2
                    exact ⟨⟨i + q, lt + 1, bg, true, ws, _, by omega, by omega, by omega, h6, rfl, by go_num, rfl, by go_num, HS, HO1, HE1, HB1, HSZ1⟩, by simp [intOf]; omega⟩
          · obtain rfl : i = t.size := by omega
            obtain ⟨r0, r1, e0, e1, r1', e1'⟩ := Nm.box2 HR.out (.int .i64 0)
            have hsz : t.data.toList.length = t.size := HL.out
            cases ins with
            | false =>
              have hend := (show Nm.Sc f t.data.toList t.data.toList.length bg false lt ws from by rw [hsz]; exact HSC.out).end0
              by_cases hw0 : ws = []
              · subst hw0
                have HP := Lib.hid (Nm.parse_bad hf1 hf4' HTR.out HM.out (by decide) hend)
                clear hend hsz
                go_wp2
                have hp := Nm.put2 HR.out (.int .i64 0) (.slice none 0 0)
                have hpa : Nm.parse t.data.toList = ⟨0, [], 6, (t.size : Int)⟩ := by
                  rw [HP.out]
                  have := HL.out
                  congr 1
                  all_goals omega
                refine bodyPost_ret (v := .tuple #[.agg #[.int .i64 0, .slice none 0 0], .int .i64 6, .int .i64 ((t.size : Int))]) (by simp [results, Tryd.f14, go_sem, hp.1, hp.2]) rfl
                  (Nm.bad_post hpa (Nm.two_sets (HB.out.mono (by have := HER.out; omega)) HBV.out HRW.out.symm _ _))
              · rw [Nm.fin_ne hw0] at hend
                have hwl := List.length_pos_iff.2 hw0
                have HP := Lib.hid (Nm.parse_good hf1 hf4' HTR.out HM.out hend)
                have hn0 : ((ws.length : Int) == 0) = false := by simp; omega
                have hn1 : ¬ (ws.length : Int) = 0 := by omega
                obtain ⟨r0, r1, e0, e1, r1', e1'⟩ := Nm.box2 HR.out (.int .i64 (f : Int))
                clear hend hsz hw0
                go_wp2
                have hp := Nm.put2 HR.out (.int .i64 (f : Int)) (.slice A ws.length cp)
                refine bodyPost_ret (v := .tuple #[.agg #[.int .i64 (f : Int), .slice A ws.length cp], .int .i64 0, .int .i64 0]) (by simp [results, Tryd.f14, go_sem, hp.1, hp.2]) rfl (by
                  rw [HP.out]
                  refine ⟨_, rfl, ?_, Nm.two_sets (HB.out.mono (by have := HER.out; omega)) HBV.out HRW.out.symm _ _⟩
                  refine OwnS.mono (B := E + 1) (Nm.own_set (Nm.own_set ?_ 0 _ ?_) 1 _ ?_) ?_
                  · exact HOW.out
                  · have := HER.out; omega
                  · have := HER.out; omega
                  · have := HER.out; have := HRW.out; omega)
            | true =>
              have hend := (show Nm.Sc f t.data.toList t.data.toList.length bg true lt ws from by rw [hsz]; exact HSC.out).end1
              obtain ⟨hib, hw5⟩ := HSC.out.ib rfl
              have HP := Lib.hid (Nm.parse_good hf1 hf4' HTR.out HM.out hend)
              clear hend hsz r0 r1 e0 e1 r1' e1'
              obtain ⟨g, cap, w3, hrun, s1, s2, s3, s4, s5, s6⟩ := Nm.words_round wr E (E + 1) _ _ _ (t.extract bg t.size) HE.out HOW.out (by omega) HSZ.out (by rw [HN.out]; omega)
              have htx : (t.extract bg t.size) = Nm.bt (t.data.toList.drop bg) := by
                refine ByteArray.ext (Array.toList_inj.1 ?_)
                rw [Nm.bt_list, Lib.extract_data]
                exact List.take_of_length_le (by rw [List.length_drop, HL.out]; omega)
              obtain ⟨tx, htxx⟩ : ∃ tx, (t.extract bg t.size) = tx := ⟨_, rfl⟩
              rw [htxx] at hrun s1 s4 htx
              have bg0 : (0 : Int) ≤ (bg : Int) := by omega
              have bg1 : (bg : Int) ≤ (t.size : Int) := by omega
              have zd : wr.drew.cell? ⟨E, 1, none⟩ = some (.slice A ws.length cp) := z1
              have sa := s1.c1
              have sa' : (wr.alloc (.cells #[.string tx] 9)).drew.cell? ⟨E, 1, none⟩ = some (.slice A ws.length cp) := sa
              have sb := s2.c1
              have sf := s2.f 1
              rw [HN.out] at hrun s3 s4 s5 s6
              replace hrun : (Builtin.append_ #[22, 22] 22 #[.slice A ws.length cp, .slice (some ⟨wr.heap.size, 0, none⟩) 1 1]).run Tryd.prog (wr.alloc (.cells #[.string tx] 9)).drew = .ok (.slice (some ⟨g, 0, none⟩) (ws.length + 1) cap) w3 := hrun
              have HEN := Lib.hid s3
              have HON := Lib.hid s4
              have HBN := Lib.hid (HB.out.trans s5)
              have HSN := Lib.hid s6
              have HTX := Lib.hid htx
              clear s1 s2 s3 s4 s5 s6 htx z0 fz1
              go_wp2_with fail
              refine wp_region_held_drew (S := fun w' => True) (by kernel_rfl) trivial (fun hH => ?_)
              refine wpAnyH_take (i := 0) (v := ?v0b) rfl (by kernel_rfl) (by kernel_rfl) (by kernel_rfl) (fun _ _ _ h => h) (Or.inl ⟨by rfl, ?hy0b⟩) hH ?rest0b
              case hy0b =>
                intro w' hSw
                go_simp
                try with_reducible rfl
              try simp only [Act.put, List.setIfInBounds_toArray, List.set_cons_zero, List.set_cons_succ]
              refine wpAnyH_take (i := 2) (v := ?v2b) rfl (by kernel_rfl) (by kernel_rfl) (by kernel_rfl) (fun _ _ _ h => h) (Or.inl ⟨by rfl, ?hy2b⟩) hH ?rest2b
              case hy2b =>
                intro w' hSw
                go_simp
                try with_reducible rfl
              try simp only [Act.put, List.setIfInBounds_toArray, List.set_cons_zero, List.set_cons_succ]
              refine wpAnyH_take (i := 3) (v := ?v3b) rfl (by kernel_rfl) (by kernel_rfl) (by kernel_rfl) (fun _ _ _ h => h) (Or.inl ⟨by rfl, ?hy3b⟩) hH ?rest3b
              case hy3b =>
                intro w' hSw
                go_simp
                try with_reducible rfl
              try simp only [Act.put, List.setIfInBounds_toArray, List.set_cons_zero, List.set_cons_succ]
              refine wpAnyH_take (i := 4) (v := ?v4b) rfl (by kernel_rfl) (by kernel_rfl) (by kernel_rfl) (fun _ _ _ h => h) (Or.inl ⟨by rfl, ?hy4b⟩) hH ?rest4b
              case hy4b =>
                intro w' hSw
                go_simp
                try with_reducible rfl
              try simp only [Act.put, List.setIfInBounds_toArray, List.set_cons_zero, List.set_cons_succ]
              refine wpAnyH_ready (rs := [1, 5]) (by kernel_rfl) (by simp) ?_
              refine AllReadyH.cons (i := 1) rfl (fun K hK => ?_) (AllReadyH.cons (i := 5) rfl (fun K hK => ?_) (AllReadyH.nil))
              · go_simp
                refine hK.out _ _ trivial (fun hH => ?_)
                try simp only [Act.put, List.setIfInBounds_toArray, List.set_cons_zero, List.set_cons_succ]
                refine wpAnyH_ready (rs := [5]) (by kernel_rfl) (by simp) ?_
                refine AllReadyH.cons (i := 5) rfl (fun K hK => ?_) (AllReadyH.nil)
                go_simp
                refine hK.out _ _ trivial (fun hH => ?_)
                try simp only [Act.put, List.setIfInBounds_toArray, List.set_cons_zero, List.set_cons_succ]
                refine wpAnyH_ready (rs := [6]) (by kernel_rfl) (by simp) ?_
                refine AllReadyH.cons (i := 6) rfl (fun K hK => ?_) (AllReadyH.nil)
                go_simp
                refine hK.out _ _ trivial (fun hH => ?_)
                try simp only [Act.put, List.setIfInBounds_toArray, List.set_cons_zero, List.set_cons_succ]
                refine wpAnyH_take (i := 7) (v := ?v7bx) rfl (by kernel_rfl) (by kernel_rfl) (by kernel_rfl) (fun _ _ _ h => h) (Or.inl ⟨by rfl, ?hy7bx⟩) hH ?rest7bx
                case hy7bx =>
                  intro w' hSw
                  go_simp
                  try with_reducible rfl
                try simp only [Act.put, List.setIfInBounds_toArray, List.set_cons_zero, List.set_cons_succ]
                refine wpAnyH_ready (rs := [8]) (by kernel_rfl) (by simp) ?_
                refine AllReadyH.cons (i := 8) rfl (fun K hK => ?_) (AllReadyH.nil)
                go_simp
                refine hK.out _ _ trivial (fun hH => ?_)
                try simp only [Act.put, List.setIfInBounds_toArray, List.set_cons_zero, List.set_cons_succ]
                refine wpAnyH_done (by kernel_rfl) ?_ _
                have HRN := Lib.hid (HRV.out.below HBN.out (by have := HER.out; omega))
                obtain ⟨r0, r1, e0, e1, r1', e1'⟩ := Nm.box2 HRN.out (.int .i64 (f : Int))
                have q0 := HEN.out.c0
                have q1 := HEN.out.c1
                have hn1 : ¬ ((ws.length : Int) + 1 = 0) := by omega
                have hn0 : (((ws.length : Int) + 1) == 0) = false := by simp; omega
                go_wp2
                have hp := Nm.put2 HRN.out (.int .i64 (f : Int)) (.slice (some ⟨g, 0, none⟩) (ws.length + 1) cap)
                refine bodyPost_ret (v := .tuple #[.agg #[.int .i64 (f : Int), .slice (some ⟨g, 0, none⟩) (ws.length + 1) cap], .int .i64 0, .int .i64 0]) (by simp [results, Tryd.f14, go_sem, hp.1, hp.2]) rfl (by
                  rw [HP.out]
                  refine ⟨_, rfl, ?_, Nm.two_sets (HBN.out.mono (by have := HER.out; omega)) HBV.out HRW.out.symm _ _⟩
                  refine OwnS.mono (B := E + 1) (Nm.own_set (Nm.own_set ?_ 0 _ ?_) 1 _ ?_) ?_
                  · rw [List.map_append, List.map_singleton, ← HTX.out]; exact HON.out
                  · have := HER.out; omega
                  · have := HER.out; omega
                  · have := HER.out; have := HRW.out; omega)
              · go_simp
                refine hK.out _ _ trivial (fun hH => ?_)
                try simp only [Act.put, List.setIfInBounds_toArray, List.set_cons_zero, List.set_cons_succ]
                refine wpAnyH_ready (rs := [1]) (by kernel_rfl) (by simp) ?_
                refine AllReadyH.cons (i := 1) rfl (fun K hK => ?_) (AllReadyH.nil)
                go_simp
                refine hK.out _ _ trivial (fun hH => ?_)
                try simp only [Act.put, List.setIfInBounds_toArray, List.set_cons_zero, List.set_cons_succ]
                refine wpAnyH_ready (rs := [6]) (by kernel_rfl) (by simp) ?_
                refine AllReadyH.cons (i := 6) rfl (fun K hK => ?_) (AllReadyH.nil)
                go_simp
                refine hK.out _ _ trivial (fun hH => ?_)
                try simp only [Act.put, List.setIfInBounds_toArray, List.set_cons_zero, List.set_cons_succ]
                refine wpAnyH_take (i := 7) (v := ?v7by) rfl (by kernel_rfl) (by kernel_rfl) (by kernel_rfl) (fun _ _ _ h => h) (Or.inl ⟨by rfl, ?hy7by⟩) hH ?rest7by
                case hy7by =>
                  intro w' hSw
                  go_simp
                  try with_reducible rfl
                try simp only [Act.put, List.setIfInBounds_toArray, List.set_cons_zero, List.set_cons_succ]
                refine wpAnyH_ready (rs := [8]) (by kernel_rfl) (by simp) ?_
                refine AllReadyH.cons (i := 8) rfl (fun K hK => ?_) (AllReadyH.nil)
                go_simp
                refine hK.out _ _ trivial (fun hH => ?_)
                try simp only [Act.put, List.setIfInBounds_toArray, List.set_cons_zero, List.set_cons_succ]
                refine wpAnyH_done (by kernel_rfl) ?_ _
                have HRN := Lib.hid (HRV.out.below HBN.out (by have := HER.out; omega))
                obtain ⟨r0, r1, e0, e1, r1', e1'⟩ := Nm.box2 HRN.out (.int .i64 (f : Int))
                have q0 := HEN.out.c0
                have q1 := HEN.out.c1
                have hn1 : ¬ ((ws.length : Int) + 1 = 0) := by omega
                have hn0 : (((ws.length : Int) + 1) == 0) = false := by simp; omega
                go_wp2
                have hp := Nm.put2 HRN.out (.int .i64 (f : Int)) (.slice (some ⟨g, 0, none⟩) (ws.length + 1) cap)
                refine bodyPost_ret (v := .tuple #[.agg #[.int .i64 (f : Int), .slice (some ⟨g, 0, none⟩) (ws.length + 1) cap], .int .i64 0, .int .i64 0]) (by simp [results, Tryd.f14, go_sem, hp.1, hp.2]) rfl (by
                  rw [HP.out]
                  refine ⟨_, rfl, ?_, Nm.two_sets (HBN.out.mono (by have := HER.out; omega)) HBV.out HRW.out.symm _ _⟩
                  refine OwnS.mono (B := E + 1) (Nm.own_set (Nm.own_set ?_ 0 _ ?_) 1 _ ?_) ?_
                  · rw [List.map_append, List.map_singleton, ← HTX.out]; exact HON.out
                  · have := HER.out; omega
                  · have := HER.out; omega
                  · have := HER.out; have := HRW.out; omega)
end Go.Proofs.YtcjlnmfbanknhaaDoor
