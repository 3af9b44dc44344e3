/- short, and the reference's Verify (layer 3). The reference's Verify, where the index is in its limits (layer 3). -/
import Derived.Test.YtokhdloebcadnaaDoorSeI
import Derived.Test.YtokhdloebcadnaaDoorSeW
import Derived.Test.YtokhdloebcadnaaDoorSeL
import Derived.Test.YtokhdloebcadnaaDoorSeC
import Derived.Test.YtokhdloebcadnaaDoorTrZ
import Derived.BigQuiet
import Derived.Deep.QuietTactic
import Derived.Test.YtokhdloebcadnaaDoorSeG
namespace Go.Proofs.YtokhdloebcadnaaDoor
open Go.RowKit
set_option maxRecDepth 100000
set_option linter.unusedSimpArgs false
set_option linter.unusedVariables false

theorem belowDN (w : World) (q : Nat) : Below w.heap.size w (w.drewN q) := ⟨rfl, rfl, rfl, Nat.le_refl _, fun _ _ => rfl⟩

theorem vf_out {rt m : ByteArray} {i : Int} {sg pt : List ByteArray} (h : ¬ (0 ≤ i ∧ i < ((2 ^ pt.length : Nat) : Int))) : vf rt m i sg pt = false := by
  unfold vf
  rw [check_out rt _ i _ pt (fun h' => h ⟨h'.1, h'.2.1⟩)]
  simp

set_option maxHeartbeats 1000000 in
theorem rVerify_no (rt m : ByteArray) (i : Int) (A1 A2 : Option Addr) (n1 n2 c1 c2 : Nat) (w : World) (h : n1 ≠ 18 ∨ 8 < n2 ∨ i < 0 ∨ (n2 ≤ 8 ∧ ((2 ^ n2 : Nat) : Int) ≤ i)) :
    Calls Tryd.prog 19 #[.string rt, .string m, .agg #[.int .i64 i, .slice A1 n1 c1, .slice A2 n2 c2]] w fun e w' => e = .returned (.bool false) ∧ Below w.heap.size w w' := by
  have hbA := (Below.refl w.heap.size w).alloc (Nat.le_refl _) (.cells #[.int .i64 i, .slice A1 n1 c1, .slice A2 n2 c2] 24)
  have HBA := Lib.hid hbA
  clear hbA
  by_cases h1 : n1 = 18
  · subst h1
    by_cases h2 : 8 < n2
    · have h2i : (8 : Int) < (n2 : Int) := by omega
      clear h
      go_enter Tryd.func19, Tryd.ntmps19
      go_wp2_with fail
      go_quiet (fail)
      go_wp2
      go_ret
      exact ⟨rfl, Bt HBA.out (belowDN _ _)⟩
    · have h2i : ¬ (8 : Int) < (n2 : Int) := by omega
      by_cases h3 : i < 0
      · clear h
        go_enter Tryd.func19, Tryd.ntmps19
        go_wp2_with fail
        go_quiet (fail)
        go_wp2
        go_ret
        exact ⟨rfl, Bt HBA.out (belowDN _ _)⟩
      · have h4 : ((2 ^ n2 : Nat) : Int) ≤ i := by omega
        have h30 : 0 ≤ i := by omega
        have PW := Lib.hid (fun w' => power_any n2 w' (by omega))
        clear h
        generalize 2 ^ n2 = p at *
        go_enter Tryd.func19, Tryd.ntmps19
        go_wp2_with fail
        go_quiet ((go_at_call 33; exact Calls.quiet_of_same ((PW.out _).mono fun _ _ h => ⟨h.1, h.2.symm⟩)))
        go_wp2
        go_ret
        exact ⟨rfl, Bt HBA.out (belowDN _ _)⟩
  · have h1i : (n1 : Int) ≠ 18 := by omega
    have h1b : ((n1 : Int) == 18) = false := by rw [beq_eq_false_iff_ne]; exact h1i
    have h1c : decide ((n1 : Int) = 18) = false := decide_eq_false h1i
    have h1e : ((n1 : Int) != 18) = true := by rw [bne, h1b]; rfl
    clear h
    go_enter Tryd.func19, Tryd.ntmps19
    go_wp2_with fail
    go_quiet (fail)
    go_wp2
    go_ret
    exact ⟨rfl, Bt HBA.out (belowDN _ _)⟩
end Go.Proofs.YtokhdloebcadnaaDoor

namespace Go.Proofs.YtokhdloebcadnaaDoor
open Go.RowKit
set_option maxRecDepth 100000
set_option linter.unusedSimpArgs false
set_option linter.unusedVariables false

set_option maxHeartbeats 4000000 in
theorem rVerify_in (rt m : ByteArray) (i : Int) (A1 A2 : Option Addr) (c1 c2 : Nat) (sg pt : List ByteArray) (w : World) (hl : sg.length = 18) (hs1 : Strs w w.heap.size A1 sg) (hs2 : Strs w w.heap.size A2 pt) (h : pt.length ≤ 8) (hi0 : 0 ≤ i) (hi1 : i < ((2 ^ pt.length : Nat) : Int))
    (hc1 : 18 ≤ c1) (hm1 : c1 ≤ maxLen) (hc2 : pt.length ≤ c2) (hm2 : c2 ≤ maxLen) (hm : m.size ≤ 140737488355328) (hz1 : ∀ s ∈ sg, s.size ≤ 1000000000) (hz : ∀ s ∈ pt, s.size ≤ 1000000000) :
    Calls Tryd.prog 19 #[.string rt, .string m, .agg #[.int .i64 i, .slice A1 18 c1, .slice A2 pt.length c2]] w fun e w' => e = .returned (.bool (vf rt m i sg pt)) ∧ Below w.heap.size w w' := by
  obtain ⟨ad1, rfl, had1, _⟩ := hs1 0 (by omega)
  have hbA := (Below.refl w.heap.size w).alloc (Nat.le_refl _) (.cells #[.int .i64 i, .slice (some ad1) 18 c1, .slice A2 pt.length c2] 24)
  have b0 := Boxed3.new w (.int .i64 i) (.slice (some ad1) 18 c1) (.slice A2 pt.length c2)
  have PW := Lib.hid (fun w' => power_any pt.length w' (by omega))
  have DG := Lib.hid (fun w' => rDigits_any m w' hm)
  have CK := Lib.hid (fun (w' : World) (hb : Below w.heap.size w w') => rCheck_any rt ((2 ^ pt.length : Nat) : Int) i (Tr.dg (Se.ends m sg)) A2 c2 pt w' (by rw [Tr.dg_size]; omega) (hs2.bt hb) hz hc2 hm2)
  have hdl := Se.ds_length m
  have hdd := Lib.hid (Se.ds_getD_le m)
  have HS1 := Lib.hid hs1
  have HS2 := Lib.hid hs2
  have HZ1 : Hid (∀ k, (sg.getD k ⟨#[]⟩).size ≤ 1000000000) := Lib.hid (fun k => by
    by_cases hk : k < sg.length
    · refine hz1 _ ?_
      rw [List.getD_eq_getElem?_getD, List.getElem?_eq_getElem hk]
      exact List.getElem_mem _
    · rw [List.getD_eq_getElem?_getD, List.getElem?_eq_none (by omega)]
      exact Nat.zero_le _)
  have HZ2 := Lib.hid hz
  have B0 := Lib.hid b0
  have HL := Lib.hid hl
  have HBA := Lib.hid hbA
  have VI : Hid (Tr.digs sg = true → vf rt m i sg pt = Tr.check rt ((2 ^ pt.length : Nat) : Int) i (Tr.dg (Se.ends m sg)) pt) := Lib.hid (fun hd => vf_in hl h hd)
  have VD : Hid (Tr.digs pt = false → vf rt m i sg pt = false) := Lib.hid (fun hd => by
    unfold vf
    obtain ⟨j, rfl⟩ : ∃ j : Nat, i = (j : Int) := ⟨i.toNat, by omega⟩
    have hp8 : 2 ^ pt.length ≤ 256 := Nat.pow_le_pow_right (n := 2) (by omega) h
    rw [check_in rt (2 ^ pt.length) j _ pt (by omega) (by omega), hd]
    simp)
  have hm1' : c1 ≤ 9223372036854775807 := hm1
  have hm2' : c2 ≤ 9223372036854775807 := hm2
  have h8 : ¬ (8 : Int) < (pt.length : Int) := by omega
  have hi0' : ¬ i < 0 := by omega
  clear hs1 hs2 hz hz1 b0 hl hm1 hm2 hbA
  generalize Tr.check rt ((2 ^ pt.length : Nat) : Int) i (Tr.dg (Se.ends m sg)) pt = res at *
  generalize 2 ^ pt.length = p at *
  have hi1' : ¬ (p : Int) ≤ i := by omega
  go_enter Tryd.func19, Tryd.ntmps19
  go_wp2_with fail
  go_quiet ((go_at_call 33; exact Calls.quiet_of_same ((PW.out _).mono fun _ _ h => ⟨h.1, h.2.symm⟩)))
  go_wp2_with fail
  refine (DG.out _).mono ?_
  rintro e w2 ⟨vd, rfl, hod, hb2⟩
  obtain ⟨A3, c3, hvd, hint, hc3, hm3⟩ := hod.form
  rw [hdl] at hvd hc3
  subst hvd
  obtain ⟨ad3, rfl, had3, _⟩ := hint 0 (by omega)
  have hm3' : c3 ≤ 9223372036854775807 := hm3
  have hb02 := Bt (Bt HBA.out (belowDN _ nq)) hb2
  have B2 := (Boxed3.bt (B0.out.bt (belowDN _ nq)) hb2)
  have CS : Hid (∀ W, Below w2.heap.size w2 W → (W.cell? ⟨w.heap.size, 0, none⟩ = some (.int .i64 i) ∧ W.cell? ⟨w.heap.size, 1, none⟩ = some (.slice (some ad1) 18 c1) ∧ W.cell? ⟨w.heap.size, 2, none⟩ = some (.slice A2 pt.length c2)) ∧
      (∀ k, k < 18 → W.cell? (ad1.add k) = some (.string (sg.getD k ⟨#[]⟩)) ∧ W.cell? (ad3.add k) = some (.int .i64 (((Se.ds m).getD k 0 : Nat) : Int))) ∧ Strs W W.heap.size A2 pt) := Lib.hid (fun W hW => by
    obtain ⟨k0, k1, k2, _, _, _⟩ := (B2.bt hW).cells
    refine ⟨⟨k0, k1, k2⟩, fun k hk => ⟨?_, ?_⟩, (HS2.out.bt hb02).bt hW⟩
    · obtain ⟨ad, e, _, hc⟩ := HS1.out k (by rw [HL.out]; exact hk)
      cases e
      exact cell_bt (cell_bt hc hb02) hW
    · obtain ⟨ad, e, _, hc⟩ := hint k (by rw [hdl]; exact hk)
      cases e
      exact cell_bt hc hW)
  have HB02 := Lib.hid hb02
  clear hod hint hb2 hdl B2 DG hb02
  go_wp2_with fail
  go_loopw [8, 9] (fun e j wr => ∃ k : Nat, k ≤ 18 ∧ j = .int .i64 (k : Int) ∧ Below w2.heap.size w2 wr ∧ OwnS wr w2.heap.size e (cends m sg k) ∧ Hid (Tr.digs (sg.take k) = true)) (fun _ j _ => 18 - (intOf j).toNat)
  case atStart => exact ⟨0, by omega, rfl, Below.refl _ _, OwnS.nil _ _, Lib.hid rfl⟩
  case round =>
    obtain ⟨k, hk, rfl, hb, hown, HA⟩ := hrel
    obtain ⟨⟨k0, k1, k2⟩, hel, hpt⟩ := CS.out wr hb
    by_cases hlt : k < 18
    · obtain ⟨hq1, hq3⟩ := hel k hlt
      have hd15 := hdd.out k
      have hxs := HZ1.out k
      have ME := Lib.hid (cends_succ m sg k)
      have hlb : Hid ((cends m sg k).length ≤ 18) := Lib.hid (by simp [cends]; omega)
      have htk := Lib.hid (take_snoc sg ⟨#[]⟩ k (by rw [HL.out]; exact hlt))
      have hmem : Hid (sg.getD k ⟨#[]⟩ ∈ sg) := Lib.hid (by
        rw [List.getD_eq_getElem?_getD, List.getElem?_eq_getElem (by rw [HL.out]; exact hlt)]
        exact List.getElem_mem _)
      have HB := Lib.hid hb
      have HO := Lib.hid hown
      clear hel hpt hb hown hdd
      generalize hde : (Se.ds m).getD k 0 = d at *
      clear hde
      generalize sg.getD k ⟨#[]⟩ = tx at *
      by_cases hdg : Dg.isDigest tx.data.toList = true
      · have h16 : tx.size = 16 := by
          have hdd' := hdg
          unfold Dg.isDigest at hdd'
          simp only [Bool.and_eq_true, beq_iff_eq] at hdd'
          simpa using hdd'.1
        have IS := Lib.hid (by have := ris_any tx wr (by unfold maxLen; omega); rw [hdg] at this; exact this)
        have CV := Lib.hid (fun w' => chain_val tx (15 - d) (by omega) w' (by omega))
        have hdc : ((15 - d : Nat) : Int) = 15 - (d : Int) := by omega
        rw [hdc] at CV
        have hdw : IntKind.i64.wrap (15 - (d : Int)) = 15 - (d : Int) := by rw [IntKind.wrap_i64]; omega
        have HDG := Lib.hid hdg
        clear hdc hdg h16
        generalize Se.ch tx (15 - d) = ce at *
        generalize cends m sg k = el at *
        go_wp2_with fail
        refine IS.out.mono ?_
        rintro e w' ⟨rfl, rfl⟩
        go_wp2_with fail
        go_region_held3 (fun w' => w'.cell? ⟨w.heap.size, 1, none⟩ = some (.slice (some ad1) 18 c1) ∧ w'.cell? (ad1.add k) = some (.string tx) ∧ w'.cell? (ad3.add k) = some (.int .i64 (d : Int))) (first | exact ⟨k1, hq1, hq3⟩ | exact ⟨s1, s2, s3⟩ | exact ⟨r1, r2, r3⟩)
          (first
            | (go_at_call 35
               (with_reducible refine (CV.out _).mono ?_)
               rintro e w3 ⟨rfl, rfl⟩
               have ha := ((Below.refl wr.heap.size wr).alloc (Nat.le_refl _) (.cells #[.string ce] 9)).drew
               have o1' := own_below (own_one wr w2.heap.size ce HB.out.size) (Bd _)
               have r1 := cell_bt k1 ha
               have r2 := cell_bt hq1 ha
               have r3 := cell_bt hq3 ha
               have o3 := own_below HO.out ha
               have b3 := (HB.out.alloc HB.out.size (.cells #[.string ce] 9)).drew)
            | (refine step_append4 (by rfl) (.tmp 48) (.tmp 60) (by rfl) w2.heap.size _ el (by rfl) o3 _ w2.heap.size [ce] (by rfl) o1' (by have := hlb.out; simp; omega) b3.size ?_
               intro v5 w5 p5
               have b5 := b3.trans p5.below
               have s1 := ((CS.out w5 b5).1).2.1
               have s2 := (p5.below.cell (p := ad1.add k) (by rw [add_block]; exact Nat.lt_of_lt_of_le had1 HB02.out.size)).trans r2
               have s3 := (p5.below.cell (p := ad3.add k) (by rw [add_block]; exact had3)).trans r3)
            | fail)
        all_goals
          clear r1 r2 r3 s2 s3
          go_wp2_with fail
          exact ⟨⟨k + 1, by omega, by go_num, b5, by rw [ME.out]; exact p5.own, Lib.hid (by unfold Tr.digs; rw [htk.out, List.all_append]; have := HA.out; unfold Tr.digs at this; rw [this]; simpa using HDG.out)⟩, by simp [intOf]; omega⟩
      · have hdf := Bool.eq_false_iff.2 hdg
        have IS := Lib.hid (by have := ris_any tx wr (by unfold maxLen; omega); rw [hdf] at this; exact this)
        have HV : Hid (vf rt m i sg pt = false) := Lib.hid (vf_digs (List.all_eq_false.2 ⟨tx, hmem.out, by simpa using hdf⟩))
        clear hdg hdf
        go_wp2_with fail
        refine IS.out.mono ?_
        rintro e w' ⟨rfl, rfl⟩
        go_wp2_with fail
        go_ret
        exact ⟨by rw [HV.out]; rfl, HB02.out.trans (HB.out.mono HB02.out.size)⟩
    · obtain rfl : k = 18 := by omega
      have hds : Tr.digs sg = true := by
        have := HA.out
        rwa [List.take_of_length_le (by rw [HL.out]; omega)] at this
      have VR := Lib.hid (VI.out hds)
      have hfe : cends m sg 18 = Se.ends m sg := rfl
      rw [hfe] at hown
      obtain ⟨A4, c4, hv4, hs4, hc4, hm4⟩ := hown.form
      subst hv4
      have hz : ∀ x ∈ Se.ends m sg, x.size ≤ 1000 := by
        intro x hx
        obtain ⟨j, hj, rfl⟩ := List.mem_map.1 hx
        refine ch_le _ _ _ ?_ (by omega)
        by_cases hk2 : j < sg.length
        · have : sg.getD j ⟨#[]⟩ ∈ sg := by
            rw [List.getD_eq_getElem?_getD, List.getElem?_eq_getElem hk2]
            exact List.getElem_mem _
          rw [digs_small hds _ this]
          omega
        · rw [List.getD_eq_getElem?_getD, List.getElem?_eq_none (by omega)]
          exact Nat.zero_le _
      have hfl : (Se.ends m sg).length = 18 := by simp [Se.ends]
      have hr := fins_room _ hz (by rw [hfl]; omega)
      have LR : Hid (∀ W, Below wr.heap.size wr W → Calls Tryd.prog 44 #[.slice A4 18 c4] W fun e w' => e = .returned (.string (Tr.dg (Se.ends m sg))) ∧ Below W.heap.size W w') := Lib.hid (fun W hW => by
        have := list_ref_any A4 c4 _ W (hs4.bt hW) (by rw [hfl]; simp [maxLen]) hr.1 hr.2
        rw [hfl] at this
        exact this)
      have HB := Lib.hid hb
      have hwr : Below w.heap.size w wr := HB02.out.trans (hb.mono HB02.out.size)
      have HWR := Lib.hid hwr
      clear hb hown hs4 hz hr hfe hds hwr hel HA VI
      rw [hfl] at hc4 ⊢
      clear hfl
      generalize Tr.dg (Se.ends m sg) = ky at *
      go_wp2_with fail
      rw [show ((18 : Nat) : Int) = 18 from rfl]
      go_loop [10] (fun j => ∃ q : Nat, q ≤ pt.length ∧ j = .int .i64 (q : Int)) (fun j => pt.length - (intOf j).toNat)
      case atStart => exact ⟨0, by omega, rfl⟩
      case round =>
        obtain ⟨q, hq, rfl⟩ := hrel
        by_cases hlt2 : q < pt.length
        · obtain ⟨ad, rfl, hab, hqc⟩ := hpt q hlt2
          have hmem : pt.getD q ByteArray.empty ∈ pt := by
            rw [List.getD_eq_getElem?_getD, List.getElem?_eq_getElem hlt2]
            exact List.getElem_mem _
          have hzq := HZ2.out _ hmem
          have HM := Lib.hid hmem
          clear hmem hpt
          generalize pt.getD q ByteArray.empty = x at *
          by_cases hdg : Dg.isDigest x.data.toList = true
          · have IS := Lib.hid (by have := ris_any x wr (by unfold maxLen; omega); rw [hdg] at this; exact this)
            clear hdg
            go_wp2_with fail
            refine IS.out.mono ?_
            rintro e w' ⟨rfl, rfl⟩
            go_wp2_with fail
            exact ⟨⟨q + 1, by omega, by go_num⟩, by simp [intOf]; omega⟩
          · have hdf := Bool.eq_false_iff.2 hdg
            have IS := Lib.hid (by have := ris_any x wr (by unfold maxLen; omega); rw [hdf] at this; exact this)
            have HV : Hid (vf rt m i sg pt = false) := Lib.hid (VD.out (List.all_eq_false.2 ⟨x, HM.out, by simpa using hdf⟩))
            clear hdg hdf
            go_wp2_with fail
            refine IS.out.mono ?_
            rintro e w' ⟨rfl, rfl⟩
            go_wp2_with fail
            go_ret
            exact ⟨by rw [HV.out]; rfl, HWR.out⟩
        · obtain rfl : q = pt.length := by omega
          clear hpt
          go_wp2_with fail
          go_region_held3 (fun w' => w'.cell? ⟨w.heap.size, 0, none⟩ = some (.int .i64 i) ∧ w'.cell? ⟨w.heap.size, 2, none⟩ = some (.slice A2 pt.length c2)) (first | exact ⟨k0, k2⟩ | exact ⟨s0, s2⟩ | exact ⟨r0, r2⟩)
            (first
              | (go_at_call 33
                 (with_reducible refine (PW.out _).mono ?_)
                 rintro e w5 ⟨rfl, rfl⟩)
              | (go_at_call 44
                 (with_reducible refine (LR.out _ (Bd wr)).mono ?_)
                 rintro e w6 ⟨rfl, hb6⟩
                 have hb6' := Bt (Bd wr) hb6
                 have hw6 := HWR.out.trans (hb6'.mono HWR.out.size)
                 have r0 := cell_bt k0 hb6'
                 have r2 := cell_bt k2 hb6')
              | (go_at_call 43
                 (with_reducible refine (CK.out _ hw6).mono ?_)
                 rintro e w7 ⟨rfl, hb7⟩
                 have hw7 := hw6.trans (hb7.mono hw6.size)
                 have s0 := cell_bt r0 hb7
                 have s2 := cell_bt r2 hb7)
              | fail)
          all_goals
            go_wp2
            go_ret
            exact ⟨by rw [VR.out]; rfl, hw7⟩

theorem rVerify_any (rt m : ByteArray) (i : Int) (A1 A2 : Option Addr) (c1 c2 : Nat) (sg pt : List ByteArray) (w : World) (hs1 : Strs w w.heap.size A1 sg) (hs2 : Strs w w.heap.size A2 pt)
    (hc1 : sg.length ≤ c1) (hm1 : c1 ≤ maxLen) (hc2 : pt.length ≤ c2) (hm2 : c2 ≤ maxLen) (hm : m.size ≤ 140737488355328) (hz1 : ∀ s ∈ sg, s.size ≤ 1000000000) (hz : ∀ s ∈ pt, s.size ≤ 1000000000) :
    Calls Tryd.prog 19 #[.string rt, .string m, .agg #[.int .i64 i, .slice A1 sg.length c1, .slice A2 pt.length c2]] w fun e w' => e = .returned (.bool (vf rt m i sg pt)) ∧ Below w.heap.size w w' := by
  by_cases hl : sg.length = 18
  · by_cases h8 : pt.length ≤ 8
    · by_cases hi : 0 ≤ i ∧ i < ((2 ^ pt.length : Nat) : Int)
      · rw [hl] at hc1 ⊢
        exact rVerify_in rt m i A1 A2 c1 c2 sg pt w hl hs1 hs2 h8 hi.1 hi.2 hc1 hm1 hc2 hm2 hm hz1 hz
      · rw [vf_out hi]
        exact rVerify_no rt m i A1 A2 sg.length pt.length c1 c2 w (by omega)
    · rw [vf_path (by omega)]
      exact rVerify_no rt m i A1 A2 sg.length pt.length c1 c2 w (by omega)
  · rw [vf_len hl]
    exact rVerify_no rt m i A1 A2 sg.length pt.length c1 c2 w (by omega)
end Go.Proofs.YtokhdloebcadnaaDoor
