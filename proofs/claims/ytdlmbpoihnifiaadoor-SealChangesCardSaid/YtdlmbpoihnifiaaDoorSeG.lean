/- The reference's Checked: the texts that are digested when a seal is verified (layer 3). -/
import Derived.Test.YtdlmbpoihnifiaaDoorSeF
import Derived.Test.YtdlmbpoihnifiaaDoorSeL
namespace Go.Proofs.YtdlmbpoihnifiaaDoor
open Go.RowKit
set_option maxRecDepth 100000
set_option linter.unusedSimpArgs false
set_option linter.unusedVariables false

def cpart (m : ByteArray) (sg : List ByteArray) (k : Nat) : List ByteArray := (List.range k).flatMap fun k => Se.chained (sg.getD k ⟨#[]⟩) (15 - (Se.ds m).getD k 0)
def cends (m : ByteArray) (sg : List ByteArray) (k : Nat) : List ByteArray := (List.range k).map fun k => Se.ch (sg.getD k ⟨#[]⟩) (15 - (Se.ds m).getD k 0)
theorem cpart_succ (m : ByteArray) (sg : List ByteArray) (k : Nat) : cpart m sg (k + 1) = cpart m sg k ++ Se.chained (sg.getD k ⟨#[]⟩) (15 - (Se.ds m).getD k 0) := by
  unfold cpart
  rw [List.range_succ, List.flatMap_append]
  simp
theorem cends_succ (m : ByteArray) (sg : List ByteArray) (k : Nat) : cends m sg (k + 1) = cends m sg k ++ [Se.ch (sg.getD k ⟨#[]⟩) (15 - (Se.ds m).getD k 0)] := map_range_snoc _ k
theorem cpart_length (m : ByteArray) (sg : List ByteArray) : ∀ k, (cpart m sg k).length ≤ k * 16
  | 0 => by simp [cpart]
  | k + 1 => by
    have := cpart_length m sg k
    rw [cpart_succ, List.length_append]
    simp [Se.chained]
    omega
theorem climb_drop (a : ByteArray) (j q : Nat) (pt : List ByteArray) (h : q < pt.length) : Se.climb a j (pt.drop q) = Tr.jn (Se.step a j (pt.getD q ByteArray.empty)) :: Se.climb (Tr.dg (Se.step a j (pt.getD q ByteArray.empty))) (j / 2) (pt.drop (q + 1)) := by
  rw [List.drop_eq_getElem_cons h, List.getD_eq_getElem?_getD, List.getElem?_eq_getElem h]
  rfl

set_option maxHeartbeats 4000000 in
theorem checked_any (m : ByteArray) (i : Nat) (sg pt : List ByteArray) (A1 A2 : Option Addr) (c1 c2 : Nat) (w : World) (hi : (i : Int) ≤ 9223372036854775807) (hm : m.size ≤ 140737488355328) (hl : sg.length = 18) (hp : pt.length ≤ 1000) (hs1 : Strs w w.heap.size A1 sg) (hs2 : Strs w w.heap.size A2 pt)
    (hc1 : 18 ≤ c1) (hm1 : c1 ≤ maxLen) (hc2 : pt.length ≤ c2) (hm2 : c2 ≤ maxLen) (hz1 : ∀ s ∈ sg, s.size ≤ 1000) (hz2 : ∀ s ∈ pt, s.size ≤ 1000000000) :
    Calls Tryd.prog 24 #[.string m, .agg #[.int .i64 (i : Int), .slice A1 18 c1, .slice A2 pt.length c2]] w (Gives (Se.checked m i sg pt) w) := by
  obtain ⟨ad1, rfl, had1, _⟩ := hs1 0 (by omega)
  have hbA := (Below.refl w.heap.size w).alloc (Nat.le_refl _) (.cells #[.int .i64 (i : Int), .slice (some ad1) 18 c1, .slice A2 pt.length c2] 24)
  have b0 := Boxed3.new w (.int .i64 (i : Int)) (.slice (some ad1) 18 c1) (.slice A2 pt.length c2)
  have DG := Lib.hid (fun w' => rDigits_any m w' hm)
  have hdl := Se.ds_length m
  have hdd := Lib.hid (Se.ds_getD_le m)
  have HS1 := Lib.hid hs1
  have HS2 := Lib.hid hs2
  have HZ1 : Hid (∀ k, (sg.getD k ⟨#[]⟩).size ≤ 1000) := Lib.hid (fun k => by
    by_cases hk : k < sg.length
    · refine hz1 _ ?_
      rw [List.getD_eq_getElem?_getD, List.getElem?_eq_getElem hk]
      exact List.getElem_mem _
    · rw [List.getD_eq_getElem?_getD, List.getElem?_eq_none (by omega)]
      exact Nat.zero_le _)
  have HZ2 := Lib.hid hz2
  have B0 := Lib.hid b0
  have HL := Lib.hid hl
  have hm1' : c1 ≤ 9223372036854775807 := hm1
  have hm2' : c2 ≤ 9223372036854775807 := hm2
  unfold Gives
  clear hs1 hs2 hz1 hz2 b0 hl hm1 hm2
  go_enter Tryd.func24, Tryd.ntmps24
  go_wp2_with fail
  refine (DG.out _).mono ?_
  rintro e w2 ⟨vd, rfl, hod, hb2⟩
  obtain ⟨A3, c3, hvd, hint, hc3, hm3⟩ := hod.form
  rw [hdl] at hvd hc3
  subst hvd
  obtain ⟨ad3, rfl, had3, _⟩ := hint 0 (by omega)
  have hm3' : c3 ≤ 9223372036854775807 := hm3
  have hb02 := Bt hbA hb2
  have B2 := (B0.out.bt hb2)
  have CS : Hid (∀ W, Below w2.heap.size w2 W → (W.cell? ⟨w.heap.size, 0, none⟩ = some (.int .i64 (i : Int)) ∧ W.cell? ⟨w.heap.size, 1, none⟩ = some (.slice (some ad1) 18 c1) ∧ W.cell? ⟨w.heap.size, 2, none⟩ = some (.slice A2 pt.length c2)) ∧
      (∀ k, k < 18 → W.cell? (ad1.add k) = some (.string (sg.getD k ⟨#[]⟩)) ∧ W.cell? (ad3.add k) = some (.int .i64 (((Se.ds m).getD k 0 : Nat) : Int))) ∧ Strs W W.heap.size A2 pt) := Lib.hid (fun W hW => by
    obtain ⟨k0, k1, k2, _, _, _⟩ := (B2.bt hW).cells
    refine ⟨⟨k0, k1, k2⟩, fun k hk => ⟨?_, ?_⟩, (HS2.out.bt hb02).bt hW⟩
    · obtain ⟨ad, e, _, hc⟩ := HS1.out k (by rw [HL.out]; exact hk)
      cases e
      exact cell_bt (cell_bt hc hb02) hW
    · obtain ⟨ad, e, _, hc⟩ := hint k (by rw [hdl]; exact hk)
      cases e
      exact cell_bt hc hW)
  have HB02 := Lib.hid hb02
  clear hod hint hb2 hbA hdl B2 DG hb02
  go_wp2_with fail
  go_loopw [6, 7, 8, 9] (fun o e j _ wr => ∃ k : Nat, k ≤ 18 ∧ j = .int .i64 (k : Int) ∧ Below w2.heap.size w2 wr ∧ Own3 wr w2.heap.size o (cpart m sg k) e (cends m sg k) (.slice none 0 0) []) (fun _ _ j _ _ => 18 - (intOf j).toNat)
  case atStart => exact ⟨0, by omega, rfl, Below.refl _ _, Own3.nil _ _⟩
  case round =>
    obtain ⟨k, hk, rfl, hb, hown⟩ := hrel
    obtain ⟨⟨k0, k1, k2⟩, hel, hpt⟩ := CS.out wr hb
    by_cases hlt : k < 18
    · obtain ⟨hq1, hq3⟩ := hel k hlt
      have hd15 := hdd.out k
      have hxs := HZ1.out k
      have MS := Lib.hid (cpart_succ m sg k)
      have ME := Lib.hid (cends_succ m sg k)
      have hlb : Hid ((cpart m sg k).length ≤ 300 ∧ (cends m sg k).length ≤ 18) := Lib.hid (by
        have := cpart_length m sg k
        refine ⟨by omega, by simp [cends]; omega⟩)
      have HB := Lib.hid hb
      have HO := Lib.hid hown
      clear hel hpt hb hown hdd
      generalize hde : (Se.ds m).getD k 0 = d at *
      clear hde
      generalize sg.getD k ⟨#[]⟩ = tx at *
      have CH := Lib.hid (fun w' => chained_any tx (15 - d) w' (by omega) (by omega))
      have hdc : ((15 - d : Nat) : Int) = 15 - (d : Int) := by omega
      rw [hdc] at CH
      have hcl : Hid ((Se.chained tx (15 - d)).length = 15 - d + 1) := Lib.hid (by simp [Se.chained])
      have hce : Hid ((Se.chained tx (15 - d)).getD (15 - d) ByteArray.empty = Se.ch tx (15 - d)) := Lib.hid (by
        unfold Se.chained
        rw [List.getD_eq_getElem?_getD, List.getElem?_map, List.getElem?_range (by omega)]
        rfl)
      obtain ⟨dn, hdn⟩ : ∃ dn, dn = 15 - d := ⟨_, rfl⟩
      have hdz : 15 - (d : Int) = (dn : Int) := by omega
      have hdw : IntKind.i64.wrap (15 - (d : Int)) = (dn : Int) := by rw [IntKind.wrap_i64]; omega
      have hdw' : wrap64 (15 - (d : Int)) = (dn : Int) := by unfold wrap64; omega
      have hd16 : dn ≤ 15 := by omega
      have hdw2 : IntKind.i64.wrap (dn : Int) = (dn : Int) := by rw [IntKind.wrap_i64]; omega
      rw [hdz] at CH
      rw [← hdn] at CH hcl hce MS ME
      clear hdc hdn
      generalize Se.ch tx dn = ce at *
      generalize Se.chained tx dn = cl at *
      generalize cpart m sg k = ol at *
      generalize cends m sg k = el at *
      go_wp2_with fail
      go_region_held3 (fun w' => w'.cell? ⟨w.heap.size, 1, none⟩ = some (.slice (some ad1) 18 c1) ∧ w'.cell? (ad1.add k) = some (.string tx) ∧ w'.cell? (ad3.add k) = some (.int .i64 (d : Int))) (first | exact ⟨k1, hq1, hq3⟩ | exact ⟨r1, r2, r3⟩)
        (first
          | (go_at_call 48
             (with_reducible refine (CH.out _).mono ?_)
             rintro e w3 ⟨vl, rfl, hol, hb3⟩
             have hb3' := Bt (Bd wr) hb3
             have r1 := cell_bt k1 hb3'
             have r2 := cell_bt hq1 hb3'
             have r3 := cell_bt hq3 hb3')
          | fail)
      have O3 := HO.out.below hb3'
      have b3 := HB.out.trans (hb3'.mono HB.out.size)
      have djl : Dj vl u6 := dj_fresh hol HO.out.oa.ltB
      obtain ⟨g3, c4, hvl, hcc⟩ := hol.at dn (by rw [hcl.out]; omega)
      rw [hcl.out] at hvl
      subst hvl
      rw [hce.out] at hcc
      have HOL := Lib.hid hol
      have hdi : (dn : Int) < (dn : Int) + 1 := by omega
      clear hol k1 hq1 hq3 r2 hb3
      go_wp2_with (first
        | (at_builtin
           refine list_append4 rfl (.tmp 40) (.tmp 41) rfl w2.heap.size _ ol rfl O3.oa _ wr.heap.size cl rfl HOL.out (by have := hlb.out.1; rw [hcl.out]; omega) b3.size ?_
           intro v4 w4 p4
           have hd3 := (p4.below.cell (p := ad3.add k) (by rw [add_block]; exact had3)).trans r3
           have hdl := cell_grown2 hcc p4.grown (fun e => djl g3 rfl e.symm)
           have O4 := O3.appA p4
           have b4 := b3.trans p4.below
           have o5 := O4.below ((Below.refl _ _).alloc (Nat.le_refl _) (.cells #[.string ce] 9))
           have b5 := b4.alloc b4.size (.cells #[.string ce] 9))
        | (at_builtin
           refine list_append4 rfl (.tmp 43) (.tmp 52) rfl w2.heap.size _ el rfl o5.ob _ w2.heap.size [ce] rfl (own_one w4 w2.heap.size ce b4.size) (by have := hlb.out.2; simp; omega) b5.size ?_
           intro v6 w6 p6)
        | fail)
      have O6 := o5.appB p6
      exact ⟨⟨k + 1, by omega, by go_num, b5.trans p6.below, by rw [MS.out, ME.out]; exact O6⟩, by simp [intOf]; omega⟩
    · obtain rfl : k = 18 := by omega
      have hfe : cends m sg 18 = Se.ends m sg := rfl
      rw [hfe] at hown
      obtain ⟨A4, c4, hv4, hs4, hc4, hm4⟩ := hown.ob.form
      subst hv4
      have hz : ∀ x ∈ Se.ends m sg, x.size ≤ 1000 := by
        intro x hx
        obtain ⟨j, _, rfl⟩ := List.mem_map.1 hx
        exact ch_le _ _ _ (HZ1.out j) (by omega)
      have hfl : (Se.ends m sg).length = 18 := by simp [Se.ends]
      have hr := fins_room _ hz (by rw [hfl]; omega)
      have LR := Lib.hid (joined_ref_any A4 c4 _ wr hs4 (by rw [hfl]; simp [maxLen]) hr.1 hr.2)
      have hjle : (Tr.jn (Se.ends m sg)).size ≤ 140737488355328 := by rw [Tr.jn, Tr.size_mk]; exact hr.1
      have SU := Lib.hid (fun w' => rsum_ch (Tr.jn (Se.ends m sg)) w' hjle)
      have hsm : Tr.sm (Tr.jn (Se.ends m sg)) = Tr.dg (Se.ends m sg) := rfl
      rw [hsm] at SU
      have HJ := Lib.hid (fun w' => rjoined_lit w' [leafW, Tr.dg (Se.ends m sg)] (sz2 (szl [_, _, _, _] (by decide)) (by rw [Tr.dg_size]; omega)) (by simp))
      have SU2 := Lib.hid (fun w' => rsum_ch (Tr.jn [leafW, Tr.dg (Se.ends m sg)]) w' (jn_le (sz2 (szl [_, _, _, _] (by decide)) (by rw [Tr.dg_size]; omega)) (by simp)))
      have hsm2 : Tr.sm (Tr.jn [leafW, Tr.dg (Se.ends m sg)]) = Tr.leaf (Tr.dg (Se.ends m sg)) := rfl
      rw [hsm2] at SU2
      have hT : Hid (cpart m sg 18 ++ [Tr.jn (Se.ends m sg), Tr.jn [leafW, Tr.dg (Se.ends m sg)]] ++ Se.climb (Tr.leaf (Tr.dg (Se.ends m sg))) i pt = Se.checked m i sg pt) := Lib.hid rfl
      have hlfs : (Tr.leaf (Tr.dg (Se.ends m sg))).size = 16 := by rw [Tr.leaf, Tr.dg_size]
      have hlb : Hid ((cpart m sg 18).length ≤ 300) := Lib.hid (by
        have := cpart_length m sg 18
        omega)
      have HB := Lib.hid hb
      have HO := Lib.hid hown
      clear hb hown hsm hsm2 hs4 hz hr hjle hfe hel hpt k1 k2
      rw [hfl] at LR hc4 HO ⊢
      clear hfl
      change Hid (Calls Tryd.prog 46 #[.slice A4 18 c4] wr fun e w' => e = .returned (.string (Tr.jn (Se.ends m sg))) ∧ Below wr.heap.size wr w') at LR
      generalize hTT : Se.checked m i sg pt = T at *
      have HTT := Lib.hid hTT
      clear hTT
      generalize Tr.jn [leafW, Tr.dg (Se.ends m sg)] = lf at *
      generalize Tr.leaf (Tr.dg (Se.ends m sg)) = lfd at *
      generalize Tr.dg (Se.ends m sg) = ky at *
      generalize Tr.jn (Se.ends m sg) = kt at *
      generalize cpart m sg 18 = ol at *
      generalize Se.ends m sg = fl at *
      go_wp2_with fail
      refine LR.out.mono ?_
      rintro e w3 ⟨rfl, hb3⟩
      have o1 := HO.out.below hb3
      have b1 := HB.out.trans (hb3.mono HB.out.size)
      go_wp2_with fail
      refine (SU.out _).mono ?_
      rintro e w' ⟨rfl, rfl⟩
      go_wp2_with fail
      refine (HJ.out _).mono ?_
      rintro e w4 ⟨rfl, hb4⟩
      have o2 := o1.below hb4
      have b2 := b1.trans (hb4.mono b1.size)
      have o3 := o2.below ((Below.refl _ _).alloc (Nat.le_refl _) (.cells #[.string kt, .string lf] 9))
      have b3 := b2.alloc b2.size (.cells #[.string kt, .string lf] 9)
      go_wp2_with (first
        | (at_builtin
           refine list_append4 rfl (.tmp 60) (.tmp 63) rfl w2.heap.size _ ol rfl o3.oa _ w2.heap.size [kt, lf] rfl (own_lit w4 w2.heap.size [kt, lf] b2.size (by simp)) (by have := hlb.out; simp; omega) b3.size ?_
           intro v5 w5 p5)
        | fail)
      have O5 := o3.appA p5
      have b5 := b3.trans p5.below
      refine (SU2.out _).mono ?_
      rintro e w' ⟨rfl, rfl⟩
      obtain ⟨⟨j0, j1, j2⟩, _, _⟩ := CS.out w5 b5
      have O6 := Lib.hid O5.oa
      have B6 := Lib.hid b5
      clear o1 o2 o3 O5 b1 b2 b3 b5 hb3 hb4 HB
      go_wp2_with fail
      go_loopw [6, 12, 13, 14, 15] (fun o a jj kk _ wr => ∃ (q j : Nat) (ta : ByteArray) (al : List ByteArray), q ≤ pt.length ∧ kk = .int .i64 (q : Int) ∧ a = .string ta ∧ jj = .int .i64 (j : Int) ∧ ta.size = 16 ∧ (j : Int) ≤ 9223372036854775807 ∧ Hid (al ++ Se.climb ta j (pt.drop q) = T) ∧ Hid (al.length ≤ 400 + q) ∧ Below w2.heap.size w2 wr ∧ OwnS wr w2.heap.size o al) (fun _ _ _ kk _ _ => pt.length - (intOf kk).toNat)
      case atStart => exact ⟨0, i, lfd, _, by omega, rfl, rfl, rfl, hlfs, hi, hT, Lib.hid (by have := hlb.out; simp; omega), B6.out, O6.out⟩
      case round =>
        obtain ⟨q, j, ta, al, hq, rfl, rfl, rfl, hta, hj, HT, HAL, hb, hown⟩ := hrel
        obtain ⟨⟨k0, k1, k2⟩, hel, hpt⟩ := CS.out wr hb
        by_cases hlt : q < pt.length
        · obtain ⟨ad, rfl, hab, hqc⟩ := hpt q hlt
          have hzp : (pt.getD q ByteArray.empty).size ≤ 1000000000 := by
            refine HZ2.out _ ?_
            rw [List.getD_eq_getElem?_getD, List.getElem?_eq_getElem hlt]
            exact List.getElem_mem _
          have CD := climb_drop ta j q pt hlt
          have HB := Lib.hid hb
          have HO := Lib.hid hown
          clear hb hown hpt hel k0 k1 j0 j1 j2
          generalize pt.getD q ByteArray.empty = tp at *
          by_cases hodd : j % 2 = 1
          · have hst : Se.step ta j tp = [nodeW, tp, ta] := by unfold Se.step; rw [if_pos hodd]; rfl
            rw [hst] at CD
            have hj2 : (j : Int) % 2 = 1 := by omega
            have N1 := Lib.hid (fun w' => rnode3_any ta tp w' (by omega) hzp)
            have N2 := Lib.hid (fun w' => rnode3_any tp ta w' hzp (by omega))
            have SX := Lib.hid (fun w' => rsum_ch (Tr.jn [nodeW, tp, ta]) w' (jn_le (sz3 (szl [_, _, _, _] (by decide)) hzp (by omega)) (by simp)))
            have hsx : Tr.sm (Tr.jn [nodeW, tp, ta]) = Tr.dg [nodeW, tp, ta] := rfl
            rw [hsx] at SX
            have hds : (Tr.dg [nodeW, tp, ta]).size = 16 := Tr.dg_size _
            have HT2 : Hid (al ++ [Tr.jn [nodeW, tp, ta]] ++ Se.climb (Tr.dg [nodeW, tp, ta]) (j / 2) (pt.drop (q + 1)) = T) := Lib.hid (by rw [← HT.out, CD, List.append_assoc]; rfl)
            change Hid (∀ w', Calls Tryd.prog 49 #[.string tp, .string ta] w' fun e w'_1 => e = .returned (.string (Tr.jn [nodeW, tp, ta])) ∧ Below w'.heap.size w' w'_1) at N2
            generalize Tr.jn [nodeW, tp, ta] = nx at *
            generalize Tr.dg [nodeW, tp, ta] = dx at *
            clear CD hsx hst hodd
            go_wp2_with fail
            refine (N1.out _).mono ?_
            rintro e w6 ⟨rfl, hb6⟩
            have k2' := cell_bt k2 hb6
            have hqc' := cell_bt hqc hb6
            go_wp2_with fail
            refine (N2.out _).mono ?_
            rintro e w7 ⟨rfl, hb7⟩
            have hb7' := Bt hb6 hb7
            have o8 := own_below (own_below HO.out hb7') ((Below.refl _ _).alloc (Nat.le_refl _) (.cells #[.string nx] 9))
            have b7 := HB.out.trans (hb7'.mono HB.out.size)
            have b8 := b7.alloc b7.size (.cells #[.string nx] 9)
            go_wp2_with (first
              | (at_builtin
                 refine list_append4 rfl (.tmp 93) (.tmp 95) rfl w2.heap.size _ al rfl o8 _ w2.heap.size [nx] rfl (own_one w7 w2.heap.size nx b7.size) (by have := HAL.out; simp; omega) b8.size ?_
                 intro v9 w9 p9)
              | fail)
            refine (SX.out _).mono ?_
            rintro e w' ⟨rfl, rfl⟩
            go_wp2_with fail
            exact ⟨⟨q + 1, j / 2, dx, _, by omega, by go_num, rfl, by go_num, hds, by omega, HT2, Lib.hid (by have := HAL.out; simp; omega), b8.trans p9.below, p9.own⟩, by simp [intOf]; omega⟩
          · have hst : Se.step ta j tp = [nodeW, ta, tp] := by unfold Se.step; rw [if_neg hodd]; rfl
            rw [hst] at CD
            have hj2 : (j : Int) % 2 = 0 := by omega
            have N1 := Lib.hid (fun w' => rnode3_any ta tp w' (by omega) hzp)
            have SX := Lib.hid (fun w' => rsum_ch (Tr.jn [nodeW, ta, tp]) w' (jn_le (sz3 (szl [_, _, _, _] (by decide)) (by omega) hzp) (by simp)))
            have hsx : Tr.sm (Tr.jn [nodeW, ta, tp]) = Tr.dg [nodeW, ta, tp] := rfl
            rw [hsx] at SX
            have hds : (Tr.dg [nodeW, ta, tp]).size = 16 := Tr.dg_size _
            have HT2 : Hid (al ++ [Tr.jn [nodeW, ta, tp]] ++ Se.climb (Tr.dg [nodeW, ta, tp]) (j / 2) (pt.drop (q + 1)) = T) := Lib.hid (by rw [← HT.out, CD, List.append_assoc]; rfl)
            change Hid (∀ w', Calls Tryd.prog 49 #[.string ta, .string tp] w' fun e w'_1 => e = .returned (.string (Tr.jn [nodeW, ta, tp])) ∧ Below w'.heap.size w' w'_1) at N1
            generalize Tr.jn [nodeW, ta, tp] = nx at *
            generalize Tr.dg [nodeW, ta, tp] = dx at *
            clear CD hsx hst hodd
            go_wp2_with fail
            refine (N1.out _).mono ?_
            rintro e w7 ⟨rfl, hb7'⟩
            have o8 := own_below (own_below HO.out hb7') ((Below.refl _ _).alloc (Nat.le_refl _) (.cells #[.string nx] 9))
            have b7 := HB.out.trans (hb7'.mono HB.out.size)
            have b8 := b7.alloc b7.size (.cells #[.string nx] 9)
            go_wp2_with (first
              | (at_builtin
                 refine list_append4 rfl (.tmp 93) (.tmp 95) rfl w2.heap.size _ al rfl o8 _ w2.heap.size [nx] rfl (own_one w7 w2.heap.size nx b7.size) (by have := HAL.out; simp; omega) b8.size ?_
                 intro v9 w9 p9)
              | fail)
            refine (SX.out _).mono ?_
            rintro e w' ⟨rfl, rfl⟩
            go_wp2_with fail
            exact ⟨⟨q + 1, j / 2, dx, _, by omega, by go_num, rfl, by go_num, hds, by omega, HT2, Lib.hid (by have := HAL.out; simp; omega), b8.trans p9.below, p9.own⟩, by simp [intOf]; omega⟩
        · obtain rfl : q = pt.length := by omega
          rw [List.drop_length] at HT
          have hTe : al = T := by rw [← HT.out]; simp [Se.climb]
          obtain ⟨A9, c9, hv9, _, _, _⟩ := hown.form
          subst hv9
          have HB := Lib.hid hb
          have HO := Lib.hid hown
          clear hb hown hpt hel k0 k1 j0 j1 j2
          have HTE := Lib.hid hTe
          clear hTe
          generalize al.length = aln at *
          go_wp2_with fail
          go_ret
          exact ⟨_, rfl, by rw [HTT.out, ← HTE.out]; exact HO.out.mono (Nat.le_trans (Nat.le_refl _) HB02.out.size), (HB02.out.trans (HB.out.mono HB02.out.size))⟩
end Go.Proofs.YtdlmbpoihnifiaaDoor
