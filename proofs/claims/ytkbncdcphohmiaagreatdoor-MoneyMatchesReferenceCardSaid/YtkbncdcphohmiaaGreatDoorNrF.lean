/- The reference of layer 4: Times. -/
import Derived.Test.YtkbncdcphohmiaaGreatDoorNrAB
import Derived.Test.YtkbncdcphohmiaaGreatDoorNaEH
import Derived.StillTailTactics
import Derived.Deep.DeepCutAuto
set_option linter.unusedSimpArgs false
set_option linter.unusedVariables false
namespace Go.Proofs.YtkbncdcphohmiaaGreatDoor
open Go.RowKit
set_option maxRecDepth 100000

def zc (L : List Nat) : List Int := L.map fun n : Nat => (n : Int)
theorem zc_len (L : List Nat) : (zc L).length = L.length := by unfold zc; simp
theorem zc_get (L : List Nat) (k : Nat) : (zc L).getD k 0 = (L.getD k 0 : Int) := by
  unfold zc
  rw [List.getD_eq_getElem?_getD, List.getD_eq_getElem?_getD, List.getElem?_map]
  cases L[k]? <;> rfl
theorem zc_set (L : List Nat) (k u : Nat) : (zc L).set k (u : Int) = zc (L.set k u) := by
  unfold zc
  rw [List.map_set]
theorem zc_rep (k : Nat) : List.replicate k (0 : Int) = zc (List.replicate k 0) := by
  unfold zc
  simp

theorem OwnZ.below' {w w' : World} {B g c : Nat} {l : List Int} (h : OwnZ w B g c l) (hb : Below w.heap.size w w') : OwnZ w' B g c l :=
  World.ownsRow.kept h (row := none) ⟨hb.os, hb.tape, hb.output, hb.size, fun i hi _ => hb.block i hi⟩ (.inr (by simp [Value.ownBlock]))
theorem rtimes_short (m n : Nat) (w : World) (hm : (tx m).size ≤ 9) (hn : (tx n).size ≤ 9) :
    Calls Tryz.prog 104 #[.string (tx m), .string (tx n)] w fun e w' => e = .returned (.string (tx (m * n))) ∧ Below w.heap.size w w' := by
  have b1 : m < 10 ^ 9 := Nat.lt_of_lt_of_le (tx_lt m) (Nat.pow_le_pow_right (by omega) hm)
  have b2 : n < 10 ^ 9 := Nat.lt_of_lt_of_le (tx_lt n) (Nat.pow_le_pow_right (by omega) hn)
  have b3 : m * n ≤ 10 ^ 9 * 10 ^ 9 := Nat.mul_le_mul (by omega) (by omega)
  have V1 := Lib.hid (fun w' => value_tx m w' (by omega))
  have V2 := Lib.hid (fun w' => value_tx n w' (by omega))
  have DC := Lib.hid (fun w' => rdecimal_any (m * n) w' (by omega))
  have h1 : ((tx m).size : Int) ≤ 9 := by omega
  have h2 : ((tx n).size : Int) ≤ 9 := by omega
  have HW := Lib.hid (show wrap64 ((m : Int) * (n : Int)) = ((m * n : Nat) : Int) by
    have : ((m : Int) * (n : Int)) = ((m * n : Nat) : Int) := by simp
    rw [this]
    unfold wrap64
    omega)
  generalize tx (m * n) = R at *
  generalize m * n = q at *
  generalize tx m = s at *
  generalize tx n = t at *
  clear b3
  go_enter Tryz.func104, Tryz.ntmps104
  go_wp2_with fail
  refine (V1.out _).mono ?_
  rintro e w1 ⟨rfl, rfl⟩
  go_wp2_with fail
  refine (V2.out _).mono ?_
  rintro e w1 ⟨rfl, rfl⟩
  go_wp2_with fail
  rw [HW.out]
  refine (DC.out _).mono ?_
  rintro e w1 ⟨rfl, rfl⟩
  go_wp2_with fail
  go_ret
  exact ⟨rfl, Below.refl _ _⟩

set_option maxHeartbeats 4000000 in
theorem rtimes_long (m n : Nat) (w : World) (hm : (tx m).size ≤ 900) (hn : (tx n).size ≤ 900) (hl : ¬ ((tx m).size ≤ 9 ∧ (tx n).size ≤ 9)) :
    Calls Tryz.prog 104 #[.string (tx m), .string (tx n)] w fun e w' => e = .returned (.string (tx (m * n))) ∧ Below w.heap.size w w' := by
  have lm := tx_lt m
  have ln := tx_lt n
  obtain ⟨la, hla⟩ : ∃ la, la = (tx m).size := ⟨_, rfl⟩
  obtain ⟨lb, hlb⟩ : ∃ lb, lb = (tx n).size := ⟨_, rfl⟩
  have hlai : ((tx m).size : Int) = (la : Int) := by omega
  have hlbi : ((tx n).size : Int) = (lb : Int) := by omega
  have DM := Lib.hid (fun i (hi : i ≤ 1000) w' => digit_tx m i w' (by omega) hi)
  have DN := Lib.hid (fun i (hi : i ≤ 1000) w' => digit_tx n i w' (by omega) hi)
  have HST := Lib.hid (fun L k j z x h1 h2 h3 h4 => Na.times_step L m n k j z x h1 h2 h3 h4)
  have HRW := Lib.hid (fun k => Na.times_row m n k lb (by rw [hlb]; exact ln))
  have HDM := Lib.hid (fun i => Na.dgt_lt m i)
  have HDN := Lib.hid (fun i => Na.dgt_lt n i)
  have HALL : Hid ((m % 10 ^ la) * n = m * n) := Lib.hid (by rw [Nat.mod_eq_of_lt (by rw [hla]; exact lm)])
  have HPR : Hid (m * n < 10 ^ (la + lb)) := Lib.hid (by
    rw [Nat.pow_add]
    refine Nat.lt_of_le_of_lt (Nat.mul_le_mul_left m (Nat.le_of_lt (show n < 10 ^ lb by rw [hlb]; exact ln))) ?_
    exact Nat.mul_lt_mul_of_pos_right (by rw [hla]; exact lm) (Nat.pow_pos (by omega)))
  have TD := Lib.hid (fun A ds c w' h1 h2 h3 h4 => text_digits A ds c w' h1 h2 h3 h4)
  obtain ⟨N, hN⟩ : ∃ N, N = la + lb + 1 := ⟨_, rfl⟩
  have HN := Lib.hid hN
  have HNi := Lib.hid (show (la : Int) + (lb : Int) + 1 = (N : Int) by omega)
  have hN2 : N ≤ 2000 := by omega
  have hla9 : la ≤ 900 := by omega
  have hlb9 : lb ≤ 900 := by omega
  have hns : ¬ ((la : Int) ≤ 9) ∨ ((la : Int) ≤ 9 ∧ ¬ ((lb : Int) ≤ 9)) := by omega
  generalize hR : tx (m * n) = R at *
  have HR := Lib.hid hR
  generalize Na.dgt m = fm at *
  generalize Na.dgt n = fn at *
  generalize tx m = s at *
  generalize tx n = t at *
  clear lm ln hl hR hN hla hlb hm hn
  rcases hns with h1 | ⟨h1, h2⟩
  all_goals
    go_enter Tryz.func104, Tryz.ntmps104
    go_wp2_with (first
      | (at_make
         refine list_make rfl (.tmp 28) (.tmp 28) 41 rfl rfl N (by omega) (by show Value.int .i64 _ = _; rw [← HNi.out]) (by show Value.int .i64 _ = _; rw [← HNi.out]) ?_
         intro w1 hh1 hb1
         have HH1 := Lib.hid hh1
         clear hh1)
      | fail)
    have HO1 : Hid (OwnZ w1 w.heap.size w.heap.size N (zc (List.replicate N 0))) := Lib.hid (by
      have := own_of_row HH1.out (Nat.le_refl _) (by rw [List.length_replicate]; unfold maxLen; omega)
      rw [List.length_replicate] at this
      rw [← zc_rep]
      exact this)
    clear HH1
    go_loopw [6] (fun i wr => ∃ (k : Nat) (L : List Nat), k ≤ la ∧ i = .int .i64 (k : Int) ∧ Hid (L.length = N) ∧ Hid (Na.lt10 L = (m % 10 ^ k) * n) ∧ Hid (∀ i, L.getD i 0 ≤ 81 * k) ∧ Hid (OwnZ wr w.heap.size w.heap.size N (zc L)) ∧ Below w.heap.size w wr) (fun i _ => la - (intOf i).toNat)
    case atStart => exact ⟨0, List.replicate N 0, by omega, by first | rfl | (congr 1), Lib.hid (by simp), Lib.hid (by rw [Na.lt10_zeros]; simp [Nat.mod_one]), Lib.hid (fun i => by rw [List.getD_eq_getElem?_getD, List.getElem?_replicate]; split <;> simp), HO1, hb1⟩
    case round =>
      clear HO1 hb1
      obtain ⟨k, L, hk, rfl, HL, HV, HZ, HO, hb⟩ := hrel
      by_cases hlt : k < la
      · have hlt2 : (k : Int) < (la : Int) := by omega
        have hdm := HDM.out k
        have D1 := Lib.hid (DM.out k (by omega))
        have HRK := Lib.hid (HRW.out k)
        have HSK := Lib.hid (fun L j z x h1 h2 h3 h4 => HST.out L k j z x h1 h2 h3 h4)
        generalize fm k = dm at *
        go_wp2_with fail
        go_loopw [7] (fun jj wr => ∃ (j : Nat) (L : List Nat), j ≤ lb ∧ jj = .int .i64 (j : Int) ∧ Hid (L.length = N) ∧ Hid (Na.lt10 L = (m % 10 ^ k) * n + 10 ^ k * (dm * (n % 10 ^ j))) ∧ Hid (∀ i, L.getD i 0 ≤ 81 * (k + 1)) ∧ Hid (∀ i, k + j ≤ i → L.getD i 0 ≤ 81 * k) ∧ Hid (OwnZ wr w.heap.size w.heap.size N (zc L)) ∧ Below w.heap.size w wr) (fun jj _ => lb - (intOf jj).toNat)
        case atStart => exact ⟨0, L, by omega, by first | rfl | (congr 1), HL, Lib.hid (by rw [HV.out]; simp [Nat.mod_one]), Lib.hid (fun i => by have := HZ.out i; omega), Lib.hid (fun i _ => HZ.out i), HO, hb⟩
        case round =>
          clear HL HV HZ HO hb
          obtain ⟨j, L, hj, rfl, HL, HV, HZ, HZ2, HO, hb⟩ := hrel
          by_cases hjt : j < lb
          · have hjt2 : (j : Int) < (lb : Int) := by omega
            obtain ⟨q, hq⟩ : ∃ q, q = k + j := ⟨_, rfl⟩
            have hkj : q < N := by have := HN.out; omega
            have hi1 : (0 : Int) ≤ (q : Int) := by omega
            have hi2 : (q : Int) < (N : Int) := by omega
            have hw0 : IntKind.i64.wrap ((k : Int) + (j : Int)) = (q : Int) := by rw [IntKind.wrap_i64]; omega
            have hdn := HDN.out j
            have D2 := Lib.hid (DN.out j (by omega))
            have hz := HZ2.out q (by omega)
            have HOD : Hid (OwnZ wr.drew w.heap.size w.heap.size N (zc L)) := Lib.hid (HO.out.below' (drewN_below wr 1))
            have hbd : Below w.heap.size w wr.drew := Nb hb (drewN_below wr 1)
            have hcell := HO.out.cell q (by rw [zc_len, HL.out]; exact hkj)
            have hfr := HO.out.frozen q
            have hcd := HOD.out.cell q (by rw [zc_len, HL.out]; exact hkj)
            have hfd := HOD.out.frozen q
            rw [zc_get] at hcell hcd
            have FIN := Lib.hid (fun u : Nat => And.intro (HOD.out.stored q (u : Int)) (HOD.out.below hbd q (u : Int)))
            have HSJ := Lib.hid (fun x hx => HSK.out L j _ x (by rw [HL.out, ← hq]; exact hkj) rfl hx HV.out)
            have HGS := Lib.hid (fun u i => Na.getD_set L q u i (by rw [HL.out]; exact hkj))
            rw [← hq] at HSJ
            have HKJ := Lib.hid hq
            generalize L.getD q 0 = z at *
            generalize fn j = dn at *
            have hxy : dm * dn ≤ 9 * 9 := Nat.mul_le_mul (by omega) (by omega)
            obtain ⟨x, hx⟩ : ∃ x, x = dm * dn := ⟨_, rfl⟩
            rw [← hx] at hxy
            have HW := Lib.hid (mul_wrap dm dn x (z : Int) hx (by omega) (by omega))
            have HSX := Lib.hid (HSJ.out x hx)
            have HXY := Lib.hid hxy
            clear hx hxy HSJ HOD hbd HO hq
            go_upto_region 10 with fail
            refine wp_region_still_tail 15 (by kernel_rfl) (by kernel_rfl) ?_
            show wpStill Tryz.prog _ wr.drew (fun a' => wpList Tryz.prog _ _ _ a' wr.drew) _ _
            generalize wr.drew = w2 at *
            simp only [List.take_succ_cons, List.take_zero, List.drop_succ_cons, List.drop_zero]
            repeat still_step
            still_call ((D1.out _).mono fun _ _ h => ⟨h.1, h.2.symm⟩)
            repeat still_step
            still_call ((D2.out _).mono fun _ _ h => ⟨h.1, h.2.symm⟩)
            repeat still_step
            refine wpStill_nil ?_
            go_wp2_with fail
            rw [HW.out, show (z : Int) + (x : Int) = ((z + x : Nat) : Int) by omega]
            have F := FIN.out (z + x)
            rw [zc_set] at F
            refine ⟨⟨j + 1, L.set q (z + x), by omega, by go_num, Lib.hid (by rw [List.length_set]; exact HL.out), HSX, Lib.hid ?_, Lib.hid ?_, Lib.hid F.1, F.2⟩, by simp [intOf]; omega⟩
            · intro i
              have h1 := HZ.out i
              have h2 := HXY.out
              rw [HGS.out]
              split <;> omega
            · intro i hi
              rw [HGS.out, if_neg (by have := HKJ.out; omega)]
              exact HZ2.out i (by omega)
          · obtain rfl : j = lb := by omega
            have HR2 : Hid (Na.lt10 L = (m % 10 ^ (k + 1)) * n) := Lib.hid (by rw [HV.out, HRK.out])
            clear HV HZ2 D1 HSK HRK
            go_wp2_with fail
            exact ⟨⟨k + 1, L, by omega, by go_num, HL, HR2, HZ, HO, hb⟩, by simp [intOf]; omega⟩
      · obtain rfl : k = la := by omega
        have HV2 : Hid (Na.lt10 L = m * n) := Lib.hid (by rw [HV.out, HALL.out])
        have HB1 : Hid (∀ i, L.getD i 0 ≤ 73000) := Lib.hid (fun i => by have := HZ.out i; omega)
        clear HV HZ DM DN HST HRW
        go_wp2_with fail
        go_loopw [8] (fun ii wr => ∃ (i : Nat) (L : List Nat), i + 1 ≤ N ∧ ii = .int .i64 (i : Int) ∧ Hid (L.length = N) ∧ Hid (Na.lt10 L = m * n) ∧ Hid (∀ p, p < i → L.getD p 0 < 10) ∧ Hid (L.getD i 0 ≤ 150000) ∧ Hid (∀ p, i < p → L.getD p 0 ≤ 73000) ∧ Hid (OwnZ wr w.heap.size w.heap.size N (zc L)) ∧ Below w.heap.size w wr) (fun ii _ => N - (intOf ii).toNat)
        case atStart => exact ⟨0, L, by have := HN.out; omega, by first | rfl | (congr 1), HL, HV2, Lib.hid (fun p h => absurd h (by omega)), Lib.hid (by have := HB1.out 0; omega), Lib.hid (fun p _ => HB1.out p), HO, hb⟩
        case round =>
          clear HL HV2 HB1 HO hb
          obtain ⟨i, L, hi, rfl, HL, HV, HD, HZ, HB, HO, hb⟩ := hrel
          by_cases hit : i + 1 < N
          · have hit2 : (i : Int) + 1 < (N : Int) := by omega
            obtain ⟨q, hq⟩ : ∃ q, q = i + 1 := ⟨_, rfl⟩
            have hi1 : (0 : Int) ≤ (q : Int) := by omega
            have hi2 : (q : Int) < (N : Int) := by omega
            have hj1 : (0 : Int) ≤ (i : Int) := by omega
            have hj2 : (i : Int) < (N : Int) := by omega
            have hw0 : IntKind.i64.wrap ((i : Int) + 1) = (q : Int) := by rw [IntKind.wrap_i64]; omega
            have HOD : Hid (OwnZ wr.drew w.heap.size w.heap.size N (zc L)) := Lib.hid (HO.out.below' (drewN_below wr 1))
            have hbd : Below w.heap.size w wr.drew := Nb hb (drewN_below wr 1)
            have hcd := HOD.out.cell q (by rw [zc_len, HL.out]; omega)
            have hfd := HOD.out.frozen q
            have hce := HOD.out.cell i (by rw [zc_len, HL.out]; omega)
            have hfe := HOD.out.frozen i
            rw [zc_get] at hcd hce
            have FIN := Lib.hid (fun u : Nat => And.intro (HOD.out.stored q (u : Int)) (HOD.out.below hbd q (u : Int)))
            have hz := HZ.out
            have hu := HB.out q (by omega)
            have HCV := Lib.hid (Na.carry_val L i (by rw [HL.out]; omega))
            have HGS := Lib.hid (fun u p => Na.getD_set L q u p (by rw [HL.out]; omega))
            have HGT := Lib.hid (fun L' u p (hl : L'.length = N) => Na.getD_set L' i u p (by rw [hl]; omega))
            rw [← hq] at HCV
            have HQ := Lib.hid hq
            generalize hzz : L.getD i 0 = z at *
            have HZZ := Lib.hid hzz
            generalize L.getD q 0 = u at *
            clear hq hzz
            go_upto_region 14 with fail
            refine wp_region_still_tail 12 (by kernel_rfl) (by kernel_rfl) ?_
            show wpStill Tryz.prog _ wr.drew (fun a' => wpList Tryz.prog _ _ _ a' wr.drew) _ _
            generalize wr.drew = w2 at *
            simp only [List.take_succ_cons, List.take_zero, List.drop_succ_cons, List.drop_zero]
            repeat still_step
            refine wpStill_nil ?_
            go_upto_region 15 with fail
            rw [show (u : Int) + (z : Int) / 10 = ((u + z / 10 : Nat) : Int) by omega]
            have F := FIN.out (u + z / 10)
            rw [zc_set] at F
            have HF := Lib.hid F.1
            have hb3 := F.2
            obtain ⟨L1, hL1⟩ : ∃ L1, L1 = L.set q (u + z / 10) := ⟨_, rfl⟩
            have HG1 := Lib.hid (fun p => HGS.out (u + z / 10) p)
            rw [← hL1] at HF HCV HG1
            have hl1 : L1.length = N := by rw [hL1, List.length_set]; exact HL.out
            have HL1 := Lib.hid hl1
            clear F FIN hce hfe hcd hfd HOD hbd hL1 HGS HO hb
            generalize w2.setCell _ _ = w3 at *
            have hc4 := HF.out.cell i (by rw [zc_len]; omega)
            have hf4 := HF.out.frozen i
            rw [zc_get, HG1.out, if_neg (by have := HQ.out; omega), HZZ.out] at hc4
            have FIN2 := Lib.hid (fun v : Nat => And.intro (HF.out.stored i (v : Int)) (HF.out.below hb3 i (v : Int)))
            clear hb3
            go_wp2_with fail
            rw [show (z : Int) % 10 = ((z % 10 : Nat) : Int) by omega]
            have F := FIN2.out (z % 10)
            rw [zc_set] at F
            refine ⟨⟨i + 1, L1.set i (z % 10), by omega, by have := HQ.out; go_num, Lib.hid (by rw [List.length_set]; exact HL1.out), Lib.hid (HCV.out.trans HV.out), Lib.hid ?_, Lib.hid ?_, Lib.hid ?_, Lib.hid F.1, F.2⟩, by have := HQ.out; simp [intOf]; omega⟩
            · intro p hp
              rw [HGT.out L1 _ _ HL1.out]
              split
              · omega
              · rw [HG1.out, if_neg (by have := HQ.out; omega)]
                exact HD.out p (by omega)
            · rw [HGT.out L1 _ _ HL1.out, if_neg (by omega), HG1.out, if_pos (by have := HQ.out; omega)]
              omega
            · intro p hp
              rw [HGT.out L1 _ _ HL1.out, if_neg (by omega), HG1.out, if_neg (by have := HQ.out; omega)]
              exact HB.out p (by omega)
          · have hl := HL.out
            have hne : L ≠ [] := by
              intro e
              rw [e] at hl
              simp at hl
              omega
            have hNe : N = (k + lb) + 1 := HN.out
            have hlz := Na.last_zero L (k + lb) (m * n) (by omega) HV.out HPR.out
            have hsm := Na.all_small L (k + lb) (by omega) (fun p hp => HD.out p (by omega)) hlz
            have TX := Lib.hid (TD.out (some ⟨w.heap.size, 0, none⟩) L N wr (HO.out.ints rfl) (by omega) hne hsm)
            rw [hl, HV.out, HR.out] at TX
            clear hne hlz hsm hNe
            go_wp2_with fail
            refine TX.out.mono ?_
            rintro e w1 ⟨rfl, hb1⟩
            go_wp2_with fail
            go_ret
            exact ⟨rfl, Nb hb hb1⟩

theorem rtimes_tx (m n : Nat) (w : World) (hm : (tx m).size ≤ 900) (hn : (tx n).size ≤ 900) :
    Calls Tryz.prog 104 #[.string (tx m), .string (tx n)] w fun e w' => e = .returned (.string (tx (m * n))) ∧ Below w.heap.size w w' := by
  by_cases h : (tx m).size ≤ 9 ∧ (tx n).size ≤ 9
  · exact rtimes_short m n w h.1 h.2
  · exact rtimes_long m n w hm hn h
end Go.Proofs.YtkbncdcphohmiaaGreatDoor
