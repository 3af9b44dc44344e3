/- P2.2, P2.7: the walk of TreeIncludes. -/
import Derived.Test.YtkakbookioimhaaDoorTrM
import Derived.Test.YtkakbookioimhaaDoorTrP
import Derived.WalkKit
import Derived.LoopTactic
import Derived.Deep.RegionHeld3
import Derived.Deep.DrawnRows
import Derived.BigQuiet
import Derived.Deep.QuietTactic
namespace Go.Proofs.YtkakbookioimhaaDoor
open Go.RowKit
attribute [local go_sem ↓] Go.wp_at_zero Go.wp_at_succ

theorem len_zero {n : Nat} (i : Nat) (h : 1 ≤ n) : Tr.len n i = 0 ↔ n = 1 := by
  constructor
  · intro h0
    by_cases h1 : n ≤ 1
    · omega
    · by_cases hi : i < Tr.half n
      · rw [Tr.len_lo (by omega) hi] at h0; omega
      · rw [Tr.len_hi (by omega) hi] at h0; omega
  · rintro rfl
    exact Tr.len_one i (Nat.le_refl 1)

theorem check_len (rt : ByteArray) (n i : Nat) (s : ByteArray) (p : List ByteArray) (h : p.length ≠ Tr.len n i) : Tr.check rt n i s p = false := by
  unfold Tr.check
  simp only [Int.toNat_natCast]
  rw [decide_eq_false h]
  simp

theorem digs_small {p : List ByteArray} (h : Tr.digs p = true) : ∀ s ∈ p, s.size ≤ 1000000000 := by
  intro s hs
  unfold Tr.digs at h
  rw [digest_size (List.all_eq_true.1 h s hs)]
  omega

set_option maxRecDepth 100000 in
set_option maxHeartbeats 1000000 in
theorem includes_walk (A : Option Addr) (c : Nat) (ss : List ByteArray) (r : Int) (W : World) (hp : Pow W.heap.size W) (hs : Strs W W.heap.size A ss) (hc : ss.length ≤ c) (hm : c ≤ maxLen) (hr : (Go.Lit.int .u8 r).wf = true) :
    Calls Tryd.prog 4 #[.slice A ss.length c, .int .u8 r] W fun e w' => e = .returned (.bool true) ∧ Below W.heap.size W w' := by
  by_cases hf : few20 ss = true
  · obtain ⟨h20, hz⟩ := few20_bounds hf
    obtain ⟨r0, r1⟩ : IntKind.u8.min ≤ r ∧ r ≤ IntKind.u8.max := by simpa [Go.Lit.wf] using hr
    change 0 ≤ r at r0
    change r ≤ 255 at r1
    obtain ⟨r, rfl⟩ : ∃ k : Nat, r = k := ⟨r.toNat, by omega⟩
    clear hr
    have FY := fun w' (hb : Below W.heap.size W w') => few20_yes A c ss w' (hs.bt hb) (by unfold maxLen; omega) hf
    have FL := Lib.hid FY
    clear FY hf
    have HS := Lib.hid hs
    have HZ := Lib.hid hz
    by_cases hn0 : ss.length = 0
    · clear hs hz
      rw [hn0] at FL hc ⊢
      go_enter Tryd.func4, Tryd.ntmps4
      go_wp2_with fail
      refine (head_any W hp).mono ?_
      rintro e w1 ⟨rfl, hb1⟩
      go_wp2_with fail
      refine (FL.out w1 hb1).mono ?_
      rintro e w1' ⟨rfl, rfl⟩
      go_wp2_with fail
      go_ret
      exact ⟨rfl, hb1⟩
    · have E := Lib.hid (show (r : Int) % (ss.length : Int) = ((r % ss.length : Nat) : Int) by rw [Int.natCast_emod])
      have hml : r % ss.length < ss.length := Nat.mod_lt r (by omega)
      generalize r % ss.length = i at *
      obtain ⟨ad, rfl, _, hcell⟩ := hs i hml
      have hxi : ss.getD i ByteArray.empty = ss[i] := by rw [List.getD_eq_getElem?_getD, List.getElem?_eq_getElem hml]; rfl
      have hxs : (ss.getD i ByteArray.empty).size ≤ 1000000000 := hz _ (by rw [hxi]; exact List.getElem_mem _)
      have hyes := check_path ss i hml (by omega)
      rw [← hxi] at hyes
      generalize ss.getD i ByteArray.empty = x at *
      have hne : ((ss.length : Int) == 0) = false := by rw [beq_eq_false_iff_ne]; omega
      have hnz : (ss.length : Int) ≠ 0 := by omega
      have hpl := Tr.path_length _ ss i (Nat.le_refl _) hml
      have hdg := Tr.digs_path _ ss i (Nat.le_refl _)
      have hlb := Tr.len_bin ss.length i (by omega)
      have hl0 := len_zero i (show 1 ≤ ss.length by omega)
      have hlt := Tr.len_lt _ ss.length i (Nat.le_refl _) (by omega)
      have hno1 := check_len (Tr.root ss) ss.length i x (Tr.path ss i ++ [Tr.empty]) (by rw [List.length_append, hpl]; simp)
      have hno2 : ss.length ≠ 1 → Tr.check (Tr.root ss) ss.length i x ((Tr.path ss i).take ((Tr.path ss i).length - 1)) = false := fun h => check_len _ _ _ _ _ (by
        rw [List.length_take, hpl]
        have : Tr.len ss.length i ≠ 0 := fun e => h (hl0.1 e)
        omega)
      have HY := Lib.hid hyes
      have HN1 := Lib.hid hno1
      have HN2 := Lib.hid hno2
      have HX := Lib.hid hxi
      have HDG := Lib.hid hdg
      rw [← hpl] at hlb hl0 hlt
      have HL0 := Lib.hid hl0
      have hsm := digs_small hdg
      have HSM := Lib.hid hsm
      have HC := Lib.hid hcell
      clear hs hz hyes hno1 hno2 hxi hdg hpl hl0 hsm hcell
      have R2 := Lib.hid (fun w' (hb : Below W.heap.size W w') => root_any (some ad) c ss w' hc hm (HS.out.bt hb) HZ.out (hp.bt hb))
      go_enter Tryd.func4, Tryd.ntmps4
      go_wp2_with fail
      refine (head_any W hp).mono ?_
      rintro e w1 ⟨rfl, hb1⟩
      go_wp2_with fail
      refine (FL.out w1 hb1).mono ?_
      rintro e w1' ⟨rfl, rfl⟩
      go_wp2_with fail
      rw [E.out]
      clear E
      refine (Path_ok (some ad) c ss i w1 hml hc hm (by omega) (HS.out.bt hb1) HZ.out (hp.bt hb1)).mono ?_
      rintro e w2 ⟨v2, rfl, ho2, hb2⟩
      have HO := Lib.hid ho2
      obtain ⟨Ax, cx, rfl, hsx, hcx, hmx⟩ := ho2.form
      clear ho2
      have HSX := Lib.hid hsx
      have hb2' := Bt hb1 hb2
      clear hsx
      have hcell2 := cell_bt HC.out hb2'
      have X1 := Lib.hid (fun w' (hb : Below w2.heap.size w2 w') => check_ex (Tr.root ss) x ss.length i Ax cx _ (Tr.path ss i) rfl true HY.out w' hxs (HSX.out.bt hb) HSM.out hcx hmx ((hp.bt hb2').bt hb))
      have i1 : (0 : Int) ≤ (i : Int) := by omega
      have i2 : (i : Int) < (ss.length : Int) := by omega
      go_wp2_with fail
      go_region_held3 (fun w' => w'.cell? (ad.add i) = some (.string x)) (first | assumption | go_keep)
        (first
          | (go_at_call 15
             (with_reducible refine (R2.out _ (Bt hb2' (Bd w2))).mono ?_)
             rintro e w3 ⟨rfl, hb3⟩
             have hb3' := Bt (Bd w2) hb3
             have hcell3 := cell_bt hcell2 hb3')
          | (go_at_call 18
             (with_reducible refine (X1.out _ hb3').mono ?_)
             rintro e w4 ⟨rfl, hb4⟩
             have hb4' := Bt hb3' hb4
             have hcell4 := cell_bt hcell2 hb4')
          | fail)
      have hb4W := Bt hb2' hb4'
      have hpn := own_below HO.out hb4'
      have HPN := Lib.hid hpn
      have hlen20 : (Tr.path ss i).length ≤ 20 := by omega
      have hbin := bin_le_self ss.length ss.length (Nat.le_refl _)
      clear hpn X1
      generalize hbn : Tr.bin ss.length = bn at *
      have HBN := Lib.hid hbn
      clear hbn HY HX HDG
      go_wp2_with fail
      go_loop [9, 10] (fun i j => ∃ d k : Nat, i = .int .i64 (d : Int) ∧ j = .int .i64 (k : Int) ∧ k ≤ 20 ∧ d ≤ 20 ∧ d + Tr.bin k = bn) (fun _ j => (intOf j).toNat)
      case atStart => exact ⟨0, ss.length, rfl, rfl, h20, by omega, by rw [HBN.out]; omega⟩
      case round =>
        obtain ⟨d, k, rfl, rfl, hk, hd, hdk⟩ := hrel
        by_cases hk0 : 0 < k
        · have hbk := Tr.bin_pos hk0
          have hdk' : d + 1 + Tr.bin (k / 2) = bn := by omega
          have HD := Lib.hid hdk'
          clear hdk hbk hdk'
          go_wp2_with fail
          exact ⟨⟨d + 1, k / 2, by go_num, by go_num, by omega, by have := HD.out; omega, HD.out⟩, by simp [intOf]; omega⟩
        · obtain rfl : k = 0 := by omega
          rw [Tr.bin_zero] at hdk
          obtain rfl : d = bn := by omega
          clear hdk hk0
          generalize hP : Tr.path ss i = P at *
          have HPP := Lib.hid hP
          clear hP
          have kd1 : decide ((d : Int) < (P.length : Int)) = false := by rw [decide_eq_false_iff_not]; omega
          have kd2 : decide (d < P.length) = false := by rw [decide_eq_false_iff_not]; omega
          go_wp2_with fail
          go_region_held3 (fun w' => w'.cell? (ad.add i) = some (.string x)) (first | assumption | exact cell_bt hcell4 (((Below.refl _ w4).alloc (Nat.le_refl _) _).drew) | exact cell_bt hcell4 (hb5'.alloc hb5'.size _) | exact cell_bt hcell4 (hb7'.alloc hb7'.size _) | go_keep)
            (first
              | (go_at_call 15
                 (with_reducible refine (R2.out _ (Bt hb4W (Bd w4))).mono ?_)
                 rintro e w5 ⟨rfl, hb5⟩
                 have hb5' := Bt (Bd w4) hb5
                 have hcell5 := cell_bt hcell4 hb5'
                 have hoz := own_zero w5 w4.heap.size hb5'.size
                 have hba : Below w4.heap.size w4 (w5.alloc (.cells #[] 9)) := hb5'.alloc hb5'.size _
                 have hsrc := own_below HPN.out hba)
              | (go_at_call 15
                 (with_reducible refine (R2.out _ (Bt hb4W (((Below.refl _ w4).alloc (Nat.le_refl _) (.cells #[] 9)).drew))).mono ?_)
                 rintro e w5 ⟨rfl, hb5⟩
                 have hba : Below w4.heap.size w4 w5 := Bt (((Below.refl _ w4).alloc (Nat.le_refl _) (.cells #[] 9)).drew) hb5
                 have hcell5 := cell_bt hcell4 hba
                 have hoz := own_below (own_below (own_zero w4 w4.heap.size (Nat.le_refl _)) (Bd _)) hb5
                 have hsrc := own_below HPN.out hba)
              | ((refine step_append2 (by rfl) (.tmp 70) (.tmp 71) (by rfl) w4.heap.size _ [] (by rfl) hoz _ _ P (by rfl) hsrc (by simp; omega) hba.size ?_)
                 intro v6 w6 ho6 hb6
                 rw [List.nil_append] at ho6
                 have hb6' := hba.trans hb6
                 have hcell6 := cell_bt hcell4 hb6')
              | (go_at_call 15
                 (with_reducible refine (root_none w6 ((hp.bt hb4W).bt hb6')).mono ?_)
                 rintro e w7 ⟨rfl, hb7⟩
                 have hb7' := Bt hb6' hb7
                 have hcell7 := cell_bt hcell4 hb7'
                 have ho7 := own_below (own_below ho6 hb7) ((Below.refl _ _).alloc (Nat.le_refl _) (.cells #[.string Tr.empty] 9))
                 have hone := own_one w7 w4.heap.size Tr.empty hb7'.size
                 have hb7a : Below w4.heap.size w4 (w7.alloc (.cells #[.string Tr.empty] 9)) := hb7'.alloc hb7'.size _)
              | ((refine step_append2 (by rfl) (.tmp 72) (.tmp 74) (by rfl) w4.heap.size _ P (by rfl) ho7 _ _ [Tr.empty] (by rfl) hone (by simp; omega) hb7a.size ?_)
                 intro v8 w8 ho8 hb8
                 have hb8' := hb7a.trans hb8
                 have hcell8 := cell_bt hcell4 hb8'
                 obtain ⟨A8, c8, rfl, hs8, hc8, hm8⟩ := ho8.form
                 have HS8 := Lib.hid hs8
                 clear hs8 ho8)
              | (go_at_call 18
                 (with_reducible refine (check_ex (Tr.root ss) x ss.length i A8 c8 (P.length + 1) (P ++ [Tr.empty]) (by simp) false HN1.out w8 hxs HS8.out (fun s hs => by
                   rcases List.mem_append.1 hs with h | h
                   · exact HSM.out s h
                   · rw [List.mem_singleton.1 h, Tr.empty, Tr.dg_size]; omega) (by simpa using hc8) hm8 ((hp.bt hb4W).bt hb8')).mono ?_)
                 rintro e w9 ⟨rfl, hb9⟩
                 have hb9' := Bt hb8' hb9
                 have hcell9 := cell_bt hcell4 hb9')
              | fail)
          all_goals
            have hb9W := Bt hb4W hb9'
            have hsx9 := (HSX.out.bt hb4').bt hb9'
            have HS9 := Lib.hid hsx9
            clear hsx9
            clear hcell9
            have hc9 := cell_bt hcell4 hb9'
            by_cases h1 : ss.length = 1
            · have hl0 : P.length = 0 := HL0.out.2 h1
              have HS' := Lib.hid h1
              have j1 : ((P.length : Int) == 0) = true := by rw [hl0]; rfl
              have j2 : ((ss.length : Int) == 1) = true := by rw [h1]; rfl
              clear h1 hl0
              go_wp2_with fail
              go_quiet (fail)
              go_wp2_with fail
              go_ret
              exact ⟨rfl, Bt hb9W (below_drewN _ _)⟩
            · have hl0 : P.length ≠ 0 := fun e => h1 (HL0.out.1 e)
              have HN2' := Lib.hid (HN2.out h1)
              have j1 : ((P.length : Int) == 0) = false := by rw [beq_eq_false_iff_ne]; omega
              have j2 : ((ss.length : Int) == 1) = false := by rw [beq_eq_false_iff_ne]; omega
              have j3 : IntKind.i64.wrap ((P.length : Int) - 1) = ((P.length - 1 : Nat) : Int) := by rw [IntKind.wrap_i64]; omega
              have j4 : (0 : Int) ≤ ((P.length - 1 : Nat) : Int) := by omega
              have j5 : ((P.length - 1 : Nat) : Int) ≤ (cx : Int) := by omega
              have j6 : ¬ cx = 0 := by omega
              have j7 : (P.take (P.length - 1)).length = P.length - 1 := by rw [List.length_take]; omega
              have J7 := Lib.hid j7
              have hcl : P.length - 1 ≤ cx := by omega
              clear h1 hl0 j7
              go_wp2_with fail
              go_region_held3 (fun w' => w'.cell? (ad.add i) = some (.string x)) (first | assumption | go_keep)
                (first
                  | (go_at_call 15
                     (with_reducible refine (R2.out _ (Bt hb9W (Bd w9))).mono ?_)
                     rintro e wa ⟨rfl, hba⟩
                     have hba' := Bt (Bd w9) hba
                     have hcella := cell_bt hc9 hba')
                  | (go_at_call 18
                     (with_reducible refine (check_ex (Tr.root ss) x ss.length i Ax cx (P.length - 1) (P.take (P.length - 1)) J7.out false HN2'.out wa hxs ((HS9.out.take _).bt hba') (fun s hs => HSM.out s (List.mem_of_mem_take hs)) hcl hmx ((hp.bt hb9W).bt hba')).mono ?_)
                     rintro e wb ⟨rfl, hbb⟩
                     have hbb' := Bt hba' hbb
                     have hcellb := cell_bt hc9 hbb')
                  | fail)
              go_wp2_with fail
              go_ret
              exact ⟨rfl, Bt hb9W hbb'⟩
  · have hf' : few20 ss = false := Bool.eq_false_iff.2 hf
    have FN := Lib.hid (fun w' (hb : Below W.heap.size W w') => few20_no A c ss w' (hs.bt hb) (by omega) hf')
    clear hf hf' hs
    go_enter Tryd.func4, Tryd.ntmps4
    go_wp2_with fail
    refine (head_any W hp).mono ?_
    rintro e w1 ⟨rfl, hb1⟩
    go_wp2_with fail
    refine (FN.out w1 hb1).mono ?_
    rintro e w1' ⟨rfl, rfl⟩
    go_wp2_with fail
    go_ret
    exact ⟨rfl, hb1⟩
end Go.Proofs.YtkakbookioimhaaDoor
