/- Layer 8: Round. -/
import Derived.Test.YtkbncdcphohmiaaGreatDoorMoN
set_option linter.unusedSimpArgs false
set_option linter.unusedVariables false
namespace Go.Proofs.YtkbncdcphohmiaaGreatDoor
open Go.RowKit
open Ra (Fit)
set_option maxRecDepth 100000

/-- The variable half. -/
def Hf (B : Nat) (w : World) : Prop := w.cell? ⟨0, 0, none⟩ = some (.bool false) ∧ w.cell? ⟨0, 1, none⟩ = some (.string ⟨#[49]⟩) ∧ w.cell? ⟨0, 2, none⟩ = some (.string ⟨#[50]⟩) ∧ 0 < B
theorem Hf.bt {w w' : World} (h : Hf w.heap.size w) (hb : Below w.heap.size w w') : Hf w'.heap.size w' := by
  obtain ⟨h1, h2, h3, h4⟩ := h
  exact ⟨(hb.cell (p := ⟨0, 0, none⟩) h4).trans h1, (hb.cell (p := ⟨0, 1, none⟩) h4).trans h2, (hb.cell (p := ⟨0, 2, none⟩) h4).trans h3, Nat.lt_of_lt_of_le h4 hb.size⟩
def Mo.halfR : R3 := (false, ⟨#[49]⟩, ⟨#[50]⟩)
theorem Mo.half_rf : rf (1 / 2 : Rat) = Mo.halfR := by
  have h : (1 / 2 : Rat) = Ra.mk false 1 2 := by decide +kernel
  rw [h, rf_lit false 1 2 (by decide) (by decide) rfl]
  unfold Mo.halfR tx
  have e1 : Lib.decDigits 1 = [49] := by decide +kernel
  have e2 : Lib.decDigits 2 = [50] := by decide +kernel
  rw [e1, e2]
/-- The nearest integer, of two the even one. -/
def Mo.rnd (q : Rat) : Int := if 0 < sgn (q - ((q.floor : Rat) + 1 / 2)) ∨ (sgn (q - ((q.floor : Rat) + 1 / 2)) = 0 ∧ q.floor % 2 ≠ 0) then q.floor + 1 else q.floor
def Mo.roundF (r : R3) : Int × Int :=
  if vR r = false then (0, 1) else if lg r = true then (0, 2)
  else if -9223372036854775808 ≤ (qv r).floor ∧ (qv r).floor < 9223372036854775807 then (Mo.rnd (qv r), 0) else (0, 10)
theorem Mo.cmp_half (r : R3) : cmpQ r Mo.halfR = (if vR r = false then ((0, 1) : Int × Int) else if lg r = true then (0, 2) else (sgn (qv r - 1 / 2), 0)) := by
  rw [← Mo.half_rf]
  unfold cmpQ
  have hf : Fit L140 (1 / 2 : Rat) := fit_small _ (by decide +kernel) (by decide +kernel)
  rw [(vR_rf _).2 (fit140 hf), (lg_rf _).2 hf, qv_rf]
  simp

def Pm (B : Nat) (w : World) : Prop := Pw B w ∧ Hf B w
theorem Pm.bt {w w' : World} (h : Pm w.heap.size w) (hb : Below w.heap.size w w') : Pm w'.heap.size w' := ⟨h.1.bt hb, h.2.bt hb⟩
theorem Mo.sgn_cases (q : Rat) : sgn q = 0 ∨ sgn q = -1 ∨ sgn q = 1 := by
  unfold sgn
  split
  · exact .inl rfl
  · split
    · exact .inr (.inl rfl)
    · exact .inr (.inr rfl)
theorem Mo.tmod2 (n : Int) : Int.tmod n 2 = 0 ↔ n % 2 = 0 := by
  constructor
  · intro h
    exact Int.emod_eq_zero_of_dvd (Int.dvd_of_tmod_eq_zero h)
  · intro h
    exact Int.tmod_eq_zero_of_dvd (Int.dvd_of_emod_eq_zero h)

set_option maxHeartbeats 4000000 in
theorem Mo.round_any (r : R3) (w : World) (hP : Pm w.heap.size w) (hr : r.2.1.size ≤ maxLen ∧ r.2.2.size ≤ maxLen) :
    Calls Tryz.prog 21 #[rV r] w fun e w' => e = .returned (.tuple #[.int .i64 (Mo.roundF r).1, .int .i64 (Mo.roundF r).2]) ∧ Below w.heap.size w w' := by
  have HP : Hid (∀ v, Below w.heap.size w v → Pm v.heap.size v) := Lib.hid (fun v h => hP.bt h)
  have C1 : Hid (∀ v, Below w.heap.size w v → Calls Tryz.prog 31 #[rV r, rV Mo.halfR] v fun e w' => e = .returned (.tuple #[.int .i64 (cmpQ r Mo.halfR).1, .int .i64 (cmpQ r Mo.halfR).2]) ∧ Below v.heap.size v w') :=
    Lib.hid (fun v h => opCompare r Mo.halfR v (HP.out v h).1 hr (by unfold Mo.halfR maxLen; decide))
  have C2 : Hid (∀ v, Below w.heap.size w v → Calls Tryz.prog 48 #[rV r] v fun e w' => e = .returned (.tuple #[.int .i64 (floorF r).1, .int .i64 (floorF r).2]) ∧ Below v.heap.size v w') := Lib.hid (fun v h => opFloor r v (HP.out v h).1 hr)
  have HC := Lib.hid (Mo.cmp_half r)
  have HRF : Hid (Mo.roundF r = if vR r = false then (0, 1) else if lg r = true then (0, 2)
  else if -9223372036854775808 ≤ (qv r).floor ∧ (qv r).floor < 9223372036854775807 then (Mo.rnd (qv r), 0) else (0, 10)) := Lib.hid rfl
  generalize Mo.roundF r = R at *
  obtain ⟨s, x, z⟩ := r
  have B1 := Lib.hid (Mo.al w (.cells #[.bool s, .string x, .string z] 32))
  have K1 := Lib.hid (At.new w s x z)
  unfold rV Mo.halfR at C1
  simp only at C1
  obtain ⟨g0, g1, g2, g3⟩ := (HP.out _ B1.out).2
  by_cases hbad : vR (s, x, z) = false ∨ lg (s, x, z) = true
  · obtain ⟨e0, he0, hcc, hR⟩ : ∃ e0 : Int, e0 ≠ 0 ∧ cmpQ (s, x, z) Mo.halfR = (0, e0) ∧ R = (0, e0) := by
      cases hv : vR (s, x, z) with
      | false => exact ⟨1, by decide, by rw [HC.out, hv]; rfl, by rw [HRF.out, hv]; rfl⟩
      | true =>
        have hl : lg (s, x, z) = true := by
          rcases hbad with h | h
          · rw [hv] at h; cases h
          · exact h
        exact ⟨2, by decide, by rw [HC.out, hv, hl]; rfl, by rw [HRF.out, hv, hl]; rfl⟩
    have HR := Lib.hid hR
    unfold Mo.halfR at hcc
    rw [hcc] at C1
    simp only at C1
    have hne : (e0 != 0) = true := by simp [he0]
    clear hP hR hcc HC HRF C2 hbad he0 hr
    unfold rV
    simp only
    go_enter Tryz.func21, Tryz.ntmps21
    go_wp2_with fail
    refine (C1.out _ B1.out).mono ?_
    rintro e w1 ⟨rfl, hb1⟩
    go_wp2
    go_ret2
    exact ⟨by rw [HR.out]; rfl, Mo.Nb B1.out hb1⟩
  · have hv : vR (s, x, z) = true := by
      cases h : vR (s, x, z) with
      | true => rfl
      | false => exact absurd (.inl h) hbad
    have hl : lg (s, x, z) = false := by
      cases h : lg (s, x, z) with
      | false => rfl
      | true => exact absurd (.inr h) hbad
    obtain ⟨hfit, hrf⟩ := vR_q hv
    obtain ⟨q, hq⟩ : ∃ q, q = qv (s, x, z) := ⟨_, rfl⟩
    rw [← hq] at hfit hrf
    have hcc := HC.out
    rw [hv, hl, ← hq] at hcc
    have hR := HRF.out
    rw [hv, hl, ← hq] at hR
    simp only [Bool.false_eq_true, Bool.true_eq_false, if_false] at hcc hR
    unfold Mo.halfR at hcc
    rw [hcc] at C1
    simp only at C1
    have hf140 : Fit L140 q := (lg_rf q).1 (by rw [← hrf]; exact hl)
    have hfl : floorF (s, x, z) = if -9223372036854775808 ≤ q.floor ∧ q.floor ≤ 9223372036854775807 then (q.floor, 0) else (0, 10) := by
      unfold floorF
      rw [hv, ← hq]
      rfl
    by_cases hin : -9223372036854775808 ≤ q.floor ∧ q.floor < 9223372036854775807
    · obtain ⟨fl, hfq⟩ : ∃ fl, fl = q.floor := ⟨_, rfl⟩
      rw [if_pos ⟨hin.1, by omega⟩] at hfl
      rw [if_pos hin] at hR
      rw [hfl] at C2
      simp only at C2
      have C3 : Hid (∀ v, Below w.heap.size w v → Calls Tryz.prog 39 #[.int .i64 fl, .int .i64 1] v fun e w' => e = .returned (.tuple #[rV (rf ((fl : Rat))), .int .i64 0]) ∧ Below v.heap.size v w') := Lib.hid (fun v h => by
        have := opOf fl 1 v (HP.out v h).1 ⟨by omega, by omega⟩ (by decide)
        unfold ofF5 at this
        rw [if_neg (by decide), show (fl : Rat) / ((1 : Int) : Rat) = (fl : Rat) by rw [show ((1 : Int) : Rat) = 1 from rfl, Rat.div_def, show (1 : Rat)⁻¹ = 1 by decide +kernel, Rat.mul_one]] at this
        exact this)
      have fl1 : Fit L140 ((fl : Rat)) := by
        have := Mo.fit_q fl 1 (by decide) (by omega) (by decide)
        rw [show (fl : Rat) / ((1 : Int) : Rat) = (fl : Rat) by rw [show ((1 : Int) : Rat) = 1 from rfl, Rat.div_def, show (1 : Rat)⁻¹ = 1 by decide +kernel, Rat.mul_one]] at this
        exact this
      have hf2 : Fit L140 (1 / 2 : Rat) := fit_small _ (by decide +kernel) (by decide +kernel)
      have C4 : Hid (∀ v, Below w.heap.size w v → Calls Tryz.prog 28 #[rV (rf ((fl : Rat))), .agg #[.bool false, .string ⟨#[49]⟩, .string ⟨#[50]⟩]] v fun e w' => e = .returned (.tuple #[rV (rf ((fl : Rat) + 1 / 2)), .int .i64 0]) ∧ Below v.heap.size v w') := Lib.hid (fun v h => by
        have := addQ (fl : Rat) (1 / 2) v (HP.out v h).1 fl1 hf2
        rw [Mo.half_rf] at this
        exact this)
      have fl2 : Fit L140 ((fl : Rat) + 1 / 2) := by
        have d1 : Fit (10 ^ 20) ((fl : Rat)) := by
          have h := Ra.mk_le (decide (fl < 0) != decide ((1 : Int) < 0)) fl.natAbs (1 : Int).natAbs (by decide)
          rw [mk_int, show (fl : Rat) / ((1 : Int) : Rat) = (fl : Rat) by rw [show ((1 : Int) : Rat) = 1 from rfl, Rat.div_def, show (1 : Rat)⁻¹ = 1 by decide +kernel, Rat.mul_one]] at h
          exact ⟨Nat.lt_of_le_of_lt h.1 (by omega), Nat.lt_of_le_of_lt h.2 (by decide)⟩
        have d2 : Fit (10 ^ 1) (1 / 2 : Rat) := ⟨by decide +kernel, by decide +kernel⟩
        refine (Fit.add d1 d2).mono ?_
        exact Nat.le_trans (by decide : 2 * (10 ^ 20 * 10 ^ 1) ≤ 10 ^ 22) (Nat.pow_le_pow_right (by omega) (by omega))
      have C5 : Hid (∀ v, Below w.heap.size w v → Calls Tryz.prog 31 #[.agg #[.bool s, .string x, .string z], rV (rf ((fl : Rat) + 1 / 2))] v fun e w' => e = .returned (.tuple #[.int .i64 (sgn (q - ((fl : Rat) + 1 / 2))), .int .i64 0]) ∧ Below v.heap.size v w') := Lib.hid (fun v h => by
        have := cmpQ' q ((fl : Rat) + 1 / 2) v (HP.out v h).1 hf140 fl2
        rw [← hrf] at this
        exact this)
      have hso := Mo.sgn_cases (q - ((fl : Rat) + 1 / 2))
      have HRN : Hid (R = (if 0 < sgn (q - ((fl : Rat) + 1 / 2)) ∨ (sgn (q - ((fl : Rat) + 1 / 2)) = 0 ∧ fl % 2 ≠ 0) then fl + 1 else fl, 0)) := Lib.hid (by rw [hR, hfq]; rfl)
      rw [← hfq] at C2 hin
      generalize sgn (q - ((fl : Rat) + 1 / 2)) = o at *
      generalize sgn (q - 1 / 2) = o1 at *
      generalize rf ((fl : Rat) + 1 / 2) = q2 at *
      generalize rf ((fl : Rat)) = q1 at *
      obtain ⟨q10, q11, q12⟩ := q1
      obtain ⟨q20, q21, q22⟩ := q2
      unfold rV at C2 C3 C4 C5 ⊢
      simp only at C2 C3 C4 C5 ⊢
      have htm := Lib.hid (Mo.tmod2 fl)
      have hfl' : (fl == 9223372036854775807) = false := by simp; omega
      clear hP hR hcc HC HRF hbad hr hv hl hfit hrf hq hf140 hfl fl1 fl2 hf2 hfq
      go_enter Tryz.func21, Tryz.ntmps21
      go_wp2_with fail
      refine (C1.out _ B1.out).mono ?_
      rintro e w1 ⟨rfl, hb1⟩
      have B2 := Lib.hid (Mo.Nb B1.out hb1)
      have K2 := Lib.hid (K1.out.bt hb1)
      clear hb1 B1 K1 C1 g0 g1 g2 g3
      obtain ⟨k0, k1, k2, _, _, _⟩ := K2.out.cells
      go_wp2_with fail
      refine (C2.out _ B2.out).mono ?_
      rintro e w2 ⟨rfl, hb2⟩
      have B3 := Lib.hid (Mo.Nb B2.out hb2)
      have K3 := Lib.hid (K2.out.bt hb2)
      clear hb2 B2 K2 C2 k0 k1 k2
      go_wp2_with fail
      refine (C3.out _ B3.out).mono ?_
      rintro e w3 ⟨rfl, hb3⟩
      have A3 := Lib.hid (Mo.al w3 (.cells #[.bool q10, .string q11, .string q12] 32))
      have B4 := Lib.hid (Mo.Nb (Mo.Nb B3.out hb3) A3.out)
      have K4 := Lib.hid ((K3.out.bt hb3).bt A3.out)
      clear hb3 B3 K3 C3
      obtain ⟨g0, g1, g2, g3⟩ := (HP.out _ B4.out).2
      go_wp2_with fail
      refine (C4.out _ B4.out).mono ?_
      rintro e w4 ⟨rfl, hb4⟩
      have A4 := Lib.hid (Mo.al w4 (.cells #[.bool q20, .string q21, .string q22] 32))
      have B5 := Lib.hid (Mo.Nb (Mo.Nb B4.out hb4) A4.out)
      have K5 := Lib.hid ((K4.out.bt hb4).bt A4.out)
      clear hb4 B4 K4 C4 g0 g1 g2 g3 A3
      obtain ⟨k0, k1, k2, _, _, _⟩ := K5.out.cells
      go_wp2_with fail
      refine (C5.out _ B5.out).mono ?_
      rintro e w5 ⟨rfl, hb5⟩
      have B6 := Lib.hid (Mo.Nb B5.out hb5)
      clear hb5 B5 K5 C5 k0 k1 k2 A4
      rcases hso with rfl | rfl | rfl
      · by_cases hpar : fl % 2 = 0
        · have HR : Hid (R = (fl, 0)) := Lib.hid (by rw [HRN.out, if_neg (by simp [hpar])])
          have t0 : Int.tmod fl 2 = 0 := htm.out.2 hpar
          have t1 : (Int.tmod fl 2 != 0) = false := by rw [t0]; rfl
          clear HRN hpar
          go_wp2
          go_ret2
          exact ⟨by rw [HR.out]; rfl, B6.out⟩
        · have HR : Hid (R = (fl + 1, 0)) := Lib.hid (by rw [HRN.out, if_pos (.inr ⟨rfl, hpar⟩)])
          have t1 : (Int.tmod fl 2 != 0) = true := by
            simp only [bne_iff_ne, ne_eq]
            exact fun h => hpar (htm.out.1 h)
          clear HRN hpar
          go_wp2
          go_ret2
          exact ⟨by rw [HR.out]; rfl, B6.out⟩
      · have HR : Hid (R = (fl, 0)) := Lib.hid (by rw [HRN.out, if_neg (by simp)])
        clear HRN
        go_wp2
        go_ret2
        exact ⟨by rw [HR.out]; rfl, B6.out⟩
      · have HR : Hid (R = (fl + 1, 0)) := Lib.hid (by rw [HRN.out, if_pos (.inl (by decide))])
        clear HRN
        go_wp2
        go_ret2
        exact ⟨by rw [HR.out]; rfl, B6.out⟩
    · have hR2 : R = (0, 10) := by rw [hR, if_neg hin]
      have HR := Lib.hid hR2
      by_cases hmx : q.floor = 9223372036854775807
      · have C2' : Hid (∀ v, Below w.heap.size w v → Calls Tryz.prog 48 #[.agg #[.bool s, .string x, .string z]] v fun e w' => e = .returned (.tuple #[.int .i64 9223372036854775807, .int .i64 0]) ∧ Below v.heap.size v w') := Lib.hid (fun v h => by
          have := C2.out v h
          rw [hfl, hmx, if_pos ⟨by decide, by decide⟩] at this
          exact this)
        generalize sgn (q - 1 / 2) = o1 at *
        clear hP hR hR2 hcc HC HRF hbad hr hv hl hfit hrf hq hf140 hfl hin hmx C2
        unfold rV
        simp only
        go_enter Tryz.func21, Tryz.ntmps21
        go_wp2_with fail
        refine (C1.out _ B1.out).mono ?_
        rintro e w1 ⟨rfl, hb1⟩
        have B2 := Lib.hid (Mo.Nb B1.out hb1)
        have K2 := Lib.hid (K1.out.bt hb1)
        clear hb1 B1 K1 C1 g0 g1 g2 g3
        obtain ⟨k0, k1, k2, _, _, _⟩ := K2.out.cells
        go_wp2_with fail
        refine (C2'.out _ B2.out).mono ?_
        rintro e w2 ⟨rfl, hb2⟩
        have B3 := Lib.hid (Mo.Nb B2.out hb2)
        clear hb2 B2 K2 C2' k0 k1 k2
        go_wp2
        go_ret2
        exact ⟨by rw [HR.out]; rfl, B3.out⟩
      · have C2' : Hid (∀ v, Below w.heap.size w v → Calls Tryz.prog 48 #[.agg #[.bool s, .string x, .string z]] v fun e w' => e = .returned (.tuple #[.int .i64 0, .int .i64 10]) ∧ Below v.heap.size v w') := Lib.hid (fun v h => by
          have := C2.out v h
          rw [hfl, if_neg (by omega)] at this
          exact this)
        generalize sgn (q - 1 / 2) = o1 at *
        clear hP hR hR2 hcc HC HRF hbad hr hv hl hfit hrf hq hf140 hfl hin hmx C2
        unfold rV
        simp only
        go_enter Tryz.func21, Tryz.ntmps21
        go_wp2_with fail
        refine (C1.out _ B1.out).mono ?_
        rintro e w1 ⟨rfl, hb1⟩
        have B2 := Lib.hid (Mo.Nb B1.out hb1)
        have K2 := Lib.hid (K1.out.bt hb1)
        clear hb1 B1 K1 C1 g0 g1 g2 g3
        obtain ⟨k0, k1, k2, _, _, _⟩ := K2.out.cells
        go_wp2_with fail
        refine (C2'.out _ B2.out).mono ?_
        rintro e w2 ⟨rfl, hb2⟩
        have B3 := Lib.hid (Mo.Nb B2.out hb2)
        clear hb2 B2 K2 C2' k0 k1 k2
        go_wp2
        go_ret2
        exact ⟨by rw [HR.out]; rfl, B3.out⟩
end Go.Proofs.YtkbncdcphohmiaaGreatDoor
