/- MoneyRounds. -/
import Derived.Test.YtkbncdcphohmiaaGreatDoorMoRdA
set_option linter.unusedSimpArgs false
set_option linter.unusedVariables false
namespace Go.Proofs.YtkbncdcphohmiaaGreatDoor
open Go.RowKit
set_option maxRecDepth 100000

theorem int_fit (m : Int) (h1 : -9223372036854775808 ≤ m) (h2 : m ≤ 9223372036854775807) : Ra.Fit (10 ^ 20) (m : Rat) := by
  refine ⟨?_, ?_⟩
  · rw [Rat.num_intCast]
    omega
  · rw [Rat.den_intCast]
    omega
theorem of_one (m : Int) : ofF5 m 1 = (rf (m : Rat), 0) := by
  unfold ofF5
  rw [if_neg (by omega)]
  congr 2
  show (m : Rat) / (1 : Rat) = m
  grind
def Mo.ab (q : Rat) : Rat := if q < 0 then -q else q
theorem Mo.rf_ab (q : Rat) : ((false, (rf q).2.1, (rf q).2.2) : R3) = rf (Mo.ab q) := by
  unfold Mo.ab
  split
  · rename_i h
    have h2 : ¬ -q < 0 := by grind
    unfold rf
    rw [decide_eq_false h2, Rat.neg_num, Rat.neg_den, Int.natAbs_neg]
  · rename_i h
    unfold rf
    rw [decide_eq_false h]
theorem Mo.ab_fit {q : Rat} {k : Nat} (h : Ra.Fit k q) : Ra.Fit k (Mo.ab q) := by
  unfold Mo.ab
  split
  · exact ⟨by rw [Rat.neg_num, Int.natAbs_neg]; exact h.1, by rw [Rat.neg_den]; exact h.2⟩
  · exact h
theorem Mo.rnd_near (q : Rat) : (q.floor ≤ Mo.rnd q ∧ Mo.rnd q ≤ q.floor + 1) ∧ (sgn (Mo.ab (q - (Mo.rnd q : Rat)) - 1 / 2) = -1 ∨ (sgn (Mo.ab (q - (Mo.rnd q : Rat)) - 1 / 2) = 0 ∧ Mo.rnd q % 2 = 0)) := by
  have g1 : (q.floor : Rat) ≤ q := Rat.floor_le q
  have g2 : q < ((q.floor + 1 : Int) : Rat) := Rat.lt_floor_add_one q
  rw [Rat.intCast_add] at g2
  have e1 : ((1 : Int) : Rat) = 1 := rfl
  rw [e1] at g2
  generalize hf : q.floor = f at *
  unfold Mo.rnd
  rw [hf]
  have hs : ∀ x : Rat, sgn x = if x = 0 then 0 else if x < 0 then -1 else 1 := fun x => rfl
  by_cases h1 : 0 < sgn (q - ((f : Rat) + 1 / 2))
  · rw [if_pos (.inl h1)]
    have h2 : (f : Rat) + 1 / 2 < q := by
      rw [hs] at h1
      split at h1
      · omega
      · split at h1
        · omega
        · grind
    refine ⟨⟨by omega, by omega⟩, .inl ?_⟩
    rw [Rat.intCast_add, e1, hs, if_neg, if_pos]
    · unfold Mo.ab; split <;> grind
    · unfold Mo.ab; split <;> grind
  · by_cases h0 : sgn (q - ((f : Rat) + 1 / 2)) = 0
    · have h2 : q = (f : Rat) + 1 / 2 := by
        rw [hs] at h0
        split at h0
        · grind
        · split at h0 <;> omega
      by_cases hp : f % 2 ≠ 0
      · rw [if_pos (.inr ⟨h0, hp⟩)]
        refine ⟨⟨by omega, by omega⟩, .inr ⟨?_, by omega⟩⟩
        rw [Rat.intCast_add, e1, hs, if_pos]
        unfold Mo.ab; split <;> grind
      · rw [if_neg (by intro h; rcases h with h | h; exact h1 h; exact hp h.2)]
        refine ⟨⟨by omega, by omega⟩, .inr ⟨?_, by omega⟩⟩
        rw [hs, if_pos]
        unfold Mo.ab; split <;> grind
    · rw [if_neg (by intro h; rcases h with h | h; exact h1 h; exact h0 h.1)]
      have h2 : q < (f : Rat) + 1 / 2 := by
        rw [hs] at h1 h0
        by_cases a1 : q - ((f : Rat) + 1 / 2) = 0
        · rw [if_pos a1] at h0; omega
        · rw [if_neg a1] at h1
          by_cases a2 : q - ((f : Rat) + 1 / 2) < 0
          · grind
          · rw [if_neg a2] at h1; omega
      refine ⟨⟨by omega, by omega⟩, .inl ?_⟩
      rw [hs, if_neg, if_pos]
      · unfold Mo.ab; split <;> grind
      · unfold Mo.ab; split <;> grind
theorem Mo.rnd_int (m : Int) : Mo.rnd (m : Rat) = m := by
  have h := Mo.rnd_near (m : Rat)
  have e : (m : Rat).floor = m := Rat.floor_intCast m
  rw [e] at h
  unfold Mo.rnd
  rw [e]
  have h3 : sgn ((m : Rat) - ((m : Rat) + 1 / 2)) = -1 := by
    have : (m : Rat) - ((m : Rat) + 1 / 2) = -1 / 2 := by grind
    rw [this]
    decide +kernel
  rw [h3, if_neg (by omega)]

theorem rounds_walk (a : R3) (m : Int) (w : World) (hP : Mo.Pa w.heap.size w) (ha : a.2.1.size ≤ maxLen ∧ a.2.2.size ≤ maxLen) (hm : (Go.Lit.int .i64 m).wf = true) :
    Calls Tryz.prog 7 #[rV a, .int .i64 m] w fun e w' => e = .returned (.bool true) ∧ Below w.heap.size w w' := by
  obtain ⟨m0, m1⟩ : IntKind.i64.min ≤ m ∧ m ≤ IntKind.i64.max := by simpa [Go.Lit.wf] using hm
  change -9223372036854775808 ≤ m at m0
  change m ≤ 9223372036854775807 at m1
  have H := Lib.hid (fun v (h : Below w.heap.size w v) => Mo.head_any v (hP.bt h).pm)
  have P := fun v (h : Below w.heap.size w v) => (hP.bt h).pm
  have O1 := Lib.hid (fun v (h : Below w.heap.size w v) => Mo.of_any m 1 v (P v h).1 ⟨m0, m1⟩ (by omega))
  rw [of_one] at O1
  have f20 : ∀ q : Rat, Ra.Fit (10 ^ 20) q → Ra.Fit L140 q := fun q h => h.mono (Nat.pow_le_pow_right (by omega) (by omega))
  have RI := Lib.hid (fun v (h : Below w.heap.size w v) => Mo.round_any (rf (m : Rat)) v (P v h) (Mo.rf_size (f20 _ (int_fit m m0 m1))))
  have RA := Lib.hid (fun v (h : Below w.heap.size w v) => Mo.round_any a v (P v h) ha)
  have VA := Lib.hid (fun v (h : Below w.heap.size w v) => valid_any a v (P v h).1 ha.1 ha.2)
  have OH := Lib.hid (fun v (h : Below w.heap.size w v) => Mo.of_any 1 2 v (P v h).1 (by omega) (by omega))
  rw [show (ofF5 1 2).1 = rf (1 / 2 : Rat) from Mo.of_q 1 2 (by decide)] at OH
  have hfl : (m : Rat).floor = m := Rat.floor_intCast m
  have zna : a.2.1.size ≤ 9223372036854775807 := ha.1
  have zda : a.2.2.size ≤ 9223372036854775807 := ha.2
  -- what Round says of the number
  have key : (∃ e, (e = 1 ∧ vR a = false ∨ e = 10 ∧ vR a = true) ∧ (a.2.1.size ≤ 60 ∧ a.2.2.size ≤ 60 → Mo.roundF a = (0, e))) ∨ (∃ q, a = rf q ∧ (a.2.1.size ≤ 60 ∧ a.2.2.size ≤ 60 → Mo.roundF a = (Mo.rnd q, 0) ∧ -9223372036854775808 ≤ q.floor ∧ q.floor < 9223372036854775807)) := by
    cases hv : vR a with
    | false => exact .inl ⟨1, .inl ⟨rfl, rfl⟩, fun _ => by unfold Mo.roundF; rw [hv]; rfl⟩
    | true =>
      obtain ⟨q, hq, rfl⟩ := vR_ex hv
      have e1 : ∀ hs : (rf q).2.1.size ≤ 60 ∧ (rf q).2.2.size ≤ 60, lg (rf q) = false := fun hs => (lg_rf q).2 (Ra.Fit.mono ((fit_size (k := 60) (by omega)).1 hs) (Nat.pow_le_pow_right (by omega) (by omega)))
      by_cases hr : -9223372036854775808 ≤ q.floor ∧ q.floor < 9223372036854775807
      · exact .inr ⟨q, rfl, fun hs => ⟨by unfold Mo.roundF; rw [hv, if_neg (by simp), e1 hs, if_neg (by simp), qv_rf, if_pos hr], hr.1, hr.2⟩⟩
      · exact .inl ⟨10, .inr ⟨rfl, rfl⟩, fun hs => by unfold Mo.roundF; rw [hv, if_neg (by simp), e1 hs, if_neg (by simp), qv_rf, if_neg hr]⟩
  have hmid : ∀ q : Rat, a = rf q → a.2.1.size ≤ 60 ∧ a.2.2.size ≤ 60 → -9223372036854775808 ≤ q.floor → q.floor < 9223372036854775807 → ∃ d hh : R3, (∀ v, Below w.heap.size w v → Calls Tryz.prog 26 #[.int .i64 (Mo.rnd q), .int .i64 1] v fun e w' => e = .returned (rV (rf (Mo.rnd q : Rat))) ∧ Below v.heap.size v w') ∧
      (∀ v, Below w.heap.size w v → Calls Tryz.prog 30 #[rV a, rV (rf (Mo.rnd q : Rat))] v fun e w' => e = .returned (.tuple #[rV d, .int .i64 0]) ∧ Below v.heap.size v w') ∧
      (∀ v, Below w.heap.size w v → Calls Tryz.prog 31 #[rV (false, d.2.1, d.2.2), rV (rf (1 / 2 : Rat))] v fun e w' => e = .returned (.tuple #[.int .i64 (sgn (Mo.ab (q - (Mo.rnd q : Rat)) - 1 / 2)), .int .i64 0]) ∧ Below v.heap.size v w') := by
    rintro q rfl hs r0 r1
    obtain ⟨⟨k0, k1⟩, _⟩ := Mo.rnd_near q
    have fq : Ra.Fit (10 ^ 60) q := (fit_size (k := 60) (by omega)).1 hs
    have fk := int_fit (Mo.rnd q) (by omega) (by omega)
    have fq' : Ra.Fit L140 q := fq.mono (Nat.pow_le_pow_right (by omega) (by omega))
    have fd : Ra.Fit L140 (q - (Mo.rnd q : Rat)) := (Ra.Fit.sub fq fk).mono (by unfold L140; decide +kernel)
    refine ⟨rf (q - (Mo.rnd q : Rat)), rf (1 / 2), fun v h => ?_, fun v h => subQ q _ v (P v h).1 fq' (f20 _ fk), fun v h => ?_⟩
    · have := Mo.of_any (Mo.rnd q) 1 v (P v h).1 (by omega) (by omega)
      rw [of_one] at this
      exact this
    · rw [Mo.rf_ab]
      exact cmpQ' _ _ v (P v h).1 (Mo.ab_fit fd) (fit_small _ (by decide +kernel) (by decide +kernel))
  obtain ⟨sa, na, da⟩ := a
  simp only at zna zda key hmid
  by_cases hmx : m = 9223372036854775807
  · have e0 : Mo.roundF (rf (m : Rat)) = (0, 10) := by
      have hfit := f20 _ (int_fit m m0 m1)
      unfold Mo.roundF
      rw [(vR_rf _).2 (fit140 hfit), (lg_rf _).2 hfit, qv_rf, hfl, if_neg (by simp), if_neg (by simp), if_neg (by omega)]
    rw [e0] at RI
    by_cases h1 : 60 < na.size
    · exact Mo.rd_n1 (sa := sa) (m := m) (zna := zna) (zda := zda) (hm := hmx) (h1 := by omega) (w := w) (H := H) (O1 := O1) (RI := RI)
    · by_cases h2 : 60 < da.size
      · exact Mo.rd_n2 (sa := sa) (m := m) (zna := zna) (zda := zda) (hm := hmx) (h1 := by omega) (h2 := by omega) (w := w) (H := H) (O1 := O1) (RI := RI)
      · rcases key with ⟨e, he, hk⟩ | ⟨q, hq, hk⟩
        · rw [hk ⟨by omega, by omega⟩] at RA
          rcases he with ⟨rfl, hv⟩ | ⟨rfl, hv⟩
          · rw [hv] at VA
            exact Mo.rd_n3 (m := m) (zna := zna) (zda := zda) (hm := hmx) (h1 := by omega) (h2 := by omega) (w := w) (H := H) (O1 := O1) (RI := RI) (RA := RA) (VA := VA)
          · rw [hv] at VA
            exact Mo.rd_n4 (m := m) (zna := zna) (zda := zda) (hm := hmx) (h1 := by omega) (h2 := by omega) (w := w) (H := H) (O1 := O1) (RI := RI) (RA := RA) (VA := VA)
        · obtain ⟨hk1, hk2, hk3⟩ := hk ⟨by omega, by omega⟩
          rw [hk1] at RA
          obtain ⟨d, hh, OK, SU, CM⟩ := hmid q hq ⟨by omega, by omega⟩ hk2 hk3
          rcases (Mo.rnd_near q).2 with hc | ⟨hc, hev⟩
          · rw [hc] at CM
            exact Mo.rd_n5 (m := m) (zna := zna) (zda := zda) (hm := hmx) (h1 := by omega) (h2 := by omega) (k := Mo.rnd q) (w := w) (H := H) (O1 := O1) (RI := RI) (RA := RA) (OK := Lib.hid OK) (SU := Lib.hid SU) (OH := OH) (CM := Lib.hid CM)
          · rw [hc] at CM
            exact Mo.rd_n6 (m := m) (zna := zna) (zda := zda) (hm := hmx) (h1 := by omega) (h2 := by omega) (k := Mo.rnd q) (hk := by rw [(Mo.tmod2 _).2 hev]; rfl) (w := w) (H := H) (O1 := O1) (RI := RI) (RA := RA) (OK := Lib.hid OK) (SU := Lib.hid SU) (OH := OH) (CM := Lib.hid CM)
  · have e0 : Mo.roundF (rf (m : Rat)) = (m, 0) := by
      have hfit := f20 _ (int_fit m m0 m1)
      rw [Mo.round_rf hfit (by rw [hfl]; omega), Mo.rnd_int]
    rw [e0] at RI
    have hne : (m != 9223372036854775807) = true := by simp [hmx]
    by_cases h1 : 60 < na.size
    · exact Mo.rd_y1 (sa := sa) (m := m) (zna := zna) (zda := zda) (hne := hne) (h1 := by omega) (w := w) (H := H) (O1 := O1) (RI := RI)
    · by_cases h2 : 60 < da.size
      · exact Mo.rd_y2 (sa := sa) (m := m) (zna := zna) (zda := zda) (hne := hne) (h1 := by omega) (h2 := by omega) (w := w) (H := H) (O1 := O1) (RI := RI)
      · rcases key with ⟨e, he, hk⟩ | ⟨q, hq, hk⟩
        · rw [hk ⟨by omega, by omega⟩] at RA
          rcases he with ⟨rfl, hv⟩ | ⟨rfl, hv⟩
          · rw [hv] at VA
            exact Mo.rd_y3 (m := m) (zna := zna) (zda := zda) (hne := hne) (h1 := by omega) (h2 := by omega) (w := w) (H := H) (O1 := O1) (RI := RI) (RA := RA) (VA := VA)
          · rw [hv] at VA
            exact Mo.rd_y4 (m := m) (zna := zna) (zda := zda) (hne := hne) (h1 := by omega) (h2 := by omega) (w := w) (H := H) (O1 := O1) (RI := RI) (RA := RA) (VA := VA)
        · obtain ⟨hk1, hk2, hk3⟩ := hk ⟨by omega, by omega⟩
          rw [hk1] at RA
          obtain ⟨d, hh, OK, SU, CM⟩ := hmid q hq ⟨by omega, by omega⟩ hk2 hk3
          rcases (Mo.rnd_near q).2 with hc | ⟨hc, hev⟩
          · rw [hc] at CM
            exact Mo.rd_y5 (m := m) (zna := zna) (zda := zda) (hne := hne) (h1 := by omega) (h2 := by omega) (k := Mo.rnd q) (w := w) (H := H) (O1 := O1) (RI := RI) (RA := RA) (OK := Lib.hid OK) (SU := Lib.hid SU) (OH := OH) (CM := Lib.hid CM)
          · rw [hc] at CM
            exact Mo.rd_y6 (m := m) (zna := zna) (zda := zda) (hne := hne) (h1 := by omega) (h2 := by omega) (k := Mo.rnd q) (hk := by rw [(Mo.tmod2 _).2 hev]; rfl) (w := w) (H := H) (O1 := O1) (RI := RI) (RA := RA) (OK := Lib.hid OK) (SU := Lib.hid SU) (OH := OH) (CM := Lib.hid CM)
end Go.Proofs.YtkbncdcphohmiaaGreatDoor
