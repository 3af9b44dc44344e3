/- RatioValid: results are valid exactly if there is no error. -/
import Derived.Test.YtmnnaaifebajnaaGreatDoorRaVd0
import Derived.Test.YtmnnaaifebajnaaGreatDoorRaVd1
import Derived.Test.YtmnnaaifebajnaaGreatDoorRaVd2
import Derived.Test.YtmnnaaifebajnaaGreatDoorRaVd3
set_option linter.unusedSimpArgs false
set_option linter.unusedVariables false
namespace Go.Proofs.YtmnnaaifebajnaaGreatDoor
open Go.RowKit
open Ra (Fit)
set_option maxRecDepth 100000

theorem vR_zero : vR zeroR = false := by decide
theorem dg140 {q : Rat} (h : Fit L140 q) : Dg 140 q := h
/- What an operation gives, in the four cases. -/
theorem opQ_cases (f : Rat → Rat → Rat) (z : Bool) (a b : R3) (hf : ∀ p q : Rat, Fit L140 p → Fit L140 q → (z && decide (q = 0)) = false → Fit LIM (f p q)) :
    ((vR a && vR b) = false ∧ opQ f z a b = (zeroR, 1)) ∨ (vR a = true ∧ vR b = true ∧ (opQ f z a b).2 = 0 ∧ vR (opQ f z a b).1 = true) ∨ (vR a = true ∧ vR b = true ∧ ¬ (opQ f z a b).2 = 0 ∧ (opQ f z a b).1 = zeroR) := by
  unfold opQ
  by_cases h : (vR a && vR b) = false
  · rw [if_pos h]
    exact .inl ⟨h, rfl⟩
  · rw [if_neg h]
    have h : vR a = true ∧ vR b = true := by simpa using h
    right
    obtain ⟨p, hp, rfl⟩ := vR_ex h.1
    obtain ⟨q, hq, rfl⟩ := vR_ex h.2
    rw [qv_rf, qv_rf]
    by_cases hz : (z && decide (q = 0)) = true
    · rw [if_pos hz]
      exact .inr ⟨h.1, h.2, by simp, rfl⟩
    · rw [if_neg hz]
      by_cases hl : (lg (rf p) || lg (rf q)) = true
      · rw [if_pos hl]
        exact .inr ⟨h.1, h.2, by simp, rfl⟩
      · rw [if_neg hl]
        have hl : lg (rf p) = false ∧ lg (rf q) = false := by simpa using hl
        exact .inl ⟨h.1, h.2, rfl, (vR_rf _).2 (hf p q ((lg_rf p).1 hl.1) ((lg_rf q).1 hl.2) (by simpa using hz))⟩

theorem dlim {i j : Nat} {q : Rat} (h : Dg (i + j) q) (hij : i + j ≤ 300) : Fit LIM q := h.lim hij

abbrev VV (x : R3) (r : Bool) (w : World) : Prop := Hid (∀ v, Below w.heap.size w v → Calls Tryz.prog 16 #[rV x] v fun e w' => e = .returned (.bool r) ∧ Below v.heap.size v w')
theorem valid_hv (a b r : R3) (ee : Int) (w : World) (hP : Px w.heap.size w) (ha : a.2.1.size ≤ maxLen ∧ a.2.2.size ≤ maxLen) (hb : b.2.1.size ≤ maxLen ∧ b.2.2.size ≤ maxLen)
    (hc : ((vR a && vR b) = false ∧ (r, ee) = (zeroR, 1)) ∨ (vR a = true ∧ vR b = true ∧ ee = 0 ∧ vR r = true) ∨ (vR a = true ∧ vR b = true ∧ ¬ ee = 0 ∧ r = zeroR)) :
    (VV a false w ∧ ee = 1 ∧ r.1 = false ∧ r.2.1 = ⟨#[]⟩ ∧ r.2.2 = ⟨#[]⟩) ∨ (VV a true w ∧ VV b false w ∧ ee = 1 ∧ r.1 = false ∧ r.2.1 = ⟨#[]⟩ ∧ r.2.2 = ⟨#[]⟩) ∨ (VV a true w ∧ VV b true w ∧ ee = 0 ∧ VV r true w) ∨ (VV a true w ∧ VV b true w ∧ ¬ ee = 0 ∧ r.1 = false ∧ r.2.1 = ⟨#[]⟩ ∧ r.2.2 = ⟨#[]⟩ ∧ VV (false, ⟨#[]⟩, ⟨#[]⟩) false w) := by
  have V := fun (x : R3) (hx : x.2.1.size ≤ maxLen ∧ x.2.2.size ≤ maxLen) => (Lib.hid (fun v (h : Below w.heap.size w v) => valid_any x v (hP.bt h).1 hx.1 hx.2) : VV x (vR x) w)
  have VA := V a ha
  have VB := V b hb
  rcases hc with ⟨h, e⟩ | ⟨h1, h2, h3, h4⟩ | ⟨h1, h2, h3, h4⟩
  · simp only [Prod.mk.injEq] at e
    obtain ⟨rfl, rfl⟩ := e
    cases h1 : vR a
    · rw [h1] at VA
      exact .inl ⟨VA, rfl, rfl, rfl, rfl⟩
    · rw [h1, Bool.true_and] at h
      rw [h1] at VA
      rw [h] at VB
      exact .inr (.inl ⟨VA, VB, rfl, rfl, rfl, rfl⟩)
  · rw [h1] at VA
    rw [h2] at VB
    obtain ⟨q, hq, rfl⟩ := vR_ex h4
    have VX := V (rf q) (rf_len hq)
    rw [h4] at VX
    exact .inr (.inr (.inl ⟨VA, VB, h3, VX⟩))
  · rw [h1] at VA
    rw [h2] at VB
    subst h4
    have VX := V zeroR ⟨by decide, by decide⟩
    rw [vR_zero] at VX
    exact .inr (.inr (.inr ⟨VA, VB, h3, rfl, rfl, rfl, VX⟩))

theorem valid_walk (a b : R3) (raw : Int) (w : World) (hP : Px w.heap.size w) (ha : a.2.1.size ≤ maxLen ∧ a.2.2.size ≤ maxLen) (hb : b.2.1.size ≤ maxLen ∧ b.2.2.size ≤ maxLen) (hr : (Go.Lit.int .u8 raw).wf = true) :
    Calls Tryz.prog 9 #[rV a, rV b, .int .u8 raw] w fun e w' => e = .returned (.bool true) ∧ Below w.heap.size w w' := by
  obtain ⟨r0, r1⟩ : IntKind.u8.min ≤ raw ∧ raw ≤ IntKind.u8.max := by simpa [Go.Lit.wf] using hr
  change 0 ≤ raw at r0
  change raw ≤ 255 at r1
  obtain ⟨raw, rfl⟩ : ∃ k : Nat, raw = k := ⟨raw.toNat, by omega⟩
  have hraw : raw ≤ 255 := by omega
  have H := Lib.hid (fun v (h : Below w.heap.size w v) => head_any v (hP.bt h))
  by_cases hs : ∀ x ∈ [a.2.1, a.2.2, b.2.1, b.2.2], x.size ≤ 160
  · obtain h | h | h | h : (raw : Int) % 4 = 0 ∨ (raw : Int) % 4 = 1 ∨ (raw : Int) % 4 = 2 ∨ (raw : Int) % 4 = 3 := by omega
    · have O := Lib.hid (fun v (h : Below w.heap.size w v) => opAdd a b v (hP.bt h).1 ha hb)
      have C := opQ_cases (· + ·) false a b (fun p q h1 h2 _ => ((dg140 h1).add (dg140 h2)).lim (by omega))
      generalize opQ (· + ·) false a b = R at O C
      obtain ⟨r, ee⟩ := R
      have HV := Lib.hid (valid_hv a b r ee w hP ha hb C)
      exact valid_op0 (raw := raw) (hraw := hraw) (E1 := Lib.hid h) (zna := ha.1) (zda := ha.2) (znb := hb.1) (zdb := hb.2) (w := w) (H := H) (O := O) (HV := HV)
    · have O := Lib.hid (fun v (h : Below w.heap.size w v) => opSub a b v (hP.bt h).1 ha hb)
      have C := opQ_cases (· - ·) false a b (fun p q h1 h2 _ => ((dg140 h1).sub (dg140 h2)).lim (by omega))
      generalize opQ (· - ·) false a b = R at O C
      obtain ⟨r, ee⟩ := R
      have HV := Lib.hid (valid_hv a b r ee w hP ha hb C)
      exact valid_op1 (raw := raw) (hraw := hraw) (E1 := Lib.hid h) (zna := ha.1) (zda := ha.2) (znb := hb.1) (zdb := hb.2) (w := w) (H := H) (O := O) (HV := HV)
    · have O := Lib.hid (fun v (h : Below w.heap.size w v) => opMul a b v (hP.bt h).1 ha hb)
      have C := opQ_cases (· * ·) false a b (fun p q h1 h2 _ => ((dg140 h1).mul (dg140 h2)).lim (by omega))
      generalize opQ (· * ·) false a b = R at O C
      obtain ⟨r, ee⟩ := R
      have HV := Lib.hid (valid_hv a b r ee w hP ha hb C)
      exact valid_op2 (raw := raw) (hraw := hraw) (E1 := Lib.hid h) (zna := ha.1) (zda := ha.2) (znb := hb.1) (zdb := hb.2) (w := w) (H := H) (O := O) (HV := HV)
    · have O := Lib.hid (fun v (h : Below w.heap.size w v) => opDiv a b v (hP.bt h).1 ha hb)
      have C := opQ_cases (· / ·) true a b (fun p q h1 h2 h3 => ((dg140 h1).div (dg140 h2) (by simpa using h3)).lim (by omega))
      generalize opQ (· / ·) true a b = R at O C
      obtain ⟨r, ee⟩ := R
      have HV := Lib.hid (valid_hv a b r ee w hP ha hb C)
      exact valid_op3 (raw := raw) (hraw := hraw) (E1 := Lib.hid h) (zna := ha.1) (zda := ha.2) (znb := hb.1) (zdb := hb.2) (w := w) (H := H) (O := O) (HV := HV)
  · exact valid_early (sa := a.1) (sb := b.1) (raw := raw) (zna := ha.1) (zda := ha.2) (znb := hb.1) (zdb := hb.2) (hns := hs) (w := w) (H := H)
end Go.Proofs.YtmnnaaifebajnaaGreatDoor
