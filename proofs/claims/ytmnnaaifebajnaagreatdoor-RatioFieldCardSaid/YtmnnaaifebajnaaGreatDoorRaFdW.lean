/- RatioField: sums and products of three numbers. -/
import Derived.Test.YtmnnaaifebajnaaGreatDoorRaFdA
import Derived.Test.YtmnnaaifebajnaaGreatDoorRaLw
set_option linter.unusedSimpArgs false
set_option linter.unusedVariables false
namespace Go.Proofs.YtmnnaaifebajnaaGreatDoor
open Go.RowKit
open Ra (Fit)
set_option maxRecDepth 100000

theorem field_walk (a b c : R3) (w : World) (hP : Px w.heap.size w) (ha : a.2.1.size ≤ maxLen ∧ a.2.2.size ≤ maxLen) (hb : b.2.1.size ≤ maxLen ∧ b.2.2.size ≤ maxLen) (hc : c.2.1.size ≤ maxLen ∧ c.2.2.size ≤ maxLen) :
    Calls Tryz.prog 5 #[rV a, rV b, rV c] w fun e w' => e = .returned (.bool true) ∧ Below w.heap.size w w' := by
  have H := Lib.hid (fun v (h : Below w.heap.size w v) => head_any v (hP.bt h))
  have P := fun v (h : Below w.heap.size w v) => (hP.bt h).1
  have VA := Lib.hid (fun v (h : Below w.heap.size w v) => valid_any a v (P v h) ha.1 ha.2)
  have VB := Lib.hid (fun v (h : Below w.heap.size w v) => valid_any b v (P v h) hb.1 hb.2)
  have VC := Lib.hid (fun v (h : Below w.heap.size w v) => valid_any c v (P v h) hc.1 hc.2)
  by_cases hs : ∀ x ∈ [a.2.1, a.2.2, b.2.1, b.2.2, c.2.1, c.2.2], x.size ≤ 40
  · by_cases va : vR a = true
    · rw [va] at VA
      by_cases vb : vR b = true
      · rw [vb] at VB
        by_cases vc : vR c = true
        · rw [vc] at VC
          obtain ⟨p, _, rfl⟩ := vR_ex va
          obtain ⟨q, _, rfl⟩ := vR_ex vb
          obtain ⟨r, _, rfl⟩ := vR_ex vc
          simp only [List.mem_cons, List.not_mem_nil, or_false, forall_eq_or_imp, forall_eq] at hs
          obtain ⟨h1, h2, h3, h4, h5, h6⟩ := hs
          have dp := dg_of (by omega) h1 h2
          have dq := dg_of (by omega) h3 h4
          have dr := dg_of (by omega) h5 h6
          have E1 := Lib.hid (fun v (h : Below w.heap.size w v) => addQ p q v (P v h) (dp.fit (by omega)) (dq.fit (by omega)))
          have E2 := Lib.hid (fun v (h : Below w.heap.size w v) => addQ q p v (P v h) (dq.fit (by omega)) (dp.fit (by omega)))
          have E3 := Lib.hid (fun v (h : Below w.heap.size w v) => addQ q r v (P v h) (dq.fit (by omega)) (dr.fit (by omega)))
          have E4 := Lib.hid (fun v (h : Below w.heap.size w v) => addQ (p + q) r v (P v h) ((dp.add dq).fit (by omega)) (dr.fit (by omega)))
          have E5 := Lib.hid (fun v (h : Below w.heap.size w v) => addQ p (q + r) v (P v h) (dp.fit (by omega)) ((dq.add dr).fit (by omega)))
          have E6 := Lib.hid (fun v (h : Below w.heap.size w v) => mulQ p q v (P v h) (dp.fit (by omega)) (dq.fit (by omega)))
          have E7 := Lib.hid (fun v (h : Below w.heap.size w v) => mulQ q p v (P v h) (dq.fit (by omega)) (dp.fit (by omega)))
          have E8 := Lib.hid (fun v (h : Below w.heap.size w v) => mulQ p r v (P v h) (dp.fit (by omega)) (dr.fit (by omega)))
          have E9 := Lib.hid (fun v (h : Below w.heap.size w v) => mulQ p (q + r) v (P v h) (dp.fit (by omega)) ((dq.add dr).fit (by omega)))
          have E10 := Lib.hid (fun v (h : Below w.heap.size w v) => addQ (p * q) (p * r) v (P v h) ((dp.mul dq).fit (by omega)) ((dp.mul dr).fit (by omega)))
          have F1 := Lib.hid (fun v (h : Below w.heap.size w v) => subQ p q v (P v h) (dp.fit (by omega)) (dq.fit (by omega)))
          have F2 := Lib.hid (fun v (h : Below w.heap.size w v) => addQ (p - q) q v (P v h) ((dp.sub dq).fit (by omega)) (dq.fit (by omega)))
          rw [show q + p = p + q by grind] at E2
          rw [show p + (q + r) = p + q + r by grind] at E5
          rw [show q * p = p * q by grind] at E7
          rw [show p * q + p * r = p * (q + r) by grind] at E10
          rw [show p - q + q = p by grind] at F2
          by_cases h0 : q = 0
          · subst h0
            have F3 := Lib.hid (fun v (h : Below w.heap.size w v) => divZ p v (P v h) (dp.fit (by omega)))
            rw [rf_zero] at *
            exact field_good0 (zna := ha.1) (zda := ha.2) (znc := hc.1) (zdc := hc.2) (w := w) (H := H) (VA := VA) (VB := VB) (VC := VC) (E1 := E1) (E2 := E2) (E3 := E3) (E4 := E4) (E5 := E5) (E6 := E6) (E7 := E7) (E8 := E8) (E9 := E9) (E10 := E10) (F1 := F1) (F2 := F2) (F3 := F3)
          · have F3 := Lib.hid (fun v (h : Below w.heap.size w v) => divQ p q v (P v h) (dp.fit (by omega)) (dq.fit (by omega)) h0)
            have F4 := Lib.hid (fun v (h : Below w.heap.size w v) => mulQ (p / q) q v (P v h) ((dp.div dq h0).fit (by omega)) (dq.fit (by omega)))
            rw [Rat.div_mul_cancel h0] at F4
            exact field_good1 (zna := ha.1) (zda := ha.2) (znb := hb.1) (zdb := hb.2) (znc := hc.1) (zdc := hc.2) (hq := rf_num0 q h0) (w := w) (H := H) (VA := VA) (VB := VB) (VC := VC) (E1 := E1) (E2 := E2) (E3 := E3) (E4 := E4) (E5 := E5) (E6 := E6) (E7 := E7) (E8 := E8) (E9 := E9) (E10 := E10) (F1 := F1) (F2 := F2) (F3 := F3) (F4 := F4)
        · rw [show vR c = false by simpa using vc] at VC
          exact field_early3 (zna := ha.1) (zda := ha.2) (znb := hb.1) (zdb := hb.2) (znc := hc.1) (zdc := hc.2) (w := w) (H := H) (VA := VA) (VB := VB) (VC := VC)
      · rw [show vR b = false by simpa using vb] at VB
        exact field_early2 (sc := c.1) (zna := ha.1) (zda := ha.2) (znb := hb.1) (zdb := hb.2) (znc := hc.1) (zdc := hc.2) (w := w) (H := H) (VA := VA) (VB := VB)
    · rw [show vR a = false by simpa using va] at VA
      exact field_early1 (sb := b.1) (sc := c.1) (zna := ha.1) (zda := ha.2) (znb := hb.1) (zdb := hb.2) (znc := hc.1) (zdc := hc.2) (w := w) (H := H) (VA := VA)
  · exact field_early0 (sa := a.1) (sb := b.1) (sc := c.1) (zna := ha.1) (zda := ha.2) (znb := hb.1) (zdb := hb.2) (znc := hc.1) (zdc := hc.2) (hns := hs) (w := w) (H := H)
end Go.Proofs.YtmnnaaifebajnaaGreatDoor
