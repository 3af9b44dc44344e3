/- RatioOrder: the order of three numbers. -/
import Derived.Test.YtmnnaaifebajnaaGreatDoorRaOdA
import Derived.Test.YtmnnaaifebajnaaGreatDoorRaOdB
import Derived.Test.YtmnnaaifebajnaaGreatDoorRaOdC
set_option linter.unusedSimpArgs false
set_option linter.unusedVariables false
namespace Go.Proofs.YtmnnaaifebajnaaGreatDoor
open Go.RowKit
open Ra (Fit)
set_option maxRecDepth 100000

theorem sgn_cases (q : Rat) : (q = 0 ∧ sgn q = 0) ∨ (q < 0 ∧ sgn q = -1) ∨ (0 < q ∧ sgn q = 1) := by
  unfold sgn
  by_cases h : q = 0
  · rw [if_pos h]; exact .inl ⟨h, rfl⟩
  · rw [if_neg h]
    by_cases h1 : q < 0
    · rw [if_pos h1]; exact .inr (.inl ⟨h1, rfl⟩)
    · rw [if_neg h1]; exact .inr (.inr ⟨by grind, rfl⟩)
theorem sgn_neg (q : Rat) : sgn (-q) = -sgn q := by
  rcases sgn_cases q with ⟨h, e⟩ | ⟨h, e⟩ | ⟨h, e⟩ <;> rcases sgn_cases (-q) with ⟨h', e'⟩ | ⟨h', e'⟩ | ⟨h', e'⟩ <;> rw [e, e'] <;> first | rfl | (exfalso; grind)
theorem sgn_mul_pos (q r : Rat) (hr : 0 < r) : sgn (q * r) = sgn q := by
  rcases sgn_cases q with ⟨h, e⟩ | ⟨h, e⟩ | ⟨h, e⟩
  · rw [h, Rat.zero_mul]
  · have h1 : q * r < 0 := by
      have := Rat.mul_pos (show 0 < -q by grind) hr
      rw [Rat.neg_mul] at this
      grind
    rcases sgn_cases (q * r) with ⟨h', e'⟩ | ⟨h', e'⟩ | ⟨h', e'⟩
    · grind
    · rw [e, e']
    · grind
  · have h1 : 0 < q * r := Rat.mul_pos h hr
    rcases sgn_cases (q * r) with ⟨h', e'⟩ | ⟨h', e'⟩ | ⟨h', e'⟩
    · grind
    · grind
    · rw [e, e']

theorem ne_parts {a b : R3} (h : a ≠ b) : (a.1 == b.1) = false ∨ (a.1 = b.1 ∧ (a.2.1.toList == b.2.1.toList) = false) ∨ (a.1 = b.1 ∧ a.2.1 = b.2.1 ∧ (a.2.2.toList == b.2.2.toList) = false) := by
  by_cases h1 : a.1 = b.1
  · by_cases h2 : a.2.1 = b.2.1
    · exact .inr (.inr ⟨h1, h2, bytes_ne (fun e => h (Prod.ext h1 (Prod.ext h2 e)))⟩)
    · exact .inr (.inl ⟨h1, bytes_ne h2⟩)
  · exact .inl (by simpa using h1)

theorem order_walk (a b c : R3) (w : World) (hP : Px w.heap.size w) (ha : a.2.1.size ≤ maxLen ∧ a.2.2.size ≤ maxLen) (hb : b.2.1.size ≤ maxLen ∧ b.2.2.size ≤ maxLen) (hc : c.2.1.size ≤ maxLen ∧ c.2.2.size ≤ maxLen) :
    Calls Tryz.prog 6 #[rV a, rV b, rV c] w fun e w' => e = .returned (.bool true) ∧ Below w.heap.size w w' := by
  have H := Lib.hid (fun v (h : Below w.heap.size w v) => head_any v (hP.bt h))
  have P := fun v (h : Below w.heap.size w v) => (hP.bt h).1
  have VA := Lib.hid (fun v (h : Below w.heap.size w v) => valid_any a v (P v h) ha.1 ha.2)
  have VB := Lib.hid (fun v (h : Below w.heap.size w v) => valid_any b v (P v h) hb.1 hb.2)
  have VC := Lib.hid (fun v (h : Below w.heap.size w v) => valid_any c v (P v h) hc.1 hc.2)
  by_cases hs : ∀ x ∈ [a.2.1, a.2.2, b.2.1, b.2.2, c.2.1, c.2.2], x.size ≤ 40
  · by_cases va : vR a = true
    · rw [va] at VA
      by_cases vb : vR b = true
      · rw [vb] at VB
        by_cases vc : vR c = true
        · rw [vc] at VC
          obtain ⟨p, _, rfl⟩ := vR_ex va
          obtain ⟨q, _, rfl⟩ := vR_ex vb
          obtain ⟨r, _, rfl⟩ := vR_ex vc
          simp only [List.mem_cons, List.not_mem_nil, or_false, forall_eq_or_imp, forall_eq] at hs
          obtain ⟨h1, h2, h3, h4, h5, h6⟩ := hs
          have dp := dg_of (by omega) h1 h2
          have dq := dg_of (by omega) h3 h4
          have dr := dg_of (by omega) h5 h6
          have E1 := Lib.hid (fun v (h : Below w.heap.size w v) => cmpQ' p q v (P v h) (dp.fit (by omega)) (dq.fit (by omega)))
          have E2 := Lib.hid (fun v (h : Below w.heap.size w v) => cmpQ' q p v (P v h) (dq.fit (by omega)) (dp.fit (by omega)))
          have E3 := Lib.hid (fun v (h : Below w.heap.size w v) => cmpQ' q r v (P v h) (dq.fit (by omega)) (dr.fit (by omega)))
          have E4 := Lib.hid (fun v (h : Below w.heap.size w v) => cmpQ' p r v (P v h) (dp.fit (by omega)) (dr.fit (by omega)))
          have E5 := Lib.hid (fun v (h : Below w.heap.size w v) => addQ p r v (P v h) (dp.fit (by omega)) (dr.fit (by omega)))
          have E6 := Lib.hid (fun v (h : Below w.heap.size w v) => addQ q r v (P v h) (dq.fit (by omega)) (dr.fit (by omega)))
          have E7 := Lib.hid (fun v (h : Below w.heap.size w v) => cmpQ' (p + r) (q + r) v (P v h) ((dp.add dr).fit (by omega)) ((dq.add dr).fit (by omega)))
          rw [show q - p = -(p - q) by grind, sgn_neg] at E2
          rw [show p + r - (q + r) = p - q by grind] at E7
          have hx := sgn_cases (p - q)
          have hz := sgn_cases (q - r)
          have hu := sgn_cases (p - r)
          have hx1 : ¬ sgn (p - q) < -1 := by omega
          have hx2 : ¬ 1 < sgn (p - q) := by omega
          have hwy : IntKind.i64.wrap (- -sgn (p - q)) = sgn (p - q) := by rw [IntKind.wrap_i64]; omega
          have HT : Hid (0 < sgn (p - q) ∨ (sgn (p - q) ≤ 0 ∧ 0 < sgn (q - r)) ∨ (sgn (p - q) ≤ 0 ∧ sgn (q - r) ≤ 0 ∧ sgn (p - r) ≤ 0)) := by
            refine Lib.hid ?_
            rcases hx with ⟨k1, e1⟩ | ⟨k1, e1⟩ | ⟨k1, e1⟩ <;> rcases hz with ⟨k2, e2⟩ | ⟨k2, e2⟩ | ⟨k2, e2⟩ <;> rcases hu with ⟨k3, e3⟩ | ⟨k3, e3⟩ | ⟨k3, e3⟩ <;> rw [e1, e2, e3] <;> first | omega | (exfalso; grind)
          have HC : Hid ((sgn (p - q) = 0 ∧ (rf p).1 = (rf q).1 ∧ (rf p).2.1 = (rf q).2.1 ∧ (rf p).2.2 = (rf q).2.2) ∨ (¬ sgn (p - q) = 0 ∧ ((rf p).1 == (rf q).1) = false) ∨ (¬ sgn (p - q) = 0 ∧ (rf p).1 = (rf q).1 ∧ ((rf p).2.1.toList == (rf q).2.1.toList) = false) ∨ (¬ sgn (p - q) = 0 ∧ (rf p).1 = (rf q).1 ∧ (rf p).2.1 = (rf q).2.1 ∧ ((rf p).2.2.toList == (rf q).2.2.toList) = false)) := by
            refine Lib.hid ?_
            by_cases hpq : p = q
            · subst hpq
              exact .inl ⟨by rcases hx with ⟨_, e⟩ | ⟨k, _⟩ | ⟨k, _⟩ <;> first | exact e | (exfalso; grind), rfl, rfl, rfl⟩
            · have n0 : ¬ sgn (p - q) = 0 := by rcases hx with ⟨k, _⟩ | ⟨_, e⟩ | ⟨_, e⟩ <;> first | omega | (exfalso; grind)
              rcases ne_parts (fun e => hpq (rf_inj e)) with h | h | h
              · exact .inr (.inl ⟨n0, h⟩)
              · exact .inr (.inr (.inl ⟨n0, h⟩))
              · exact .inr (.inr (.inr ⟨n0, h⟩))
          by_cases hr : 0 < r
          · have F1 := Lib.hid (fun v (h : Below w.heap.size w v) => mulQ p r v (P v h) (dp.fit (by omega)) (dr.fit (by omega)))
            have F2 := Lib.hid (fun v (h : Below w.heap.size w v) => mulQ q r v (P v h) (dq.fit (by omega)) (dr.fit (by omega)))
            have F3 := Lib.hid (fun v (h : Below w.heap.size w v) => cmpQ' (p * r) (q * r) v (P v h) ((dp.mul dr).fit (by omega)) ((dq.mul dr).fit (by omega)))
            rw [show p * r - q * r = (p - q) * r by grind, sgn_mul_pos _ _ hr] at F3
            have e1 : rf r = (false, (rf r).2.1, (rf r).2.2) := Prod.ext (decide_eq_false (by grind)) rfl
            have h48 := rf_num0 r (by grind)
            rw [e1] at VC E3 E4 E5 E6 F1 F2 ⊢
            exact order_good1 (zna := ha.1) (zda := ha.2) (znb := hb.1) (zdb := hb.2) (znc := hc.1) (zdc := hc.2) (x := _) (y := _) (z := _) (u := _) (hx1 := hx1) (hx2 := hx2) (hwy := hwy) (HC := HC) (HT := HT) (hc48 := h48) (w := w) (H := H) (VA := VA) (VB := VB) (VC := VC) (E1 := E1) (E2 := E2) (E3 := E3) (E4 := E4) (E5 := E5) (E6 := E6) (E7 := E7) (F1 := F1) (F2 := F2) (F3 := F3)
          · have HN : Hid ((rf r).1 = true ∨ ((rf r).1 = false ∧ (rf r).2.1 = ⟨#[48]⟩)) := by
              refine Lib.hid ?_
              by_cases h0 : r = 0
              · subst h0
                rw [rf_zero]
                exact .inr ⟨rfl, rfl⟩
              · exact .inl (decide_eq_true (by grind))
            exact order_good0 (zna := ha.1) (zda := ha.2) (znb := hb.1) (zdb := hb.2) (znc := hc.1) (zdc := hc.2) (x := _) (y := _) (z := _) (u := _) (hx1 := hx1) (hx2 := hx2) (hwy := hwy) (HC := HC) (HT := HT) (HN := HN) (w := w) (H := H) (VA := VA) (VB := VB) (VC := VC) (E1 := E1) (E2 := E2) (E3 := E3) (E4 := E4) (E5 := E5) (E6 := E6) (E7 := E7)
        · rw [show vR c = false by simpa using vc] at VC
          exact order_early3 (zna := ha.1) (zda := ha.2) (znb := hb.1) (zdb := hb.2) (znc := hc.1) (zdc := hc.2) (w := w) (H := H) (VA := VA) (VB := VB) (VC := VC)
      · rw [show vR b = false by simpa using vb] at VB
        exact order_early2 (sc := c.1) (zna := ha.1) (zda := ha.2) (znb := hb.1) (zdb := hb.2) (znc := hc.1) (zdc := hc.2) (w := w) (H := H) (VA := VA) (VB := VB)
    · rw [show vR a = false by simpa using va] at VA
      exact order_early1 (sb := b.1) (sc := c.1) (zna := ha.1) (zda := ha.2) (znb := hb.1) (zdb := hb.2) (znc := hc.1) (zdc := hc.2) (w := w) (H := H) (VA := VA)
  · exact order_early0 (sa := a.1) (sb := b.1) (sc := c.1) (zna := ha.1) (zda := ha.2) (znb := hb.1) (zdb := hb.2) (znc := hc.1) (zdc := hc.2) (hns := hs) (w := w) (H := H)
end Go.Proofs.YtmnnaaifebajnaaGreatDoor
