/- RatioTexts: texts and numbers. -/
import Derived.Test.YtmnnaaifebajnaaGreatDoorRaTxA
set_option linter.unusedSimpArgs false
set_option linter.unusedVariables false
namespace Go.Proofs.YtmnnaaifebajnaaGreatDoor
open Go.RowKit
open Ra (Fit)
set_option maxRecDepth 100000

theorem tR_len (r : R3) (h1 : r.2.1.size ≤ 300) (h2 : r.2.2.size ≤ 300) : (tR r).size ≤ 1000 := by
  unfold tR
  rw [ByteArray.size_append, ByteArray.size_append]
  have a1 : (if r.1 then (⟨#[45]⟩ : ByteArray) else ⟨#[]⟩).size ≤ 1 := by split <;> decide
  have a2 : (if r.2.2 = ⟨#[49]⟩ then (⟨#[]⟩ : ByteArray) else (⟨#[47]⟩ : ByteArray) ++ r.2.2).size ≤ 301 := by
    split
    · decide
    · rw [ByteArray.size_append]
      have : (⟨#[47]⟩ : ByteArray).size = 1 := by decide
      omega
  omega

theorem tx300 {m : Nat} (h : m < LIM) : (tx m).size ≤ 300 := by
  have hb := isB_txl h
  unfold isB at hb
  rw [Bool.and_eq_true, decide_eq_true_eq] at hb
  exact hb.2
theorem texts_walk (a b : R3) (text : ByteArray) (w : World) (hP : Px w.heap.size w) (ha : a.2.1.size ≤ maxLen ∧ a.2.2.size ≤ maxLen) (hb : b.2.1.size ≤ maxLen ∧ b.2.2.size ≤ maxLen) (ht : text.size ≤ maxLen) :
    Calls Tryz.prog 7 #[rV a, rV b, .string text] w fun e w' => e = .returned (.bool true) ∧ Below w.heap.size w w' := by
  have H := Lib.hid (fun v (h : Below w.heap.size w v) => head_any v (hP.bt h))
  have P := fun v (h : Below w.heap.size w v) => (hP.bt h).1
  by_cases hs : ∀ x ∈ [a.2.1, a.2.2, b.2.1, b.2.2], x.size ≤ 300
  · by_cases hl : text.size ≤ 620
    · have hl2 : ¬ (620 : Int) < text.size := by omega
      have VA := Lib.hid (fun v (h : Below w.heap.size w v) => valid_any a v (P v h) ha.1 ha.2)
      have hs' := hs
      simp only [List.mem_cons, List.not_mem_nil, or_false, forall_eq_or_imp, forall_eq] at hs'
      obtain ⟨h1, h2, h3, h4⟩ := hs'
      have TA := Lib.hid (fun v (h : Below w.heap.size w v) => textR_any a v (P v h) (by omega) (by omega))
      have TB := Lib.hid (fun v (h : Below w.heap.size w v) => textR_any b v (P v h) (by omega) (by omega))
      have PT := Lib.hid (fun v (h : Below w.heap.size w v) => parseR_any text v (hP.bt h) (by omega))
      rcases parse_ok text with ⟨k1, k2, k3⟩ | k
      · generalize parseF text = r at *
        obtain ⟨x, e⟩ := r
        simp only at k1 k2 k3 PT
        subst k3
        obtain ⟨q, hq, rfl⟩ := vR_ex k1
        have lq := rf_len hq
        have VX := Lib.hid (fun v (h : Below w.heap.size w v) => valid_any (rf q) v (P v h) lq.1 lq.2)
        have l300 : (rf q).2.1.size ≤ 300 ∧ (rf q).2.2.size ≤ 300 := ⟨tx300 hq.1, tx300 hq.2⟩
        have TX := Lib.hid (fun v (h : Below w.heap.size w v) => textR_any (rf q) v (P v h) (by omega) (by omega))
        unfold textF at TX
        rw [k1, if_pos rfl, k2] at TX
        rw [k1] at VX
        cases va : vR a
        · unfold textF at TA
          rw [va, if_neg (by simp)] at TA
          rw [va] at VA
          exact texts_no_ok (sb := b.1) (zt := ht) (zna := ha.1) (zda := ha.2) (znb := hb.1) (zdb := hb.2) (ht := hl2) (w := w) (H := H) (TA := TA) (VA := VA) (PT := PT) (TX := TX) (VX := VX)
        · obtain ⟨p, hp, rfl⟩ := vR_ex va
          have PA := Lib.hid (fun v (h : Below w.heap.size w v) => parseR_any (tR (rf p)) v (hP.bt h) (tR_len _ h1 h2))
          rw [parse_tR p hp] at PA
          unfold textF at TA
          rw [va, if_pos rfl] at TA
          rw [va] at VA
          cases vb : vR b
          · unfold textF at TB
            rw [vb, if_neg (by simp)] at TB
            exact texts_bad_ok (zt := ht) (zna := ha.1) (zda := ha.2) (znb := hb.1) (zdb := hb.2) (ht := hl2) (w := w) (H := H) (TA := TA) (VA := VA) (PA := PA) (TB := TB) (PT := PT) (TX := TX) (VX := VX)
          · unfold textF at TB
            rw [vb, if_pos rfl] at TB
            obtain ⟨r, hr, rfl⟩ := vR_ex vb
            by_cases he : tR (rf p) = tR (rf r)
            · have e2 : rf p = rf r := by
                have := spl_tR p
                rw [he, spl_tR r] at this
                exact this.symm
              rw [← e2]
              exact texts_eq_ok (zt := ht) (zna := ha.1) (zda := ha.2) (ht := hl2) (w := w) (H := H) (TA := TA) (VA := VA) (PA := PA) (PT := PT) (TX := TX) (VX := VX)
            · exact texts_ne_ok (zt := ht) (zna := ha.1) (zda := ha.2) (znb := hb.1) (zdb := hb.2) (ht := hl2) (hne := bytes_ne he) (w := w) (H := H) (TA := TA) (VA := VA) (PA := PA) (TB := TB) (PT := PT) (TX := TX) (VX := VX)
      · rw [k] at PT
        cases va : vR a
        · unfold textF at TA
          rw [va, if_neg (by simp)] at TA
          rw [va] at VA
          exact texts_no_err (sb := b.1) (zt := ht) (zna := ha.1) (zda := ha.2) (znb := hb.1) (zdb := hb.2) (ht := hl2) (w := w) (H := H) (TA := TA) (VA := VA) (PT := PT)
        · obtain ⟨p, hp, rfl⟩ := vR_ex va
          have PA := Lib.hid (fun v (h : Below w.heap.size w v) => parseR_any (tR (rf p)) v (hP.bt h) (tR_len _ h1 h2))
          rw [parse_tR p hp] at PA
          unfold textF at TA
          rw [va, if_pos rfl] at TA
          rw [va] at VA
          cases vb : vR b
          · unfold textF at TB
            rw [vb, if_neg (by simp)] at TB
            exact texts_bad_err (zt := ht) (zna := ha.1) (zda := ha.2) (znb := hb.1) (zdb := hb.2) (ht := hl2) (w := w) (H := H) (TA := TA) (VA := VA) (PA := PA) (TB := TB) (PT := PT)
          · unfold textF at TB
            rw [vb, if_pos rfl] at TB
            obtain ⟨r, hr, rfl⟩ := vR_ex vb
            by_cases he : tR (rf p) = tR (rf r)
            · have e2 : rf p = rf r := by
                have := spl_tR p
                rw [he, spl_tR r] at this
                exact this.symm
              rw [← e2]
              exact texts_eq_err (zt := ht) (zna := ha.1) (zda := ha.2) (ht := hl2) (w := w) (H := H) (TA := TA) (VA := VA) (PA := PA) (PT := PT)
            · exact texts_ne_err (zt := ht) (zna := ha.1) (zda := ha.2) (znb := hb.1) (zdb := hb.2) (ht := hl2) (hne := bytes_ne he) (w := w) (H := H) (TA := TA) (VA := VA) (PA := PA) (TB := TB) (PT := PT)
    · exact texts_early1 (sa := a.1) (sb := b.1) (zt := ht) (zna := ha.1) (zda := ha.2) (znb := hb.1) (zdb := hb.2) (ht := by omega) (w := w) (H := H)
  · exact texts_early0 (sa := a.1) (sb := b.1) (zt := ht) (zna := ha.1) (zda := ha.2) (znb := hb.1) (zdb := hb.2) (hns := hs) (w := w) (H := H)
end Go.Proofs.YtmnnaaifebajnaaGreatDoor
