/- Package ratio: its functions at rational numbers that are small enough; the law's of; the chapter's examples in numbers. -/
import Derived.Test.YtkbncdcphohmiaaGreatDoorRaQ
import Derived.Test.YtkbncdcphohmiaaGreatDoorRaOf
set_option linter.unusedSimpArgs false
set_option linter.unusedVariables false
namespace Go.Proofs.YtkbncdcphohmiaaGreatDoor
open Go.RowKit
open Ra (Fit)
set_option maxRecDepth 100000

theorem fit140 {q : Rat} (h : Fit L140 q) : Fit LIM q := h.mono (lim_pow (by omega))
theorem opQ_rf (f : Rat → Rat → Rat) (z : Bool) (p q : Rat) (hp : Fit L140 p) (hq : Fit L140 q) (h0 : (z && decide (q = 0)) = false) : opQ f z (rf p) (rf q) = (rf (f p q), 0) := by
  unfold opQ
  rw [(vR_rf p).2 (fit140 hp), (vR_rf q).2 (fit140 hq), qv_rf, qv_rf, h0, (lg_rf p).2 hp, (lg_rf q).2 hq]
  rfl
theorem addQ (p q : Rat) (w : World) (hP : Pw w.heap.size w) (hp : Fit L140 p) (hq : Fit L140 q) :
    Calls Tryz.prog 28 #[rV (rf p), rV (rf q)] w fun e w' => e = .returned (.tuple #[rV (rf (p + q)), .int .i64 0]) ∧ Below w.heap.size w w' := by
  have := opAdd (rf p) (rf q) w hP (rf_len (fit140 hp)) (rf_len (fit140 hq))
  rw [opQ_rf _ _ _ _ hp hq rfl] at this
  exact this
theorem subQ (p q : Rat) (w : World) (hP : Pw w.heap.size w) (hp : Fit L140 p) (hq : Fit L140 q) :
    Calls Tryz.prog 30 #[rV (rf p), rV (rf q)] w fun e w' => e = .returned (.tuple #[rV (rf (p - q)), .int .i64 0]) ∧ Below w.heap.size w w' := by
  have := opSub (rf p) (rf q) w hP (rf_len (fit140 hp)) (rf_len (fit140 hq))
  rw [opQ_rf _ _ _ _ hp hq rfl] at this
  exact this
theorem mulQ (p q : Rat) (w : World) (hP : Pw w.heap.size w) (hp : Fit L140 p) (hq : Fit L140 q) :
    Calls Tryz.prog 27 #[rV (rf p), rV (rf q)] w fun e w' => e = .returned (.tuple #[rV (rf (p * q)), .int .i64 0]) ∧ Below w.heap.size w w' := by
  have := opMul (rf p) (rf q) w hP (rf_len (fit140 hp)) (rf_len (fit140 hq))
  rw [opQ_rf _ _ _ _ hp hq rfl] at this
  exact this
theorem divQ (p q : Rat) (w : World) (hP : Pw w.heap.size w) (hp : Fit L140 p) (hq : Fit L140 q) (h0 : q ≠ 0) :
    Calls Tryz.prog 40 #[rV (rf p), rV (rf q)] w fun e w' => e = .returned (.tuple #[rV (rf (p / q)), .int .i64 0]) ∧ Below w.heap.size w w' := by
  have := opDiv (rf p) (rf q) w hP (rf_len (fit140 hp)) (rf_len (fit140 hq))
  rw [opQ_rf _ _ _ _ hp hq (by simpa using h0)] at this
  exact this
theorem divZ (p : Rat) (w : World) (hP : Pw w.heap.size w) (hp : Fit L140 p) :
    Calls Tryz.prog 40 #[rV (rf p), rV (rf 0)] w fun e w' => e = .returned (.tuple #[rV zeroR, .int .i64 15]) ∧ Below w.heap.size w w' := by
  have h1 : Fit L140 0 := by
    have := hp.2
    have := p.den_nz
    exact ⟨show 0 < L140 by omega, show 1 < L140 by omega⟩
  have := opDiv (rf p) (rf 0) w hP (rf_len (fit140 hp)) (rf_len (fit140 h1))
  unfold opQ at this
  rw [(vR_rf p).2 (fit140 hp), (vR_rf 0).2 (fit140 h1), qv_rf, qv_rf] at this
  exact this
theorem cmpQ' (p q : Rat) (w : World) (hP : Pw w.heap.size w) (hp : Fit L140 p) (hq : Fit L140 q) :
    Calls Tryz.prog 31 #[rV (rf p), rV (rf q)] w fun e w' => e = .returned (.tuple #[.int .i64 (sgn (p - q)), .int .i64 0]) ∧ Below w.heap.size w w' := by
  have := opCompare (rf p) (rf q) w hP (rf_len (fit140 hp)) (rf_len (fit140 hq))
  unfold cmpQ at this
  rw [(vR_rf p).2 (fit140 hp), (vR_rf q).2 (fit140 hq), qv_rf, qv_rf, (lg_rf p).2 hp, (lg_rf q).2 hq] at this
  exact this
theorem floorQ (q : Rat) (w : World) (hP : Pw w.heap.size w) (hq : Fit LIM q) (h : -9223372036854775808 ≤ q.floor ∧ q.floor ≤ 9223372036854775807) :
    Calls Tryz.prog 48 #[rV (rf q)] w fun e w' => e = .returned (.tuple #[.int .i64 q.floor, .int .i64 0]) ∧ Below w.heap.size w w' := by
  have := opFloor (rf q) w hP (rf_len hq)
  unfold floorF at this
  rw [(vR_rf q).2 hq, qv_rf, if_neg (by simp), if_pos h] at this
  exact this


theorem rf_lit (s : Bool) (n d : Nat) (hd : d ≠ 0) (hg : Nat.gcd n d = 1) (hs : (s && decide (n = 0)) = false) : rf (Ra.mk s n d) = (s, tx n, tx d) := by
  obtain ⟨k1, k2⟩ := Ra.mk_low s n d hd hg
  unfold rf
  rw [k1, k2]
  congr 1
  have := Ra.mk_neg s n d hd
  cases s
  · exact decide_eq_false (fun h => by have := (this.1 h).1; cases this)
  · exact decide_eq_true (this.2 ⟨rfl, by simpa using hs⟩)

theorem ex_of1 : ofF5 6 (-4) = ((true, ⟨#[51]⟩, ⟨#[50]⟩), 0) := by
  have h : ((6 : Int) : Rat) / ((-4 : Int) : Rat) = Ra.mk true 3 2 := by decide +kernel
  unfold ofF5
  rw [if_neg (by omega), h, rf_lit _ _ _ (by omega) (by decide) rfl, tx_of [51] 3 (by decide) (by decide), tx_of [50] 2 (by decide) (by decide)]
theorem ex_of (m n : Int) (q : Rat) (hn : n ≠ 0) (h : (m : Rat) / (n : Rat) = q) : (ofF5 m n).1 = rf q := by
  unfold ofF5
  rw [if_neg hn, h]
theorem ex_32 : rf (-3/2) = (true, ⟨#[51]⟩, ⟨#[50]⟩) := by
  have h : (-3/2 : Rat) = Ra.mk true 3 2 := by decide +kernel
  rw [h, rf_lit _ _ _ (by omega) (by decide) rfl, tx_of [51] 3 (by decide) (by decide), tx_of [50] 2 (by decide) (by decide)]
theorem fit_small (q : Rat) (h1 : q.num.natAbs < 10) (h2 : q.den < 10) : Fit L140 q := by
  have : 10 ^ 1 ≤ L140 := Nat.pow_le_pow_right (by omega) (by omega)
  exact ⟨by omega, by omega⟩
theorem ex_parse1 : parseF ⟨#[54, 47, 52]⟩ = (zeroR, 5) := by
  have h : spl ⟨#[54, 47, 52]⟩ = (false, ⟨#[54]⟩, ⟨#[52]⟩) := by
    unfold spl
    rw [show (⟨#[54, 47, 52]⟩ : ByteArray) = ⟨([54, 47, 52] : List UInt8).toArray⟩ from rfl, cutM_list]
    decide +kernel
  unfold parseF
  rw [h, show vR (false, ⟨#[54]⟩, ⟨#[52]⟩) = false by decide +kernel]
  rfl
theorem ex_parse2 : parseF ⟨#[45, 48]⟩ = (zeroR, 5) := by
  have h : spl ⟨#[45, 48]⟩ = (true, ⟨#[48]⟩, ⟨#[49]⟩) := by
    unfold spl
    rw [show (⟨#[45, 48]⟩ : ByteArray) = ⟨([45, 48] : List UInt8).toArray⟩ from rfl, cutM_list]
    decide +kernel
  unfold parseF
  rw [h, show vR (true, ⟨#[48]⟩, ⟨#[49]⟩) = false by decide +kernel]
  rfl
theorem ex_parse3 : parseF ⟨#[52, 47, 49]⟩ = (zeroR, 5) := by
  have h : spl ⟨#[52, 47, 49]⟩ = (false, ⟨#[52]⟩, ⟨#[49]⟩) := by
    unfold spl
    rw [show (⟨#[52, 47, 49]⟩ : ByteArray) = ⟨([52, 47, 49] : List UInt8).toArray⟩ from rfl, cutM_list]
    decide +kernel
  unfold parseF
  rw [h, show tR (false, ⟨#[52]⟩, ⟨#[49]⟩) = ⟨#[52]⟩ by decide +kernel, decide_eq_false (by decide +kernel), Bool.and_false]
  rfl
end Go.Proofs.YtkbncdcphohmiaaGreatDoor
