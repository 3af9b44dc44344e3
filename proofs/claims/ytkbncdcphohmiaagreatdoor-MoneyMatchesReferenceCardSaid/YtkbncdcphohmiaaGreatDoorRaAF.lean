import Derived.Test.YtkbncdcphohmiaaGreatDoorNaIM
import Derived.Test.YtkbncdcphohmiaaGreatDoorRaMath
/- Rational numbers as three parts: a sign and two texts; the valid ones are those of rational numbers whose parts are not too long. -/
set_option linter.unusedSimpArgs false
set_option linter.unusedVariables false
namespace Go.Proofs.YtkbncdcphohmiaaGreatDoor
open Go.RowKit
open Ra (Fit)
set_option maxRecDepth 100000

abbrev R3 := Bool × ByteArray × ByteArray
def rf (q : Rat) : R3 := (decide (q < 0), tx q.num.natAbs, tx q.den)
def zeroR : R3 := (false, nil', nil')
def qv (r : R3) : Rat := Ra.mk r.1 (nv r.2.1) (nv r.2.2)
def vR (r : R3) : Bool := isB r.2.1 && isB r.2.2 && decide (nv r.2.2 ≠ 0) && decide (Nat.gcd (nv r.2.1) (nv r.2.2) = 1) && !(r.1 && decide (nv r.2.1 = 0))
def makeF (r : R3) : R3 × Int := if isB r.2.1 && isB r.2.2 then (if nv r.2.2 = 0 then (zeroR, 15) else (rf (qv r), 0)) else (zeroR, 1)

theorem qv_rf (q : Rat) : qv (rf q) = q := by
  unfold qv rf
  rw [nv_tx, nv_tx]
  exact Ra.mk_self q

theorem rf_inj {p q : Rat} (h : rf p = rf q) : p = q := by
  have := congrArg qv h
  rwa [qv_rf, qv_rf] at this

theorem abs_zero {q : Rat} : q.num.natAbs = 0 ↔ q = 0 := by
  rw [Int.natAbs_eq_zero, Rat.num_eq_zero]

theorem vR_rf (q : Rat) : vR (rf q) = true ↔ Fit LIM q := by
  unfold vR rf Ra.Fit
  simp only [tx_isB, nv_tx, Bool.and_eq_true, decide_eq_true_eq, Bool.not_eq_true', Bool.and_eq_false_iff, decide_eq_false_iff_not]
  constructor
  · intro h
    exact ⟨h.1.1.1.1, h.1.1.1.2⟩
  · intro h
    refine ⟨⟨⟨⟨h.1, h.2⟩, q.den_nz⟩, q.reduced⟩, ?_⟩
    by_cases h0 : q.num.natAbs = 0
    · left
      rw [abs_zero.1 h0]
      decide
    · exact .inr h0

theorem make_rf (r : R3) (h1 : isB r.2.1 = true) (h2 : isB r.2.2 = true) (h3 : nv r.2.2 ≠ 0) (h4 : Nat.gcd (nv r.2.1) (nv r.2.2) = 1) (h5 : (r.1 && decide (nv r.2.1 = 0)) = false) : rf (qv r) = r := by
  obtain ⟨s, n, d⟩ := r
  simp only at h1 h2 h3 h4 h5
  unfold rf qv
  simp only
  obtain ⟨k1, k2⟩ := Ra.mk_low s (nv n) (nv d) h3 h4
  rw [k1, k2, (isB_lt h1).2, (isB_lt h2).2]
  congr 1
  have := Ra.mk_neg s (nv n) (nv d) h3
  cases s
  · simp only [Bool.false_eq_true, false_and, iff_false] at this
    exact decide_eq_false this
  · have hn : nv n ≠ 0 := by simpa using h5
    exact decide_eq_true (this.2 ⟨rfl, hn⟩)

theorem vR_parts {r : R3} (h : vR r = true) : isB r.2.1 = true ∧ isB r.2.2 = true ∧ nv r.2.2 ≠ 0 ∧ Nat.gcd (nv r.2.1) (nv r.2.2) = 1 ∧ (r.1 && decide (nv r.2.1 = 0)) = false := by
  unfold vR at h
  simp only [Bool.and_eq_true, decide_eq_true_eq, Bool.not_eq_true'] at h
  exact ⟨h.1.1.1.1, h.1.1.1.2, h.1.1.2, h.1.2, h.2⟩

theorem vR_q {r : R3} (h : vR r = true) : Fit LIM (qv r) ∧ r = rf (qv r) := by
  obtain ⟨h1, h2, h3, h4, h5⟩ := vR_parts h
  have h6 := make_rf r h1 h2 h3 h4 h5
  refine ⟨?_, h6.symm⟩
  rw [← vR_rf, h6]
  exact h

theorem vR_ex {r : R3} (h : vR r = true) : ∃ q, Fit LIM q ∧ r = rf q := ⟨_, vR_q h⟩

theorem makeF_valid (r : R3) : vR r = decide ((makeF r).2 = 0 ∧ r = (makeF r).1) := by
  unfold makeF
  by_cases h12 : (isB r.2.1 && isB r.2.2) = true
  · rw [if_pos h12]
    by_cases h3 : nv r.2.2 = 0
    · rw [if_pos h3]
      unfold vR
      simp [h3]
    · rw [if_neg h3]
      simp only [true_and]
      by_cases h : r = rf (qv r)
      · rw [decide_eq_true h, h, vR_rf]
        rw [Bool.and_eq_true] at h12
        obtain ⟨k1, k2⟩ := Ra.mk_le r.1 (nv r.2.1) (nv r.2.2) h3
        exact ⟨Nat.lt_of_le_of_lt k1 (isB_lt h12.1).1, Nat.lt_of_le_of_lt k2 (isB_lt h12.2).1⟩
      · rw [decide_eq_false h]
        cases hv : vR r
        · rfl
        · exact absurd (vR_q hv).2 h
  · rw [if_neg h12]
    have : (isB r.2.1 && isB r.2.2) = false := by simpa using h12
    unfold vR
    rw [this]
    simp

theorem makeF_fit (r : R3) (h : (makeF r).2 = 0) : (makeF r).1 = rf (qv r) ∧ Fit LIM (qv r) ∧ nv r.2.2 ≠ 0 := by
  unfold makeF at h ⊢
  by_cases h12 : (isB r.2.1 && isB r.2.2) = true
  · rw [if_pos h12] at h ⊢
    by_cases h3 : nv r.2.2 = 0
    · rw [if_pos h3] at h
      cases h
    · rw [if_neg h3]
      rw [Bool.and_eq_true] at h12
      obtain ⟨k1, k2⟩ := Ra.mk_le r.1 (nv r.2.1) (nv r.2.2) h3
      exact ⟨rfl, ⟨Nat.lt_of_le_of_lt k1 (isB_lt h12.1).1, Nat.lt_of_le_of_lt k2 (isB_lt h12.2).1⟩, h3⟩
  · rw [if_neg h12] at h
    cases h

/- sizes -/
theorem tx_le (m k : Nat) (hk : 1 ≤ k) : (tx m).size ≤ k ↔ m < 10 ^ k := by
  rw [tx_size]
  exact Na.dec_len hk

theorem fit_size {q : Rat} {k : Nat} (hk : 1 ≤ k) : ((rf q).2.1.size ≤ k ∧ (rf q).2.2.size ≤ k) ↔ Fit (10 ^ k) q := by
  unfold rf Ra.Fit
  rw [tx_le _ _ hk, tx_le _ _ hk]

theorem rf_len {q : Rat} (h : Fit LIM q) : (rf q).2.1.size ≤ maxLen ∧ (rf q).2.2.size ≤ maxLen := ⟨tx_len h.1, tx_len h.2⟩

theorem lim_pow {k : Nat} (h : k ≤ 300) : 10 ^ k ≤ LIM := Nat.pow_le_pow_right (by omega) (by unfold DIGS; omega)
theorem fit_lim {q : Rat} {k : Nat} (hk : k ≤ 300) (h : Fit (10 ^ k) q) : Fit LIM q := h.mono (lim_pow hk)
end Go.Proofs.YtkbncdcphohmiaaGreatDoor

/- Package ratio: the small functions; Make and Valid. -/
set_option linter.unusedSimpArgs false
set_option linter.unusedVariables false
namespace Go.Proofs.YtkbncdcphohmiaaGreatDoor
open Go.RowKit
open Ra (Fit)
set_option maxRecDepth 100000

/- The variable zero of package ratio. -/
def Zr (B : Nat) (w : World) : Prop := w.cell? ⟨1, 0, none⟩ = some (.bool false) ∧ w.cell? ⟨1, 1, none⟩ = some (.string ⟨#[48]⟩) ∧ w.cell? ⟨1, 2, none⟩ = some (.string ⟨#[49]⟩) ∧ 1 < B
def Pw (B : Nat) (w : World) : Prop := Pow B w ∧ Zr B w

theorem Zr.bt {w w' : World} (h : Zr w.heap.size w) (hb : Below w.heap.size w w') : Zr w'.heap.size w' := by
  obtain ⟨h1, h2, h3, h4⟩ := h
  exact ⟨(hb.cell (p := ⟨1, 0, none⟩) h4).trans h1, (hb.cell (p := ⟨1, 1, none⟩) h4).trans h2, (hb.cell (p := ⟨1, 2, none⟩) h4).trans h3, Nat.lt_of_lt_of_le h4 hb.size⟩
theorem al (w : World) (o : Obj) : Below w.heap.size w (w.alloc o) := (Below.refl _ _).alloc (Nat.le_refl _) o
theorem Pw.bt {w w' : World} (h : Pw w.heap.size w) (hb : Below w.heap.size w w') : Pw w'.heap.size w' := ⟨h.1.bt hb, h.2.bt hb⟩

theorem isLong_any (s : Bool) (n d : ByteArray) (b : Bool) (w : World) (h : (decide (140 < n.size) || decide (140 < d.size)) = b) (hn : n.size ≤ maxLen) (hd : d.size ≤ maxLen) :
    Calls Tryz.prog 95 #[.agg #[.bool s, .string n, .string d]] w fun e w' => e = .returned (.bool b) ∧ Below w.heap.size w w' := by
  unfold maxLen at hn hd
  cases b
  · simp only [Bool.or_eq_false_iff, decide_eq_false_iff_not] at h
    have k1 : ¬ (140 : Int) < n.size := by omega
    have k2 : ¬ (140 : Int) < d.size := by omega
    go_enter Tryz.func95, Tryz.ntmps95
    go_wp2_with fail
    go_ret
    exact ⟨rfl, al _ _⟩
  · by_cases k1 : 140 < n.size
    · have k1' : (140 : Int) < n.size := by omega
      clear h
      go_enter Tryz.func95, Tryz.ntmps95
      go_wp2_with fail
      go_ret
      exact ⟨rfl, al _ _⟩
    · have k1' : ¬ (140 : Int) < n.size := by omega
      have k2' : (140 : Int) < d.size := by simp [k1] at h; omega
      clear h
      go_enter Tryz.func95, Tryz.ntmps95
      go_wp2_with fail
      go_ret
      exact ⟨rfl, al _ _⟩

theorem al2 (w : World) (o o' : Obj) : Below w.heap.size w ((w.alloc o).alloc o') := Nb (al w o) (al _ o')

theorem same_any (s : Bool) (n d : ByteArray) (w : World) :
    Calls Tryz.prog 59 #[.agg #[.bool s, .string n, .string d]] w fun e w' => e = .returned (.agg #[.bool s, .string n, .string d]) ∧ Below w.heap.size w w' := by
  go_enter Tryz.func59, Tryz.ntmps59
  go_wp2_with fail
  refine bodyPost_ret (v := .agg #[.bool s, .string n, .string d]) (by simp [results, Tryz.results59, go_sem]) rfl ⟨rfl, al2 _ _ _⟩

theorem reciprocal_any (s : Bool) (n d : ByteArray) (w : World) :
    Calls Tryz.prog 71 #[.agg #[.bool s, .string n, .string d]] w fun e w' => e = .returned (.agg #[.bool s, .string d, .string n]) ∧ Below w.heap.size w w' := by
  go_enter Tryz.func71, Tryz.ntmps71
  go_wp2_with fail
  refine bodyPost_ret (v := .agg #[.bool s, .string d, .string n]) (by simp [results, Tryz.results71, go_sem]) rfl ⟨rfl, al2 _ _ _⟩

theorem opp_neg (n d : ByteArray) (w : World) (hz : Zr w.heap.size w) :
    Calls Tryz.prog 64 #[.agg #[.bool true, .string n, .string d]] w fun e w' => e = .returned (.agg #[.bool false, .string n, .string d]) ∧ Below w.heap.size w w' := by
  obtain ⟨z1, z2, z3, z4⟩ := hz
  have z5 : 0 < w.heap.size := by omega
  go_enter Tryz.func64, Tryz.ntmps64
  go_wp2_with fail
  refine bodyPost_ret (v := .agg #[.bool false, .string n, .string d]) (by simp [results, Tryz.results64, go_sem]) rfl ⟨rfl, al2 _ _ _⟩

theorem opp_zero (w : World) (hz : Zr w.heap.size w) :
    Calls Tryz.prog 64 #[.agg #[.bool false, .string ⟨#[48]⟩, .string ⟨#[49]⟩]] w fun e w' => e = .returned (.agg #[.bool false, .string ⟨#[48]⟩, .string ⟨#[49]⟩]) ∧ Below w.heap.size w w' := by
  obtain ⟨z1, z2, z3, z4⟩ := hz
  have z5 : 0 < w.heap.size := by omega
  go_enter Tryz.func64, Tryz.ntmps64
  go_wp2_with fail
  refine bodyPost_ret (v := .agg #[.bool false, .string ⟨#[48]⟩, .string ⟨#[49]⟩]) (by simp [results, Tryz.results64, go_sem]) rfl ⟨rfl, al2 _ _ _⟩

theorem opp_pos (n d : ByteArray) (w : World) (hz : Zr w.heap.size w) (hn : n.toList ≠ [48]) :
    Calls Tryz.prog 64 #[.agg #[.bool false, .string n, .string d]] w fun e w' => e = .returned (.agg #[.bool true, .string n, .string d]) ∧ Below w.heap.size w w' := by
  obtain ⟨z1, z2, z3, z4⟩ := hz
  have z5 : 0 < w.heap.size := by omega
  go_enter Tryz.func64, Tryz.ntmps64
  go_wp2_with fail
  refine bodyPost_ret (v := .agg #[.bool true, .string n, .string d]) (by simp [results, Tryz.results64, go_sem]) rfl ⟨rfl, al2 _ _ _⟩

theorem tx_one : tx 1 = ⟨#[49]⟩ := tx_of [49] 1 (by decide) (by decide)
theorem rf_zero : rf 0 = (false, ⟨#[48]⟩, ⟨#[49]⟩) := by
  show (decide ((0 : Rat) < 0), tx 0, tx 1) = _
  rw [tx_zero, tx_one]
  rfl
theorem tx_ne48 {m : Nat} (h : m ≠ 0) : (tx m).toList ≠ [48] := by
  have h1 : tx m ≠ ⟨#[48]⟩ := fun e => h (tx_inj (e.trans tx_zero.symm))
  simpa using ne48 h1

def rV (r : R3) : Value := .agg #[.bool r.1, .string r.2.1, .string r.2.2]

theorem opposite_rf (q : Rat) (w : World) (hz : Zr w.heap.size w) :
    Calls Tryz.prog 64 #[rV (rf q)] w fun e w' => e = .returned (rV (rf (-q))) ∧ Below w.heap.size w w' := by
  by_cases h0 : q = 0
  · subst h0
    rw [Rat.neg_zero, rf_zero]
    exact opp_zero w hz
  · have hn : q.num.natAbs ≠ 0 := fun e => h0 (abs_zero.1 e)
    unfold rV rf
    simp only [Rat.neg_num, Rat.neg_den, Int.natAbs_neg]
    by_cases h1 : q < 0
    · have h2 : ¬ -q < 0 := by grind
      rw [decide_eq_true h1, decide_eq_false h2]
      exact opp_neg _ _ w hz
    · have h2 : -q < 0 := by grind
      rw [decide_eq_false h1, decide_eq_true h2]
      exact opp_pos _ _ w hz (tx_ne48 hn)

/- A number that the call made, at a block. -/
def At (w : World) (b : Nat) (r : R3) : Prop := w.heap[b]? = some (.cells #[.bool r.1, .string r.2.1, .string r.2.2] 32 (0, 0))
theorem At.bt {w w' : World} {b : Nat} {r : R3} (h : At w b r) (hb : Below w.heap.size w w') : At w' b r := (hb.block b (Array.getElem?_eq_some_iff.1 h).1).trans h
theorem At.cells {w : World} {b : Nat} {s : Bool} {n d : ByteArray} (h : At w b (s, n, d)) : w.cell? ⟨b, 0, none⟩ = some (.bool s) ∧ w.cell? ⟨b, 1, none⟩ = some (.string n) ∧ w.cell? ⟨b, 2, none⟩ = some (.string d) ∧ w.frozen? ⟨b, 0, none⟩ = false ∧ w.frozen? ⟨b, 1, none⟩ = false ∧ w.frozen? ⟨b, 2, none⟩ = false := by
  unfold At at h
  exact ⟨by rw [Lib.cell_of_heap h]; rfl, by rw [Lib.cell_of_heap h]; rfl, by rw [Lib.cell_of_heap h]; rfl, Lib.frozen_of_heap h 0, Lib.frozen_of_heap h 1, Lib.frozen_of_heap h 2⟩
theorem At.new (w : World) (s : Bool) (n d : ByteArray) : At (w.alloc (.cells #[.bool s, .string n, .string d] 32)) w.heap.size (s, n, d) := heap_alloc_new _ _

theorem At.set {w : World} {b : Nat} {r : R3} (h : At w b r) (s : Bool) (n d : ByteArray) : At (((w.setCell ⟨b, 0, none⟩ (.bool s)).setCell ⟨b, 1, none⟩ (.string n)).setCell ⟨b, 2, none⟩ (.string d)) b (s, n, d) := by
  unfold At at h ⊢
  exact heap_setCell_same _ b 2 _ _ _ (heap_setCell_same _ b 1 _ _ _ (heap_setCell_same w b 0 _ _ _ h))
theorem out2 {fn : Func} {p u : Tmp} (h : fn.results = #[.cell p 32, .tmp u]) (tmps : Array Value) (w : World) (b : Nat) (r : R3) (e : Value) (hp : tmps.getD p undef = .pointer (some ⟨b, 0, none⟩)) (he : tmps.getD u undef = e) (hA : At w b r) :
    (results fn tmps).run Tryz.prog w = .ok (.tuple #[rV r, e]) w := by
  rw [results_cell_tmp h, hp]
  have : (asAddr (.pointer (some ⟨b, 0, none⟩))).run Tryz.prog w = .ok ⟨b, 0, none⟩ w := rfl
  rw [this]
  simp only [Result.andThen]
  rw [run_loadVar_row w b _ _ _ _ _ hA Tryz.underlying32 rfl (by kernel_rfl)]
  simp only [Result.andThen, he]
  rfl
theorem out1 {fn : Func} {p : Tmp} (h : fn.results = #[.cell p 32]) (tmps : Array Value) (w : World) (b : Nat) (r : R3) (hp : tmps.getD p undef = .pointer (some ⟨b, 0, none⟩)) (hA : At w b r) :
    (results fn tmps).run Tryz.prog w = .ok (rV r) w :=
  results_cell_row h tmps w b _ _ _ _ hp hA Tryz.underlying32 rfl (by kernel_rfl)
theorem Bset {w v : World} (h : Below w.heap.size w v) (x y z : Value) : Below w.heap.size w (((v.setCell ⟨w.heap.size, 0, none⟩ x).setCell ⟨w.heap.size, 1, none⟩ y).setCell ⟨w.heap.size, 2, none⟩ z) :=
  ((h.setCell (Nat.le_refl _) _).setCell (Nat.le_refl _) _).setCell (Nat.le_refl _) _

theorem make_bad (s : Bool) (n d : ByteArray) (w : World) (hp : Pw w.heap.size w) (hn : n.size ≤ maxLen) (hd : d.size ≤ maxLen) (h : (isB n && isB d) = false) :
    Calls Tryz.prog 63 #[.bool s, .string n, .string d] w fun e w' => e = .returned (.tuple #[rV zeroR, .int .i64 1]) ∧ Below w.heap.size w w' := by
  have G1 : Hid (∀ v, Below w.heap.size w v → Calls Tryz.prog 98 #[.string n, .string d] v fun e w' => e = .returned (.tuple #[.string nil', .int .i64 1]) ∧ Below v.heap.size v w') := by
    refine Lib.hid fun v hb => ?_
    have G1 := gcdF n d v hn hd (hp.bt hb).1
    unfold opF at G1
    rw [h] at G1
    simp only [Bool.false_eq_true, if_false] at G1
    exact G1
  clear hp
  have HA := Lib.hid (At.new w false nil' nil')
  have hb0 := al w (.cells #[.bool false, .string nil', .string nil'] 32)
  unfold nil' at HA hb0
  go_enter Tryz.func63, Tryz.ntmps63
  go_wp2_with fail
  refine (G1.out _ hb0).mono ?_
  rintro e w1 ⟨rfl, hb1⟩
  obtain ⟨c0, c1, c2, f0, f1, f2⟩ := (HA.out.bt hb1).cells
  go_wp2_with fail
  exact bodyPost_ret (out2 Tryz.results63 _ _ _ _ _ rfl rfl ((HA.out.bt hb1).set _ _ _)) rfl ⟨rfl, Bset (Nb hb0 hb1) _ _ _⟩

theorem make_zero (s : Bool) (a : Nat) (w : World) (hp : Pw w.heap.size w) (ha : a < LIM) :
    Calls Tryz.prog 63 #[.bool s, .string (tx a), .string (tx 0)] w fun e w' => e = .returned (.tuple #[rV zeroR, .int .i64 15]) ∧ Below w.heap.size w w' := by
  have l0 : (0 : Nat) < LIM := Nat.lt_of_le_of_lt (Nat.zero_le a) ha
  have G1 : Hid (∀ v, Below w.heap.size w v → Calls Tryz.prog 98 #[.string (tx a), .string (tx 0)] v fun e w' => e = .returned (.tuple #[.string (tx a), .int .i64 0]) ∧ Below v.heap.size v w') := by
    refine Lib.hid fun v hb => ?_
    have G1 := gcdF (tx a) (tx 0) v (tx_len ha) (tx_len l0) (hp.bt hb).1
    rw [opF_ok _ _ _ (isB_txl ha) (isB_txl l0) (by rw [nv_tx, nv_tx, Nat.gcd_zero_right]; exact ha), nv_tx, nv_tx, Nat.gcd_zero_right] at G1
    exact G1
  rw [tx_zero] at G1 ⊢
  clear hp
  have HA := Lib.hid (At.new w false nil' nil')
  have hb0 := al w (.cells #[.bool false, .string nil', .string nil'] 32)
  unfold nil' at HA hb0
  generalize tx a = x at *
  go_enter Tryz.func63, Tryz.ntmps63
  go_wp2_with fail
  refine (G1.out _ hb0).mono ?_
  rintro e w1 ⟨rfl, hb1⟩
  obtain ⟨c0, c1, c2, f0, f1, f2⟩ := (HA.out.bt hb1).cells
  go_wp2_with fail
  exact bodyPost_ret (out2 Tryz.results63 _ _ _ _ _ rfl rfl ((HA.out.bt hb1).set _ _ _)) rfl ⟨rfl, Bset (Nb hb0 hb1) _ _ _⟩

theorem make_ok (s : Bool) (a b : Nat) (w : World) (hp : Pw w.heap.size w) (ha : a < LIM) (hb : b < LIM) (hb0 : b ≠ 0) :
    Calls Tryz.prog 63 #[.bool s, .string (tx a), .string (tx b)] w fun e w' => e = .returned (.tuple #[rV (rf (Ra.mk s a b)), .int .i64 0]) ∧ Below w.heap.size w w' := by
  have hg0 : Nat.gcd a b ≠ 0 := fun e => hb0 (Nat.eq_zero_of_gcd_eq_zero_right e)
  have hg : Nat.gcd a b < LIM := Nat.lt_of_le_of_lt (Nat.gcd_le_right _ (by omega)) hb
  have G1 : Hid (∀ v, Below w.heap.size w v → Calls Tryz.prog 98 #[.string (tx a), .string (tx b)] v fun e w' => e = .returned (.tuple #[.string (tx (Nat.gcd a b)), .int .i64 0]) ∧ Below v.heap.size v w') := by
    refine Lib.hid fun v hv => ?_
    have G1 := gcdF (tx a) (tx b) v (tx_len ha) (tx_len hb) (hp.bt hv).1
    rw [opF_ok _ _ _ (isB_txl ha) (isB_txl hb) (by rw [nv_tx, nv_tx]; exact hg), nv_tx, nv_tx] at G1
    exact G1
  have D1 := Lib.hid (fun v (hb' : Below w.heap.size w v) => div_tx a (Nat.gcd a b) v ha hg hg0 (hp.bt hb').1)
  have D2 := Lib.hid (fun v (hb' : Below w.heap.size w v) => div_tx b (Nat.gcd a b) v hb hg hg0 (hp.bt hb').1)
  have hnb := tx_ne48 hb0
  have hnb2 : ((tx b).toList == [48]) = false := by simpa using hnb
  have e1 : rf (Ra.mk s a b) = (s && decide (a ≠ 0), tx (a / Nat.gcd a b), tx (b / Nat.gcd a b)) := by
    unfold rf
    rw [Ra.mk_abs _ _ _ hb0, Ra.mk_den _ _ _ hb0]
    congr 1
    have := Ra.mk_neg s a b hb0
    cases s <;> by_cases h : a = 0 <;> simp_all
  rw [e1]
  clear e1 hp ha hb hb0 hg0 hg
  generalize tx (a / Nat.gcd a b) = x1 at *
  generalize tx (a % Nat.gcd a b) = x2 at *
  generalize tx (b / Nat.gcd a b) = y1 at *
  generalize tx (b % Nat.gcd a b) = y2 at *
  generalize tx (Nat.gcd a b) = gg at *
  generalize tx b = y at *
  have hx0 : a = 0 → tx a = ⟨#[48]⟩ := fun h => by rw [h, tx_zero]
  have hx1 : a ≠ 0 → (tx a).toList ≠ [48] := tx_ne48
  generalize tx a = x at *
  have HA := Lib.hid (At.new w false nil' nil')
  have hb0 := al w (.cells #[.bool false, .string nil', .string nil'] 32)
  unfold nil' at HA hb0
  by_cases h0 : a = 0
  · obtain rfl := hx0 h0
    rw [decide_eq_false (by simpa using h0), Bool.and_false]
    clear h0 hx0 hx1
    cases s
    · go_enter Tryz.func63, Tryz.ntmps63
      go_wp2_with fail
      refine (G1.out _ hb0).mono ?_
      rintro e w1 ⟨rfl, hb1⟩
      have hb1' := Nb hb0 hb1
      have A1 := HA.out.bt hb1
      go_wp2_with fail
      refine (D1.out w1 hb1').mono ?_
      rintro e w2 ⟨rfl, hb2⟩
      have hb2' := Nb hb1' hb2
      have A2 := A1.bt hb2
      go_wp2_with fail
      refine (D2.out w2 hb2').mono ?_
      rintro e w3 ⟨rfl, hb3⟩
      have hb3' := Nb hb2' hb3
      have A3 := A2.bt hb3
      obtain ⟨c0, c1, c2, f0, f1, f2⟩ := A3.cells
      go_wp2_with fail
      exact bodyPost_ret (out2 Tryz.results63 _ _ _ _ _ rfl rfl (A3.set _ _ _)) rfl ⟨rfl, Bset hb3' _ _ _⟩
    · go_enter Tryz.func63, Tryz.ntmps63
      go_wp2_with fail
      refine (G1.out _ hb0).mono ?_
      rintro e w1 ⟨rfl, hb1⟩
      have hb1' := Nb hb0 hb1
      have A1 := HA.out.bt hb1
      go_wp2_with fail
      refine (D1.out w1 hb1').mono ?_
      rintro e w2 ⟨rfl, hb2⟩
      have hb2' := Nb hb1' hb2
      have A2 := A1.bt hb2
      go_wp2_with fail
      refine (D2.out w2 hb2').mono ?_
      rintro e w3 ⟨rfl, hb3⟩
      have hb3' := Nb hb2' hb3
      have A3 := A2.bt hb3
      obtain ⟨c0, c1, c2, f0, f1, f2⟩ := A3.cells
      go_wp2_with fail
      exact bodyPost_ret (out2 Tryz.results63 _ _ _ _ _ rfl rfl (A3.set _ _ _)) rfl ⟨rfl, Bset hb3' _ _ _⟩
  · have hx := hx1 h0
    have hx2 : (x.toList == [48]) = false := by simpa using hx
    rw [decide_eq_true h0, Bool.and_true]
    clear h0 hx0 hx1
    cases s
    · go_enter Tryz.func63, Tryz.ntmps63
      go_wp2_with fail
      refine (G1.out _ hb0).mono ?_
      rintro e w1 ⟨rfl, hb1⟩
      have hb1' := Nb hb0 hb1
      have A1 := HA.out.bt hb1
      go_wp2_with fail
      refine (D1.out w1 hb1').mono ?_
      rintro e w2 ⟨rfl, hb2⟩
      have hb2' := Nb hb1' hb2
      have A2 := A1.bt hb2
      go_wp2_with fail
      refine (D2.out w2 hb2').mono ?_
      rintro e w3 ⟨rfl, hb3⟩
      have hb3' := Nb hb2' hb3
      have A3 := A2.bt hb3
      obtain ⟨c0, c1, c2, f0, f1, f2⟩ := A3.cells
      go_wp2_with fail
      exact bodyPost_ret (out2 Tryz.results63 _ _ _ _ _ rfl rfl (A3.set _ _ _)) rfl ⟨rfl, Bset hb3' _ _ _⟩
    · go_enter Tryz.func63, Tryz.ntmps63
      go_wp2_with fail
      refine (G1.out _ hb0).mono ?_
      rintro e w1 ⟨rfl, hb1⟩
      have hb1' := Nb hb0 hb1
      have A1 := HA.out.bt hb1
      go_wp2_with fail
      refine (D1.out w1 hb1').mono ?_
      rintro e w2 ⟨rfl, hb2⟩
      have hb2' := Nb hb1' hb2
      have A2 := A1.bt hb2
      go_wp2_with fail
      refine (D2.out w2 hb2').mono ?_
      rintro e w3 ⟨rfl, hb3⟩
      have hb3' := Nb hb2' hb3
      have A3 := A2.bt hb3
      obtain ⟨c0, c1, c2, f0, f1, f2⟩ := A3.cells
      go_wp2_with fail
      exact bodyPost_ret (out2 Tryz.results63 _ _ _ _ _ rfl rfl (A3.set _ _ _)) rfl ⟨rfl, Bset hb3' _ _ _⟩

theorem makeF_any (r : R3) (w : World) (hp : Pw w.heap.size w) (hn : r.2.1.size ≤ maxLen) (hd : r.2.2.size ≤ maxLen) :
    Calls Tryz.prog 63 #[.bool r.1, .string r.2.1, .string r.2.2] w fun e w' => e = .returned (.tuple #[rV (makeF r).1, .int .i64 (makeF r).2]) ∧ Below w.heap.size w w' := by
  obtain ⟨s, n, d⟩ := r
  unfold makeF
  by_cases h : (isB n && isB d) = true
  · have h' := h
    rw [Bool.and_eq_true] at h
    obtain ⟨a1, a2⟩ := isB_lt h.1
    obtain ⟨b1, b2⟩ := isB_lt h.2
    simp only [h', if_true]
    by_cases h0 : nv d = 0
    · rw [if_pos h0]
      have := make_zero s (nv n) w hp a1
      rw [← h0, a2, b2] at this
      exact this
    · rw [if_neg h0]
      have := make_ok s (nv n) (nv d) w hp a1 b1 h0
      rw [a2, b2] at this
      exact this
  · have h' : (isB n && isB d) = false := by simpa using h
    simp only [h', Bool.false_eq_true, if_false]
    exact make_bad s n d w hp hn hd h'

theorem valid_no (s : Bool) (n d : ByteArray) (w : World) (e1 : Int) (r : R3) (h : e1 ≠ 0)
    (M : Hid (∀ v, Below w.heap.size w v → Calls Tryz.prog 63 #[.bool s, .string n, .string d] v fun e w' => e = .returned (.tuple #[rV r, .int .i64 e1]) ∧ Below v.heap.size v w')) :
    Calls Tryz.prog 29 #[rV (s, n, d)] w fun e w' => e = .returned (.bool false) ∧ Below w.heap.size w w' := by
  obtain ⟨s', n', d'⟩ := r
  have h2 := (nez h).1
  have hb0 := al w (.cells #[.bool s, .string n, .string d] 32)
  unfold rV at M ⊢
  simp only at M ⊢
  go_enter Tryz.func29, Tryz.ntmps29
  go_wp2_with fail
  refine (M.out _ hb0).mono ?_
  rintro e w1 ⟨rfl, hb1⟩
  have A1 := (At.new w s n d).bt hb1
  obtain ⟨c0, c1, c2, f0, f1, f2⟩ := A1.cells
  go_wp2_with fail
  go_ret
  exact ⟨rfl, Nb (Nb hb0 hb1) (al _ _)⟩

theorem valid_is (s : Bool) (n d : ByteArray) (w : World)
    (M : Hid (∀ v, Below w.heap.size w v → Calls Tryz.prog 63 #[.bool s, .string n, .string d] v fun e w' => e = .returned (.tuple #[rV (s, n, d), .int .i64 0]) ∧ Below v.heap.size v w')) :
    Calls Tryz.prog 29 #[rV (s, n, d)] w fun e w' => e = .returned (.bool true) ∧ Below w.heap.size w w' := by
  have hb0 := al w (.cells #[.bool s, .string n, .string d] 32)
  unfold rV at M ⊢
  simp only at M ⊢
  go_enter Tryz.func29, Tryz.ntmps29
  go_wp2_with fail
  refine (M.out _ hb0).mono ?_
  rintro e w1 ⟨rfl, hb1⟩
  have A1 := (At.new w s n d).bt hb1
  obtain ⟨c0, c1, c2, f0, f1, f2⟩ := A1.cells
  obtain ⟨x0, x1, x2, _, _, _⟩ := (A1.bt (al w1 (.cells #[.bool s, .string n, .string d] 32))).cells
  go_wp2_with fail
  go_ret
  exact ⟨rfl, Nb (Nb hb0 hb1) (al _ _)⟩

theorem valid_ne (s : Bool) (n d : ByteArray) (w : World) (r : R3) (h : (s, n, d) ≠ r)
    (M : Hid (∀ v, Below w.heap.size w v → Calls Tryz.prog 63 #[.bool s, .string n, .string d] v fun e w' => e = .returned (.tuple #[rV r, .int .i64 0]) ∧ Below v.heap.size v w')) :
    Calls Tryz.prog 29 #[rV (s, n, d)] w fun e w' => e = .returned (.bool false) ∧ Below w.heap.size w w' := by
  obtain ⟨s', n', d'⟩ := r
  have hb0 := al w (.cells #[.bool s, .string n, .string d] 32)
  have hq : (s == s' && (n.toList == n'.toList && d.toList == d'.toList)) = false := by
    rw [← Bool.not_eq_true]
    intro hh
    simp only [Bool.and_eq_true, beq_iff_eq] at hh
    apply h
    rw [hh.1]
    have k1 : n = n' := by
      rcases Decidable.em (n = n') with e | e
      · exact e
      · have := bytes_ne e; rw [hh.2.1] at this; simp at this
    have k2 : d = d' := by
      rcases Decidable.em (d = d') with e | e
      · exact e
      · have := bytes_ne e; rw [hh.2.2] at this; simp at this
    rw [k1, k2]
  unfold rV at M ⊢
  simp only at M ⊢
  go_enter Tryz.func29, Tryz.ntmps29
  go_wp2_with fail
  refine (M.out _ hb0).mono ?_
  rintro e w1 ⟨rfl, hb1⟩
  have A1 := (At.new w s n d).bt hb1
  obtain ⟨c0, c1, c2, f0, f1, f2⟩ := A1.cells
  obtain ⟨x0, x1, x2, _, _, _⟩ := (A1.bt (al w1 (.cells #[.bool s', .string n', .string d'] 32))).cells
  go_wp2_with fail
  all_goals go_ret
  all_goals first | exact ⟨rfl, Nb (Nb hb0 hb1) (al _ _)⟩ | (exfalso; simp_all)

theorem valid_any (r : R3) (w : World) (hp : Pw w.heap.size w) (hn : r.2.1.size ≤ maxLen) (hd : r.2.2.size ≤ maxLen) :
    Calls Tryz.prog 29 #[rV r] w fun e w' => e = .returned (.bool (vR r)) ∧ Below w.heap.size w w' := by
  have M := Lib.hid (fun v (hb : Below w.heap.size w v) => makeF_any r v (hp.bt hb) hn hd)
  rw [makeF_valid]
  obtain ⟨s, n, d⟩ := r
  by_cases h : (makeF (s, n, d)).2 = 0
  · by_cases h1 : (s, n, d) = (makeF (s, n, d)).1
    · rw [decide_eq_true ⟨h, h1⟩]
      rw [h, ← h1] at M
      exact valid_is s n d w M
    · rw [decide_eq_false (fun k => h1 k.2)]
      rw [h] at M
      exact valid_ne s n d w _ h1 M
  · rw [decide_eq_false (fun k => h k.1)]
    exact valid_no s n d w _ _ h M
end Go.Proofs.YtkbncdcphohmiaaGreatDoor

/- Package ratio: sums and products that are not reduced yet; operations. -/
set_option linter.unusedSimpArgs false
set_option linter.unusedVariables false
namespace Go.Proofs.YtkbncdcphohmiaaGreatDoor
open Go.RowKit
open Ra (Fit)
set_option maxRecDepth 100000

theorem or_any (b : Nat) (w : World) (h0 : w.cell? ⟨b, 0, none⟩ = some (.int .i64 0)) (h1 : w.cell? ⟨b, 1, none⟩ = some (.int .i64 0)) :
    Calls Tryz.prog 129 #[.slice (some ⟨b, 0, none⟩) 2 2] w fun e w' => e = .returned (.int .i64 0) ∧ w = w' := by
  go_enter Tryz.func129, Tryz.ntmps129
  go_wp2
  go_loop [5, 8] (fun v i => i = .int .i64 0 ∨ i = .int .i64 1 ∨ i = .int .i64 2) (fun _ i => 2 - (intOf i).toNat)
  case atStart => exact .inl rfl
  case round =>
    rcases hrel with rfl | rfl | rfl
    · go_wp2
      exact ⟨.inr (.inl rfl), by simp [intOf]⟩
    · go_wp2
      exact ⟨.inr (.inr rfl), by simp [intOf]⟩
    · go_wp2
      go_ret
      exact ⟨rfl, rfl⟩

/- The variable err at block b, and the pointer to it at block g. -/
def Kp (w : World) (g b : Nat) : Prop := w.heap[g]? = some (.cells #[.pointer (some ⟨b, 0, none⟩)] 100 (0, 0)) ∧ w.heap[b]? = some (.cells #[.int .i64 0] 28 (0, 0)) ∧ g ≠ b
theorem Kp.bt {w w' : World} {g b : Nat} (h : Kp w g b) (hb : Below w.heap.size w w') : Kp w' g b :=
  ⟨(hb.block g (Array.getElem?_eq_some_iff.1 h.1).1).trans h.1, (hb.block b (Array.getElem?_eq_some_iff.1 h.2.1).1).trans h.2.1, h.2.2⟩
theorem Kp.cells {w : World} {g b : Nat} (h : Kp w g b) : w.cell? ⟨g, 0, none⟩ = some (.pointer (some ⟨b, 0, none⟩)) ∧ w.cell? ⟨b, 0, none⟩ = some (.int .i64 0) ∧ w.frozen? ⟨b, 0, none⟩ = false :=
  ⟨by rw [Lib.cell_of_heap h.1]; rfl, by rw [Lib.cell_of_heap h.2.1]; rfl, Lib.frozen_of_heap h.2.1 0⟩
theorem Kp.set {w : World} {g b : Nat} (h : Kp w g b) : Kp (w.setCell ⟨b, 0, none⟩ (.int .i64 0)) g b :=
  ⟨(Below.heap_setCell w ⟨b, 0, none⟩ _ g h.2.2).trans h.1, heap_setCell_same w b 0 _ _ _ h.2.1, h.2.2⟩

/- All but one block is as it was. -/
def Keeps (b : Nat) (w w' : World) : Prop := ∀ k, k < w.heap.size → k ≠ b → w'.heap[k]? = w.heap[k]?
theorem At.keeps {w w' : World} {b k : Nat} {r : R3} (h : At w k r) (hk : Keeps b w w') (hn : k ≠ b) : At w' k r := (hk k (Array.getElem?_eq_some_iff.1 h).1 hn).trans h
theorem keeps_set (w : World) (o : Obj) (b : Nat) (v : Value) : Keeps b w (((w.alloc o).setCell ⟨b, 0, none⟩ v).drew) := fun k hk hn =>
  (Below.heap_setCell (w.alloc o) ⟨b, 0, none⟩ v k hn).trans ((al w o).block k hk)

set_option maxHeartbeats 1000000 in
theorem kept_any (x : ByteArray) (g b : Nat) (w : World) (hk : Kp w g b) (B : Nat) (hB : B ≤ b) :
    Calls Tryz.prog 128 #[.string x, .int .i64 0, .pointer (some ⟨g, 0, none⟩)] w fun e w' => e = .returned (.string x) ∧ Kp w' g b ∧ Below B w w' ∧ Keeps b w w' := by
  have hBw : B ≤ w.heap.size := by have := (Array.getElem?_eq_some_iff.1 hk.2.1).1; omega
  have hbT : Below w.heap.size w ((w.alloc (.cells #[.int .i64 0, .int .i64 0] 28)).drew) := ((Below.refl _ _).alloc (Nat.le_refl _) _).drew
  have hgT : ((w.alloc (.cells #[.int .i64 0, .int .i64 0] 28)).drew).heap[w.heap.size]? = some (.cells #[.int .i64 0, .int .i64 0] 28 (0, 0)) := heap_alloc_new w _
  have x0 : ((w.alloc (.cells #[.int .i64 0, .int .i64 0] 28)).drew).cell? ⟨w.heap.size, 0, none⟩ = some (.int .i64 0) := by rw [Lib.cell_of_heap hgT]; rfl
  have x1 : ((w.alloc (.cells #[.int .i64 0, .int .i64 0] 28)).drew).cell? ⟨w.heap.size, 1, none⟩ = some (.int .i64 0) := by rw [Lib.cell_of_heap hgT]; rfl
  have OR := Lib.hid (or_any w.heap.size _ x0 x1)
  have K2 : Kp ((w.alloc (.cells #[.int .i64 0, .int .i64 0] 28)).drew) g b := hk.bt hbT
  have K3 : Kp ((w.alloc (.cells #[.int .i64 0, .int .i64 0] 28)).setCell ⟨b, 0, none⟩ (.int .i64 0)).drew g b := K2.set
  have HK3 := Lib.hid K3
  have HB : Hid (Below B w ((w.alloc (.cells #[.int .i64 0, .int .i64 0] 28)).setCell ⟨b, 0, none⟩ (.int .i64 0)).drew) := Lib.hid (((hbT.mono hBw).setCell (p := ⟨b, 0, none⟩) hB _))
  obtain ⟨hg, h0, hf⟩ := hk.cells
  obtain ⟨y1, y2, y3⟩ := K2.cells
  obtain ⟨n1, n2, n3⟩ := K3.cells
  clear x0 x1 hgT hbT hBw K3 K2 hk
  go_enter Tryz.func128, Tryz.ntmps128
  go_wp2_with fail
  go_region_held3 (fun w' => w'.cell? ⟨g, 0, none⟩ = some (.pointer (some ⟨b, 0, none⟩)) ∧ w'.cell? ⟨b, 0, none⟩ = some (.int .i64 0) ∧ w'.frozen? ⟨b, 0, none⟩ = false) (first | exact ⟨hg, h0, hf⟩ | exact ⟨y1, y2, y3⟩ | exact ⟨n1, n2, n3⟩ | go_keep)
    (first
      | (go_at_call 129
         (with_reducible refine OR.out.mono ?_)
         rintro e w3 ⟨rfl, rfl⟩)
      | fail)
  go_wp2
  go_ret
  exact ⟨rfl, HK3.out, HB.out, keeps_set _ _ _ _⟩

theorem keeping_any (b : Nat) (w : World) :
    Calls Tryz.prog 93 #[.pointer (some ⟨b, 0, none⟩)] w fun e w' => e = .returned (.func (.func 128) #[] #[.pointer (some ⟨w.heap.size, 0, none⟩)]) ∧ w' = w.alloc (.cells #[.pointer (some ⟨b, 0, none⟩)] 100) := by
  go_enter Tryz.func93, Tryz.ntmps93
  go_wp2
  go_ret
  exact ⟨rfl, rfl⟩

def L140 : Nat := 10 ^ 140
theorem pow_mul_lim (a b : Nat) (h : a + b ≤ 300) : 10 ^ a * 10 ^ b ≤ LIM := by
  rw [← Nat.pow_add]
  exact lim_pow h
theorem mul_lim {a b : Nat} (ha : a < L140) (hb : b < L140) : a * b < LIM :=
  Nat.lt_of_lt_of_le (Ra.mul_lt ha hb) (pow_mul_lim 140 140 (by omega))
theorem mul_tx (a b : Nat) (w : World) (hp : Pow w.heap.size w) (ha : a < L140) (hb : b < L140) :
    Calls Tryz.prog 94 #[.string (tx a), .string (tx b)] w fun e w' => e = .returned (.tuple #[.string (tx (a * b)), .int .i64 0]) ∧ Below w.heap.size w w' := by
  have la : a < LIM := Nat.lt_of_lt_of_le ha (lim_pow (by omega))
  have lb : b < LIM := Nat.lt_of_lt_of_le hb (lim_pow (by omega))
  have := mulF (tx a) (tx b) w (tx_len la) (tx_len lb) hp
  rw [opF_ok _ _ _ (isB_txl la) (isB_txl lb) (by rw [nv_tx, nv_tx]; exact mul_lim ha hb), nv_tx, nv_tx] at this
  exact this

theorem size_al (w : World) (o : Obj) : (w.alloc o).heap.size = w.heap.size + 1 := Array.size_push ..

def ob (r : R3) : Obj := .cells #[.bool r.1, .string r.2.1, .string r.2.2] 32
theorem At.ob (w : World) (r : R3) : At (w.alloc (ob r)) w.heap.size r := heap_alloc_new _ _

theorem start5 (w : World) (r1 r2 r3 : R3) (w5 : World) (h : w5 = ((((w.alloc (ob r1)).alloc (ob r2)).alloc (ob r3)).alloc (.cells #[.int .i64 0] 28)).alloc (.cells #[.pointer (some ⟨w.heap.size + 1 + 1 + 1, 0, none⟩)] 100)) :
    Below w.heap.size w w5 ∧ At w5 w.heap.size r1 ∧ At w5 (w.heap.size + 1) r2 ∧ At w5 (w.heap.size + 1 + 1) r3 ∧ Kp w5 (w.heap.size + 1 + 1 + 1 + 1) (w.heap.size + 1 + 1 + 1) := by
  obtain ⟨w1, e1⟩ : ∃ v, v = w.alloc (ob r1) := ⟨_, rfl⟩
  obtain ⟨w2, e2⟩ : ∃ v, v = w1.alloc (ob r2) := ⟨_, rfl⟩
  obtain ⟨w3, e3⟩ : ∃ v, v = w2.alloc (ob r3) := ⟨_, rfl⟩
  obtain ⟨w4, e4⟩ : ∃ v, v = w3.alloc (.cells #[.int .i64 0] 28) := ⟨_, rfl⟩
  rw [← e1, ← e2, ← e3, ← e4] at h
  have s1 : w1.heap.size = w.heap.size + 1 := by rw [e1]; exact size_al _ _
  have s2 : w2.heap.size = w.heap.size + 1 + 1 := by rw [e2, size_al, s1]
  have s3 : w3.heap.size = w.heap.size + 1 + 1 + 1 := by rw [e3, size_al, s2]
  have s4 : w4.heap.size = w.heap.size + 1 + 1 + 1 + 1 := by rw [e4, size_al, s3]
  have b1 : Below w.heap.size w w1 := by rw [e1]; exact al _ _
  have b2 : Below w1.heap.size w1 w2 := by rw [e2]; exact al _ _
  have b3 : Below w2.heap.size w2 w3 := by rw [e3]; exact al _ _
  have b4 : Below w3.heap.size w3 w4 := by rw [e4]; exact al _ _
  have b5 : Below w4.heap.size w4 w5 := by rw [h]; exact al _ _
  have a1 : At w1 w.heap.size r1 := by rw [e1]; exact At.ob _ _
  have a2 : At w2 (w.heap.size + 1) r2 := by rw [e2, ← s1]; exact At.ob _ _
  have a3 : At w3 (w.heap.size + 1 + 1) r3 := by rw [e3, ← s2]; exact At.ob _ _
  have k4 : w4.heap[w.heap.size + 1 + 1 + 1]? = some (.cells #[.int .i64 0] 28 (0, 0)) := by rw [e4, ← s3]; exact heap_alloc_new _ _
  have k5 : w5.heap[w.heap.size + 1 + 1 + 1 + 1]? = some (.cells #[.pointer (some ⟨w.heap.size + 1 + 1 + 1, 0, none⟩)] 100 (0, 0)) := by rw [h, ← s4]; exact heap_alloc_new _ _
  refine ⟨Nb (Nb (Nb (Nb b1 b2) b3) b4) b5, (((a1.bt b2).bt b3).bt b4).bt b5, ((a2.bt b3).bt b4).bt b5, (a3.bt b4).bt b5, k5, ?_, by omega⟩
  exact (b5.block _ (by omega)).trans k4

theorem Kp.lt {w : World} {g b : Nat} (h : Kp w g b) : g < w.heap.size := (Array.getElem?_eq_some_iff.1 h.1).1
theorem Bd (w : World) : Below w.heap.size w w.drew := drewN_below w 1
theorem At.far {w : World} {k b : Nat} {r : R3} (h : At w k r) (hn : k ≠ b) (q : R3) : At (((w.setCell ⟨b, 0, none⟩ (.bool q.1)).setCell ⟨b, 1, none⟩ (.string q.2.1)).setCell ⟨b, 2, none⟩ (.string q.2.2)) k r := by
  unfold At at h ⊢
  rw [Below.heap_setCell _ _ _ _ hn, Below.heap_setCell _ _ _ _ hn, Below.heap_setCell _ _ _ _ hn]
  exact h
theorem six {w : World} {p q : Nat} {s t : Bool} {a b c d : ByteArray} (h : At w p (s, a, b)) (k : At w q (t, c, d)) : w.cell? ⟨p, 0, none⟩ = some (.bool s) ∧ w.cell? ⟨p, 1, none⟩ = some (.string a) ∧ w.cell? ⟨p, 2, none⟩ = some (.string b) ∧ w.cell? ⟨q, 0, none⟩ = some (.bool t) ∧ w.cell? ⟨q, 1, none⟩ = some (.string c) ∧ w.cell? ⟨q, 2, none⟩ = some (.string d) :=
  ⟨h.cells.1, h.cells.2.1, h.cells.2.2.1, k.cells.1, k.cells.2.1, k.cells.2.2.1⟩

theorem Kp.far {w : World} {g k b : Nat} (h : Kp w g k) (hg : g ≠ b) (hk : k ≠ b) (q : R3) : Kp (((w.setCell ⟨b, 0, none⟩ (.bool q.1)).setCell ⟨b, 1, none⟩ (.string q.2.1)).setCell ⟨b, 2, none⟩ (.string q.2.2)) g k := by
  obtain ⟨h1, h2, h3⟩ := h
  refine ⟨?_, ?_, h3⟩
  · rw [Below.heap_setCell _ _ _ _ hg, Below.heap_setCell _ _ _ _ hg, Below.heap_setCell _ _ _ _ hg]; exact h1
  · rw [Below.heap_setCell _ _ _ _ hk, Below.heap_setCell _ _ _ _ hk, Below.heap_setCell _ _ _ _ hk]; exact h2
theorem Bset2 {w v : World} {B b : Nat} (h : Below B w v) (hb : B ≤ b) (x y z : Value) : Below B w (((v.setCell ⟨b, 0, none⟩ x).setCell ⟨b, 1, none⟩ y).setCell ⟨b, 2, none⟩ z) :=
  ((h.setCell (p := ⟨b, 0, none⟩) hb _).setCell (p := ⟨b, 1, none⟩) hb _).setCell (p := ⟨b, 2, none⟩) hb _
theorem fourr {w : World} {b g e : Nat} {s : Bool} {n d : ByteArray} (h : At w b (s, n, d)) (k : Kp w g e) : w.cell? ⟨b, 0, none⟩ = some (.bool s) ∧ w.cell? ⟨b, 1, none⟩ = some (.string n) ∧ w.cell? ⟨b, 2, none⟩ = some (.string d) ∧ w.cell? ⟨e, 0, none⟩ = some (.int .i64 0) :=
  ⟨h.cells.1, h.cells.2.1, h.cells.2.2.1, k.cells.2.1⟩
theorem gen {α : Type} {P : α → Prop} (x : α) (h : ∀ W, W = x → P W) : P x := h x rfl
/- The world behind the last store: all that is needed of it. -/
theorem fin_old {w v : World} {p b g e : Nat} {r q0 : R3} (hb : Below p w v) (hp : p = w.heap.size) (R : At v (p + 1 + 1) r) (K : Kp v g e) (X : At v b q0) (hn : p + 1 + 1 + 1 + 1 < b) (hg : g = p + 1 + 1 + 1 + 1) (he : e = p + 1 + 1 + 1) (q : R3) (W : World)
    (hW : W = (((v.setCell ⟨b, 0, none⟩ (.bool q.1)).setCell ⟨b, 1, none⟩ (.string q.2.1)).setCell ⟨b, 2, none⟩ (.string q.2.2))) : Below p w W ∧ At W (p + 1 + 1) r ∧ Kp W g e ∧ At W b q := by
  subst hW
  exact ⟨Bset2 hb (by omega) _ _ _, R.far (by omega) q, K.far (by omega) (by omega) q, X.set _ _ _⟩
theorem fin_new {w v : World} {p g e : Nat} {r : R3} (hb : Below p w v) (hp : p = w.heap.size) (R : At v (p + 1 + 1) r) (K : Kp v g e) (q : R3) (W : World)
    (hW : W = v.alloc (.cells #[.bool q.1, .string q.2.1, .string q.2.2] 32)) : Below p w W ∧ At W (p + 1 + 1) r ∧ Kp W g e ∧ At W v.heap.size q := by
  subst hW hp
  exact ⟨Nb hb (al _ _), R.bt (al _ _), K.bt (al _ _), heap_alloc_new _ _⟩
theorem farsix {w : World} {p b : Nat} {s t : Bool} {x y z u : ByteArray} {r : R3} (h : At w p (s, x, z)) (k : At w (p + 1) (t, y, u)) (_ : At w b r) (hn : p + 1 + 1 + 1 + 1 < b) (q : R3) :
    (((w.setCell ⟨b, 0, none⟩ (.bool q.1)).setCell ⟨b, 1, none⟩ (.string q.2.1)).setCell ⟨b, 2, none⟩ (.string q.2.2)).cell? ⟨p, 0, none⟩ = some (.bool s) ∧ (((w.setCell ⟨b, 0, none⟩ (.bool q.1)).setCell ⟨b, 1, none⟩ (.string q.2.1)).setCell ⟨b, 2, none⟩ (.string q.2.2)).cell? ⟨p, 1, none⟩ = some (.string x) ∧ (((w.setCell ⟨b, 0, none⟩ (.bool q.1)).setCell ⟨b, 1, none⟩ (.string q.2.1)).setCell ⟨b, 2, none⟩ (.string q.2.2)).cell? ⟨p, 2, none⟩ = some (.string z) ∧ (((w.setCell ⟨b, 0, none⟩ (.bool q.1)).setCell ⟨b, 1, none⟩ (.string q.2.1)).setCell ⟨b, 2, none⟩ (.string q.2.2)).cell? ⟨p + 1, 0, none⟩ = some (.bool t) ∧ (((w.setCell ⟨b, 0, none⟩ (.bool q.1)).setCell ⟨b, 1, none⟩ (.string q.2.1)).setCell ⟨b, 2, none⟩ (.string q.2.2)).cell? ⟨p + 1, 1, none⟩ = some (.string y) ∧ (((w.setCell ⟨b, 0, none⟩ (.bool q.1)).setCell ⟨b, 1, none⟩ (.string q.2.1)).setCell ⟨b, 2, none⟩ (.string q.2.2)).cell? ⟨p + 1, 2, none⟩ = some (.string u) :=
  six (h.far (show p ≠ b by omega) q) (k.far (show p + 1 ≠ b by omega) q)
end Go.Proofs.YtkbncdcphohmiaaGreatDoor

/- Package ratio: products that are not reduced yet. -/
set_option linter.unusedSimpArgs false
set_option linter.unusedVariables false
namespace Go.Proofs.YtkbncdcphohmiaaGreatDoor
open Go.RowKit
open Ra (Fit)
set_option maxRecDepth 100000

set_option maxHeartbeats 4000000 in
theorem product_any (s t : Bool) (a c b d : Nat) (w : World) (hp : Pw w.heap.size w) (ha : a < L140) (hc : c < L140) (hb : b < L140) (hd : d < L140) :
    Calls Tryz.prog 60 #[rV (s, tx a, tx c), rV (t, tx b, tx d)] w fun e w' => e = .returned (.tuple #[rV (s != t, tx (a * b), tx (c * d)), .int .i64 0]) ∧ Below w.heap.size w w' := by
  have M1 := Lib.hid (fun v (h : Below w.heap.size w v) => mul_tx a b v (hp.bt h).1 ha hb)
  have M2 := Lib.hid (fun v (h : Below w.heap.size w v) => mul_tx c d v (hp.bt h).1 hc hd)
  clear hp ha hb hc hd
  generalize tx (a * b) = ab at *
  generalize tx (c * d) = cd at *
  generalize tx a = x at *
  generalize tx b = y at *
  generalize tx c = z at *
  generalize tx d = u at *
  unfold rV
  simp only
  have KE := Lib.hid (fun b v => keeping_any b v)
  have KP := Lib.hid (fun (x : ByteArray) (v : World) (hk : Kp v (w.heap.size + 1 + 1 + 1 + 1) (w.heap.size + 1 + 1 + 1)) => kept_any x _ _ v hk w.heap.size (by omega))
  have ST := Lib.hid (start5 w (s, x, z) (t, y, u) (false, ⟨#[]⟩, ⟨#[]⟩))
  go_enter Tryz.func60, Tryz.ntmps60
  go_wp2_with fail
  refine (KE.out _ _).mono ?_
  rintro e w5 ⟨rfl, hw5⟩
  obtain ⟨hb5, A5, D5, R5, K5⟩ := ST.out w5 hw5
  clear hw5 ST KE
  have S5 := Lib.hid (six A5 D5)
  have T5 := Lib.hid (six ((A5.bt (al w5 (.cells #[.bool false, .string ⟨#[]⟩, .string ⟨#[]⟩] 32))).bt (Bd _)) ((D5.bt (al w5 (.cells #[.bool false, .string ⟨#[]⟩, .string ⟨#[]⟩] 32))).bt (Bd _)))
  go_wp2_with fail
  go_region_held3 (fun w' => w'.cell? ⟨w.heap.size, 0, none⟩ = some (.bool s) ∧ w'.cell? ⟨w.heap.size, 1, none⟩ = some (.string x) ∧ w'.cell? ⟨w.heap.size, 2, none⟩ = some (.string z) ∧ w'.cell? ⟨w.heap.size + 1, 0, none⟩ = some (.bool t) ∧ w'.cell? ⟨w.heap.size + 1, 1, none⟩ = some (.string y) ∧ w'.cell? ⟨w.heap.size + 1, 2, none⟩ = some (.string u)) (first | exact SS.out | exact T9.out | exact S9.out | exact T8.out | exact S8.out | exact T7.out | exact S7.out | exact T6.out | exact S6.out | exact T5.out | exact S5.out | go_keep)
    (first
      | (go_at_call 94
         (with_reducible refine (M1.out _ (Nb hb5 (Bd w5))).mono ?_)
         rintro e w6 ⟨rfl, g6⟩
         have hb6 := Nb (Nb hb5 (Bd w5)) g6
         have A6 := (A5.bt (Bd w5)).bt g6
         have D6 := (D5.bt (Bd w5)).bt g6
         have R6 := (R5.bt (Bd w5)).bt g6
         have K6 := (K5.bt (Bd w5)).bt g6
         have S6 := Lib.hid (six A6 D6)
         have T6 := Lib.hid (six (A6.bt (al w6 (.cells #[.bool false, .string ⟨#[]⟩, .string ⟨#[]⟩] 32))) (D6.bt (al w6 (.cells #[.bool false, .string ⟨#[]⟩, .string ⟨#[]⟩] 32)))))
      | (go_at_call 94
         (with_reducible refine (M1.out _ (Nb hb5 (Nb (al w5 (.cells #[.bool false, .string ⟨#[]⟩, .string ⟨#[]⟩] 32)) (Bd _)))).mono ?_)
         rintro e w6 ⟨rfl, g6⟩
         have hb6 := Nb (Nb hb5 (Nb (al w5 (.cells #[.bool false, .string ⟨#[]⟩, .string ⟨#[]⟩] 32)) (Bd _))) g6
         have A6 := (A5.bt (Nb (al w5 (.cells #[.bool false, .string ⟨#[]⟩, .string ⟨#[]⟩] 32)) (Bd _))).bt g6
         have D6 := (D5.bt (Nb (al w5 (.cells #[.bool false, .string ⟨#[]⟩, .string ⟨#[]⟩] 32)) (Bd _))).bt g6
         have R6 := (R5.bt (Nb (al w5 (.cells #[.bool false, .string ⟨#[]⟩, .string ⟨#[]⟩] 32)) (Bd _))).bt g6
         have K6 := (K5.bt (Nb (al w5 (.cells #[.bool false, .string ⟨#[]⟩, .string ⟨#[]⟩] 32)) (Bd _))).bt g6
         have BX6 := (At.new w5 false ⟨#[]⟩ ⟨#[]⟩).bt (Nb (Bd _) g6)
         have N6 := K5.lt
         obtain ⟨b0, b1, b2, e0, e1, e2⟩ := BX6.cells
         have S6 := Lib.hid (six A6 D6))
      | (go_at_call 128
         (with_reducible refine (KP.out ab _ K6).mono ?_)
         rintro e w7 ⟨rfl, K7, g7, k7⟩
         have hb7 := Below.trans hb6 g7
         have A7 := A6.keeps k7 (by omega)
         have D7 := D6.keeps k7 (by omega)
         have R7 := R6.keeps k7 (by omega)
         have BX7 := BX6.keeps k7 (by have := N6; omega)
         have N7 := N6
         obtain ⟨b0, b1, b2, e0, e1, e2⟩ := BX7.cells
         have S7 := Lib.hid (six A7 D7))
      | (go_at_call 128
         (with_reducible refine (KP.out ab _ K6).mono ?_)
         rintro e w7 ⟨rfl, K7, g7, k7⟩
         have hb7 := Below.trans hb6 g7
         have A7 := A6.keeps k7 (by omega)
         have D7 := D6.keeps k7 (by omega)
         have R7 := R6.keeps k7 (by omega)
         have S7 := Lib.hid (six A7 D7)
         have T7 := Lib.hid (six (A7.bt (al w7 (.cells #[.bool false, .string ⟨#[]⟩, .string ⟨#[]⟩] 32))) (D7.bt (al w7 (.cells #[.bool false, .string ⟨#[]⟩, .string ⟨#[]⟩] 32)))))
      | (go_at_call 128
         (with_reducible refine (KP.out ab _ (K6.bt (al w6 (.cells #[.bool false, .string ⟨#[]⟩, .string ⟨#[]⟩] 32)))).mono ?_)
         rintro e w7 ⟨rfl, K7, g7, k7⟩
         have hb7 := Below.trans (Nb hb6 (al w6 (.cells #[.bool false, .string ⟨#[]⟩, .string ⟨#[]⟩] 32))) g7
         have A7 := (A6.bt (al w6 (.cells #[.bool false, .string ⟨#[]⟩, .string ⟨#[]⟩] 32))).keeps k7 (by omega)
         have D7 := (D6.bt (al w6 (.cells #[.bool false, .string ⟨#[]⟩, .string ⟨#[]⟩] 32))).keeps k7 (by omega)
         have R7 := (R6.bt (al w6 (.cells #[.bool false, .string ⟨#[]⟩, .string ⟨#[]⟩] 32))).keeps k7 (by omega)
         have BX7 := (At.new w6 false ⟨#[]⟩ ⟨#[]⟩).keeps k7 (by have := K6.lt; omega)
         have N7 := K6.lt
         obtain ⟨b0, b1, b2, e0, e1, e2⟩ := BX7.cells
         have S7 := Lib.hid (six A7 D7))
      | (go_at_call 94
         (with_reducible refine (M2.out _ hb7).mono ?_)
         rintro e w8 ⟨rfl, g8⟩
         have hb8 := Nb hb7 g8
         have A8 := A7.bt g8
         have D8 := D7.bt g8
         have R8 := R7.bt g8
         have K8 := K7.bt g8
         have BX8 := BX7.bt g8
         have N8 := N7
         obtain ⟨b0, b1, b2, e0, e1, e2⟩ := BX8.cells
         have S8 := Lib.hid (six A8 D8))
      | (go_at_call 94
         (with_reducible refine (M2.out _ hb7).mono ?_)
         rintro e w8 ⟨rfl, g8⟩
         have hb8 := Nb hb7 g8
         have A8 := A7.bt g8
         have D8 := D7.bt g8
         have R8 := R7.bt g8
         have K8 := K7.bt g8
         have S8 := Lib.hid (six A8 D8)
         have T8 := Lib.hid (six (A8.bt (al w8 (.cells #[.bool false, .string ⟨#[]⟩, .string ⟨#[]⟩] 32))) (D8.bt (al w8 (.cells #[.bool false, .string ⟨#[]⟩, .string ⟨#[]⟩] 32)))))
      | (go_at_call 94
         (with_reducible refine (M2.out _ (Nb hb7 (al w7 (.cells #[.bool false, .string ⟨#[]⟩, .string ⟨#[]⟩] 32)))).mono ?_)
         rintro e w8 ⟨rfl, g8⟩
         have hb8 := Nb (Nb hb7 (al w7 (.cells #[.bool false, .string ⟨#[]⟩, .string ⟨#[]⟩] 32))) g8
         have A8 := (A7.bt (al w7 (.cells #[.bool false, .string ⟨#[]⟩, .string ⟨#[]⟩] 32))).bt g8
         have D8 := (D7.bt (al w7 (.cells #[.bool false, .string ⟨#[]⟩, .string ⟨#[]⟩] 32))).bt g8
         have R8 := (R7.bt (al w7 (.cells #[.bool false, .string ⟨#[]⟩, .string ⟨#[]⟩] 32))).bt g8
         have K8 := (K7.bt (al w7 (.cells #[.bool false, .string ⟨#[]⟩, .string ⟨#[]⟩] 32))).bt g8
         have BX8 := (At.new w7 false ⟨#[]⟩ ⟨#[]⟩).bt g8
         have N8 := K7.lt
         obtain ⟨b0, b1, b2, e0, e1, e2⟩ := BX8.cells
         have S8 := Lib.hid (six A8 D8))
      | (go_at_call 128
         (with_reducible refine (KP.out cd _ K8).mono ?_)
         rintro e w9 ⟨rfl, K9, g9, k9⟩
         have hb9 := Below.trans hb8 g9
         have A9 := A8.keeps k9 (by omega)
         have D9 := D8.keeps k9 (by omega)
         have R9 := R8.keeps k9 (by omega)
         have BX9 := BX8.keeps k9 (by have := N8; omega)
         have N9 := N8
         obtain ⟨b0, b1, b2, e0, e1, e2⟩ := BX9.cells
         have S9 := Lib.hid (six A9 D9)
         have SS := Lib.hid (farsix A9 D9 BX9 N9 (!(s == t), ab, cd)))
      | (go_at_call 128
         (with_reducible refine (KP.out cd _ K8).mono ?_)
         rintro e w9 ⟨rfl, K9, g9, k9⟩
         have hb9 := Below.trans hb8 g9
         have A9 := A8.keeps k9 (by omega)
         have D9 := D8.keeps k9 (by omega)
         have R9 := R8.keeps k9 (by omega)
         have S9 := Lib.hid (six A9 D9)
         have T9 := Lib.hid (six (A9.bt (al w9 (.cells #[.bool false, .string ⟨#[]⟩, .string ⟨#[]⟩] 32))) (D9.bt (al w9 (.cells #[.bool false, .string ⟨#[]⟩, .string ⟨#[]⟩] 32))))
         have SS := Lib.hid (six (A9.bt (al w9 (ob (!(s == t), ab, cd)))) (D9.bt (al w9 (ob (!(s == t), ab, cd)))))
         unfold ob at SS)
      | (go_at_call 128
         (with_reducible refine (KP.out cd _ (K8.bt (al w8 (.cells #[.bool false, .string ⟨#[]⟩, .string ⟨#[]⟩] 32)))).mono ?_)
         rintro e w9 ⟨rfl, K9, g9, k9⟩
         have hb9 := Below.trans (Nb hb8 (al w8 (.cells #[.bool false, .string ⟨#[]⟩, .string ⟨#[]⟩] 32))) g9
         have A9 := (A8.bt (al w8 (.cells #[.bool false, .string ⟨#[]⟩, .string ⟨#[]⟩] 32))).keeps k9 (by omega)
         have D9 := (D8.bt (al w8 (.cells #[.bool false, .string ⟨#[]⟩, .string ⟨#[]⟩] 32))).keeps k9 (by omega)
         have R9 := (R8.bt (al w8 (.cells #[.bool false, .string ⟨#[]⟩, .string ⟨#[]⟩] 32))).keeps k9 (by omega)
         have BX9 := (At.new w8 false ⟨#[]⟩ ⟨#[]⟩).keeps k9 (by have := K8.lt; omega)
         have N9 := K8.lt
         obtain ⟨b0, b1, b2, e0, e1, e2⟩ := BX9.cells
         have S9 := Lib.hid (six A9 D9)
         have SS := Lib.hid (farsix A9 D9 BX9 N9 (!(s == t), ab, cd)))
      | fail)
  all_goals
    first
      | (have FF := fin_new hb9 rfl R9 K9 (!(s == t), ab, cd)
         refine gen (P := Exit.then _ _ _ _) _ ?_
         intro W hW
         have F2 := FF W hW
         obtain ⟨hbF, RF, KF, XF⟩ := F2
         have hne : w.heap.size + 1 + 1 ≠ w9.heap.size := by have := K9.lt; omega
         have hn1 : w.heap.size + 1 + 1 ≠ w.heap.size + 1 + 1 + 1 := by omega
         clear A9 D9 R9 K9 hW FF
         obtain ⟨r0, r1, r2, r3, r4, r5⟩ := (RF.bt (Bd W)).cells
         obtain ⟨x0, x1, x2, _, _, _⟩ := (XF.bt (Bd W)).cells
         obtain ⟨_, y1, _⟩ := (KF.bt (Bd W)).cells
         obtain ⟨q0, q1, q2, q3, q4, q5⟩ := RF.cells
         obtain ⟨z0, z1, z2, _, _, _⟩ := XF.cells
         obtain ⟨_, t1, _⟩ := KF.cells
         go_wp2_with fail
         go_region
         go_wp2_with fail
         exact bodyPost_ret (out2 Tryz.results60 _ _ _ _ _ rfl rfl (show At _ _ _ from RF.set _ _ _)) rfl ⟨rfl, show Below _ _ _ from (Bset2 hbF (by omega) _ _ _).drew⟩)
      | (have FF := fin_old hb9 rfl R9 K9 (b := w8.heap.size) BX9 N9 rfl rfl (!(s == t), ab, cd)
         refine gen (P := Exit.then _ _ _ _) _ ?_
         intro W hW
         have F2 := FF W hW
         obtain ⟨hbF, RF, KF, XF⟩ := F2
         have hne : w.heap.size + 1 + 1 ≠ w8.heap.size := by have := K9.lt; have := N9; omega
         have hn1 : w.heap.size + 1 + 1 ≠ w.heap.size + 1 + 1 + 1 := by omega
         clear A9 D9 R9 K9 hW FF
         obtain ⟨r0, r1, r2, r3, r4, r5⟩ := (RF.bt (Bd W)).cells
         obtain ⟨x0, x1, x2, _, _, _⟩ := (XF.bt (Bd W)).cells
         obtain ⟨_, y1, _⟩ := (KF.bt (Bd W)).cells
         obtain ⟨q0, q1, q2, q3, q4, q5⟩ := RF.cells
         obtain ⟨z0, z1, z2, _, _, _⟩ := XF.cells
         obtain ⟨_, t1, _⟩ := KF.cells
         go_wp2_with fail
         go_region
         go_wp2_with fail
         exact bodyPost_ret (out2 Tryz.results60 _ _ _ _ _ rfl rfl (show At _ _ _ from RF.set _ _ _)) rfl ⟨rfl, show Below _ _ _ from (Bset2 hbF (by omega) _ _ _).drew⟩)
      | (have FF := fin_old hb9 rfl R9 K9 (b := w7.heap.size) BX9 N9 rfl rfl (!(s == t), ab, cd)
         refine gen (P := Exit.then _ _ _ _) _ ?_
         intro W hW
         have F2 := FF W hW
         obtain ⟨hbF, RF, KF, XF⟩ := F2
         have hne : w.heap.size + 1 + 1 ≠ w7.heap.size := by have := K9.lt; have := N9; omega
         have hn1 : w.heap.size + 1 + 1 ≠ w.heap.size + 1 + 1 + 1 := by omega
         clear A9 D9 R9 K9 hW FF
         obtain ⟨r0, r1, r2, r3, r4, r5⟩ := (RF.bt (Bd W)).cells
         obtain ⟨x0, x1, x2, _, _, _⟩ := (XF.bt (Bd W)).cells
         obtain ⟨_, y1, _⟩ := (KF.bt (Bd W)).cells
         obtain ⟨q0, q1, q2, q3, q4, q5⟩ := RF.cells
         obtain ⟨z0, z1, z2, _, _, _⟩ := XF.cells
         obtain ⟨_, t1, _⟩ := KF.cells
         go_wp2_with fail
         go_region
         go_wp2_with fail
         exact bodyPost_ret (out2 Tryz.results60 _ _ _ _ _ rfl rfl (show At _ _ _ from RF.set _ _ _)) rfl ⟨rfl, show Below _ _ _ from (Bset2 hbF (by omega) _ _ _).drew⟩)
      | (have FF := fin_old hb9 rfl R9 K9 (b := w6.heap.size) BX9 N9 rfl rfl (!(s == t), ab, cd)
         refine gen (P := Exit.then _ _ _ _) _ ?_
         intro W hW
         have F2 := FF W hW
         obtain ⟨hbF, RF, KF, XF⟩ := F2
         have hne : w.heap.size + 1 + 1 ≠ w6.heap.size := by have := K9.lt; have := N9; omega
         have hn1 : w.heap.size + 1 + 1 ≠ w.heap.size + 1 + 1 + 1 := by omega
         clear A9 D9 R9 K9 hW FF
         obtain ⟨r0, r1, r2, r3, r4, r5⟩ := (RF.bt (Bd W)).cells
         obtain ⟨x0, x1, x2, _, _, _⟩ := (XF.bt (Bd W)).cells
         obtain ⟨_, y1, _⟩ := (KF.bt (Bd W)).cells
         obtain ⟨q0, q1, q2, q3, q4, q5⟩ := RF.cells
         obtain ⟨z0, z1, z2, _, _, _⟩ := XF.cells
         obtain ⟨_, t1, _⟩ := KF.cells
         go_wp2_with fail
         go_region
         go_wp2_with fail
         exact bodyPost_ret (out2 Tryz.results60 _ _ _ _ _ rfl rfl (show At _ _ _ from RF.set _ _ _)) rfl ⟨rfl, show Below _ _ _ from (Bset2 hbF (by omega) _ _ _).drew⟩)
      | (have FF := fin_old hb9 rfl R9 K9 (b := w5.heap.size) BX9 N9 rfl rfl (!(s == t), ab, cd)
         refine gen (P := Exit.then _ _ _ _) _ ?_
         intro W hW
         have F2 := FF W hW
         obtain ⟨hbF, RF, KF, XF⟩ := F2
         have hne : w.heap.size + 1 + 1 ≠ w5.heap.size := by have := K9.lt; have := N9; omega
         have hn1 : w.heap.size + 1 + 1 ≠ w.heap.size + 1 + 1 + 1 := by omega
         clear A9 D9 R9 K9 hW FF
         obtain ⟨r0, r1, r2, r3, r4, r5⟩ := (RF.bt (Bd W)).cells
         obtain ⟨x0, x1, x2, _, _, _⟩ := (XF.bt (Bd W)).cells
         obtain ⟨_, y1, _⟩ := (KF.bt (Bd W)).cells
         obtain ⟨q0, q1, q2, q3, q4, q5⟩ := RF.cells
         obtain ⟨z0, z1, z2, _, _, _⟩ := XF.cells
         obtain ⟨_, t1, _⟩ := KF.cells
         go_wp2_with fail
         go_region
         go_wp2_with fail
         exact bodyPost_ret (out2 Tryz.results60 _ _ _ _ _ rfl rfl (show At _ _ _ from RF.set _ _ _)) rfl ⟨rfl, show Below _ _ _ from (Bset2 hbF (by omega) _ _ _).drew⟩)
end Go.Proofs.YtkbncdcphohmiaaGreatDoor


/- Package ratio: reduced numbers. -/
set_option linter.unusedSimpArgs false
set_option linter.unusedVariables false
namespace Go.Proofs.YtkbncdcphohmiaaGreatDoor
open Go.RowKit
open Ra (Fit)
set_option maxRecDepth 100000

theorem reduced_bad (s : Bool) (n d : ByteArray) (e0 : Int) (w : World) (he : e0 ≠ 0) :
    Calls Tryz.prog 58 #[rV (s, n, d), .int .i64 e0] w fun e w' => e = .returned (.tuple #[rV zeroR, .int .i64 e0]) ∧ Below w.heap.size w w' := by
  have h2 := (nez he).1
  have HA := Lib.hid ((At.new (w.alloc (.cells #[.bool s, .string n, .string d] 32)) false nil' nil'))
  rw [size_al] at HA
  have hb0 := al2 w (.cells #[.bool s, .string n, .string d] 32) (.cells #[.bool false, .string nil', .string nil'] 32)
  unfold nil' at HA hb0
  unfold rV
  simp only
  go_enter Tryz.func58, Tryz.ntmps58
  go_wp2_with fail
  exact bodyPost_ret (out2 Tryz.results58 _ _ _ _ _ rfl rfl HA.out) rfl ⟨rfl, hb0⟩

theorem reduced_ok (s : Bool) (N D : Nat) (w : World) (hp : Pw w.heap.size w) (hN : N < LIM) (hD : D < LIM) (h0 : D ≠ 0) :
    Calls Tryz.prog 58 #[rV (s, tx N, tx D), .int .i64 0] w fun e w' => e = .returned (.tuple #[rV (rf (Ra.mk s N D)), .int .i64 0]) ∧ Below w.heap.size w w' := by
  have M := Lib.hid (fun v (hb : Below w.heap.size w v) => make_ok s N D v (hp.bt hb) hN hD h0)
  generalize rf (Ra.mk s N D) = r at *
  obtain ⟨s1, n1, d1⟩ := r
  generalize tx N = n at *
  generalize tx D = d at *
  clear hp
  have HA := Lib.hid ((At.new (w.alloc (.cells #[.bool s, .string n, .string d] 32)) false nil' nil'))
  rw [size_al] at HA
  have hb0 := al2 w (.cells #[.bool s, .string n, .string d] 32) (.cells #[.bool false, .string nil', .string nil'] 32)
  unfold nil' at HA hb0
  unfold rV at M ⊢
  simp only at M ⊢
  go_enter Tryz.func58, Tryz.ntmps58
  go_wp2_with fail
  refine (M.out _ hb0).mono ?_
  rintro e w1 ⟨rfl, hb1⟩
  have hb1' := Nb hb0 hb1
  have A1 := HA.out.bt hb1
  obtain ⟨c0, c1, c2, f0, f1, f2⟩ := A1.cells
  go_wp2_with fail
  exact bodyPost_ret (out2 Tryz.results58 _ _ _ _ _ rfl rfl (A1.set _ _ _)) rfl ⟨rfl, Bset2 hb1' (by omega) _ _ _⟩
end Go.Proofs.YtkbncdcphohmiaaGreatDoor
