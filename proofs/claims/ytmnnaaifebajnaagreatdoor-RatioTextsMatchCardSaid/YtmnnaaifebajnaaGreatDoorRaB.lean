/- Package ratio: the small functions; Make and Valid. -/
import Derived.Test.YtmnnaaifebajnaaGreatDoorRaA
set_option linter.unusedSimpArgs false
set_option linter.unusedVariables false
namespace Go.Proofs.YtmnnaaifebajnaaGreatDoor
open Go.RowKit
open Ra (Fit)
set_option maxRecDepth 100000

/- The variable zero of package ratio. -/
def Zr (B : Nat) (w : World) : Prop := w.cell? ⟨0, 0, none⟩ = some (.bool false) ∧ w.cell? ⟨0, 1, none⟩ = some (.string ⟨#[48]⟩) ∧ w.cell? ⟨0, 2, none⟩ = some (.string ⟨#[49]⟩) ∧ 0 < B
def Pw (B : Nat) (w : World) : Prop := Pow B w ∧ Zr B w

theorem Zr.bt {w w' : World} (h : Zr w.heap.size w) (hb : Below w.heap.size w w') : Zr w'.heap.size w' := by
  obtain ⟨h1, h2, h3, h4⟩ := h
  exact ⟨(hb.cell (p := ⟨0, 0, none⟩) h4).trans h1, (hb.cell (p := ⟨0, 1, none⟩) h4).trans h2, (hb.cell (p := ⟨0, 2, none⟩) h4).trans h3, Nat.lt_of_lt_of_le h4 hb.size⟩
theorem al (w : World) (o : Obj) : Below w.heap.size w (w.alloc o) := (Below.refl _ _).alloc (Nat.le_refl _) o
theorem Pw.bt {w w' : World} (h : Pw w.heap.size w) (hb : Below w.heap.size w w') : Pw w'.heap.size w' := ⟨h.1.bt hb, h.2.bt hb⟩

theorem isLong_any (s : Bool) (n d : ByteArray) (b : Bool) (w : World) (h : (decide (140 < n.size) || decide (140 < d.size)) = b) (hn : n.size ≤ maxLen) (hd : d.size ≤ maxLen) :
    Calls Tryz.prog 69 #[.agg #[.bool s, .string n, .string d]] w fun e w' => e = .returned (.bool b) ∧ Below w.heap.size w w' := by
  unfold maxLen at hn hd
  cases b
  · simp only [Bool.or_eq_false_iff, decide_eq_false_iff_not] at h
    have k1 : ¬ (140 : Int) < n.size := by omega
    have k2 : ¬ (140 : Int) < d.size := by omega
    go_enter Tryz.func69, Tryz.ntmps69
    go_wp2_with fail
    go_ret
    exact ⟨rfl, al _ _⟩
  · by_cases k1 : 140 < n.size
    · have k1' : (140 : Int) < n.size := by omega
      clear h
      go_enter Tryz.func69, Tryz.ntmps69
      go_wp2_with fail
      go_ret
      exact ⟨rfl, al _ _⟩
    · have k1' : ¬ (140 : Int) < n.size := by omega
      have k2' : (140 : Int) < d.size := by simp [k1] at h; omega
      clear h
      go_enter Tryz.func69, Tryz.ntmps69
      go_wp2_with fail
      go_ret
      exact ⟨rfl, al _ _⟩

theorem al2 (w : World) (o o' : Obj) : Below w.heap.size w ((w.alloc o).alloc o') := Nb (al w o) (al _ o')

theorem same_any (s : Bool) (n d : ByteArray) (w : World) :
    Calls Tryz.prog 41 #[.agg #[.bool s, .string n, .string d]] w fun e w' => e = .returned (.agg #[.bool s, .string n, .string d]) ∧ Below w.heap.size w w' := by
  go_enter Tryz.func41, Tryz.ntmps41
  go_wp2_with fail
  refine bodyPost_ret (v := .agg #[.bool s, .string n, .string d]) (by simp [results, Tryz.results41, go_sem]) rfl ⟨rfl, al2 _ _ _⟩

theorem reciprocal_any (s : Bool) (n d : ByteArray) (w : World) :
    Calls Tryz.prog 54 #[.agg #[.bool s, .string n, .string d]] w fun e w' => e = .returned (.agg #[.bool s, .string d, .string n]) ∧ Below w.heap.size w w' := by
  go_enter Tryz.func54, Tryz.ntmps54
  go_wp2_with fail
  refine bodyPost_ret (v := .agg #[.bool s, .string d, .string n]) (by simp [results, Tryz.results54, go_sem]) rfl ⟨rfl, al2 _ _ _⟩

theorem opp_neg (n d : ByteArray) (w : World) (hz : Zr w.heap.size w) :
    Calls Tryz.prog 51 #[.agg #[.bool true, .string n, .string d]] w fun e w' => e = .returned (.agg #[.bool false, .string n, .string d]) ∧ Below w.heap.size w w' := by
  obtain ⟨z1, z2, z3, z4⟩ := hz
  go_enter Tryz.func51, Tryz.ntmps51
  go_wp2_with fail
  refine bodyPost_ret (v := .agg #[.bool false, .string n, .string d]) (by simp [results, Tryz.results51, go_sem]) rfl ⟨rfl, al2 _ _ _⟩

theorem opp_zero (w : World) (hz : Zr w.heap.size w) :
    Calls Tryz.prog 51 #[.agg #[.bool false, .string ⟨#[48]⟩, .string ⟨#[49]⟩]] w fun e w' => e = .returned (.agg #[.bool false, .string ⟨#[48]⟩, .string ⟨#[49]⟩]) ∧ Below w.heap.size w w' := by
  obtain ⟨z1, z2, z3, z4⟩ := hz
  go_enter Tryz.func51, Tryz.ntmps51
  go_wp2_with fail
  refine bodyPost_ret (v := .agg #[.bool false, .string ⟨#[48]⟩, .string ⟨#[49]⟩]) (by simp [results, Tryz.results51, go_sem]) rfl ⟨rfl, al2 _ _ _⟩

theorem opp_pos (n d : ByteArray) (w : World) (hz : Zr w.heap.size w) (hn : n.toList ≠ [48]) :
    Calls Tryz.prog 51 #[.agg #[.bool false, .string n, .string d]] w fun e w' => e = .returned (.agg #[.bool true, .string n, .string d]) ∧ Below w.heap.size w w' := by
  obtain ⟨z1, z2, z3, z4⟩ := hz
  go_enter Tryz.func51, Tryz.ntmps51
  go_wp2_with fail
  refine bodyPost_ret (v := .agg #[.bool true, .string n, .string d]) (by simp [results, Tryz.results51, go_sem]) rfl ⟨rfl, al2 _ _ _⟩

theorem tx_one : tx 1 = ⟨#[49]⟩ := tx_of [49] 1 (by decide) (by decide)
theorem rf_zero : rf 0 = (false, ⟨#[48]⟩, ⟨#[49]⟩) := by
  show (decide ((0 : Rat) < 0), tx 0, tx 1) = _
  rw [tx_zero, tx_one]
  rfl
theorem tx_ne48 {m : Nat} (h : m ≠ 0) : (tx m).toList ≠ [48] := by
  have h1 : tx m ≠ ⟨#[48]⟩ := fun e => h (tx_inj (e.trans tx_zero.symm))
  simpa using ne48 h1

def rV (r : R3) : Value := .agg #[.bool r.1, .string r.2.1, .string r.2.2]

theorem opposite_rf (q : Rat) (w : World) (hz : Zr w.heap.size w) :
    Calls Tryz.prog 51 #[rV (rf q)] w fun e w' => e = .returned (rV (rf (-q))) ∧ Below w.heap.size w w' := by
  by_cases h0 : q = 0
  · subst h0
    rw [Rat.neg_zero, rf_zero]
    exact opp_zero w hz
  · have hn : q.num.natAbs ≠ 0 := fun e => h0 (abs_zero.1 e)
    unfold rV rf
    simp only [Rat.neg_num, Rat.neg_den, Int.natAbs_neg]
    by_cases h1 : q < 0
    · have h2 : ¬ -q < 0 := by grind
      rw [decide_eq_true h1, decide_eq_false h2]
      exact opp_neg _ _ w hz
    · have h2 : -q < 0 := by grind
      rw [decide_eq_false h1, decide_eq_true h2]
      exact opp_pos _ _ w hz (tx_ne48 hn)

/- A number that the call made, at a block. -/
def At (w : World) (b : Nat) (r : R3) : Prop := w.heap[b]? = some (.cells #[.bool r.1, .string r.2.1, .string r.2.2] 23 (0, 0))
theorem At.bt {w w' : World} {b : Nat} {r : R3} (h : At w b r) (hb : Below w.heap.size w w') : At w' b r := (hb.block b (Array.getElem?_eq_some_iff.1 h).1).trans h
theorem At.cells {w : World} {b : Nat} {s : Bool} {n d : ByteArray} (h : At w b (s, n, d)) : w.cell? ⟨b, 0, none⟩ = some (.bool s) ∧ w.cell? ⟨b, 1, none⟩ = some (.string n) ∧ w.cell? ⟨b, 2, none⟩ = some (.string d) ∧ w.frozen? ⟨b, 0, none⟩ = false ∧ w.frozen? ⟨b, 1, none⟩ = false ∧ w.frozen? ⟨b, 2, none⟩ = false := by
  unfold At at h
  exact ⟨by rw [Lib.cell_of_heap h]; rfl, by rw [Lib.cell_of_heap h]; rfl, by rw [Lib.cell_of_heap h]; rfl, Lib.frozen_of_heap h 0, Lib.frozen_of_heap h 1, Lib.frozen_of_heap h 2⟩
theorem At.new (w : World) (s : Bool) (n d : ByteArray) : At (w.alloc (.cells #[.bool s, .string n, .string d] 23)) w.heap.size (s, n, d) := heap_alloc_new _ _

theorem At.set {w : World} {b : Nat} {r : R3} (h : At w b r) (s : Bool) (n d : ByteArray) : At (((w.setCell ⟨b, 0, none⟩ (.bool s)).setCell ⟨b, 1, none⟩ (.string n)).setCell ⟨b, 2, none⟩ (.string d)) b (s, n, d) := by
  unfold At at h ⊢
  exact heap_setCell_same _ b 2 _ _ _ (heap_setCell_same _ b 1 _ _ _ (heap_setCell_same w b 0 _ _ _ h))
theorem out2 {fn : Func} {p u : Tmp} (h : fn.results = #[.cell p 23, .tmp u]) (tmps : Array Value) (w : World) (b : Nat) (r : R3) (e : Value) (hp : tmps.getD p undef = .pointer (some ⟨b, 0, none⟩)) (he : tmps.getD u undef = e) (hA : At w b r) :
    (results fn tmps).run Tryz.prog w = .ok (.tuple #[rV r, e]) w := by
  rw [results_cell_tmp h, hp]
  have : (asAddr (.pointer (some ⟨b, 0, none⟩))).run Tryz.prog w = .ok ⟨b, 0, none⟩ w := rfl
  rw [this]
  simp only [Result.andThen]
  rw [run_loadVar_row w b _ _ _ _ _ hA Tryz.underlying23 rfl (by kernel_rfl)]
  simp only [Result.andThen, he]
  rfl
theorem out1 {fn : Func} {p : Tmp} (h : fn.results = #[.cell p 23]) (tmps : Array Value) (w : World) (b : Nat) (r : R3) (hp : tmps.getD p undef = .pointer (some ⟨b, 0, none⟩)) (hA : At w b r) :
    (results fn tmps).run Tryz.prog w = .ok (rV r) w :=
  results_cell_row h tmps w b _ _ _ _ hp hA Tryz.underlying23 rfl (by kernel_rfl)
theorem Bset {w v : World} (h : Below w.heap.size w v) (x y z : Value) : Below w.heap.size w (((v.setCell ⟨w.heap.size, 0, none⟩ x).setCell ⟨w.heap.size, 1, none⟩ y).setCell ⟨w.heap.size, 2, none⟩ z) :=
  ((h.setCell (Nat.le_refl _) _).setCell (Nat.le_refl _) _).setCell (Nat.le_refl _) _

theorem make_bad (s : Bool) (n d : ByteArray) (w : World) (hp : Pw w.heap.size w) (hn : n.size ≤ maxLen) (hd : d.size ≤ maxLen) (h : (isB n && isB d) = false) :
    Calls Tryz.prog 28 #[.bool s, .string n, .string d] w fun e w' => e = .returned (.tuple #[rV zeroR, .int .i64 1]) ∧ Below w.heap.size w w' := by
  have G1 : Hid (∀ v, Below w.heap.size w v → Calls Tryz.prog 60 #[.string n, .string d] v fun e w' => e = .returned (.tuple #[.string nil', .int .i64 1]) ∧ Below v.heap.size v w') := by
    refine Lib.hid fun v hb => ?_
    have G1 := gcdF n d v hn hd (hp.bt hb).1
    unfold opF at G1
    rw [h] at G1
    simp only [Bool.false_eq_true, if_false] at G1
    exact G1
  clear hp
  have HA := Lib.hid (At.new w false nil' nil')
  have hb0 := al w (.cells #[.bool false, .string nil', .string nil'] 23)
  unfold nil' at HA hb0
  go_enter Tryz.func28, Tryz.ntmps28
  go_wp2_with fail
  refine (G1.out _ hb0).mono ?_
  rintro e w1 ⟨rfl, hb1⟩
  obtain ⟨c0, c1, c2, f0, f1, f2⟩ := (HA.out.bt hb1).cells
  go_wp2_with fail
  exact bodyPost_ret (out2 Tryz.results28 _ _ _ _ _ rfl rfl ((HA.out.bt hb1).set _ _ _)) rfl ⟨rfl, Bset (Nb hb0 hb1) _ _ _⟩

theorem make_zero (s : Bool) (a : Nat) (w : World) (hp : Pw w.heap.size w) (ha : a < LIM) :
    Calls Tryz.prog 28 #[.bool s, .string (tx a), .string (tx 0)] w fun e w' => e = .returned (.tuple #[rV zeroR, .int .i64 15]) ∧ Below w.heap.size w w' := by
  have l0 : (0 : Nat) < LIM := Nat.lt_of_le_of_lt (Nat.zero_le a) ha
  have G1 : Hid (∀ v, Below w.heap.size w v → Calls Tryz.prog 60 #[.string (tx a), .string (tx 0)] v fun e w' => e = .returned (.tuple #[.string (tx a), .int .i64 0]) ∧ Below v.heap.size v w') := by
    refine Lib.hid fun v hb => ?_
    have G1 := gcdF (tx a) (tx 0) v (tx_len ha) (tx_len l0) (hp.bt hb).1
    rw [opF_ok _ _ _ (isB_txl ha) (isB_txl l0) (by rw [nv_tx, nv_tx, Nat.gcd_zero_right]; exact ha), nv_tx, nv_tx, Nat.gcd_zero_right] at G1
    exact G1
  rw [tx_zero] at G1 ⊢
  clear hp
  have HA := Lib.hid (At.new w false nil' nil')
  have hb0 := al w (.cells #[.bool false, .string nil', .string nil'] 23)
  unfold nil' at HA hb0
  generalize tx a = x at *
  go_enter Tryz.func28, Tryz.ntmps28
  go_wp2_with fail
  refine (G1.out _ hb0).mono ?_
  rintro e w1 ⟨rfl, hb1⟩
  obtain ⟨c0, c1, c2, f0, f1, f2⟩ := (HA.out.bt hb1).cells
  go_wp2_with fail
  exact bodyPost_ret (out2 Tryz.results28 _ _ _ _ _ rfl rfl ((HA.out.bt hb1).set _ _ _)) rfl ⟨rfl, Bset (Nb hb0 hb1) _ _ _⟩

theorem make_ok (s : Bool) (a b : Nat) (w : World) (hp : Pw w.heap.size w) (ha : a < LIM) (hb : b < LIM) (hb0 : b ≠ 0) :
    Calls Tryz.prog 28 #[.bool s, .string (tx a), .string (tx b)] w fun e w' => e = .returned (.tuple #[rV (rf (Ra.mk s a b)), .int .i64 0]) ∧ Below w.heap.size w w' := by
  have hg0 : Nat.gcd a b ≠ 0 := fun e => hb0 (Nat.eq_zero_of_gcd_eq_zero_right e)
  have hg : Nat.gcd a b < LIM := Nat.lt_of_le_of_lt (Nat.gcd_le_right _ (by omega)) hb
  have G1 : Hid (∀ v, Below w.heap.size w v → Calls Tryz.prog 60 #[.string (tx a), .string (tx b)] v fun e w' => e = .returned (.tuple #[.string (tx (Nat.gcd a b)), .int .i64 0]) ∧ Below v.heap.size v w') := by
    refine Lib.hid fun v hv => ?_
    have G1 := gcdF (tx a) (tx b) v (tx_len ha) (tx_len hb) (hp.bt hv).1
    rw [opF_ok _ _ _ (isB_txl ha) (isB_txl hb) (by rw [nv_tx, nv_tx]; exact hg), nv_tx, nv_tx] at G1
    exact G1
  have D1 := Lib.hid (fun v (hb' : Below w.heap.size w v) => div_tx a (Nat.gcd a b) v ha hg hg0 (hp.bt hb').1)
  have D2 := Lib.hid (fun v (hb' : Below w.heap.size w v) => div_tx b (Nat.gcd a b) v hb hg hg0 (hp.bt hb').1)
  have hnb := tx_ne48 hb0
  have hnb2 : ((tx b).toList == [48]) = false := by simpa using hnb
  have e1 : rf (Ra.mk s a b) = (s && decide (a ≠ 0), tx (a / Nat.gcd a b), tx (b / Nat.gcd a b)) := by
    unfold rf
    rw [Ra.mk_abs _ _ _ hb0, Ra.mk_den _ _ _ hb0]
    congr 1
    have := Ra.mk_neg s a b hb0
    cases s <;> by_cases h : a = 0 <;> simp_all
  rw [e1]
  clear e1 hp ha hb hb0 hg0 hg
  generalize tx (a / Nat.gcd a b) = x1 at *
  generalize tx (a % Nat.gcd a b) = x2 at *
  generalize tx (b / Nat.gcd a b) = y1 at *
  generalize tx (b % Nat.gcd a b) = y2 at *
  generalize tx (Nat.gcd a b) = gg at *
  generalize tx b = y at *
  have hx0 : a = 0 → tx a = ⟨#[48]⟩ := fun h => by rw [h, tx_zero]
  have hx1 : a ≠ 0 → (tx a).toList ≠ [48] := tx_ne48
  generalize tx a = x at *
  have HA := Lib.hid (At.new w false nil' nil')
  have hb0 := al w (.cells #[.bool false, .string nil', .string nil'] 23)
  unfold nil' at HA hb0
  by_cases h0 : a = 0
  · obtain rfl := hx0 h0
    rw [decide_eq_false (by simpa using h0), Bool.and_false]
    clear h0 hx0 hx1
    cases s
    · go_enter Tryz.func28, Tryz.ntmps28
      go_wp2_with fail
      refine (G1.out _ hb0).mono ?_
      rintro e w1 ⟨rfl, hb1⟩
      have hb1' := Nb hb0 hb1
      have A1 := HA.out.bt hb1
      go_wp2_with fail
      refine (D1.out w1 hb1').mono ?_
      rintro e w2 ⟨rfl, hb2⟩
      have hb2' := Nb hb1' hb2
      have A2 := A1.bt hb2
      go_wp2_with fail
      refine (D2.out w2 hb2').mono ?_
      rintro e w3 ⟨rfl, hb3⟩
      have hb3' := Nb hb2' hb3
      have A3 := A2.bt hb3
      obtain ⟨c0, c1, c2, f0, f1, f2⟩ := A3.cells
      go_wp2_with fail
      exact bodyPost_ret (out2 Tryz.results28 _ _ _ _ _ rfl rfl (A3.set _ _ _)) rfl ⟨rfl, Bset hb3' _ _ _⟩
    · go_enter Tryz.func28, Tryz.ntmps28
      go_wp2_with fail
      refine (G1.out _ hb0).mono ?_
      rintro e w1 ⟨rfl, hb1⟩
      have hb1' := Nb hb0 hb1
      have A1 := HA.out.bt hb1
      go_wp2_with fail
      refine (D1.out w1 hb1').mono ?_
      rintro e w2 ⟨rfl, hb2⟩
      have hb2' := Nb hb1' hb2
      have A2 := A1.bt hb2
      go_wp2_with fail
      refine (D2.out w2 hb2').mono ?_
      rintro e w3 ⟨rfl, hb3⟩
      have hb3' := Nb hb2' hb3
      have A3 := A2.bt hb3
      obtain ⟨c0, c1, c2, f0, f1, f2⟩ := A3.cells
      go_wp2_with fail
      exact bodyPost_ret (out2 Tryz.results28 _ _ _ _ _ rfl rfl (A3.set _ _ _)) rfl ⟨rfl, Bset hb3' _ _ _⟩
  · have hx := hx1 h0
    have hx2 : (x.toList == [48]) = false := by simpa using hx
    rw [decide_eq_true h0, Bool.and_true]
    clear h0 hx0 hx1
    cases s
    · go_enter Tryz.func28, Tryz.ntmps28
      go_wp2_with fail
      refine (G1.out _ hb0).mono ?_
      rintro e w1 ⟨rfl, hb1⟩
      have hb1' := Nb hb0 hb1
      have A1 := HA.out.bt hb1
      go_wp2_with fail
      refine (D1.out w1 hb1').mono ?_
      rintro e w2 ⟨rfl, hb2⟩
      have hb2' := Nb hb1' hb2
      have A2 := A1.bt hb2
      go_wp2_with fail
      refine (D2.out w2 hb2').mono ?_
      rintro e w3 ⟨rfl, hb3⟩
      have hb3' := Nb hb2' hb3
      have A3 := A2.bt hb3
      obtain ⟨c0, c1, c2, f0, f1, f2⟩ := A3.cells
      go_wp2_with fail
      exact bodyPost_ret (out2 Tryz.results28 _ _ _ _ _ rfl rfl (A3.set _ _ _)) rfl ⟨rfl, Bset hb3' _ _ _⟩
    · go_enter Tryz.func28, Tryz.ntmps28
      go_wp2_with fail
      refine (G1.out _ hb0).mono ?_
      rintro e w1 ⟨rfl, hb1⟩
      have hb1' := Nb hb0 hb1
      have A1 := HA.out.bt hb1
      go_wp2_with fail
      refine (D1.out w1 hb1').mono ?_
      rintro e w2 ⟨rfl, hb2⟩
      have hb2' := Nb hb1' hb2
      have A2 := A1.bt hb2
      go_wp2_with fail
      refine (D2.out w2 hb2').mono ?_
      rintro e w3 ⟨rfl, hb3⟩
      have hb3' := Nb hb2' hb3
      have A3 := A2.bt hb3
      obtain ⟨c0, c1, c2, f0, f1, f2⟩ := A3.cells
      go_wp2_with fail
      exact bodyPost_ret (out2 Tryz.results28 _ _ _ _ _ rfl rfl (A3.set _ _ _)) rfl ⟨rfl, Bset hb3' _ _ _⟩

theorem makeF_any (r : R3) (w : World) (hp : Pw w.heap.size w) (hn : r.2.1.size ≤ maxLen) (hd : r.2.2.size ≤ maxLen) :
    Calls Tryz.prog 28 #[.bool r.1, .string r.2.1, .string r.2.2] w fun e w' => e = .returned (.tuple #[rV (makeF r).1, .int .i64 (makeF r).2]) ∧ Below w.heap.size w w' := by
  obtain ⟨s, n, d⟩ := r
  unfold makeF
  by_cases h : (isB n && isB d) = true
  · have h' := h
    rw [Bool.and_eq_true] at h
    obtain ⟨a1, a2⟩ := isB_lt h.1
    obtain ⟨b1, b2⟩ := isB_lt h.2
    simp only [h', if_true]
    by_cases h0 : nv d = 0
    · rw [if_pos h0]
      have := make_zero s (nv n) w hp a1
      rw [← h0, a2, b2] at this
      exact this
    · rw [if_neg h0]
      have := make_ok s (nv n) (nv d) w hp a1 b1 h0
      rw [a2, b2] at this
      exact this
  · have h' : (isB n && isB d) = false := by simpa using h
    simp only [h', Bool.false_eq_true, if_false]
    exact make_bad s n d w hp hn hd h'

theorem valid_no (s : Bool) (n d : ByteArray) (w : World) (e1 : Int) (r : R3) (h : e1 ≠ 0)
    (M : Hid (∀ v, Below w.heap.size w v → Calls Tryz.prog 28 #[.bool s, .string n, .string d] v fun e w' => e = .returned (.tuple #[rV r, .int .i64 e1]) ∧ Below v.heap.size v w')) :
    Calls Tryz.prog 16 #[rV (s, n, d)] w fun e w' => e = .returned (.bool false) ∧ Below w.heap.size w w' := by
  obtain ⟨s', n', d'⟩ := r
  have h2 := (nez h).1
  have hb0 := al w (.cells #[.bool s, .string n, .string d] 23)
  unfold rV at M ⊢
  simp only at M ⊢
  go_enter Tryz.func16, Tryz.ntmps16
  go_wp2_with fail
  refine (M.out _ hb0).mono ?_
  rintro e w1 ⟨rfl, hb1⟩
  have A1 := (At.new w s n d).bt hb1
  obtain ⟨c0, c1, c2, f0, f1, f2⟩ := A1.cells
  go_wp2_with fail
  go_ret
  exact ⟨rfl, Nb (Nb hb0 hb1) (al _ _)⟩

theorem valid_is (s : Bool) (n d : ByteArray) (w : World)
    (M : Hid (∀ v, Below w.heap.size w v → Calls Tryz.prog 28 #[.bool s, .string n, .string d] v fun e w' => e = .returned (.tuple #[rV (s, n, d), .int .i64 0]) ∧ Below v.heap.size v w')) :
    Calls Tryz.prog 16 #[rV (s, n, d)] w fun e w' => e = .returned (.bool true) ∧ Below w.heap.size w w' := by
  have hb0 := al w (.cells #[.bool s, .string n, .string d] 23)
  unfold rV at M ⊢
  simp only at M ⊢
  go_enter Tryz.func16, Tryz.ntmps16
  go_wp2_with fail
  refine (M.out _ hb0).mono ?_
  rintro e w1 ⟨rfl, hb1⟩
  have A1 := (At.new w s n d).bt hb1
  obtain ⟨c0, c1, c2, f0, f1, f2⟩ := A1.cells
  obtain ⟨x0, x1, x2, _, _, _⟩ := (A1.bt (al w1 (.cells #[.bool s, .string n, .string d] 23))).cells
  go_wp2_with fail
  go_ret
  exact ⟨rfl, Nb (Nb hb0 hb1) (al _ _)⟩

theorem valid_ne (s : Bool) (n d : ByteArray) (w : World) (r : R3) (h : (s, n, d) ≠ r)
    (M : Hid (∀ v, Below w.heap.size w v → Calls Tryz.prog 28 #[.bool s, .string n, .string d] v fun e w' => e = .returned (.tuple #[rV r, .int .i64 0]) ∧ Below v.heap.size v w')) :
    Calls Tryz.prog 16 #[rV (s, n, d)] w fun e w' => e = .returned (.bool false) ∧ Below w.heap.size w w' := by
  obtain ⟨s', n', d'⟩ := r
  have hb0 := al w (.cells #[.bool s, .string n, .string d] 23)
  have hq : (s == s' && (n.toList == n'.toList && d.toList == d'.toList)) = false := by
    rw [← Bool.not_eq_true]
    intro hh
    simp only [Bool.and_eq_true, beq_iff_eq] at hh
    apply h
    rw [hh.1]
    have k1 : n = n' := by
      rcases Decidable.em (n = n') with e | e
      · exact e
      · have := bytes_ne e; rw [hh.2.1] at this; simp at this
    have k2 : d = d' := by
      rcases Decidable.em (d = d') with e | e
      · exact e
      · have := bytes_ne e; rw [hh.2.2] at this; simp at this
    rw [k1, k2]
  unfold rV at M ⊢
  simp only at M ⊢
  go_enter Tryz.func16, Tryz.ntmps16
  go_wp2_with fail
  refine (M.out _ hb0).mono ?_
  rintro e w1 ⟨rfl, hb1⟩
  have A1 := (At.new w s n d).bt hb1
  obtain ⟨c0, c1, c2, f0, f1, f2⟩ := A1.cells
  obtain ⟨x0, x1, x2, _, _, _⟩ := (A1.bt (al w1 (.cells #[.bool s', .string n', .string d'] 23))).cells
  go_wp2_with fail
  all_goals go_ret
  all_goals first | exact ⟨rfl, Nb (Nb hb0 hb1) (al _ _)⟩ | (exfalso; simp_all)

theorem valid_any (r : R3) (w : World) (hp : Pw w.heap.size w) (hn : r.2.1.size ≤ maxLen) (hd : r.2.2.size ≤ maxLen) :
    Calls Tryz.prog 16 #[rV r] w fun e w' => e = .returned (.bool (vR r)) ∧ Below w.heap.size w w' := by
  have M := Lib.hid (fun v (hb : Below w.heap.size w v) => makeF_any r v (hp.bt hb) hn hd)
  rw [makeF_valid]
  obtain ⟨s, n, d⟩ := r
  by_cases h : (makeF (s, n, d)).2 = 0
  · by_cases h1 : (s, n, d) = (makeF (s, n, d)).1
    · rw [decide_eq_true ⟨h, h1⟩]
      rw [h, ← h1] at M
      exact valid_is s n d w M
    · rw [decide_eq_false (fun k => h1 k.2)]
      rw [h] at M
      exact valid_ne s n d w _ h1 M
  · rw [decide_eq_false (fun k => h k.1)]
    exact valid_no s n d w _ _ h M
end Go.Proofs.YtmnnaaifebajnaaGreatDoor
