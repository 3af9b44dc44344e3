/- MoneyConverts. -/
import Derived.Test.YtkbncdcphohmiaaGreatDoorMoCvA
import Derived.Test.YtkbncdcphohmiaaGreatDoorMoTx
set_option linter.unusedSimpArgs false
set_option linter.unusedVariables false
namespace Go.Proofs.YtkbncdcphohmiaaGreatDoor
open Go.RowKit
set_option maxRecDepth 100000

/-- What a find without an error says. -/
theorem Mo.find_ok {l : List Mo.Rt} {base c : ByteArray} {day : Int} (h : (Mo.find l base c day).2 = 0) : Mo.valid l base = true ∧ Mo.ident c.data.toList = true ∧ Mo.dayOk day = true ∧ Mo.ident base.data.toList = true := by
  unfold Mo.find at h
  split at h
  · cases h
  · rename_i h1
    have h2 : (Mo.valid l base && (Mo.ident c.data.toList && Mo.dayOk day)) = true := by
      cases e : (Mo.valid l base && (Mo.ident c.data.toList && Mo.dayOk day)) with
      | true => rfl
      | false => exact absurd e h1
    simp only [Bool.and_eq_true] at h2
    refine ⟨h2.1, h2.2.1, h2.2.2, ?_⟩
    have hv := h2.1
    simp only [Mo.valid, Bool.and_eq_true] at hv
    exact hv.1
theorem Mo.find_base {l : List Mo.Rt} {base : ByteArray} {day : Int} (h1 : Mo.valid l base = true) (h2 : Mo.dayOk day = true) (h3 : Mo.ident base.data.toList = true) : Mo.find l base base day = (⟨base, 0, 1, 1⟩, 0) := by
  unfold Mo.find
  rw [h1, h2, h3, if_neg (by simp), if_pos rfl]
theorem Mo.conv_split {l : List Mo.Rt} {base c : ByteArray} {u : Int} {tc : ByteArray} {day : Int} (h : (Mo.conv l base c u tc day).2 = 0) :
    Mo.valid l base = true ∧ Mo.proper c.data.toList u = true ∧ (Mo.find l base c day).2 = 0 ∧ (Mo.find l base tc day).2 = 0 := by
  unfold Mo.conv at h
  split at h
  · cases h
  · rename_i h1
    have h2 : (Mo.valid l base && Mo.proper c.data.toList u) = true := by
      cases e : (Mo.valid l base && Mo.proper c.data.toList u) with
      | true => rfl
      | false => exact absurd e h1
    simp only [Bool.and_eq_true] at h2
    split at h
    · rename_i h3; exact absurd h h3
    · rename_i h3
      split at h
      · rename_i h4; exact absurd h h4
      · rename_i h4
        exact ⟨h2.1, h2.2, by simpa using h3, by simpa using h4⟩
theorem Mo.ident_len {c : ByteArray} (h : Mo.ident c.data.toList = true) : c.size ≤ maxLen := by
  have := Mo.ident_size h
  rw [Array.length_toList] at this
  have e : c.data.size = c.size := rfl
  unfold maxLen
  omega
theorem Mo.rat_ne {n : Int} (h : 1 ≤ n) : (n : Rat) ≠ 0 := by
  intro e
  have : n = 0 := by exact_mod_cast e
  omega
/-- The numbers of a conversion are small. -/
theorem Mo.cv_fit {u : Int} {x y : Mo.Rt} (hu : -1000000000000 ≤ u ∧ u ≤ 1000000000000) (hx : Mo.Nums x) (hy : Mo.Nums y) : Ra.Fit L140 (Mo.cv u x y) := by
  have a1 := hx.n1; have a2 := hx.n2; have a3 := hx.d1; have a4 := hx.d2
  have b1 := hy.n1; have b2 := hy.n2; have b3 := hy.d1; have b4 := hy.d2
  have h1 : (u * x.num).natAbs < 10 ^ 20 := by
    have q1 := Int.mul_le_mul_of_nonneg_right hu.1 (show 0 ≤ x.num by omega)
    have q2 := Int.mul_le_mul_of_nonneg_right hu.2 (show 0 ≤ x.num by omega)
    generalize u * x.num = z at *
    omega
  have f1 : Ra.Fit (10 ^ 20) (((u * x.num : Int) : Rat) / ((x.den : Int) : Rat)) := by
    rw [← mk_int]
    have h := Ra.mk_le (decide (u * x.num < 0) != decide (x.den < 0)) (u * x.num).natAbs x.den.natAbs (by omega)
    exact ⟨Nat.lt_of_le_of_lt h.1 h1, Nat.lt_of_le_of_lt h.2 (by omega)⟩
  have f2 : Ra.Fit (10 ^ 20) (((y.num : Int) : Rat) / ((y.den : Int) : Rat)) := by
    rw [← mk_int]
    have h := Ra.mk_le (decide (y.num < 0) != decide (y.den < 0)) y.num.natAbs y.den.natAbs (by omega)
    exact ⟨Nat.lt_of_le_of_lt h.1 (by omega), Nat.lt_of_le_of_lt h.2 (by omega)⟩
  have hne : ((y.num : Int) : Rat) / ((y.den : Int) : Rat) ≠ 0 := by
    rw [← mk_int]
    intro e
    have := (Ra.mk_zero _ _ _ (by omega)).1 e
    omega
  exact (Ra.Fit.div f1 f2 hne).mono (by unfold L140; decide +kernel)
theorem Mo.cv_own {u : Int} {x : Mo.Rt} (hx : Mo.Nums x) : Mo.cv u x x = (u : Rat) := by
  have h1 := Mo.rat_ne hx.n1
  have h2 := Mo.rat_ne hx.d1
  unfold Mo.cv
  rw [Rat.intCast_mul]
  grind
theorem Mo.cv_through {u : Int} {x y : Mo.Rt} {b : ByteArray} (hx : Mo.Nums x) (hy : Mo.Nums y) : Mo.cv u x ⟨b, 0, 1, 1⟩ * Mo.cv 1 ⟨b, 0, 1, 1⟩ y = Mo.cv u x y := by
  have h1 := Mo.rat_ne hy.n1
  have h2 := Mo.rat_ne hy.d1
  have h3 := Mo.rat_ne hx.d1
  unfold Mo.cv
  have e1 : ((1 : Int) : Rat) = 1 := rfl
  have e2 : ((1 * 1 : Int) : Rat) = 1 := rfl
  simp only [e1, e2]
  grind
theorem Mo.cv_add {u v : Int} {x y : Mo.Rt} (hx : Mo.Nums x) (hy : Mo.Nums y) : Mo.cv u x y + Mo.cv v x y = Mo.cv (u + v) x y := by
  have h1 := Mo.rat_ne hy.n1
  have h2 := Mo.rat_ne hy.d1
  have h3 := Mo.rat_ne hx.d1
  unfold Mo.cv
  rw [Rat.intCast_mul, Rat.intCast_mul, Rat.intCast_mul, Rat.intCast_add]
  grind

theorem Mo.rV_eta (r : R3) : rV r = .agg #[.bool r.1, .string r.2.1, .string r.2.2] := rfl
theorem converts_walk (A : Option Addr) (cp : Nat) (l : List Mo.Rt) (base c : ByteArray) (ua : Int) (c2 : ByteArray) (ub : Int) (tc : ByteArray) (day : Int) (w : World) (hP : Mo.Pa w.heap.size w) (hl : Mo.Rts w w.heap.size A l) (hg : Mo.AllGood l) (hlen : l.length ≤ maxLen) (hbs : base.size ≤ maxLen)
    (hcs : c.size ≤ maxLen) (hua : (Go.Lit.int .i64 ua).wf = true) (hc2 : c2.size ≤ maxLen) (hub : (Go.Lit.int .i64 ub).wf = true) (hts : tc.size ≤ maxLen) (hday : (Go.Lit.int .i64 day).wf = true) :
    Calls Tryz.prog 5 #[.slice A l.length cp, .string base, .agg #[.string c, .int .i64 ua], .agg #[.string c2, .int .i64 ub], .string tc, .int .i64 day] w fun e w' => e = .returned (.bool true) ∧ Below w.heap.size w w' := by
  have H := Lib.hid (fun v (h : Below w.heap.size w v) => Mo.head_any v (hP.bt h).pm)
  have CV : ∀ (c : ByteArray) (u : Int) (tc : ByteArray), c.size ≤ maxLen → tc.size ≤ maxLen → ∀ v, Below w.heap.size w v → Calls Tryz.prog 13 #[.slice A l.length cp, .string base, .agg #[.string c, .int .i64 u], .string tc, .int .i64 day] v fun e w' => e = .returned (.tuple #[rV (Mo.conv l base c u tc day).1, .int .i64 (Mo.conv l base c u tc day).2]) ∧ Below v.heap.size v w' :=
    fun c u tc h1 h2 v h => Mo.conv_any A cp l base c tc u day v (hP.bt h).pm.1 (hl.bt h) hg hbs h1 h2 hlen
  have CX := CV c ua tc hcs hts
  have CY := CV c ub tc hcs hts
  obtain ⟨us, hus⟩ : ∃ us, IntKind.i64.wrap (ua + ub) = us := ⟨_, rfl⟩
  by_cases hn : (20 : Int) < (l.length : Int)
  · exact Mo.cv_e1 (c2 := c2) (hus := hus) (hn := hn) (H := H) (CX := Lib.hid CX) (CY := Lib.hid CY)
  · by_cases h1 : (Mo.conv l base c ua tc day).2 = 0
    · by_cases h2 : (Mo.conv l base c ub tc day).2 = 0
      · obtain ⟨hv, hpa, hfx, hfy⟩ := Mo.conv_split h1
        obtain ⟨_, hpb, _, _⟩ := Mo.conv_split h2
        obtain ⟨_, hic, hd, hib⟩ := Mo.find_ok hfx
        obtain ⟨x, ex, NX⟩ : ∃ x, Mo.find l base c day = (x, 0) ∧ Mo.Nums x := ⟨_, Prod.ext rfl hfx, Mo.find_nums hfx⟩
        obtain ⟨y, ey, NY⟩ : ∃ y, Mo.find l base tc day = (y, 0) ∧ Mo.Nums y := ⟨_, Prod.ext rfl hfy, Mo.find_nums hfy⟩
        have eb := Mo.find_base (l := l) hv hd hib
        have NB : Mo.Nums ⟨base, 0, 1, 1⟩ := ⟨show (1 : Int) ≤ 1 by decide, show (1 : Int) ≤ 1000000 by decide, show (1 : Int) ≤ 1 by decide, show (1 : Int) ≤ 1000000 by decide⟩
        obtain ⟨_, ha1, ha2⟩ := Mo.proper_parts hpa
        obtain ⟨_, hb1, hb2⟩ := Mo.proper_parts hpb
        have hp1 : Mo.proper base.data.toList 1 = true := by
          simp only [Mo.proper, Bool.and_eq_true, decide_eq_true_eq]
          exact ⟨hib, by omega, by omega⟩
        have hus2 : us = ua + ub := by rw [← hus, IntKind.wrap_i64]; omega
        have vx := Mo.conv_ok (Mo.cv ua x y) hv hpa ex ey rfl
        have vy := Mo.conv_ok (Mo.cv ub x y) hv hpb ex ey rfl
        have vo := Mo.conv_ok (ua : Rat) hv hpa ex ex (Mo.cv_own NX)
        have vu := Mo.conv_ok (Mo.cv 1 ⟨base, 0, 1, 1⟩ y) hv hp1 eb ey rfl
        have vi := Mo.conv_ok (Mo.cv ua x ⟨base, 0, 1, 1⟩) hv hpa ex eb rfl
        have CO := CV c ua c hcs hcs
        have CU := CV base 1 tc hbs hts
        have CI := CV c ua base hcs hbs
        have CS := CV c us tc hcs hts
        rw [vx] at CX
        rw [vy] at CY
        rw [vo] at CO
        rw [vu] at CU
        rw [vi] at CI
        have hfit1 := Mo.cv_fit (u := ua) ⟨ha1, ha2⟩ NX NB
        have hfit2 := Mo.cv_fit (u := 1) ⟨by omega, by omega⟩ NB NY
        have hfit3 := Mo.cv_fit (u := ua) ⟨ha1, ha2⟩ NX NY
        have hfit4 := Mo.cv_fit (u := ub) ⟨hb1, hb2⟩ NX NY
        have OO : ∀ v, Below w.heap.size w v → Calls Tryz.prog 26 #[.int .i64 ua, .int .i64 1] v fun e w' => e = .returned (rV (rf (ua : Rat))) ∧ Below v.heap.size v w' := fun v h => by
          have := Mo.of_any ua 1 v (hP.bt h).pm.1 (by omega) (by omega)
          rw [show (ofF5 ua 1).1 = rf (ua : Rat) by rw [Mo.of_q _ _ (by decide)]; congr 1; show (ua : Rat) / (1 : Rat) = ua; grind] at this
          exact this
        have MU : ∀ v, Below w.heap.size w v → Calls Tryz.prog 27 #[rV (rf (Mo.cv ua x ⟨base, 0, 1, 1⟩)), rV (rf (Mo.cv 1 ⟨base, 0, 1, 1⟩ y))] v fun e w' => e = .returned (.tuple #[rV (rf (Mo.cv ua x y)), .int .i64 0]) ∧ Below v.heap.size v w' := fun v h => by
          have := mulQ _ _ v (hP.bt h).pm.1 hfit1 hfit2
          rw [Mo.cv_through NX NY] at this
          exact this
        have AD : ∀ v, Below w.heap.size w v → Calls Tryz.prog 28 #[rV (rf (Mo.cv ua x y)), rV (rf (Mo.cv ub x y))] v fun e w' => e = .returned (.tuple #[rV (rf (Mo.cv (ua + ub) x y)), .int .i64 0]) ∧ Below v.heap.size v w' := fun v h => by
          have := addQ _ _ v (hP.bt h).pm.1 hfit3 hfit4
          rw [Mo.cv_add NX NY] at this
          exact this
        by_cases hs : -1000000000000 ≤ us ∧ us ≤ 1000000000000
        · have hps : Mo.proper c.data.toList us = true := by
            simp only [Mo.proper, Bool.and_eq_true, decide_eq_true_eq]
            exact ⟨hic, hs.1, hs.2⟩
          have vs := Mo.conv_ok (Mo.cv us x y) hv hps ex ey rfl
          rw [vs] at CS
          rw [← hus2] at AD
          exact Mo.cv_ok0 (c2 := c2) (hus := hus) (hn := hn) (H := H) (CX := Lib.hid CX) (CY := Lib.hid CY) (CO := Lib.hid CO) (CU := Lib.hid CU) (CI := Lib.hid CI) (OO := Lib.hid OO) (MU := Lib.hid MU) (CS := Lib.hid CS) (AD := Lib.hid AD)
        · have hps : Mo.proper c.data.toList us = false := by
            cases e : Mo.proper c.data.toList us with
            | false => rfl
            | true =>
              simp only [Mo.proper, Bool.and_eq_true, decide_eq_true_eq] at e
              exact absurd e.2 hs
          have vs : Mo.conv l base c us tc day = (zeroR, 1) := by
            unfold Mo.conv
            rw [hps, if_pos (by simp)]
          rw [vs] at CS
          exact Mo.cv_ok1 (c2 := c2) (hus := hus) (hn := hn) (H := H) (CX := Lib.hid CX) (CY := Lib.hid CY) (CO := Lib.hid CO) (CU := Lib.hid CU) (CI := Lib.hid CI) (OO := Lib.hid OO) (MU := Lib.hid MU) (CS := Lib.hid CS) (AD := Lib.hid AD)
      · rw [h1] at CX
        exact Mo.cv_e3 (c2 := c2) (hus := hus) (hn := hn) (h1 := by simp [h2]) (H := H) (CX := Lib.hid CX) (CY := Lib.hid CY)
    · exact Mo.cv_e2 (c2 := c2) (hus := hus) (hn := hn) (h1 := by simp [h1]) (H := H) (CX := Lib.hid CX) (CY := Lib.hid CY)
end Go.Proofs.YtkbncdcphohmiaaGreatDoor
