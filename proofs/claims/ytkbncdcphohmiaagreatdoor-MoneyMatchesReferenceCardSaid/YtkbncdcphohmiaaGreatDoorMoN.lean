/- Layer 8: Convert; of. -/
import Derived.Test.YtkbncdcphohmiaaGreatDoorMoF
import Derived.Test.YtkbncdcphohmiaaGreatDoorRaL
set_option linter.unusedSimpArgs false
set_option linter.unusedVariables false
namespace Go.Proofs.YtkbncdcphohmiaaGreatDoor
open Go.RowKit
open Ra (Fit)
set_option maxRecDepth 100000

theorem Mo.of_any (m n : Int) (w : World) (hP : Pw w.heap.size w) (hm : -9223372036854775808 ≤ m ∧ m ≤ 9223372036854775807) (hn : -9223372036854775808 ≤ n ∧ n ≤ 9223372036854775807) :
    Calls Tryz.prog 26 #[.int .i64 m, .int .i64 n] w fun e w' => e = .returned (rV (ofF5 m n).1) ∧ Below w.heap.size w w' := by
  have O := Lib.hid (fun v (h : Below w.heap.size w v) => opOf m n v (hP.bt h) hm hn)
  generalize ofF5 m n = r at *
  obtain ⟨⟨s, x, y⟩, e0⟩ := r
  clear hm hn hP
  have hb1 := al w (.cells #[.bool false, .string ⟨#[]⟩, .string ⟨#[]⟩] 32)
  have R1 := At.new w false ⟨#[]⟩ ⟨#[]⟩
  unfold rV at O ⊢
  simp only at O ⊢
  go_enter Tryz.func26, Tryz.ntmps26
  go_wp2_with fail
  refine (O.out _ hb1).mono ?_
  rintro e w2 ⟨rfl, h2⟩
  have hb2 := Nb (Nb hb1 h2) (al w2 (.cells #[.bool s, .string x, .string y] 32))
  have R2 := (R1.bt h2).bt (al w2 (.cells #[.bool s, .string x, .string y] 32))
  have X2 := At.new w2 s x y
  clear hb1 R1 h2
  obtain ⟨r0, r1, r2, f0, f1, f2⟩ := R2.cells
  obtain ⟨x0, x1, x2, _, _, _⟩ := X2.cells
  go_wp2_with fail
  exact bodyPost_ret (out1 Tryz.results26 _ _ _ _ rfl (R2.set _ _ _)) rfl ⟨rfl, Bset2 hb2 (by omega) _ _ _⟩

theorem Mo.fit_q (m n : Int) (hn : n ≠ 0) (h1 : m.natAbs < 10 ^ 20) (h2 : n.natAbs < 10 ^ 20) : Fit L140 ((m : Rat) / (n : Rat)) := by
  rw [← mk_int]
  have h := Ra.mk_le (decide (m < 0) != decide (n < 0)) m.natAbs n.natAbs (by omega)
  have hl : 10 ^ 20 ≤ L140 := Nat.pow_le_pow_right (by omega) (by omega)
  exact ⟨Nat.lt_of_le_of_lt h.1 (Nat.lt_of_lt_of_le h1 hl), Nat.lt_of_le_of_lt h.2 (Nat.lt_of_lt_of_le h2 hl)⟩
theorem Mo.best_num {l : List Mo.Rt} {base : ByteArray} (hv : Mo.valid l base = true) (c : ByteArray) (day : Int) (h : 0 ≤ (Mo.best l c day).day) : Mo.best l c day ∈ l := by
  rcases Mo.best_is c day _ l rfl with ⟨e, _⟩ | ⟨_, hm, _⟩
  · rw [e] at h
    exact absurd h (by decide)
  · exact hm
/-- The numbers of a rate that is found. -/
structure Mo.Nums (x : Mo.Rt) : Prop where
  n1 : 1 ≤ x.num
  n2 : x.num ≤ 1000000
  d1 : 1 ≤ x.den
  d2 : x.den ≤ 1000000
theorem Mo.find_nums {l : List Mo.Rt} {base c : ByteArray} {day : Int} (h : (Mo.find l base c day).2 = 0) : Mo.Nums (Mo.find l base c day).1 := by
  unfold Mo.find at h ⊢
  split
  · rename_i h1
    rw [if_pos h1] at h
    cases h
  · rename_i h1
    rw [if_neg h1] at h
    split
    · exact ⟨show (1 : Int) ≤ 1 by decide, show (1 : Int) ≤ 1000000 by decide, show (1 : Int) ≤ 1 by decide, show (1 : Int) ≤ 1000000 by decide⟩
    · rename_i h2
      rw [if_neg h2] at h
      split
      · rename_i h3
        rw [if_pos h3] at h
        cases h
      · rename_i h3
        have hv : Mo.valid l base = true := by
          cases hv : Mo.valid l base with
          | true => rfl
          | false => rw [hv] at h1; exact absurd rfl h1
        have hm := Mo.best_num hv c day (by omega)
        have hv' := hv
        simp only [Mo.valid, Bool.and_eq_true] at hv'
        have := List.all_eq_true.1 hv'.2.2.1 _ hm
        simp only [Mo.okR, Bool.and_eq_true, decide_eq_true_eq] at this
        exact ⟨this.2.2.2.1.1, this.2.2.2.1.2, this.2.2.2.2.1, this.2.2.2.2.2⟩
/-- The exact value of an amount in another currency, with its error. -/
def Mo.cv (u : Int) (x y : Mo.Rt) : Rat := (((u * x.num : Int) : Rat) / ((x.den : Int) : Rat)) / (((y.num : Int) : Rat) / ((y.den : Int) : Rat))
def Mo.conv (l : List Mo.Rt) (base c : ByteArray) (u : Int) (tc : ByteArray) (day : Int) : R3 × Int :=
  if (Mo.valid l base && Mo.proper c.data.toList u) = false then (zeroR, 1)
  else if (Mo.find l base c day).2 ≠ 0 then (zeroR, (Mo.find l base c day).2)
  else if (Mo.find l base tc day).2 ≠ 0 then (zeroR, (Mo.find l base tc day).2)
  else (rf (Mo.cv u (Mo.find l base c day).1 (Mo.find l base tc day).1), 0)

theorem Mo.conv_of {l : List Mo.Rt} {base c : ByteArray} {u : Int} {tc : ByteArray} {day : Int} (h1 : Mo.valid l base = true) (h2 : Mo.proper c.data.toList u = true) :
    Mo.conv l base c u tc day = if (Mo.find l base c day).2 ≠ 0 then (zeroR, (Mo.find l base c day).2) else if (Mo.find l base tc day).2 ≠ 0 then (zeroR, (Mo.find l base tc day).2) else (rf (Mo.cv u (Mo.find l base c day).1 (Mo.find l base tc day).1), 0) := by
  unfold Mo.conv
  rw [h1, h2, if_neg (by simp)]

set_option maxHeartbeats 8000000 in
theorem Mo.conv_any (A : Option Addr) (cp : Nat) (l : List Mo.Rt) (base c tc : ByteArray) (u day : Int) (w : World) (hP : Pw w.heap.size w) (hl : Mo.Rts w w.heap.size A l) (hg : Mo.AllGood l) (hbs : base.size ≤ maxLen) (hcs : c.size ≤ maxLen) (hts : tc.size ≤ maxLen) (hlen : l.length ≤ maxLen) :
    Calls Tryz.prog 13 #[.slice A l.length cp, .string base, .agg #[.string c, .int .i64 u], .string tc, .int .i64 day] w fun e w' => e = .returned (.tuple #[rV (Mo.conv l base c u tc day).1, .int .i64 (Mo.conv l base c u tc day).2]) ∧ Below w.heap.size w w' := by
  have C1 := Lib.hid (fun v (h : Below w.heap.size w v) => Mo.table_any A cp l base v (hl.bt h) hg hbs hlen)
  have C2 := Lib.hid (fun v => Mo.amount_any c u hcs v)
  have C3 := Lib.hid (fun b v (hT : Mo.Tab v b (Mo.base base :: l)) (hv : Mo.valid l base = true) => Mo.find_any b l base c day v hT hv hcs)
  have C4 := Lib.hid (fun b v (hT : Mo.Tab v b (Mo.base base :: l)) (hv : Mo.valid l base = true) => Mo.find_any b l base tc day v hT hv hts)
  have HP : Hid (∀ v, Below w.heap.size w v → Pw v.heap.size v) := Lib.hid (fun v h => hP.bt h)
  have HBD : Hid ((Mo.valid l base && Mo.proper c.data.toList u) = false → Mo.conv l base c u tc day = (zeroR, 1)) := Lib.hid (fun h => by unfold Mo.conv; rw [if_pos h])
  have HOK : Hid (Mo.valid l base = true → Mo.proper c.data.toList u = true → Mo.conv l base c u tc day = if (Mo.find l base c day).2 ≠ 0 then (zeroR, (Mo.find l base c day).2) else if (Mo.find l base tc day).2 ≠ 0 then (zeroR, (Mo.find l base tc day).2) else (rf (Mo.cv u (Mo.find l base c day).1 (Mo.find l base tc day).1), 0)) := Lib.hid Mo.conv_of
  have HU : Hid (Mo.proper c.data.toList u = true → -1000000000000 ≤ u ∧ u ≤ 1000000000000) := Lib.hid (fun h => by
    simp only [Mo.proper, Bool.and_eq_true, decide_eq_true_eq] at h
    exact h.2)
  have N1 : Hid ((Mo.find l base c day).2 = 0 → Mo.Nums (Mo.find l base c day).1) := Lib.hid Mo.find_nums
  have N2 : Hid ((Mo.find l base tc day).2 = 0 → Mo.Nums (Mo.find l base tc day).1) := Lib.hid Mo.find_nums
  have B1 : Hid (Below w.heap.size w ((w.alloc (.cells #[.string c, .int .i64 u] 24)).alloc (.cells #[.bool false, .string ⟨#[]⟩, .string ⟨#[]⟩] 32))) := Lib.hid (Mo.Nb (Mo.al w _) (Mo.al _ _))
  have K7 : Hid (Bk ((w.alloc (.cells #[.string c, .int .i64 u] 24)).alloc (.cells #[.bool false, .string ⟨#[]⟩, .string ⟨#[]⟩] 32)) w.heap.size 24 #[.string c, .int .i64 u]) := Lib.hid ((Bk.new w _ _).bt (Mo.al _ _))
  have K10 : Hid (At ((w.alloc (.cells #[.string c, .int .i64 u] 24)).alloc (.cells #[.bool false, .string ⟨#[]⟩, .string ⟨#[]⟩] 32)) (w.heap.size + 1) (false, ⟨#[]⟩, ⟨#[]⟩)) := Lib.hid (by
    have := At.new (w.alloc (.cells #[.string c, .int .i64 u] 24)) false ⟨#[]⟩ ⟨#[]⟩
    simp only [World.size_alloc] at this
    exact this)
  clear hl hg hlen hP
  generalize l.length = n at *
  generalize Mo.conv l base c u tc day = R at *
  generalize Mo.find l base c day = r1 at *
  generalize Mo.find l base tc day = r2 at *
  generalize Mo.proper c.data.toList u = pr at *
  obtain ⟨x, e1⟩ := r1
  obtain ⟨y, e2⟩ := r2
  unfold Mo.ret at C3 C4
  simp only at C3 C4 HOK N1 N2
  go_enter Tryz.func13, Tryz.ntmps13
  go_wp2_with fail
  refine (C1.out _ B1.out).mono ?_
  rintro e w1 ⟨hb, ⟨hv, rfl⟩ | ⟨hv, rfl, hT⟩⟩
  · have HR : Hid (R = (zeroR, 1)) := Lib.hid (HBD.out (by rw [hv]; rfl))
    have hb2 := Mo.Nb B1.out hb
    obtain ⟨r0, r1, r2, f0, f1, f2⟩ := (K10.out.bt hb).cells
    have K := Lib.hid (K10.out.bt hb)
    clear hv hb B1 K7 K10 C1 C2 C3 C4 HBD HOK
    go_wp2
    exact bodyPost_ret (out2 Tryz.results13 _ _ _ _ _ rfl rfl (K.out.set _ _ _)) rfl ⟨by rw [HR.out]; rfl, Bset2 hb2 (by omega) _ _ _⟩
  · simp only [World.size_alloc] at hT ⊢
    have HT := Lib.hid hT
    have HV := Lib.hid hv
    have B2 := Lib.hid (Mo.Nb B1.out hb)
    have K8 := Lib.hid (K7.out.bt hb)
    have K11 := Lib.hid (K10.out.bt hb)
    have m0 := K8.out.cell 0 _ rfl
    have m1 := K8.out.cell 1 _ rfl
    clear hv hb B1 K7 K10 C1 hT
    go_wp2_with fail
    refine (C2.out _).mono ?_
    rintro e w2 ⟨rfl, hb2⟩
    have HT2 := Lib.hid (HT.out.bt hb2)
    have B3 := Lib.hid (Mo.Nb B2.out hb2)
    have K9 := Lib.hid (K8.out.bt hb2)
    have K12 := Lib.hid (K11.out.bt hb2)
    clear hb2 B2 K8 K11 HT m0 m1
    cases pr with
    | false =>
      have HR : Hid (R = (zeroR, 1)) := Lib.hid (HBD.out (by simp))
      obtain ⟨r0, r1, r2, f0, f1, f2⟩ := K12.out.cells
      clear C2 C3 C4 HBD HOK
      go_wp2
      exact bodyPost_ret (out2 Tryz.results13 _ _ _ _ _ rfl rfl (K12.out.set _ _ _)) rfl ⟨by rw [HR.out]; rfl, Bset2 B3.out (by omega) _ _ _⟩
    | true =>
      have HR1 := Lib.hid (HOK.out HV.out rfl)
      have HUU := HU.out rfl
      have C3' := Lib.hid (C3.out _ w2 HT2.out HV.out)
      clear HBD HOK HU C3 C2
      have m0 := K9.out.cell 0 _ rfl
      have m1 := K9.out.cell 1 _ rfl
      go_wp2_with fail
      refine C3'.out.mono ?_
      rintro e w3 ⟨rfl, hb3⟩
      have HT3 := Lib.hid (HT2.out.bt hb3)
      have B4 := Lib.hid (Mo.Nb B3.out hb3)
      have K13 := Lib.hid (K9.out.bt hb3)
      have K14 := Lib.hid (K12.out.bt hb3)
      have BXX := Lib.hid (Bk.new w3 27 #[.string x.cur, .int .i64 x.day, .int .i64 x.num, .int .i64 x.den])
      have A3 := Lib.hid (Mo.al w3 (.cells #[.string x.cur, .int .i64 x.day, .int .i64 x.num, .int .i64 x.den] 27))
      have K15 := Lib.hid (K13.out.bt A3.out)
      have K16 := Lib.hid (K14.out.bt A3.out)
      have B5 := Lib.hid (Mo.Nb B4.out A3.out)
      clear hb3 HT2 B3 K9 K12 C3' m0 m1
      by_cases h1 : e1 = 0
      · subst h1
        have NX := N1.out rfl
        have HR2 : Hid (R = if e2 ≠ 0 then (zeroR, e2) else (rf (Mo.cv u x y), 0)) := Lib.hid (by rw [HR1.out]; simp)
        have C4' := Lib.hid (C4.out _ _ (HT3.out.bt A3.out) HV.out)
        have nx := Lib.hid NX
        clear HR1 C4 N1 NX
        go_wp2_with fail
        refine C4'.out.mono ?_
        rintro e w4 ⟨rfl, hb4⟩
        have K17 := Lib.hid (K15.out.bt hb4)
        have K18 := Lib.hid (K16.out.bt hb4)
        have B6 := Lib.hid (Mo.Nb B5.out hb4)
        have XB := Lib.hid (BXX.out.bt hb4)
        have A4 := Lib.hid (Mo.al w4 (.cells #[.string y.cur, .int .i64 y.day, .int .i64 y.num, .int .i64 y.den] 27))
        have YB := Lib.hid (Bk.new w4 27 #[.string y.cur, .int .i64 y.day, .int .i64 y.num, .int .i64 y.den])
        have K19 := Lib.hid (K17.out.bt A4.out)
        have K20 := Lib.hid (K18.out.bt A4.out)
        have XB2 := Lib.hid (XB.out.bt A4.out)
        have B7 := Lib.hid (Mo.Nb B6.out A4.out)
        have HZ4 : Hid (w3.heap.size < w4.heap.size) := Lib.hid (by have := hb4.size; simp at this; omega)
        clear hb4 K13 K14 K15 K16 BXX A3 B4 B5 C4' HT3 K17 K18 XB B6
        by_cases h2 : e2 = 0
        · subst h2
          have NY := N2.out rfl
          have HR3 : Hid (R = (rf (Mo.cv u x y), 0)) := Lib.hid (by rw [HR2.out]; simp)
          have hux : -1000000000000000000 ≤ u * x.num ∧ u * x.num ≤ 1000000000000000000 := by
            have a1 := nx.out.n1
            have a2 := nx.out.n2
            obtain ⟨b1, b2⟩ := HUU
            have q1 := Int.mul_le_mul_of_nonneg_right b1 (show 0 ≤ x.num by omega)
            have q2 := Int.mul_le_mul_of_nonneg_right b2 (show 0 ≤ x.num by omega)
            generalize u * x.num = z at *
            omega
          obtain ⟨m, hm⟩ : ∃ m, m = u * x.num := ⟨_, rfl⟩
          rw [← hm] at hux
          have hw : wrap64 (u * x.num) = m := by rw [← hm]; exact IntWalk.wrap64_in _ ⟨by omega, by omega⟩
          have HQ : Hid (Mo.cv u x y = ((m : Rat) / ((x.den : Int) : Rat)) / (((y.num : Int) : Rat) / ((y.den : Int) : Rat))) := Lib.hid (by unfold Mo.cv; rw [hm])
          have x1 := nx.out.d1
          have x2 := nx.out.d2
          have y1 := NY.n1
          have y2 := NY.n2
          have y3 := NY.d1
          have y4 := NY.d2
          have O1 : Hid (∀ v, Below w.heap.size w v → Calls Tryz.prog 39 #[.int .i64 (wrap64 (u * x.num)), .int .i64 x.den] v fun e w' => e = .returned (.tuple #[rV (rf ((m : Rat) / ((x.den : Int) : Rat))), .int .i64 0]) ∧ Below v.heap.size v w') := Lib.hid (fun v h => by
            rw [hw]
            have := opOf m x.den v (HP.out v h) ⟨by omega, by omega⟩ ⟨by omega, by omega⟩
            unfold ofF5 at this
            rw [if_neg (by omega)] at this
            exact this)
          have O2 : Hid (∀ v, Below w.heap.size w v → Calls Tryz.prog 39 #[.int .i64 y.num, .int .i64 y.den] v fun e w' => e = .returned (.tuple #[rV (rf (((y.num : Int) : Rat) / ((y.den : Int) : Rat))), .int .i64 0]) ∧ Below v.heap.size v w') := Lib.hid (fun v h => by
            have := opOf y.num y.den v (HP.out v h) ⟨by omega, by omega⟩ ⟨by omega, by omega⟩
            unfold ofF5 at this
            rw [if_neg (by omega)] at this
            exact this)
          have O3 : Hid (∀ v, Below w.heap.size w v → Calls Tryz.prog 40 #[rV (rf ((m : Rat) / ((x.den : Int) : Rat))), rV (rf (((y.num : Int) : Rat) / ((y.den : Int) : Rat)))] v fun e w' => e = .returned (.tuple #[rV (rf (Mo.cv u x y)), .int .i64 0]) ∧ Below v.heap.size v w') := Lib.hid (fun v h => by
            have := divQ ((m : Rat) / ((x.den : Int) : Rat)) (((y.num : Int) : Rat) / ((y.den : Int) : Rat)) v (HP.out v h) (Mo.fit_q m x.den (by omega) (by omega) (by omega)) (Mo.fit_q y.num y.den (by omega) (by omega) (by omega)) (by
              rw [← mk_int]
              intro e
              have := (Ra.mk_zero _ _ _ (by omega)).1 e
              omega)
            rw [← HQ.out] at this
            exact this)
          generalize rf ((m : Rat) / ((x.den : Int) : Rat)) = q1 at *
          generalize rf (((y.num : Int) : Rat) / ((y.den : Int) : Rat)) = q2 at *
          generalize rf (Mo.cv u x y) = q3 at *
          obtain ⟨q10, q11, q12⟩ := q1
          obtain ⟨q20, q21, q22⟩ := q2
          obtain ⟨q30, q31, q32⟩ := q3
          unfold rV at O1 O2 O3
          simp only at O1 O2 O3
          have m0 := K19.out.cell 0 _ rfl
          have m1 := K19.out.cell 1 _ rfl
          have z2 := XB2.out.cell 2 _ rfl
          have z3 := XB2.out.cell 3 _ rfl
          clear hux hm hw HR2 HUU HQ
          go_wp2_with fail
          refine (O1.out _ B7.out).mono ?_
          rintro e w5 ⟨rfl, hb5⟩
          have B8 := Lib.hid (Mo.Nb B7.out hb5)
          have K21 := Lib.hid (K20.out.bt hb5)
          have Q1 := Lib.hid (At.new w5 q10 q11 q12)
          have A5 := Lib.hid (Mo.al w5 (.cells #[.bool q10, .string q11, .string q12] 32))
          have YB2 := Lib.hid ((YB.out.bt hb5).bt A5.out)
          have K22 := Lib.hid (K21.out.bt A5.out)
          have B9 := Lib.hid (Mo.Nb B8.out A5.out)
          have HZ5 : Hid (w4.heap.size < w5.heap.size) := Lib.hid (by have := hb5.size; simp at this; omega)
          clear hb5 K19 K20 B7 XB2 YB m0 m1 z2 z3 A4 O1
          have z2 := YB2.out.cell 2 _ rfl
          have z3 := YB2.out.cell 3 _ rfl
          go_wp2_with fail
          refine (O2.out _ B9.out).mono ?_
          rintro e w6 ⟨rfl, hb6⟩
          have B10 := Lib.hid (Mo.Nb B9.out hb6)
          have K23 := Lib.hid (K22.out.bt hb6)
          have Q2 := Lib.hid (Q1.out.bt hb6)
          have A6 := Lib.hid (Mo.al w6 (.cells #[.bool q20, .string q21, .string q22] 32))
          have Q3 := Lib.hid (Q2.out.bt A6.out)
          have K24 := Lib.hid (K23.out.bt A6.out)
          have B11 := Lib.hid (Mo.Nb B10.out A6.out)
          clear hb6 K21 K22 B8 B9 Q1 YB2 z2 z3 A5 O2 Q2 K23 B10
          obtain ⟨p0, p1, p2, _, _, _⟩ := Q3.out.cells
          go_wp2_with fail
          refine (O3.out _ B11.out).mono ?_
          rintro e w7 ⟨rfl, hb7⟩
          have B12 := Lib.hid (Mo.Nb B11.out hb7)
          have K25 := Lib.hid (K24.out.bt hb7)
          clear hb7 K24 B11 Q3 A6 O3 p0 p1 p2
          obtain ⟨r0, r1, r2, f0, f1, f2⟩ := K25.out.cells
          go_wp2
          exact bodyPost_ret (out2 Tryz.results13 _ _ _ _ _ rfl rfl (K25.out.set _ _ _)) rfl ⟨by rw [HR3.out]; rfl, Bset2 B12.out (by omega) _ _ _⟩
        · have HR3 : Hid (R = (zeroR, e2)) := Lib.hid (by rw [HR2.out, if_pos h2])
          have hne : (e2 != 0) = true := by simp [h2]
          obtain ⟨r0, r1, r2, f0, f1, f2⟩ := K20.out.cells
          clear HR2 h2 N2
          go_wp2
          exact bodyPost_ret (out2 Tryz.results13 _ _ _ _ _ rfl rfl (K20.out.set _ _ _)) rfl ⟨by rw [HR3.out]; rfl, Bset2 B7.out (by omega) _ _ _⟩
      · have HR2 : Hid (R = (zeroR, e1)) := Lib.hid (by rw [HR1.out, if_pos h1])
        have hne : (e1 != 0) = true := by simp [h1]
        obtain ⟨r0, r1, r2, f0, f1, f2⟩ := K16.out.cells
        clear HR1 h1 N1 N2 C4
        go_wp2
        exact bodyPost_ret (out2 Tryz.results13 _ _ _ _ _ rfl rfl (K16.out.set _ _ _)) rfl ⟨by rw [HR2.out]; rfl, Bset2 B5.out (by omega) _ _ _⟩
end Go.Proofs.YtkbncdcphohmiaaGreatDoor
