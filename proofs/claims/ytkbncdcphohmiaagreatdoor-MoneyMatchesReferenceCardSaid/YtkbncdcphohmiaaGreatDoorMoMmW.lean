import Derived.Test.YtkbncdcphohmiaaGreatDoorMoRI
import Derived.Test.YtkbncdcphohmiaaGreatDoorRrFG
import Derived.Test.YtkbncdcphohmiaaGreatDoorMoTx
/- Layer 8: the reference's Convert. -/
set_option linter.unusedSimpArgs false
set_option linter.unusedVariables false
namespace Go.Proofs.YtkbncdcphohmiaaGreatDoor
open Go.RowKit
set_option maxRecDepth 100000

theorem Mo.rat_nz {n : Int} (h : 1 ≤ n) : (n : Rat) ≠ 0 := by
  intro e
  have : n = 0 := by exact_mod_cast e
  omega
theorem Mo.cv_ref {u : Int} {x y : Mo.Rt} (hx : Mo.Nums x) (hy : Mo.Nums y) : (u : Rat) * (((x.num * y.den : Int) : Rat) / ((x.den * y.num : Int) : Rat)) = Mo.cv u x y := by
  have h1 := Mo.rat_nz hy.n1
  have h2 := Mo.rat_nz hy.d1
  have h3 := Mo.rat_nz hx.d1
  unfold Mo.cv
  rw [Rat.intCast_mul, Rat.intCast_mul, Rat.intCast_mul]
  grind
theorem Mo.prod_lim {a b : Int} (h1 : 1 ≤ a) (h2 : a ≤ 1000000) (h3 : 1 ≤ b) (h4 : b ≤ 1000000) : 1 ≤ a * b ∧ a * b ≤ 1000000000000 := by
  have q1 := Int.mul_le_mul_of_nonneg_right h2 (show 0 ≤ b by omega)
  have q2 := Int.mul_le_mul_of_nonneg_right h1 (show 0 ≤ b by omega)
  generalize a * b = z at *
  omega

set_option maxHeartbeats 8000000 in
theorem Mo.rconv_any (A : Option Addr) (cp : Nat) (l : List Mo.Rt) (base c tc : ByteArray) (u day : Int) (w : World) (hl : Mo.Rts w w.heap.size A l) (hg : Mo.AllGood l) (hbs : base.size ≤ maxLen) (hcs : c.size ≤ maxLen) (hts : tc.size ≤ maxLen) (hn20 : l.length ≤ 20) :
    Calls Tryz.prog 14 #[.slice A l.length cp, .string base, .agg #[.string c, .int .i64 u], .string tc, .int .i64 day] w fun e w' => e = .returned (.tuple #[rV (Mo.conv l base c u tc day).1, .int .i64 (Mo.conv l base c u tc day).2]) ∧ Below w.heap.size w w' := by
  have C2 := Lib.hid (fun v => Mo.rproper_any c u hcs v)
  have C3 := Lib.hid (fun v (h : Below w.heap.size w v) => Mo.rfind_any A cp l base c day v (hl.bt h) hg hbs hcs hn20)
  have C4 := Lib.hid (fun v (h : Below w.heap.size w v) => Mo.rfind_any A cp l base tc day v (hl.bt h) hg hbs hts hn20)
  have HR0 : Hid (Mo.proper c.data.toList u = false → Mo.conv l base c u tc day = (zeroR, 1)) := Lib.hid (fun h => by unfold Mo.conv; rw [h, if_pos (by simp)])
  have HR1 : Hid (Mo.proper c.data.toList u = true → (Mo.find l base c day).2 ≠ 0 → Mo.conv l base c u tc day = (zeroR, (Mo.find l base c day).2)) := Lib.hid (fun h h1 => by
    cases hv : Mo.valid l base with
    | false =>
      have : Mo.find l base c day = (.zero, 1) := Mo.find_bad l base c day (by rw [hv]; rfl)
      unfold Mo.conv
      rw [hv, if_pos (by simp), this]
    | true => rw [Mo.conv_of hv h, if_pos h1])
  have HR2 : Hid (Mo.proper c.data.toList u = true → (Mo.find l base c day).2 = 0 → Mo.conv l base c u tc day = if (Mo.find l base tc day).2 ≠ 0 then (zeroR, (Mo.find l base tc day).2) else (rf (Mo.cv u (Mo.find l base c day).1 (Mo.find l base tc day).1), 0)) := Lib.hid (fun h h1 => by
    have hv : Mo.valid l base = true := by
      cases hv : Mo.valid l base with
      | true => rfl
      | false =>
        have : Mo.find l base c day = (.zero, 1) := Mo.find_bad l base c day (by rw [hv]; rfl)
        rw [this] at h1
        cases h1
    rw [Mo.conv_of hv h, if_neg (by simp [h1])])
  have HU : Hid (Mo.proper c.data.toList u = true → -1000000000000 ≤ u ∧ u ≤ 1000000000000) := Lib.hid (fun h => by
    simp only [Mo.proper, Bool.and_eq_true, decide_eq_true_eq] at h
    exact h.2)
  have N1 : Hid ((Mo.find l base c day).2 = 0 → Mo.Nums (Mo.find l base c day).1) := Lib.hid Mo.find_nums
  have N2 : Hid ((Mo.find l base tc day).2 = 0 → Mo.Nums (Mo.find l base tc day).1) := Lib.hid Mo.find_nums
  have B1 : Hid (Below w.heap.size w ((w.alloc (.cells #[.string c, .int .i64 u] 24)).alloc (.cells #[.bool false, .string ⟨#[]⟩, .string ⟨#[]⟩] 32))) := Lib.hid (Mo.Nb (Mo.al w _) (Mo.al _ _))
  have K7 : Hid (Bk ((w.alloc (.cells #[.string c, .int .i64 u] 24)).alloc (.cells #[.bool false, .string ⟨#[]⟩, .string ⟨#[]⟩] 32)) w.heap.size 24 #[.string c, .int .i64 u]) := Lib.hid ((Bk.new w _ _).bt (Mo.al _ _))
  have K10 : Hid (At ((w.alloc (.cells #[.string c, .int .i64 u] 24)).alloc (.cells #[.bool false, .string ⟨#[]⟩, .string ⟨#[]⟩] 32)) (w.heap.size + 1) (false, ⟨#[]⟩, ⟨#[]⟩)) := Lib.hid (by
    have := At.new (w.alloc (.cells #[.string c, .int .i64 u] 24)) false ⟨#[]⟩ ⟨#[]⟩
    simp only [World.size_alloc] at this
    exact this)
  clear hl hg hn20
  generalize l.length = n at *
  generalize Mo.conv l base c u tc day = R at *
  generalize Mo.find l base c day = r1 at *
  generalize Mo.find l base tc day = r2 at *
  generalize Mo.proper c.data.toList u = pr at *
  obtain ⟨x, e1⟩ := r1
  obtain ⟨y, e2⟩ := r2
  unfold Mo.ret at C3 C4
  simp only at C3 C4 HR1 HR2 N1 N2
  go_enter Tryz.func14, Tryz.ntmps14
  have m0 := K7.out.cell 0 _ rfl
  have m1 := K7.out.cell 1 _ rfl
  go_wp2_with fail
  refine (C2.out _).mono ?_
  rintro e w2 ⟨rfl, hb2⟩
  have B3 := Lib.hid (Mo.Nb B1.out hb2)
  have K9 := Lib.hid (K7.out.bt hb2)
  have K12 := Lib.hid (K10.out.bt hb2)
  clear hb2 B1 K7 K10 m0 m1
  cases pr with
  | false =>
    have HR := Lib.hid (HR0.out rfl)
    obtain ⟨r0, r1, r2, f0, f1, f2⟩ := K12.out.cells
    clear C2 C3 C4 HR0 HR1 HR2
    go_wp2
    exact bodyPost_ret (out2 Tryz.results14 _ _ _ _ _ rfl rfl (K12.out.set _ _ _)) rfl ⟨by rw [HR.out]; rfl, Bset2 B3.out (by omega) _ _ _⟩
  | true =>
    have HUU := HU.out rfl
    clear HR0 HU C2
    have m0 := K9.out.cell 0 _ rfl
    have m1 := K9.out.cell 1 _ rfl
    go_wp2_with fail
    refine (C3.out _ B3.out).mono ?_
    rintro e w3 ⟨rfl, hb3⟩
    have B4 := Lib.hid (Mo.Nb B3.out hb3)
    have K13 := Lib.hid (K9.out.bt hb3)
    have K14 := Lib.hid (K12.out.bt hb3)
    have BXX := Lib.hid (Bk.new w3 27 #[.string x.cur, .int .i64 x.day, .int .i64 x.num, .int .i64 x.den])
    have A3 := Lib.hid (Mo.al w3 (.cells #[.string x.cur, .int .i64 x.day, .int .i64 x.num, .int .i64 x.den] 27))
    have K15 := Lib.hid (K13.out.bt A3.out)
    have K16 := Lib.hid (K14.out.bt A3.out)
    have B5 := Lib.hid (Mo.Nb B4.out A3.out)
    clear hb3 B3 K9 K12 m0 m1
    by_cases h1 : e1 = 0
    · subst h1
      have nx := Lib.hid (N1.out rfl)
      have HR3 := Lib.hid (HR2.out trivial rfl)
      clear HR1 HR2 N1
      go_wp2_with fail
      refine (C4.out _ B5.out).mono ?_
      rintro e w4 ⟨rfl, hb4⟩
      have K17 := Lib.hid (K15.out.bt hb4)
      have K18 := Lib.hid (K16.out.bt hb4)
      have B6 := Lib.hid (Mo.Nb B5.out hb4)
      have XB := Lib.hid (BXX.out.bt hb4)
      have A4 := Lib.hid (Mo.al w4 (.cells #[.string y.cur, .int .i64 y.day, .int .i64 y.num, .int .i64 y.den] 27))
      have YB := Lib.hid (Bk.new w4 27 #[.string y.cur, .int .i64 y.day, .int .i64 y.num, .int .i64 y.den])
      have K19 := Lib.hid (K17.out.bt A4.out)
      have K20 := Lib.hid (K18.out.bt A4.out)
      have XB2 := Lib.hid (XB.out.bt A4.out)
      have B7 := Lib.hid (Mo.Nb B6.out A4.out)
      clear hb4 K13 K14 K15 K16 BXX A3 B4 B5 C4 C3 K17 K18 XB B6
      by_cases h2 : e2 = 0
      · subst h2
        have NY := N2.out rfl
        have HR4 : Hid (R = (rf (Mo.cv u x y), 0)) := Lib.hid (by rw [HR3.out]; simp)
        obtain ⟨d1, d2⟩ := Mo.prod_lim nx.out.n1 nx.out.n2 NY.d1 NY.d2
        obtain ⟨d3, d4⟩ := Mo.prod_lim nx.out.d1 nx.out.d2 NY.n1 NY.n2
        have w1e : wrap64 (x.num * y.den) = x.num * y.den := IntWalk.wrap64_in _ ⟨by omega, by omega⟩
        have w2e : wrap64 (x.den * y.num) = x.den * y.num := IntWalk.wrap64_in _ ⟨by omega, by omega⟩
        have fu : Ra.Fit (10 ^ 20) (u : Rat) := by
          refine ⟨?_, ?_⟩
          · rw [Rat.num_intCast]
            omega
          · rw [Rat.den_intCast]
            omega
        have fq : Ra.Fit L140 (((x.num * y.den : Int) : Rat) / ((x.den * y.num : Int) : Rat)) := Mo.fit_q _ _ (by omega) (by omega) (by omega)
        have fq2 : Ra.Fit (10 ^ 20) (((x.num * y.den : Int) : Rat) / ((x.den * y.num : Int) : Rat)) := by
          rw [← mk_int]
          have h := Ra.mk_le (decide (x.num * y.den < 0) != decide (x.den * y.num < 0)) (x.num * y.den).natAbs (x.den * y.num).natAbs (by omega)
          exact ⟨Nat.lt_of_le_of_lt h.1 (by omega), Nat.lt_of_le_of_lt h.2 (by omega)⟩
        have zz : ∀ {p : Rat}, Ra.Fit (10 ^ 20) p → (rf p).2.1.size ≤ 1000 ∧ (rf p).2.2.size ≤ 1000 := fun h => by
          have := (fit_size (k := 20) (by omega)).2 h
          omega
        have O1 : Hid (∀ v : World, Calls Tryz.prog 42 #[.int .i64 u, .int .i64 1] v fun e w' => e = .returned (.tuple #[rV (rf (u : Rat)), .int .i64 0]) ∧ Below v.heap.size v w') := Lib.hid (fun v => by
          have := rof u 1 v (by omega) (by omega)
          unfold ofF5 at this
          rw [if_neg (by omega)] at this
          have e : ((u : Int) : Rat) / ((1 : Int) : Rat) = (u : Rat) := by
            show (u : Rat) / (1 : Rat) = _
            grind
          rw [e] at this
          exact this)
        have O2 : Hid (∀ v : World, Calls Tryz.prog 42 #[.int .i64 (wrap64 (x.num * y.den)), .int .i64 (wrap64 (x.den * y.num))] v fun e w' => e = .returned (.tuple #[rV (rf (((x.num * y.den : Int) : Rat) / ((x.den * y.num : Int) : Rat))), .int .i64 0]) ∧ Below v.heap.size v w') := Lib.hid (fun v => by
          rw [w1e, w2e]
          have := rof (x.num * y.den) (x.den * y.num) v (by omega) (by omega)
          unfold ofF5 at this
          rw [if_neg (by omega)] at this
          exact this)
        have O3 : Hid (∀ v : World, Calls Tryz.prog 43 #[rV (rf (u : Rat)), rV (rf (((x.num * y.den : Int) : Rat) / ((x.den * y.num : Int) : Rat)))] v fun e w' => e = .returned (.tuple #[rV (rf (Mo.cv u x y)), .int .i64 0]) ∧ Below v.heap.size v w') := Lib.hid (fun v => by
          have := rmul_q (rf (u : Rat)) (rf (((x.num * y.den : Int) : Rat) / ((x.den * y.num : Int) : Rat))) v (zz fu) (zz fq2)
          rw [opQ_rf _ _ _ _ (fu.mono (Nat.pow_le_pow_right (by omega) (by omega))) fq rfl, Mo.cv_ref nx.out NY] at this
          exact this)
        generalize rf (((x.num * y.den : Int) : Rat) / ((x.den * y.num : Int) : Rat)) = q2 at *
        generalize rf (u : Rat) = q1 at *
        generalize rf (Mo.cv u x y) = q3 at *
        obtain ⟨q10, q11, q12⟩ := q1
        obtain ⟨q20, q21, q22⟩ := q2
        obtain ⟨q30, q31, q32⟩ := q3
        unfold rV at O1 O2 O3
        simp only at O1 O2 O3
        have m0 := K19.out.cell 0 _ rfl
        have m1 := K19.out.cell 1 _ rfl
        clear d1 d2 d3 d4 w1e w2e HR3 HUU fq NY nx
        go_wp2_with fail
        refine (O1.out _).mono ?_
        rintro e w5 ⟨rfl, hb5⟩
        have B8 := Lib.hid (Mo.Nb B7.out hb5)
        have K21 := Lib.hid (K20.out.bt hb5)
        have Q1 := Lib.hid (At.new w5 q10 q11 q12)
        have A5 := Lib.hid (Mo.al w5 (.cells #[.bool q10, .string q11, .string q12] 32))
        have YB2 := Lib.hid ((YB.out.bt hb5).bt A5.out)
        have XB3 := Lib.hid ((XB2.out.bt hb5).bt A5.out)
        have K22 := Lib.hid (K21.out.bt A5.out)
        have B9 := Lib.hid (Mo.Nb B8.out A5.out)
        clear hb5 K19 K20 B7 XB2 YB m0 m1 A4 O1
        have z2 := YB2.out.cell 2 _ rfl
        have z3 := YB2.out.cell 3 _ rfl
        have y2 := XB3.out.cell 2 _ rfl
        have y3 := XB3.out.cell 3 _ rfl
        go_wp2_with fail
        refine (O2.out _).mono ?_
        rintro e w6 ⟨rfl, hb6⟩
        have B10 := Lib.hid (Mo.Nb B9.out hb6)
        have K23 := Lib.hid (K22.out.bt hb6)
        have A6 := Lib.hid (Mo.al w6 (.cells #[.bool q20, .string q21, .string q22] 32))
        have Q3 := Lib.hid ((Q1.out.bt hb6).bt A6.out)
        have K24 := Lib.hid (K23.out.bt A6.out)
        have B11 := Lib.hid (Mo.Nb B10.out A6.out)
        clear hb6 K21 K22 B8 B9 Q1 YB2 XB3 z2 z3 y2 y3 A5 O2 K23 B10
        obtain ⟨p0, p1, p2, _, _, _⟩ := Q3.out.cells
        go_wp2_with fail
        refine (O3.out _).mono ?_
        rintro e w7 ⟨rfl, hb7⟩
        have B12 := Lib.hid (Mo.Nb B11.out hb7)
        have K25 := Lib.hid (K24.out.bt hb7)
        clear hb7 K24 B11 Q3 A6 O3 p0 p1 p2
        obtain ⟨r0, r1, r2, f0, f1, f2⟩ := K25.out.cells
        go_wp2
        exact bodyPost_ret (out2 Tryz.results14 _ _ _ _ _ rfl rfl (K25.out.set _ _ _)) rfl ⟨by rw [HR4.out]; rfl, Bset2 B12.out (by omega) _ _ _⟩
      · have HR4 : Hid (R = (zeroR, e2)) := Lib.hid (by rw [HR3.out, if_pos h2])
        have hne : (e2 != 0) = true := by simp [h2]
        obtain ⟨r0, r1, r2, f0, f1, f2⟩ := K20.out.cells
        clear HR3 h2 N2
        go_wp2
        exact bodyPost_ret (out2 Tryz.results14 _ _ _ _ _ rfl rfl (K20.out.set _ _ _)) rfl ⟨by rw [HR4.out]; rfl, Bset2 B7.out (by omega) _ _ _⟩
    · have HR2' : Hid (R = (zeroR, e1)) := Lib.hid (HR1.out trivial h1)
      have hne : (e1 != 0) = true := by simp [h1]
      obtain ⟨r0, r1, r2, f0, f1, f2⟩ := K16.out.cells
      clear HR1 HR2 h1 N1 N2 C4
      go_wp2
      exact bodyPost_ret (out2 Tryz.results14 _ _ _ _ _ rfl rfl (K16.out.set _ _ _)) rfl ⟨by rw [HR2'.out]; rfl, Bset2 B5.out (by omega) _ _ _⟩
end Go.Proofs.YtkbncdcphohmiaaGreatDoor

/- Layer 8: the reference's decimal, Text. -/
set_option linter.unusedSimpArgs false
set_option linter.unusedVariables false
namespace Go.Proofs.YtkbncdcphohmiaaGreatDoor
open Go.RowKit
set_option maxRecDepth 100000

theorem Mo.app_byte (c : UInt8) (l : List UInt8) : ((⟨#[c]⟩ : ByteArray) ++ ⟨l.toArray⟩) = ⟨(c :: l).toArray⟩ := by
  apply ByteArray.ext
  simp [ByteArray.data_append]
def Mo.dg10 (u : Nat) : UInt8 := UInt8.ofNat (48 + u % 10)
def Mo.pre (u : Nat) : List UInt8 := if u = 0 then [] else Lib.decDigits u
theorem Mo.dec_pre (u : Nat) : Lib.decDigits u = Mo.pre (u / 10) ++ [Mo.dg10 u] := by
  rw [Lib.decDigits]
  by_cases h : u < 10
  · rw [dif_pos h]
    unfold Mo.pre Mo.dg10
    rw [if_pos (by omega), Nat.mod_eq_of_lt h]
    rfl
  · rw [dif_neg h]
    unfold Mo.pre Mo.dg10
    rw [if_neg (by omega)]
theorem Mo.enc_dig (u : Nat) : Utf8.encode (48 + (u : Int) % 10) = ⟨#[Mo.dg10 u]⟩ := by
  have : ∀ d : Fin 10, Utf8.encode (48 + (d.1 : Int)) = ⟨#[UInt8.ofNat (48 + d.1)]⟩ := by decide +kernel
  have h := this ⟨u % 10, by omega⟩
  unfold Mo.dg10
  rw [← h]
  congr 1

set_option maxHeartbeats 1000000 in
theorem Mo.dec_pos (n : Nat) (w : World) (hn : n < 10000000000000) :
    Calls Tryz.prog 45 #[.int .i64 (n : Int)] w fun e w' => e = .returned (.string ⟨(Lib.decDigits n).toArray⟩) ∧ w = w' := by
  have hlen : (Lib.decDigits n).length ≤ 13 := by
    have := (Na.dec_len (n := n) (k := 13) (by omega)).2 (by omega)
    exact this
  have hd := Mo.dec_pre n
  generalize hD : Lib.decDigits n = D at *
  clear hD
  have hsl := Mo.enc_dig n
  have HD := Lib.hid hd
  have hn0 : ¬ (n : Int) < 0 := by omega
  clear hd
  go_enter Tryz.func45, Tryz.ntmps45
  go_wp2
  clear hsl
  go_loop [0, 3] (fun m s => ∃ (u : Nat) (t : List UInt8), u ≤ n ∧ m = .int .i64 (u : Int) ∧ s = .string ⟨t.toArray⟩ ∧ D = Mo.pre u ++ t) (fun m _ => (intOf m).toNat)
  case atStart => exact ⟨n / 10, [Mo.dg10 n], by omega, by go_num, rfl, HD.out⟩
  case round =>
    obtain ⟨u, t, hu, rfl, rfl, ht⟩ := hrel
    have htl : t.length ≤ 20 := by
      rw [ht, List.length_append] at hlen
      omega
    have HT := Lib.hid ht
    clear ht
    by_cases h0 : 0 < u
    · have hsl := Mo.enc_dig u
      have h0i : (0 : Int) < (u : Int) := by omega
      have z1 : (⟨#[Mo.dg10 u]⟩ : ByteArray).size = 1 := rfl
      have z2 : (⟨t.toArray⟩ : ByteArray).size = t.length := Mo.bsz t
      have z3 : ¬ 9223372036854775807 < (⟨#[Mo.dg10 u]⟩ : ByteArray).size + (⟨t.toArray⟩ : ByteArray).size := by omega
      have z4 : ¬ 9223372036854775807 < 1 + (⟨t.toArray⟩ : ByteArray).size := by omega
      have z5 : ¬ 9223372036854775807 < 1 + t.length := by omega
      go_wp2
      refine ⟨⟨u / 10, Mo.dg10 u :: t, by omega, by go_num, ?_, ?_⟩, by simp [intOf]; omega⟩
      · rw [Mo.app_byte]
      · rw [HT.out]
        have e : Mo.pre u = Lib.decDigits u := by unfold Mo.pre; rw [if_neg (by omega)]
        rw [e, Mo.dec_pre u]
        simp
    · obtain rfl : u = 0 := by omega
      have HF : Hid (D = t) := by rw [HT.out]; exact rfl
      clear HT
      go_wp2
      go_ret
      exact ⟨by rw [HF.out]; rfl, rfl⟩
theorem Mo.rdecimal_any (u : Int) (w : World) (h1 : -1000000000000 ≤ u) (h2 : u ≤ 1000000000000) :
    Calls Tryz.prog 45 #[.int .i64 u] w fun e w' => e = .returned (.string ⟨(Lib.itoa u).toArray⟩) ∧ w = w' := by
  unfold Lib.itoa
  by_cases h : u < 0
  · rw [if_pos h]
    obtain ⟨m, hm⟩ : ∃ m : Nat, u = -(m : Int) := ⟨u.natAbs, by omega⟩
    subst hm
    have hna : (-(m : Int)).natAbs = m := by omega
    rw [hna]
    have C := Lib.hid (Mo.dec_pos m w (by omega))
    have hlen : (Lib.decDigits m).length ≤ 13 := (Na.dec_len (n := m) (k := 13) (by omega)).2 (by omega)
    have hap := Lib.hid (Mo.app_byte 45 (Lib.decDigits m))
    have z2 : (⟨(Lib.decDigits m).toArray⟩ : ByteArray).size = (Lib.decDigits m).length := Mo.bsz _
    have z3 : ¬ 9223372036854775807 < (⟨#[45]⟩ : ByteArray).size + (⟨(Lib.decDigits m).toArray⟩ : ByteArray).size := by
      have : (⟨#[45]⟩ : ByteArray).size = 1 := rfl
      omega
    have z4 : ¬ 9223372036854775807 < 1 + (⟨(Lib.decDigits m).toArray⟩ : ByteArray).size := by omega
    generalize (⟨(Lib.decDigits m).toArray⟩ : ByteArray) = D at *
    clear hna hlen z2
    go_enter Tryz.func45, Tryz.ntmps45
    go_wp2_with fail
    refine C.out.mono ?_
    rintro e w1 ⟨rfl, rfl⟩
    go_wp2_with fail
    go_ret
    exact ⟨by rw [← hap.out]; rfl, rfl⟩
  · rw [if_neg h]
    obtain ⟨m, rfl⟩ : ∃ m : Nat, u = (m : Int) := ⟨u.toNat, by omega⟩
    have := Mo.dec_pos m w (by omega)
    simpa using this

set_option maxHeartbeats 1000000 in
theorem Mo.rtext_any (c : ByteArray) (u : Int) (w : World) (hc : c.size ≤ maxLen) :
    Calls Tryz.prog 16 #[.agg #[.string c, .int .i64 u]] w fun e w' => e = .returned (.tuple #[.string (Mo.textF c u).1, .int .i64 (Mo.textF c u).2]) ∧ Below w.heap.size w w' := by
  have C1 := Lib.hid (fun v => Mo.rproper_any c u hc v)
  have hb0 := Mo.al w (.cells #[.string c, .int .i64 u] 24)
  have K0 := Bk.new w 24 #[.string c, .int .i64 u]
  unfold Mo.textF
  cases hp : Mo.proper c.data.toList u with
  | false =>
    rw [hp] at C1
    rw [if_neg (by simp)]
    clear hp hc
    go_enter Tryz.func16, Tryz.ntmps16
    go_wp2_with fail
    refine (C1.out _).mono ?_
    rintro e w1 ⟨rfl, g⟩
    have hb1 := Mo.Nb hb0 g
    clear g hb0 K0
    go_wp2
    go_ret2
    exact ⟨rfl, hb1⟩
  | true =>
    rw [hp] at C1
    rw [if_pos rfl, Mo.textV_eq]
    obtain ⟨z1, z2, z3⟩ := Mo.proper_parts hp
    have CI : Hid (∀ v : World, Calls Tryz.prog 45 #[.int .i64 u] v fun e w' => e = .returned (.string ⟨(Lib.itoa u).toArray⟩) ∧ Below v.heap.size v w') := Lib.hid (fun v => (Mo.rdecimal_any u v z2 z3).mono fun e w' h => ⟨h.1, by rw [← h.2]; exact Below.refl _ _⟩)
    have hl : (⟨(Lib.itoa u).toArray⟩ : ByteArray).size ≤ 14 := by
      have := (Mo.itoa_len z2 z3).1
      simpa [ByteArray.size] using this
    have e32 : (⟨#[32]⟩ : ByteArray).size = 1 := rfl
    generalize (⟨(Lib.itoa u).toArray⟩ : ByteArray) = d at *
    have n1 : ¬ 9223372036854775807 < c.size + (⟨#[32]⟩ : ByteArray).size := by omega
    have n2 : ¬ 9223372036854775807 < c.size + 1 := by omega
    have n3 : ¬ 9223372036854775807 < c.size + 1 + d.size := by omega
    have n4 : ¬ 9223372036854775807 < c.size + (⟨#[32]⟩ : ByteArray).size + d.size := by omega
    have n5 : ¬ 9223372036854775807 < (c ++ ⟨#[32]⟩ : ByteArray).size + d.size := by rw [ByteArray.size_append]; omega
    clear hp hc z2 z3
    go_enter Tryz.func16, Tryz.ntmps16
    go_wp2_with fail
    refine (C1.out _).mono ?_
    rintro e w1 ⟨rfl, g⟩
    have hb1 := Mo.Nb hb0 g
    have K1 := K0.bt g
    clear g hb0 K0
    have x0 := K1.cell 0 _ rfl
    have x1 := K1.cell 1 _ rfl
    go_wp2_with fail
    have y0 := fun dq os => cell_regrown x0 dq os
    have y1 := fun dq os => cell_regrown x1 dq os
    have LYr := Lib.hid (fun dq os => Calls.regrown_of (CI.out (Go.Sort.grow (redrawn w1 dq) os)))
    refine wp_region_quiet_below (by kernel_rfl) (by kernel_rfl) ?_
    repeat (quiet_step ((go_at_call 45; exact LYr.out _ _)))
    refine wpQuiet_nil ?_
    intro _ hw'
    obtain ⟨⟨dq, osq⟩, hw''⟩ := hw'
    subst hw''
    have hb3 := Mo.Nb hb1 (below_regrown w1 dq osq)
    clear LYr y0 y1 hb1 x0 x1 K1 C1 CI
    generalize Go.Sort.grow (redrawn w1 dq) osq = v at *
    go_wp2
    go_ret2
    exact ⟨rfl, hb3⟩
end Go.Proofs.YtkbncdcphohmiaaGreatDoor

/- Layer 8: the reference's Parse. -/
set_option linter.unusedSimpArgs false
set_option linter.unusedVariables false
namespace Go.Proofs.YtkbncdcphohmiaaGreatDoor
open Go.RowKit
set_option maxRecDepth 100000

def Mo.dgv (n : Nat) (c : UInt8) : Nat := if 48 ≤ c.toNat ∧ c.toNat ≤ 57 then 10 * n + (c.toNat - 48) else n
def Mo.numD (l : List UInt8) : Nat := l.foldl Mo.dgv 0
def Mo.valV (d : List UInt8) : Int := if d.head? = some 45 then -(Mo.numD (d.take 15) : Int) else (Mo.numD (d.take 15) : Int)
theorem Mo.fold_dig : ∀ (l : List UInt8) (a : Nat), l.all Na.isD = true → l.foldl Mo.dgv a = l.foldl (fun n c => n * 10 + Na.dv c) a
  | [], a, _ => rfl
  | c :: r, a, h => by
    simp only [List.all_cons, Bool.and_eq_true] at h
    have hc := (Na.isD_iff c).1 h.1
    rw [List.foldl_cons, List.foldl_cons, Mo.fold_dig r _ h.2]
    unfold Mo.dgv
    rw [if_pos hc]
    have : Na.dv c = c.toNat - 48 := rfl
    rw [this]
    congr 1
    omega
theorem Mo.numD_dec (m : Nat) : Mo.numD (Lib.decDigits m) = m := by
  unfold Mo.numD
  rw [Mo.fold_dig _ _ (Na.dec_all m)]
  exact Na.val_dec m
theorem Mo.valV_itoa {u : Int} (h1 : -1000000000000 ≤ u) (h2 : u ≤ 1000000000000) : Mo.valV (Lib.itoa u) = u := by
  have hl := (Mo.itoa_len h1 h2).1
  unfold Mo.valV
  rw [List.take_of_length_le (by omega)]
  unfold Lib.itoa
  by_cases h : u < 0
  · rw [if_pos h, if_pos (by simp)]
    have : Mo.numD (45 :: Lib.decDigits u.natAbs) = Mo.numD (Lib.decDigits u.natAbs) := rfl
    rw [this, Mo.numD_dec]
    omega
  · rw [if_neg h, Mo.numD_dec]
    have ha := Na.dec_all u.toNat
    cases hd : Lib.decDigits u.toNat with
    | nil => exact absurd hd (Na.dec_ne _)
    | cons c r =>
      rw [hd] at ha
      have hc := (Na.isD_iff c).1 (List.all_eq_true.1 ha c (by simp))
      rw [if_neg (by
        intro e
        simp only [List.head?_cons, Option.some.injEq] at e
        subst e
        revert hc
        decide)]
      omega
theorem Mo.numD_lt : ∀ (k : Nat) (l : List UInt8), l.length ≤ k → Mo.numD l < 10 ^ k := fun k l h => by
  have H : ∀ (l : List UInt8) (a k : Nat), l.length ≤ k → l.foldl Mo.dgv a < (a + 1) * 10 ^ k := by
    intro l
    induction l with
    | nil => intro a k _; exact Nat.lt_of_lt_of_le (Nat.lt_succ_self a) (Nat.le_mul_of_pos_right _ (Nat.pow_pos (by omega)))
    | cons c r ih =>
      intro a k hk
      cases k with
      | zero => simp at hk
      | succ k =>
        rw [List.foldl_cons]
        have h1 := ih (Mo.dgv a c) k (by simpa using hk)
        have h2 : Mo.dgv a c + 1 ≤ (a + 1) * 10 := by
          unfold Mo.dgv
          split <;> omega
        have h3 := Nat.mul_le_mul_right (10 ^ k) h2
        rw [Nat.pow_succ]
        have h4 : (a + 1) * 10 * 10 ^ k = (a + 1) * (10 ^ k * 10) := by rw [Nat.mul_assoc, Nat.mul_comm 10]
        omega
  have := H l 0 k h
  unfold Mo.numD
  omega
theorem Mo.numD_take (s : ByteArray) (k : Nat) (hk : k < s.size) : Mo.numD (s.data.toList.take (k + 1)) = Mo.dgv (Mo.numD (s.data.toList.take k)) s[k] := by
  have hk' : k < s.data.toList.length := by rw [Array.length_toList]; exact hk
  rw [List.take_succ_eq_append_getElem hk']
  unfold Mo.numD
  rw [List.foldl_append]
  rfl
theorem Mo.cutAt_at : ∀ (l : List UInt8) (k : Nat) (h : k < l.length), l[k] = 32 → (∀ j (hj : j < l.length), j < k → l[j] ≠ 32) → Mo.cutAt 32 l = (l.take k, l.drop (k + 1), true)
  | [], k, h, _, _ => absurd h (by simp)
  | x :: l, 0, h, e, _ => by
    simp only [List.getElem_cons_zero] at e
    rw [Mo.cutAt, if_pos e]
    rfl
  | x :: l, k + 1, h, e, hn => by
    have h0 := hn 0 (by simp) (by omega)
    simp only [List.getElem_cons_zero] at h0
    rw [Mo.cutAt, if_neg h0, Mo.cutAt_at l k (by simpa using h) (by simpa using e) (fun j hj hjk => by
      have := hn (j + 1) (by simpa using hj) (by omega)
      simpa using this)]
    rfl
theorem Mo.cut_ext (t : ByteArray) (k : Nat) (hk : k < t.size) (h1 : t[k].toNat = 32) (hn : ∀ j (hj : j < t.size), j < k → t[j].toNat ≠ 32) : Mo.cutAt 32 t.data.toList = ((t.extract 0 k).data.toList, (t.extract (k + 1) t.size).data.toList, true) := by
  have hl : k < t.data.toList.length := by rw [Array.length_toList]; exact hk
  have h := Mo.cutAt_at t.data.toList k hl (UInt8.toNat_inj.1 h1) (fun j hj hjk e => hn j (by rw [Array.length_toList] at hj; exact hj) hjk (by
    have : t[j]'(by rw [Array.length_toList] at hj; exact hj) = t.data.toList[j] := rfl
    rw [this, e]; rfl))
  rw [h]
  refine Prod.ext ?_ (Prod.ext ?_ rfl)
  · simp [ByteArray.data_extract, Array.toList_extract, List.extract_eq_take_drop]
  · simp [ByteArray.data_extract, Array.toList_extract, List.extract_eq_take_drop]
    rw [List.take_of_length_le]
    rw [List.length_drop, Array.length_toList]
    exact Nat.le_refl _
/-- What the reference compares, at the first space. -/
theorem Mo.rparse_way (t c d : ByteArray) (hcut : Mo.cutAt 32 t.data.toList = (c.data.toList, d.data.toList, true)) :
    ((Mo.textF c (Mo.valV d.data.toList)).2 = 0 ∧ (Mo.textF c (Mo.valV d.data.toList)).1 = t ∧ Mo.parseF t = ((c, Mo.valV d.data.toList), 0)) ∨
     ((Mo.textF c (Mo.valV d.data.toList)).2 ≠ 0 ∧ Mo.parseF t = ((⟨#[]⟩, 0), 5)) ∨ ((Mo.textF c (Mo.valV d.data.toList)).2 = 0 ∧ (Mo.textF c (Mo.valV d.data.toList)).1 ≠ t ∧ Mo.parseF t = ((⟨#[]⟩, 0), 5)) := by
  cases ha : Mo.amt t.data.toList with
  | some p =>
    obtain ⟨c', u⟩ := p
    obtain ⟨hp, ht⟩ := Mo.amt_some ha
    have hp' := hp
    simp only [Mo.proper, Bool.and_eq_true, decide_eq_true_eq] at hp'
    have h1 : Mo.cutAt 32 t.data.toList = (c', Lib.itoa u, true) := by rw [ht]; exact Mo.cutAt_app 32 c' _ (Mo.ident_no hp'.1)
    rw [h1] at hcut
    simp only [Prod.mk.injEq, and_true] at hcut
    obtain ⟨hc, hd⟩ := hcut
    rw [← hd, Mo.valV_itoa hp'.2.1 hp'.2.2]
    subst hc
    left
    have e1 : Mo.textF c u = (Mo.textV c u, 0) := by
      unfold Mo.textF
      rw [if_pos hp]
    rw [e1]
    refine ⟨rfl, ?_, Mo.parse_yes hp ht⟩
    rw [Mo.ba_eq, ht]
    unfold Mo.textV
    simp
  | none =>
    have hpf : Mo.parseF t = ((⟨#[]⟩, 0), 5) := by
      unfold Mo.parseF
      rw [ha]
    right
    generalize Mo.valV _ = u
    unfold Mo.textF
    by_cases hp : Mo.proper c.data.toList u = true
    · rw [if_pos hp]
      refine .inr ⟨rfl, fun e => ?_, hpf⟩
      have : t.data.toList = Mo.text c.data.toList u := by
        rw [← e]
        unfold Mo.textV
        simp
      rw [this, Mo.amt_text hp] at ha
      cases ha
    · rw [if_neg hp]
      exact .inl ⟨by decide, hpf⟩
theorem Mo.rparse_no (t : ByteArray) (k : Nat) (hk : k = t.size ∨ k = 30) (hn : ∀ j (hj : j < t.size), j < k → t[j].toNat ≠ 32) : Mo.parseF t = ((⟨#[]⟩, 0), 5) := by
  unfold Mo.parseF
  cases ha : Mo.amt t.data.toList with
  | none => rfl
  | some p =>
    obtain ⟨c, u⟩ := p
    obtain ⟨hp, ht⟩ := Mo.amt_some ha
    simp only [Mo.proper, Bool.and_eq_true, decide_eq_true_eq] at hp
    have hc := Mo.ident_size hp.1
    have hl : t.data.toList.length = c.length + ((Lib.itoa u).length + 1) := by rw [ht]; unfold Mo.text; simp
    have hls : t.size = c.length + ((Lib.itoa u).length + 1) := by rw [← hl, Array.length_toList]; rfl
    have hj : c.length < t.size := by omega
    have hlen : c.length < t.data.toList.length := by omega
    have h32 : t.data.toList[c.length]'hlen = 32 := by
      have e : t.data.toList[c.length]'hlen = (c ++ 32 :: Lib.itoa u)[c.length]'(by simp) := by
        congr 1
      rw [e]
      simp
    have := hn c.length hj (by omega)
    exfalso
    apply this
    have e2 : t[c.length] = t.data.toList[c.length]'hlen := rfl
    rw [e2, h32]
    rfl

set_option maxHeartbeats 4000000 in
theorem Mo.rparse8_any (t : ByteArray) (w : World) (ht : t.size ≤ 60) :
    Calls Tryz.prog 18 #[.string t] w fun e w' => e = .returned (.tuple #[.agg #[.string (Mo.parseF t).1.1, .int .i64 (Mo.parseF t).1.2], .int .i64 (Mo.parseF t).2]) ∧ Below w.heap.size w w' := by
  have HNO := Lib.hid (Mo.rparse_no t)
  have HWY := Lib.hid (Mo.rparse_way t)
  obtain ⟨R, hR⟩ : ∃ R, R = Mo.parseF t := ⟨_, rfl⟩
  rw [← hR] at HNO HWY ⊢
  clear hR
  have B1 := Lib.hid (Mo.al w (.cells #[.string ⟨#[]⟩, .int .i64 0] 24))
  have K1 := Lib.hid (Bk.new w 24 #[.string ⟨#[]⟩, .int .i64 0])
  go_enter Tryz.func18, Tryz.ntmps18
  go_wp2
  generalize hW : w.alloc (.cells #[.string ⟨#[]⟩, .int .i64 0] 24) = W at *
  clear hW
  go_loop [4] (fun i => ∃ k : Nat, k ≤ t.size ∧ k ≤ 30 ∧ i = .int .i64 (k : Int) ∧ Hid (∀ j (hj : j < t.size), j < k → t[j].toNat ≠ 32)) (fun i => t.size - (intOf i).toNat)
  case atStart => exact ⟨0, Nat.zero_le _, by omega, rfl, Lib.hid (fun j _ h => absurd h (by omega))⟩
  case round =>
    obtain ⟨k, hk, hk30, rfl, HK⟩ := hrel
    by_cases hlt : k < t.size
    · have hlti : (k : Int) < (t.size : Int) := by omega
      by_cases hl3 : k < 30
      · have hl3i : (k : Int) < 30 := by omega
        by_cases hsp : t[k].toNat = 32
        · have hsb : ((t[k].toNat : Int) != 32) = false := by simp [hsp]
          have HCUT : Hid (Mo.cutAt 32 t.data.toList = ((t.extract 0 k).data.toList, (t.extract (k + 1) t.size).data.toList, true)) := Lib.hid (Mo.cut_ext t k hlt hsp HK.out)
          have hcsz : (t.extract 0 k).size ≤ 60 := by rw [ByteArray.size_extract]; omega
          have hdsz : (t.extract (k + 1) t.size).size ≤ 60 := by rw [ByteArray.size_extract]; omega
          clear HK hsp
          go_wp2
          generalize t.extract (k + 1) t.size = d at *
          go_loop [6, 7] (fun a j => ∃ (n m : Nat), m ≤ d.size ∧ m ≤ 15 ∧ a = .int .i64 (n : Int) ∧ j = .int .i64 (m : Int) ∧ n < 1000000000000000 ∧ Hid (n = Mo.numD (d.data.toList.take m))) (fun _ j => d.size - (intOf j).toNat)
          case atStart => exact ⟨0, 0, Nat.zero_le _, by omega, rfl, rfl, by omega, Lib.hid rfl⟩
          case round =>
            obtain ⟨n, m, hm, hm15, rfl, rfl, hn, HNU⟩ := hrel
            by_cases hmt : m < d.size ∧ m < 15
            · obtain ⟨hm1, hm2⟩ := hmt
              have hm1i : (m : Int) < (d.size : Int) := by omega
              have hm2i : (m : Int) < 15 := by omega
              have HST : Hid (Mo.numD (d.data.toList.take (m + 1)) = Mo.dgv n d[m]) := Lib.hid (by rw [Mo.numD_take d m hm1, HNU.out])
              have HLT : Hid (Mo.numD (d.data.toList.take (m + 1)) < 1000000000000000) := Lib.hid (Mo.numD_lt 15 _ (by rw [List.length_take]; omega))
              have hb := UInt8.toNat_lt d[m]
              unfold Mo.dgv at HST
              clear HNU
              obtain ⟨b, hbb⟩ : ∃ b, b = d[m].toNat := ⟨_, rfl⟩
              rw [← hbb] at HST hb
              have hsb : d[m].toNat = b := hbb.symm
              clear hbb
              by_cases b1 : b < 48
              · have f1 : decide ((48 : Int) ≤ (b : Int)) = false := decide_eq_false (by omega)
                have HS : Hid (n = Mo.numD (d.data.toList.take (m + 1))) := Lib.hid (by rw [HST.out, if_neg (by omega)])
                clear HST HLT b1
                go_wp2
                go_round
                case rel => exact ⟨n, m + 1, by omega, by omega, rfl, by go_num, by omega, HS⟩
                case measure => simp [intOf]; omega
              · have f1 : decide ((48 : Int) ≤ (b : Int)) = true := decide_eq_true (by omega)
                by_cases b2 : b ≤ 57
                · have f2 : decide ((b : Int) ≤ 57) = true := decide_eq_true (by omega)
                  have HS : Hid (10 * n + (b - 48) = Mo.numD (d.data.toList.take (m + 1))) := Lib.hid (by rw [HST.out, if_pos (by omega)])
                  have hlt2 : 10 * n + (b - 48) < 1000000000000000 := by rw [HS.out]; exact HLT.out
                  clear HST HLT
                  go_wp2
                  go_round
                  case rel => exact ⟨10 * n + (b - 48), m + 1, by omega, by omega, by go_num, by go_num, hlt2, HS⟩
                  case measure => simp [intOf]; omega
                · have f2 : decide ((b : Int) ≤ 57) = false := decide_eq_false (by omega)
                  have HS : Hid (n = Mo.numD (d.data.toList.take (m + 1))) := Lib.hid (by rw [HST.out, if_neg (by omega)])
                  clear HST HLT b1 b2
                  go_wp2
                  go_round
                  case rel => exact ⟨n, m + 1, by omega, by omega, rfl, by go_num, by omega, HS⟩
                  case measure => simp [intOf]; omega
            · have HV : Hid (n = Mo.numD (d.data.toList.take 15)) := Lib.hid (by
                rw [HNU.out]
                by_cases e : m = 15
                · rw [e]
                · have : m = d.size := by omega
                  rw [this, List.take_of_length_le (by rw [Array.length_toList]; exact Nat.le_refl _), List.take_of_length_le (by rw [Array.length_toList]; have e2 : d.data.size = d.size := rfl; omega)])
              have HWX := Lib.hid (HWY.out _ _ HCUT.out)
              obtain ⟨c, hc⟩ : ∃ c, c = t.extract 0 k := ⟨_, rfl⟩
              have HCE := Lib.hid hc
              rw [← hc] at hcsz HWX
              have HEX : Hid (t.extract 0 k = c) := Lib.hid hc.symm
              have hex := HEX.out
              clear HNU HWY HCUT hc HCE
              by_cases h0 : d.size = 0
              · have HW : Hid (((Mo.textF c (n : Int)).2 = 0 ∧ (Mo.textF c (n : Int)).1 = t ∧ R = ((c, (n : Int)), 0)) ∨ ((Mo.textF c (n : Int)).2 ≠ 0 ∧ R = ((⟨#[]⟩, 0), 5)) ∨ ((Mo.textF c (n : Int)).2 = 0 ∧ (Mo.textF c (n : Int)).1 ≠ t ∧ R = ((⟨#[]⟩, 0), 5))) := Lib.hid (by
                  have e : Mo.valV d.data.toList = (n : Int) := by
                    unfold Mo.valV
                    rw [if_neg (by
                      have : d.data.toList = [] := List.eq_nil_of_length_eq_zero (by rw [Array.length_toList]; exact h0)
                      rw [this]; simp), ← HV.out]
                  rw [← e]; exact HWX.out)
                have h0i : ¬ (0 : Int) < (d.size : Int) := by omega
                have hmti : ¬ (m : Int) < (d.size : Int) := by omega
                clear hmt HV HWX
                have hb3 := Mo.Nb B1.out (al W (.cells #[.string c, .int .i64 (n : Int)] 24))
                have K3 := K1.out.bt (al W (.cells #[.string c, .int .i64 (n : Int)] 24))
                have A3 := Bk.new W 24 #[.string c, .int .i64 (n : Int)]
                have C3 := Lib.hid (Mo.rtext_any c (n : Int) (W.alloc (.cells #[.string c, .int .i64 (n : Int)] 24)) (by unfold maxLen; omega))
                generalize Mo.textF c (n : Int) = T at *
                obtain ⟨T1, T2⟩ := T
                simp only at C3 HW
                clear HNO
                go_wp2_with fail
                refine C3.out.mono ?_
                rintro e w3 ⟨rfl, g⟩
                have hb4 := Mo.Nb hb3 g
                have K4 := Lib.hid (K3.bt g)
                have A4 := A3.bt g
                clear g hb3 K3 C3 A3
                have a0 := A4.cell 0 _ rfl
                have a1 := A4.cell 1 _ rfl
                rcases HW.out with ⟨h1, h2, hR⟩ | ⟨h1, hR⟩ | ⟨h1, h2, hR⟩
                · have HR := Lib.hid hR
                  subst h1 h2
                  clear HW hR
                  go_wp2_with (refine wpList_store_row rfl _ _ _ rfl w.heap.size _ rfl rfl 24 _ K4.out (Mo.info_amt.trans rfl) rfl (by simp [Value.oneCell']) ?_)
                  (try simp only [Exit.inBlock, Exit.then])
                  exact bodyPost_ret (Mo.results2 (i := 2) (j := 3) rfl _ _ w.heap.size 24 _ rfl (K4.out.set _) Tryz.underlying24 (Mo.info_amt.trans rfl)) rfl ⟨by rw [HR.out]; rfl, below_setRow hb4 (Nat.le_refl _) _⟩
                · have HR := Lib.hid hR
                  have hne : (T2 == 0) = false := by simp [h1]
                  clear HW hR h1
                  go_wp2_with (refine wpList_store_row rfl _ _ _ rfl w.heap.size _ rfl rfl 24 _ K4.out (Mo.info_amt.trans rfl) rfl (by simp [Value.oneCell']) ?_)
                  (try simp only [Exit.inBlock, Exit.then])
                  exact bodyPost_ret (Mo.results2 (i := 2) (j := 3) rfl _ _ w.heap.size 24 _ rfl (K4.out.set _) Tryz.underlying24 (Mo.info_amt.trans rfl)) rfl ⟨by rw [HR.out]; rfl, below_setRow hb4 (Nat.le_refl _) _⟩
                · have HR := Lib.hid hR
                  have hne := bytes_ne h2
                  subst h1
                  clear HW hR h2
                  go_wp2_with (refine wpList_store_row rfl _ _ _ rfl w.heap.size _ rfl rfl 24 _ K4.out (Mo.info_amt.trans rfl) rfl (by simp [Value.oneCell']) ?_)
                  (try simp only [Exit.inBlock, Exit.then])
                  exact bodyPost_ret (Mo.results2 (i := 2) (j := 3) rfl _ _ w.heap.size 24 _ rfl (K4.out.set _) Tryz.underlying24 (Mo.info_amt.trans rfl)) rfl ⟨by rw [HR.out]; rfl, below_setRow hb4 (Nat.le_refl _) _⟩
              · have hp : 0 < d.size := by omega
                have h0i : (0 : Int) < (d.size : Int) := by omega
                have HH : Hid (d.data.toList.head? = some d[0]) := Lib.hid (by
                  have hl : 0 < d.data.toList.length := by rw [Array.length_toList]; exact hp
                  rw [List.head?_eq_getElem?, List.getElem?_eq_getElem hl]
                  rfl)
                by_cases h45 : d[0].toNat = 45
                · have hbq : ((d[0].toNat : Int) == 45) = true := by simp [h45]
                  have HW : Hid (((Mo.textF c (-(n : Int))).2 = 0 ∧ (Mo.textF c (-(n : Int))).1 = t ∧ R = ((c, -(n : Int)), 0)) ∨ ((Mo.textF c (-(n : Int))).2 ≠ 0 ∧ R = ((⟨#[]⟩, 0), 5)) ∨ ((Mo.textF c (-(n : Int))).2 = 0 ∧ (Mo.textF c (-(n : Int))).1 ≠ t ∧ R = ((⟨#[]⟩, 0), 5))) := Lib.hid (by
                    have e : Mo.valV d.data.toList = -(n : Int) := by
                      unfold Mo.valV
                      rw [if_pos (by rw [HH.out, show d[0] = 45 from UInt8.toNat_inj.1 h45]), ← HV.out]
                    rw [← e]; exact HWX.out)
                  clear HV HWX HH h45
                  by_cases hma : m < d.size
                  · have hmai : (m : Int) < (d.size : Int) := by omega
                    have hmbi : ¬ (m : Int) < 15 := by omega
                    clear hmt
                    have hb3 := Mo.Nb B1.out (al W (.cells #[.string c, .int .i64 (-(n : Int))] 24))
                    have K3 := K1.out.bt (al W (.cells #[.string c, .int .i64 (-(n : Int))] 24))
                    have A3 := Bk.new W 24 #[.string c, .int .i64 (-(n : Int))]
                    have C3 := Lib.hid (Mo.rtext_any c (-(n : Int)) (W.alloc (.cells #[.string c, .int .i64 (-(n : Int))] 24)) (by unfold maxLen; omega))
                    generalize Mo.textF c (-(n : Int)) = T at *
                    obtain ⟨T1, T2⟩ := T
                    simp only at C3 HW
                    clear HNO
                    go_wp2_with fail
                    refine C3.out.mono ?_
                    rintro e w3 ⟨rfl, g⟩
                    have hb4 := Mo.Nb hb3 g
                    have K4 := Lib.hid (K3.bt g)
                    have A4 := A3.bt g
                    clear g hb3 K3 C3 A3
                    have a0 := A4.cell 0 _ rfl
                    have a1 := A4.cell 1 _ rfl
                    rcases HW.out with ⟨h1, h2, hR⟩ | ⟨h1, hR⟩ | ⟨h1, h2, hR⟩
                    · have HR := Lib.hid hR
                      subst h1 h2
                      clear HW hR
                      go_wp2_with (refine wpList_store_row rfl _ _ _ rfl w.heap.size _ rfl rfl 24 _ K4.out (Mo.info_amt.trans rfl) rfl (by simp [Value.oneCell']) ?_)
                      (try simp only [Exit.inBlock, Exit.then])
                      exact bodyPost_ret (Mo.results2 (i := 2) (j := 3) rfl _ _ w.heap.size 24 _ rfl (K4.out.set _) Tryz.underlying24 (Mo.info_amt.trans rfl)) rfl ⟨by rw [HR.out]; rfl, below_setRow hb4 (Nat.le_refl _) _⟩
                    · have HR := Lib.hid hR
                      have hne : (T2 == 0) = false := by simp [h1]
                      clear HW hR h1
                      go_wp2_with (refine wpList_store_row rfl _ _ _ rfl w.heap.size _ rfl rfl 24 _ K4.out (Mo.info_amt.trans rfl) rfl (by simp [Value.oneCell']) ?_)
                      (try simp only [Exit.inBlock, Exit.then])
                      exact bodyPost_ret (Mo.results2 (i := 2) (j := 3) rfl _ _ w.heap.size 24 _ rfl (K4.out.set _) Tryz.underlying24 (Mo.info_amt.trans rfl)) rfl ⟨by rw [HR.out]; rfl, below_setRow hb4 (Nat.le_refl _) _⟩
                    · have HR := Lib.hid hR
                      have hne := bytes_ne h2
                      subst h1
                      clear HW hR h2
                      go_wp2_with (refine wpList_store_row rfl _ _ _ rfl w.heap.size _ rfl rfl 24 _ K4.out (Mo.info_amt.trans rfl) rfl (by simp [Value.oneCell']) ?_)
                      (try simp only [Exit.inBlock, Exit.then])
                      exact bodyPost_ret (Mo.results2 (i := 2) (j := 3) rfl _ _ w.heap.size 24 _ rfl (K4.out.set _) Tryz.underlying24 (Mo.info_amt.trans rfl)) rfl ⟨by rw [HR.out]; rfl, below_setRow hb4 (Nat.le_refl _) _⟩
                  · have hmai : ¬ (m : Int) < (d.size : Int) := by omega
                    clear hmt
                    have hb3 := Mo.Nb B1.out (al W (.cells #[.string c, .int .i64 (-(n : Int))] 24))
                    have K3 := K1.out.bt (al W (.cells #[.string c, .int .i64 (-(n : Int))] 24))
                    have A3 := Bk.new W 24 #[.string c, .int .i64 (-(n : Int))]
                    have C3 := Lib.hid (Mo.rtext_any c (-(n : Int)) (W.alloc (.cells #[.string c, .int .i64 (-(n : Int))] 24)) (by unfold maxLen; omega))
                    generalize Mo.textF c (-(n : Int)) = T at *
                    obtain ⟨T1, T2⟩ := T
                    simp only at C3 HW
                    clear HNO
                    go_wp2_with fail
                    refine C3.out.mono ?_
                    rintro e w3 ⟨rfl, g⟩
                    have hb4 := Mo.Nb hb3 g
                    have K4 := Lib.hid (K3.bt g)
                    have A4 := A3.bt g
                    clear g hb3 K3 C3 A3
                    have a0 := A4.cell 0 _ rfl
                    have a1 := A4.cell 1 _ rfl
                    rcases HW.out with ⟨h1, h2, hR⟩ | ⟨h1, hR⟩ | ⟨h1, h2, hR⟩
                    · have HR := Lib.hid hR
                      subst h1 h2
                      clear HW hR
                      go_wp2_with (refine wpList_store_row rfl _ _ _ rfl w.heap.size _ rfl rfl 24 _ K4.out (Mo.info_amt.trans rfl) rfl (by simp [Value.oneCell']) ?_)
                      (try simp only [Exit.inBlock, Exit.then])
                      exact bodyPost_ret (Mo.results2 (i := 2) (j := 3) rfl _ _ w.heap.size 24 _ rfl (K4.out.set _) Tryz.underlying24 (Mo.info_amt.trans rfl)) rfl ⟨by rw [HR.out]; rfl, below_setRow hb4 (Nat.le_refl _) _⟩
                    · have HR := Lib.hid hR
                      have hne : (T2 == 0) = false := by simp [h1]
                      clear HW hR h1
                      go_wp2_with (refine wpList_store_row rfl _ _ _ rfl w.heap.size _ rfl rfl 24 _ K4.out (Mo.info_amt.trans rfl) rfl (by simp [Value.oneCell']) ?_)
                      (try simp only [Exit.inBlock, Exit.then])
                      exact bodyPost_ret (Mo.results2 (i := 2) (j := 3) rfl _ _ w.heap.size 24 _ rfl (K4.out.set _) Tryz.underlying24 (Mo.info_amt.trans rfl)) rfl ⟨by rw [HR.out]; rfl, below_setRow hb4 (Nat.le_refl _) _⟩
                    · have HR := Lib.hid hR
                      have hne := bytes_ne h2
                      subst h1
                      clear HW hR h2
                      go_wp2_with (refine wpList_store_row rfl _ _ _ rfl w.heap.size _ rfl rfl 24 _ K4.out (Mo.info_amt.trans rfl) rfl (by simp [Value.oneCell']) ?_)
                      (try simp only [Exit.inBlock, Exit.then])
                      exact bodyPost_ret (Mo.results2 (i := 2) (j := 3) rfl _ _ w.heap.size 24 _ rfl (K4.out.set _) Tryz.underlying24 (Mo.info_amt.trans rfl)) rfl ⟨by rw [HR.out]; rfl, below_setRow hb4 (Nat.le_refl _) _⟩
                · have hbq : ((d[0].toNat : Int) == 45) = false := by simp; omega
                  have HW : Hid (((Mo.textF c (n : Int)).2 = 0 ∧ (Mo.textF c (n : Int)).1 = t ∧ R = ((c, (n : Int)), 0)) ∨ ((Mo.textF c (n : Int)).2 ≠ 0 ∧ R = ((⟨#[]⟩, 0), 5)) ∨ ((Mo.textF c (n : Int)).2 = 0 ∧ (Mo.textF c (n : Int)).1 ≠ t ∧ R = ((⟨#[]⟩, 0), 5))) := Lib.hid (by
                    have e : Mo.valV d.data.toList = (n : Int) := by
                      unfold Mo.valV
                      rw [if_neg (by
                        rw [HH.out]
                        intro e
                        simp only [Option.some.injEq] at e
                        rw [e] at h45
                        exact h45 rfl), ← HV.out]
                    rw [← e]; exact HWX.out)
                  clear HV HWX HH h45
                  by_cases hma : m < d.size
                  · have hmai : (m : Int) < (d.size : Int) := by omega
                    have hmbi : ¬ (m : Int) < 15 := by omega
                    clear hmt
                    have hb3 := Mo.Nb B1.out (al W (.cells #[.string c, .int .i64 (n : Int)] 24))
                    have K3 := K1.out.bt (al W (.cells #[.string c, .int .i64 (n : Int)] 24))
                    have A3 := Bk.new W 24 #[.string c, .int .i64 (n : Int)]
                    have C3 := Lib.hid (Mo.rtext_any c (n : Int) (W.alloc (.cells #[.string c, .int .i64 (n : Int)] 24)) (by unfold maxLen; omega))
                    generalize Mo.textF c (n : Int) = T at *
                    obtain ⟨T1, T2⟩ := T
                    simp only at C3 HW
                    clear HNO
                    go_wp2_with fail
                    refine C3.out.mono ?_
                    rintro e w3 ⟨rfl, g⟩
                    have hb4 := Mo.Nb hb3 g
                    have K4 := Lib.hid (K3.bt g)
                    have A4 := A3.bt g
                    clear g hb3 K3 C3 A3
                    have a0 := A4.cell 0 _ rfl
                    have a1 := A4.cell 1 _ rfl
                    rcases HW.out with ⟨h1, h2, hR⟩ | ⟨h1, hR⟩ | ⟨h1, h2, hR⟩
                    · have HR := Lib.hid hR
                      subst h1 h2
                      clear HW hR
                      go_wp2_with (refine wpList_store_row rfl _ _ _ rfl w.heap.size _ rfl rfl 24 _ K4.out (Mo.info_amt.trans rfl) rfl (by simp [Value.oneCell']) ?_)
                      (try simp only [Exit.inBlock, Exit.then])
                      exact bodyPost_ret (Mo.results2 (i := 2) (j := 3) rfl _ _ w.heap.size 24 _ rfl (K4.out.set _) Tryz.underlying24 (Mo.info_amt.trans rfl)) rfl ⟨by rw [HR.out]; rfl, below_setRow hb4 (Nat.le_refl _) _⟩
                    · have HR := Lib.hid hR
                      have hne : (T2 == 0) = false := by simp [h1]
                      clear HW hR h1
                      go_wp2_with (refine wpList_store_row rfl _ _ _ rfl w.heap.size _ rfl rfl 24 _ K4.out (Mo.info_amt.trans rfl) rfl (by simp [Value.oneCell']) ?_)
                      (try simp only [Exit.inBlock, Exit.then])
                      exact bodyPost_ret (Mo.results2 (i := 2) (j := 3) rfl _ _ w.heap.size 24 _ rfl (K4.out.set _) Tryz.underlying24 (Mo.info_amt.trans rfl)) rfl ⟨by rw [HR.out]; rfl, below_setRow hb4 (Nat.le_refl _) _⟩
                    · have HR := Lib.hid hR
                      have hne := bytes_ne h2
                      subst h1
                      clear HW hR h2
                      go_wp2_with (refine wpList_store_row rfl _ _ _ rfl w.heap.size _ rfl rfl 24 _ K4.out (Mo.info_amt.trans rfl) rfl (by simp [Value.oneCell']) ?_)
                      (try simp only [Exit.inBlock, Exit.then])
                      exact bodyPost_ret (Mo.results2 (i := 2) (j := 3) rfl _ _ w.heap.size 24 _ rfl (K4.out.set _) Tryz.underlying24 (Mo.info_amt.trans rfl)) rfl ⟨by rw [HR.out]; rfl, below_setRow hb4 (Nat.le_refl _) _⟩
                  · have hmai : ¬ (m : Int) < (d.size : Int) := by omega
                    clear hmt
                    have hb3 := Mo.Nb B1.out (al W (.cells #[.string c, .int .i64 (n : Int)] 24))
                    have K3 := K1.out.bt (al W (.cells #[.string c, .int .i64 (n : Int)] 24))
                    have A3 := Bk.new W 24 #[.string c, .int .i64 (n : Int)]
                    have C3 := Lib.hid (Mo.rtext_any c (n : Int) (W.alloc (.cells #[.string c, .int .i64 (n : Int)] 24)) (by unfold maxLen; omega))
                    generalize Mo.textF c (n : Int) = T at *
                    obtain ⟨T1, T2⟩ := T
                    simp only at C3 HW
                    clear HNO
                    go_wp2_with fail
                    refine C3.out.mono ?_
                    rintro e w3 ⟨rfl, g⟩
                    have hb4 := Mo.Nb hb3 g
                    have K4 := Lib.hid (K3.bt g)
                    have A4 := A3.bt g
                    clear g hb3 K3 C3 A3
                    have a0 := A4.cell 0 _ rfl
                    have a1 := A4.cell 1 _ rfl
                    rcases HW.out with ⟨h1, h2, hR⟩ | ⟨h1, hR⟩ | ⟨h1, h2, hR⟩
                    · have HR := Lib.hid hR
                      subst h1 h2
                      clear HW hR
                      go_wp2_with (refine wpList_store_row rfl _ _ _ rfl w.heap.size _ rfl rfl 24 _ K4.out (Mo.info_amt.trans rfl) rfl (by simp [Value.oneCell']) ?_)
                      (try simp only [Exit.inBlock, Exit.then])
                      exact bodyPost_ret (Mo.results2 (i := 2) (j := 3) rfl _ _ w.heap.size 24 _ rfl (K4.out.set _) Tryz.underlying24 (Mo.info_amt.trans rfl)) rfl ⟨by rw [HR.out]; rfl, below_setRow hb4 (Nat.le_refl _) _⟩
                    · have HR := Lib.hid hR
                      have hne : (T2 == 0) = false := by simp [h1]
                      clear HW hR h1
                      go_wp2_with (refine wpList_store_row rfl _ _ _ rfl w.heap.size _ rfl rfl 24 _ K4.out (Mo.info_amt.trans rfl) rfl (by simp [Value.oneCell']) ?_)
                      (try simp only [Exit.inBlock, Exit.then])
                      exact bodyPost_ret (Mo.results2 (i := 2) (j := 3) rfl _ _ w.heap.size 24 _ rfl (K4.out.set _) Tryz.underlying24 (Mo.info_amt.trans rfl)) rfl ⟨by rw [HR.out]; rfl, below_setRow hb4 (Nat.le_refl _) _⟩
                    · have HR := Lib.hid hR
                      have hne := bytes_ne h2
                      subst h1
                      clear HW hR h2
                      go_wp2_with (refine wpList_store_row rfl _ _ _ rfl w.heap.size _ rfl rfl 24 _ K4.out (Mo.info_amt.trans rfl) rfl (by simp [Value.oneCell']) ?_)
                      (try simp only [Exit.inBlock, Exit.then])
                      exact bodyPost_ret (Mo.results2 (i := 2) (j := 3) rfl _ _ w.heap.size 24 _ rfl (K4.out.set _) Tryz.underlying24 (Mo.info_amt.trans rfl)) rfl ⟨by rw [HR.out]; rfl, below_setRow hb4 (Nat.le_refl _) _⟩
        · have hsb : ((t[k].toNat : Int) != 32) = true := by simp; omega
          have HS : Hid (∀ j (hj : j < t.size), j < k + 1 → t[j].toNat ≠ 32) := Lib.hid (fun j hj hjk => by
            by_cases e : j = k
            · subst e; exact hsp
            · exact HK.out j hj (by omega))
          clear HK hsp
          go_wp2
          go_round
          case rel => exact ⟨k + 1, by omega, by omega, by go_num, HS⟩
          case measure => simp [intOf]; omega
      · have hl3i : ¬ (k : Int) < 30 := by omega
        have HR := Lib.hid (HNO.out k (.inr (by omega)) HK.out)
        clear HNO HWY HK
        have hb4 := B1.out
        have K4 := K1
        go_wp2_with (refine wpList_store_row rfl _ _ _ rfl w.heap.size _ rfl rfl 24 _ K4.out (Mo.info_amt.trans rfl) rfl (by simp [Value.oneCell']) ?_)
        (try simp only [Exit.inBlock, Exit.then])
        exact bodyPost_ret (Mo.results2 (i := 2) (j := 3) rfl _ _ w.heap.size 24 _ rfl (K4.out.set _) Tryz.underlying24 (Mo.info_amt.trans rfl)) rfl ⟨by rw [HR.out]; rfl, below_setRow hb4 (Nat.le_refl _) _⟩
    · have hlti : ¬ (k : Int) < (t.size : Int) := by omega
      have HR := Lib.hid (HNO.out k (.inl (by omega)) HK.out)
      clear HNO HWY HK
      have hb4 := B1.out
      have K4 := K1
      go_wp2_with (refine wpList_store_row rfl _ _ _ rfl w.heap.size _ rfl rfl 24 _ K4.out (Mo.info_amt.trans rfl) rfl (by simp [Value.oneCell']) ?_)
      (try simp only [Exit.inBlock, Exit.then])
      exact bodyPost_ret (Mo.results2 (i := 2) (j := 3) rfl _ _ w.heap.size 24 _ rfl (K4.out.set _) Tryz.underlying24 (Mo.info_amt.trans rfl)) rfl ⟨by rw [HR.out]; rfl, below_setRow hb4 (Nat.le_refl _) _⟩
end Go.Proofs.YtkbncdcphohmiaaGreatDoor

/- MoneyMatchesReference. -/
set_option linter.unusedSimpArgs false
set_option linter.unusedVariables false
namespace Go.Proofs.YtkbncdcphohmiaaGreatDoor
open Go.RowKit
set_option maxRecDepth 100000

set_option maxHeartbeats 8000000 in
theorem Mo.mm_0 (A : Option Addr) (n cp : Nat) (base c tc t : ByteArray) (u day : Int) (w : World) (h0 : (20 : Int) < (n : Int)) 
    (H : Hid (∀ v, Below w.heap.size w v → Calls Tryz.prog 10 #[] v fun e w' => e = .returned (.bool true) ∧ Below v.heap.size v w')) :
    Calls Tryz.prog 3 #[.slice A n cp, .string base, .agg #[.string c, .int .i64 u], .string tc, .int .i64 day, .string t] w fun e w' => e = .returned (.bool true) ∧ Below w.heap.size w w' := by
  have hb := Mo.al w (.cells #[.string c, .int .i64 u] 24)
  have KA := Bk.new w 24 #[.string c, .int .i64 u]
  go_enter Tryz.func3, Tryz.ntmps3
  go_wp2_with fail
  refine (H.out _ hb).mono ?_
  rintro e v1 ⟨rfl, g⟩
  have hb' := Mo.Nb hb g
  have KA' := KA.bt g
  clear hb KA
  have hb := hb'
  have KA := KA'
  clear hb' KA'
  clear g
  have KAc0 := KA.cell 0 _ rfl
  have KAc1 := KA.cell 1 _ rfl
  go_wp2_with fail
  go_ret
  exact ⟨rfl, hb⟩

set_option maxHeartbeats 8000000 in
theorem Mo.mm_1 (A : Option Addr) (n cp : Nat) (base c tc t : ByteArray) (u day : Int) (w : World) (h0 : ¬ (20 : Int) < (n : Int)) (h1 : (60 : Int) < (base.size : Int)) 
    (H : Hid (∀ v, Below w.heap.size w v → Calls Tryz.prog 10 #[] v fun e w' => e = .returned (.bool true) ∧ Below v.heap.size v w')) :
    Calls Tryz.prog 3 #[.slice A n cp, .string base, .agg #[.string c, .int .i64 u], .string tc, .int .i64 day, .string t] w fun e w' => e = .returned (.bool true) ∧ Below w.heap.size w w' := by
  have hb := Mo.al w (.cells #[.string c, .int .i64 u] 24)
  have KA := Bk.new w 24 #[.string c, .int .i64 u]
  go_enter Tryz.func3, Tryz.ntmps3
  go_wp2_with fail
  refine (H.out _ hb).mono ?_
  rintro e v1 ⟨rfl, g⟩
  have hb' := Mo.Nb hb g
  have KA' := KA.bt g
  clear hb KA
  have hb := hb'
  have KA := KA'
  clear hb' KA'
  clear g
  have KAc0 := KA.cell 0 _ rfl
  have KAc1 := KA.cell 1 _ rfl
  go_wp2_with fail
  go_ret
  exact ⟨rfl, hb⟩

set_option maxHeartbeats 8000000 in
theorem Mo.mm_2 (A : Option Addr) (n cp : Nat) (base c tc t : ByteArray) (u day : Int) (w : World) (h0 : ¬ (20 : Int) < (n : Int)) (h1 : ¬ (60 : Int) < (base.size : Int)) (h2 : (60 : Int) < (c.size : Int)) 
    (H : Hid (∀ v, Below w.heap.size w v → Calls Tryz.prog 10 #[] v fun e w' => e = .returned (.bool true) ∧ Below v.heap.size v w')) :
    Calls Tryz.prog 3 #[.slice A n cp, .string base, .agg #[.string c, .int .i64 u], .string tc, .int .i64 day, .string t] w fun e w' => e = .returned (.bool true) ∧ Below w.heap.size w w' := by
  have hb := Mo.al w (.cells #[.string c, .int .i64 u] 24)
  have KA := Bk.new w 24 #[.string c, .int .i64 u]
  go_enter Tryz.func3, Tryz.ntmps3
  go_wp2_with fail
  refine (H.out _ hb).mono ?_
  rintro e v1 ⟨rfl, g⟩
  have hb' := Mo.Nb hb g
  have KA' := KA.bt g
  clear hb KA
  have hb := hb'
  have KA := KA'
  clear hb' KA'
  clear g
  have KAc0 := KA.cell 0 _ rfl
  have KAc1 := KA.cell 1 _ rfl
  go_wp2_with fail
  go_ret
  exact ⟨rfl, hb⟩

set_option maxHeartbeats 8000000 in
theorem Mo.mm_3 (A : Option Addr) (n cp : Nat) (base c tc t : ByteArray) (u day : Int) (w : World) (h0 : ¬ (20 : Int) < (n : Int)) (h1 : ¬ (60 : Int) < (base.size : Int)) (h2 : ¬ (60 : Int) < (c.size : Int)) (h3 : (60 : Int) < (tc.size : Int)) 
    (H : Hid (∀ v, Below w.heap.size w v → Calls Tryz.prog 10 #[] v fun e w' => e = .returned (.bool true) ∧ Below v.heap.size v w')) :
    Calls Tryz.prog 3 #[.slice A n cp, .string base, .agg #[.string c, .int .i64 u], .string tc, .int .i64 day, .string t] w fun e w' => e = .returned (.bool true) ∧ Below w.heap.size w w' := by
  have hb := Mo.al w (.cells #[.string c, .int .i64 u] 24)
  have KA := Bk.new w 24 #[.string c, .int .i64 u]
  go_enter Tryz.func3, Tryz.ntmps3
  go_wp2_with fail
  refine (H.out _ hb).mono ?_
  rintro e v1 ⟨rfl, g⟩
  have hb' := Mo.Nb hb g
  have KA' := KA.bt g
  clear hb KA
  have hb := hb'
  have KA := KA'
  clear hb' KA'
  clear g
  have KAc0 := KA.cell 0 _ rfl
  have KAc1 := KA.cell 1 _ rfl
  go_wp2_with fail
  go_ret
  exact ⟨rfl, hb⟩

set_option maxHeartbeats 8000000 in
theorem Mo.mm_4 (A : Option Addr) (n cp : Nat) (base c tc t : ByteArray) (u day : Int) (w : World) (h0 : ¬ (20 : Int) < (n : Int)) (h1 : ¬ (60 : Int) < (base.size : Int)) (h2 : ¬ (60 : Int) < (c.size : Int)) (h3 : ¬ (60 : Int) < (tc.size : Int)) (h4 : (60 : Int) < (t.size : Int)) 
    (H : Hid (∀ v, Below w.heap.size w v → Calls Tryz.prog 10 #[] v fun e w' => e = .returned (.bool true) ∧ Below v.heap.size v w')) :
    Calls Tryz.prog 3 #[.slice A n cp, .string base, .agg #[.string c, .int .i64 u], .string tc, .int .i64 day, .string t] w fun e w' => e = .returned (.bool true) ∧ Below w.heap.size w w' := by
  have hb := Mo.al w (.cells #[.string c, .int .i64 u] 24)
  have KA := Bk.new w 24 #[.string c, .int .i64 u]
  go_enter Tryz.func3, Tryz.ntmps3
  go_wp2_with fail
  refine (H.out _ hb).mono ?_
  rintro e v1 ⟨rfl, g⟩
  have hb' := Mo.Nb hb g
  have KA' := KA.bt g
  clear hb KA
  have hb := hb'
  have KA := KA'
  clear hb' KA'
  clear g
  have KAc0 := KA.cell 0 _ rfl
  have KAc1 := KA.cell 1 _ rfl
  go_wp2_with fail
  go_ret
  exact ⟨rfl, hb⟩

set_option maxHeartbeats 8000000 in
theorem Mo.mm_5 (A : Option Addr) (n cp : Nat) (base c tc t : ByteArray) (u day : Int) (w : World) (h0 : ¬ (20 : Int) < (n : Int)) (h1 : ¬ (60 : Int) < (base.size : Int)) (h2 : ¬ (60 : Int) < (c.size : Int)) (h3 : ¬ (60 : Int) < (tc.size : Int)) (h4 : ¬ (60 : Int) < (t.size : Int)) (x : Mo.Rt) (qs vb : Bool) (qx qy s pc : ByteArray) (pu e1 e2 e3 e4 : Int) 
    (H : Hid (∀ v, Below w.heap.size w v → Calls Tryz.prog 10 #[] v fun e w' => e = .returned (.bool true) ∧ Below v.heap.size v w'))
    (FP : Hid (∀ v, Below w.heap.size w v → Calls Tryz.prog 11 #[.slice A n cp, .string base, .string tc, .int .i64 day] v fun e w' => e = .returned (.tuple #[.agg #[.string x.cur, .int .i64 x.day, .int .i64 x.num, .int .i64 x.den], .int .i64 e1]) ∧ Below v.heap.size v w'))
    (CP : Hid (∀ v, Below w.heap.size w v → Calls Tryz.prog 13 #[.slice A n cp, .string base, .agg #[.string c, .int .i64 u], .string tc, .int .i64 day] v fun e w' => e = .returned (.tuple #[.agg #[.bool qs, .string qx, .string qy], .int .i64 e2]) ∧ Below v.heap.size v w'))
    (TP : Hid (∀ v, Below w.heap.size w v → Calls Tryz.prog 15 #[.agg #[.string c, .int .i64 u]] v fun e w' => e = .returned (.tuple #[.string s, .int .i64 e3]) ∧ Below v.heap.size v w'))
    (RP : Hid (∀ v, Below w.heap.size w v → Calls Tryz.prog 17 #[.string t] v fun e w' => e = .returned (.tuple #[.agg #[.string pc, .int .i64 pu], .int .i64 e4]) ∧ Below v.heap.size v w'))
    (VP : Hid (∀ v, Below w.heap.size w v → Calls Tryz.prog 19 #[.slice A n cp, .string base] v fun e w' => e = .returned (.bool vb) ∧ Below v.heap.size v w'))
    (FQ : Hid (∀ v, Below w.heap.size w v → Calls Tryz.prog 12 #[.slice A n cp, .string base, .string tc, .int .i64 day] v fun e w' => e = .returned (.tuple #[.agg #[.string x.cur, .int .i64 x.day, .int .i64 x.num, .int .i64 x.den], .int .i64 e1]) ∧ Below v.heap.size v w'))
    (CQ : Hid (∀ v, Below w.heap.size w v → Calls Tryz.prog 14 #[.slice A n cp, .string base, .agg #[.string c, .int .i64 u], .string tc, .int .i64 day] v fun e w' => e = .returned (.tuple #[.agg #[.bool qs, .string qx, .string qy], .int .i64 e2]) ∧ Below v.heap.size v w'))
    (TQ : Hid (∀ v, Below w.heap.size w v → Calls Tryz.prog 16 #[.agg #[.string c, .int .i64 u]] v fun e w' => e = .returned (.tuple #[.string s, .int .i64 e3]) ∧ Below v.heap.size v w'))
    (RQ : Hid (∀ v, Below w.heap.size w v → Calls Tryz.prog 18 #[.string t] v fun e w' => e = .returned (.tuple #[.agg #[.string pc, .int .i64 pu], .int .i64 e4]) ∧ Below v.heap.size v w'))
    (VQ : Hid (∀ v, Below w.heap.size w v → Calls Tryz.prog 20 #[.slice A n cp, .string base] v fun e w' => e = .returned (.bool vb) ∧ Below v.heap.size v w')) :
    Calls Tryz.prog 3 #[.slice A n cp, .string base, .agg #[.string c, .int .i64 u], .string tc, .int .i64 day, .string t] w fun e w' => e = .returned (.bool true) ∧ Below w.heap.size w w' := by
  have hb := Mo.al w (.cells #[.string c, .int .i64 u] 24)
  have KA := Bk.new w 24 #[.string c, .int .i64 u]
  go_enter Tryz.func3, Tryz.ntmps3
  go_wp2_with fail
  refine (H.out _ hb).mono ?_
  rintro e v1 ⟨rfl, g⟩
  have hb' := Mo.Nb hb g
  have KA' := KA.bt g
  clear hb KA
  have hb := hb'
  have KA := KA'
  clear hb' KA'
  clear g
  have KAc0 := KA.cell 0 _ rfl
  have KAc1 := KA.cell 1 _ rfl
  go_wp2_with fail
  refine (FP.out _ hb).mono ?_
  rintro e v2 ⟨rfl, g⟩
  clear KAc0 KAc1
  have hb' := Mo.Nb hb g
  have KA' := KA.bt g
  clear hb KA
  have hb := hb'
  have KA := KA'
  clear hb' KA'
  clear g
  have hb' := Mo.Nb hb (al v2 (.cells #[.string x.cur, .int .i64 x.day, .int .i64 x.num, .int .i64 x.den] 27))
  have KA' := KA.bt (al v2 (.cells #[.string x.cur, .int .i64 x.day, .int .i64 x.num, .int .i64 x.den] 27))
  clear hb KA
  have hb := hb'
  have KA := KA'
  clear hb' KA'
  have X1 := Bk.new v2 27 #[.string x.cur, .int .i64 x.day, .int .i64 x.num, .int .i64 x.den]
  go_wp2_with fail
  refine (FQ.out _ hb).mono ?_
  rintro e v3 ⟨rfl, g⟩
  have hb' := Mo.Nb hb g
  have KA' := KA.bt g
  have X1' := X1.bt g
  clear hb KA X1
  have hb := hb'
  have KA := KA'
  have X1 := X1'
  clear hb' KA' X1'
  clear g
  have hb' := Mo.Nb hb (al v3 (.cells #[.string x.cur, .int .i64 x.day, .int .i64 x.num, .int .i64 x.den] 27))
  have KA' := KA.bt (al v3 (.cells #[.string x.cur, .int .i64 x.day, .int .i64 x.num, .int .i64 x.den] 27))
  have X1' := X1.bt (al v3 (.cells #[.string x.cur, .int .i64 x.day, .int .i64 x.num, .int .i64 x.den] 27))
  clear hb KA X1
  have hb := hb'
  have KA := KA'
  have X1 := X1'
  clear hb' KA' X1'
  have X2 := Bk.new v3 27 #[.string x.cur, .int .i64 x.day, .int .i64 x.num, .int .i64 x.den]
  have KAc0 := KA.cell 0 _ rfl
  have KAc1 := KA.cell 1 _ rfl
  go_wp2_with fail
  refine (CP.out _ hb).mono ?_
  rintro e v4 ⟨rfl, g⟩
  clear KAc0 KAc1
  have hb' := Mo.Nb hb g
  have KA' := KA.bt g
  have X1' := X1.bt g
  have X2' := X2.bt g
  clear hb KA X1 X2
  have hb := hb'
  have KA := KA'
  have X1 := X1'
  have X2 := X2'
  clear hb' KA' X1' X2'
  clear g
  have hb' := Mo.Nb hb (al v4 (.cells #[.bool qs, .string qx, .string qy] 32))
  have KA' := KA.bt (al v4 (.cells #[.bool qs, .string qx, .string qy] 32))
  have X1' := X1.bt (al v4 (.cells #[.bool qs, .string qx, .string qy] 32))
  have X2' := X2.bt (al v4 (.cells #[.bool qs, .string qx, .string qy] 32))
  clear hb KA X1 X2
  have hb := hb'
  have KA := KA'
  have X1 := X1'
  have X2 := X2'
  clear hb' KA' X1' X2'
  have Q1 := Bk.new v4 32 #[.bool qs, .string qx, .string qy]
  have KAc0 := KA.cell 0 _ rfl
  have KAc1 := KA.cell 1 _ rfl
  go_wp2_with fail
  refine (CQ.out _ hb).mono ?_
  rintro e v5 ⟨rfl, g⟩
  clear KAc0 KAc1
  have hb' := Mo.Nb hb g
  have KA' := KA.bt g
  have X1' := X1.bt g
  have X2' := X2.bt g
  have Q1' := Q1.bt g
  clear hb KA X1 X2 Q1
  have hb := hb'
  have KA := KA'
  have X1 := X1'
  have X2 := X2'
  have Q1 := Q1'
  clear hb' KA' X1' X2' Q1'
  clear g
  have hb' := Mo.Nb hb (al v5 (.cells #[.bool qs, .string qx, .string qy] 32))
  have KA' := KA.bt (al v5 (.cells #[.bool qs, .string qx, .string qy] 32))
  have X1' := X1.bt (al v5 (.cells #[.bool qs, .string qx, .string qy] 32))
  have X2' := X2.bt (al v5 (.cells #[.bool qs, .string qx, .string qy] 32))
  have Q1' := Q1.bt (al v5 (.cells #[.bool qs, .string qx, .string qy] 32))
  clear hb KA X1 X2 Q1
  have hb := hb'
  have KA := KA'
  have X1 := X1'
  have X2 := X2'
  have Q1 := Q1'
  clear hb' KA' X1' X2' Q1'
  have Q2 := Bk.new v5 32 #[.bool qs, .string qx, .string qy]
  have KAc0 := KA.cell 0 _ rfl
  have KAc1 := KA.cell 1 _ rfl
  go_wp2_with fail
  refine (TP.out _ hb).mono ?_
  rintro e v6 ⟨rfl, g⟩
  clear KAc0 KAc1
  have hb' := Mo.Nb hb g
  have KA' := KA.bt g
  have X1' := X1.bt g
  have X2' := X2.bt g
  have Q1' := Q1.bt g
  have Q2' := Q2.bt g
  clear hb KA X1 X2 Q1 Q2
  have hb := hb'
  have KA := KA'
  have X1 := X1'
  have X2 := X2'
  have Q1 := Q1'
  have Q2 := Q2'
  clear hb' KA' X1' X2' Q1' Q2'
  clear g
  have KAc0 := KA.cell 0 _ rfl
  have KAc1 := KA.cell 1 _ rfl
  go_wp2_with fail
  refine (TQ.out _ hb).mono ?_
  rintro e v7 ⟨rfl, g⟩
  clear KAc0 KAc1
  have hb' := Mo.Nb hb g
  have KA' := KA.bt g
  have X1' := X1.bt g
  have X2' := X2.bt g
  have Q1' := Q1.bt g
  have Q2' := Q2.bt g
  clear hb KA X1 X2 Q1 Q2
  have hb := hb'
  have KA := KA'
  have X1 := X1'
  have X2 := X2'
  have Q1 := Q1'
  have Q2 := Q2'
  clear hb' KA' X1' X2' Q1' Q2'
  clear g
  go_wp2_with fail
  refine (RP.out _ hb).mono ?_
  rintro e v8 ⟨rfl, g⟩
  have hb' := Mo.Nb hb g
  have KA' := KA.bt g
  have X1' := X1.bt g
  have X2' := X2.bt g
  have Q1' := Q1.bt g
  have Q2' := Q2.bt g
  clear hb KA X1 X2 Q1 Q2
  have hb := hb'
  have KA := KA'
  have X1 := X1'
  have X2 := X2'
  have Q1 := Q1'
  have Q2 := Q2'
  clear hb' KA' X1' X2' Q1' Q2'
  clear g
  have hb' := Mo.Nb hb (al v8 (.cells #[.string pc, .int .i64 pu] 24))
  have KA' := KA.bt (al v8 (.cells #[.string pc, .int .i64 pu] 24))
  have X1' := X1.bt (al v8 (.cells #[.string pc, .int .i64 pu] 24))
  have X2' := X2.bt (al v8 (.cells #[.string pc, .int .i64 pu] 24))
  have Q1' := Q1.bt (al v8 (.cells #[.string pc, .int .i64 pu] 24))
  have Q2' := Q2.bt (al v8 (.cells #[.string pc, .int .i64 pu] 24))
  clear hb KA X1 X2 Q1 Q2
  have hb := hb'
  have KA := KA'
  have X1 := X1'
  have X2 := X2'
  have Q1 := Q1'
  have Q2 := Q2'
  clear hb' KA' X1' X2' Q1' Q2'
  have P1 := Bk.new v8 24 #[.string pc, .int .i64 pu]
  go_wp2_with fail
  refine (RQ.out _ hb).mono ?_
  rintro e v9 ⟨rfl, g⟩
  have hb' := Mo.Nb hb g
  have KA' := KA.bt g
  have X1' := X1.bt g
  have X2' := X2.bt g
  have Q1' := Q1.bt g
  have Q2' := Q2.bt g
  have P1' := P1.bt g
  clear hb KA X1 X2 Q1 Q2 P1
  have hb := hb'
  have KA := KA'
  have X1 := X1'
  have X2 := X2'
  have Q1 := Q1'
  have Q2 := Q2'
  have P1 := P1'
  clear hb' KA' X1' X2' Q1' Q2' P1'
  clear g
  have hb' := Mo.Nb hb (al v9 (.cells #[.string pc, .int .i64 pu] 24))
  have KA' := KA.bt (al v9 (.cells #[.string pc, .int .i64 pu] 24))
  have X1' := X1.bt (al v9 (.cells #[.string pc, .int .i64 pu] 24))
  have X2' := X2.bt (al v9 (.cells #[.string pc, .int .i64 pu] 24))
  have Q1' := Q1.bt (al v9 (.cells #[.string pc, .int .i64 pu] 24))
  have Q2' := Q2.bt (al v9 (.cells #[.string pc, .int .i64 pu] 24))
  have P1' := P1.bt (al v9 (.cells #[.string pc, .int .i64 pu] 24))
  clear hb KA X1 X2 Q1 Q2 P1
  have hb := hb'
  have KA := KA'
  have X1 := X1'
  have X2 := X2'
  have Q1 := Q1'
  have Q2 := Q2'
  have P1 := P1'
  clear hb' KA' X1' X2' Q1' Q2' P1'
  have P2 := Bk.new v9 24 #[.string pc, .int .i64 pu]
  go_wp2_with fail
  refine (VP.out _ hb).mono ?_
  rintro e v10 ⟨rfl, g⟩
  have hb' := Mo.Nb hb g
  have KA' := KA.bt g
  have X1' := X1.bt g
  have X2' := X2.bt g
  have Q1' := Q1.bt g
  have Q2' := Q2.bt g
  have P1' := P1.bt g
  have P2' := P2.bt g
  clear hb KA X1 X2 Q1 Q2 P1 P2
  have hb := hb'
  have KA := KA'
  have X1 := X1'
  have X2 := X2'
  have Q1 := Q1'
  have Q2 := Q2'
  have P1 := P1'
  have P2 := P2'
  clear hb' KA' X1' X2' Q1' Q2' P1' P2'
  clear g
  go_wp2_with fail
  refine (VQ.out _ hb).mono ?_
  rintro e v11 ⟨rfl, g⟩
  have hb' := Mo.Nb hb g
  have KA' := KA.bt g
  have X1' := X1.bt g
  have X2' := X2.bt g
  have Q1' := Q1.bt g
  have Q2' := Q2.bt g
  have P1' := P1.bt g
  have P2' := P2.bt g
  clear hb KA X1 X2 Q1 Q2 P1 P2
  have hb := hb'
  have KA := KA'
  have X1 := X1'
  have X2 := X2'
  have Q1 := Q1'
  have Q2 := Q2'
  have P1 := P1'
  have P2 := P2'
  clear hb' KA' X1' X2' Q1' Q2' P1' P2'
  clear g
  have X1c0 := X1.cell 0 _ rfl
  have X1c1 := X1.cell 1 _ rfl
  have X1c2 := X1.cell 2 _ rfl
  have X1c3 := X1.cell 3 _ rfl
  have X2c0 := X2.cell 0 _ rfl
  have X2c1 := X2.cell 1 _ rfl
  have X2c2 := X2.cell 2 _ rfl
  have X2c3 := X2.cell 3 _ rfl
  have Q1c0 := Q1.cell 0 _ rfl
  have Q1c1 := Q1.cell 1 _ rfl
  have Q1c2 := Q1.cell 2 _ rfl
  have Q2c0 := Q2.cell 0 _ rfl
  have Q2c1 := Q2.cell 1 _ rfl
  have Q2c2 := Q2.cell 2 _ rfl
  have P1c0 := P1.cell 0 _ rfl
  have P1c1 := P1.cell 1 _ rfl
  have P2c0 := P2.cell 0 _ rfl
  have P2c1 := P2.cell 1 _ rfl
  go_wp2_with fail
  go_ret
  exact ⟨rfl, hb⟩

theorem matches_walk (A : Option Addr) (cp : Nat) (l : List Mo.Rt) (base c : ByteArray) (u : Int) (tc : ByteArray) (day : Int) (t : ByteArray) (w : World) (hP : Mo.Pa w.heap.size w) (hl : Mo.Rts w w.heap.size A l) (hg : Mo.AllGood l) (hlen : l.length ≤ maxLen) (hbs : base.size ≤ maxLen)
    (hcs : c.size ≤ maxLen) (hu : (Go.Lit.int .i64 u).wf = true) (hts : tc.size ≤ maxLen) (hday : (Go.Lit.int .i64 day).wf = true) (ht : t.size ≤ maxLen) :
    Calls Tryz.prog 3 #[.slice A l.length cp, .string base, .agg #[.string c, .int .i64 u], .string tc, .int .i64 day, .string t] w fun e w' => e = .returned (.bool true) ∧ Below w.heap.size w w' := by
  have H := Lib.hid (fun v (h : Below w.heap.size w v) => Mo.head_any v (hP.bt h).pm)
  by_cases h0 : (20 : Int) < (l.length : Int)
  · exact Mo.mm_0 A l.length cp base c tc t u day w h0 H
  by_cases h1 : (60 : Int) < (base.size : Int)
  · exact Mo.mm_1 A l.length cp base c tc t u day w h0 h1 H
  by_cases h2 : (60 : Int) < (c.size : Int)
  · exact Mo.mm_2 A l.length cp base c tc t u day w h0 h1 h2 H
  by_cases h3 : (60 : Int) < (tc.size : Int)
  · exact Mo.mm_3 A l.length cp base c tc t u day w h0 h1 h2 h3 H
  by_cases h4 : (60 : Int) < (t.size : Int)
  · exact Mo.mm_4 A l.length cp base c tc t u day w h0 h1 h2 h3 h4 H
  have hn20 : l.length ≤ 20 := by omega
  have FP := Lib.hid (fun v (h : Below w.heap.size w v) => Mo.Find_any A cp l base tc day v (hl.bt h) hg hbs hts hlen)
  have FQ := Lib.hid (fun v (h : Below w.heap.size w v) => Mo.rfind_any A cp l base tc day v (hl.bt h) hg hbs hts hn20)
  have CP := Lib.hid (fun v (h : Below w.heap.size w v) => Mo.conv_any A cp l base c tc u day v (hP.bt h).pm.1 (hl.bt h) hg hbs hcs hts hlen)
  have CQ := Lib.hid (fun v (h : Below w.heap.size w v) => Mo.rconv_any A cp l base c tc u day v (hl.bt h) hg hbs hcs hts hn20)
  have TP := Lib.hid (fun v (h : Below w.heap.size w v) => Mo.text_any c u v (hP.bt h) hcs)
  have TQ := Lib.hid (fun v (_ : Below w.heap.size w v) => Mo.rtext_any c u v hcs)
  have RP := Lib.hid (fun v (h : Below w.heap.size w v) => Mo.parse_any t v (hP.bt h) (by omega))
  have RQ := Lib.hid (fun v (_ : Below w.heap.size w v) => Mo.rparse8_any t v (by omega))
  have VP := Lib.hid (fun v (h : Below w.heap.size w v) => Mo.valid_any A cp l base v (hl.bt h) hg hbs hlen)
  have VQ := Lib.hid (fun v (h : Below w.heap.size w v) => Mo.rvalid8_any A cp l base v (hl.bt h) hg hbs hn20)
  exact Mo.mm_5 A l.length cp base c tc t u day w h0 h1 h2 h3 h4 (Mo.find l base tc day).1 (Mo.conv l base c u tc day).1.1 (Mo.valid l base) (Mo.conv l base c u tc day).1.2.1 (Mo.conv l base c u tc day).1.2.2 (Mo.textF c u).1 (Mo.parseF t).1.1 (Mo.parseF t).1.2 (Mo.find l base tc day).2 (Mo.conv l base c u tc day).2 (Mo.textF c u).2 (Mo.parseF t).2 H FP CP TP RP VP FQ CQ TQ RQ VQ
end Go.Proofs.YtkbncdcphohmiaaGreatDoor
