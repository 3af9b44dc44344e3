/- Of, Int, numbers, operate and what is exported of them. -/
import Derived.Test.YtmnnaaifebajnaaGreatDoorNaK
set_option linter.unusedSimpArgs false
set_option linter.unusedVariables false
namespace Go.Proofs.YtmnnaaifebajnaaGreatDoor
open Go.RowKit
set_option maxRecDepth 100000

/-- Numbers have less than 301 digits. -/
def DIGS : Nat := 300
def LIM : Nat := 10 ^ DIGS

theorem tx_isB (m : Nat) : isB (tx m) = decide (m < LIM) := by
  unfold isB tx LIM
  rw [show (⟨(Lib.decDigits m).toArray⟩ : ByteArray).data.toList = Lib.decDigits m by simp, Na.dec_isN, Bool.true_and, bsizeN]
  exact decide_eq_decide.2 (Na.dec_len (k := DIGS) (by unfold DIGS; omega))

theorem isB_tx {s : ByteArray} (h : isB s = true) : ∃ m, m < LIM ∧ s = tx m := by
  unfold isB at h
  rw [Bool.and_eq_true] at h
  have e := Na.dec_val _ h.1
  refine ⟨Na.val s.data.toList, ?_, ?_⟩
  · unfold LIM
    rw [← Na.dec_len (k := DIGS) (by unfold DIGS; omega), e]
    have h2 : s.size ≤ 300 := by simpa using h.2
    exact h2
  · unfold tx
    rw [e]

theorem tx_inj {m n : Nat} (h : tx m = tx n) : m = n := by
  unfold tx at h
  apply Na.dec_inj
  have := congrArg (fun b : ByteArray => b.data.toList) h
  simpa using this

theorem tx_facts {m : Nat} (h : m < LIM) : Na.isN (tx m).data.toList = true ∧ (tx m).size ≤ 300 ∧ Na.val (tx m).data.toList = m := by
  have h1 := tx_isB m
  rw [decide_eq_true h] at h1
  unfold isB at h1
  rw [Bool.and_eq_true] at h1
  refine ⟨h1.1, by simpa using h1.2, ?_⟩
  unfold tx
  simp [Na.val_dec]

theorem lim50 {m : Nat} (h : m < LIM) : (Na.lim m).length ≤ 50 := by
  refine Na.lim_length.2 ?_
  rw [pow6, show 6 * 50 = DIGS from rfl]
  exact h

theorem fold_ge (l : List UInt8) : ∀ acc, acc ≤ l.foldl (fun n c => n * 10 + Na.dv c) acc := by
  induction l with
  | nil => intro acc; exact Nat.le_refl _
  | cons c l ih => intro acc; rw [List.foldl_cons]; have := ih (acc * 10 + Na.dv c); omega

theorem parse_digits : ∀ (l : List UInt8) (acc : Nat), l.all Na.isD = true → acc < 18446744073709551616 →
    Lib.parseUint10 acc l = if l.foldl (fun n c => n * 10 + Na.dv c) acc < 18446744073709551616 then .ok (l.foldl (fun n c => n * 10 + Na.dv c) acc) else .range
  | [], acc, _, ha => by simp [Lib.parseUint10, ha]
  | c :: r, acc, hl, ha => by
    rw [List.all_cons, Bool.and_eq_true] at hl
    have hc := (Na.isD_iff _).1 hl.1
    rw [Lib.parseUint10, if_pos hc, List.foldl_cons]
    have hg := fold_ge r (acc * 10 + Na.dv c)
    have hdv : c.toNat - 48 = Na.dv c := rfl
    rw [hdv]
    split
    · rw [if_neg (by omega)]
    · split
      · rw [if_neg (by omega)]
      · exact parse_digits r _ hl.2 (by omega)

theorem atoi_digits (l : List UInt8) (h : Na.isN l = true) : Lib.atoiAll l = if Na.val l < 9223372036854775808 then .ok (Na.val l : Int) else .range := by
  have hall := Na.isN_all h
  have hp := parse_digits l 0 hall (by omega)
  cases l with
  | nil => simp [Na.isN] at h
  | cons c r =>
    have hc := (Na.isD_iff _).1 (List.all_eq_true.1 hall c List.mem_cons_self)
    have hv : (c :: r).foldl (fun n c => n * 10 + Na.dv c) 0 = Na.val (c :: r) := rfl
    rw [hv] at hp
    have hm : Lib.parseMag (c :: r) = if Na.val (c :: r) < 18446744073709551616 then .ok (Na.val (c :: r)) else .range := by
      unfold Lib.parseMag
      rw [if_neg (by simp)]
      exact hp
    unfold Lib.atoiAll
    have n1 : ¬ (c.toNat = 43 ∨ c.toNat = 45) := by omega
    have n2 : ¬ c.toNat = 45 := by omega
    have n3 : ¬ c.toNat = 43 := by omega
    simp only [n2, n3, or_self, if_false, hm]
    generalize Na.val (c :: r) = v
    by_cases h1 : v < 18446744073709551616
    · rw [if_pos h1]
      by_cases h2 : v < 9223372036854775808
      · simp [h2, Nat.not_le.2 h2]
      · simp [h2, Nat.not_lt.1 h2]
    · rw [if_neg h1]
      simp only []
      rw [if_neg (by omega)]

theorem int_bad (s : ByteArray) (w : World) (hz : s.size ≤ maxLen) (h : isB s = false) :
    Calls Tryz.prog 57 #[.string s] w fun e w' => e = .returned (.tuple #[.int .i64 0, .int .i64 1]) ∧ Below w.heap.size w w' := by
  have HI := Lib.hid (is_any s w hz)
  rw [h] at HI
  go_enter Tryz.func57, Tryz.ntmps57
  go_wp2_with fail
  refine HI.out.mono ?_
  rintro e w1 ⟨rfl, hb1⟩
  go_wp2_with fail
  go_ret2
  exact ⟨rfl, hb1⟩

theorem tx_len {m : Nat} (h : m < LIM) : (tx m).size ≤ maxLen := by
  have := (tx_facts h).2.1
  unfold maxLen
  omega

theorem int_ok (m : Nat) (w : World) (h : m < LIM) (hm : m < 9223372036854775808) :
    Calls Tryz.prog 57 #[.string (tx m)] w fun e w' => e = .returned (.tuple #[.int .i64 (m : Int), .int .i64 0]) ∧ Below w.heap.size w w' := by
  have HI := Lib.hid (is_any (tx m) w (tx_len h))
  obtain ⟨f1, f2, f3⟩ := tx_facts h
  rw [tx_isB, decide_eq_true h] at HI
  have e := atoi_digits _ f1
  rw [f3, if_pos hm] at e
  have HA := Lib.hid (fun w => Tryz.strconv_Atoi_ok (tx m) (by omega) m e w)
  clear e f1 f3
  go_enter Tryz.func57, Tryz.ntmps57
  go_wp2_with fail
  refine HI.out.mono ?_
  rintro e w1 ⟨rfl, hb1⟩
  go_wp2_with fail
  refine (HA.out w1).mono ?_
  rintro e w2 ⟨rfl, hw2⟩
  have hb2 : Below w1.heap.size w1 w2 := by
    rcases hw2 with rfl | ⟨t, rfl⟩
    · exact Below.refl _ _
    · exact Lib.bytesWorld_below _ _ _
  clear hw2
  go_wp2_with fail
  go_ret2
  exact ⟨rfl, Nb hb1 hb2⟩

theorem int_range (m : Nat) (w : World) (h : m < LIM) (hm : ¬ m < 9223372036854775808) (hp : Pow w.heap.size w) :
    Calls Tryz.prog 57 #[.string (tx m)] w fun e w' => e = .returned (.tuple #[.int .i64 0, .int .i64 10]) ∧ Below w.heap.size w w' := by
  have HI := Lib.hid (is_any (tx m) w (tx_len h))
  obtain ⟨f1, f2, f3⟩ := tx_facts h
  rw [tx_isB, decide_eq_true h] at HI
  have e := atoi_digits _ f1
  rw [f3, if_neg hm] at e
  obtain ⟨te, pe, hc⟩ := hp.2.2.1
  have HA := Lib.hid (fun w1 (hb1 : Below w.heap.size w w1) => Tryz.strconv_Atoi_range (tx m) (by omega) e (.iface te pe) w1 ((hb1.cell (p := ⟨4, 0, none⟩) hp.2.2.2).trans hc) (.inr ⟨te, pe, rfl⟩))
  clear e f1 f3 hc
  go_enter Tryz.func57, Tryz.ntmps57
  go_wp2_with fail
  refine HI.out.mono ?_
  rintro e w1 ⟨rfl, hb1⟩
  go_wp2_with fail
  refine (HA.out w1 hb1).mono ?_
  rintro e w2 ⟨N, rfl, _, _, hb2⟩
  go_wp2_with fail
  go_ret2
  exact ⟨rfl, Nb hb1 hb2⟩

theorem numbers_bad (s t : ByteArray) (w : World) (hs : s.size ≤ maxLen) (ht : t.size ≤ maxLen) (h : (isB s && isB t) = false) :
    Calls Tryz.prog 79 #[.string s, .string t] w fun e w' => e = .returned (.tuple #[.slice none 0 0, .slice none 0 0, .int .i64 1]) ∧ Below w.heap.size w w' := by
  have H1 := Lib.hid (is_any s w hs)
  have H2 := Lib.hid (fun w => is_any t w ht)
  cases hb : isB s
  · rw [hb] at H1
    go_enter Tryz.func79, Tryz.ntmps79
    go_wp2_with fail
    refine H1.out.mono ?_
    rintro e w1 ⟨rfl, hb1⟩
    go_wp2_with fail
    go_ret3
    exact ⟨rfl, hb1⟩
  · have hbt : isB t = false := by rw [hb] at h; simpa using h
    rw [hb] at H1
    rw [hbt] at H2
    go_enter Tryz.func79, Tryz.ntmps79
    go_wp2_with fail
    refine H1.out.mono ?_
    rintro e w1 ⟨rfl, hb1⟩
    go_wp2_with fail
    refine (H2.out w1).mono ?_
    rintro e w2 ⟨rfl, hb2⟩
    go_wp2_with fail
    go_ret3
    exact ⟨rfl, Nb hb1 hb2⟩

def GivesNN (m n : Nat) (w : World) (e : Ending) (w' : World) : Prop :=
  ∃ A c A' c', e = .returned (.tuple #[.slice A (Na.lim m).length c, .slice A' (Na.lim n).length c', .int .i64 0]) ∧ Ints w' w'.heap.size A (Na.lim m) ∧ (Na.lim m).length ≤ c ∧ c ≤ maxLen ∧ Ints w' w'.heap.size A' (Na.lim n) ∧ (Na.lim n).length ≤ c' ∧ c' ≤ maxLen ∧ Below w.heap.size w w'

theorem numbers_ok (m n : Nat) (w : World) (hm : m < LIM) (hn : n < LIM) :
    Calls Tryz.prog 79 #[.string (tx m), .string (tx n)] w (GivesNN m n w) := by
  unfold GivesNN
  have H1 := Lib.hid (is_any (tx m) w (tx_len hm))
  have H2 := Lib.hid (fun w => is_any (tx n) w (tx_len hn))
  rw [tx_isB, decide_eq_true hm] at H1
  rw [tx_isB, decide_eq_true hn] at H2
  have N1 := Lib.hid (fun w => numberOf_any (tx m) w (tx_facts hm).1 (tx_facts hm).2.1)
  have N2 := Lib.hid (fun w => numberOf_any (tx n) w (tx_facts hn).1 (tx_facts hn).2.1)
  rw [(tx_facts hm).2.2] at N1
  rw [(tx_facts hn).2.2] at N2
  go_enter Tryz.func79, Tryz.ntmps79
  go_wp2_with fail
  refine H1.out.mono ?_
  rintro e w1 ⟨rfl, hb1⟩
  go_wp2_with fail
  refine (H2.out w1).mono ?_
  rintro e w2 ⟨rfl, hb2⟩
  go_wp2_with fail
  refine (N1.out w2).mono ?_
  rintro e w3 ⟨A, c, rfl, hi, hc, hcm, hb3⟩
  have HI := Lib.hid hi
  clear hi
  go_wp2_with fail
  refine (N2.out w3).mono ?_
  rintro e w4 ⟨A', c', rfl, hi', hc', hcm', hb4⟩
  have HI' := Lib.hid hi'
  have HI2 := Lib.hid (HI.out.bt hb4)
  clear hi'
  go_wp2_with fail
  go_ret3
  exact ⟨A, c, A', c', rfl, HI2.out, hc, hcm, HI'.out, hc', hcm', Nb (Nb (Nb hb1 hb2) hb3) hb4⟩

/-- What an operation answers whose result is R. -/
def sN (R : Nat) : ByteArray := if R < LIM then tx R else ⟨#[]⟩
def eN (R : Nat) : Int := if R < LIM then 0 else 2

theorem tx_le300 (R : Nat) : (tx R).size ≤ 300 ↔ R < LIM := by
  unfold LIM
  rw [tx_size]
  exact Na.dec_len (k := DIGS) (by unfold DIGS; omega)

theorem lt50 {m : Nat} (h : m < LIM) : m < 1000000 ^ 50 := by
  rw [pow6, show 6 * 50 = DIGS from rfl]
  exact h

set_option maxHeartbeats 1000000 in
theorem operate_add (m n : Nat) (w : World) (hm : m < LIM) (hn : n < LIM) (hp : Pow w.heap.size w) :
    Calls Tryz.prog 77 #[.string (tx m), .string (tx n), .func (.func 95) #[] #[]] w fun e w' => e = .returned (.tuple #[.string (sN (m + n)), .int .i64 (eN (m + n))]) ∧ Below w.heap.size w w' := by
  have NN := Lib.hid (numbers_ok m n w hm hn)
  have HM := Lib.hid (lim50 hm)
  have HN := Lib.hid (lim50 hn)
  have hRl : (Na.lim (m + n)).length ≤ 1000 := by
    refine Nat.le_trans ((Na.lim_length (k := 51)).2 ?_) (by omega)
    have h1 := lt50 hm
    have h2 := lt50 hn
    rw [show 51 = 50 + 1 from rfl, Nat.pow_succ]
    generalize 1000000 ^ 50 = q at *
    omega
  have TT := Lib.hid (tx_le300 (m + n))
  have TX := Lib.hid (fun A c W (hs : Ints W W.heap.size A (Na.lim (m + n))) hp => text_any A (m + n) c W hs hRl hp)
  have HPW := Lib.hid (fun (v : World) (hb : Below w.heap.size w v) => hp.bt hb)
  have OP := Lib.hid (fun W A c A' c' (h1 : Ints W W.heap.size A (Na.lim m)) (h2 : (Na.lim m).length ≤ c) (h3 : c ≤ maxLen) (h4 : Ints W W.heap.size A' (Na.lim n)) (h5 : (Na.lim n).length ≤ c') (h6 : c' ≤ maxLen) => show Calls Tryz.prog 95 #[.slice A (Na.lim m).length c, .slice A' (Na.lim n).length c'] W (GivesN (m + n) W) from by
    have := plus_any A A' (Na.lim m) (Na.lim n) c c' W h1 h4 (by have := HM.out; omega) (by have := HN.out; omega) (Na.lim_lt m) (Na.lim_lt n)
    rwa [Na.lv_lim, Na.lv_lim] at this)
  clear hp hRl
  generalize hR : m + n = R at *
  by_cases hle : R < LIM
  · have e1 : sN R = tx R := if_pos hle
    have e2 : eN R = 0 := if_pos hle
    have hts := TT.out.2 hle
    have htsi : ¬ (300 : Int) < ((tx R).size : Int) := by omega
    rw [e1, e2]
    clear e1 e2 TT hle hR
    go_enter Tryz.func77, Tryz.ntmps77
    go_wp2_with fail
    refine NN.out.mono ?_
    rintro e w1 ⟨A, c, A', c', rfl, h1, h2, h3, h4, h5, h6, hb1⟩
    have O1 := Lib.hid (OP.out w1 A c A' c' h1 h2 h3 h4 h5 h6)
    clear h1 h4
    go_wp2_with fail
    refine O1.out.mono ?_
    rintro e w2 ⟨A2, c2, rfl, hi2, _, _, hb2⟩
    have T2 := Lib.hid (TX.out A2 c2 w2 hi2 (HPW.out w2 (Nb hb1 hb2)))
    clear hi2
    go_wp2_with fail
    refine T2.out.mono ?_
    rintro e w3 ⟨rfl, hb3⟩
    go_wp2_with fail
    go_ret2
    exact ⟨rfl, Nb (Nb hb1 hb2) hb3⟩
  · have e1 : sN R = ⟨#[]⟩ := if_neg hle
    have e2 : eN R = 2 := if_neg hle
    have hts := mt TT.out.1 hle
    have htsi : (300 : Int) < ((tx R).size : Int) := by omega
    rw [e1, e2]
    clear e1 e2 TT hle hR
    go_enter Tryz.func77, Tryz.ntmps77
    go_wp2_with fail
    refine NN.out.mono ?_
    rintro e w1 ⟨A, c, A', c', rfl, h1, h2, h3, h4, h5, h6, hb1⟩
    have O1 := Lib.hid (OP.out w1 A c A' c' h1 h2 h3 h4 h5 h6)
    clear h1 h4
    go_wp2_with fail
    refine O1.out.mono ?_
    rintro e w2 ⟨A2, c2, rfl, hi2, _, _, hb2⟩
    have T2 := Lib.hid (TX.out A2 c2 w2 hi2 (HPW.out w2 (Nb hb1 hb2)))
    clear hi2
    go_wp2_with fail
    refine T2.out.mono ?_
    rintro e w3 ⟨rfl, hb3⟩
    go_wp2_with fail
    go_ret2
    exact ⟨rfl, Nb (Nb hb1 hb2) hb3⟩

set_option maxHeartbeats 1000000 in
theorem operate_sub (m n : Nat) (w : World) (hm : m < LIM) (hn : n < LIM) (hp : Pow w.heap.size w) (hmn : n ≤ m) :
    Calls Tryz.prog 77 #[.string (tx m), .string (tx n), .func (.func 78) #[] #[]] w fun e w' => e = .returned (.tuple #[.string (sN (m - n)), .int .i64 (eN (m - n))]) ∧ Below w.heap.size w w' := by
  have NN := Lib.hid (numbers_ok m n w hm hn)
  have HM := Lib.hid (lim50 hm)
  have HN := Lib.hid (lim50 hn)
  have hRl : (Na.lim (m - n)).length ≤ 1000 := by
    refine Nat.le_trans ((Na.lim_length (k := 50)).2 ?_) (by omega)
    have h1 := lt50 hm
    omega
  have TT := Lib.hid (tx_le300 (m - n))
  have TX := Lib.hid (fun A c W (hs : Ints W W.heap.size A (Na.lim (m - n))) hp => text_any A (m - n) c W hs hRl hp)
  have HPW := Lib.hid (fun (v : World) (hb : Below w.heap.size w v) => hp.bt hb)
  have OP := Lib.hid (fun W A c A' c' (h1 : Ints W W.heap.size A (Na.lim m)) (h2 : (Na.lim m).length ≤ c) (h3 : c ≤ maxLen) (h4 : Ints W W.heap.size A' (Na.lim n)) (h5 : (Na.lim n).length ≤ c') (h6 : c' ≤ maxLen) => show Calls Tryz.prog 78 #[.slice A (Na.lim m).length c, .slice A' (Na.lim n).length c'] W (GivesN (m - n) W) from by
    exact minus_any A A' m n c c' W h1 h4 (by have := HM.out; omega) h3 hmn)
  clear hp hRl
  generalize hR : m - n = R at *
  by_cases hle : R < LIM
  · have e1 : sN R = tx R := if_pos hle
    have e2 : eN R = 0 := if_pos hle
    have hts := TT.out.2 hle
    have htsi : ¬ (300 : Int) < ((tx R).size : Int) := by omega
    rw [e1, e2]
    clear e1 e2 TT hle hR
    go_enter Tryz.func77, Tryz.ntmps77
    go_wp2_with fail
    refine NN.out.mono ?_
    rintro e w1 ⟨A, c, A', c', rfl, h1, h2, h3, h4, h5, h6, hb1⟩
    have O1 := Lib.hid (OP.out w1 A c A' c' h1 h2 h3 h4 h5 h6)
    clear h1 h4
    go_wp2_with fail
    refine O1.out.mono ?_
    rintro e w2 ⟨A2, c2, rfl, hi2, _, _, hb2⟩
    have T2 := Lib.hid (TX.out A2 c2 w2 hi2 (HPW.out w2 (Nb hb1 hb2)))
    clear hi2
    go_wp2_with fail
    refine T2.out.mono ?_
    rintro e w3 ⟨rfl, hb3⟩
    go_wp2_with fail
    go_ret2
    exact ⟨rfl, Nb (Nb hb1 hb2) hb3⟩
  · have e1 : sN R = ⟨#[]⟩ := if_neg hle
    have e2 : eN R = 2 := if_neg hle
    have hts := mt TT.out.1 hle
    have htsi : (300 : Int) < ((tx R).size : Int) := by omega
    rw [e1, e2]
    clear e1 e2 TT hle hR
    go_enter Tryz.func77, Tryz.ntmps77
    go_wp2_with fail
    refine NN.out.mono ?_
    rintro e w1 ⟨A, c, A', c', rfl, h1, h2, h3, h4, h5, h6, hb1⟩
    have O1 := Lib.hid (OP.out w1 A c A' c' h1 h2 h3 h4 h5 h6)
    clear h1 h4
    go_wp2_with fail
    refine O1.out.mono ?_
    rintro e w2 ⟨A2, c2, rfl, hi2, _, _, hb2⟩
    have T2 := Lib.hid (TX.out A2 c2 w2 hi2 (HPW.out w2 (Nb hb1 hb2)))
    clear hi2
    go_wp2_with fail
    refine T2.out.mono ?_
    rintro e w3 ⟨rfl, hb3⟩
    go_wp2_with fail
    go_ret2
    exact ⟨rfl, Nb (Nb hb1 hb2) hb3⟩

set_option maxHeartbeats 1000000 in
theorem operate_mul (m n : Nat) (w : World) (hm : m < LIM) (hn : n < LIM) (hp : Pow w.heap.size w) :
    Calls Tryz.prog 77 #[.string (tx m), .string (tx n), .func (.func 93) #[] #[]] w fun e w' => e = .returned (.tuple #[.string (sN (m * n)), .int .i64 (eN (m * n))]) ∧ Below w.heap.size w w' := by
  have NN := Lib.hid (numbers_ok m n w hm hn)
  have HM := Lib.hid (lim50 hm)
  have HN := Lib.hid (lim50 hn)
  have hRl : (Na.lim (m * n)).length ≤ 1000 := by
    refine Nat.le_trans ((Na.lim_length (k := 50 + 50)).2 ?_) (by omega)
    rw [Nat.pow_add]
    exact Nat.mul_lt_mul'' (lt50 hm) (lt50 hn)
  have TT := Lib.hid (tx_le300 (m * n))
  have TX := Lib.hid (fun A c W (hs : Ints W W.heap.size A (Na.lim (m * n))) hp => text_any A (m * n) c W hs hRl hp)
  have HPW := Lib.hid (fun (v : World) (hb : Below w.heap.size w v) => hp.bt hb)
  have OP := Lib.hid (fun W A c A' c' (h1 : Ints W W.heap.size A (Na.lim m)) (h2 : (Na.lim m).length ≤ c) (h3 : c ≤ maxLen) (h4 : Ints W W.heap.size A' (Na.lim n)) (h5 : (Na.lim n).length ≤ c') (h6 : c' ≤ maxLen) => show Calls Tryz.prog 93 #[.slice A (Na.lim m).length c, .slice A' (Na.lim n).length c'] W (GivesN (m * n) W) from by
    have := times_any A A' (Na.lim m) (Na.lim n) c c' W h1 h4 (by have := HM.out; omega) (by have := HN.out; omega) (fun d hd => by have := Na.lim_lt m d hd; omega) (fun d hd => by have := Na.lim_lt n d hd; omega) (by
      rw [Na.lv_lim, Na.lv_lim, Nat.pow_add]
      exact Nat.mul_lt_mul'' (Na.lim_length.1 (Nat.le_refl _)) (Na.lim_length.1 (Nat.le_refl _)))
    rwa [Na.lv_lim, Na.lv_lim] at this)
  clear hp hRl
  generalize hR : m * n = R at *
  by_cases hle : R < LIM
  · have e1 : sN R = tx R := if_pos hle
    have e2 : eN R = 0 := if_pos hle
    have hts := TT.out.2 hle
    have htsi : ¬ (300 : Int) < ((tx R).size : Int) := by omega
    rw [e1, e2]
    clear e1 e2 TT hle hR
    go_enter Tryz.func77, Tryz.ntmps77
    go_wp2_with fail
    refine NN.out.mono ?_
    rintro e w1 ⟨A, c, A', c', rfl, h1, h2, h3, h4, h5, h6, hb1⟩
    have O1 := Lib.hid (OP.out w1 A c A' c' h1 h2 h3 h4 h5 h6)
    clear h1 h4
    go_wp2_with fail
    refine O1.out.mono ?_
    rintro e w2 ⟨A2, c2, rfl, hi2, _, _, hb2⟩
    have T2 := Lib.hid (TX.out A2 c2 w2 hi2 (HPW.out w2 (Nb hb1 hb2)))
    clear hi2
    go_wp2_with fail
    refine T2.out.mono ?_
    rintro e w3 ⟨rfl, hb3⟩
    go_wp2_with fail
    go_ret2
    exact ⟨rfl, Nb (Nb hb1 hb2) hb3⟩
  · have e1 : sN R = ⟨#[]⟩ := if_neg hle
    have e2 : eN R = 2 := if_neg hle
    have hts := mt TT.out.1 hle
    have htsi : (300 : Int) < ((tx R).size : Int) := by omega
    rw [e1, e2]
    clear e1 e2 TT hle hR
    go_enter Tryz.func77, Tryz.ntmps77
    go_wp2_with fail
    refine NN.out.mono ?_
    rintro e w1 ⟨A, c, A', c', rfl, h1, h2, h3, h4, h5, h6, hb1⟩
    have O1 := Lib.hid (OP.out w1 A c A' c' h1 h2 h3 h4 h5 h6)
    clear h1 h4
    go_wp2_with fail
    refine O1.out.mono ?_
    rintro e w2 ⟨A2, c2, rfl, hi2, _, _, hb2⟩
    have T2 := Lib.hid (TX.out A2 c2 w2 hi2 (HPW.out w2 (Nb hb1 hb2)))
    clear hi2
    go_wp2_with fail
    refine T2.out.mono ?_
    rintro e w3 ⟨rfl, hb3⟩
    go_wp2_with fail
    go_ret2
    exact ⟨rfl, Nb (Nb hb1 hb2) hb3⟩

set_option maxHeartbeats 1000000 in
theorem operate_gcd (m n : Nat) (w : World) (hm : m < LIM) (hn : n < LIM) (hp : Pow w.heap.size w) :
    Calls Tryz.prog 77 #[.string (tx m), .string (tx n), .func (.func 86) #[] #[]] w fun e w' => e = .returned (.tuple #[.string (sN (Nat.gcd m n)), .int .i64 (eN (Nat.gcd m n))]) ∧ Below w.heap.size w w' := by
  have NN := Lib.hid (numbers_ok m n w hm hn)
  have HM := Lib.hid (lim50 hm)
  have HN := Lib.hid (lim50 hn)
  have hRl : (Na.lim (Nat.gcd m n)).length ≤ 1000 := by
    have hg : Nat.gcd m n < 1000000 ^ 50 := by
      rcases Nat.eq_zero_or_pos m with h | h
      · rw [h, Nat.gcd_zero_left]; exact lt50 hn
      · exact Nat.lt_of_le_of_lt (Nat.le_of_dvd h (Nat.gcd_dvd_left m n)) (lt50 hm)
    exact Nat.le_trans ((Na.lim_length (k := 50)).2 hg) (by omega)
  have TT := Lib.hid (tx_le300 (Nat.gcd m n))
  have TX := Lib.hid (fun A c W (hs : Ints W W.heap.size A (Na.lim (Nat.gcd m n))) hp => text_any A (Nat.gcd m n) c W hs hRl hp)
  have HPW := Lib.hid (fun (v : World) (hb : Below w.heap.size w v) => hp.bt hb)
  have OP := Lib.hid (fun W A c A' c' (h1 : Ints W W.heap.size A (Na.lim m)) (h2 : (Na.lim m).length ≤ c) (h3 : c ≤ maxLen) (h4 : Ints W W.heap.size A' (Na.lim n)) (h5 : (Na.lim n).length ≤ c') (h6 : c' ≤ maxLen) => show Calls Tryz.prog 86 #[.slice A (Na.lim m).length c, .slice A' (Na.lim n).length c'] W (GivesN (Nat.gcd m n) W) from by
    exact divisor_any A A' m n c c' W h1 h4 (by have := HM.out; omega) (by have := HN.out; omega) h2 h3 h5 h6)
  clear hp hRl
  generalize hR : Nat.gcd m n = R at *
  by_cases hle : R < LIM
  · have e1 : sN R = tx R := if_pos hle
    have e2 : eN R = 0 := if_pos hle
    have hts := TT.out.2 hle
    have htsi : ¬ (300 : Int) < ((tx R).size : Int) := by omega
    rw [e1, e2]
    clear e1 e2 TT hle hR
    go_enter Tryz.func77, Tryz.ntmps77
    go_wp2_with fail
    refine NN.out.mono ?_
    rintro e w1 ⟨A, c, A', c', rfl, h1, h2, h3, h4, h5, h6, hb1⟩
    have O1 := Lib.hid (OP.out w1 A c A' c' h1 h2 h3 h4 h5 h6)
    clear h1 h4
    go_wp2_with fail
    refine O1.out.mono ?_
    rintro e w2 ⟨A2, c2, rfl, hi2, _, _, hb2⟩
    have T2 := Lib.hid (TX.out A2 c2 w2 hi2 (HPW.out w2 (Nb hb1 hb2)))
    clear hi2
    go_wp2_with fail
    refine T2.out.mono ?_
    rintro e w3 ⟨rfl, hb3⟩
    go_wp2_with fail
    go_ret2
    exact ⟨rfl, Nb (Nb hb1 hb2) hb3⟩
  · have e1 : sN R = ⟨#[]⟩ := if_neg hle
    have e2 : eN R = 2 := if_neg hle
    have hts := mt TT.out.1 hle
    have htsi : (300 : Int) < ((tx R).size : Int) := by omega
    rw [e1, e2]
    clear e1 e2 TT hle hR
    go_enter Tryz.func77, Tryz.ntmps77
    go_wp2_with fail
    refine NN.out.mono ?_
    rintro e w1 ⟨A, c, A', c', rfl, h1, h2, h3, h4, h5, h6, hb1⟩
    have O1 := Lib.hid (OP.out w1 A c A' c' h1 h2 h3 h4 h5 h6)
    clear h1 h4
    go_wp2_with fail
    refine O1.out.mono ?_
    rintro e w2 ⟨A2, c2, rfl, hi2, _, _, hb2⟩
    have T2 := Lib.hid (TX.out A2 c2 w2 hi2 (HPW.out w2 (Nb hb1 hb2)))
    clear hi2
    go_wp2_with fail
    refine T2.out.mono ?_
    rintro e w3 ⟨rfl, hb3⟩
    go_wp2_with fail
    go_ret2
    exact ⟨rfl, Nb (Nb hb1 hb2) hb3⟩
end Go.Proofs.YtmnnaaifebajnaaGreatDoor
