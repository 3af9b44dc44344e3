/- The walk of LexerWords. -/
import Derived.Test.YtkbnaendlcjjbaaDoorLxN
set_option linter.unusedSimpArgs false
set_option linter.unusedVariables false
namespace Go.Proofs.YtkbnaendlcjjbaaDoor
open Go.RowKit
set_option maxRecDepth 100000

theorem Lx.Lexes.cons {x r : List UInt8} {off : Nat} {k : Int} {n : Nat} {t : List UInt8} {ts e} (hk : Lx.tokF (x ++ r) = .ok k n t x.length) (hs : Lx.hd Lx.solid x = true) (hr : Lx.Lexes r (off + x.length) ts e) : Lx.Lexes (x ++ r) off (⟨k, off, n, t⟩ :: ts) e := by
  have hg : Lx.gapN false (x ++ r) = 0 := by
    cases x with
    | nil => simp [Lx.hd] at hs
    | cons c x => exact Lx.gap_solid hs
  have hne : x ++ r ≠ [] := by
    cases x with
    | nil => simp [Lx.hd] at hs
    | cons c x => simp
  have := Lx.Lexes.tok (x ++ r) off k n t x.length ts e (by rw [hg]; exact hne) (by rw [hg]; exact hk) (by rw [hg, List.drop_zero, List.drop_left]; exact hr)
  rw [hg] at this
  exact this
theorem Lx.let_solid (c : UInt8) (h : Lx.isLet c = true) : Lx.solid c = true := by
  simp [Lx.isLet] at h
  simp [Lx.solid, Lx.isBl]
  omega
theorem Lx.dig_solid (c : UInt8) (h : Lx.isDig c = true) : Lx.solid c = true ∧ Lx.isLet c = false ∧ Lx.isEq c = false := by
  simp [Lx.isDig] at h
  refine ⟨?_, ?_, ?_⟩
  · simp [Lx.solid, Lx.isBl]; omega
  · simp [Lx.isLet]; omega
  · simp [Lx.isEq]; omega
theorem Lx.word_tok {x r : List UInt8} (h : Lx.nameOk x = true) (hr : Lx.hd Lx.isWord r = false) : Lx.tokF (x ++ r) = .ok 1 0 x x.length ∧ Lx.hd Lx.solid x = true := by
  simp only [Lx.nameOk, Bool.and_eq_true, decide_eq_true_eq] at h
  obtain ⟨h1, h2, h3, h4⟩ := h
  cases x with
  | nil => simp at h2
  | cons c x =>
    have hsp := Lx.span_all (p := Lx.isWord) (x := c :: x) (y := r) (List.all_eq_true.1 h1) hr
    have h4 : Lx.isLet c = true := h4
    refine ⟨?_, Lx.let_solid c h4⟩
    rw [List.cons_append] at hsp ⊢
    simp only [Lx.tokF]
    rw [if_pos h4, hsp, if_neg (by omega), ← List.cons_append, List.take_left]
theorem Lx.num_tok {x r : List UInt8} (h : ∀ c ∈ x, Lx.isDig c = true) (h0 : 0 < x.length) (h13 : x.length ≤ 13) (hr : Lx.hd Lx.isWord r = false) : Lx.tokF (x ++ r) = .ok 2 (Lx.num x) x x.length ∧ Lx.hd Lx.solid x = true := by
  cases x with
  | nil => simp at h0
  | cons c x =>
    have hr2 : Lx.hd Lx.isDig r = false := by
      cases r with
      | nil => rfl
      | cons d r =>
        have hr : Lx.isWord d = false := hr
        cases hd : Lx.isDig d with
        | false => exact hd
        | true => rw [Lx.word_of_dig hd] at hr; cases hr
    have hsp := Lx.span_all (p := Lx.isDig) (x := c :: x) (y := r) h hr2
    have hc := h c (by simp)
    obtain ⟨s1, s2, _⟩ := Lx.dig_solid c hc
    refine ⟨?_, s1⟩
    rw [List.cons_append] at hsp ⊢
    simp only [Lx.tokF]
    rw [s2, hc, hsp, ← List.cons_append, List.take_left, List.drop_left, hr]
    rw [if_neg (by simp), if_pos rfl, if_neg (by simp only [Bool.or_false, decide_eq_true_eq]; omega)]
theorem Lx.str_tok {x : List UInt8} (h : ∀ c ∈ x, Lx.isIn c = true) (h400 : x.length ≤ 400) : Lx.tokF ((34 :: (x ++ [34])) ++ []) = .ok 3 0 x (34 :: (x ++ [34])).length := by
  have hsp := Lx.span_all (p := Lx.isIn) (x := x) (y := [34]) h (by decide)
  rw [List.append_nil]
  simp only [Lx.tokF]
  rw [if_neg (by decide), if_neg (by decide), if_pos (by decide), hsp, List.drop_left, if_pos (by decide), if_neg (by omega), List.take_left]
  simp
def Lx.syms : List UInt8 := [61, 59, 60, 62, 40, 41, 123, 125, 91, 93, 44, 46, 58, 43, 45]
theorem Lx.syms_str : ∀ k : Nat, k < 15 → (⟨#[61, 59, 60, 62, 40, 41, 123, 125, 91, 93, 44, 46, 58, 43, 45]⟩ : ByteArray).extract k (k + 1) = ⟨([Lx.syms.getD k 0] : List UInt8).toArray⟩ := by decide
theorem Lx.syms_facts : ∀ k : Nat, k < 15 → Lx.isWord (Lx.syms.getD k 0) = false ∧ Lx.solid (Lx.syms.getD k 0) = true ∧ Lx.isQ (Lx.syms.getD k 0) = false ∧ (Lx.syms.getD k 0).toNat ≠ 33 ∧ (Lx.isSign (Lx.syms.getD k 0) = true ∨ (Lx.syms.getD k 0).toNat = 60 ∨ (Lx.syms.getD k 0).toNat = 62) := by decide
theorem Lx.one_tok {c : UInt8} {r : List UInt8} (h1 : Lx.isWord c = false) (h2 : Lx.isQ c = false) (h3 : c.toNat ≠ 33) (h4 : Lx.isSign c = true ∨ c.toNat = 60 ∨ c.toNat = 62) (hr : Lx.hd Lx.isEq r = false) : Lx.tokF ([c] ++ r) = .ok 4 0 [c] [c].length := by
  have a1 : Lx.isLet c = false := by cases h : Lx.isLet c with | false => rfl | true => rw [Lx.word_of_let h] at h1; cases h1
  have a2 : Lx.isDig c = false := by cases h : Lx.isDig c with | false => rfl | true => rw [Lx.word_of_dig h] at h1; cases h1
  show Lx.tokF (c :: r) = _
  simp only [Lx.tokF]
  rw [a1, a2, h2, hr]
  have h33 : (c.toNat == 33) = false := by simpa using h3
  rw [h33]
  rcases h4 with h4 | h4 | h4
  · rw [h4]
    cases (c.toNat == 60 || c.toNat == 62) <;> simp
  · simp [h4]
  · simp [h4]
theorem Lx.words_lex {nm d tx : List UInt8} {sc : UInt8} (h1 : Lx.nameOk nm = true) (s1 : Lx.isWord sc = false) (s2 : Lx.solid sc = true) (s3 : Lx.isQ sc = false) (s4 : sc.toNat ≠ 33) (s5 : Lx.isSign sc = true ∨ sc.toNat = 60 ∨ sc.toNat = 62) (d1 : ∀ c ∈ d, Lx.isDig c = true) (d2 : 0 < d.length) (d3 : d.length ≤ 13) (t1 : ∀ c ∈ tx, Lx.isIn c = true) (t2 : tx.length ≤ 400) :
    Lx.Lexes (nm ++ ([sc] ++ (d ++ (34 :: (tx ++ [34]))))) 0 [⟨1, 0, 0, nm⟩, ⟨4, nm.length, 0, [sc]⟩, ⟨2, nm.length + 1, Lx.num d, d⟩, ⟨3, nm.length + 1 + d.length, 0, tx⟩] none := by
  obtain ⟨a1, a2⟩ := Lx.word_tok (r := [sc] ++ (d ++ (34 :: (tx ++ [34])))) h1 (by show Lx.isWord sc = false; exact s1)
  have hdd : Lx.hd Lx.isEq (d ++ (34 :: (tx ++ [34]))) = false := by
    cases d with
    | nil => simp at d2
    | cons c d => exact (Lx.dig_solid c (d1 c (by simp))).2.2
  have b1 := Lx.one_tok (r := d ++ (34 :: (tx ++ [34]))) s1 s3 s4 s5 hdd
  obtain ⟨c1, c2⟩ := Lx.num_tok (r := 34 :: (tx ++ [34])) d1 d2 d3 (by show Lx.isWord 34 = false; decide)
  have e1 := Lx.str_tok t1 t2
  refine Lx.Lexes.cons a1 a2 ?_
  rw [Nat.zero_add]
  refine Lx.Lexes.cons b1 (by show Lx.solid sc = true; exact s2) ?_
  refine Lx.Lexes.cons c1 c2 ?_
  have := Lx.Lexes.cons (off := nm.length + 1 + d.length) e1 (by show Lx.solid 34 = true; decide) (Lx.Lexes.done [] _ (by simp))
  rw [List.append_nil] at this
  exact this
theorem Lx.words_str (a : ByteArray) (sc : UInt8) (d : List UInt8) (b : ByteArray) : (a ++ ⟨([sc] : List UInt8).toArray⟩ ++ ⟨d.toArray⟩ ++ ⟨#[34]⟩ ++ b ++ ⟨#[34]⟩).data.toList = a.data.toList ++ ([sc] ++ (d ++ (34 :: (b.data.toList ++ [34])))) := by
  simp
theorem Lx.eta (a : ByteArray) : (⟨a.data.toList.toArray⟩ : ByteArray) = a := by
  apply ByteArray.ext
  simp

set_option maxHeartbeats 2000000 in
theorem Lx.words_walk (name : ByteArray) (number symbol : Int) (text : ByteArray) (w : World) (hp : True) (hs1 : name.size ≤ maxLen) (hn : (Lit.int .u64 number).wf = true) (hsy : (Lit.int .u8 symbol).wf = true) (hs2 : text.size ≤ maxLen) :
    Calls Tryd.prog 10 #[.string name, .int .u64 number, .int .u8 symbol, .string text] w fun e w' => e = .returned (.bool true) ∧ Below w.heap.size w w' := by
  have HH := Lib.hid (fun v => Lx.head_any v)
  have CN := Lib.hid (fun v => Lx.nameR_any name v hs1)
  cases hnm : Lx.nameOk name.data.toList
  · rw [hnm] at CN
    clear hn hsy
    go_enter Tryd.func10, Tryd.ntmps10
    go_wp2_with fail
    refine (HH.out _).mono ?_
    rintro e w1 ⟨rfl, hb1⟩
    go_wp2_with fail
    refine (CN.out _).mono ?_
    rintro e w2 ⟨rfl, rfl⟩
    go_wp2_with fail
    go_ret
    exact ⟨rfl, hb1⟩
  rw [hnm] at CN
  by_cases hl : 400 < text.size
  · have hd : decide ((400 : Int) < (text.size : Int)) = true := decide_eq_true (by omega)
    have hd2 : decide (400 < text.size) = true := decide_eq_true hl
    clear hn hsy hnm
    go_enter Tryd.func10, Tryd.ntmps10
    go_wp2_with fail
    refine (HH.out _).mono ?_
    rintro e w1 ⟨rfl, hb1⟩
    go_wp2_with fail
    refine (CN.out _).mono ?_
    rintro e w2 ⟨rfl, rfl⟩
    go_wp2_with fail
    go_ret
    exact ⟨rfl, hb1⟩
  have hd : decide ((400 : Int) < (text.size : Int)) = false := decide_eq_false (by omega)
  have hd2 : decide (400 < text.size) = false := decide_eq_false hl
  obtain ⟨nu, rfl, hnu⟩ : ∃ a : Nat, number = (a : Int) ∧ a < 18446744073709551616 := by
    simp [Lit.wf, IntKind.min, IntKind.max, IntKind.bits, IntKind.signed] at hn
    exact ⟨number.toNat, by omega, by omega⟩
  obtain ⟨sy, rfl, hsy2⟩ : ∃ a : Nat, symbol = (a : Int) ∧ a < 256 := by
    simp [Lit.wf, IntKind.min, IntKind.max, IntKind.bits, IntKind.signed] at hsy
    exact ⟨symbol.toNat, by omega, by omega⟩
  have hname : name.size ≤ 24 := by
    have := hnm
    simp only [Lx.nameOk, Bool.and_eq_true, decide_eq_true_eq, Lx.len] at this
    exact this.2.2.1
  obtain ⟨s1, s2, s3, s4, s5⟩ := Lx.syms_facts (sy % 15) (by omega)
  have hstr := Lx.syms_str (sy % 15) (by omega)
  obtain ⟨d1, d4, d2⟩ := Lx.dec_facts _ (nu % 10000000000000) (Nat.le_refl _)
  have d3 : (Lx.dec (nu % 10000000000000)).length ≤ 13 := Lx.dec_len 12 _ (by omega)
  have CD := Lib.hid (fun v => Lx.decimal_any _ (nu % 10000000000000) v (Nat.le_refl _) (by omega))
  have HLX := Lib.hid (fun (t1 : ∀ c ∈ text.data.toList, Lx.isIn c = true) => Lx.words_lex hnm s1 s2 s3 s4 s5 d1 d2 d3 t1 (by rw [Lx.len]; omega))
  have q1 : (nu : Int) % 10000000000000 = ((nu % 10000000000000 : Nat) : Int) := by omega
  have q2 : Int.tmod (nu : Int) 10000000000000 = ((nu % 10000000000000 : Nat) : Int) := rfl
  have q3 : IntKind.i64.wrap ((nu % 10000000000000 : Nat) : Int) = ((nu % 10000000000000 : Nat) : Int) := by rw [IntKind.wrap_i64]; omega
  have q4 : IntKind.i64.wrap (sy : Int) = (sy : Int) := by rw [IntKind.wrap_i64]; omega
  have q5 : (sy : Int) % 15 = ((sy % 15 : Nat) : Int) := by omega
  have q6 : Int.tmod (sy : Int) 15 = ((sy % 15 : Nat) : Int) := rfl
  have q7 : IntKind.i64.wrap (((sy % 15 : Nat) : Int) + 1) = ((sy % 15 + 1 : Nat) : Int) := by rw [IntKind.wrap_i64]; omega
  have j0 : (0 : Int) ≤ ((sy % 15 : Nat) : Int) := by omega
  have j1 : ((sy % 15 : Nat) : Int) ≤ ((sy % 15 + 1 : Nat) : Int) := by omega
  have j2 : ((sy % 15 + 1 : Nat) : Int) ≤ 15 := by omega
  generalize sy % 15 + 1 = k1 at *
  generalize Lx.syms.getD (sy % 15) 0 = sc at *
  generalize sy % 15 = k at *
  rw [d4] at HLX
  generalize Lx.dec (nu % 10000000000000) = D at *
  generalize nu % 10000000000000 = n at *
  have hn0 : (0 : Int) ≤ (n : Int) := by omega
  have HSTR := Lib.hid hstr
  clear hn hsy hnm s1 s2 s3 s4 s5 hstr d1 d4 d2 hnu hsy2
  have hDs := Lx.bsize D
  go_enter Tryd.func10, Tryd.ntmps10
  go_wp2_with fail
  refine (HH.out _).mono ?_
  rintro e w1 ⟨rfl, hb1⟩
  go_wp2_with fail
  refine (CN.out _).mono ?_
  rintro e w2 ⟨rfl, rfl⟩
  clear HH CN
  go_wp2_with fail
  go_loop [10] (fun i => ∃ j : Nat, j ≤ text.size ∧ i = .int .i64 (j : Int) ∧ Hid (∀ c ∈ text.data.toList.take j, Lx.isIn c = true)) (fun i => text.size - (intOf i).toNat)
  case atStart => exact ⟨0, by omega, rfl, Lib.hid (by simp)⟩
  case round =>
    obtain ⟨j, hj, rfl, hq⟩ := hrel
    by_cases hlt : j < text.size
    · have hlt' : (j : Int) < (text.size : Int) := by omega
      obtain ⟨y, hy⟩ : ∃ y : UInt8, text[j]'hlt = y := ⟨_, rfl⟩
      have hyl : text.data.toList[j]? = some y := by rw [← hy]; exact Lib.data_getElem? text j hlt
      by_cases h34 : y.toNat = 34
      · have g1 : ((y.toNat : Int) == 34) = true := by simp; omega
        clear hyl h34 hq HLX CD
        go_wp2_with fail
        go_ret
        exact ⟨rfl, hb1⟩
      have g1 : ((y.toNat : Int) == 34) = false := by simp; omega
      by_cases h10 : y.toNat = 10
      · have g2 : ((y.toNat : Int) == 10) = true := by simp; omega
        clear hyl h34 h10 hq HLX CD
        go_wp2_with fail
        go_ret
        exact ⟨rfl, hb1⟩
      have g2 : ((y.toNat : Int) == 10) = false := by simp; omega
      have hq' : Hid (∀ c ∈ text.data.toList.take (j + 1), Lx.isIn c = true) := Lib.hid (by
        intro c hc
        rw [List.take_add_one, hyl] at hc
        rcases List.mem_append.1 hc with hc | hc
        · exact hq.out c hc
        · simp at hc
          rw [hc]
          simp [Lx.isIn, h34, h10])
      clear hyl h34 h10 hq
      go_wp2_with fail
      exact ⟨⟨j + 1, by omega, by go_num, hq'⟩, by simp [intOf]; omega⟩
    · obtain rfl : j = text.size := by omega
      have hin : ∀ c ∈ text.data.toList, Lx.isIn c = true := by
        have := hq.out
        rw [List.take_of_length_le (by simp)] at this
        exact this
      have hL := HLX.out hin
      have h34s : (⟨#[34]⟩ : ByteArray).size = 1 := rfl
      have hscs : (⟨([sc] : List UInt8).toArray⟩ : ByteArray).size = 1 := rfl
      have C := Lib.hid (fun v => Lx.lex_ok (name ++ ⟨([sc] : List UInt8).toArray⟩ ++ ⟨D.toArray⟩ ++ ⟨#[34]⟩ ++ text ++ ⟨#[34]⟩) v (by simp only [ByteArray.size_append]; omega) [⟨1, 0, 0, name.data.toList⟩, ⟨4, name.data.toList.length, 0, [sc]⟩, ⟨2, name.data.toList.length + 1, n, D⟩, ⟨3, name.data.toList.length + 1 + D.length, 0, text.data.toList⟩] (by simp) (by rw [Lx.words_str]; exact hL))
      clear hq HLX hin hL
      have hlt' : ¬ (text.size : Int) < (text.size : Int) := by omega
      have hDs2 : (⟨D.toArray⟩ : ByteArray).size = D.length := hDs
      rw [show ∀ a b c d : Lx.Tk, [a, b, c, d].length = 4 from fun _ _ _ _ => rfl] at C
      have r1 : IntKind.i64.wrap ((name.size : Int) + 1) = ((name.size + 1 : Nat) : Int) := by rw [IntKind.wrap_i64]; omega
      have r2 : IntKind.i64.wrap (((name.size + 1 : Nat) : Int) + ((⟨D.toArray⟩ : ByteArray).size : Int)) = ((name.size + 1 + D.length : Nat) : Int) := by rw [IntKind.wrap_i64]; omega
      have HTK := Lib.hid (fun (v : World) (A : Option Addr) (c : Nat) (h : Lx.Held v A c [⟨1, 0, 0, name.data.toList⟩, ⟨4, name.data.toList.length, 0, [sc]⟩, ⟨2, name.data.toList.length + 1, n, D⟩, ⟨3, name.data.toList.length + 1 + D.length, 0, text.data.toList⟩]) => h.1)
      go_wp2_with fail
      refine (CD.out _).mono ?_
      rintro e w2 ⟨rfl, rfl⟩
      have hstr := HSTR.out
      clear CD HSTR
      go_wp2_with fail
      refine (C.out _).mono ?_
      rintro e w3 ⟨A, c, rfl, hb3, H3⟩
      have hT := HTK.out _ _ _ H3.out
      obtain ⟨g, rfl, _, p0, p1, p2, p3⟩ := hT.at0 0 (by simp)
      obtain ⟨_, e1, _, x0, x1, x2, x3⟩ := hT.at0 1 (by simp)
      cases e1
      obtain ⟨_, e1, _, y0, y1, y2, y3⟩ := hT.at0 2 (by simp)
      cases e1
      obtain ⟨_, e1, _, z0, z1, z2, z3⟩ := hT.at0 3 (by simp)
      cases e1
      simp only [List.getElem_cons_zero, List.getElem_cons_succ, Lx.eta, Lx.len] at p0 p1 p2 p3 x0 x1 x2 x3 y0 y1 y2 y3 z0 z1 z2 z3
      clear hT HTK H3 C
      go_wp2_with fail
      go_ret
      exact ⟨rfl, Lx.Nb hb1 hb3⟩
end Go.Proofs.YtkbnaendlcjjbaaDoor
