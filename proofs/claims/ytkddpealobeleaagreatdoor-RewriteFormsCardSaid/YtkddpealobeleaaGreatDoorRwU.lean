/- Layer 10: the text of a table. -/
import Derived.Test.YtkddpealobeleaaGreatDoorRwT
import Derived.Test.YtkddpealobeleaaGreatDoorRwO
import Derived.Test.YtkddpealobeleaaGreatDoorBuild
import Derived.Test.YtkddpealobeleaaGreatDoorShelf
set_option linter.unusedSimpArgs false
set_option linter.unusedVariables false
namespace Go.Proofs.YtkddpealobeleaaGreatDoor
open Go.RowKit Go.Shelf
set_option maxRecDepth 100000
set_option maxHeartbeats 8000000
/-- The variables that package rewrite reads. -/
structure Rw.Pa (B : Nat) (w : World) : Prop where
  tb : Nm.Tb B w
  sw : Rw.Sw B w
  pw : Rw.Pw w
  lt : 6 < B
theorem Rw.Pa.bt {w w' : World} (h : Rw.Pa w.heap.size w) (hb : Below w.heap.size w w') : Rw.Pa w'.heap.size w' :=
  ⟨h.tb.bt hb, h.sw.bt hb, tab_below h.pw Rw.gPow h.lt hb, Nat.lt_of_lt_of_le h.lt hb.size⟩
theorem Rw.isW_zero (x : Nm.T) : Nm.isW 0 x = false := by
  cases h : Nm.isW 0 x with
  | false => rfl
  | true =>
    have h3 := (Nm.isW_iff.1 h).2.1
    have h4 : (Nm.rd 0 x).1 = [] := by
      cases x with
      | nil => rfl
      | cons y u =>
        have : Nm.ln 0 (y :: u) = 0 := by cases u <;> simp [Nm.ln, Nm.one, Nm.two, Nm.ab]
        rw [Nm.rd_stop this]
    unfold Nm.ls at h3
    rw [h4] at h3
    simp at h3
theorem Rw.okF_word {k : Int} {t : Nm.T} {m : Int} (h : Rw.okF k t m = true) : 1 ≤ Nm.sc k ∧ Nm.isW (Nm.sc k) t = true ∧ t.map Nm.low = t ∧ ((Nm.ls (Nm.sc k) t).length : Int) ≤ m := by
  unfold Rw.okF at h
  simp only [Bool.and_eq_true, decide_eq_true_eq] at h
  refine ⟨?_, h.1.1, h.1.2, h.2⟩
  have h0 : Nm.sc k ≠ 0 := fun e => by
    have := h.1.1
    rw [e, Rw.isW_zero] at this
    cases this
  omega
theorem Rw.okC_le {n : Int} (h : Rw.okC n = true) : 0 ≤ n ∧ n ≤ 1000 := by
  unfold Rw.okC at h
  simpa using h
/-- What a valid table's rows are. -/
structure Rw.Fine (t : Rw.TV) : Prop where
  nr : 1 ≤ t.R.length ∧ t.R.length ≤ 80
  nd : t.D.length ≤ 40
  ne : t.E.length ≤ 40
  d : 0 ≤ t.d ∧ t.d ≤ 1000
  o : 0 ≤ t.o ∧ t.o ≤ 1000
  i : 0 ≤ t.i ∧ t.i ≤ 1000
  r : ∀ x ∈ t.R, Rw.okF x.k x.frm.data.toList 3 = true ∧ Rw.okTo x.to.data.toList = true ∧ 0 ≤ x.cost ∧ x.cost ≤ 1000
  dd : ∀ x ∈ t.D, Rw.okF x.k x.word.data.toList 12 = true ∧ 0 ≤ x.cost ∧ x.cost ≤ 1000
  ee : ∀ x ∈ t.E, Rw.okF x.k x.word.data.toList 4 = true ∧ 0 ≤ x.cost ∧ x.cost ≤ 1000
theorem Rw.fine_of {t : Rw.TV} (h : Rw.okT t = true) : Rw.Fine t := by
  unfold Rw.okT Rw.okL at h
  simp only [Bool.and_eq_true, decide_eq_true_eq] at h
  obtain ⟨h0, h1, h2, h3, h4, h5, h6⟩ := h
  refine ⟨⟨h0.1, h0.2.1⟩, h0.2.2.1, h0.2.2.2, Rw.okC_le h1, Rw.okC_le h2, Rw.okC_le h3, fun x hx => ?_, fun x hx => ?_, fun x hx => ?_⟩
  · obtain ⟨i, hi, rfl⟩ := List.getElem_of_mem hx
    have := (of_decide_eq_true h4 i hi).1
    unfold Rw.okRl at this
    simp only [Bool.and_eq_true] at this
    exact ⟨this.1, this.2.1, Rw.okC_le this.2.2⟩
  · obtain ⟨i, hi, rfl⟩ := List.getElem_of_mem hx
    have := (of_decide_eq_true h5 i hi).1
    unfold Rw.okDp at this
    simp only [Bool.and_eq_true] at this
    exact ⟨this.1, Rw.okC_le this.2⟩
  · obtain ⟨i, hi, rfl⟩ := List.getElem_of_mem hx
    have := (of_decide_eq_true h6 i hi).1
    unfold Rw.okDp at this
    simp only [Bool.and_eq_true] at this
    exact ⟨this.1, Rw.okC_le this.2⟩
theorem Rw.okF_size {k : Int} {x : ByteArray} {m : Int} (h : Rw.okF k x.data.toList m = true) : x.size ≤ 24 := by
  rw [Lib.size_eq]
  exact Nm.isW_len (Rw.okF_word h).2.1
theorem Rw.okTo_size {x : ByteArray} (h : Rw.okTo x.data.toList = true) : x.size ≤ 3 := by
  rw [Lib.size_eq]
  unfold Rw.okTo at h
  simp only [Bool.and_eq_true, decide_eq_true_eq] at h
  exact h.1
theorem Rw.word_len (k : Int) : (Nm.word (Nm.sc k)).length ≤ 6 := by
  have := Rw.word_size (Nm.sc k) (Nm.sc_lt k)
  rwa [Lib.size_eq, Nm.bt_list] at this
theorem Rw.itoa_len {c : Int} (h0 : 0 ≤ c) (h1 : c ≤ 1000) : (Lib.itoa c).length ≤ 20 := by
  have := Rw.itoa_size h0 h1
  rwa [Lib.size_eq, Nm.bt_list] at this
theorem Rw.rule_len (x : Rw.Rl) (hf : x.frm.size ≤ 100) (ht : x.to.size ≤ 100) (h0 : 0 ≤ x.cost) (h1 : x.cost ≤ 1000) : (Rw.ruleL x).length ≤ 400 := by
  have a1 := Rw.word_len x.k
  have a2 := Rw.itoa_len h0 h1
  have a3 := Lib.size_eq x.frm
  have a4 := Lib.size_eq x.to
  unfold Rw.ruleL
  simp only [List.length_append, List.length_cons, List.length_nil]
  omega
theorem Rw.dropl_len (b : Nm.T) (hb : b.length ≤ 10) (x : Rw.Dp) (hf : x.word.size ≤ 100) (h0 : 0 ≤ x.cost) (h1 : x.cost ≤ 1000) : (Rw.dropL b x).length ≤ 400 := by
  have a1 := Rw.word_len x.k
  have a2 := Rw.itoa_len h0 h1
  have a3 := Lib.size_eq x.word
  unfold Rw.dropL
  simp only [List.length_append, List.length_cons, List.length_nil]
  omega
def Rw.rs (R : List Rw.Rl) : Nm.T := (R.map Rw.ruleL).flatten
def Rw.ds (b : Nm.T) (D : List Rw.Dp) : Nm.T := (D.map (Rw.dropL b)).flatten
theorem Rw.rs_snoc (R : List Rw.Rl) (j : Nat) (h : j < R.length) : Rw.rs (R.take (j + 1)) = Rw.rs (R.take j) ++ Rw.ruleL R[j] := by
  unfold Rw.rs
  rw [List.take_succ_eq_append_getElem h, List.map_append, List.flatten_append, List.map_singleton, List.flatten_singleton]
theorem Rw.ds_snoc (b : Nm.T) (D : List Rw.Dp) (j : Nat) (h : j < D.length) : Rw.ds b (D.take (j + 1)) = Rw.ds b (D.take j) ++ Rw.dropL b D[j] := by
  unfold Rw.ds
  rw [List.take_succ_eq_append_getElem h, List.map_append, List.flatten_append, List.map_singleton, List.flatten_singleton]
def Rw.dropW : Nm.T := [100, 114, 111, 112]
def Rw.endW : Nm.T := [101, 110, 100]
/-- The text of a table. -/
def Rw.textT (t : Rw.TV) : Nm.T := Rw.rs t.R ++ Rw.ds Rw.dropW t.D ++ Rw.ds Rw.endW t.E ++ Rw.costsL t.d t.o t.i
theorem Rw.text_bad (t : Rw.TV) (w : World) (h : t.In w) (hT : Nm.Tb w.heap.size w) (hok : Rw.okT t = false) :
    Calls Tryz.prog 24 #[t.val] w fun e w' => e = .returned (.tuple #[.string ⟨#[]⟩, .int .i64 1]) ∧ Below w.heap.size w w' := by
  have VT := Lib.hid (fun v (hv : Below w.heap.size w v) => Rw.validT_any t v (h.bt hv) (hT.bt hv))
  rw [hok] at VT
  obtain ⟨A, a, B, b, C, c, R, D, E, d, o, i⟩ := t
  unfold Rw.TV.val
  simp only
  have hb := Nm.al w (.cells #[.slice A R.length a, .slice B D.length b, .slice C E.length c, .int .i64 d, .int .i64 o, .int .i64 i] 25)
  clear h hT hok
  go_enter Tryz.func24, Tryz.ntmps24
  go_wp2_with fail
  refine (VT.out _ hb).mono ?_
  rintro e v ⟨rfl, g⟩
  have HB := Lib.hid (Rw.Nb hb g)
  clear hb g
  go_wp2
  go_ret2
  exact ⟨rfl, HB.out⟩
theorem Rw.text_ok (t : Rw.TV) (w : World) (h : t.In w) (hp : Rw.Pa w.heap.size w) (hok : Rw.okT t = true) :
    Calls Tryz.prog 24 #[t.val] w fun e w' => e = .returned (.tuple #[.string (Nm.bt (Rw.textT t)), .int .i64 0]) ∧ Below w.heap.size w w' := by
  have VT := Lib.hid (fun v (hv : Below w.heap.size w v) => Rw.validT_any t v (h.bt hv) (hp.bt hv).tb)
  rw [hok] at VT
  have HFI := Lib.hid (Rw.fine_of hok)
  have HP := Lib.hid (fun v (hv : Below w.heap.size w v) => hp.bt hv)
  have HR := Lib.hid h.r
  have HD := Lib.hid h.d
  have HE := Lib.hid h.e
  have CL := Lib.hid (fun v (hv : Below w.heap.size w v) => Rw.costsLine_any t HFI.out.d.1 HFI.out.d.2 HFI.out.o.1 HFI.out.o.2 HFI.out.i.1 HFI.out.i.2 v (fun u hu => (hp.bt (Rw.Nb hv hu)).pw))
  have HCL : Hid ((Nm.bt (Rw.costsL t.d t.o t.i)).size ≤ 100) := Lib.hid (by
    have a1 := Rw.itoa_len HFI.out.d.1 HFI.out.d.2
    have a2 := Rw.itoa_len HFI.out.o.1 HFI.out.o.2
    have a3 := Rw.itoa_len HFI.out.i.1 HFI.out.i.2
    rw [Lib.size_eq, Nm.bt_list]
    unfold Rw.costsL
    simp only [List.length_append, List.length_cons, List.length_nil]
    omega)
  unfold Rw.textT
  obtain ⟨A, a, B, b, C, c, R, D, E, d, o, i⟩ := t
  unfold Rw.TV.val
  simp only at HFI HR HD HE HCL ⊢
  unfold Rw.TV.val at CL
  simp only at CL
  obtain ⟨nR, hR⟩ : ∃ n, R.length = n := ⟨_, rfl⟩
  obtain ⟨nD, hD⟩ : ∃ n, D.length = n := ⟨_, rfl⟩
  obtain ⟨nE, hE⟩ : ∃ n, E.length = n := ⟨_, rfl⟩
  have HN := Lib.hid (And.intro hR (And.intro hD hE))
  have b1 := HFI.out.nr.2
  have b2 := HFI.out.nd
  have b3 := HFI.out.ne
  simp only at b1 b2 b3
  rw [hR] at b1
  rw [hD] at b2
  rw [hE] at b3
  obtain ⟨CT, hCT⟩ : ∃ CT, Rw.costsL d o i = CT := ⟨_, rfl⟩
  rw [hCT] at CL HCL ⊢
  rw [hR, hD, hE] at CL
  have hb := Nm.al w (.cells #[.slice A R.length a, .slice B D.length b, .slice C E.length c, .int .i64 d, .int .i64 o, .int .i64 i] 25)
  have BX := Lib.hid (Rw.box6 w #[.slice A R.length a, .slice B D.length b, .slice C E.length c, .int .i64 d, .int .i64 o, .int .i64 i])
  clear h hp hok hR hD hE hCT
  go_enter Tryz.func24, Tryz.ntmps24
  go_wp2_with fail
  refine (VT.out _ hb).mono ?_
  rintro e v ⟨rfl, g⟩
  have HB0 := Lib.hid (Rw.Nb hb g)
  have BX1 := Lib.hid (BX.out.bt g)
  rw [HN.out.1, HN.out.2.1, HN.out.2.2] at BX1 ⊢
  clear hb g BX VT
  have hal := Nm.al v (.cells #[.pointer none, .slice none 0 0] 91)
  have x0 := (BX1.out.bt hal).c 0 _ rfl
  have HBU : Hid (Lib.IsBuilder 91 5 v.heap.size v.heap.size (Lib.byteCells []) (v.alloc (.cells #[.pointer none, .slice none 0 0] 91))) := Lib.hid (Lib.fresh_isBuilder _ _ v)
  have HA0 := Lib.hid hal
  clear hal
  go_wp2_with fail
  clear x0
  go_loopw [17] (fun s wr => ∃ (j : Nat) (T : Nm.T), j ≤ nR ∧ s = .int .i64 (j : Int) ∧ T.length ≤ 0 + 400 * j ∧ Hid (T = Rw.rs (R.take j)) ∧ Hid (Lib.IsBuilder 91 5 v.heap.size v.heap.size (Lib.byteCells T) wr) ∧ Hid (Below v.heap.size v wr) ∧ Hid (v.heap.size < wr.heap.size)) (fun s _ => nR - (intOf s).toNat)
  case atStart => exact ⟨0, [], Nat.zero_le _, rfl, by simp, Lib.hid (by simp [Rw.rs]), HBU, HA0, Lib.hid (by simp)⟩
  case round =>
    clear HBU HA0
    obtain ⟨j, T, hj, rfl, hTl, HT, HBU, HA0, HSZ⟩ := hrel
    have HBw := Lib.hid (HB0.out.trans (HA0.out.mono HB0.out.size))
    by_cases hlt : j < nR
    · have hjl : j < R.length := by rw [HN.out.1]; exact hlt
      have hlti : (j : Int) < (nR : Int) := by omega
      have hj0 : (0 : Int) ≤ (j : Int) := by omega
      obtain ⟨ad, e0, had, c0, c1, c2, c3⟩ := (HR.out.below HBw.out (Nat.le_refl _)).at hjl
      have hsn := Rw.rs_snoc R j hjl
      have hfi := HFI.out.r _ (List.getElem_mem hjl)
      obtain ⟨y, hy⟩ : ∃ y, R[j] = y := ⟨_, rfl⟩
      rw [hy] at hsn hfi c0 c1 c2 c3
      subst e0
      have HSN := Lib.hid hsn
      have hA := Nm.al wr (.cells #[.int .i64 y.k, .string y.frm, .string y.to, .int .i64 y.cost] 52)
      have HBU1 := Lib.hid (builder_below HBU.out hA)
      have HL1 : Hid (Below w.heap.size w (wr.alloc (.cells #[.int .i64 y.k, .string y.frm, .string y.to, .int .i64 y.cost] 52))) := Lib.hid (Rw.Nb HBw.out hA)
      have RL := Lib.hid (Rw.ruleLine_any y (Rw.okF_word hfi.1).1 (by have := Rw.okF_size hfi.1; omega) (by have := Rw.okTo_size hfi.2.1; omega) hfi.2.2.1 hfi.2.2.2 (wr.alloc (.cells #[.int .i64 y.k, .string y.frm, .string y.to, .int .i64 y.cost] 52)) (HP.out _ HL1.out).sw (fun u hu => (HP.out u (Rw.Nb HL1.out hu)).pw))
      have hll := Rw.rule_len y (by have := Rw.okF_size hfi.1; omega) (by have := Rw.okTo_size hfi.2.1; omega) hfi.2.2.1 hfi.2.2.2
      obtain ⟨l, hl⟩ : ∃ l, Rw.ruleL y = l := ⟨_, rfl⟩
      rw [hl] at RL hll HSN
      have HA1 := Lib.hid (HA0.out.trans (hA.mono (Nat.le_of_lt HSZ.out)))
      clear hy hjl had hsn hfi hA hl
      go_wp2_with fail
      refine RL.out.mono ?_
      rintro e v2 ⟨rfl, g⟩
      have HBU2 := Lib.hid (builder_below HBU1.out g)
      have hsz2 : v.heap.size ≤ v2.heap.size := by have h1 := HSZ.out; have h2 := g.size; simp at h2; omega
      have HS2 := Lib.hid hsz2
      have WS := Lib.hid (writeString_any v.heap.size v.heap.size (Lib.byteCells T) (Nm.bt l) v2 HBU2.out (by rw [Lib.byteCells_length, Lib.size_eq, Nm.bt_list]; omega) hsz2)
      have HA2 := Lib.hid (HA1.out.trans (g.mono (by have h1 := HSZ.out; simp; omega)))
      have HSZ2 : Hid (v.heap.size < v2.heap.size) := Lib.hid (by have h1 := HSZ.out; have h2 := g.size; simp at h2; omega)
      clear g hsz2 HBU1 HL1 RL c0 c1 c2 c3
      go_wp2_with fail
      refine WS.out.mono ?_
      rintro e v3 ⟨rfl, b3', g⟩
      have hnew : Lib.byteCells T ++ Lib.strCells (Nm.bt l) = Lib.byteCells (T ++ l) := by rw [Lib.strCells_eq, Nm.bt_list, ← Lib.byteCells_append]
      rw [hnew] at b3'
      have HBU3 := Lib.hid b3'
      have HA3 := Lib.hid (HA2.out.trans g)
      have HSZ3 : Hid (v.heap.size < v3.heap.size) := Lib.hid (Nat.lt_of_lt_of_le HSZ2.out g.size)
      clear b3' g hnew
      go_wp2
      exact ⟨⟨j + 1, T ++ l, by omega, by go_num, by rw [List.length_append]; omega, Lib.hid (by rw [HT.out, HSN.out]), HBU3, HA3, HSZ3⟩, by simp [intOf]; omega⟩
    · obtain rfl : j = nR := by omega
      have hT0 := HT.out
      rw [List.take_of_length_le (by rw [HN.out.1]; exact Nat.le_refl _)] at hT0
      have hlen0 : T.length ≤ 32000 := by omega
      have x1 := (BX1.out.below HA0.out BX1.out.lt).c 1 _ rfl
      clear HT hTl HBw
      obtain ⟨T0, hTT⟩ : ∃ T0, T = T0 := ⟨_, rfl⟩
      rw [hTT] at hT0 HBU hlen0
      clear hTT
      have HT1 := Lib.hid hT0
      clear hT0
      go_wp2_with fail
      clear x1
      go_loopw [28] (fun s wr => ∃ (j : Nat) (T : Nm.T), j ≤ nD ∧ s = .int .i64 (j : Int) ∧ T.length ≤ 32000 + 400 * j ∧ Hid (T = T0 ++ Rw.ds Rw.dropW (D.take j)) ∧ Hid (Lib.IsBuilder 91 5 v.heap.size v.heap.size (Lib.byteCells T) wr) ∧ Hid (Below v.heap.size v wr) ∧ Hid (v.heap.size < wr.heap.size)) (fun s _ => nD - (intOf s).toNat)
      case atStart => exact ⟨0, T0, Nat.zero_le _, rfl, by omega, Lib.hid (by simp [Rw.ds]), HBU, HA0, HSZ⟩
      case round =>
        clear HBU HA0 HSZ
        obtain ⟨j, T, hj, rfl, hTl, HT, HBU, HA0, HSZ⟩ := hrel
        have HBw := Lib.hid (HB0.out.trans (HA0.out.mono HB0.out.size))
        by_cases hlt : j < nD
        · have hjl : j < D.length := by rw [HN.out.2.1]; exact hlt
          have hlti : (j : Int) < (nD : Int) := by omega
          have hj0 : (0 : Int) ≤ (j : Int) := by omega
          obtain ⟨ad, e0, had, c0, c1, c2⟩ := (HD.out.below HBw.out (Nat.le_refl _)).at hjl
          have hsn := Rw.ds_snoc Rw.dropW D j hjl
          have hfi := HFI.out.dd _ (List.getElem_mem hjl)
          obtain ⟨y, hy⟩ : ∃ y, D[j] = y := ⟨_, rfl⟩
          rw [hy] at hsn hfi c0 c1 c2
          subst e0
          have HSN := Lib.hid hsn
          have hA := Nm.al wr (.cells #[.int .i64 y.k, .string y.word, .int .i64 y.cost] 63)
          have HBU1 := Lib.hid (builder_below HBU.out hA)
          have HL1 : Hid (Below w.heap.size w (wr.alloc (.cells #[.int .i64 y.k, .string y.word, .int .i64 y.cost] 63))) := Lib.hid (Rw.Nb HBw.out hA)
          have RL := Lib.hid (Rw.dropLine_any ⟨#[100, 114, 111, 112]⟩ (by decide) y (Rw.okF_word hfi.1).1 (by have := Rw.okF_size hfi.1; omega) hfi.2.1 hfi.2.2 (wr.alloc (.cells #[.int .i64 y.k, .string y.word, .int .i64 y.cost] 63)) (HP.out _ HL1.out).sw (fun u hu => (HP.out u (Rw.Nb HL1.out hu)).pw))
          have hll := Rw.dropl_len Rw.dropW (by decide) y (by have := Rw.okF_size hfi.1; omega) hfi.2.1 hfi.2.2
          rw [show (⟨#[100, 114, 111, 112]⟩ : ByteArray).data.toList = Rw.dropW from rfl] at RL
          obtain ⟨l, hl⟩ : ∃ l, Rw.dropL Rw.dropW y = l := ⟨_, rfl⟩
          rw [hl] at RL hll HSN
          have HA1 := Lib.hid (HA0.out.trans (hA.mono (Nat.le_of_lt HSZ.out)))
          clear hy hjl had hsn hfi hA hl
          go_wp2_with fail
          refine RL.out.mono ?_
          rintro e v2 ⟨rfl, g⟩
          have HBU2 := Lib.hid (builder_below HBU1.out g)
          have hsz2 : v.heap.size ≤ v2.heap.size := by have h1 := HSZ.out; have h2 := g.size; simp at h2; omega
          have HS2 := Lib.hid hsz2
          have WS := Lib.hid (writeString_any v.heap.size v.heap.size (Lib.byteCells T) (Nm.bt l) v2 HBU2.out (by rw [Lib.byteCells_length, Lib.size_eq, Nm.bt_list]; omega) hsz2)
          have HA2 := Lib.hid (HA1.out.trans (g.mono (by have h1 := HSZ.out; simp; omega)))
          have HSZ2 : Hid (v.heap.size < v2.heap.size) := Lib.hid (by have h1 := HSZ.out; have h2 := g.size; simp at h2; omega)
          clear g hsz2 HBU1 HL1 RL c0 c1 c2
          go_wp2_with fail
          refine WS.out.mono ?_
          rintro e v3 ⟨rfl, b3', g⟩
          have hnew : Lib.byteCells T ++ Lib.strCells (Nm.bt l) = Lib.byteCells (T ++ l) := by rw [Lib.strCells_eq, Nm.bt_list, ← Lib.byteCells_append]
          rw [hnew] at b3'
          have HBU3 := Lib.hid b3'
          have HA3 := Lib.hid (HA2.out.trans g)
          have HSZ3 : Hid (v.heap.size < v3.heap.size) := Lib.hid (Nat.lt_of_lt_of_le HSZ2.out g.size)
          clear b3' g hnew
          go_wp2
          exact ⟨⟨j + 1, T ++ l, by omega, by go_num, by rw [List.length_append]; omega, Lib.hid (by rw [HT.out, List.append_assoc, HSN.out]), HBU3, HA3, HSZ3⟩, by simp [intOf]; omega⟩
        · obtain rfl : j = nD := by omega
          have hT0 := HT.out
          rw [List.take_of_length_le (by rw [HN.out.2.1]; exact Nat.le_refl _)] at hT0
          have hlen0 : T.length ≤ 48000 := by omega
          have x2 := (BX1.out.below HA0.out BX1.out.lt).c 2 _ rfl
          clear HT hTl HBw
          obtain ⟨T1, hTT⟩ : ∃ T1, T = T1 := ⟨_, rfl⟩
          have hlen1 : T1.length ≤ 48000 := by rw [← hTT]; exact hlen0
          rw [hTT] at hT0 HBU
          clear hTT
          have HT2 := Lib.hid hT0
          clear hT0
          go_wp2_with fail
          clear x2
          go_loopw [39] (fun s wr => ∃ (j : Nat) (T : Nm.T), j ≤ nE ∧ s = .int .i64 (j : Int) ∧ T.length ≤ 48000 + 400 * j ∧ Hid (T = T1 ++ Rw.ds Rw.endW (E.take j)) ∧ Hid (Lib.IsBuilder 91 5 v.heap.size v.heap.size (Lib.byteCells T) wr) ∧ Hid (Below v.heap.size v wr) ∧ Hid (v.heap.size < wr.heap.size)) (fun s _ => nE - (intOf s).toNat)
          case atStart => exact ⟨0, T1, Nat.zero_le _, rfl, by omega, Lib.hid (by simp [Rw.ds]), HBU, HA0, HSZ⟩
          case round =>
            clear HBU HA0 HSZ
            obtain ⟨j, T, hj, rfl, hTl, HT, HBU, HA0, HSZ⟩ := hrel
            have HBw := Lib.hid (HB0.out.trans (HA0.out.mono HB0.out.size))
            by_cases hlt : j < nE
            · have hjl : j < E.length := by rw [HN.out.2.2]; exact hlt
              have hlti : (j : Int) < (nE : Int) := by omega
              have hj0 : (0 : Int) ≤ (j : Int) := by omega
              obtain ⟨ad, e0, had, c0, c1, c2⟩ := (HE.out.below HBw.out (Nat.le_refl _)).at hjl
              have hsn := Rw.ds_snoc Rw.endW E j hjl
              have hfi := HFI.out.ee _ (List.getElem_mem hjl)
              obtain ⟨y, hy⟩ : ∃ y, E[j] = y := ⟨_, rfl⟩
              rw [hy] at hsn hfi c0 c1 c2
              subst e0
              have HSN := Lib.hid hsn
              have hA := Nm.al wr (.cells #[.int .i64 y.k, .string y.word, .int .i64 y.cost] 63)
              have HBU1 := Lib.hid (builder_below HBU.out hA)
              have HL1 : Hid (Below w.heap.size w (wr.alloc (.cells #[.int .i64 y.k, .string y.word, .int .i64 y.cost] 63))) := Lib.hid (Rw.Nb HBw.out hA)
              have RL := Lib.hid (Rw.dropLine_any ⟨#[101, 110, 100]⟩ (by decide) y (Rw.okF_word hfi.1).1 (by have := Rw.okF_size hfi.1; omega) hfi.2.1 hfi.2.2 (wr.alloc (.cells #[.int .i64 y.k, .string y.word, .int .i64 y.cost] 63)) (HP.out _ HL1.out).sw (fun u hu => (HP.out u (Rw.Nb HL1.out hu)).pw))
              have hll := Rw.dropl_len Rw.endW (by decide) y (by have := Rw.okF_size hfi.1; omega) hfi.2.1 hfi.2.2
              rw [show (⟨#[101, 110, 100]⟩ : ByteArray).data.toList = Rw.endW from rfl] at RL
              obtain ⟨l, hl⟩ : ∃ l, Rw.dropL Rw.endW y = l := ⟨_, rfl⟩
              rw [hl] at RL hll HSN
              have HA1 := Lib.hid (HA0.out.trans (hA.mono (Nat.le_of_lt HSZ.out)))
              clear hy hjl had hsn hfi hA hl
              go_wp2_with fail
              refine RL.out.mono ?_
              rintro e v2 ⟨rfl, g⟩
              have HBU2 := Lib.hid (builder_below HBU1.out g)
              have hsz2 : v.heap.size ≤ v2.heap.size := by have h1 := HSZ.out; have h2 := g.size; simp at h2; omega
              have HS2 := Lib.hid hsz2
              have WS := Lib.hid (writeString_any v.heap.size v.heap.size (Lib.byteCells T) (Nm.bt l) v2 HBU2.out (by rw [Lib.byteCells_length, Lib.size_eq, Nm.bt_list]; omega) hsz2)
              have HA2 := Lib.hid (HA1.out.trans (g.mono (by have h1 := HSZ.out; simp; omega)))
              have HSZ2 : Hid (v.heap.size < v2.heap.size) := Lib.hid (by have h1 := HSZ.out; have h2 := g.size; simp at h2; omega)
              clear g hsz2 HBU1 HL1 RL c0 c1 c2
              go_wp2_with fail
              refine WS.out.mono ?_
              rintro e v3 ⟨rfl, b3', g⟩
              have hnew : Lib.byteCells T ++ Lib.strCells (Nm.bt l) = Lib.byteCells (T ++ l) := by rw [Lib.strCells_eq, Nm.bt_list, ← Lib.byteCells_append]
              rw [hnew] at b3'
              have HBU3 := Lib.hid b3'
              have HA3 := Lib.hid (HA2.out.trans g)
              have HSZ3 : Hid (v.heap.size < v3.heap.size) := Lib.hid (Nat.lt_of_lt_of_le HSZ2.out g.size)
              clear b3' g hnew
              go_wp2
              exact ⟨⟨j + 1, T ++ l, by omega, by go_num, by rw [List.length_append]; omega, Lib.hid (by rw [HT.out, List.append_assoc, HSN.out]), HBU3, HA3, HSZ3⟩, by simp [intOf]; omega⟩
            · obtain rfl : j = nE := by omega
              have hT0 := HT.out
              rw [List.take_of_length_le (by rw [HN.out.2.2]; exact Nat.le_refl _)] at hT0
              have hlen0 : T.length ≤ 64000 := by omega
              have BX2 := BX1.out.below HA0.out BX1.out.lt
              have x0 := BX2.c 0 _ rfl
              have x1 := BX2.c 1 _ rfl
              have x2 := BX2.c 2 _ rfl
              have x3 := BX2.c 3 _ rfl
              have x4 := BX2.c 4 _ rfl
              have x5 := BX2.c 5 _ rfl
              have CL1 := Lib.hid (CL.out wr HBw.out)
              have HTF := Lib.hid hT0
              clear HT hTl BX2 hT0 CL
              go_wp2_with fail
              refine CL1.out.mono ?_
              rintro e v2 ⟨rfl, g⟩
              have HBU2 := Lib.hid (builder_below HBU.out g)
              have hsz2 : v.heap.size ≤ v2.heap.size := Nat.le_trans (Nat.le_of_lt HSZ.out) g.size
              have WS := Lib.hid (writeString_any v.heap.size v.heap.size (Lib.byteCells T) (Nm.bt CT) v2 HBU2.out (by rw [Lib.byteCells_length]; have := HCL.out; omega) hsz2)
              have HA2 := Lib.hid (HA0.out.trans (g.mono (Nat.le_of_lt HSZ.out)))
              clear g CL1 x0 x1 x2 x3 x4 x5 HBU
              go_wp2_with fail
              refine WS.out.mono ?_
              rintro e v3 ⟨rfl, b3', g⟩
              have hnew : Lib.byteCells T ++ Lib.strCells (Nm.bt CT) = Lib.byteCells (T ++ CT) := by rw [Lib.strCells_eq, Nm.bt_list, ← Lib.byteCells_append]
              rw [hnew] at b3'
              have SS := Lib.hid (Tryz.Builder_String_any v.heap.size v.heap.size _ v3 b3' (Nat.le_trans hsz2 g.size))
              have HA3 := Lib.hid (HA2.out.trans g)
              clear b3' g hnew WS
              go_wp2_with fail
              refine SS.out.mono ?_
              rintro e v4 ⟨rfl, g⟩
              have HA4 := Lib.hid (HB0.out.trans ((HA3.out.trans g).mono HB0.out.size))
              clear g
              go_wp2
              go_ret2
              exact ⟨by rw [HTF.out, HT2.out, HT1.out]; rfl, HA4.out⟩
end Go.Proofs.YtkddpealobeleaaGreatDoor
