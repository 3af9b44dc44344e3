/- Layer 9, the reference: Letters. -/
import Derived.Test.YtcjlnmfbanknhaaDoorNmRc
import Derived.Test.YtcjlnmfbanknhaaDoorNmOp
set_option linter.unusedSimpArgs false
set_option linter.unusedVariables false
namespace Go.Proofs.YtcjlnmfbanknhaaDoor
open Go.RowKit Go.Shelf
set_option maxRecDepth 100000
set_option maxHeartbeats 2000000
/-- What is read of a word up to an offset. -/
structure Nm.Rd (s : Nat) (t : Nm.T) (i : Nat) (pre : List Nm.T) : Prop where
  eq : Nm.rd s t = (pre ++ (Nm.rd s (t.drop i)).1, (Nm.rd s (t.drop i)).2)
  le : i ≤ t.length
  few : pre.length ≤ 12
theorem Nm.Rd.start (s : Nat) (t : Nm.T) : Nm.Rd s t 0 [] := ⟨by simp, by omega, by simp⟩
theorem Nm.Rd.step {s : Nat} {t : Nm.T} {i : Nat} {pre : List Nm.T} (h : Nm.Rd s t i pre) (h0 : Nm.ln s (t.drop i) ≠ 0) (hp : pre.length ≠ 12) : Nm.Rd s t (i + Nm.ln s (t.drop i)) (pre ++ [(t.drop i).take (Nm.ln s (t.drop i))]) := by
  have hl := Nm.ln_le s (t.drop i)
  have hf := h.few
  have he := h.le
  rw [List.length_drop] at hl
  refine ⟨?_, by omega, by rw [List.length_append, List.length_singleton]; omega⟩
  have h1 := h.eq
  rw [Nm.rd_step h0, List.drop_drop] at h1
  rw [h1]
  simp
theorem Nm.Rd.bad {s : Nat} {t : Nm.T} {i : Nat} {pre : List Nm.T} (h : Nm.Rd s t i pre) (hi : i < t.length) (h0 : Nm.ln s (t.drop i) = 0) : Nm.isW s t = false := by
  have h1 := h.eq
  rw [Nm.rd_stop h0] at h1
  unfold Nm.isW
  rw [h1]
  have : t.drop i ≠ [] := fun e => by have := List.drop_eq_nil_iff.1 e; omega
  simp [this]
theorem Nm.Rd.full {s : Nat} {t : Nm.T} {i : Nat} {pre : List Nm.T} (h : Nm.Rd s t i pre) (h0 : Nm.ln s (t.drop i) ≠ 0) (hp : pre.length = 12) : Nm.isW s t = false := by
  have h1 := h.eq
  rw [Nm.rd_step h0] at h1
  unfold Nm.isW
  rw [h1]
  simp [hp]
theorem Nm.Rd.ends {s : Nat} {t : Nm.T} {pre : List Nm.T} (h : Nm.Rd s t t.length pre) : Nm.rd s t = (pre, []) := by
  have h1 := h.eq
  rw [List.drop_length] at h1
  simpa [Nm.rd] using h1
theorem Nm.rletters_any (k : Int) (t : ByteArray) (w : World) (hm : t.size ≤ 1000) :
    Calls Tryd.prog 8 #[.int .i64 k, .string t] w (Nm.LPost w (Nm.sc k) t.data.toList) := by
  have LN := Lib.hid (fun (i : Nat) (hi : i ≤ t.size) v => Nm.rlength_any k t i v (by omega) (by omega))
  have hlen := Lib.hid (Lib.size_eq t)
  have HS := Lib.hid (Nm.Rd.start (Nm.sc k) t.data.toList)
  unfold Nm.LPost
  go_enter Tryd.func8, Tryd.ntmps8
  go_wp2
  go_loopw [6, 7] (fun s6 s7 wr => ∃ (i : Nat) (pre : List Nm.T), i ≤ t.size ∧ s7 = .int .i64 (i : Int) ∧ Hid (OwnS wr w.heap.size s6 (pre.map Nm.bt)) ∧ Hid (Nm.Rd (Nm.sc k) t.data.toList i pre) ∧ Hid (Below w.heap.size w wr)) (fun s6 s7 _ => t.size - (intOf s7).toNat)
  case atStart => exact ⟨0, [], by omega, rfl, Lib.hid (OwnS.nil _ _), HS, Lib.hid (Below.refl _ _)⟩
  case round =>
    obtain ⟨i, pre, hi, rfl, HO, HR, HB⟩ := hrel
    obtain ⟨A, c, hform, _, hc1, hc2⟩ := HO.out.form
    subst hform
    have h12 := HR.out.few
    by_cases hlt : i < t.size
    · have hlt' : (i : Int) < (t.size : Int) := by omega
      have L1 := Lib.hid (LN.out i hi)
      have hln := Nm.ln_le (Nm.sc k) (t.data.toList.drop i)
      have hl2 := Nm.ln_two (Nm.sc k) (t.data.toList.drop i)
      rw [List.length_drop, ← hlen.out] at hln
      have HX := Lib.hid (fun h0 => HR.out.bad (by rw [← hlen.out]; exact hlt) h0)
      have HY := Lib.hid (fun h0 h1 => HR.out.full h0 h1)
      have HZ := Lib.hid (fun h0 h1 => HR.out.step h0 h1)
      obtain ⟨q, hq⟩ : ∃ q, Nm.ln (Nm.sc k) (t.data.toList.drop i) = q := ⟨_, rfl⟩
      rw [hq] at L1 hln hl2 HX HY HZ
      obtain ⟨m, hmm⟩ : ∃ m, (pre.map Nm.bt).length = m := ⟨_, rfl⟩
      have hm2 : pre.length = m := by rw [← hmm, List.length_map]
      rw [hm2] at h12 HY HZ
      rw [hmm] at HO ⊢
      clear hq hc1 hc2 hmm hm2
      go_wp2_with fail
      refine (L1.out wr).mono ?_
      rintro e w1 ⟨rfl, g1⟩
      have HB1 := Lib.hid (Nm.Nb HB.out g1)
      have O1 := own_below HO.out g1
      clear L1
      by_cases h0 : q = 0
      · subst h0
        have HF := Lib.hid (HX.out rfl)
        clear HX HY HZ O1 g1
        go_wp2
        go_ret2
        exact ⟨HB1.out, .inr ⟨HF.out, rfl⟩⟩
      · have hq0 : ((q : Int) == 0) = false := by simp; omega
        have hq1 : ¬ ((q : Int) = 0) := by omega
        by_cases h12' : m = 12
        · subst h12'
          have HF := Lib.hid (HY.out h0 rfl)
          clear HX HY HZ O1 g1
          go_wp2
          go_ret2
          exact ⟨HB1.out, .inr ⟨HF.out, rfl⟩⟩
        · have hm0 : ((m : Int) == 12) = false := by simp; omega
          have hm1 : ¬ ((m : Int) = 12) := by omega
          have HW := Lib.hid (HZ.out h0 h12')
          have hx : t.extract i (i + q) = Nm.bt ((t.data.toList.drop i).take q) := by
            refine ByteArray.ext (Array.toList_inj.1 ?_)
            rw [Nm.bt_list, Lib.extract_data]
            simp
          obtain ⟨x, hxx⟩ : ∃ x, t.extract i (i + q) = x := ⟨_, rfl⟩
          rw [hxx] at hx
          have HXX := Lib.hid hx
          have i0 : (0 : Int) ≤ (i : Int) := by omega
          have i1 : (i : Int) ≤ (i : Int) + (q : Int) := by omega
          have i2 : (i : Int) + (q : Int) ≤ (t.size : Int) := by omega
          have gz := Nm.al w1 (.cells #[.string x] 9)
          have Oz := own_below O1 gz
          have Gz := Lib.hid (Nm.Nb HB1.out gz)
          have hb := heap_alloc_new w1 (.cells #[.string x] 9)
          have hml : (pre.map Nm.bt).length ≤ 1000000 := by rw [List.length_map]; have := HR.out.few; omega
          clear HX HY HZ O1 g1 gz hx
          go_wp2_with (first
            | (at_builtin
               refine list_append1 rfl (.tmp 24) (.tmp 31) ?ho w.heap.size _ (pre.map Nm.bt) ?hs Oz w1.heap.size ?hx x 9 hb hml Gz.out.size ?_
               case ho => rfl
               case hs => rfl
               case hx => rfl
               intro v2 w2 o2 g2)
            | fail)
          exact ⟨⟨i + q, pre ++ [(t.data.toList.drop i).take q], by omega, by go_num, Lib.hid (by rw [List.map_append, List.map_singleton, ← HXX.out]; exact o2), HW, Lib.hid (Gz.out.trans g2)⟩, by simp [intOf]; omega⟩
    · obtain rfl : i = t.size := by omega
      have hR := HR.out
      rw [hlen.out] at hR
      have he := hR.ends
      by_cases hp0 : pre = []
      · subst hp0
        have HF : Hid (Nm.isW (Nm.sc k) t.data.toList = false) := Lib.hid (by unfold Nm.isW; rw [he]; rfl)
        clear hR he
        go_wp2
        go_ret2
        exact ⟨HB.out, .inr ⟨HF.out, rfl⟩⟩
      · have hpl := List.length_pos_iff.2 hp0
        have HF : Hid (Nm.isW (Nm.sc k) t.data.toList = true) := Lib.hid (Nm.isW_of he (by omega) HR.out.few)
        have HG : Hid (Nm.ls (Nm.sc k) t.data.toList = pre) := Lib.hid (Nm.ls_of he)
        have hn0 : (((pre.map Nm.bt).length : Int) == 0) = false := by rw [List.length_map]; simp; omega
        have hn1 : ¬ (((pre.map Nm.bt).length : Int) = 0) := by rw [List.length_map]; omega
        generalize hmm : (pre.map Nm.bt).length = m at *
        have HOO : Hid (OwnS wr w.heap.size (.slice A m c) ((Nm.ls (Nm.sc k) t.data.toList).map Nm.bt)) := Lib.hid (by rw [HG.out]; exact HO.out)
        clear hR he hmm hpl
        go_wp2
        go_ret2
        exact ⟨HB.out, .inl ⟨HF.out, _, rfl, HOO.out⟩⟩
end Go.Proofs.YtcjlnmfbanknhaaDoor
