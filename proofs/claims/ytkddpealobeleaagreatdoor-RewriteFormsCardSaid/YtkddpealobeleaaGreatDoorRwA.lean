/- Layer 10: small tests of the program: costs, texts, folded words. -/
import Derived.Test.YtkddpealobeleaaGreatDoorNmJ
import Derived.Test.YtkddpealobeleaaGreatDoorRwMF
set_option linter.unusedSimpArgs false
set_option linter.unusedVariables false
namespace Go.Proofs.YtkddpealobeleaaGreatDoor
open Go.RowKit Go.Shelf
set_option maxRecDepth 100000
set_option maxHeartbeats 1000000
theorem Rw.bytes_ne {x y : ByteArray} (h : x ≠ y) : (x.toList == y.toList) = false := by
  rw [beq_eq_false_iff_ne]
  intro e
  rw [ByteArray.toList_eq, ByteArray.toList_eq] at e
  exact h (ByteArray.ext (Array.toList_inj.1 e))
def Rw.okC (n : Int) : Bool := decide (0 ≤ n) && decide (n ≤ 1000)
theorem Rw.cost_any (n : Int) (w : World) : Calls Tryz.prog 46 #[.int .i64 n] w fun e w' => e = .returned (.bool (Rw.okC n)) ∧ w = w' := by
  unfold Rw.okC
  go_enter Tryz.func46, Tryz.ntmps46
  by_cases h0 : 0 ≤ n
  · by_cases h1 : n ≤ 1000
    · go_wp2
      go_ret
      exact ⟨by simp [h0, h1], rfl⟩
    · go_wp2
      go_ret
      exact ⟨by simp [h0, h1], rfl⟩
  · have hd : decide (0 ≤ n) = false := decide_eq_false h0
    rw [hd]
    go_wp2
    go_ret
    exact ⟨rfl, rfl⟩
def Rw.sml (c : UInt8) : Bool := decide (97 ≤ c.toNat) && decide (c.toNat ≤ 122)
/-- May this be the To of a rule? -/
def Rw.okTo (t : Nm.T) : Bool := decide (t.length ≤ 3) && t.all Rw.sml
theorem Rw.take_all (t : ByteArray) (i : Nat) (h : i < t.size) : (t.data.toList.take (i + 1)).all Rw.sml = ((t.data.toList.take i).all Rw.sml && Rw.sml (t[i]'h)) := by
  rw [List.take_add_one, Lib.data_getElem? t i h]
  simp
theorem Rw.to_any (t : ByteArray) (w : World) (hm : t.size ≤ maxLen) : Calls Tryz.prog 82 #[.string t] w fun e w' => e = .returned (.bool (Rw.okTo t.data.toList)) ∧ w = w' := by
  by_cases h3 : (3 : Int) < (t.size : Int)
  · have HF : Hid (Rw.okTo t.data.toList = false) := Lib.hid (by unfold Rw.okTo; rw [← Lib.size_eq, decide_eq_false (by omega)]; rfl)
    go_enter Tryz.func82, Tryz.ntmps82
    go_wp2
    go_ret
    exact ⟨congrArg (fun z => Ending.returned (.bool z)) HF.out.symm, rfl⟩
  have HN : Hid (t.data.toList.length ≤ 3) := Lib.hid (by rw [← Lib.size_eq]; omega)
  go_enter Tryz.func82, Tryz.ntmps82
  go_wp2
  go_loopw [9, 3] (fun s9 _ wr => ∃ i : Nat, i ≤ t.size ∧ s9 = .int .i64 (i : Int) ∧ Hid ((t.data.toList.take i).all Rw.sml = true) ∧ w = wr) (fun s9 _ _ => t.size - (intOf s9).toNat)
  case atStart => exact ⟨0, by omega, rfl, Lib.hid rfl, rfl⟩
  case round =>
    obtain ⟨i, hi, rfl, HE, rfl⟩ := hrel
    by_cases hlt : i < t.size
    · have hlt' : (i : Int) < (t.size : Int) := by omega
      have hi0 : (0 : Int) ≤ (i : Int) := by omega
      have hT := Rw.take_all t i hlt
      rw [HE.out, Bool.true_and] at hT
      obtain ⟨x, hx⟩ : ∃ x : UInt8, t[i]'hlt = x := ⟨_, rfl⟩
      rw [hx] at hT
      have HT := Lib.hid hT
      have hbad : ∀ (_ : Rw.sml x = false), Rw.okTo t.data.toList = false := fun hf => by
        unfold Rw.okTo
        cases hc : t.data.toList.all Rw.sml with
        | false => rw [Bool.and_false]
        | true =>
          have h2 : (t.data.toList.take (i + 1)).all Rw.sml = true := List.all_eq_true.2 fun y hy => List.all_eq_true.1 hc y (List.mem_of_mem_take hy)
          rw [HT.out, hf] at h2
          cases h2
      have HBAD := Lib.hid hbad
      clear hT hbad
      by_cases h1 : x.toNat < 97
      · have f1 : (x.toNat : Int) < 97 := by omega
        have HF : Hid (Rw.okTo t.data.toList = false) := Lib.hid (HBAD.out (by unfold Rw.sml; rw [decide_eq_false (by omega)]; rfl))
        go_wp2
        go_ret
        exact ⟨congrArg (fun z => Ending.returned (.bool z)) HF.out.symm, rfl⟩
      · have f1 : ¬ (x.toNat : Int) < 97 := by omega
        by_cases h2 : 122 < x.toNat
        · have f2 : (122 : Int) < (x.toNat : Int) := by omega
          have HF : Hid (Rw.okTo t.data.toList = false) := Lib.hid (HBAD.out (by unfold Rw.sml; rw [decide_eq_false (p := x.toNat ≤ 122) (by omega), Bool.and_false]))
          go_wp2
          go_ret
          exact ⟨congrArg (fun z => Ending.returned (.bool z)) HF.out.symm, rfl⟩
        · have f2 : ¬ (122 : Int) < (x.toNat : Int) := by omega
          have HS : Hid ((t.data.toList.take (i + 1)).all Rw.sml = true) := Lib.hid (by rw [HT.out]; unfold Rw.sml; rw [decide_eq_true (by omega), decide_eq_true (by omega)]; rfl)
          go_wp2
          exact ⟨⟨i + 1, by omega, by go_num, HS, trivial⟩, by simp [intOf]; omega⟩
    · obtain rfl : i = t.size := by omega
      have HF : Hid (Rw.okTo t.data.toList = true) := Lib.hid (by
        have h1 := HE.out
        rw [List.take_of_length_le (by rw [← Lib.size_eq]; exact Nat.le_refl _)] at h1
        unfold Rw.okTo
        rw [h1, decide_eq_true HN.out]
        rfl)
      go_wp2
      go_ret
      exact ⟨congrArg (fun z => Ending.returned (.bool z)) HF.out.symm, rfl⟩
theorem Rw.quoted_any (t : ByteArray) (w : World) (hm : t.size ≤ 1000000) : Calls Tryz.prog 91 #[.string t] w fun e w' => e = .returned (.string (Nm.bt (34 :: t.data.toList ++ [34]))) ∧ w = w' := by
  go_enter Tryz.func91, Tryz.ntmps91
  go_wp2
  go_ret
  refine ⟨?_, rfl⟩
  refine congrArg (fun z => Ending.returned (.string z)) (ByteArray.ext (Array.toList_inj.1 ?_))
  rw [Nm.bt_list]
  simp
/-- A folded word with at most so many letters. -/
def Rw.okF (k : Int) (t : Nm.T) (m : Int) : Bool := Nm.isW (Nm.sc k) t && decide (t.map Nm.low = t) && decide (((Nm.ls (Nm.sc k) t).length : Int) ≤ m)
theorem Rw.folded_any (k : Int) (t : ByteArray) (m : Int) (w : World) (hm : t.size ≤ maxLen) (h : Nm.Tb w.heap.size w) :
    Calls Tryz.prog 81 #[.int .i64 k, .string t, .int .i64 m] w fun e w' => e = .returned (.bool (Rw.okF k t.data.toList m)) ∧ Below w.heap.size w w' := by
  cases hw : Nm.isW (Nm.sc k) t.data.toList with
  | false =>
    have HF : Hid (Rw.okF k t.data.toList m = false) := Lib.hid (by unfold Rw.okF; rw [hw]; rfl)
    have F1 := Lib.hid (Nm.fold_bad k t w hw hm h)
    clear hw h hm
    go_enter Tryz.func81, Tryz.ntmps81
    go_wp2_with fail
    refine F1.out.mono ?_
    rintro e w1 ⟨rfl, g1⟩
    go_wp2
    go_ret
    exact ⟨congrArg (fun z => Ending.returned (.bool z)) HF.out.symm, g1⟩
  | true =>
  have F1 := Lib.hid (Nm.fold_ok k t w hw hm h)
  obtain ⟨r, hr⟩ : ∃ r, Nm.bt (t.data.toList.map Nm.low) = r := ⟨_, rfl⟩
  rw [hr] at F1
  by_cases hl : t.data.toList.map Nm.low = t.data.toList
  · have hrt : r = t := by
      rw [← hr, hl]
      exact ByteArray.ext (Array.toList_inj.1 (by rw [Nm.bt_list]))
    subst hrt
    have HF : Hid (Rw.okF k r.data.toList m = decide (((Nm.ls (Nm.sc k) r.data.toList).length : Int) ≤ m)) := Lib.hid (by unfold Rw.okF; rw [hw, decide_eq_true hl]; rfl)
    have L1 := Lib.hid (fun v (hv : Below w.heap.size w v) => Nm.letters_ok k r v hw hm (h.bt hv))
    obtain ⟨ll, hll⟩ : ∃ ll, (Nm.ls (Nm.sc k) r.data.toList).map Nm.bt = ll := ⟨_, rfl⟩
    have hlen : (Nm.ls (Nm.sc k) r.data.toList).length = ll.length := by rw [← hll, List.length_map]
    rw [hll] at L1
    rw [hlen] at HF
    clear hw h hm hr hl hll hlen
    go_enter Tryz.func81, Tryz.ntmps81
    go_wp2_with fail
    refine F1.out.mono ?_
    rintro e w1 ⟨rfl, g1⟩
    have HB := Lib.hid g1
    clear g1
    go_wp2_with fail
    refine (L1.out w1 HB.out).mono ?_
    rintro e w2 ⟨v, rfl, o2, g2⟩
    have HB2 := Lib.hid (Nm.Nb HB.out g2)
    obtain ⟨A, c, rfl, _, _, _⟩ := OwnS.form o2
    generalize ll.length = n at *
    clear o2 g2
    by_cases hnm : (n : Int) ≤ m
    · have HG : Hid (Rw.okF k r.data.toList m = true) := Lib.hid (by rw [HF.out, decide_eq_true hnm])
      go_wp2
      go_ret
      exact ⟨congrArg (fun z => Ending.returned (.bool z)) HG.out.symm, HB2.out⟩
    · go_wp2
      go_ret
      exact ⟨congrArg (fun z => Ending.returned (.bool z)) HF.out.symm, HB2.out⟩
  · have HF : Hid (Rw.okF k t.data.toList m = false) := Lib.hid (by unfold Rw.okF; rw [decide_eq_false hl, Bool.and_false]; rfl)
    have hne : r ≠ t := by
      intro e
      have := congrArg (fun b => b.data.toList) (hr.trans e)
      rw [Nm.bt_list] at this
      exact hl this
    have hne2 := Rw.bytes_ne hne
    clear hw h hm hr hl
    go_enter Tryz.func81, Tryz.ntmps81
    go_wp2_with fail
    refine F1.out.mono ?_
    rintro e w1 ⟨rfl, g1⟩
    go_wp2
    go_ret
    exact ⟨congrArg (fun z => Ending.returned (.bool z)) HF.out.symm, g1⟩
end Go.Proofs.YtkddpealobeleaaGreatDoor
