/- Layer 9: the reference's Texts. -/
import Derived.Test.YtcjlnmfbanknhaaDoorNmQ
set_option linter.unusedSimpArgs false
set_option linter.unusedVariables false
namespace Go.Proofs.YtcjlnmfbanknhaaDoor
open Go.RowKit Go.Shelf
set_option maxRecDepth 100000
set_option maxHeartbeats 1000000

theorem Nm.toList_inj {x y : ByteArray} (h : x.toList = y.toList) : x = y := by
  rw [Lib.toList_data, Lib.toList_data] at h
  exact ByteArray.ext (Array.toList_inj.1 h)
theorem Nm.eqB_false {x y : ByteArray} (h : x ≠ y) : (x.toList == y.toList) = false := by
  cases hb : (x.toList == y.toList) with
  | false => rfl
  | true => exact absurd (Nm.toList_inj (by simpa using hb)) h
theorem Nm.getD_take {ss : List ByteArray} {i : Nat} (h : i < ss.length) : ss.take (i + 1) = ss.take i ++ [ss.getD i ByteArray.empty] := by
  rw [List.take_add_one, List.getElem?_eq_getElem h, List.getD_eq_getElem?_getD, List.getElem?_eq_getElem h]
  rfl
theorem Nm.texts_any (A : Option Addr) (c : Nat) (ss : List ByteArray) (B : Option Addr) (d : Nat) (tt : List ByteArray) (w : World) (ha : Strs w w.heap.size A ss) (hb : Strs w w.heap.size B tt) (hl : ss.length ≤ maxLen) (hl2 : tt.length ≤ maxLen) :
    Calls Tryd.prog 17 #[.slice A ss.length c, .slice B tt.length d] w fun e w' => e = .returned (.bool (decide (ss = tt))) ∧ Below w.heap.size w w' := by
  unfold maxLen at hl hl2
  by_cases hlen : ss.length = tt.length
  · have HA := Lib.hid ha
    have HB := Lib.hid hb
    obtain ⟨n, hn⟩ : ∃ n, ss.length = n := ⟨_, rfl⟩
    have hn2 : tt.length = n := by omega
    rw [hn] at hl ⊢
    rw [hn2]
    have HN := Lib.hid (And.intro hn hn2)
    clear ha hb hlen hn hn2 hl2
    go_enter Tryd.func17, Tryd.ntmps17
    go_wp2
    go_loopw [5] (fun s5 wr => ∃ i : Nat, i ≤ n ∧ s5 = .int .i64 (i : Int) ∧ Hid (ss.take i = tt.take i) ∧ Hid (Below w.heap.size w wr)) (fun s5 _ => n - (intOf s5).toNat)
    case atStart => exact ⟨0, by omega, rfl, Lib.hid rfl, Lib.hid (Below.refl _ _)⟩
    case round =>
      obtain ⟨i, hi, rfl, HE, HW⟩ := hrel
      by_cases hlt : i < n
      · obtain ⟨ad, rfl, had, hx⟩ := HA.out i (by have := HN.out.1; omega)
        obtain ⟨bd, rfl, hbd, hy⟩ := HB.out i (by have := HN.out.2; omega)
        have hx1 := (HW.out.cell (p := ad.add i) (by rw [add_block]; exact had)).trans hx
        have hy1 := (HW.out.cell (p := bd.add i) (by rw [add_block]; exact hbd)).trans hy
        have ht1 := Nm.getD_take (ss := ss) (i := i) (by have := HN.out.1; omega)
        have ht2 := Nm.getD_take (ss := tt) (i := i) (by have := HN.out.2; omega)
        obtain ⟨x, hxx⟩ : ∃ x, ss.getD i ByteArray.empty = x := ⟨_, rfl⟩
        obtain ⟨y, hyy⟩ : ∃ y, tt.getD i ByteArray.empty = y := ⟨_, rfl⟩
        rw [hxx] at hx1 ht1
        rw [hyy] at hy1 ht2
        have HT := Lib.hid (And.intro ht1 ht2)
        clear hx hy ht1 ht2 hxx hyy
        by_cases hxy : x = y
        · subst hxy
          go_wp2
          go_quiet (fail)
          go_wp2
          exact ⟨⟨i + 1, by omega, by go_num, Lib.hid (by rw [HT.out.1, HT.out.2, HE.out]), Lib.hid (Nm.drewB HW.out _)⟩, by simp [intOf]; omega⟩
        · have hne := Nm.eqB_false hxy
          have HF : Hid (decide (ss = tt) = false) := Lib.hid (decide_eq_false (fun e => by
            have h1 := HT.out.1
            have h2 := HT.out.2
            rw [e] at h1
            rw [h1, ← e, HE.out] at h2
            exact hxy (by simpa using h2)))
          have hxy2 : ¬ x = y := hxy
          go_wp2
          go_quiet (fail)
          go_wp2
          go_ret
          exact ⟨congrArg (fun z => Ending.returned (.bool z)) HF.out.symm, Nm.drewB HW.out _⟩
      · obtain rfl : i = n := by omega
        have HF : Hid (decide (ss = tt) = true) := Lib.hid (decide_eq_true (by
          have h1 := HE.out
          rwa [List.take_of_length_le (by have := HN.out.1; omega), List.take_of_length_le (by have := HN.out.2; omega)] at h1))
        go_wp2
        go_ret
        exact ⟨congrArg (fun z => Ending.returned (.bool z)) HF.out.symm, HW.out⟩
  · have hF : decide (ss = tt) = false := decide_eq_false (fun e => hlen (by rw [e]))
    rw [hF]
    have hne : ((ss.length : Int) == (tt.length : Int)) = false := by simp; omega
    obtain ⟨n, hn⟩ : ∃ n, ss.length = n := ⟨_, rfl⟩
    obtain ⟨m, hm⟩ : ∃ m, tt.length = m := ⟨_, rfl⟩
    rw [hn] at hlen hne ⊢
    rw [hm] at hlen hne ⊢
    clear ha hb hF hn hm hl hl2
    go_enter Tryd.func17, Tryd.ntmps17
    go_wp2
    go_ret
    exact ⟨rfl, Below.refl _ _⟩
end Go.Proofs.YtcjlnmfbanknhaaDoor
