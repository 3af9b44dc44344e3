/- Layer 10: strings.Join with nothing between, slices.Equal of texts. -/
import Derived.Test.YtkddpealobeleaaGreatDoorNmH
import Derived.Test.YtkddpealobeleaaGreatDoorNmO
import Derived.Test.YtkddpealobeleaaGreatDoorRwE
import Derived.BigQuiet
set_option linter.unusedSimpArgs false
set_option linter.unusedVariables false
namespace Go.Proofs.YtkddpealobeleaaGreatDoor
open Go.RowKit Go.Shelf
set_option maxRecDepth 100000
set_option maxHeartbeats 2000000
def Rw.jt (r : List Nm.T) : Nm.T := r.flatten
theorem Rw.jt_snoc (r : List Nm.T) (k : Nat) (h : k < r.length) : Rw.jt (r.take (k + 1)) = Rw.jt (r.take k) ++ r[k] := by
  unfold Rw.jt
  rw [List.take_succ_eq_append_getElem h, List.flatten_append]
  simp
theorem Rw.jt_len (r : List Nm.T) (k : Nat) (h : ∀ x ∈ r, x.length ≤ 24) : (Rw.jt (r.take k)).length ≤ 25 * k := by
  induction k generalizing r with
  | zero => simp [Rw.jt]
  | succ k ih =>
    match r, h with
    | [], _ => simp [Rw.jt]
    | x :: r, h =>
      have := ih r (fun y hy => h y (List.mem_cons_of_mem _ hy))
      have h1 := h x List.mem_cons_self
      simp only [Rw.jt, List.take_succ_cons, List.flatten_cons, List.length_append] at this ⊢
      omega
theorem Rw.cat_one (s : ByteArray) (A : Option Addr) (c : Nat) (w : World) (hs : Strs w w.heap.size A [s]) :
    Calls Tryz.prog 43 #[.slice A 1 c, .string ⟨#[]⟩] w fun e w' => e = .returned (.string s) ∧ Below w.heap.size w w' := by
  obtain ⟨ad, rfl, _, hc⟩ := hs 0 (by simp)
  have hc : w.cell? ad = some (.string s) := by
    rw [show ad.add 0 = ad from by unfold Addr.add; split <;> simp_all] at hc
    exact hc
  clear hs
  go_enter Tryz.func43, Tryz.ntmps43
  go_wp2
  go_ret
  exact ⟨rfl, Below.refl _ _⟩

theorem Rw.cat_many (ss : List ByteArray) (A : Option Addr) (c : Nat) (w : World) (hs : Strs w w.heap.size A ss) (h2 : 2 ≤ ss.length) (h6 : ss.length ≤ 12) (hc : ss.length ≤ c) (hc2 : c ≤ maxLen) (hl : ∀ x ∈ ss, x.size ≤ 24) :
    Calls Tryz.prog 43 #[.slice A ss.length c, .string ⟨#[]⟩] w fun e w' => e = .returned (.string (Nm.bt ((ss.map fun x => x.data.toList).flatten))) ∧ Below w.heap.size w w' := by
  obtain ⟨x0, r, hss⟩ : ∃ x0 r, ss = x0 :: r := by
    cases ss with
    | nil => simp at h2
    | cons a t => exact ⟨a, t, rfl⟩
  obtain ⟨ad, rfl, had, _⟩ := hs 0 (by omega)
  have HS := Lib.hid hs
  have HSS := Lib.hid hss
  have HL := Lib.hid hl
  obtain ⟨m, hm⟩ : ∃ m, ss.length = m := ⟨_, rfl⟩
  rw [hm] at h2 h6 hc ⊢
  have HM := Lib.hid hm
  have hne0 : ((m : Int) == 0) = false := beq_eq_false_iff_ne.2 (by omega)
  have hne1 : ((m : Int) == 1) = false := beq_eq_false_iff_ne.2 (by omega)
  have hq1 : ¬ ((m : Int) - 1 = 0) := by omega
  unfold maxLen at hc2
  clear hs hss hl hm
  go_enter Tryz.func43, Tryz.ntmps43
  go_wp2
  go_loop [5, 41] (fun n i => ∃ k q : Nat, k ≤ m ∧ i = .int .i64 k ∧ n = .int .i64 (q : Int) ∧ q ≤ 24 * k) (fun _ i => m - (intOf i).toNat)
  case atStart => exact ⟨0, 0, Nat.zero_le _, rfl, rfl, by omega⟩
  case round =>
    obtain ⟨k, q, hk, rfl, rfl, hq⟩ := hrel
    by_cases hkn : k < m
    · obtain ⟨_, he, had2, hck⟩ := HS.out k (by rw [HM.out]; exact hkn)
      cases he
      obtain ⟨x, hx⟩ : ∃ x, ss.getD k ByteArray.empty = x := ⟨_, rfl⟩
      rw [hx] at hck
      have hxl : x.size ≤ 24 := by
        rw [← hx, List.getD_eq_getElem?_getD, List.getElem?_eq_getElem (by rw [HM.out]; exact hkn)]
        exact HL.out _ (List.getElem_mem _)
      have hd1 : decide (9223372036854775807 - (q : Int) < (x.size : Int)) = false := decide_eq_false (by omega)
      clear hx
      go_wp2
      exact ⟨⟨k + 1, q + x.size, by omega, by go_num, by go_num, by omega⟩, by simp [intOf]; omega⟩
    · have hke : k = m := by omega
      subst hke
      have GR := Lib.hid (Nm.grow_fresh w.heap.size w.heap.size q (w.alloc (.cells #[.pointer none, .slice none 0 0] 91)) (Nat.le_refl _) (heap_alloc_new w _) (by simp) (by omega))
      have hq0 : (0 : Int) ≤ (q : Int) := by omega
      -- the first word
      obtain ⟨_, he, had0, hc0⟩ := HS.out 0 (by rw [HM.out]; omega)
      cases he
      have hx0 : ss.getD 0 ByteArray.empty = x0 := by rw [HSS.out]; rfl
      rw [hx0, show ad.add 0 = ad from by unfold Addr.add; split <;> simp_all] at hc0
      have hx0l : x0.size ≤ 24 := HL.out _ (by rw [HSS.out]; simp)
      go_wp2_with fail
      refine GR.out.mono ?_
      rintro e w1 ⟨rfl, h1, hb1⟩
      have hb1' : Below w.heap.size w w1 := (Nm.al w _).trans (hb1.mono (Nat.le_refl _))
      have hc1 := (hb1'.cell (p := ad) had0).trans hc0
      have W1 := Lib.hid (writeString_any w.heap.size w.heap.size [] x0 w1 h1 (by simp; omega) hb1'.size)
      have HB1 := Lib.hid hb1'
      clear hx0 hc0 hb1 h1 hb1'
      go_wp2_with fail
      refine W1.out.mono ?_
      rintro e w2 ⟨rfl, h2', hb2⟩
      rw [show ([] : List Value) ++ Lib.strCells x0 = Lib.byteCells (x0.data.toList ++ Rw.jt ((r.map fun x => x.data.toList).take 0)) from by simp [Rw.jt, Lib.strCells_eq]] at h2'
      have H2 := Lib.hid h2'
      have HB2 := Lib.hid (HB1.out.trans hb2)
      have hrl : r.length = k - 1 := by have := HM.out; rw [HSS.out] at this; simp at this; omega
      clear h2' hb2 hc1
      go_wp2_with fail
      go_loopw [65] (fun i wr => ∃ j : Nat, j ≤ k - 1 ∧ i = .int .i64 (j : Int) ∧ Hid (Lib.IsBuilder 91 5 w.heap.size w.heap.size (Lib.byteCells (x0.data.toList ++ Rw.jt ((r.map fun x => x.data.toList).take j))) wr) ∧ Hid (Below w.heap.size w wr)) (fun i _ => k - 1 - (intOf i).toNat)
      case atStart => exact ⟨0, Nat.zero_le _, rfl, H2, HB2⟩
      case round =>
        obtain ⟨j, hj, rfl, HI, HW⟩ := hrel
        by_cases hjk : j < k - 1
        · obtain ⟨_, he, had2, hck⟩ := HS.out (1 + j) (by rw [HM.out]; omega)
          cases he
          obtain ⟨y, hy⟩ : ∃ y, ss.getD (1 + j) ByteArray.empty = y := ⟨_, rfl⟩
          rw [hy] at hck
          have hyr : r[j]'(by omega) = y := by
            rw [← hy, HSS.out, Nat.add_comm, List.getD_cons_succ, List.getD_eq_getElem?_getD, List.getElem?_eq_getElem (by omega)]
            rfl
          have hyl : y.size ≤ 24 := HL.out _ (by rw [HSS.out, ← hyr]; exact List.mem_cons_of_mem _ (List.getElem_mem _))
          have hjs := Rw.jt_snoc (r.map fun x => x.data.toList) j (by simp; omega)
          rw [List.getElem_map, hyr] at hjs
          have hjl := Rw.jt_len (r.map fun x => x.data.toList) j (fun z hz => by
            obtain ⟨z', hz', rfl⟩ := List.mem_map.1 hz
            rw [← Lib.size_eq]
            exact HL.out _ (by rw [HSS.out]; exact List.mem_cons_of_mem _ hz'))
          rw [show ad.add (1 + j) = ⟨ad.block, ad.off + 1 + j, none⟩ from by unfold Addr.add; rw [if_neg (by omega)]; simp [Nat.add_assoc]] at hck
          have hcy := (HW.out.cell (p := ⟨ad.block, ad.off + 1 + j, none⟩) had).trans hck
          obtain ⟨L, hL⟩ : ∃ L, x0.data.toList ++ Rw.jt ((r.map fun x => x.data.toList).take j) = L := ⟨_, rfl⟩
          have hLl : L.length ≤ 24 + 25 * j := by rw [← hL, List.length_append, ← Lib.size_eq]; omega
          have hLn : x0.data.toList ++ Rw.jt ((r.map fun x => x.data.toList).take (j + 1)) = L ++ y.data.toList := by rw [hjs, ← hL, List.append_assoc]
          rw [hL] at HI
          have V1 := Lib.hid (writeString_any w.heap.size w.heap.size (Lib.byteCells L) ⟨#[]⟩ wr HI.out (by rw [Lib.byteCells_length]; show L.length + 0 ≤ _; omega) HW.out.size)
          have HLN := Lib.hid hLn
          have HHL := Lib.hid hLl
          have HYL := Lib.hid hyl
          have HCY := Lib.hid hcy
          clear hy hyr hjs hjl hck hL hLn hLl hyl
          go_wp2_with fail
          refine V1.out.mono ?_
          rintro e w3 ⟨rfl, h3, hb3⟩
          have V2 := Lib.hid (writeString_any w.heap.size w.heap.size _ y w3 h3 (by rw [List.length_append, Lib.byteCells_length, Lib.strCells_length]; have := HHL.out; have := HYL.out; show L.length + 0 + y.size ≤ _; omega) (HW.out.trans hb3).size)
          have HB3 := Lib.hid (HW.out.trans hb3)
          clear h3 hb3 hcy
          go_wp2_with fail
          refine V2.out.mono ?_
          rintro e w4 ⟨rfl, h4, hb4⟩
          have H4 := Lib.hid h4
          have HB4 := Lib.hid (HB3.out.trans hb4)
          clear h4 hb4
          go_wp2
          refine ⟨⟨j + 1, by omega, by go_num, Lib.hid ?_, HB4⟩, by simp [intOf]; omega⟩
          rw [HLN.out]
          have := H4.out
          rw [Lib.strCells_eq, Lib.strCells_eq, ← Lib.byteCells_append, ← Lib.byteCells_append] at this
          simpa using this
        · have hje : j = k - 1 := by omega
          subst hje
          have hfull : (r.map fun x => x.data.toList).take (k - 1) = r.map fun x => x.data.toList := List.take_of_length_le (by simp; omega)
          have hfin : x0.data.toList ++ Rw.jt (r.map fun x => x.data.toList) = (ss.map fun x => x.data.toList).flatten := by rw [HSS.out, List.map_cons, List.flatten_cons]; rfl
          rw [hfull, hfin] at HI
          have S1 := Lib.hid (Tryz.Builder_String_any w.heap.size w.heap.size _ wr HI.out HW.out.size)
          obtain ⟨L, hL⟩ : ∃ L, (ss.map fun x => x.data.toList).flatten = L := ⟨_, rfl⟩
          rw [hL] at S1
          clear hfull hfin HI
          go_wp2_with fail
          refine S1.out.mono ?_
          rintro e w5 ⟨rfl, hb5⟩
          have HB5 := Lib.hid (HW.out.trans hb5)
          clear hb5
          go_wp2
          go_ret
          exact ⟨by rw [hL]; rfl, HB5.out⟩
theorem Rw.toList_inj {x y : ByteArray} (h : x.toList = y.toList) : x = y := by
  rw [Lib.toList_data, Lib.toList_data] at h
  exact ByteArray.ext (Array.toList_inj.1 h)
theorem Rw.eqB_false {x y : ByteArray} (h : x ≠ y) : (x.toList == y.toList) = false := by
  cases hb : (x.toList == y.toList) with
  | false => rfl
  | true => exact absurd (Rw.toList_inj (by simpa using hb)) h
theorem Rw.getD_take {ss : List ByteArray} {i : Nat} (h : i < ss.length) : ss.take (i + 1) = ss.take i ++ [ss.getD i ByteArray.empty] := by
  rw [List.take_add_one, List.getElem?_eq_getElem h, List.getD_eq_getElem?_getD, List.getElem?_eq_getElem h]
  rfl
theorem Rw.equal_any (A : Option Addr) (c : Nat) (ss : List ByteArray) (B : Option Addr) (d : Nat) (tt : List ByteArray) (w : World) (ha : Strs w w.heap.size A ss) (hb : Strs w w.heap.size B tt) (hl : ss.length ≤ maxLen) (hl2 : tt.length ≤ maxLen) :
    Calls Tryz.prog 72 #[.slice A ss.length c, .slice B tt.length d] w fun e w' => e = .returned (.bool (decide (ss = tt))) ∧ Below w.heap.size w w' := by
  unfold maxLen at hl hl2
  by_cases hlen : ss.length = tt.length
  · have HA := Lib.hid ha
    have HB := Lib.hid hb
    obtain ⟨n, hn⟩ : ∃ n, ss.length = n := ⟨_, rfl⟩
    have hn2 : tt.length = n := by omega
    rw [hn] at hl ⊢
    rw [hn2]
    have HN := Lib.hid (And.intro hn hn2)
    clear ha hb hlen hn hn2 hl2
    go_enter Tryz.func72, Tryz.ntmps72
    go_wp2
    go_loopw [13] (fun s5 wr => ∃ i : Nat, i ≤ n ∧ s5 = .int .i64 (i : Int) ∧ Hid (ss.take i = tt.take i) ∧ Hid (Below w.heap.size w wr)) (fun s5 _ => n - (intOf s5).toNat)
    case atStart => exact ⟨0, by omega, rfl, Lib.hid rfl, Lib.hid (Below.refl _ _)⟩
    case round =>
      obtain ⟨i, hi, rfl, HE, HW⟩ := hrel
      by_cases hlt : i < n
      · obtain ⟨ad, rfl, had, hx⟩ := HA.out i (by have := HN.out.1; omega)
        obtain ⟨bd, rfl, hbd, hy⟩ := HB.out i (by have := HN.out.2; omega)
        have hx1 := (HW.out.cell (p := ad.add i) (by rw [add_block]; exact had)).trans hx
        have hy1 := (HW.out.cell (p := bd.add i) (by rw [add_block]; exact hbd)).trans hy
        have ht1 := Rw.getD_take (ss := ss) (i := i) (by have := HN.out.1; omega)
        have ht2 := Rw.getD_take (ss := tt) (i := i) (by have := HN.out.2; omega)
        obtain ⟨x, hxx⟩ : ∃ x, ss.getD i ByteArray.empty = x := ⟨_, rfl⟩
        obtain ⟨y, hyy⟩ : ∃ y, tt.getD i ByteArray.empty = y := ⟨_, rfl⟩
        rw [hxx] at hx1 ht1
        rw [hyy] at hy1 ht2
        have HT := Lib.hid (And.intro ht1 ht2)
        clear hx hy ht1 ht2 hxx hyy
        by_cases hxy : x = y
        · subst hxy
          go_wp2
          go_quiet (fail)
          go_wp2
          exact ⟨⟨i + 1, by omega, by go_num, Lib.hid (by rw [HT.out.1, HT.out.2, HE.out]), Lib.hid (Nm.drewB HW.out _)⟩, by simp [intOf]; omega⟩
        · have hne := Rw.eqB_false hxy
          have HF : Hid (decide (ss = tt) = false) := Lib.hid (decide_eq_false (fun e => by
            have h1 := HT.out.1
            have h2 := HT.out.2
            rw [e] at h1
            rw [h1, ← e, HE.out] at h2
            exact hxy (by simpa using h2)))
          have hxy2 : ¬ x = y := hxy
          go_wp2
          go_quiet (fail)
          go_wp2
          go_ret
          exact ⟨congrArg (fun z => Ending.returned (.bool z)) HF.out.symm, Nm.drewB HW.out _⟩
      · obtain rfl : i = n := by omega
        have HF : Hid (decide (ss = tt) = true) := Lib.hid (decide_eq_true (by
          have h1 := HE.out
          rwa [List.take_of_length_le (by have := HN.out.1; omega), List.take_of_length_le (by have := HN.out.2; omega)] at h1))
        go_wp2
        go_ret
        exact ⟨congrArg (fun z => Ending.returned (.bool z)) HF.out.symm, HW.out⟩
  · have hF : decide (ss = tt) = false := decide_eq_false (fun e => hlen (by rw [e]))
    rw [hF]
    have hne : ((ss.length : Int) == (tt.length : Int)) = false := by simp; omega
    obtain ⟨n, hn⟩ : ∃ n, ss.length = n := ⟨_, rfl⟩
    obtain ⟨m, hm⟩ : ∃ m, tt.length = m := ⟨_, rfl⟩
    rw [hn] at hlen hne ⊢
    rw [hm] at hlen hne ⊢
    clear ha hb hF hn hm hl hl2
    go_enter Tryz.func72, Tryz.ntmps72
    go_wp2
    go_ret
    exact ⟨rfl, Below.refl _ _⟩
end Go.Proofs.YtkddpealobeleaaGreatDoor
