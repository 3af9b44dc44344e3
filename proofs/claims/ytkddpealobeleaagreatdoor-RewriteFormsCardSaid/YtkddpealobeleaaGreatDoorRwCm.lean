import Derived.Test.YtkddpealobeleaaGreatDoorRwI
import Derived.Laws.StructEq
/- Layer 10: the reference's Few. -/
set_option linter.unusedSimpArgs false
set_option linter.unusedVariables false
namespace Go.Proofs.YtkddpealobeleaaGreatDoor
open Go.RowKit Go.Shelf
set_option maxRecDepth 100000
set_option maxHeartbeats 4000000
def Rw.fwR (x : Rw.Rl) : Bool := decide (x.frm.size ≤ 60) && decide (x.to.size ≤ 60)
def Rw.fwD (x : Rw.Dp) : Bool := decide (x.word.size ≤ 60)
def Rw.few (t : Rw.TV) : Bool := decide (t.R.length ≤ 90 ∧ t.D.length ≤ 45 ∧ t.E.length ≤ 45) && ((t.R.take 90).all Rw.fwR && ((t.D.take 45).all Rw.fwD && (t.E.take 45).all Rw.fwD))
theorem Rw.all_take {α : Type} {p : α → Bool} {l : List α} {i : Nat} (h : i < l.length) (hp : (l.take i).all p = true) : (l.take (i + 1)).all p = p l[i] := by
  rw [List.take_succ_eq_append_getElem h, List.all_append, hp]
  simp
theorem Rw.all_not {α : Type} {p : α → Bool} {l : List α} {i n : Nat} (h : i < l.length) (hn : i < n) (hp : p l[i] = false) : (l.take n).all p = false := by
  cases hc : (l.take n).all p with
  | false => rfl
  | true =>
    have := List.all_eq_true.1 hc l[i] (by rw [List.mem_take_iff_getElem]; exact ⟨i, by omega, rfl⟩)
    rw [hp] at this
    cases this
theorem Rw.few_any (t : Rw.TV) (w : World) (h : t.In w) : Calls Tryz.prog 13 #[t.val] w fun e w' => e = .returned (.bool (Rw.few t)) ∧ Below w.heap.size w w' := by
  obtain ⟨A, a, B, b, C, c, R, D, E, d, o, i⟩ := t
  obtain ⟨hr, hd, he, gr, gd, ge, la, lb, lc, ma, mb, mc⟩ := h
  simp only at hr hd he gr gd ge la lb lc ma mb mc
  unfold Rw.TV.val Rw.few
  simp only
  obtain ⟨nR, hR⟩ : ∃ n, R.length = n := ⟨_, rfl⟩
  obtain ⟨nD, hD⟩ : ∃ n, D.length = n := ⟨_, rfl⟩
  obtain ⟨nE, hE⟩ : ∃ n, E.length = n := ⟨_, rfl⟩
  rw [hR, hD, hE]
  rw [hR] at la
  rw [hD] at lb
  rw [hE] at lc
  have HLN := Lib.hid (And.intro hR (And.intro hD hE))
  obtain ⟨res, hres⟩ : ∃ res, (decide (nR ≤ 90 ∧ nD ≤ 45 ∧ nE ≤ 45) && ((R.take 90).all Rw.fwR && ((D.take 45).all Rw.fwD && (E.take 45).all Rw.fwD))) = res := ⟨_, rfl⟩
  have HRES := Lib.hid hres.symm
  rw [hres]
  have hb := Nm.al w (.cells #[.slice A nR a, .slice B nD b, .slice C nE c, .int .i64 d, .int .i64 o, .int .i64 i] 25)
  have HR := Lib.hid (hr.bt hb)
  have HD := Lib.hid (hd.bt hb)
  have HE := Lib.hid (he.bt hb)
  have HB := Lib.hid hb
  have BX : Hid (Rw.Bx (w.alloc (.cells #[.slice A nR a, .slice B nD b, .slice C nE c, .int .i64 d, .int .i64 o, .int .i64 i] 25)) w.heap.size #[.slice A nR a, .slice B nD b, .slice C nE c, .int .i64 d, .int .i64 o, .int .i64 i] 25) := Lib.hid (Rw.box6 _ _)
  have x0 := BX.out.c 0 _ rfl
  have x1 := BX.out.c 1 _ rfl
  have x2 := BX.out.c 2 _ rfl
  clear hr hd he hR hD hE hres hb gr gd ge ma mb mc
  go_enter Tryz.func13, Tryz.ntmps13
  by_cases hnR : 90 < nR
  · have HF : Hid (res = false) := Lib.hid (by rw [HRES.out, decide_eq_false (by omega)]; rfl)
    have hnRi : (90 : Int) < (nR : Int) := by omega
    go_wp2
    go_ret
    exact ⟨congrArg (fun z => Ending.returned (.bool z)) HF.out.symm, HB.out⟩
  have hnRi : ¬ (90 : Int) < (nR : Int) := by omega
  by_cases hnD : 45 < nD
  · have HF : Hid (res = false) := Lib.hid (by rw [HRES.out, decide_eq_false (by omega)]; rfl)
    have hnDi : (45 : Int) < (nD : Int) := by omega
    go_wp2
    go_ret
    exact ⟨congrArg (fun z => Ending.returned (.bool z)) HF.out.symm, HB.out⟩
  have hnDi : ¬ (45 : Int) < (nD : Int) := by omega
  by_cases hnE : 45 < nE
  · have HF : Hid (res = false) := Lib.hid (by rw [HRES.out, decide_eq_false (by omega)]; rfl)
    have hnEi : (45 : Int) < (nE : Int) := by omega
    go_wp2
    go_ret
    exact ⟨congrArg (fun z => Ending.returned (.bool z)) HF.out.symm, HB.out⟩
  have hnEi : ¬ (45 : Int) < (nE : Int) := by omega
  have HLL : Hid (decide (nR ≤ 90 ∧ nD ≤ 45 ∧ nE ≤ 45) = true) := Lib.hid (decide_eq_true (by omega))
  rw [HLL.out, Bool.true_and] at HRES
  have HNN := Lib.hid (And.intro hnR (And.intro hnD hnE))
  clear HLL hnR hnD hnE
  go_wp2
  generalize hVV : w.alloc (.cells #[.slice A nR a, .slice B nD b, .slice C nE c, .int .i64 d, .int .i64 o, .int .i64 i] 25) = V at *
  clear hVV
  go_loop [3] (fun s3 => ∃ j : Nat, j ≤ nR ∧ s3 = .int .i64 (j : Int) ∧ Hid ((R.take j).all Rw.fwR = true)) (fun s3 => nR - (intOf s3).toNat)
  case atStart => exact ⟨0, by omega, rfl, Lib.hid rfl⟩
  case round =>
    obtain ⟨j, hj, rfl, HA⟩ := hrel
    by_cases hlt : j < nR
    · have hjR : j < R.length := by rw [HLN.out.1]; exact hlt
      obtain ⟨ad, rfl, had, c0, c1, c2, c3⟩ := HR.out.at hjR
      have hall := Rw.all_take hjR HA.out
      have hnot := fun hf => Rw.all_not (p := Rw.fwR) (n := 90) hjR (by have := HNN.out.1; omega) hf
      obtain ⟨y, hy⟩ : ∃ y, R[j] = y := ⟨_, rfl⟩
      rw [hy] at c0 c1 c2 c3 hall hnot
      have HALL := Lib.hid hall
      have HNOT := Lib.hid hnot
      clear hall hnot hy
      by_cases h1 : y.frm.size ≤ 60
      · by_cases h2 : y.to.size ≤ 60
        · have d1 : ¬ (60 : Int) < (y.frm.size : Int) := by omega
          have d2 : ¬ (60 : Int) < (y.to.size : Int) := by omega
          have HX : Hid ((R.take (j + 1)).all Rw.fwR = true) := Lib.hid (by rw [HALL.out]; unfold Rw.fwR; rw [decide_eq_true h1, decide_eq_true h2]; rfl)
          clear h1 h2 hjR
          go_wp2
          exact ⟨⟨j + 1, by omega, by go_num, HX⟩, by simp [intOf]; omega⟩
        · have d1 : ¬ (60 : Int) < (y.frm.size : Int) := by omega
          have d2 : (60 : Int) < (y.to.size : Int) := by omega
          have HF : Hid (res = false) := Lib.hid (by rw [HRES.out, HNOT.out (by unfold Rw.fwR; rw [decide_eq_false h2, Bool.and_false])]; rfl)
          clear h1 h2 hjR
          go_wp2
          go_ret
          exact ⟨congrArg (fun z => Ending.returned (.bool z)) HF.out.symm, HB.out⟩
      · have d1 : (60 : Int) < (y.frm.size : Int) := by omega
        have HF : Hid (res = false) := Lib.hid (by rw [HRES.out, HNOT.out (by unfold Rw.fwR; rw [decide_eq_false h1, Bool.false_and])]; rfl)
        clear h1 hjR
        go_wp2
        go_ret
        exact ⟨congrArg (fun z => Ending.returned (.bool z)) HF.out.symm, HB.out⟩
    · obtain rfl : j = nR := by omega
      have HR1 : Hid ((R.take 90).all Rw.fwR = true) := Lib.hid (by
        have := HA.out
        rw [List.take_of_length_le (by rw [HLN.out.1]; exact Nat.le_refl _)] at this
        rw [List.take_of_length_le (by rw [HLN.out.1]; have := HNN.out.1; omega)]
        exact this)
      rw [HR1.out, Bool.true_and] at HRES
      go_wp2
      go_loop [4] (fun s3 => ∃ i : Nat, i ≤ nD ∧ s3 = .int .i64 (i : Int) ∧ Hid ((D.take i).all Rw.fwD = true)) (fun s3 => nD - (intOf s3).toNat)
      case atStart => exact ⟨0, by omega, rfl, Lib.hid rfl⟩
      case round =>
        obtain ⟨i, hi, rfl, HA⟩ := hrel
        by_cases hlt : i < nD
        · have hjR : i < D.length := by rw [HLN.out.2.1]; exact hlt
          obtain ⟨ad, rfl, had, c0, c1, c2⟩ := HD.out.at hjR
          have hall := Rw.all_take hjR HA.out
          have hnot := fun hf => Rw.all_not (p := Rw.fwD) (n := 45) hjR (by have := HNN.out.2.1; omega) hf
          obtain ⟨y, hy⟩ : ∃ y, D[i] = y := ⟨_, rfl⟩
          rw [hy] at c0 c1 c2 hall hnot
          have HALL := Lib.hid hall
          have HNOT := Lib.hid hnot
          clear hall hnot hy
          by_cases h1 : y.word.size ≤ 60
          · have d1 : ¬ (60 : Int) < (y.word.size : Int) := by omega
            have HX : Hid ((D.take (i + 1)).all Rw.fwD = true) := Lib.hid (by rw [HALL.out]; unfold Rw.fwD; rw [decide_eq_true h1])
            clear h1 hjR
            go_wp2
            exact ⟨⟨i + 1, by omega, by go_num, HX⟩, by simp [intOf]; omega⟩
          · have d1 : (60 : Int) < (y.word.size : Int) := by omega
            have HF : Hid (res = false) := Lib.hid (by rw [HRES.out, HNOT.out (by unfold Rw.fwD; rw [decide_eq_false h1])]; rfl)
            clear h1 hjR
            go_wp2
            go_ret
            exact ⟨congrArg (fun z => Ending.returned (.bool z)) HF.out.symm, HB.out⟩
        · obtain rfl : i = nD := by omega
          have HR2 : Hid ((D.take 45).all Rw.fwD = true) := Lib.hid (by
            have := HA.out
            rw [List.take_of_length_le (by rw [HLN.out.2.1]; exact Nat.le_refl _)] at this
            rw [List.take_of_length_le (by rw [HLN.out.2.1]; have := HNN.out.2.1; omega)]
            exact this)
          rw [HR2.out, Bool.true_and] at HRES
          go_wp2
          go_loop [5] (fun s3 => ∃ k : Nat, k ≤ nE ∧ s3 = .int .i64 (k : Int) ∧ Hid ((E.take k).all Rw.fwD = true)) (fun s3 => nE - (intOf s3).toNat)
          case atStart => exact ⟨0, by omega, rfl, Lib.hid rfl⟩
          case round =>
            obtain ⟨k, hk, rfl, HA⟩ := hrel
            by_cases hlt : k < nE
            · have hjR : k < E.length := by rw [HLN.out.2.2]; exact hlt
              obtain ⟨ad, rfl, had, c0, c1, c2⟩ := HE.out.at hjR
              have hall := Rw.all_take hjR HA.out
              have hnot := fun hf => Rw.all_not (p := Rw.fwD) (n := 45) hjR (by have := HNN.out.2.2; omega) hf
              obtain ⟨y, hy⟩ : ∃ y, E[k] = y := ⟨_, rfl⟩
              rw [hy] at c0 c1 c2 hall hnot
              have HALL := Lib.hid hall
              have HNOT := Lib.hid hnot
              clear hall hnot hy
              by_cases h1 : y.word.size ≤ 60
              · have d1 : ¬ (60 : Int) < (y.word.size : Int) := by omega
                have HX : Hid ((E.take (k + 1)).all Rw.fwD = true) := Lib.hid (by rw [HALL.out]; unfold Rw.fwD; rw [decide_eq_true h1])
                clear h1 hjR
                go_wp2
                exact ⟨⟨k + 1, by omega, by go_num, HX⟩, by simp [intOf]; omega⟩
              · have d1 : (60 : Int) < (y.word.size : Int) := by omega
                have HF : Hid (res = false) := Lib.hid (by rw [HRES.out, HNOT.out (by unfold Rw.fwD; rw [decide_eq_false h1])])
                clear h1 hjR
                go_wp2
                go_ret
                exact ⟨congrArg (fun z => Ending.returned (.bool z)) HF.out.symm, HB.out⟩
            · obtain rfl : k = nE := by omega
              have HR3 : Hid (res = true) := Lib.hid (by
                rw [HRES.out]
                have := HA.out
                rw [List.take_of_length_le (by rw [HLN.out.2.2]; exact Nat.le_refl _)] at this
                rw [List.take_of_length_le (by rw [HLN.out.2.2]; have := HNN.out.2.2; omega)]
                exact this)
              go_wp2
              go_ret
              exact ⟨congrArg (fun z => Ending.returned (.bool z)) HR3.out.symm, HB.out⟩
end Go.Proofs.YtkddpealobeleaaGreatDoor

/- Layer 10: the reference's comparisons of forms and of variants. -/
set_option linter.unusedSimpArgs false
set_option linter.unusedVariables false
namespace Go.Proofs.YtkddpealobeleaaGreatDoor
open Go.RowKit Go.Shelf
set_option maxRecDepth 100000
set_option maxHeartbeats 4000000
theorem Rw.getD_takeS {ss : List ByteArray} {i : Nat} (h : i < ss.length) : ss.take (i + 1) = ss.take i ++ [ss.getD i ByteArray.empty] := by
  rw [List.take_add_one, List.getElem?_eq_getElem h, List.getD_eq_getElem?_getD, List.getElem?_eq_getElem h]
  rfl
/-- The slice at A holds these numbers; its cells lie below block B. -/
def Rw.Zs (w : World) (B : Nat) (A : Option Addr) (l : List Int) : Prop := ∀ k (h : k < l.length), ∃ ad, A = some ad ∧ ad.block < B ∧ w.cell? (ad.add k) = some (.int .i64 l[k])
theorem Rw.Zs.bt {w w' : World} {A : Option Addr} {l : List Int} (h : Rw.Zs w w.heap.size A l) (hb : Below w.heap.size w w') : Rw.Zs w' w'.heap.size A l := fun k hk => by
  obtain ⟨ad, e, hlt, hc⟩ := h k hk
  exact ⟨ad, e, Nat.lt_of_lt_of_le hlt hb.size, (hb.cell (by rw [add_block]; exact hlt)).trans hc⟩
theorem Rw.Zs.of {w : World} {g : Nat} {T : TypeId} {l : List Int} (h : w.heap[g]? = some (.cells (l.map fun x => Value.int .i64 x).toArray T (0, 0))) : Rw.Zs w w.heap.size (some ⟨g, 0, none⟩) l := fun k hk => by
  refine ⟨_, rfl, (Array.getElem?_eq_some_iff.1 h).1, ?_⟩
  have h2 : (⟨g, 0, none⟩ : Addr).add k = ⟨g, k, none⟩ := by unfold Addr.add; split <;> simp_all
  rw [h2]
  simp [World.cell?, h, hk]
theorem Rw.take_ext {α : Type} {l : List α} {i : Nat} (h : i < l.length) : l.take (i + 1) = l.take i ++ [l[i]] := by
  rw [List.take_add_one, List.getElem?_eq_getElem h]
  rfl
def Rw.sameF (ss : List ByteArray) (ms : List Int) (ts : List ByteArray) (ns : List Int) : Bool := decide (ss = ts ∧ ms = ns ∧ ms.length = ss.length)
theorem Rw.sameForms_any (A : Option Addr) (c : Nat) (ss : List ByteArray) (M : Option Addr) (cm : Nat) (ms : List Int) (B : Option Addr) (d : Nat) (ts : List ByteArray) (N : Option Addr) (cn : Nat) (ns : List Int)
    (n1 n2 n3 n4 : Nat) (h1 : ss.length = n1) (h2 : ms.length = n2) (h3 : ts.length = n3) (h4 : ns.length = n4) (w : World) (ha : Strs w w.heap.size A ss) (hm : Rw.Zs w w.heap.size M ms) (hb : Strs w w.heap.size B ts) (hn : Rw.Zs w w.heap.size N ns) (hl : n1 ≤ 1000000) :
    Calls Tryz.prog 22 #[.slice A n1 c, .slice M n2 cm, .slice B n3 d, .slice N n4 cn] w fun e w' => e = .returned (.bool (Rw.sameF ss ms ts ns)) ∧ Below w.heap.size w w' := by
  by_cases e1 : n1 = n3
  · by_cases e2 : n2 = n1
    · by_cases e3 : n4 = n3
      · subst e3
        subst e1
        subst e2
        have HA := Lib.hid ha
        have HM := Lib.hid hm
        have HB := Lib.hid hb
        have HK := Lib.hid hn
        have HN := Lib.hid (And.intro h1 (And.intro h2 (And.intro h3 h4)))
        clear ha hm hb hn h1 h2 h3 h4
        go_enter Tryz.func22, Tryz.ntmps22
        go_wp2
        go_loopw [9] (fun s5 wr => ∃ i : Nat, i ≤ n2 ∧ s5 = .int .i64 (i : Int) ∧ Hid (ss.take i = ts.take i ∧ ms.take i = ns.take i) ∧ Hid (Below w.heap.size w wr)) (fun s5 _ => n2 - (intOf s5).toNat)
        case atStart => exact ⟨0, by omega, rfl, Lib.hid ⟨rfl, rfl⟩, Lib.hid (Below.refl _ _)⟩
        case round =>
          obtain ⟨i, hi, rfl, HE, HW⟩ := hrel
          by_cases hlt : i < n2
          · obtain ⟨ad, rfl, had, hx⟩ := HA.out i (by have := HN.out.1; omega)
            obtain ⟨bd, rfl, hbd, hy⟩ := HB.out i (by have := HN.out.2.2.1; omega)
            have hi1 : i < ms.length := by have := HN.out.2.1; omega
            have hi2 : i < ns.length := by have := HN.out.2.2.2; omega
            obtain ⟨md, rfl, hmd, hp⟩ := HM.out i hi1
            obtain ⟨nd, rfl, hnd, hq⟩ := HK.out i hi2
            have hx1 := (HW.out.cell (p := ad.add i) (by rw [add_block]; exact had)).trans hx
            have hy1 := (HW.out.cell (p := bd.add i) (by rw [add_block]; exact hbd)).trans hy
            have hp1 := (HW.out.cell (p := md.add i) (by rw [add_block]; exact hmd)).trans hp
            have hq1 := (HW.out.cell (p := nd.add i) (by rw [add_block]; exact hnd)).trans hq
            have ht1 := Rw.getD_takeS (ss := ss) (i := i) (by have := HN.out.1; omega)
            have ht2 := Rw.getD_takeS (ss := ts) (i := i) (by have := HN.out.2.2.1; omega)
            have ht3 := Rw.take_ext hi1
            have ht4 := Rw.take_ext hi2
            obtain ⟨x, hxx⟩ : ∃ x, ss.getD i ByteArray.empty = x := ⟨_, rfl⟩
            obtain ⟨y, hyy⟩ : ∃ y, ts.getD i ByteArray.empty = y := ⟨_, rfl⟩
            obtain ⟨p, hpp⟩ : ∃ p, ms[i] = p := ⟨_, rfl⟩
            obtain ⟨q, hqq⟩ : ∃ q, ns[i] = q := ⟨_, rfl⟩
            rw [hxx] at hx1 ht1
            rw [hyy] at hy1 ht2
            rw [hpp] at hp1 ht3
            rw [hqq] at hq1 ht4
            have HT := Lib.hid (And.intro (And.intro ht1 ht2) (And.intro ht3 ht4))
            clear hx hy hp hq ht1 ht2 ht3 ht4 hxx hyy hpp hqq hi1 hi2
            by_cases hxy : x = y
            · by_cases hpq : p = q
              · subst hxy
                subst hpq
                go_wp2
                go_quiet (fail)
                go_wp2
                exact ⟨⟨i + 1, by omega, by go_num, Lib.hid ⟨by rw [HT.out.1.1, HT.out.1.2, HE.out.1], by rw [HT.out.2.1, HT.out.2.2, HE.out.2]⟩, Lib.hid (Nm.drewB HW.out _)⟩, by simp [intOf]; omega⟩
              · subst hxy
                have hpq2 : (p != q) = true := by simpa using hpq
                have HF : Hid (Rw.sameF ss ms ts ns = false) := Lib.hid (decide_eq_false (fun e => by
                  have h1 := HT.out.2.1
                  have h2 := HT.out.2.2
                  rw [e.2.1] at h1
                  rw [h1, ← e.2.1, HE.out.2] at h2
                  exact hpq (by simpa using h2)))
                go_wp2
                go_quiet (fail)
                go_wp2
                go_ret
                exact ⟨congrArg (fun z => Ending.returned (.bool z)) HF.out.symm, Nm.drewB HW.out _⟩
            · have hne := Rw.bytes_ne hxy
              have HF : Hid (Rw.sameF ss ms ts ns = false) := Lib.hid (decide_eq_false (fun e => by
                have h1 := HT.out.1.1
                have h2 := HT.out.1.2
                rw [e.1] at h1
                rw [h1, ← e.1, HE.out.1] at h2
                exact hxy (by simpa using h2)))
              have hxy2 : ¬ x = y := hxy
              go_wp2
              go_quiet (fail)
              go_wp2
              go_ret
              exact ⟨congrArg (fun z => Ending.returned (.bool z)) HF.out.symm, Nm.drewB HW.out _⟩
          · obtain rfl : i = n2 := by omega
            have HF : Hid (Rw.sameF ss ms ts ns = true) := Lib.hid (decide_eq_true (by
              obtain ⟨h1, h2⟩ := HE.out
              obtain ⟨l1, l2, l3, l4⟩ := HN.out
              rw [List.take_of_length_le (by omega), List.take_of_length_le (by omega)] at h1 h2
              exact ⟨h1, h2, by omega⟩))
            go_wp2
            go_ret
            exact ⟨congrArg (fun z => Ending.returned (.bool z)) HF.out.symm, HW.out⟩
      · have hF : Rw.sameF ss ms ts ns = false := decide_eq_false (fun e => e3 (by rw [← h4, ← h3, ← e.1, ← e.2.1]; exact e.2.2))
        rw [hF]
        subst e1
        subst e2
        have hne : ((n4 : Int) == (n2 : Int)) = false := by simp; omega
        have hne1 : ((n4 : Int) != (n2 : Int)) = true := by simp; omega
        have hne2 : ¬ (n4 : Int) = (n2 : Int) := by omega
        clear ha hm hb hn h1 h2 h3 h4 hF e3
        go_enter Tryz.func22, Tryz.ntmps22
        go_wp2
        go_ret
        exact ⟨rfl, Below.refl _ _⟩
    · have hF : Rw.sameF ss ms ts ns = false := decide_eq_false (fun e => e2 (by rw [← h2, ← h1]; exact e.2.2))
      rw [hF]
      subst e1
      have hne : ((n2 : Int) == (n1 : Int)) = false := by simp; omega
      have hne1 : ((n2 : Int) != (n1 : Int)) = true := by simp; omega
      have hne2 : ¬ (n2 : Int) = (n1 : Int) := by omega
      clear ha hm hb hn h1 h2 h3 h4 hF e2
      go_enter Tryz.func22, Tryz.ntmps22
      go_wp2
      go_ret
      exact ⟨rfl, Below.refl _ _⟩
  · have hF : Rw.sameF ss ms ts ns = false := decide_eq_false (fun e => e1 (by rw [← h1, ← h3, e.1]))
    rw [hF]
    have hne : ((n1 : Int) == (n3 : Int)) = false := by simp; omega
    have hne1 : ((n1 : Int) != (n3 : Int)) = true := by simp; omega
    have hne2 : ¬ (n1 : Int) = (n3 : Int) := by omega
    clear ha hm hb hn h1 h2 h3 h4 hF e1
    go_enter Tryz.func22, Tryz.ntmps22
    go_wp2
    go_ret
    exact ⟨rfl, Below.refl _ _⟩
end Go.Proofs.YtkddpealobeleaaGreatDoor

/- Layer 10: the reference's comparison of variants. -/
set_option linter.unusedSimpArgs false
set_option linter.unusedVariables false
namespace Go.Proofs.YtkddpealobeleaaGreatDoor
open Go.RowKit Go.Shelf
set_option maxRecDepth 100000
set_option maxHeartbeats 4000000
/-- The slice at A holds these variants; its cells lie below block B. -/
def Rw.Vs (w : World) (B : Nat) (A : Option Addr) (l : List Rw.Vr) : Prop := ∀ k (h : k < l.length), ∃ ad, A = some ad ∧ ad.block < B ∧
  w.cell? (ad.add (k * 3)) = some (.string l[k].word) ∧ w.cell? ((ad.add (k * 3)).add 1) = some (.int .i64 l[k].e) ∧ w.cell? ((ad.add (k * 3)).add 2) = some (.int .i64 l[k].cost)
theorem Rw.Vs.below {w w' : World} {B B' : Nat} {A : Option Addr} {l : List Rw.Vr} (h : Rw.Vs w B A l) (hb : Below B' w w') (hB : B ≤ B') : Rw.Vs w' B A l := fun k hk => by
  obtain ⟨ad, rfl, hlt, h0, h1, h2⟩ := h k hk
  exact ⟨ad, rfl, hlt, (hb.cell (by rw [Rw.add_block]; omega)).trans h0, (hb.cell (by rw [Rw.add_block, Rw.add_block]; omega)).trans h1, (hb.cell (by rw [Rw.add_block, Rw.add_block]; omega)).trans h2⟩
theorem Rw.Vs.bt {w w' : World} {A : Option Addr} {l : List Rw.Vr} (h : Rw.Vs w w.heap.size A l) (hb : Below w.heap.size w w') : Rw.Vs w' w'.heap.size A l := fun k hk => by
  obtain ⟨ad, e, hlt, hc⟩ := (h.below hb (Nat.le_refl _)) k hk
  exact ⟨ad, e, Nat.lt_of_lt_of_le hlt hb.size, hc⟩
theorem Rw.Vs.at {w : World} {B : Nat} {A : Option Addr} {l : List Rw.Vr} (h : Rw.Vs w B A l) {k : Nat} (hk : k < l.length) : ∃ ad, A = some ad ∧ ad.block < B ∧
    w.cell? (ad.add (k * 3)) = some (.string l[k].word) ∧ w.cell? { block := (ad.add (k * 3)).block, off := (ad.add (k * 3)).off + 1 } = some (.int .i64 l[k].e) ∧ w.cell? { block := (ad.add (k * 3)).block, off := (ad.add (k * 3)).off + 2 } = some (.int .i64 l[k].cost) := by
  obtain ⟨ad, e, hlt, h0, h1, h2⟩ := h k hk
  exact ⟨ad, e, hlt, h0, h1, h2⟩
/-- An own list of variants is one that can be read. -/
theorem Rw.OwnK.vs {w : World} {B : Nat} {v : Value} {l : List Rw.Vr} (h : Rw.OwnK Rw.KV w B v l) : ∃ A c, v = .slice A l.length c ∧ Rw.Vs w w.heap.size A l ∧ l.length ≤ c ∧ c ≤ maxLen := by
  obtain ⟨A, c, rfl, hr, h1, h2⟩ := h.form Rw.okV
  refine ⟨A, c, rfl, fun k hk => ?_, h1, h2⟩
  obtain ⟨g, rfl, hg, hc⟩ := hr.get k hk
  have e : ∀ j, (⟨g, 0, none⟩ : Addr).add j = ⟨g, j, none⟩ := fun j => by unfold Addr.add; split <;> simp_all
  have e2 : ∀ i j, (⟨g, i, none⟩ : Addr).add j = ⟨g, i + j, none⟩ := fun i j => by unfold Addr.add; split <;> simp_all
  refine ⟨⟨g, 0, none⟩, rfl, hg, ?_, ?_, ?_⟩
  · have := hc 0 (by decide)
    rw [show k * Rw.KV.m + 0 = k * 3 from rfl] at this
    rw [e, this]; rfl
  · have := hc 1 (by decide)
    rw [e, e2, show k * 3 + 1 = k * Rw.KV.m + 1 from rfl, this]; rfl
  · have := hc 2 (by decide)
    rw [e, e2, show k * 3 + 2 = k * Rw.KV.m + 2 from rfl, this]; rfl
instance : DecidableEq Rw.Vr := fun x y => decidable_of_iff (x.word = y.word ∧ x.e = y.e ∧ x.cost = y.cost) (by cases x; cases y; simp)
theorem Rw.sameVars_any (A : Option Addr) (c : Nat) (ss : List Rw.Vr) (B : Option Addr) (d : Nat) (ts : List Rw.Vr) (n1 n2 : Nat) (h1 : ss.length = n1) (h2 : ts.length = n2) (w : World) (ha : Rw.Vs w w.heap.size A ss) (hb : Rw.Vs w w.heap.size B ts) (hl : n1 ≤ 1000000) :
    Calls Tryz.prog 23 #[.slice A n1 c, .slice B n2 d] w fun e w' => e = .returned (.bool (decide (ss = ts))) ∧ Below w.heap.size w w' := by
  by_cases e1 : n1 = n2
  · subst e1
    have HA := Lib.hid ha
    have HB := Lib.hid hb
    have HN := Lib.hid (And.intro h1 h2)
    clear ha hb h1 h2
    go_enter Tryz.func23, Tryz.ntmps23
    go_wp2
    go_loopw [5] (fun s5 wr => ∃ i : Nat, i ≤ n1 ∧ s5 = .int .i64 (i : Int) ∧ Hid (ss.take i = ts.take i) ∧ Hid (Below w.heap.size w wr)) (fun s5 _ => n1 - (intOf s5).toNat)
    case atStart => exact ⟨0, by omega, rfl, Lib.hid rfl, Lib.hid (Below.refl _ _)⟩
    case round =>
      obtain ⟨i, hi, rfl, HE, HW⟩ := hrel
      by_cases hlt : i < n1
      · have hi1 : i < ss.length := by have := HN.out.1; omega
        have hi2 : i < ts.length := by have := HN.out.2; omega
        obtain ⟨ad, rfl, had, x0, x1, x2⟩ := (HA.out.bt HW.out).at hi1
        obtain ⟨bd, rfl, hbd, y0, y1, y2⟩ := (HB.out.bt HW.out).at hi2
        have ht1 := Rw.take_ext hi1
        have ht2 := Rw.take_ext hi2
        obtain ⟨x, hxx⟩ : ∃ x, ss[i] = x := ⟨_, rfl⟩
        obtain ⟨y, hyy⟩ : ∃ y, ts[i] = y := ⟨_, rfl⟩
        rw [hxx] at x0 x1 x2 ht1
        rw [hyy] at y0 y1 y2 ht2
        have HT := Lib.hid (And.intro ht1 ht2)
        clear ht1 ht2 hxx hyy hi1 hi2
        by_cases hxy : x = y
        · subst hxy
          go_wp2
          go_quiet (fail)
          go_wp2
          exact ⟨⟨i + 1, by omega, by go_num, Lib.hid (by rw [HT.out.1, HT.out.2, HE.out]), Lib.hid (Nm.drewB HW.out _)⟩, by simp [intOf]; omega⟩
        · have HF : Hid (decide (ss = ts) = false) := Lib.hid (decide_eq_false (fun e => by
            have h1 := HT.out.1
            have h2 := HT.out.2
            rw [e] at h1
            rw [h1, ← e, HE.out] at h2
            exact hxy (by simpa using h2)))
          obtain ⟨p, q, r⟩ := x
          obtain ⟨p', q', r'⟩ := y
          simp only at x0 x1 x2 y0 y1 y2
          by_cases c1 : p = p'
          · subst c1
            by_cases c2 : q = q'
            · subst c2
              have c3 : (r == r') = false := by
                rw [beq_eq_false_iff_ne]
                intro e
                exact hxy (by rw [e])
              go_wp2
              go_quiet (fail)
              go_wp2
              go_ret
              exact ⟨congrArg (fun z => Ending.returned (.bool z)) HF.out.symm, Nm.drewB HW.out _⟩
            · have c3 : (q == q') = false := by simpa using c2
              go_wp2
              go_quiet (fail)
              go_wp2
              go_ret
              exact ⟨congrArg (fun z => Ending.returned (.bool z)) HF.out.symm, Nm.drewB HW.out _⟩
          · have c3 := Rw.bytes_ne c1
            go_wp2
            go_quiet (fail)
            go_wp2
            go_ret
            exact ⟨congrArg (fun z => Ending.returned (.bool z)) HF.out.symm, Nm.drewB HW.out _⟩
      · obtain rfl : i = n1 := by omega
        have HF : Hid (decide (ss = ts) = true) := Lib.hid (decide_eq_true (by
          have h1 := HE.out
          obtain ⟨l1, l2⟩ := HN.out
          rwa [List.take_of_length_le (by omega), List.take_of_length_le (by omega)] at h1))
        go_wp2
        go_ret
        exact ⟨congrArg (fun z => Ending.returned (.bool z)) HF.out.symm, HW.out⟩
  · have hF : decide (ss = ts) = false := decide_eq_false (fun e => e1 (by rw [← h1, ← h2, e]))
    rw [hF]
    have hne : ((n1 : Int) == (n2 : Int)) = false := by simp; omega
    have hne1 : ((n1 : Int) != (n2 : Int)) = true := by simp; omega
    have hne2 : ¬ (n1 : Int) = (n2 : Int) := by omega
    clear ha hb h1 h2 hF e1
    go_enter Tryz.func23, Tryz.ntmps23
    go_wp2
    go_ret
    exact ⟨rfl, Below.refl _ _⟩
end Go.Proofs.YtkddpealobeleaaGreatDoor
