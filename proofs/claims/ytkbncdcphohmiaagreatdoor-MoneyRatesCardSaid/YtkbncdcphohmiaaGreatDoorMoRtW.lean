/- MoneyRates. -/
import Derived.Test.YtkbncdcphohmiaaGreatDoorMoOw
set_option linter.unusedSimpArgs false
set_option linter.unusedVariables false
namespace Go.Proofs.YtkbncdcphohmiaaGreatDoor
open Go.RowKit
set_option maxRecDepth 100000

theorem Mo.rt_long (A : Option Addr) (n cp : Nat) (base c : ByteArray) (day : Int) (w : World) (H : Hid (Calls Tryz.prog 10 #[] w fun e w' => e = .returned (.bool true) ∧ Below w.heap.size w w')) (h : (20 : Int) < (n : Int)) :
    Calls Tryz.prog 6 #[.slice A n cp, .string base, .string c, .int .i64 day] w fun e w' => e = .returned (.bool true) ∧ Below w.heap.size w w' := by
  go_enter Tryz.func6, Tryz.ntmps6
  go_wp2_with fail
  refine H.out.mono ?_
  rintro e w1 ⟨rfl, hb⟩
  go_wp2_with fail
  go_ret
  exact ⟨rfl, hb⟩
def Mo.early (day : Int) (l : List Mo.Rt) : List Mo.Rt := l.filter fun x => decide (x.day ≤ day)
theorem Mo.drop_back (l : List Mo.Rt) (j : Nat) (hj : j < l.length) : (l.drop j).reverse = (l.drop (j + 1)).reverse ++ [l[j]] := by
  rw [← List.reverse_cons, List.drop_eq_getElem_cons hj]
theorem Mo.early_yes (day : Int) (l : List Mo.Rt) (x : Mo.Rt) (h : x.day ≤ day) : Mo.early day (l ++ [x]) = Mo.early day l ++ [x] := by
  unfold Mo.early
  rw [List.filter_append]
  simp [h]
theorem Mo.early_no (day : Int) (l : List Mo.Rt) (x : Mo.Rt) (h : ¬ x.day ≤ day) : Mo.early day (l ++ [x]) = Mo.early day l := by
  unfold Mo.early
  rw [List.filter_append]
  simp [h]
theorem Mo.early_len (day : Int) (l : List Mo.Rt) : (Mo.early day l).length ≤ l.length := List.length_filter_le _ _

set_option maxHeartbeats 8000000 in
theorem Mo.rt_walk (A : Option Addr) (cp : Nat) (l : List Mo.Rt) (base c : ByteArray) (day : Int) (w : World) (H : Hid (Calls Tryz.prog 10 #[] w fun e w' => e = .returned (.bool true) ∧ Below w.heap.size w w')) (hn : ¬ (20 : Int) < (l.length : Int)) (hl : Mo.Rts w w.heap.size A l) (hg : Mo.AllGood l) (hbs : base.size ≤ maxLen) (hcs : c.size ≤ maxLen) :
    Calls Tryz.prog 6 #[.slice A l.length cp, .string base, .string c, .int .i64 day] w fun e w' => e = .returned (.bool true) ∧ Below w.heap.size w w' := by
  have HL : Hid (∀ v, Below w.heap.size w v → Mo.Rts v v.heap.size A l) := Lib.hid (fun v h => hl.bt h)
  have hn20 : l.length ≤ 20 := by omega
  have CF : Hid (∀ (A' : Option Addr) (c' : Nat) (m : List Mo.Rt), m.length ≤ 20 → Mo.AllGood m → ∀ v, Mo.Rts v v.heap.size A' m → Calls Tryz.prog 11 #[.slice A' m.length c', .string base, .string c, .int .i64 day] v fun e w' => e = Mo.ret (Mo.find m base c day) ∧ Below v.heap.size v w') :=
    Lib.hid (fun A' c' m h1 h2 v h3 => Mo.Find_any A' c' m base c day v h3 h2 hbs hcs (by unfold maxLen; omega))
  have CVa : Hid (∀ v, Below w.heap.size w v → Calls Tryz.prog 19 #[.slice A l.length cp, .string base] v fun e w' => e = .returned (.bool (Mo.valid l base)) ∧ Below v.heap.size v w') :=
    Lib.hid (fun v h => Mo.valid_any A cp l base v (hl.bt h) hg hbs (by unfold maxLen; omega))
  have HG := Lib.hid hg
  obtain ⟨n, hn1⟩ : ∃ n, n = l.length := ⟨_, rfl⟩
  have HN := Lib.hid hn1
  rw [← hn1] at hn hn20 CVa ⊢
  clear hl hg hn1
  go_enter Tryz.func6, Tryz.ntmps6
  go_wp2_with fail
  refine H.out.mono ?_
  rintro e w1 ⟨rfl, hb⟩
  have HB1 := Lib.hid hb
  clear hb H
  go_wp2_with fail
  go_loopw [10, 11, 12] (fun a b i wr => ∃ (m : Nat) (va vb : Value), va = a ∧ vb = b ∧ m ≤ n ∧ i = .int .i64 ((m : Int) - 1) ∧ Hid (Mo.Two wr w.heap.size va (l.drop m).reverse vb (Mo.early day (l.drop m).reverse)) ∧ Hid (Below w.heap.size w wr)) (fun _ _ i _ => (intOf i + 1).toNat)
  case atStart =>
    refine ⟨n, _, _, rfl, rfl, Nat.le_refl _, rfl, Lib.hid ?_, HB1⟩
    rw [HN.out, List.drop_length]
    exact ⟨Mo.CoR.nil _ _, Mo.CoR.nil _ _, Mo.Dj.nil _⟩
  case round =>
    obtain ⟨m, va, vb, rfl, rfl, hm, rfl, HT, HB⟩ := hrel
    by_cases h0 : 0 < m
    · obtain ⟨j, rfl⟩ : ∃ j, m = j + 1 := ⟨m - 1, by omega⟩
      have hj : ((j + 1 : Nat) : Int) - 1 = (j : Int) := by omega
      rw [hj]
      have hjl : j < l.length := by have := HN.out; omega
      have hjn : (j : Int) < (n : Int) := by omega
      obtain ⟨ad, rfl, x0, x1, x2, x3⟩ := (HL.out _ HB.out).at hjl
      have HDB : Hid ((l.drop j).reverse = (l.drop (j + 1)).reverse ++ [l[j]]) := Lib.hid (Mo.drop_back l j hjl)
      have HLB : (l.drop (j + 1)).reverse.length ≤ 1000000 := by rw [List.length_reverse, List.length_drop]; have := HN.out; omega
      have HLE : (Mo.early day (l.drop (j + 1)).reverse).length ≤ 1000000 := Nat.le_trans (Mo.early_len _ _) HLB
      have HX1 : Hid (∀ v, Below w.heap.size w v → ∃ ad', some ad = some ad' ∧ v.cell? (ad'.add (j * 4)) = some (.string (l[j]).cur) ∧ v.cell? { block := (ad'.add (j * 4)).block, off := (ad'.add (j * 4)).off + 1 } = some (.int .i64 (l[j]).day) ∧ v.cell? { block := (ad'.add (j * 4)).block, off := (ad'.add (j * 4)).off + 2 } = some (.int .i64 (l[j]).num) ∧ v.cell? { block := (ad'.add (j * 4)).block, off := (ad'.add (j * 4)).off + 3 } = some (.int .i64 (l[j]).den)) := Lib.hid (fun v h => (HL.out v h).at hjl)
      generalize l[j] = x at *
      clear hj h0
      go_wp2_with (first
        | (refine Mo.list_appendR rfl _ _ rfl w.heap.size va vb _ _ rfl (HT.out.bt (Mo.al _ _)) _ rfl x 27 (heap_alloc_new _ _) HLB (Nat.le_trans HB.out.size (by simp)) ?_))
      intro va' w2 hT2 hb2
      have HB2 : Hid (Below w.heap.size w w2) := Lib.hid ((Mo.Nb HB.out (Mo.al _ _)).trans hb2)
      have HT2 := Lib.hid hT2
      clear HT HB hT2 hb2 x0 x1 x2 x3
      obtain ⟨ad', e', x0, x1, x2, x3⟩ := HX1.out w2 HB2.out
      cases e'
      by_cases hd : x.day ≤ day
      · have HEY : Hid (Mo.early day ((l.drop (j + 1)).reverse ++ [x]) = Mo.early day (l.drop (j + 1)).reverse ++ [x]) := Lib.hid (Mo.early_yes day _ x hd)
        go_wp2_with (first
          | (refine Mo.list_appendR rfl _ _ rfl w.heap.size vb va' _ _ rfl (HT2.out.swap.bt (Mo.al _ _)) _ rfl x 27 (heap_alloc_new _ _) HLE (Nat.le_trans HB2.out.size (by simp)) ?_))
        intro vb' w3 hT3 hb3
        have HB3 : Hid (Below w.heap.size w w3) := Lib.hid ((Mo.Nb HB2.out (Mo.al _ _)).trans hb3)
        have HT3 : Hid (Mo.Two w3 w.heap.size va' (l.drop j).reverse vb' (Mo.early day (l.drop j).reverse)) := Lib.hid (by
          rw [HDB.out, HEY.out]
          exact hT3.swap)
        clear HT2 HB2 hT3 hb3 x0 x1 x2 x3 HX1 HDB HEY
        go_wp2_with fail
        exact ⟨⟨j, _, _, rfl, rfl, by omega, by go_num, HT3, HB3⟩, by simp [intOf]⟩
      · have HEY : Hid (Mo.early day ((l.drop (j + 1)).reverse ++ [x]) = Mo.early day (l.drop (j + 1)).reverse) := Lib.hid (Mo.early_no day _ x hd)
        have HT3 : Hid (Mo.Two w2 w.heap.size va' (l.drop j).reverse vb (Mo.early day (l.drop j).reverse)) := Lib.hid (by
          rw [HDB.out, HEY.out]
          exact HT2.out)
        clear HT2 HX1 HDB HEY
        go_wp2_with fail
        exact ⟨⟨j, _, _, rfl, rfl, by omega, by go_num, HT3, HB2⟩, by simp [intOf]⟩
    · have h0 : m = 0 := by omega
      subst h0
      have HE0 : Hid (((0 : Nat) : Int) - 1 = -1) := Lib.hid rfl
      rw [List.drop_zero] at HT
      have HTI : Hid (Mo.Two wr w.heap.size va l.reverse vb (Mo.early day l.reverse)) := HT
      have g1 : Mo.AllGood l.reverse := fun x hx => HG.out x (List.mem_reverse.1 hx)
      have g2 : Mo.AllGood (Mo.early day l.reverse) := fun x hx => g1 x ((List.mem_filter.1 hx).1)
      have l1 : l.reverse.length ≤ 20 := by rw [List.length_reverse]; have := HN.out; omega
      have l2 : (Mo.early day l.reverse).length ≤ 20 := Nat.le_trans (Mo.early_len _ _) l1
      obtain ⟨A1, c1, hv1, R1⟩ := HTI.out.oa.form
      obtain ⟨A2, c2, hv2, R2⟩ := HTI.out.ob.form
      subst hv1 hv2
      have F1 : Hid (∀ v, Below w.heap.size w v → Calls Tryz.prog 11 #[.slice A n cp, .string base, .string c, .int .i64 day] v fun e w' => e = Mo.ret (Mo.find l base c day) ∧ Below v.heap.size v w') := Lib.hid (fun v h => by
        rw [HN.out]
        exact CF.out A cp l (by have := HN.out; omega) HG.out v (HL.out v h))
      have F2 : Hid (∀ v, Below wr.heap.size wr v → Calls Tryz.prog 11 #[.slice A1 l.reverse.length c1, .string base, .string c, .int .i64 day] v fun e w' => e = Mo.ret (Mo.find l base c day) ∧ Below v.heap.size v w') := Lib.hid (fun v h => by
        have := CF.out A1 c1 l.reverse l1 g1 v (R1.bt h)
        rw [Mo.find_reverse] at this
        exact this)
      have F3 : Hid (∀ v, Below wr.heap.size wr v → Calls Tryz.prog 11 #[.slice A2 (Mo.early day l.reverse).length c2, .string base, .string c, .int .i64 day] v fun e w' => e = Mo.ret (Mo.find (Mo.early day l.reverse) base c day) ∧ Below v.heap.size v w') := Lib.hid (fun v h => CF.out A2 c2 _ l2 g2 v (R2.bt h))
      have HEQ : Hid (Mo.valid l base = true → Mo.find (Mo.early day l.reverse) base c day = Mo.find l base c day) := Lib.hid (fun h => by
        have := Mo.find_early (l := l.reverse) c day (by rw [Mo.valid_reverse]; exact h)
        rw [Mo.find_reverse] at this
        exact this)
      clear HT HTI g1 g2 l1 l2 R1 R2 CF HL HG
      generalize l.reverse.length = n1 at *
      generalize (Mo.early day l.reverse).length = n2 at *
      generalize Mo.find (Mo.early day l.reverse) base c day = r3 at *
      generalize Mo.find l base c day = r at *
      obtain ⟨x, e1⟩ := r
      obtain ⟨z, e3⟩ := r3
      unfold Mo.ret at F1 F2 F3
      simp only at F1 F2 F3
      have hb := HB.out
      have hr := Below.refl wr.heap.size wr
      go_wp2_with fail
      refine (F1.out _ hb).mono ?_
      rintro e v1 ⟨rfl, g⟩
      have hr1 := Mo.Nb (Mo.Nb hr g) (Mo.al v1 (.cells #[.string x.cur, .int .i64 x.day, .int .i64 x.num, .int .i64 x.den] 27))
      have K1 := Bk.new v1 27 #[.string x.cur, .int .i64 x.day, .int .i64 x.num, .int .i64 x.den]
      clear g hr
      go_wp2_with fail
      refine (F2.out _ hr1).mono ?_
      rintro e v2 ⟨rfl, g⟩
      have hr2 := Mo.Nb (Mo.Nb hr1 g) (Mo.al v2 (.cells #[.string x.cur, .int .i64 x.day, .int .i64 x.num, .int .i64 x.den] 27))
      have K1' := (K1.bt g).bt (Mo.al v2 (.cells #[.string x.cur, .int .i64 x.day, .int .i64 x.num, .int .i64 x.den] 27))
      have K2 := Bk.new v2 27 #[.string x.cur, .int .i64 x.day, .int .i64 x.num, .int .i64 x.den]
      clear g hr1 K1
      have a0 := K1'.cell 0 _ rfl
      have a1 := K1'.cell 1 _ rfl
      have a2 := K1'.cell 2 _ rfl
      have a3 := K1'.cell 3 _ rfl
      have b0 := K2.cell 0 _ rfl
      have b1 := K2.cell 1 _ rfl
      have b2 := K2.cell 2 _ rfl
      have b3 := K2.cell 3 _ rfl
      go_wp2_with fail
      refine (F3.out _ hr2).mono ?_
      rintro e v3 ⟨rfl, g⟩
      have hr3 := Mo.Nb (Mo.Nb hr2 g) (Mo.al v3 (.cells #[.string z.cur, .int .i64 z.day, .int .i64 z.num, .int .i64 z.den] 27))
      have hb3 := Mo.Nb hb hr3
      have K3 := (K1'.bt g).bt (Mo.al v3 (.cells #[.string z.cur, .int .i64 z.day, .int .i64 z.num, .int .i64 z.den] 27))
      have K4 := Bk.new v3 27 #[.string z.cur, .int .i64 z.day, .int .i64 z.num, .int .i64 z.den]
      clear g hr2 K1' K2 a0 a1 a2 a3 b0 b1 b2 b3
      cases hv : Mo.valid l base with
      | false =>
        rw [hv] at CVa
        clear hv HEQ
        go_wp2_with fail
        refine (CVa.out _ hb3).mono ?_
        rintro e v4 ⟨rfl, g⟩
        have hb4 := Mo.Nb hb3 g
        clear g hr3 hb3 K3 K4
        go_wp2_with fail
        go_ret
        exact ⟨rfl, hb4⟩
      | true =>
        have hq := HEQ.out hv
        rw [hv] at CVa
        simp only [Prod.mk.injEq] at hq
        obtain ⟨rfl, rfl⟩ := hq
        clear hv HEQ
        go_wp2_with fail
        refine (CVa.out _ hb3).mono ?_
        rintro e v4 ⟨rfl, g⟩
        have hb4 := Mo.Nb hb3 g
        have K5 := K3.bt g
        have K6 := K4.bt g
        clear g hr3 hb3 K3 K4
        have a0 := K5.cell 0 _ rfl
        have a1 := K5.cell 1 _ rfl
        have a2 := K5.cell 2 _ rfl
        have a3 := K5.cell 3 _ rfl
        have b0 := K6.cell 0 _ rfl
        have b1 := K6.cell 1 _ rfl
        have b2 := K6.cell 2 _ rfl
        have b3 := K6.cell 3 _ rfl
        go_wp2_with fail
        go_ret
        exact ⟨rfl, hb4⟩

theorem rates_walk (A : Option Addr) (cp : Nat) (l : List Mo.Rt) (base c : ByteArray) (day : Int) (w : World) (hP : Mo.Pa w.heap.size w) (hl : Mo.Rts w w.heap.size A l) (hg : Mo.AllGood l) (hlen : l.length ≤ maxLen) (hbs : base.size ≤ maxLen) (hcs : c.size ≤ maxLen) (hday : (Go.Lit.int .i64 day).wf = true) :
    Calls Tryz.prog 6 #[.slice A l.length cp, .string base, .string c, .int .i64 day] w fun e w' => e = .returned (.bool true) ∧ Below w.heap.size w w' := by
  have H := Lib.hid (Mo.head_any w hP.pm)
  by_cases h : (20 : Int) < (l.length : Int)
  · exact Mo.rt_long A l.length cp base c day w H h
  · exact Mo.rt_walk A cp l base c day w H h hl hg hbs hcs
end Go.Proofs.YtkbncdcphohmiaaGreatDoor
