/- P2.4: the walk of TreeRoots. -/
import Derived.Test.YtkakbookioimhaaDoorTrM
import Derived.Test.YtkakbookioimhaaDoorTrR
import Derived.Test.YtkakbookioimhaaDoorTrT
import Derived.WalkKit
namespace Go.Proofs.YtkakbookioimhaaDoor
open Go.RowKit

theorem jn_le {ss : List ByteArray} (hz : ∀ s ∈ ss, s.size ≤ 1000000000) (hl : ss.length ≤ 3) : (Tr.jn ss).size ≤ 140737488355328 := by
  rw [Tr.jn, Tr.size_mk]
  exact joined_bound 1000000000 ss hz (Nat.le_refl _) hl

theorem root_le (l : List ByteArray) : (Tr.root l).size ≤ 1000000000 := by rw [Tr.root_size]; omega

theorem texts_le : ∀ (N : Nat) (l : List ByteArray), l.length ≤ N → (∀ s ∈ l, s.size ≤ 1000000000) → ∀ s ∈ Tr.texts l, s.size ≤ 140737488355328
  | 0, l, h, hz => by
    obtain rfl : l = [] := List.eq_nil_of_length_eq_zero (by omega)
    rw [Tr.texts_nil]
    intro s hs
    rw [List.mem_singleton.1 hs]
    exact jn_le (sz1 (szl [_, _, _, _, _] (by decide))) (by simp)
  | N + 1, l, h, hz => by
    by_cases h1 : l.length ≤ 1
    · match l, h1 with
      | [], _ => exact texts_le N [] (by simp) hz
      | [x], _ =>
        rw [Tr.texts_one]
        intro s hs
        rw [List.mem_singleton.1 hs]
        exact jn_le (sz2 (szl [_, _, _, _] (by decide)) (hz x (by simp))) (by simp)
    · have l1 := Tr.half_lt (n := l.length) (by omega)
      have l2 := Tr.half_pos l.length
      rw [Tr.texts_two (by omega)]
      intro s hs
      rw [List.mem_append, List.mem_append] at hs
      rcases hs with (hs | hs) | hs
      · exact texts_le N _ (by simp; omega) (fun s h => hz s (List.mem_of_mem_take h)) s hs
      · exact texts_le N _ (by simp; omega) (fun s h => hz s (List.mem_of_mem_drop h)) s hs
      · rw [List.mem_singleton.1 hs]
        exact jn_le (sz3 (szl [_, _, _, _] (by decide)) (root_le _) (root_le _)) (by simp)

theorem same_val (A A' : Option Addr) (c c' k k' : Nat) (ss tt : List ByteArray) (hk : ss.length = k) (hk' : tt.length = k') (b : Bool) (hb : decide (ss = tt) = b) (w : World) (hs : Strs w w.heap.size A ss) (ht : Strs w w.heap.size A' tt) (hn : ss.length ≤ maxLen) :
    Calls Tryd.prog 17 #[.slice A k c, .slice A' k' c'] w fun e w' => e = .returned (.bool b) ∧ Below w.heap.size w w' := by
  subst hk hk' hb
  refine (same_any A A' c c' ss tt w hs ht hn).mono ?_
  rintro e w1 ⟨rfl, q, rfl⟩
  exact ⟨rfl, below_drewN w q⟩

set_option maxRecDepth 100000 in
set_option maxHeartbeats 1000000 in
theorem roots_walk (A : Option Addr) (c : Nat) (ss : List ByteArray) (A' : Option Addr) (c' : Nat) (tt : List ByteArray) (W : World) (hp : Pow W.heap.size W) (hs : Strs W W.heap.size A ss) (hc : ss.length ≤ c) (hm : c ≤ maxLen) (ht : Strs W W.heap.size A' tt) (hc' : tt.length ≤ c') (hm' : c' ≤ maxLen) :
    Calls Tryd.prog 6 #[.slice A ss.length c, .slice A' tt.length c'] W fun e w' => e = .returned (.bool true) ∧ Below W.heap.size W w' := by
  have F1 := Lib.hid (fun w' (hb : Below W.heap.size W w') => few20_any A c ss w' (hs.bt hb) (by omega))
  have F2 := Lib.hid (fun w' (hb : Below W.heap.size W w') => few20_any A' c' tt w' (ht.bt hb) (by omega))
  by_cases hf : few20 ss = true
  case neg =>
    have hf' : few20 ss = false := Bool.eq_false_iff.2 hf
    rw [hf'] at F1
    clear hf hf' hs ht
    go_enter Tryd.func6, Tryd.ntmps6
    go_wp2_with fail
    refine (head_any W hp).mono ?_
    rintro e w1 ⟨rfl, hb1⟩
    go_wp2_with fail
    refine (F1.out w1 hb1).mono ?_
    rintro e w1' ⟨rfl, rfl⟩
    go_wp2_with fail
    go_ret
    exact ⟨rfl, hb1⟩
  case pos =>
  rw [hf] at F1
  obtain ⟨h20, hz⟩ := few20_bounds hf
  clear hf
  by_cases hg : few20 tt = true
  case neg =>
    have hf' : few20 tt = false := Bool.eq_false_iff.2 hg
    rw [hf'] at F2
    clear hg hf' hs ht hz
    go_enter Tryd.func6, Tryd.ntmps6
    go_wp2_with fail
    refine (head_any W hp).mono ?_
    rintro e w1 ⟨rfl, hb1⟩
    go_wp2_with fail
    refine (F1.out w1 hb1).mono ?_
    rintro e w1' ⟨rfl, rfl⟩
    go_wp2_with fail
    refine (F2.out w1 hb1).mono ?_
    rintro e w1' ⟨rfl, rfl⟩
    go_wp2_with fail
    go_ret
    exact ⟨rfl, hb1⟩
  case pos =>
  rw [hg] at F2
  obtain ⟨h20', hz'⟩ := few20_bounds hg
  clear hg
  have HS := Lib.hid hs
  have HT := Lib.hid ht
  have HZ := Lib.hid hz
  have HZ' := Lib.hid hz'
  clear hs ht hz hz'
  by_cases hl : ss.length = tt.length
  case neg =>
    have hl1 : ((ss.length : Int) == (tt.length : Int)) = false := by rw [beq_eq_false_iff_ne]; omega
    have hl2 : (ss.length : Int) ≠ (tt.length : Int) := by omega
    go_enter Tryd.func6, Tryd.ntmps6
    go_wp2_with fail
    refine (head_any W hp).mono ?_
    rintro e w1 ⟨rfl, hb1⟩
    go_wp2_with fail
    refine (F1.out w1 hb1).mono ?_
    rintro e w1' ⟨rfl, rfl⟩
    go_wp2_with fail
    refine (F2.out w1 hb1).mono ?_
    rintro e w1' ⟨rfl, rfl⟩
    go_wp2_with fail
    go_ret
    exact ⟨rfl, hb1⟩
  case pos =>
  have HL := Lib.hid hl
  have R1 := Lib.hid (fun w' (hb : Below W.heap.size W w') => root_any A c ss w' hc hm (HS.out.bt hb) HZ.out (hp.bt hb))
  have R2 := Lib.hid (fun w' (hb : Below W.heap.size W w') => root_any A' c' tt w' hc' hm' (HT.out.bt hb) HZ'.out (hp.bt hb))
  rw [← hl] at F2 hc' R2 ⊢
  clear hl h20'
  by_cases hst : ss = tt
  · have S1 := Lib.hid (fun w' (hb : Below W.heap.size W w') => same_val A A' c c' ss.length ss.length ss tt rfl HL.out.symm true (decide_eq_true hst) w' (HS.out.bt hb) (HT.out.bt hb) (by omega))
    have hrt : ((Tr.root ss).toList == (Tr.root tt).toList) = true := by rw [hst]; simp
    clear hst
    generalize Tr.root ss = q1 at *
    generalize Tr.root tt = q2 at *
    generalize ss.length = n at *
    go_enter Tryd.func6, Tryd.ntmps6
    go_wp2_with fail
    refine (head_any W hp).mono ?_
    rintro e w1 ⟨rfl, hb1⟩
    go_wp2_with fail
    refine (F1.out w1 hb1).mono ?_
    rintro e w1' ⟨rfl, rfl⟩
    go_wp2_with fail
    refine (F2.out w1 hb1).mono ?_
    rintro e w1' ⟨rfl, rfl⟩
    go_wp2_with fail
    refine (S1.out w1 hb1).mono ?_
    rintro e w2 ⟨rfl, hb2⟩
    have hb2' := Bt hb1 hb2
    go_wp2_with fail
    refine (R1.out w2 hb2').mono ?_
    rintro e w3 ⟨rfl, hb3⟩
    have hb3' := Bt hb2' hb3
    go_wp2_with fail
    refine (R2.out w3 hb3').mono ?_
    rintro e w4 ⟨rfl, hb4⟩
    have hb4' := Bt hb3' hb4
    go_wp2_with fail
    go_ret
    exact ⟨rfl, hb4'⟩
  · have S1 := Lib.hid (fun w' (hb : Below W.heap.size W w') => same_val A A' c c' ss.length ss.length ss tt rfl HL.out.symm false (decide_eq_false hst) w' (HS.out.bt hb) (HT.out.bt hb) (by omega))
    by_cases hr : Tr.root ss = Tr.root tt
    · have hrt : ((Tr.root ss).toList == (Tr.root tt).toList) = true := by rw [hr]; simp
      have hshown : Tr.Shown (Tr.texts ss ++ Tr.texts tt) := by
        rcases Tr.roots_bind _ ss tt (Nat.le_refl _) HL.out hr with h | h
        · exact absurd h hst
        · exact h
      have T1 := Lib.hid (fun w' (hb : Below W.heap.size W w') => texts_any _ A c ss w' (Nat.le_refl _) hc hm (by omega) (HS.out.bt hb) HZ.out)
      have T2 := Lib.hid (fun w' (hb : Below W.heap.size W w') => texts_any _ A' c' tt w' (Nat.le_refl _) (by rw [← HL.out]; exact hc') hm' (by rw [← HL.out]; omega) (HT.out.bt hb) HZ'.out)
      rw [← HL.out] at T2
      have tl1 := (texts_length _ ss (Nat.le_refl _)).1
      have tl2 := (texts_length _ tt (Nat.le_refl _)).1
      rw [← HL.out] at tl2
      have tz : ∀ s ∈ Tr.texts ss ++ Tr.texts tt, s.size ≤ 140737488355328 := fun s h => by
        rcases List.mem_append.1 h with h | h
        · exact texts_le _ ss (Nat.le_refl _) HZ.out s h
        · exact texts_le _ tt (Nat.le_refl _) HZ'.out s h
      have HSH := Lib.hid hshown
      have TZ := Lib.hid tz
      clear hst hr hshown tz
      generalize Tr.root ss = q1 at *
      generalize Tr.root tt = q2 at *
      generalize Tr.texts ss = x1 at *
      generalize Tr.texts tt = x2 at *
      generalize ss.length = n at *
      go_enter Tryd.func6, Tryd.ntmps6
      go_wp2_with fail
      refine (head_any W hp).mono ?_
      rintro e w1 ⟨rfl, hb1⟩
      go_wp2_with fail
      refine (F1.out w1 hb1).mono ?_
      rintro e w1' ⟨rfl, rfl⟩
      go_wp2_with fail
      refine (F2.out w1 hb1).mono ?_
      rintro e w1' ⟨rfl, rfl⟩
      go_wp2_with fail
      refine (S1.out w1 hb1).mono ?_
      rintro e w2 ⟨rfl, hb2⟩
      have hb2' := Bt hb1 hb2
      go_wp2_with fail
      refine (R1.out w2 hb2').mono ?_
      rintro e w3 ⟨rfl, hb3⟩
      have hb3' := Bt hb2' hb3
      go_wp2_with fail
      refine (R2.out w3 hb3').mono ?_
      rintro e w4 ⟨rfl, hb4⟩
      have hb4' := Bt hb3' hb4
      go_wp2_with fail
      refine (T1.out w4 hb4').mono ?_
      rintro e w5 ⟨v5, rfl, ho5, hb5⟩
      have hb5' := Bt hb4' hb5
      go_wp2_with fail
      refine (T2.out w5 hb5').mono ?_
      rintro e w6 ⟨v6, rfl, ho6, hb6⟩
      have hb6' := Bt hb5' hb6
      have ho56 := own_below ho5 hb6
      go_wp2_with (first
        | (at_builtin
           refine list_append2 ?hw (.tmp 43) (.tmp 45) ?ho w4.heap.size v5 x1 ?hs ho56 v6 _ x2 ?hx ho6 (by omega) (Bt hb5 hb6).size ?_
           case hw => simp [Region.wanted, yielded]
           case ho => rfl
           case hs => rfl
           case hx => rfl
           intro v7 w7 ho7 hb7
           have hb7' := hb6'.trans (hb7.mono (hb4'.size))
           obtain ⟨A7, c7, rfl, hs7, hc7, hm7⟩ := ho7.form
           have HS7 := Lib.hid hs7
           clear hs7)
        | fail)
      with_reducible refine (shown_len A7 c7 (x1 ++ x2) (x1.length + x2.length) (by simp) w7 HS7.out (by omega) TZ.out HSH.out).mono ?_
      rintro e w8 ⟨rfl, hb8⟩
      have hb8' := Bt hb7' hb8
      go_wp2_with fail
      go_ret
      exact ⟨rfl, hb8'⟩
    · have hrt := bytes_ne hr
      clear hst hr
      generalize Tr.root ss = q1 at *
      generalize Tr.root tt = q2 at *
      generalize ss.length = n at *
      go_enter Tryd.func6, Tryd.ntmps6
      go_wp2_with fail
      refine (head_any W hp).mono ?_
      rintro e w1 ⟨rfl, hb1⟩
      go_wp2_with fail
      refine (F1.out w1 hb1).mono ?_
      rintro e w1' ⟨rfl, rfl⟩
      go_wp2_with fail
      refine (F2.out w1 hb1).mono ?_
      rintro e w1' ⟨rfl, rfl⟩
      go_wp2_with fail
      refine (S1.out w1 hb1).mono ?_
      rintro e w2 ⟨rfl, hb2⟩
      have hb2' := Bt hb1 hb2
      go_wp2_with fail
      refine (R1.out w2 hb2').mono ?_
      rintro e w3 ⟨rfl, hb3⟩
      have hb3' := Bt hb2' hb3
      go_wp2_with fail
      refine (R2.out w3 hb3').mono ?_
      rintro e w4 ⟨rfl, hb4⟩
      have hb4' := Bt hb3' hb4
      go_wp2_with fail
      go_ret
      exact ⟨rfl, hb4'⟩
end Go.Proofs.YtkakbookioimhaaDoor
