/- P2.6: the walk of TreeContinues. -/
import Derived.Test.YtkakbookioimhaaDoorTrM
import Derived.Test.YtkakbookioimhaaDoorTrX
import Derived.Test.YtkakbookioimhaaDoorTrT
import Derived.Test.YtkakbookioimhaaDoorRootsW
import Derived.Test.YtkakbookioimhaaDoorBindsW
import Derived.Test.YtkakbookioimhaaDoorGrowsW
import Derived.WalkKit
import Derived.Deep.RegionHeld3
import Derived.Deep.DrawnRows
namespace Go.Proofs.YtkakbookioimhaaDoor
open Go.RowKit
attribute [local go_sem ↓] Go.wp_at_zero Go.wp_at_succ

theorem linkTexts_le : ∀ (N n m : Nat) (first : Bool) (old : ByteArray) (p : List ByteArray), n ≤ N → 0 < m → m ≤ n → old.size ≤ 1000000000 → (∀ x ∈ p, x.size ≤ 1000000000) → p.length = Tr.long n m first → ∀ x ∈ Tr.linkTexts n m first old p, x.size ≤ 140737488355328
  | 0, n, m, first, old, p, h, h0, hm, hs, hz, hl => by omega
  | N + 1, n, m, first, old, p, h, h0, hm, hs, hz, hl => by
    by_cases h1 : m = n
    · subst h1
      rw [Tr.linkTexts_all]
      intro x hx
      cases hx
    · have l1 := Tr.half_lt (n := n) (by omega)
      have l2 := Tr.half_pos n
      obtain ⟨j, hj, j1, j2⟩ := long_step (n := n) (m := m) first (by omega) (by omega)
      have hne : p ≠ [] := fun e => by rw [e, hj] at hl; simp at hl
      have hlast : (p.getLastD ⟨#[]⟩).size ≤ 1000000000 := by
        rw [List.getLastD_eq_getLast?, List.getLast?_eq_some_getLast hne]
        exact hz _ (List.getLast_mem hne)
      have hz' : ∀ x ∈ p.dropLast, x.size ≤ 1000000000 := fun x h => hz x (List.dropLast_subset p h)
      have hdl : p.dropLast.length = j := by rw [List.length_dropLast, hl, hj]; rfl
      by_cases hk : m ≤ Tr.half n
      · rw [Tr.linkTexts_lo first old p (by omega) (by omega) hk]
        have sz := both_size 1000000000 (by omega) _ (Tr.half n) m first old p.dropLast (Nat.le_refl _) h0 hk hs hz'
        intro x hx
        rcases List.mem_append.1 hx with hx | hx
        · exact linkTexts_le N (Tr.half n) m first old p.dropLast (by omega) h0 hk hs hz' (by rw [hdl, j1 hk]) x hx
        · rw [List.mem_singleton.1 hx]
          exact jn_le (sz3 (szl [_, _, _, _] (by decide)) sz.2 hlast) (by simp)
      · rw [Tr.linkTexts_hi first old p (by omega) (by omega) hk]
        have sz := both_size 1000000000 (by omega) _ (n - Tr.half n) (m - Tr.half n) false old p.dropLast (Nat.le_refl _) (by omega) (by omega) hs hz'
        intro x hx
        rw [List.mem_append, List.mem_append] at hx
        rcases hx with (hx | hx) | hx
        · exact linkTexts_le N (n - Tr.half n) (m - Tr.half n) false old p.dropLast (by omega) (by omega) (by omega) hs hz' (by rw [hdl, j2 hk]) x hx
        · rw [List.mem_singleton.1 hx]
          exact jn_le (sz3 (szl [_, _, _, _] (by decide)) hlast sz.1) (by simp)
        · rw [List.mem_singleton.1 hx]
          exact jn_le (sz3 (szl [_, _, _, _] (by decide)) hlast sz.2) (by simp)

/-- What a link that proves says. -/
theorem extends_says {old rt : ByteArray} {n m : Nat} {p : List ByteArray} (h0 : 0 < m) (h : Tr.extends' old m rt n p = true) : p.length = Tr.long n m true ∧ (Tr.both n m true old p).1 = old ∧ (Tr.both n m true old p).2 = rt := by
  unfold Tr.extends' at h
  rw [if_neg (by omega)] at h
  simp only [Int.toNat_natCast, Bool.and_eq_true, decide_eq_true_eq] at h
  exact ⟨h.2.1.1.2, h.2.1.2, h.2.2⟩

set_option maxRecDepth 100000 in
set_option maxHeartbeats 1000000 in
/-- The cases in which nothing is asked. -/
theorem continues_out (A : Option Addr) (c : Nat) (a : List ByteArray) (A' : Option Addr) (c' : Nat) (l : List ByteArray) (A'' : Option Addr) (c'' : Nat) (p : List ByteArray) (W : World) (hp : Pow W.heap.size W)
    (hs : Strs W W.heap.size A a) (hc : a.length ≤ maxLen) (ht : Strs W W.heap.size A' l) (hc' : l.length ≤ maxLen) (hu : Strs W W.heap.size A'' p) (hc'' : p.length ≤ maxLen)
    (h : few20 a = false ∨ few20 l = false ∨ few20 p = false ∨ l.length < a.length) :
    Calls Tryd.prog 8 #[.slice A a.length c, .slice A' l.length c', .slice A'' p.length c''] W fun e w' => e = .returned (.bool true) ∧ Below W.heap.size W w' := by
  have F1 := fun b hb => Lib.hid (fun w' (hb' : Below W.heap.size W w') => few20_val A c a b hb w' (hs.bt hb') hc)
  have F2 := fun b hb => Lib.hid (fun w' (hb' : Below W.heap.size W w') => few20_val A' c' l b hb w' (ht.bt hb') hc')
  have F3 := fun b hb => Lib.hid (fun w' (hb' : Below W.heap.size W w') => few20_val A'' c'' p b hb w' (hu.bt hb') hc'')
  clear hs ht hu hc hc' hc''
  cases h1 : few20 a with
  | false =>
    have F1' := F1 _ h1
    clear F1 F2 F3 h h1
    go_enter Tryd.func8, Tryd.ntmps8
    go_wp2_with fail
    refine (head_any W hp).mono ?_
    rintro e w1 ⟨rfl, hb1⟩
    go_wp2_with fail
    refine (F1'.out w1 hb1).mono ?_
    rintro e w1' ⟨rfl, rfl⟩
    go_wp2_with fail
    go_ret
    exact ⟨rfl, hb1⟩
  | true =>
    have F1' := F1 _ h1
    cases h2 : few20 l with
    | false =>
      have F2' := F2 _ h2
      clear F1 F2 F3 h h1 h2
      go_enter Tryd.func8, Tryd.ntmps8
      go_wp2_with fail
      refine (head_any W hp).mono ?_
      rintro e w1 ⟨rfl, hb1⟩
      go_wp2_with fail
      refine (F1'.out w1 hb1).mono ?_
      rintro e w1' ⟨rfl, rfl⟩
      go_wp2_with fail
      refine (F2'.out w1 hb1).mono ?_
      rintro e w1' ⟨rfl, rfl⟩
      go_wp2_with fail
      go_ret
      exact ⟨rfl, hb1⟩
    | true =>
      have F2' := F2 _ h2
      cases h3 : few20 p with
      | false =>
        have F3' := F3 _ h3
        clear F1 F2 F3 h h1 h2 h3
        go_enter Tryd.func8, Tryd.ntmps8
        go_wp2_with fail
        refine (head_any W hp).mono ?_
        rintro e w1 ⟨rfl, hb1⟩
        go_wp2_with fail
        refine (F1'.out w1 hb1).mono ?_
        rintro e w1' ⟨rfl, rfl⟩
        go_wp2_with fail
        refine (F2'.out w1 hb1).mono ?_
        rintro e w1' ⟨rfl, rfl⟩
        go_wp2_with fail
        refine (F3'.out w1 hb1).mono ?_
        rintro e w1' ⟨rfl, rfl⟩
        go_wp2_with fail
        go_ret
        exact ⟨rfl, hb1⟩
      | true =>
        have F3' := F3 _ h3
        have h4 : l.length < a.length := by
          rcases h with h | h | h | h
          · rw [h1] at h; cases h
          · rw [h2] at h; cases h
          · rw [h3] at h; cases h
          · exact h
        clear F1 F2 F3 h h1 h2 h3
        go_enter Tryd.func8, Tryd.ntmps8
        go_wp2_with fail
        refine (head_any W hp).mono ?_
        rintro e w1 ⟨rfl, hb1⟩
        go_wp2_with fail
        refine (F1'.out w1 hb1).mono ?_
        rintro e w1' ⟨rfl, rfl⟩
        go_wp2_with fail
        refine (F2'.out w1 hb1).mono ?_
        rintro e w1' ⟨rfl, rfl⟩
        go_wp2_with fail
        refine (F3'.out w1 hb1).mono ?_
        rintro e w1' ⟨rfl, rfl⟩
        go_wp2_with fail
        go_ret
        exact ⟨rfl, hb1⟩

set_option maxRecDepth 100000 in
set_option maxHeartbeats 2000000 in
theorem continues_in (A : Option Addr) (c : Nat) (a : List ByteArray) (A' : Option Addr) (c' : Nat) (l : List ByteArray) (A'' : Option Addr) (c'' : Nat) (p : List ByteArray) (W : World) (hp : Pow W.heap.size W)
    (hs : Strs W W.heap.size A a) (hc : a.length ≤ c) (hm : c ≤ maxLen) (ht : Strs W W.heap.size A' l) (hc' : l.length ≤ c') (hm' : c' ≤ maxLen) (hu : Strs W W.heap.size A'' p) (hc'' : p.length ≤ c'') (hm'' : c'' ≤ maxLen)
    (hf : few20 a = true) (hg : few20 l = true) (hh : few20 p = true) (hle : a.length ≤ l.length) :
    Calls Tryd.prog 8 #[.slice A a.length c, .slice A' l.length c', .slice A'' p.length c''] W fun e w' => e = .returned (.bool true) ∧ Below W.heap.size W w' := by
  have F1 := Lib.hid (fun w' (hb' : Below W.heap.size W w') => few20_val A c a true hf w' (hs.bt hb') (by omega))
  have F2 := Lib.hid (fun w' (hb' : Below W.heap.size W w') => few20_val A' c' l true hg w' (ht.bt hb') (by omega))
  have F3 := Lib.hid (fun w' (hb' : Below W.heap.size W w') => few20_val A'' c'' p true hh w' (hu.bt hb') (by omega))
  obtain ⟨h20, hz⟩ := few20_bounds hf
  obtain ⟨h20', hz'⟩ := few20_bounds hg
  obtain ⟨h20'', hz''⟩ := few20_bounds hh
  clear hf hg hh
  have HS := Lib.hid hs
  have HT := Lib.hid ht
  have HU := Lib.hid hu
  have HZ := Lib.hid hz
  have HZ' := Lib.hid hz'
  have HZ'' := Lib.hid hz''
  clear hs ht hu hz hz' hz''
  have R1 := Lib.hid (fun w' (hb : Below W.heap.size W w') => root_any A c a w' hc hm (HS.out.bt hb) HZ.out (hp.bt hb))
  have R2 := Lib.hid (fun w' (hb : Below W.heap.size W w') => root_any A' c' l w' hc' hm' (HT.out.bt hb) HZ'.out (hp.bt hb))
  have X1 := fun b hb => Lib.hid (fun w' (hb' : Below W.heap.size W w') => extends_ex (Tr.root a) (Tr.root l) a.length l.length A'' c'' _ p rfl b hb w' (HU.out.bt hb') HZ''.out hc'' hm'' (hp.bt hb'))
  have n1 : (l.take a.length).length = a.length := by rw [List.length_take]; omega
  have S1 := fun b hb => Lib.hid (fun w' (hb' : Below W.heap.size W w') => same_val A A' c c' a.length a.length a (l.take a.length) rfl n1 b hb w' (HS.out.bt hb') ((HT.out.take a.length).bt hb') (by omega))
  cases hex : Tr.extends' (Tr.root a) a.length (Tr.root l) l.length p with
  | false =>
    have X1' := X1 _ hex
    clear X1 S1 hex
    go_enter Tryd.func8, Tryd.ntmps8
    go_wp2_with fail
    refine (head_any W hp).mono ?_
    rintro e w1 ⟨rfl, hb1⟩
    go_wp2_with fail
    refine (F1.out w1 hb1).mono ?_
    rintro e w1' ⟨rfl, rfl⟩
    go_wp2_with fail
    refine (F2.out w1 hb1).mono ?_
    rintro e w1' ⟨rfl, rfl⟩
    go_wp2_with fail
    refine (F3.out w1 hb1).mono ?_
    rintro e w1' ⟨rfl, rfl⟩
    go_wp2_with fail
    refine (R1.out w1 hb1).mono ?_
    rintro e w2 ⟨rfl, hb2⟩
    have hb2' := Bt hb1 hb2
    go_wp2_with fail
    refine (R2.out w2 hb2').mono ?_
    rintro e w3 ⟨rfl, hb3⟩
    have hb3' := Bt hb2' hb3
    go_wp2_with fail
    refine (X1'.out w3 hb3').mono ?_
    rintro e w4 ⟨rfl, hb4⟩
    have hb4' := Bt hb3' hb4
    go_wp2_with fail
    go_ret
    exact ⟨rfl, hb4'⟩
  | true =>
    have X1' := X1 _ hex
    by_cases hal : a = l.take a.length
    · have S1' := S1 _ (decide_eq_true hal)
      clear X1 S1 hex hal n1
      go_enter Tryd.func8, Tryd.ntmps8
      go_wp2_with fail
      refine (head_any W hp).mono ?_
      rintro e w1 ⟨rfl, hb1⟩
      go_wp2_with fail
      refine (F1.out w1 hb1).mono ?_
      rintro e w1' ⟨rfl, rfl⟩
      go_wp2_with fail
      refine (F2.out w1 hb1).mono ?_
      rintro e w1' ⟨rfl, rfl⟩
      go_wp2_with fail
      refine (F3.out w1 hb1).mono ?_
      rintro e w1' ⟨rfl, rfl⟩
      go_wp2_with fail
      refine (R1.out w1 hb1).mono ?_
      rintro e w2 ⟨rfl, hb2⟩
      have hb2' := Bt hb1 hb2
      go_wp2_with fail
      refine (R2.out w2 hb2').mono ?_
      rintro e w3 ⟨rfl, hb3⟩
      have hb3' := Bt hb2' hb3
      go_wp2_with fail
      refine (X1'.out w3 hb3').mono ?_
      rintro e w4 ⟨rfl, hb4⟩
      have hb4' := Bt hb3' hb4
      go_wp2_with fail
      refine (S1'.out w4 hb4').mono ?_
      rintro e w5 ⟨rfl, hb5⟩
      have hb5' := Bt hb4' hb5
      go_wp2_with fail
      go_ret
      exact ⟨rfl, hb5'⟩
    · have S1' := S1 _ (decide_eq_false hal)
      have h0 : 0 < a.length := by
        rcases Nat.eq_zero_or_pos a.length with h | h
        · exact absurd (by rw [List.eq_nil_of_length_eq_zero h]; rfl) hal
        · exact h
      obtain ⟨hpl, hb1', hb2'⟩ := extends_says h0 hex
      have HSH := Lib.hid (show Tr.Shown (Tr.texts a ++ Tr.texts l ++ Tr.texts (l.take a.length) ++ Tr.linkTexts l.length a.length true (Tr.root a) p) by
        rcases Tr.continues a l p hle h0 hb1' hb2' with h | h
        · exact absurd h hal
        · exact h)
      have rz : (Tr.root a).size ≤ 1000000000 := root_le a
      have T1 := Lib.hid (fun w' (hb : Below W.heap.size W w') => texts_any _ A c a w' (Nat.le_refl _) hc hm (by omega) (HS.out.bt hb) HZ.out)
      have T2 := Lib.hid (fun w' (hb : Below W.heap.size W w') => texts_any _ A' c' l w' (Nat.le_refl _) hc' hm' (by omega) (HT.out.bt hb) HZ'.out)
      have t3 := fun w' (hb : Below W.heap.size W w') => texts_any _ A' c' (l.take a.length) w' (Nat.le_refl _) (by omega) hm' (by omega) ((HT.out.take a.length).bt hb) (fun s h => HZ'.out s (List.mem_of_mem_take h))
      rw [n1] at t3
      have T3 := Lib.hid t3
      have P1 := Lib.hid (fun w' (hb : Below W.heap.size W w') => linkTexts_any _ l.length a.length true (Tr.root a) A'' c'' p w' (Nat.le_refl _) h0 hle (by omega) hpl hc'' hm'' (HU.out.bt hb) HZ''.out rz)
      have tl1 := (texts_length _ a (Nat.le_refl _)).1
      have tl2 := (texts_length _ l (Nat.le_refl _)).1
      have tl3 := (texts_length _ (l.take a.length) (Nat.le_refl _)).1
      have tl4 := linkTexts_length _ l.length a.length true (Tr.root a) p (Nat.le_refl _) h0 hle
      have TZ := Lib.hid (show ∀ x ∈ Tr.texts a ++ Tr.texts l ++ Tr.texts (l.take a.length) ++ Tr.linkTexts l.length a.length true (Tr.root a) p, x.size ≤ 140737488355328 from fun x h => by
        rw [List.mem_append, List.mem_append, List.mem_append] at h
        rcases h with ((h | h) | h) | h
        · exact texts_le _ a (Nat.le_refl _) HZ.out x h
        · exact texts_le _ l (Nat.le_refl _) HZ'.out x h
        · exact texts_le _ (l.take a.length) (Nat.le_refl _) (fun s h => HZ'.out s (List.mem_of_mem_take h)) x h
        · exact linkTexts_le _ l.length a.length true (Tr.root a) p (Nat.le_refl _) h0 hle rz HZ''.out hpl x h)
      have PO := Lib.hid (fun w' (hb : Below W.heap.size W w') => Link_ok A' c' l a.length w' hle hc' hm' (by omega) (HT.out.bt hb) HZ'.out (hp.bt hb))
      have hlen : (Tr.Link l a.length).length = p.length := by rw [Link_length l a.length hle, if_neg (by omega), hpl]
      rw [n1] at tl3
      clear X1 S1 hex hal hpl hb1' hb2' t3 n1 rz
      generalize Tr.texts a = x1 at *
      generalize Tr.texts l = x2 at *
      generalize Tr.texts (l.take a.length) = x3 at *
      generalize Tr.linkTexts l.length a.length true (Tr.root a) p = x4 at *
      generalize Tr.Link l a.length = own at *
      generalize Tr.root a = q1 at *
      generalize Tr.root l = q2 at *
      have HLEN := Lib.hid hlen
      clear hlen
      have k1 : ((a.length : Int) == 0) = false := by rw [beq_eq_false_iff_ne]; omega
      have k3 : (0 : Int) ≤ (a.length : Int) := by omega
      have k4 : (a.length : Int) ≤ (l.length : Int) := by omega
      have k5 : (a.length : Int) ≤ (c' : Int) := by omega
      have k6 : ¬ c' = 0 := by omega
      go_enter Tryd.func8, Tryd.ntmps8
      go_wp2_with fail
      refine (head_any W hp).mono ?_
      rintro e w1 ⟨rfl, hb1⟩
      go_wp2_with fail
      refine (F1.out w1 hb1).mono ?_
      rintro e w1' ⟨rfl, rfl⟩
      go_wp2_with fail
      refine (F2.out w1 hb1).mono ?_
      rintro e w1' ⟨rfl, rfl⟩
      go_wp2_with fail
      refine (F3.out w1 hb1).mono ?_
      rintro e w1' ⟨rfl, rfl⟩
      go_wp2_with fail
      refine (R1.out w1 hb1).mono ?_
      rintro e w2 ⟨rfl, hb2⟩
      have hb2' := Bt hb1 hb2
      go_wp2_with fail
      refine (R2.out w2 hb2').mono ?_
      rintro e w3 ⟨rfl, hb3⟩
      have hb3' := Bt hb2' hb3
      go_wp2_with fail
      refine (X1'.out w3 hb3').mono ?_
      rintro e w4 ⟨rfl, hb4⟩
      have hb4' := Bt hb3' hb4
      go_wp2_with fail
      refine (S1'.out w4 hb4').mono ?_
      rintro e w5 ⟨rfl, hb5⟩
      have hb5' := Bt hb4' hb5
      go_wp2_with fail
      refine (PO.out w5 hb5').mono ?_
      rintro e w6 ⟨v6, rfl, ho6, hb6⟩
      have hb6' := Bt hb5' hb6
      obtain ⟨A6, c6, rfl, _, _, _⟩ := ho6.form
      clear ho6
      rw [HLEN.out]
      go_wp2_with fail
      go_region_held3 (fun _ => True) (trivial)
        (first
          | (go_at_call 23
             (with_reducible refine (T1.out _ (Bt hb6' (Bd w6))).mono ?_)
             rintro e w7 ⟨v7, rfl, ho7, hb7⟩
             have hb7' := Bt (Bd w6) hb7
             have hb7W := Bt hb6' hb7')
          | (go_at_call 23
             (with_reducible refine (T2.out _ hb7W).mono ?_)
             rintro e w8 ⟨v8, rfl, ho8, hb8⟩
             have hb8' := Bt hb7' hb8
             have ho78 := OwnS.mono (B' := w6.heap.size) (own_below ho7 hb8) (Nat.le_refl _))
          | ((refine step_append2 (by rfl) (.tmp 75) (.tmp 77) (by rfl) w6.heap.size v7 x1 (by rfl) ho78 v8 _ x2 (by rfl) ho8 (by omega) hb8'.size ?_)
             intro v9 w9 ho9 hb9
             have hb9' := hb8'.trans hb9
             have hb9W := Bt hb6' hb9')
          | (go_at_call 23
             (with_reducible refine (T3.out _ hb9W).mono ?_)
             rintro e wa ⟨va, rfl, hoa, hba⟩
             have hba' := Bt hb9' hba
             have ho9a := own_below ho9 hba)
          | ((refine step_append2 (by rfl) (.tmp 78) (.tmp 83) (by rfl) w6.heap.size v9 (x1 ++ x2) (by rfl) ho9a va _ x3 (by rfl) hoa (by simp; omega) hba'.size ?_)
             intro vb wb hob hbb
             have hbb' := hba'.trans hbb
             have hbbW := Bt hb6' hbb')
          | fail)
      go_wp2_with fail
      refine (R1.out wb hbbW).mono ?_
      rintro e wc ⟨rfl, hbc⟩
      have hbcW := Bt hbbW hbc
      go_wp2_with fail
      refine (P1.out wc hbcW).mono ?_
      rintro e wd ⟨vd, rfl, hod, hbd⟩
      have hbdW := Bt hbcW hbd
      have hobd := own_below (own_below hob hbc) hbd
      go_wp2_with (first
        | (at_builtin
           refine list_append2 ?hw (.tmp 87) (.tmp 95) ?ho w6.heap.size vb (x1 ++ x2 ++ x3) ?hs hobd vd _ x4 ?hx hod (by simp; omega) (Bt (Bt hbb' hbc) hbd).size ?_
           case hw => simp [Region.wanted, yielded]
           case ho => rfl
           case hs => rfl
           case hx => rfl
           intro ve we hoe hbe
           have hbeW := hbdW.trans (hbe.mono hb6'.size)
           obtain ⟨Ae, ce, rfl, hse, hce, hme⟩ := hoe.form
           have HSE := Lib.hid hse
           clear hse)
        | fail)
      with_reducible refine (shown_len Ae ce (x1 ++ x2 ++ x3 ++ x4) _ ?hk we HSE.out ?hn TZ.out HSH.out).mono ?_
      case hk => simp
      case hn => omega
      rintro e wf ⟨rfl, hbf⟩
      have hbfW := Bt hbeW hbf
      go_wp2_with fail
      go_ret
      exact ⟨rfl, hbfW⟩

theorem continues_walk (A : Option Addr) (c : Nat) (a : List ByteArray) (A' : Option Addr) (c' : Nat) (l : List ByteArray) (A'' : Option Addr) (c'' : Nat) (p : List ByteArray) (W : World) (hp : Pow W.heap.size W)
    (hs : Strs W W.heap.size A a) (hc : a.length ≤ c) (hm : c ≤ maxLen) (ht : Strs W W.heap.size A' l) (hc' : l.length ≤ c') (hm' : c' ≤ maxLen) (hu : Strs W W.heap.size A'' p) (hc'' : p.length ≤ c'') (hm'' : c'' ≤ maxLen) :
    Calls Tryd.prog 8 #[.slice A a.length c, .slice A' l.length c', .slice A'' p.length c''] W fun e w' => e = .returned (.bool true) ∧ Below W.heap.size W w' := by
  by_cases h : few20 a = false ∨ few20 l = false ∨ few20 p = false ∨ l.length < a.length
  · exact continues_out A c a A' c' l A'' c'' p W hp hs (by omega) ht (by omega) hu (by omega) h
  · have h1 : few20 a = true := by
      cases e : few20 a with
      | true => rfl
      | false => exact absurd (.inl e) h
    have h2 : few20 l = true := by
      cases e : few20 l with
      | true => rfl
      | false => exact absurd (.inr (.inl e)) h
    have h3 : few20 p = true := by
      cases e : few20 p with
      | true => rfl
      | false => exact absurd (.inr (.inr (.inl e))) h
    exact continues_in A c a A' c' l A'' c'' p W hp hs hc hm ht hc' hm' hu hc'' hm'' h1 h2 h3 (by omega)
end Go.Proofs.YtkakbookioimhaaDoor
