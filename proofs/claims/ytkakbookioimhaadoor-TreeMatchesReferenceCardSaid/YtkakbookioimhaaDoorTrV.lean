/- The reference's PathTexts. -/
import Derived.Test.YtkakbookioimhaaDoorTrU
import Derived.Test.YtkakbookioimhaaDoorTrP
import Derived.Test.YtkakbookioimhaaDoorTrO
import Derived.WalkKit
import Derived.Below
import Derived.Outline
import Derived.Lib.Hide
namespace Go.Proofs.YtkakbookioimhaaDoor
open Go.RowKit

theorem pathTexts_length : ∀ (N n i : Nat) (s : ByteArray) (p : List ByteArray), n ≤ N → 1 ≤ n → (Tr.pathTexts n i s p).length ≤ n
  | 0, n, i, s, p, h, h1 => by omega
  | N + 1, n, i, s, p, h, h1 => by
    by_cases h2 : n ≤ 1
    · rw [Tr.pathTexts_one i s p h2]; simpa using h1
    · have l1 := Tr.half_lt (n := n) (by omega)
      have l2 := Tr.half_pos n
      by_cases hi : i < Tr.half n
      · rw [Tr.pathTexts_lo s p (by omega) hi, List.length_append]
        have := pathTexts_length N (Tr.half n) i s p.dropLast (by omega) l2
        simp
        omega
      · rw [Tr.pathTexts_hi s p (by omega) hi, List.length_append]
        have := pathTexts_length N (n - Tr.half n) (i - Tr.half n) s p.dropLast (by omega) (by omega)
        simp
        omega

set_option maxHeartbeats 1000000 in
theorem pathTexts_any (N : Nat) : ∀ (n i : Nat) (s : ByteArray) (A : Option Addr) (c : Nat) (p : List ByteArray) (w : World), n ≤ N → i < n → n ≤ 100000 → p.length = Tr.len n i → p.length ≤ c → c ≤ maxLen → Strs w w.heap.size A p → (∀ s ∈ p, s.size ≤ 1000000000) → s.size ≤ 1000000000 →
    Calls Tryd.prog 24 #[.int .i64 (n : Int), .int .i64 (i : Int), .string s, .slice A p.length c] w (Gives (Tr.pathTexts n i s p) w) := by
  induction N with
  | zero => intro n i s A c p w h0 h1; omega
  | succ N ih =>
    intro n i s A c p w hN hi hM hlen hc hm hs hz hd
    by_cases hl : n = 1
    · subst hl
      have HR := Lib.hid (Tr.pathTexts_one i s p (Nat.le_refl 1))
      have HJ := Lib.hid (rjoined_lit w [⟨#[108, 101, 97, 102]⟩, s] (sz2 (szl [_, _, _, _] (by decide)) hd) (by simp))
      clear hs hz ih
      generalize p.length = k at *
      go_enter Tryd.func24, Tryd.ntmps24
      go_wp2_with fail
      refine HJ.out.mono ?_
      rintro e w1 ⟨rfl, hb1⟩
      go_wp2_with fail
      go_ret
      rw [HR.out]
      exact gives_one w w1 _ hb1
    · have l1 := Tr.half_lt (n := n) (by omega)
      have l2 := Tr.half_pos n
      have HF := Lib.hid (fun w => half_any n w (by omega) (by omega))
      have hne : n ≠ 1 := hl
      obtain ⟨j, hj, j1, j2⟩ := len_step (n := n) (i := i) (by omega)
      rw [hj] at hlen
      obtain ⟨ad, rfl, hcell, hmem⟩ := hs.last hlen
      have hlast := hz _ hmem
      have hs' := hs.dropLast
      have hz' : ∀ s ∈ p.dropLast, s.size ≤ 1000000000 := fun s h => hz s (List.dropLast_subset p h)
      have hdl : p.dropLast.length = j := by rw [List.length_dropLast, hlen]; rfl
      have RL := Lib.hid (fun w' => rleaf_any s w' hd)
      have lfz : (Tr.leaf s).size ≤ 1000000000 := by rw [Tr.leaf, Tr.dg_size]; omega
      by_cases hk : i < Tr.half n
      · have HR := Lib.hid (Tr.pathTexts_lo s p (n := n) (by omega) hk)
        have h1 := fun w' (hb : Below w.heap.size w w') => ih (Tr.half n) i s (some ad) c p.dropLast w' (by omega) hk (by omega) (by rw [hdl, j1 hk]) (by omega) hm (hs'.bt hb) hz' hd
        have h2 := fun w' (hb : Below w.heap.size w w') => up_any _ (Tr.half n) i (Tr.leaf s) (some ad) c p.dropLast w' (Nat.le_refl _) hk (by omega) (by rw [hdl, j1 hk]) (by omega) hm (hs'.bt hb) hz' lfz
        rw [hdl] at h1 h2
        have H1 := Lib.hid h1
        have H2 := Lib.hid h2
        have hpl := pathTexts_length _ (Tr.half n) i s p.dropLast (Nat.le_refl _) l2
        have sz := up_size 1000000000 (by omega) (Tr.half n) i (Tr.leaf s) p.dropLast lfz
        rw [hlen] at hc ⊢
        clear ih hs hs' hz hz' h1 h2 hl j1 j2 hmem hdl hlen hj
        generalize Tr.up (Tr.half n) i (Tr.leaf s) p.dropLast = q at *
        generalize Tr.pathTexts (Tr.half n) i s p.dropLast = l at *
        generalize Tr.pathTexts n i s p = l0 at *
        generalize p.getLastD ⟨#[]⟩ = x at *
        generalize Tr.leaf s = d at *
        have HJ := Lib.hid (fun w' => rjoined_lit w' [⟨#[110, 111, 100, 101]⟩, q, x] (sz3 (szl [_, _, _, _] (by decide)) sz hlast) (by simp))
        generalize Tr.jn [⟨#[110, 111, 100, 101]⟩, q, x] = own at *
        clear sz hlast lfz
        generalize Tr.half n = k at *
        unfold maxLen at hm
        go_enter Tryd.func24, Tryd.ntmps24
        go_wp2_with (first
          | (go_at_call 38; (with_reducible refine (HF.out _).mono ?_); rintro e w1 ⟨rfl, rfl⟩)
          | fail)
        refine (H1.out w (Below.refl _ _)).mono ?_
        rintro e w1 ⟨v1, rfl, ho1, hb1⟩
        go_wp2_with fail
        refine (RL.out w1).mono ?_
        rintro e w2 ⟨rfl, hb2⟩
        have hb2' := Bt hb1 hb2
        go_wp2_with fail
        refine (H2.out w2 hb2').mono ?_
        rintro e w3 ⟨rfl, hb3⟩
        have hb3' := Bt hb2' hb3
        go_wp2_with fail
        refine (HJ.out w3).mono ?_
        rintro e w4 ⟨rfl, hb4⟩
        have hb4' := Bt hb3' hb4
        have ho4 := own_below ho1 (Bt (Bt hb2 hb3) hb4)
        have ho5 := own_below ho4 ((Below.refl _ _).alloc (Nat.le_refl _) (.cells #[.string own] 9))
        go_wp2_with (first
          | (at_builtin
             refine list_append1 rfl (.tmp 38) (.tmp 48) rfl w.heap.size v1 l rfl ho5 _ rfl own 9 (heap_alloc_new w4 _) (by omega) (hb4'.alloc hb4'.size _).size ?_
             intro v6 w6 ho6 hb6
             obtain ⟨A6, c6, rfl, _⟩ := ho6.form)
          | fail)
        go_ret
        simp only [List.length_append, List.length_singleton] at ho6
        exact ⟨_, rfl, by rw [HR.out]; exact ho6, (hb4'.alloc hb4'.size _).trans hb6⟩
      · have HR := Lib.hid (Tr.pathTexts_hi s p (n := n) (by omega) hk)
        have h1 := fun w' (hb : Below w.heap.size w w') => ih (n - Tr.half n) (i - Tr.half n) s (some ad) c p.dropLast w' (by omega) (by omega) (by omega) (by rw [hdl, j2 hk]) (by omega) hm (hs'.bt hb) hz' hd
        have h2 := fun w' (hb : Below w.heap.size w w') => up_any _ (n - Tr.half n) (i - Tr.half n) (Tr.leaf s) (some ad) c p.dropLast w' (Nat.le_refl _) (by omega) (by omega) (by rw [hdl, j2 hk]) (by omega) hm (hs'.bt hb) hz' lfz
        rw [hdl] at h1 h2
        have H1 := Lib.hid h1
        have H2 := Lib.hid h2
        have hpl := pathTexts_length _ (n - Tr.half n) (i - Tr.half n) s p.dropLast (Nat.le_refl _) (by omega)
        have sz := up_size 1000000000 (by omega) (n - Tr.half n) (i - Tr.half n) (Tr.leaf s) p.dropLast lfz
        rw [hlen] at hc ⊢
        clear ih hs hs' hz hz' h1 h2 hl j1 j2 hmem hdl hlen hj
        generalize Tr.up (n - Tr.half n) (i - Tr.half n) (Tr.leaf s) p.dropLast = q at *
        generalize Tr.pathTexts (n - Tr.half n) (i - Tr.half n) s p.dropLast = l at *
        generalize Tr.pathTexts n i s p = l0 at *
        generalize p.getLastD ⟨#[]⟩ = x at *
        generalize Tr.leaf s = d at *
        have HJ := Lib.hid (fun w' => rjoined_lit w' [⟨#[110, 111, 100, 101]⟩, x, q] (sz3 (szl [_, _, _, _] (by decide)) hlast sz) (by simp))
        generalize Tr.jn [⟨#[110, 111, 100, 101]⟩, x, q] = own at *
        clear sz hlast lfz
        generalize Tr.half n = k at *
        unfold maxLen at hm
        have E1 := Lib.hid (show (n : Int) - (k : Int) = ((n - k : Nat) : Int) by omega)
        have E2 := Lib.hid (show (i : Int) - (k : Int) = ((i - k : Nat) : Int) by omega)
        go_enter Tryd.func24, Tryd.ntmps24
        go_wp2_with (first
          | (go_at_call 38; (with_reducible refine (HF.out _).mono ?_); rintro e w1 ⟨rfl, rfl⟩)
          | fail)
        rw [E1.out, E2.out]
        refine (H1.out w (Below.refl _ _)).mono ?_
        rintro e w1 ⟨v1, rfl, ho1, hb1⟩
        go_wp2_with fail
        refine (RL.out w1).mono ?_
        rintro e w2 ⟨rfl, hb2⟩
        have hb2' := Bt hb1 hb2
        go_wp2_with fail
        rw [E1.out, E2.out]
        refine (H2.out w2 hb2').mono ?_
        rintro e w3 ⟨rfl, hb3⟩
        have hb3' := Bt hb2' hb3
        go_wp2_with fail
        refine (HJ.out w3).mono ?_
        rintro e w4 ⟨rfl, hb4⟩
        have hb4' := Bt hb3' hb4
        have ho4 := own_below ho1 (Bt (Bt hb2 hb3) hb4)
        have ho5 := own_below ho4 ((Below.refl _ _).alloc (Nat.le_refl _) (.cells #[.string own] 9))
        go_wp2_with (first
          | (at_builtin
             refine list_append1 rfl (.tmp 58) (.tmp 72) rfl w.heap.size v1 l rfl ho5 _ rfl own 9 (heap_alloc_new w4 _) (by omega) (hb4'.alloc hb4'.size _).size ?_
             intro v6 w6 ho6 hb6
             obtain ⟨A6, c6, rfl, _⟩ := ho6.form)
          | fail)
        go_ret
        simp only [List.length_append, List.length_singleton] at ho6
        exact ⟨_, rfl, by rw [HR.out]; exact ho6, (hb4'.alloc hb4'.size _).trans hb6⟩
end Go.Proofs.YtkakbookioimhaaDoor
