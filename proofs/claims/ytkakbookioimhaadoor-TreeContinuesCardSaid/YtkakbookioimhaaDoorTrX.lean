/- The reference's LinkTexts. -/
import Derived.Test.YtkakbookioimhaaDoorTrW
import Derived.Test.YtkakbookioimhaaDoorTrP
import Derived.Test.YtkakbookioimhaaDoorTrO
import Derived.WalkKit
import Derived.Below
import Derived.Outline
import Derived.Lib.Hide
namespace Go.Proofs.YtkakbookioimhaaDoor
open Go.RowKit

theorem linkTexts_length : ∀ (N n m : Nat) (first : Bool) (old : ByteArray) (p : List ByteArray), n ≤ N → 0 < m → m ≤ n → (Tr.linkTexts n m first old p).length ≤ 2 * n
  | 0, n, m, first, old, p, h, h0, hm => by omega
  | N + 1, n, m, first, old, p, h, h0, hm => by
    by_cases h1 : m = n
    · subst h1
      rw [Tr.linkTexts_all]
      exact Nat.zero_le _
    · have l1 := Tr.half_lt (n := n) (by omega)
      have l2 := Tr.half_pos n
      by_cases hk : m ≤ Tr.half n
      · rw [Tr.linkTexts_lo first old p (by omega) (by omega) hk, List.length_append]
        have := linkTexts_length N (Tr.half n) m first old p.dropLast (by omega) h0 hk
        simp
        omega
      · rw [Tr.linkTexts_hi first old p (by omega) (by omega) hk, List.length_append, List.length_append]
        have := linkTexts_length N (n - Tr.half n) (m - Tr.half n) false old p.dropLast (by omega) (by omega) (by omega)
        simp
        omega

set_option maxRecDepth 100000 in
set_option maxHeartbeats 1000000 in
theorem linkTexts_any (N : Nat) : ∀ (n m : Nat) (first : Bool) (old : ByteArray) (A : Option Addr) (c : Nat) (p : List ByteArray) (w : World), n ≤ N → 0 < m → m ≤ n → n ≤ 100000 → p.length = Tr.long n m first → p.length ≤ c → c ≤ maxLen → Strs w w.heap.size A p → (∀ s ∈ p, s.size ≤ 1000000000) → old.size ≤ 1000000000 →
    Calls Tryd.prog 25 #[.int .i64 (n : Int), .int .i64 (m : Int), .bool first, .string old, .slice A p.length c] w (Gives (Tr.linkTexts n m first old p) w) := by
  induction N with
  | zero => intro n m first old A c p w h0 h1 h2; omega
  | succ N ih =>
    intro n m first old A c p w hN h0 hmn hM hlen hc hm hs hz hd
    by_cases hl : m = n
    · subst hl
      have HR := Lib.hid (Tr.linkTexts_all m first old p)
      clear hs hz ih
      generalize p.length = k at *
      go_enter Tryd.func25, Tryd.ntmps25
      go_wp2_with fail
      go_ret
      exact ⟨_, rfl, by rw [HR.out]; exact OwnS.nil _ _, Below.refl _ _⟩
    · have l1 := Tr.half_lt (n := n) (by omega)
      have l2 := Tr.half_pos n
      have HF := Lib.hid (fun w => half_any n w (by omega) (by omega))
      have hne : m ≠ n := hl
      obtain ⟨j, hj, j1, j2⟩ := long_step (n := n) (m := m) first (by omega) (by omega)
      rw [hj] at hlen
      obtain ⟨ad, rfl, hcell, hmem⟩ := hs.last hlen
      have hlast := hz _ hmem
      have hs' := hs.dropLast
      have hz' : ∀ s ∈ p.dropLast, s.size ≤ 1000000000 := fun s h => hz s (List.dropLast_subset p h)
      have hdl : p.dropLast.length = j := by rw [List.length_dropLast, hlen]; rfl
      by_cases hk : m ≤ Tr.half n
      · have HR := Lib.hid (Tr.linkTexts_lo first old p (n := n) (m := m) (by omega) (by omega) hk)
        have h1 := fun w' (hb : Below w.heap.size w w') => ih (Tr.half n) m first old (some ad) c p.dropLast w' (by omega) h0 hk (by omega) (by rw [hdl, j1 hk]) (by omega) hm (hs'.bt hb) hz' hd
        have h2 := both_any _ (Tr.half n) m first old (some ad) c p.dropLast w (Nat.le_refl _) h0 hk (by omega) (by rw [hdl, j1 hk]) (by omega) hm hs' hz' hd
        rw [hdl] at h1 h2
        have H1 := Lib.hid h1
        have H2 := Lib.hid h2
        have hpl := linkTexts_length _ (Tr.half n) m first old p.dropLast (Nat.le_refl _) h0 hk
        have sz := (both_size 1000000000 (by omega) _ (Tr.half n) m first old p.dropLast (Nat.le_refl _) h0 hk hd hz').2
        rw [hlen] at hc ⊢
        clear ih hs hs' hz hz' h1 h2 hl j1 j2 hmem hdl hlen hj
        unfold Boths at H2
        generalize Tr.both (Tr.half n) m first old p.dropLast = q at *
        generalize Tr.linkTexts (Tr.half n) m first old p.dropLast = l at *
        generalize Tr.linkTexts n m first old p = l0 at *
        generalize p.getLastD ⟨#[]⟩ = x at *
        have HJ := Lib.hid (fun w' => rjoined_lit w' [⟨#[110, 111, 100, 101]⟩, q.2, x] (sz3 (szl [_, _, _, _] (by decide)) sz hlast) (by simp))
        generalize Tr.jn [⟨#[110, 111, 100, 101]⟩, q.2, x] = own at *
        clear sz hlast
        generalize Tr.half n = k at *
        unfold maxLen at hm
        go_enter Tryd.func25, Tryd.ntmps25
        go_wp2_with (first
          | (go_at_call 38; (with_reducible refine (HF.out _).mono ?_); rintro e w1 ⟨rfl, rfl⟩)
          | fail)
        refine H2.out.mono ?_
        rintro e w1 ⟨rfl, hb1⟩
        go_wp2_with fail
        refine (H1.out w1 hb1).mono ?_
        rintro e w2 ⟨v2, rfl, ho2, hb2⟩
        have hb2' := Bt hb1 hb2
        go_wp2_with fail
        refine (HJ.out w2).mono ?_
        rintro e w4 ⟨rfl, hb4⟩
        have hb4' := Bt hb2' hb4
        have ho4 := OwnS.mono (B' := w.heap.size) (own_below ho2 hb4) hb1.size
        have ho5 := own_below ho4 ((Below.refl _ _).alloc (Nat.le_refl _) (.cells #[.string own] 9))
        go_wp2_with (first
          | (at_builtin
             refine list_append1 rfl (.tmp 52) (.tmp 57) rfl w.heap.size v2 l rfl ho5 _ rfl own 9 (heap_alloc_new w4 _) (by omega) (hb4'.alloc hb4'.size _).size ?_
             intro v6 w6 ho6 hb6
             obtain ⟨A6, c6, rfl, _⟩ := ho6.form)
          | fail)
        go_ret
        simp only [List.length_append, List.length_singleton] at ho6
        exact ⟨_, rfl, by rw [HR.out]; exact ho6, (hb4'.alloc hb4'.size _).trans hb6⟩
      · have HR := Lib.hid (Tr.linkTexts_hi first old p (n := n) (m := m) (by omega) (by omega) hk)
        have h1 := fun w' (hb : Below w.heap.size w w') => ih (n - Tr.half n) (m - Tr.half n) false old (some ad) c p.dropLast w' (by omega) (by omega) (by omega) (by omega) (by rw [hdl, j2 hk]) (by omega) hm (hs'.bt hb) hz' hd
        have h2 := both_any _ (n - Tr.half n) (m - Tr.half n) false old (some ad) c p.dropLast w (Nat.le_refl _) (by omega) (by omega) (by omega) (by rw [hdl, j2 hk]) (by omega) hm hs' hz' hd
        rw [hdl] at h1 h2
        have H1 := Lib.hid h1
        have H2 := Lib.hid h2
        have hpl := linkTexts_length _ (n - Tr.half n) (m - Tr.half n) false old p.dropLast (Nat.le_refl _) (by omega) (by omega)
        have sz := both_size 1000000000 (by omega) _ (n - Tr.half n) (m - Tr.half n) false old p.dropLast (Nat.le_refl _) (by omega) (by omega) hd hz'
        rw [hlen] at hc ⊢
        clear ih hs hs' hz hz' h1 h2 hl j1 j2 hmem hdl hlen hj
        unfold Boths at H2
        generalize Tr.both (n - Tr.half n) (m - Tr.half n) false old p.dropLast = q at *
        generalize Tr.linkTexts (n - Tr.half n) (m - Tr.half n) false old p.dropLast = l at *
        generalize Tr.linkTexts n m first old p = l0 at *
        generalize p.getLastD ⟨#[]⟩ = x at *
        have HJ := Lib.hid (fun w' => rjoined_lit w' [⟨#[110, 111, 100, 101]⟩, x, q.1] (sz3 (szl [_, _, _, _] (by decide)) hlast sz.1) (by simp))
        have HJ2 := Lib.hid (fun w' => rjoined_lit w' [⟨#[110, 111, 100, 101]⟩, x, q.2] (sz3 (szl [_, _, _, _] (by decide)) hlast sz.2) (by simp))
        generalize Tr.jn [⟨#[110, 111, 100, 101]⟩, x, q.1] = own at *
        generalize Tr.jn [⟨#[110, 111, 100, 101]⟩, x, q.2] = own2 at *
        clear sz hlast
        generalize Tr.half n = k at *
        unfold maxLen at hm
        have E1 := Lib.hid (show (n : Int) - (k : Int) = ((n - k : Nat) : Int) by omega)
        have E2 := Lib.hid (show (m : Int) - (k : Int) = ((m - k : Nat) : Int) by omega)
        go_enter Tryd.func25, Tryd.ntmps25
        go_wp2_with (first
          | (go_at_call 38; (with_reducible refine (HF.out _).mono ?_); rintro e w1 ⟨rfl, rfl⟩)
          | fail)
        rw [E1.out, E2.out]
        refine H2.out.mono ?_
        rintro e w1 ⟨rfl, hb1⟩
        go_wp2_with fail
        rw [E1.out, E2.out]
        refine (H1.out w1 hb1).mono ?_
        rintro e w2 ⟨v2, rfl, ho2, hb2⟩
        have hb2' := Bt hb1 hb2
        go_wp2_with fail
        refine (HJ.out w2).mono ?_
        rintro e w4 ⟨rfl, hb4⟩
        have hb4' := Bt hb2' hb4
        have ho4 := OwnS.mono (B' := w.heap.size) (own_below ho2 hb4) hb1.size
        have ho5 := own_below ho4 ((Below.refl _ _).alloc (Nat.le_refl _) (.cells #[.string own] 9))
        go_wp2_with (first
          | (at_builtin
             refine list_append1 rfl (.tmp 79) (.tmp 84) rfl w.heap.size v2 l rfl ho5 _ rfl own 9 (heap_alloc_new w4 _) (by omega) (hb4'.alloc hb4'.size _).size ?_
             intro v6 w6 ho6 hb6
             have hb6' := (hb4'.alloc hb4'.size _).trans hb6)
          | fail)
        refine (HJ2.out w6).mono ?_
        rintro e w7 ⟨rfl, hb7⟩
        have hb7' := Bt hb6' hb7
        have ho7 := own_below (own_below ho6 hb7) ((Below.refl _ _).alloc (Nat.le_refl _) (.cells #[.string own2] 9))
        have hl7 : (l ++ [own]).length ≤ 1000000 := by simp; omega
        go_wp2_with (first
          | (at_builtin
             refine list_append1 rfl (.tmp 86) (.tmp 91) rfl w.heap.size v6 (l ++ [own]) rfl ho7 _ rfl own2 9 (heap_alloc_new w7 _) hl7 (hb7'.alloc hb7'.size _).size ?_
             intro v8 w8 ho8 hb8
             obtain ⟨A8, c8, rfl, _⟩ := ho8.form)
          | fail)
        go_ret
        simp only [List.append_assoc, List.length_append, List.length_singleton] at ho8
        exact ⟨_, rfl, by rw [HR.out]; simpa [Nat.add_assoc] using ho8, (hb7'.alloc hb7'.size _).trans hb8⟩
end Go.Proofs.YtkakbookioimhaaDoor
