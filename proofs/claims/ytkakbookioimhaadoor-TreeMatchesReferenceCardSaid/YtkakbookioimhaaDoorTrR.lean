/- The reference's Texts. -/
import Derived.Test.YtkakbookioimhaaDoorTrQ
import Derived.Test.YtkakbookioimhaaDoorTrS
import Derived.Test.YtkakbookioimhaaDoorTrMath
import Derived.WalkKit
import Derived.Below
import Derived.Outline
import Derived.Lib.Hide
import Derived.Deep.RegionHeld3
import Derived.Deep.DrawnRows
namespace Go.Proofs.YtkakbookioimhaaDoor
open Go.RowKit
attribute [local go_sem ↓] Go.wp_at_zero Go.wp_at_succ

theorem texts_length : ∀ (N : Nat) (l : List ByteArray), l.length ≤ N → (Tr.texts l).length ≤ 2 * l.length + 1 ∧ (1 ≤ l.length → (Tr.texts l).length + 1 = 2 * l.length)
  | 0, l, h => by
    obtain rfl : l = [] := List.eq_nil_of_length_eq_zero (by omega)
    rw [Tr.texts_nil]
    simp
  | N + 1, l, h => by
    by_cases h1 : l.length ≤ 1
    · match l, h1 with
      | [], _ => rw [Tr.texts_nil]; simp
      | [x], _ => rw [Tr.texts_one]; simp
    · have l1 := Tr.half_lt (n := l.length) (by omega)
      have l2 := Tr.half_pos l.length
      rw [Tr.texts_two (by omega)]
      have e1 : (l.take (Tr.half l.length)).length = Tr.half l.length := by simp; omega
      have e2 : (l.drop (Tr.half l.length)).length = l.length - Tr.half l.length := by simp
      have i1 := texts_length N (l.take (Tr.half l.length)) (by omega)
      have i2 := texts_length N (l.drop (Tr.half l.length)) (by omega)
      rw [List.length_append, List.length_append, List.length_singleton]
      omega

/-- Joining one element and putting the text into a new slice. -/
theorem gives_one (w w1 : World) (r : ByteArray) (hb : Below w.heap.size w w1) : Gives [r] w (.returned (.slice (some ⟨w1.heap.size, 0, none⟩) 1 1)) (w1.alloc (.cells #[.string r] 9)) :=
  ⟨_, rfl, own_one w1 _ r hb.size, hb.alloc hb.size _⟩

set_option maxHeartbeats 2000000 in
theorem texts_any (N : Nat) : ∀ (A : Option Addr) (c : Nat) (ss : List ByteArray) (w : World), ss.length ≤ N → ss.length ≤ c → c ≤ maxLen → ss.length ≤ 100000 → Strs w w.heap.size A ss → (∀ s ∈ ss, s.size ≤ 1000000000) →
    Calls Tryd.prog 23 #[.slice A ss.length c] w (Gives (Tr.texts ss) w) := by
  induction N with
  | zero =>
    intro A c ss w h0 hc hm hM hs hz
    obtain rfl : ss = [] := List.eq_nil_of_length_eq_zero (by omega)
    have HR := Lib.hid Tr.texts_nil
    have HJ := Lib.hid (rjoined_lit w [⟨#[101, 109, 112, 116, 121]⟩] (sz1 (szl [_, _, _, _, _] (by decide))) (by simp))
    clear hs hz
    simp only [List.length_nil] at hc ⊢
    go_enter Tryd.func23, Tryd.ntmps23
    go_wp2_with fail
    refine HJ.out.mono ?_
    rintro e w1 ⟨rfl, hb1⟩
    go_wp2
    go_ret
    rw [HR.out]
    exact gives_one w w1 _ hb1
  | succ N ih =>
    intro A c ss w hN hc hm hM hs hz
    by_cases hl0 : ss.length = 0
    · exact ih A c ss w (by omega) hc hm hM hs hz
    · obtain ⟨ad, rfl, _, h0⟩ := hs 0 (by omega)
      by_cases hl : ss.length = 1
      · obtain ⟨x, rfl⟩ := List.length_eq_one_iff.1 hl
        have hx := hz x (by simp)
        have h0' : w.cell? ad = some (.string x) := by simpa [Addr.add] using h0
        have HR := Lib.hid (Tr.texts_one x)
        have HJ := Lib.hid (rjoined_lit w [⟨#[108, 101, 97, 102]⟩, x] (sz2 (szl [_, _, _, _] (by decide)) hx) (by simp))
        clear h0 hz hs hl hl0 hN ih
        unfold maxLen at hm
        simp only [List.length_singleton] at hc ⊢
        go_enter Tryd.func23, Tryd.ntmps23
        go_wp2_with fail
        refine HJ.out.mono ?_
        rintro e w1 ⟨rfl, hb1⟩
        go_wp2
        go_ret
        rw [HR.out]
        exact gives_one w w1 _ hb1
      · have l1 := Tr.half_lt (n := ss.length) (by omega)
        have l2 := Tr.half_pos ss.length
        have HR := Lib.hid (Tr.texts_two (l := ss) (by omega))
        have hs1 := hs.take (Tr.half ss.length)
        have hs2 := hs.drop (Tr.half ss.length)
        have HF := Lib.hid (fun w => half_any ss.length w (by omega) (by omega))
        have n1 : (ss.take (Tr.half ss.length)).length = Tr.half ss.length := by rw [List.length_take]; omega
        have n2 : (ss.drop (Tr.half ss.length)).length = ss.length - Tr.half ss.length := List.length_drop
        have t1 := (texts_length _ (ss.take (Tr.half ss.length)) (Nat.le_refl _)).1
        have t2 := (texts_length _ (ss.drop (Tr.half ss.length)) (Nat.le_refl _)).1
        have ih1 := fun w' (hb : Below w.heap.size w w') => ih (some ad) c (ss.take (Tr.half ss.length)) w' (by omega) (by omega) hm (by omega) (hs1.bt hb) (fun s h => hz s (List.mem_of_mem_take h))
        have ih2 := fun w' (hb : Below w.heap.size w w') => ih (some (ad.add (Tr.half ss.length))) (c - Tr.half ss.length) (ss.drop (Tr.half ss.length)) w' (by omega) (by omega) (by unfold maxLen at hm ⊢; omega) (by omega) (hs2.bt hb) (fun s h => hz s (List.mem_of_mem_drop h))
        have r1 := fun w' (hb : Below w.heap.size w w') => rroot_any _ (some ad) c (ss.take (Tr.half ss.length)) w' (Nat.le_refl _) (by omega) hm (by omega) (hs1.bt hb) (fun s h => hz s (List.mem_of_mem_take h))
        have r2 := fun w' (hb : Below w.heap.size w w') => rroot_any _ (some (ad.add (Tr.half ss.length))) (c - Tr.half ss.length) (ss.drop (Tr.half ss.length)) w' (Nat.le_refl _) (by omega) (by unfold maxLen at hm ⊢; omega) (by omega) (hs2.bt hb) (fun s h => hz s (List.mem_of_mem_drop h))
        rw [n1] at ih1 r1 t1
        rw [n2] at ih2 r2 t2
        have I1 := Lib.hid ih1
        have I2 := Lib.hid ih2
        have R1 := Lib.hid r1
        have R2 := Lib.hid r2
        have Z1 := Lib.hid (Tr.root_size (ss.take (Tr.half ss.length)))
        have Z2 := Lib.hid (Tr.root_size (ss.drop (Tr.half ss.length)))
        have hne : ss.length ≠ 1 := hl
        clear ih1 ih2 r1 r2 hz ih hs n1 n2 hl h0
        generalize Tr.root (ss.take (Tr.half ss.length)) = q1 at *
        generalize Tr.root (ss.drop (Tr.half ss.length)) = q2 at *
        generalize Tr.texts (ss.take (Tr.half ss.length)) = x1 at *
        generalize Tr.texts (ss.drop (Tr.half ss.length)) = x2 at *
        generalize Tr.texts ss = x0 at *
        generalize ss.take (Tr.half ss.length) = s1 at *
        generalize ss.drop (Tr.half ss.length) = s2 at *
        generalize Tr.half ss.length = k at *
        generalize ss.length = n at *
        have HJ := Lib.hid (fun w' => rjoined_lit w' [⟨#[110, 111, 100, 101]⟩, q1, q2] (sz3 (szl [_, _, _, _] (by decide)) (by rw [Z1.out]; omega) (by rw [Z2.out]; omega)) (by simp))
        generalize Tr.jn [⟨#[110, 111, 100, 101]⟩, q1, q2] = own at *
        unfold maxLen at hm
        have k1 : (0 : Int) ≤ (k : Int) := by omega
        have k2 : (k : Int) ≤ (n : Int) := by omega
        have k3 : (k : Int) ≤ (c : Int) := by omega
        have k4 : ¬ c = k := by omega
        have k5 : ¬ c = 0 := by omega
        go_enter Tryd.func23, Tryd.ntmps23
        go_wp2_with (go_at_call 38; refine (HF.out _).mono ?_; rintro e w1 ⟨rfl, rfl⟩)
        go_region_held3 (fun _ => True) (trivial)
          (first
            | (go_at_call 16
               (with_reducible refine (R1.out _ (Bd w)).mono ?_)
               rintro e w1 ⟨rfl, hb1⟩
               have hb1' := Bt (Bd w) hb1)
            | (go_at_call 16
               (with_reducible refine (R2.out _ hb1').mono ?_)
               rintro e w2 ⟨rfl, hb2⟩
               have hb2' := Bt hb1' hb2)
            | (go_at_call 51
               refine (HJ.out w2).mono ?_
               rintro e w3 ⟨rfl, hb3⟩
               have hb3' := Bt hb2' hb3)
            | fail)
        go_wp2_with fail
        have bA : ∀ v : World, Below v.heap.size v (v.alloc (.cells #[.string own] 9)) := fun v => (Below.refl _ v).alloc (Nat.le_refl _) _
        have BA := Lib.hid bA
        clear bA
        have hz3 := hb3'.size
        go_region_held3 (fun _ => True) (trivial)
          (first
            -- the first list: the box is not made yet, or it is
            | (go_at_call 23
               (with_reducible refine (I1.out _ (Bt hb3' (Bd w3))).mono ?_)
               rintro e w4 ⟨v4, rfl, ho4', hb4⟩
               have hb4' := Bt (Bt hb3' (Bd w3)) hb4
               have ho4 := OwnS.mono (B' := w.heap.size) ho4' hz3)
            | (go_at_call 23
               (with_reducible refine (I1.out _ (Bt hb3' (Bt (BA.out w3) (Bd _)))).mono ?_)
               rintro e w4 ⟨v4, rfl, ho4', hb4⟩
               have hb4' := Bt (Bt hb3' (Bt (BA.out w3) (Bd _))) hb4
               have ho4 := OwnS.mono (B' := w.heap.size) ho4' (by simp; omega)
               have ne4 : ∀ k, v4.ownBlock = some k → k ≠ w3.heap.size := fun k hk => by have := (OwnS.lt ho4' k hk).1; simp at this; omega
               have box4 := own_below (own_below (own_one w3 w.heap.size own hz3) (Bd _)) hb4)
            -- the second list
            | (go_at_call 23
               (with_reducible refine (I2.out _ hb4').mono ?_)
               rintro e w5 ⟨v5, rfl, ho5, hb5⟩
               have hb5' := Bt hb4' hb5
               have ho45 := own_below ho4 hb5
               have box5 := own_below box4 hb5
               have ne5 := ne4)
            | (go_at_call 23
               (with_reducible refine (I2.out _ hb4').mono ?_)
               rintro e w5 ⟨v5, rfl, ho5, hb5⟩
               have hb5' := Bt hb4' hb5
               have ho45 := own_below ho4 hb5)
            | (go_at_call 23
               (with_reducible refine (I2.out _ (Bt hb4' (BA.out w4))).mono ?_)
               rintro e w5 ⟨v5, rfl, ho5, hb5⟩
               have hb5' := Bt (Bt hb4' (BA.out w4)) hb5
               have ho45 := own_below (own_below ho4 (BA.out w4)) hb5
               have box5 := own_below (own_one w4 w.heap.size own hb4'.size) hb5
               have ne5 : ∀ k, v4.ownBlock = some k → k ≠ w4.heap.size := fun k hk => by have := (OwnS.lt ho4 k hk).2; omega)
            -- their joining
            | ((refine step_append3 (by rfl) (.tmp 36) (.tmp 40) (by rfl) w.heap.size v4 x1 (by rfl) ho45 v5 _ x2 (by rfl) ho5 (by omega) hb5'.size ?_)
               intro v6 w6 ho6 hb6 hg6
               have hb6' := hb5'.trans hb6
               have box6 := box_kept box5 hg6 ne5)
            | ((refine step_append3 (by rfl) (.tmp 36) (.tmp 40) (by rfl) w.heap.size v4 x1 (by rfl) ho45 v5 _ x2 (by rfl) ho5 (by omega) hb5'.size ?_)
               intro v6 w6 ho6 hb6 hg6
               have hb6' := hb5'.trans hb6)
            | ((refine step_append3 (by rfl) (.tmp 36) (.tmp 40) (by rfl) w.heap.size v4 x1 (by rfl) (own_below ho45 (BA.out w5)) v5 _ x2 (by rfl) (own_below ho5 (BA.out w5)) (by omega) (Bt hb5' (BA.out w5)).size ?_)
               intro v6 w6 ho6 hb6 hg6
               have hb6' := (Bt hb5' (BA.out w5)).trans hb6
               have box6 := box_kept (own_one w5 w.heap.size own hb5'.size) hg6 (fun k hk => by have := (OwnS.lt ho45 k hk).2; omega))
            -- the box behind them
            | ((refine step_append3 (by rfl) (.tmp 41) (.tmp 43) (by rfl) w.heap.size v6 (x1 ++ x2) (by rfl) ho6 _ _ [own] (by rfl) box6 (by simp; omega) hb6'.size ?_)
               intro v7 w7 ho7 hb7 hg7
               have hb7' := hb6'.trans hb7)
            | ((refine step_append3 (by rfl) (.tmp 41) (.tmp 43) (by rfl) w.heap.size v6 (x1 ++ x2) (by rfl) (own_below ho6 (BA.out w6)) _ _ [own] (by rfl) (own_one w6 w.heap.size own hb6'.size) (by simp; omega) (Bt hb6' (BA.out w6)).size ?_)
               intro v7 w7 ho7 hb7 hg7
               have hb7' := (Bt hb6' (BA.out w6)).trans hb7)
            | fail)
        all_goals
          obtain ⟨A7, c7, rfl, _⟩ := ho7.form
          go_wp2_with fail
          go_ret
          exact ⟨_, rfl, by rw [HR.out]; exact ho7, hb7'⟩
end Go.Proofs.YtkakbookioimhaaDoor
