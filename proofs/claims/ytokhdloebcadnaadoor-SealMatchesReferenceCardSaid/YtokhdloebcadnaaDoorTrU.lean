/- The reference's up and PathTexts. -/
import Derived.Test.YtokhdloebcadnaaDoorTrQ
import Derived.Test.YtokhdloebcadnaaDoorTrP
import Derived.WalkKit
import Derived.Below
import Derived.Outline
import Derived.Lib.Hide
namespace Go.Proofs.YtokhdloebcadnaaDoor
open Go.RowKit
set_option maxRecDepth 100000

theorem Strs.dropLast {w : World} {B : Nat} {A : Option Addr} {p : List ByteArray} (h : Strs w B A p) : Strs w B A p.dropLast := by
  rw [List.dropLast_eq_take]
  exact h.take _

theorem Strs.last {w : World} {B : Nat} {A : Option Addr} {p : List ByteArray} {j : Nat} (h : Strs w B A p) (hj : p.length = j + 1) : ∃ ad, A = some ad ∧ w.cell? (ad.add j) = some (.string (p.getLastD ⟨#[]⟩)) ∧ p.getLastD ⟨#[]⟩ ∈ p := by
  obtain ⟨ad, rfl, _, hc⟩ := h j (by omega)
  have e : p.getLastD ⟨#[]⟩ = p.getD j ByteArray.empty := by
    have hne : p ≠ [] := fun e => by rw [e] at hj; simp at hj
    rw [List.getD_eq_getElem?_getD, List.getElem?_eq_getElem (by omega), List.getLastD_eq_getLast?, List.getLast?_eq_some_getLast hne, List.getLast_eq_getElem]
    simp [hj]
  have em : p.getD j ByteArray.empty ∈ p := by
    rw [List.getD_eq_getElem?_getD, List.getElem?_eq_getElem (by omega)]
    exact List.getElem_mem _
  exact ⟨ad, rfl, by rw [e]; exact hc, by rw [e]; exact em⟩

theorem up_size (M : Nat) (hM : 16 ≤ M) (n i : Nat) (d : ByteArray) (p : List ByteArray) (hd : d.size ≤ M) : (Tr.up n i d p).size ≤ M := by
  by_cases h1 : n ≤ 1
  · rw [Tr.up_one i d p h1]; exact hd
  · by_cases hi : i < Tr.half n
    · rw [Tr.up_lo d p (by omega) hi, Tr.node, Tr.dg_size]; exact hM
    · rw [Tr.up_hi d p (by omega) hi, Tr.node, Tr.dg_size]; exact hM

theorem len_step {n i : Nat} (h : 2 ≤ n) : ∃ j, Tr.len n i = j + 1 ∧ (i < Tr.half n → Tr.len (Tr.half n) i = j) ∧ (¬ i < Tr.half n → Tr.len (n - Tr.half n) (i - Tr.half n) = j) := by
  by_cases hi : i < Tr.half n
  · exact ⟨_, Tr.len_lo h hi, fun _ => rfl, fun h => absurd hi h⟩
  · exact ⟨_, Tr.len_hi h hi, fun h => absurd h hi, fun _ => rfl⟩

set_option maxHeartbeats 1000000 in
theorem up_any (N : Nat) : ∀ (n i : Nat) (d : ByteArray) (A : Option Addr) (c : Nat) (p : List ByteArray) (w : World), n ≤ N → i < n → n ≤ 1000000 → p.length = Tr.len n i → p.length ≤ c → c ≤ maxLen → Strs w w.heap.size A p → (∀ s ∈ p, s.size ≤ 1000000000) → d.size ≤ 1000000000 →
    Calls Tryd.prog 75 #[.int .i64 (n : Int), .int .i64 (i : Int), .string d, .slice A p.length c] w fun e w' => e = .returned (.string (Tr.up n i d p)) ∧ Below w.heap.size w w' := by
  induction N with
  | zero => intro n i d A c p w h0 h1; omega
  | succ N ih =>
    intro n i d A c p w hN hi hM hlen hc hm hs hz hd
    by_cases hl : n = 1
    · subst hl
      have HR := Lib.hid (Tr.up_one i d p (Nat.le_refl 1))
      clear hs hz ih
      generalize p.length = k at *
      go_enter Tryd.func75, Tryd.ntmps75
      go_wp2_with fail
      go_ret
      exact ⟨by rw [HR.out]; rfl, Below.refl _ _⟩
    · have l1 := Tr.half_lt (n := n) (by omega)
      have l2 := Tr.half_pos n
      have HF := Lib.hid (fun w => half_any n w (by omega) hM)
      have hne : n ≠ 1 := hl
      obtain ⟨j, hj, j1, j2⟩ := len_step (n := n) (i := i) (by omega)
      rw [hj] at hlen
      obtain ⟨ad, rfl, hcell, hmem⟩ := hs.last hlen
      have hlast := hz _ hmem
      have hs' := hs.dropLast
      have hz' : ∀ s ∈ p.dropLast, s.size ≤ 1000000000 := fun s h => hz s (List.dropLast_subset p h)
      have hdl : p.dropLast.length = j := by rw [List.length_dropLast, hlen]; rfl
      unfold maxLen at hm
      by_cases hk : i < Tr.half n
      · have HR := Lib.hid (Tr.up_lo d p (n := n) (by omega) hk)
        have h1 := fun w' (hb : Below w.heap.size w w') => ih (Tr.half n) i d (some ad) c p.dropLast w' (by omega) hk (by omega) (by rw [hdl, j1 hk]) (by omega) (by unfold maxLen; omega) (hs'.bt hb) hz' hd
        rw [hdl] at h1
        have H1 := Lib.hid h1
        have SZ := Lib.hid (up_size 1000000000 (by omega) (Tr.half n) i d p.dropLast hd)
        have HL := Lib.hid hlast
        rw [hlen] at hc ⊢
        clear ih hs hs' hz hz' h1 hl j1 j2 hlast hmem hdl hlen hj
        generalize Tr.up (Tr.half n) i d p.dropLast = q at *
        generalize p.getLastD ⟨#[]⟩ = x at *
        generalize Tr.half n = k at *
        go_enter Tryd.func75, Tryd.ntmps75
        go_wp2_with (first
          | (go_at_call 59; (with_reducible refine (HF.out _).mono ?_); rintro e w1 ⟨rfl, rfl⟩)
          | fail)
        refine (H1.out w (Below.refl _ _)).mono ?_
        rintro e w1 ⟨rfl, hb1⟩
        go_wp2_with fail
        refine (rnode_any q x w1 SZ.out HL.out).mono ?_
        rintro e w2 ⟨rfl, hb2⟩
        go_wp2
        go_ret
        exact ⟨by rw [HR.out]; rfl, Bt hb1 hb2⟩
      · have HR := Lib.hid (Tr.up_hi d p (n := n) (by omega) hk)
        have h1 := fun w' (hb : Below w.heap.size w w') => ih (n - Tr.half n) (i - Tr.half n) d (some ad) c p.dropLast w' (by omega) (by omega) (by omega) (by rw [hdl, j2 hk]) (by omega) (by unfold maxLen; omega) (hs'.bt hb) hz' hd
        rw [hdl] at h1
        have H1 := Lib.hid h1
        have SZ := Lib.hid (up_size 1000000000 (by omega) (n - Tr.half n) (i - Tr.half n) d p.dropLast hd)
        have HL := Lib.hid hlast
        rw [hlen] at hc ⊢
        clear ih hs hs' hz hz' h1 hl j1 j2 hlast hmem hdl hlen hj
        generalize Tr.up (n - Tr.half n) (i - Tr.half n) d p.dropLast = q at *
        generalize p.getLastD ⟨#[]⟩ = x at *
        generalize Tr.half n = k at *
        have E1 := Lib.hid (show (n : Int) - (k : Int) = ((n - k : Nat) : Int) by omega)
        have E2 := Lib.hid (show (i : Int) - (k : Int) = ((i - k : Nat) : Int) by omega)
        go_enter Tryd.func75, Tryd.ntmps75
        go_wp2_with (first
          | (go_at_call 59; (with_reducible refine (HF.out _).mono ?_); rintro e w1 ⟨rfl, rfl⟩)
          | fail)
        rw [E1.out, E2.out]
        refine (H1.out w (Below.refl _ _)).mono ?_
        rintro e w1 ⟨rfl, hb1⟩
        go_wp2_with fail
        refine (rnode_any x q w1 HL.out SZ.out).mono ?_
        rintro e w2 ⟨rfl, hb2⟩
        go_wp2
        go_ret
        exact ⟨by rw [HR.out]; rfl, Bt hb1 hb2⟩
end Go.Proofs.YtokhdloebcadnaaDoor
