/- The reference's both. -/
import Derived.Test.YtkakbookioimhaaDoorTrU
import Derived.Test.YtkakbookioimhaaDoorTrMathL
import Derived.WalkKit
import Derived.Below
import Derived.Outline
import Derived.Lib.Hide
import Derived.BigQuiet
import Derived.Deep.QuietTactic
import Derived.Deep.Draws
namespace Go.Proofs.YtkakbookioimhaaDoor
open Go.RowKit

theorem long_step {n m : Nat} (first : Bool) (h0 : m < n) (h : 2 ≤ n) : ∃ j, Tr.long n m first = j + 1 ∧ (m ≤ Tr.half n → Tr.long (Tr.half n) m first = j) ∧ (¬ m ≤ Tr.half n → Tr.long (n - Tr.half n) (m - Tr.half n) false = j) := by
  by_cases hi : m ≤ Tr.half n
  · exact ⟨_, Tr.long_lo first h0 h hi, fun _ => rfl, fun h => absurd hi h⟩
  · exact ⟨_, Tr.long_hi first h0 h hi, fun h => absurd h hi, fun _ => rfl⟩

theorem both_size (M : Nat) (hM : 16 ≤ M) : ∀ (N n m : Nat) (first : Bool) (old : ByteArray) (p : List ByteArray), n ≤ N → 0 < m → m ≤ n → old.size ≤ M → (∀ s ∈ p, s.size ≤ M) → (Tr.both n m first old p).1.size ≤ M ∧ (Tr.both n m first old p).2.size ≤ M
  | 0, n, m, first, old, p, hN, h0, hm, hd, hz => by omega
  | N + 1, n, m, first, old, p, hN, h0, hm, hd, hz => by
    by_cases h1 : m = n
    · subst h1
      rw [Tr.both_all]
      cases first with
      | true => exact ⟨hd, hd⟩
      | false =>
        have : (p.headD ⟨#[]⟩).size ≤ M := by
          cases p with
          | nil => exact Nat.zero_le _
          | cons x r => exact hz x (List.mem_cons_self ..)
        exact ⟨this, this⟩
    · have l1 := Tr.half_lt (n := n) (by omega)
      have l2 := Tr.half_pos n
      have hz' : ∀ s ∈ p.dropLast, s.size ≤ M := fun s h => hz s (List.dropLast_subset p h)
      by_cases hk : m ≤ Tr.half n
      · rw [Tr.both_lo first old p (by omega) (by omega) hk]
        exact ⟨(both_size M hM N (Tr.half n) m first old p.dropLast (by omega) h0 hk hd hz').1, by show (Tr.node _ _).size ≤ M; rw [Tr.node, Tr.dg_size]; exact hM⟩
      · rw [Tr.both_hi first old p (by omega) (by omega) hk]
        exact ⟨by show (Tr.node _ _).size ≤ M; rw [Tr.node, Tr.dg_size]; exact hM, by show (Tr.node _ _).size ≤ M; rw [Tr.node, Tr.dg_size]; exact hM⟩

def Boths (n m : Nat) (first : Bool) (old : ByteArray) (p : List ByteArray) (w : World) (e : Ending) (w' : World) : Prop :=
  e = .returned (.tuple #[.string (Tr.both n m first old p).1, .string (Tr.both n m first old p).2]) ∧ Below w.heap.size w w'

set_option maxHeartbeats 1000000 in
theorem both_any (N : Nat) : ∀ (n m : Nat) (first : Bool) (old : ByteArray) (A : Option Addr) (c : Nat) (p : List ByteArray) (w : World), n ≤ N → 0 < m → m ≤ n → n ≤ 1000000 → p.length = Tr.long n m first → p.length ≤ c → c ≤ maxLen → Strs w w.heap.size A p → (∀ s ∈ p, s.size ≤ 1000000000) → old.size ≤ 1000000000 →
    Calls Tryd.prog 49 #[.int .i64 (n : Int), .int .i64 (m : Int), .bool first, .string old, .slice A p.length c] w (Boths n m first old p w) := by
  induction N with
  | zero => intro n m first old A c p w h0 h1 h2; omega
  | succ N ih =>
    intro n m first old A c p w hN h0 hmn hM hlen hc hm hs hz hd
    by_cases hl : m = n
    · subst hl
      unfold Boths
      rw [Tr.both_all]
      rw [Tr.long_all] at hlen
      cases first with
      | true =>
        clear hs hz ih
        generalize p.length = k at *
        go_enter Tryd.func49, Tryd.ntmps49
        go_wp2_with fail
        go_ret2
        exact ⟨rfl, Below.refl _ _⟩
      | false =>
        simp only [Bool.false_eq_true, if_false] at hlen ⊢
        obtain ⟨x, rfl⟩ := List.length_eq_one_iff.1 hlen
        obtain ⟨ad, rfl, _, hx⟩ := hs 0 (by simp)
        have hx' : w.cell? ad = some (.string x) := by simpa [Addr.add] using hx
        clear hs hz ih hx hlen
        simp only [List.length_singleton, List.headD_cons] at hc ⊢
        go_enter Tryd.func49, Tryd.ntmps49
        go_wp2_with fail
        go_quiet (fail)
        go_wp2_with fail
        go_ret2
        exact ⟨rfl, ⟨rfl, rfl, rfl, Nat.le_refl _, fun _ _ => rfl⟩⟩
    · have l1 := Tr.half_lt (n := n) (by omega)
      have l2 := Tr.half_pos n
      have HF := Lib.hid (fun w => half_any n w (by omega) hM)
      have hne : m ≠ n := hl
      obtain ⟨j, hj, j1, j2⟩ := long_step (n := n) (m := m) first (by omega) (by omega)
      rw [hj] at hlen
      obtain ⟨ad, rfl, hcell, hmem⟩ := hs.last hlen
      have hlast := hz _ hmem
      have hs' := hs.dropLast
      have hz' : ∀ s ∈ p.dropLast, s.size ≤ 1000000000 := fun s h => hz s (List.dropLast_subset p h)
      have hdl : p.dropLast.length = j := by rw [List.length_dropLast, hlen]; rfl
      unfold maxLen at hm
      by_cases hk : m ≤ Tr.half n
      · have HR := Lib.hid (Tr.both_lo first old p (n := n) (m := m) (by omega) (by omega) hk)
        have h1 := ih (Tr.half n) m first old (some ad) c p.dropLast w (by omega) h0 hk (by omega) (by rw [hdl, j1 hk]) (by omega) (by unfold maxLen; omega) hs' hz' hd
        rw [hdl] at h1
        have H1 := Lib.hid h1
        have SZ := Lib.hid (both_size 1000000000 (by omega) _ (Tr.half n) m first old p.dropLast (Nat.le_refl _) h0 hk hd hz')
        have HL := Lib.hid hlast
        rw [hlen] at hc ⊢
        clear ih hs hs' hz hz' h1 hl j1 j2 hlast hmem hdl hlen hj
        unfold Boths at H1 ⊢
        generalize Tr.both (Tr.half n) m first old p.dropLast = q at *
        generalize p.getLastD ⟨#[]⟩ = x at *
        generalize Tr.half n = k at *
        go_enter Tryd.func49, Tryd.ntmps49
        go_wp2_with (first
          | (go_at_call 38; (with_reducible refine (HF.out _).mono ?_); rintro e w1 ⟨rfl, rfl⟩)
          | fail)
        refine H1.out.mono ?_
        rintro e w1 ⟨rfl, hb1⟩
        go_wp2_with fail
        refine (rnode_any q.2 x w1 SZ.out.2 HL.out).mono ?_
        rintro e w2 ⟨rfl, hb2⟩
        go_wp2
        go_ret2
        exact ⟨by rw [HR.out]; rfl, Bt hb1 hb2⟩
      · have HR := Lib.hid (Tr.both_hi first old p (n := n) (m := m) (by omega) (by omega) hk)
        have h1 := ih (n - Tr.half n) (m - Tr.half n) false old (some ad) c p.dropLast w (by omega) (by omega) (by omega) (by omega) (by rw [hdl, j2 hk]) (by omega) (by unfold maxLen; omega) hs' hz' hd
        rw [hdl] at h1
        have H1 := Lib.hid h1
        have SZ := Lib.hid (both_size 1000000000 (by omega) _ (n - Tr.half n) (m - Tr.half n) false old p.dropLast (Nat.le_refl _) (by omega) (by omega) hd hz')
        have HL := Lib.hid hlast
        rw [hlen] at hc ⊢
        clear ih hs hs' hz hz' h1 hl j1 j2 hlast hmem hdl hlen hj
        unfold Boths at H1 ⊢
        generalize Tr.both (n - Tr.half n) (m - Tr.half n) false old p.dropLast = q at *
        generalize p.getLastD ⟨#[]⟩ = x at *
        generalize Tr.half n = k at *
        have E1 := Lib.hid (show (n : Int) - (k : Int) = ((n - k : Nat) : Int) by omega)
        have E2 := Lib.hid (show (m : Int) - (k : Int) = ((m - k : Nat) : Int) by omega)
        go_enter Tryd.func49, Tryd.ntmps49
        go_wp2_with (first
          | (go_at_call 38; (with_reducible refine (HF.out _).mono ?_); rintro e w1 ⟨rfl, rfl⟩)
          | fail)
        rw [E1.out, E2.out]
        refine H1.out.mono ?_
        rintro e w1 ⟨rfl, hb1⟩
        go_wp2_with fail
        refine (rnode_any x q.1 w1 HL.out SZ.out.1).mono ?_
        rintro e w2 ⟨rfl, hb2⟩
        go_wp2_with fail
        refine (rnode_any x q.2 w2 HL.out SZ.out.2).mono ?_
        rintro e w3 ⟨rfl, hb3⟩
        go_wp2
        go_ret2
        exact ⟨by rw [HR.out]; rfl, Bt (Bt hb1 hb2) hb3⟩
end Go.Proofs.YtkakbookioimhaaDoor
