/- linkRoots of the program. -/
import Derived.Test.YtkakbookioimhaaDoorTrE
import Derived.Test.YtkakbookioimhaaDoorTrMathL
import Derived.WalkKit
import Derived.Below
import Derived.Outline
import Derived.Lib.Hide
namespace Go.Proofs.YtkakbookioimhaaDoor
open Go.RowKit

theorem Small.lr {M : Nat} (hM : 16 ≤ M) : ∀ (N n m : Nat) (old : ByteArray) (first : Bool) (s : Tr.St), n ≤ N → 0 < m → m ≤ n → Small M s → old.size ≤ M → Small M (Tr.lr n m old first s).2.2 ∧ (Tr.lr n m old first s).1.size ≤ M ∧ (Tr.lr n m old first s).2.1.size ≤ M
  | 0, n, m, old, first, s, hN, h0, hm, h, hd => by omega
  | N + 1, n, m, old, first, s, hN, h0, hm, h, hd => by
    by_cases h1 : m = n
    · subst h1
      rw [Tr.lr_all]
      cases first with
      | true => exact ⟨h, hd, hd⟩
      | false => exact ⟨h.tk.1, h.tk.2, h.tk.2⟩
    · have l1 := Tr.half_lt (n := n) (by omega)
      have l2 := Tr.half_pos n
      by_cases hk : m ≤ Tr.half n
      · rw [Tr.lr_lo old first s (by omega) (by omega) hk]
        have := Small.lr hM N (Tr.half n) m old first s (by omega) h0 hk h hd
        exact ⟨this.1.tk.1, this.2.1, by rw [node_size]; exact hM⟩
      · rw [Tr.lr_hi old first s (by omega) (by omega) hk]
        have := Small.lr hM N (n - Tr.half n) (m - Tr.half n) old false s (by omega) (by omega) (by omega) h hd
        exact ⟨this.1.tk.1, by rw [node_size]; exact hM, by rw [node_size]; exact hM⟩

def LinkRoots (n m : Nat) (old : ByteArray) (first : Bool) (b : Nat) (s : Tr.St) (w : World) (e : Ending) (w' : World) : Prop :=
  e = .returned (.tuple #[.string (Tr.lr n m old first s).1, .string (Tr.lr n m old first s).2.1]) ∧ RestAt w' b (Tr.lr n m old first s).2.2 ∧ Below b w w'

set_option maxHeartbeats 1000000 in
theorem linkRoots_any (N : Nat) : ∀ (n m : Nat) (old : ByteArray) (first : Bool) (b : Nat) (s : Tr.St) (w : World), n ≤ N → 0 < m → m ≤ n → n ≤ 1000000 → Small 1000000000 s → old.size ≤ 1000000000 → RestAt w b s → Pow b w →
    Calls Tryd.prog 47 #[.pointer (some ⟨b, 0, none⟩), .int .i64 (n : Int), .int .i64 (m : Int), .string old, .bool first] w (LinkRoots n m old first b s w) := by
  induction N with
  | zero => intro n m old first b s w h0 h1 h2; omega
  | succ N ih =>
    intro n m old first b s w hN h0 hm hM hS hd hr hp
    by_cases hl : m = n
    · subst hl
      unfold LinkRoots
      rw [Tr.lr_all]
      have HRR := Lib.hid hr
      clear hr hS ih
      cases first with
      | true =>
        go_enter Tryd.func47, Tryd.ntmps47
        go_wp2_with fail
        go_ret2
        exact ⟨rfl, HRR.out, Below.refl _ _⟩
      | false =>
        go_enter Tryd.func47, Tryd.ntmps47
        go_wp2_with fail
        refine (take_any' b s w HRR.out).mono ?_
        rintro e w2 ⟨rfl, hr2, hb2⟩
        go_wp2
        go_ret2
        exact ⟨rfl, hr2, hb2⟩
    · have l1 := Tr.half_lt (n := n) (by omega)
      have l2 := Tr.half_pos n
      have HF := Lib.hid (fun w => firstSize_any n w (by omega) (by unfold maxLen; omega))
      have hne : m ≠ n := hl
      have hlt := hr.lt
      by_cases hk : m ≤ Tr.half n
      · have HR := Lib.hid (Tr.lr_lo old first s (n := n) (m := m) (by omega) (by omega) hk)
        have sz := Small.lr (M := 1000000000) (by omega) n (Tr.half n) m old first s (by omega) h0 hk hS hd
        have h1 := ih (Tr.half n) m old first b s w (by omega) h0 hk (by omega) hS hd hr hp
        have H1 := Lib.hid h1
        have SZ := Lib.hid sz
        have ST := Lib.hid sz.1.tk
        clear ih hS hr h1 sz hl
        generalize hpr : Tr.lr (Tr.half n) m old first s = q at *
        have HPR := Lib.hid hpr
        clear hpr
        generalize Tr.half n = k at *
        go_enter Tryd.func47, Tryd.ntmps47
        go_wp2_with (first
          | (go_at_call 34; (with_reducible refine (HF.out _).mono ?_); rintro e w1 ⟨rfl, rfl⟩)
          | fail)
        refine H1.out.mono ?_
        rintro e w1 ⟨rfl, hr1, hb1⟩
        rw [HPR.out] at hr1 ⊢
        go_wp2_with fail
        refine (take_any' b q.2.2 w1 hr1).mono ?_
        rintro e w2 ⟨rfl, hr2, hb2⟩
        have hb2' := hb1.trans hb2
        go_wp2_with fail
        refine (node_any q.2.1 (Tr.tk q.2.2).1 w2 SZ.out.2.2 ST.out.2 (hp.up hb2' (Nat.le_of_lt hr2.lt))).mono ?_
        rintro e w3 ⟨rfl, hb3⟩
        go_wp2
        go_ret2
        exact ⟨by rw [HR.out]; rfl, by rw [HR.out]; exact hr2.bt hb3, hb2'.trans (hb3.mono (Nat.le_of_lt hr2.lt))⟩
      · have HR := Lib.hid (Tr.lr_hi old first s (n := n) (m := m) (by omega) (by omega) hk)
        have sz := Small.lr (M := 1000000000) (by omega) n (n - Tr.half n) (m - Tr.half n) old false s (by omega) (by omega) (by omega) hS hd
        have h1 := ih (n - Tr.half n) (m - Tr.half n) old false b s w (by omega) (by omega) (by omega) (by omega) hS hd hr hp
        have H1 := Lib.hid h1
        have SZ := Lib.hid sz
        have ST := Lib.hid sz.1.tk
        clear ih hS hr h1 sz hl
        generalize hpr : Tr.lr (n - Tr.half n) (m - Tr.half n) old false s = q at *
        have HPR := Lib.hid hpr
        clear hpr
        generalize Tr.half n = k at *
        have e1 : (n : Int) - (k : Int) = ((n - k : Nat) : Int) := by omega
        have e2 : (m : Int) - (k : Int) = ((m - k : Nat) : Int) := by omega
        have E1 := Lib.hid e1
        have E2 := Lib.hid e2
        clear e1 e2
        go_enter Tryd.func47, Tryd.ntmps47
        go_wp2_with (first
          | (go_at_call 34; (with_reducible refine (HF.out _).mono ?_); rintro e w1 ⟨rfl, rfl⟩)
          | fail)
        rw [E1.out, E2.out]
        refine H1.out.mono ?_
        rintro e w1 ⟨rfl, hr1, hb1⟩
        rw [HPR.out] at hr1 ⊢
        go_wp2_with fail
        refine (take_any' b q.2.2 w1 hr1).mono ?_
        rintro e w2 ⟨rfl, hr2, hb2⟩
        have hb2' := hb1.trans hb2
        go_wp2_with fail
        refine (node_any (Tr.tk q.2.2).1 q.1 w2 ST.out.2 SZ.out.2.1 (hp.up hb2' (Nat.le_of_lt hr2.lt))).mono ?_
        rintro e w3 ⟨rfl, hb3⟩
        have hb3' := hb2'.trans (hb3.mono (Nat.le_of_lt hr2.lt))
        have hr3 := hr2.bt hb3
        go_wp2_with fail
        refine (node_any (Tr.tk q.2.2).1 q.2.1 w3 ST.out.2 SZ.out.2.2 (hp.up hb3' (Nat.le_of_lt hr3.lt))).mono ?_
        rintro e w4 ⟨rfl, hb4⟩
        go_wp2
        go_ret2
        exact ⟨by rw [HR.out]; rfl, by rw [HR.out]; exact hr3.bt hb4, hb3'.trans (hb4.mono (Nat.le_of_lt hr3.lt))⟩
end Go.Proofs.YtkakbookioimhaaDoor
