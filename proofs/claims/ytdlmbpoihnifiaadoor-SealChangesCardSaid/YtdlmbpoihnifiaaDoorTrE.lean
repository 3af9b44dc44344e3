/- pathRoot and Check of the program. -/
import Derived.Test.YtdlmbpoihnifiaaDoorTrD
import Derived.Test.YtdlmbpoihnifiaaDoorTrC
import Derived.WalkKit
import Derived.Below
import Derived.Outline
import Derived.Lib.Hide
namespace Go.Proofs.YtdlmbpoihnifiaaDoor
open Go.RowKit
set_option maxRecDepth 100000

theorem node_size (x y : ByteArray) : (Tr.node x y).size = 16 := Tr.dg_size _
theorem leaf_size (x : ByteArray) : (Tr.leaf x).size = 16 := Tr.dg_size _

def Small (M : Nat) (s : Tr.St) : Prop := ∀ x ∈ s.1, x.size ≤ M
theorem Small.tk {M : Nat} {s : Tr.St} (h : Small M s) : Small M (Tr.tk s).2 ∧ (Tr.tk s).1.size ≤ M := by
  obtain ⟨l, lk⟩ := s
  cases l with
  | nil => exact ⟨fun x hx => absurd hx (by simp [Tr.tk]), Nat.zero_le _⟩
  | cons x r => exact ⟨fun y hy => h y (List.mem_cons_of_mem _ hy), h x (List.mem_cons_self ..)⟩
theorem Small.pr {M : Nat} (hM : 16 ≤ M) : ∀ (N n i : Nat) (d : ByteArray) (s : Tr.St), n ≤ N → Small M s → d.size ≤ M → Small M (Tr.pr n i d s).2 ∧ (Tr.pr n i d s).1.size ≤ M
  | 0, n, i, d, s, hN, h, hd => by rw [Tr.pr_one i d s (by omega)]; exact ⟨h, hd⟩
  | N + 1, n, i, d, s, hN, h, hd => by
    by_cases h1 : n ≤ 1
    · rw [Tr.pr_one i d s h1]; exact ⟨h, hd⟩
    · have l1 := Tr.half_lt (n := n) (by omega)
      have l2 := Tr.half_pos n
      by_cases hi : i < Tr.half n
      · rw [Tr.pr_lo d s (by omega) hi]
        have := Small.pr hM N (Tr.half n) i d s (by omega) h hd
        exact ⟨this.1.tk.1, by rw [node_size]; exact hM⟩
      · rw [Tr.pr_hi d s (by omega) hi]
        have := Small.pr hM N (n - Tr.half n) (i - Tr.half n) d s (by omega) h hd
        exact ⟨this.1.tk.1, by rw [node_size]; exact hM⟩

/-- The table of powers of ten lies below block b, which the world has. -/
theorem Pow.up {b : Nat} {w w' : World} (h : Pow b w) (hb : Below b w w') (hs : b ≤ w'.heap.size) : Pow w'.heap.size w' := ⟨(h.below hb (Nat.le_refl _)).1, Nat.lt_of_lt_of_le h.2 hs⟩

def PathRoots (n i : Nat) (d : ByteArray) (b : Nat) (s : Tr.St) (w : World) (e : Ending) (w' : World) : Prop :=
  e = .returned (.string (Tr.pr n i d s).1) ∧ RestAt w' b (Tr.pr n i d s).2 ∧ Below b w w'

set_option maxHeartbeats 1000000 in
theorem pathRoot_any (N : Nat) : ∀ (n i : Nat) (d : ByteArray) (b : Nat) (s : Tr.St) (w : World), n ≤ N → i < n → n ≤ 1000000 → Small 1000000000 s → d.size ≤ 1000000000 → RestAt w b s → Pow b w →
    Calls Tryd.prog 70 #[.pointer (some ⟨b, 0, none⟩), .int .i64 (n : Int), .int .i64 (i : Int), .string d] w (PathRoots n i d b s w) := by
  induction N with
  | zero => intro n i d b s w h0 h1; omega
  | succ N ih =>
    intro n i d b s w hN hi hM hS hd hr hp
    by_cases hl : n = 1
    · subst hl
      have HR := Lib.hid (Tr.pr_one i d s (Nat.le_refl 1))
      have HRR := Lib.hid hr
      clear hr hS ih
      go_enter Tryd.func70, Tryd.ntmps70
      go_wp2_with fail
      go_ret
      exact ⟨by rw [HR.out]; rfl, by rw [HR.out]; exact HRR.out, Below.refl _ _⟩
    · have l1 := Tr.half_lt (n := n) (by omega)
      have l2 := Tr.half_pos n
      have HF := Lib.hid (fun w => firstSize_any n w (by omega) (by unfold maxLen; omega))
      have hne : n ≠ 1 := hl
      have hlt := hr.lt
      by_cases hk : i < Tr.half n
      · have HR := Lib.hid (Tr.pr_lo d s (n := n) (by omega) hk)
        have sz := Small.pr (M := 1000000000) (by omega) n (Tr.half n) i d s (by omega) hS hd
        have h1 := ih (Tr.half n) i d b s w (by omega) hk (by omega) hS hd hr hp
        have H1 := Lib.hid h1
        have SZ := Lib.hid sz
        have ST := Lib.hid sz.1.tk
        clear ih hS hr h1 sz hl
        generalize hpr : Tr.pr (Tr.half n) i d s = q at *
        have HPR := Lib.hid hpr
        clear hpr
        generalize Tr.half n = k at *
        go_enter Tryd.func70, Tryd.ntmps70
        go_wp2_with (first
          | (go_at_call 54; (with_reducible refine (HF.out _).mono ?_); rintro e w1 ⟨rfl, rfl⟩)
          | fail)
        refine H1.out.mono ?_
        rintro e w1 ⟨rfl, hr1, hb1⟩
        rw [HPR.out] at hr1 ⊢
        go_wp2_with fail
        refine (take_any' b q.2 w1 hr1).mono ?_
        rintro e w2 ⟨rfl, hr2, hb2⟩
        have hb2' := hb1.trans hb2
        go_wp2_with fail
        refine (node_any q.1 (Tr.tk q.2).1 w2 SZ.out.2 ST.out.2 (hp.up hb2' (Nat.le_of_lt hr2.lt))).mono ?_
        rintro e w3 ⟨rfl, hb3⟩
        go_wp2
        go_ret
        exact ⟨by rw [HR.out]; rfl, by rw [HR.out]; exact hr2.bt hb3, hb2'.trans (hb3.mono (Nat.le_of_lt hr2.lt))⟩
      · have HR := Lib.hid (Tr.pr_hi d s (n := n) (by omega) hk)
        have sz := Small.pr (M := 1000000000) (by omega) n (n - Tr.half n) (i - Tr.half n) d s (by omega) hS hd
        have h1 := ih (n - Tr.half n) (i - Tr.half n) d b s w (by omega) (by omega) (by omega) hS hd hr hp
        have H1 := Lib.hid h1
        have SZ := Lib.hid sz
        have ST := Lib.hid sz.1.tk
        clear ih hS hr h1 sz hl
        generalize hpr : Tr.pr (n - Tr.half n) (i - Tr.half n) d s = q at *
        have HPR := Lib.hid hpr
        clear hpr
        generalize Tr.half n = k at *
        have e1 : (n : Int) - (k : Int) = ((n - k : Nat) : Int) := by omega
        have e2 : (i : Int) - (k : Int) = ((i - k : Nat) : Int) := by omega
        have E1 := Lib.hid e1
        have E2 := Lib.hid e2
        clear e1 e2
        go_enter Tryd.func70, Tryd.ntmps70
        go_wp2_with (first
          | (go_at_call 54; (with_reducible refine (HF.out _).mono ?_); rintro e w1 ⟨rfl, rfl⟩)
          | fail)
        rw [E1.out, E2.out]
        refine H1.out.mono ?_
        rintro e w1 ⟨rfl, hr1, hb1⟩
        rw [HPR.out] at hr1 ⊢
        go_wp2_with fail
        refine (take_any' b q.2 w1 hr1).mono ?_
        rintro e w2 ⟨rfl, hr2, hb2⟩
        have hb2' := hb1.trans hb2
        go_wp2_with fail
        refine (node_any (Tr.tk q.2).1 q.1 w2 ST.out.2 SZ.out.2 (hp.up hb2' (Nat.le_of_lt hr2.lt))).mono ?_
        rintro e w3 ⟨rfl, hb3⟩
        go_wp2
        go_ret
        exact ⟨by rw [HR.out]; rfl, by rw [HR.out]; exact hr2.bt hb3, hb2'.trans (hb3.mono (Nat.le_of_lt hr2.lt))⟩
end Go.Proofs.YtdlmbpoihnifiaaDoor
