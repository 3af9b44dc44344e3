/- Extends of the program. -/
import Derived.Test.YtkakbookioimhaaDoorTrH
import Derived.Test.YtkakbookioimhaaDoorTrF
import Derived.WalkKit
import Derived.Below
import Derived.Outline
import Derived.Lib.Hide
namespace Go.Proofs.YtkakbookioimhaaDoor
open Go.RowKit

theorem extends_out (old : ByteArray) (m : Int) (rt : ByteArray) (n : Int) (p : List ByteArray) (h : ¬ (0 ≤ m ∧ m ≤ n ∧ n ≤ 1000000)) : Tr.extends' old m rt n p = false := by
  unfold Tr.extends'
  rw [decide_eq_false h]
  rfl
theorem extends_bad (old : ByteArray) (m : Int) (rt : ByteArray) (n : Int) (p : List ByteArray) (h : Dg.isDigest old.data.toList = false ∨ Dg.isDigest rt.data.toList = false) : Tr.extends' old m rt n p = false := by
  unfold Tr.extends'
  rcases h with h | h <;> rw [h] <;> simp
theorem extends_zero (old rt : ByteArray) (n : Nat) (p : List ByteArray) (h2 : n ≤ 1000000) (ho : Dg.isDigest old.data.toList = true) (hr : Dg.isDigest rt.data.toList = true) :
    Tr.extends' old 0 rt n p = (decide (p.length = 0) && (decide (old = Tr.empty) && (decide (0 < n) || decide (rt = old)))) := by
  unfold Tr.extends'
  rw [decide_eq_true (show (0 : Int) ≤ 0 ∧ (0 : Int) ≤ (n : Int) ∧ (n : Int) ≤ 1000000 by omega), ho, hr]
  have e : p.isEmpty = decide (p.length = 0) := by cases p <;> simp
  have e2 : decide (0 < (n : Int)) = decide (0 < n) := by simp
  rw [e, e2]
  simp [Bool.and_assoc]
theorem extends_pos (old rt : ByteArray) (m n : Nat) (p : List ByteArray) (h0 : 0 < m) (h1 : m ≤ n) (h2 : n ≤ 1000000) (ho : Dg.isDigest old.data.toList = true) (hr : Dg.isDigest rt.data.toList = true) :
    Tr.extends' old m rt n p = (Tr.digs p && (decide ((Tr.lr n m old true (p, false)).1 = old) && (decide ((Tr.lr n m old true (p, false)).2.1 = rt) && Tr.used (Tr.lr n m old true (p, false)).2.2))) := by
  unfold Tr.extends'
  rw [decide_eq_true (show (0 : Int) ≤ (m : Int) ∧ (m : Int) ≤ (n : Int) ∧ (n : Int) ≤ 1000000 by omega), ho, hr, Tr.extends_lr old rt n m p h0 h1, if_neg (by omega)]
  simp [Bool.and_assoc]

theorem is_no (s : ByteArray) (w : World) (h : Dg.isDigest s.data.toList = false) : Calls Tryd.prog 46 #[.string s] w fun e w' => e = .returned (.bool false) ∧ w = w' := by
  have := is_any s w
  rwa [h] at this
theorem is_yes (s : ByteArray) (w : World) (h : Dg.isDigest s.data.toList = true) : Calls Tryd.prog 46 #[.string s] w fun e w' => e = .returned (.bool true) ∧ w = w' := by
  have := is_any s w
  rwa [h] at this

theorem Extends_out (old : ByteArray) (m : Int) (rt : ByteArray) (n : Int) (A : Option Addr) (c k : Nat) (w : World) (h : ¬ (0 ≤ m ∧ m ≤ n ∧ n ≤ 1000000)) :
    Calls Tryd.prog 20 #[.string old, .int .i64 m, .string rt, .int .i64 n, .slice A k c] w fun e w' => e = .returned (.bool false) ∧ Below w.heap.size w w' := by
  by_cases h0 : m < 0
  · clear h
    go_enter Tryd.func20, Tryd.ntmps20
    go_wp2_with fail
    go_ret
    exact ⟨rfl, Below.refl _ _⟩
  · by_cases h1 : n < m
    · clear h
      go_enter Tryd.func20, Tryd.ntmps20
      go_wp2_with fail
      go_ret
      exact ⟨rfl, Below.refl _ _⟩
    · have h2 : 1000000 < n := by omega
      have h3 : 0 ≤ m := by omega
      have h4 : m ≤ n := by omega
      clear h h0 h1
      go_enter Tryd.func20, Tryd.ntmps20
      go_wp2_with fail
      go_ret
      exact ⟨rfl, Below.refl _ _⟩

theorem Extends_bad (old : ByteArray) (m : Int) (rt : ByteArray) (n : Int) (A : Option Addr) (c k : Nat) (w : World) (h0 : 0 ≤ m) (h1 : m ≤ n) (h2 : n ≤ 1000000) (h : Dg.isDigest old.data.toList = false ∨ Dg.isDigest rt.data.toList = false) :
    Calls Tryd.prog 20 #[.string old, .int .i64 m, .string rt, .int .i64 n, .slice A k c] w fun e w' => e = .returned (.bool false) ∧ Below w.heap.size w w' := by
  by_cases ho : Dg.isDigest old.data.toList = false
  · have HO := Lib.hid ho
    clear ho h
    go_enter Tryd.func20, Tryd.ntmps20
    go_wp2_with fail
    refine (is_no old w HO.out).mono ?_
    rintro e w1 ⟨rfl, rfl⟩
    go_wp2_with fail
    go_ret
    exact ⟨rfl, Below.refl _ _⟩
  · have HO := Lib.hid (show Dg.isDigest old.data.toList = true by simpa using ho)
    have HR := Lib.hid (show Dg.isDigest rt.data.toList = false by rcases h with h | h; exact absurd h ho; exact h)
    clear ho h
    go_enter Tryd.func20, Tryd.ntmps20
    go_wp2_with fail
    refine (is_yes old w HO.out).mono ?_
    rintro e w1 ⟨rfl, rfl⟩
    go_wp2_with fail
    refine (is_no rt w HR.out).mono ?_
    rintro e w1 ⟨rfl, rfl⟩
    go_wp2_with fail
    go_ret
    exact ⟨rfl, Below.refl _ _⟩

theorem Extends_zero (old rt : ByteArray) (n : Nat) (A : Option Addr) (c : Nat) (p : List ByteArray) (w : World) (h2 : n ≤ 1000000) (ho : Dg.isDigest old.data.toList = true) (hr : Dg.isDigest rt.data.toList = true) (hc : p.length ≤ c) (_hm : c ≤ maxLen) (hp : Pow w.heap.size w) :
    Calls Tryd.prog 20 #[.string old, .int .i64 0, .string rt, .int .i64 (n : Int), .slice A p.length c] w fun e w' => e = .returned (.bool (Tr.extends' old 0 rt n p)) ∧ Below w.heap.size w w' := by
  rw [extends_zero old rt n p h2 ho hr]
  have HO := Lib.hid ho
  have HR := Lib.hid hr
  have hroot := root_any none 0 [] w (by simp) (by unfold maxLen; omega) (fun k hk => absurd hk (by simp)) (by simp) hp
  rw [Tr.root_nil] at hroot
  simp only [List.length_nil] at hroot
  have HT := Lib.hid hroot
  clear ho hr hroot
  generalize p.length = k at *
  by_cases hk : k = 0
  · subst hk
    by_cases hx : old = Tr.empty
    · rw [decide_eq_true hx]
      have hbq : (old.toList == Tr.empty.toList) = true := by rw [bytes_beq', decide_eq_true hx]
      clear hx
      by_cases hn : n = 0
      · subst hn
        by_cases hy : rt = old
        case' pos =>
          rw [decide_eq_true hy]
          have hbr : (rt.toList == old.toList) = true := by rw [bytes_beq', decide_eq_true hy]
        case' neg =>
          rw [decide_eq_false hy]
          have hbr := bytes_ne hy
        all_goals
          clear hy
          go_enter Tryd.func20, Tryd.ntmps20
          go_wp2_with fail
          refine (is_yes old w HO.out).mono ?_
          rintro e w1 ⟨rfl, rfl⟩
          go_wp2_with fail
          refine (is_yes rt w HR.out).mono ?_
          rintro e w1 ⟨rfl, rfl⟩
          go_wp2_with fail
          refine HT.out.mono ?_
          rintro e w1 ⟨rfl, hb1⟩
          go_wp2_with fail
          go_ret
          exact ⟨by simp, hb1⟩
      · have hn0 : 0 < n := by omega
        rw [decide_eq_true hn0]
        clear hn
        go_enter Tryd.func20, Tryd.ntmps20
        go_wp2_with fail
        refine (is_yes old w HO.out).mono ?_
        rintro e w1 ⟨rfl, rfl⟩
        go_wp2_with fail
        refine (is_yes rt w HR.out).mono ?_
        rintro e w1 ⟨rfl, rfl⟩
        go_wp2_with fail
        refine HT.out.mono ?_
        rintro e w1 ⟨rfl, hb1⟩
        go_wp2_with fail
        go_ret
        exact ⟨by simp, hb1⟩
    · rw [decide_eq_false hx]
      have hbq := bytes_ne hx
      clear hx
      go_enter Tryd.func20, Tryd.ntmps20
      go_wp2_with fail
      refine (is_yes old w HO.out).mono ?_
      rintro e w1 ⟨rfl, rfl⟩
      go_wp2_with fail
      refine (is_yes rt w HR.out).mono ?_
      rintro e w1 ⟨rfl, rfl⟩
      go_wp2_with fail
      refine HT.out.mono ?_
      rintro e w1 ⟨rfl, hb1⟩
      go_wp2_with fail
      go_ret
      exact ⟨by simp, hb1⟩
  · rw [decide_eq_false hk]
    have k1 : ((k : Int) == 0) = false := by rw [beq_eq_false_iff_ne]; omega
    go_enter Tryd.func20, Tryd.ntmps20
    go_wp2_with fail
    refine (is_yes old w HO.out).mono ?_
    rintro e w1 ⟨rfl, rfl⟩
    go_wp2_with fail
    refine (is_yes rt w HR.out).mono ?_
    rintro e w1 ⟨rfl, rfl⟩
    go_wp2_with fail
    go_ret
    exact ⟨by simp, Below.refl _ _⟩
end Go.Proofs.YtkakbookioimhaaDoor
