/- The walk of LexerBeginnings. -/
import Derived.Test.YtkbnaendlcjjbaaDoorLxAgW
set_option linter.unusedSimpArgs false
set_option linter.unusedVariables false
namespace Go.Proofs.YtkbnaendlcjjbaaDoor
open Go.RowKit
set_option maxRecDepth 100000

theorem Lx.ext_take (t : ByteArray) (o : Nat) (h : o ≤ t.size) : (t.extract 0 o).data.toList = t.data.toList.take o := by
  rw [Lx.ext t 0 o o (by omega), Lx.bsz, List.drop_zero]
theorem Lx.ext_drop (t : ByteArray) (o : Nat) (h : o ≤ t.size) : (t.extract o t.size).data.toList = t.data.toList.drop o := by
  rw [Lx.ext t o t.size (t.size - o) (by omega), Lx.bsz, List.take_of_length_le (by simp)]

set_option maxHeartbeats 1000000 in
theorem Lx.beginnings_walk (text : ByteArray) (w : World) (hp : True) (hs : text.size ≤ maxLen) :
    Calls Tryd.prog 7 #[.string text] w fun e w' => e = .returned (.bool true) ∧ Below w.heap.size w w' := by
  have HH := Lib.hid (fun v => Lx.head_any v)
  by_cases hl : 3000 < text.size
  · have hd : decide ((3000 : Int) < (text.size : Int)) = true := decide_eq_true (by omega)
    have hd2 : decide (3000 < text.size) = true := decide_eq_true hl
    go_enter Tryd.func7, Tryd.ntmps7
    go_wp2_with fail
    refine (HH.out _).mono ?_
    rintro e w1 ⟨rfl, hb1⟩
    go_wp2_with fail
    go_ret
    exact ⟨rfl, hb1⟩
  have hd : decide ((3000 : Int) < (text.size : Int)) = false := decide_eq_false (by omega)
  have hd2 : decide (3000 < text.size) = false := decide_eq_false hl
  obtain ⟨T, E, hL⟩ := Lx.Lexes.ex _ text.data.toList 0 (Nat.le_refl _)
  have hTl := hL.count
  rw [Lx.len] at hTl
  cases E with
  | some p =>
    obtain ⟨x, o⟩ := p
    have hx := hL.err rfl
    have hx1 : (x == 0) = false := by simp; omega
    have hxx : (x == x) = true := by simp
    obtain ⟨_, ho, h1, h2⟩ := hL.bad_at rfl
    rw [Lx.len] at ho
    rw [Nat.sub_zero] at h1 h2
    have C := Lib.hid (fun v => Lx.lex_bad text v (by omega) T (by omega) x o hL)
    have C1 := Lib.hid (fun v => Lx.lex_ok (text.extract 0 o) v (by rw [ByteArray.size_extract]; omega) T (by omega) (by rw [Lx.ext_take _ _ (by omega)]; exact h1))
    have C2 := Lib.hid (fun v => Lx.lex_bad (text.extract o text.size) v (by rw [ByteArray.size_extract]; omega) [] (by simp) x 0 (by rw [Lx.ext_drop _ _ (by omega)]; exact h2))
    have o0 : (0 : Int) ≤ (o : Int) := by omega
    have o1 : (o : Int) < (text.size : Int) := by omega
    have o2 : decide ((o : Int) < 0) = false := decide_eq_false (by omega)
    have o3 : decide ((text.size : Int) ≤ (o : Int)) = false := decide_eq_false (by omega)
    have o4 : (o : Int) ≤ (text.size : Int) := by omega
    have o5 : decide (text.size ≤ o) = false := decide_eq_false (by omega)
    clear hL hx hTl h1 h2 ho
    generalize T.length = n at *
    rw [show ((0 : Nat) : Int) = 0 from rfl] at C2
    go_enter Tryd.func7, Tryd.ntmps7
    go_wp2_with fail
    refine (HH.out _).mono ?_
    rintro e w1 ⟨rfl, hb1⟩
    go_wp2_with fail
    refine (C.out _).mono ?_
    rintro e w2 ⟨rfl, hb2⟩
    go_wp2_with fail
    refine (C1.out _).mono ?_
    rintro e w3 ⟨A, c, rfl, hb3, _⟩
    go_wp2_with fail
    refine (C2.out _).mono ?_
    rintro e w4 ⟨rfl, hb4⟩
    go_wp2_with fail
    go_ret
    exact ⟨rfl, Lx.Nb (Lx.Nb hb1 hb2) (Lx.Nb hb3 hb4)⟩
  | none =>
    have C := Lib.hid (fun v => Lx.lex_ok text v (by omega) T (by omega) hL)
    clear hL
    generalize T.length = n at *
    go_enter Tryd.func7, Tryd.ntmps7
    go_wp2_with fail
    refine (HH.out _).mono ?_
    rintro e w1 ⟨rfl, hb1⟩
    go_wp2_with fail
    refine (C.out _).mono ?_
    rintro e w2 ⟨A, c, rfl, hb2, H2⟩
    go_wp2_with fail
    go_ret
    exact ⟨rfl, Lx.Nb hb1 hb2⟩
end Go.Proofs.YtkbnaendlcjjbaaDoor
