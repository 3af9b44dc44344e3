/- The walk of LexerAgain, and what the other walks share: every outcome of Lex at a small text. -/
import Derived.Test.YtkbnaendlcjjbaaDoorLxI
set_option linter.unusedSimpArgs false
set_option linter.unusedVariables false
namespace Go.Proofs.YtkbnaendlcjjbaaDoor
open Go.RowKit
set_option maxRecDepth 100000

theorem Lx.Lexes.err {l : List UInt8} {off : Nat} {ts e x o} (h : Lx.Lexes l off ts e) (he : e = some (x, o)) : x = 2 ∨ x = 3 ∨ x = 4 ∨ x = 6 := by
  induction h with
  | done => cases he
  | bad l off e h he' => cases he; exact Lx.tok_err h he'
  | tok l off k n t w ts e h hk hr ih => exact ih he
theorem Lx.len (t : ByteArray) : t.data.toList.length = t.size := by simp

set_option maxHeartbeats 1000000 in
theorem Lx.again_walk (text : ByteArray) (w : World) (hp : True) (hs : text.size ≤ maxLen) :
    Calls Tryd.prog 5 #[.string text] w fun e w' => e = .returned (.bool true) ∧ Below w.heap.size w w' := by
  have HH := Lib.hid (fun v => Lx.head_any v)
  by_cases hl : 2000 < text.size
  · have hd : decide ((2000 : Int) < (text.size : Int)) = true := decide_eq_true (by omega)
    have hd2 : decide (2000 < text.size) = true := decide_eq_true hl
    go_enter Tryd.func5, Tryd.ntmps5
    go_wp2_with fail
    refine (HH.out _).mono ?_
    rintro e w1 ⟨rfl, hb1⟩
    go_wp2_with fail
    go_ret
    exact ⟨rfl, hb1⟩
  have hd : decide ((2000 : Int) < (text.size : Int)) = false := decide_eq_false (by omega)
  have hd2 : decide (2000 < text.size) = false := decide_eq_false hl
  obtain ⟨T, E, hL⟩ := Lx.Lexes.ex _ text.data.toList 0 (Nat.le_refl _)
  have hTl := hL.count
  rw [Lx.len] at hTl
  cases E with
  | some p =>
    obtain ⟨x, o⟩ := p
    have hx := hL.err rfl
    have hx1 : (x != 0) = true := by simp; omega
    have C := Lib.hid (fun v => Lx.lex_bad text v (by omega) T (by omega) x o hL)
    clear hL hx hTl
    go_enter Tryd.func5, Tryd.ntmps5
    go_wp2_with fail
    refine (HH.out _).mono ?_
    rintro e w1 ⟨rfl, hb1⟩
    go_wp2_with fail
    refine (C.out _).mono ?_
    rintro e w2 ⟨rfl, hb2⟩
    go_wp2_with fail
    go_ret
    exact ⟨rfl, Lx.Nb hb1 hb2⟩
  | none =>
    have C := Lib.hid (fun v => Lx.lex_ok text v (by omega) T (by omega) hL)
    obtain ⟨U, hU, hbare⟩ := hL.again rfl 0
    have hal := hL.all_le
    rw [Lx.len] at hal
    have hlen : U.length = T.length := by have := congrArg List.length hbare; simpa [Lx.bares] using this
    have C2 := Lib.hid (fun v => Lx.lex_ok ⟨(Lx.allF T).toArray⟩ v (by rw [Lx.bsize]; omega) U (by omega) (by rw [Lx.bsz]; exact hU))
    have CA := Lib.hid (fun (A : Option Addr) (c : Nat) (v : World) (h : Lx.Held v A c T) => Lx.all_any A c T.length T v rfl (by omega) (by omega) h.1)
    have CS := Lib.hid (fun (A1 A2 : Option Addr) (c1 c2 : Nat) (v : World) (h1 : Lx.Held v A1 c1 T) (h2 : Lx.Held v A2 c2 U) => Lx.alike_any A1 A2 c1 c2 T.length T U v rfl hlen (by omega) hbare.symm h1.1 h2.1)
    rw [hlen] at C2
    clear hL hU hbare hal
    generalize (⟨(Lx.allF T).toArray⟩ : ByteArray) = X at *
    generalize hn : T.length = n at *
    clear hlen hn
    go_enter Tryd.func5, Tryd.ntmps5
    go_wp2_with fail
    refine (HH.out _).mono ?_
    rintro e w1 ⟨rfl, hb1⟩
    go_wp2_with fail
    refine (C.out _).mono ?_
    rintro e w2 ⟨A, c, rfl, hb2, H2⟩
    go_wp2_with fail
    refine (CA.out A c _ H2.out).mono ?_
    rintro e w3 ⟨rfl, hb3⟩
    go_wp2_with fail
    refine (C2.out _).mono ?_
    rintro e w4 ⟨A', c', rfl, hb4, H4⟩
    go_wp2_with fail
    refine (CS.out A A' c c' _ (H2.out.bt (Lx.Nb hb3 hb4)) H4.out).mono ?_
    rintro e w5 ⟨rfl, hb5⟩
    go_wp2_with fail
    go_ret
    exact ⟨rfl, Lx.Nb (Lx.Nb hb1 (Lx.Nb hb2 hb3)) (Lx.Nb hb4 hb5)⟩
end Go.Proofs.YtkbnaendlcjjbaaDoor
