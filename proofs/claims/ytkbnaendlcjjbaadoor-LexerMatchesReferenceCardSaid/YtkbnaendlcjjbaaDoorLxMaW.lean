/- The walk of LexerMatchesReference. -/
import Derived.Test.YtkbnaendlcjjbaaDoorLxM
import Derived.Test.YtkbnaendlcjjbaaDoorLxPaW
set_option linter.unusedSimpArgs false
set_option linter.unusedVariables false
namespace Go.Proofs.YtkbnaendlcjjbaaDoor
open Go.RowKit
set_option maxRecDepth 100000

/-- Two outcomes of one text: the same error and offset, and Same at them is true. -/
theorem Lx.out_two {T : List Lx.Tk} {E : Option (Int × Nat)} {w1 w2 : World} {B1 B2 : Nat} {V1 V2 : Value} {e1 e2 o1 o2 : Int} (h1 : Lx.Out T E w1 B1 V1 e1 o1) (h2 : Lx.Out T E w2 B2 V2 e2 o2) (hb : Below w1.heap.size w1 w2) (hsm : ∀ t ∈ T, t.at' < 2 ^ 40) :
    e1 = e2 ∧ o1 = o2 ∧ Calls Tryd.prog 14 #[V1, .int .i64 0, V2] w2 fun e w' => e = .returned (.bool true) ∧ Below w2.heap.size w2 w' := by
  have hnil : Calls Tryd.prog 14 #[.slice none 0 0, .int .i64 0, .slice none 0 0] w2 fun e w' => e = .returned (.bool true) ∧ Below w2.heap.size w2 w' :=
    Lx.same0 none none 0 0 0 0 0 [] w2 rfl (by omega) (by simp) TkS.none TkS.none
  rcases h1 with ⟨h, rfl, rfl, rfl⟩ | ⟨h, ⟨x, o, rfl, rfl, rfl, rfl⟩ | ⟨rfl, hc, rfl, rfl⟩⟩
  · rcases h2 with ⟨h', rfl, rfl, rfl⟩ | ⟨h', _⟩
    · exact ⟨rfl, rfl, hnil⟩
    · omega
  · rcases h2 with ⟨h', _⟩ | ⟨h', ⟨x', o', he, rfl, rfl, rfl⟩ | ⟨he, _⟩⟩
    · omega
    · cases he
      exact ⟨rfl, rfl, hnil⟩
    · cases he
  · rcases h2 with ⟨h', _⟩ | ⟨h', ⟨x', o', he, _⟩ | ⟨_, hc', rfl, rfl⟩⟩
    · omega
    · cases he
    · obtain ⟨A1, c1, rfl, t1, _, _⟩ := hc.form
      obtain ⟨A2, c2, rfl, t2, _, _⟩ := hc'.form
      exact ⟨rfl, rfl, Lx.same0 A1 A2 c1 c2 T.length 0 0 T w2 rfl h hsm (t1.bt hb) t2⟩

set_option maxHeartbeats 2000000 in
theorem Lx.matches_walk (text : ByteArray) (w : World) (hp : True) (hs : text.size ≤ maxLen) :
    Calls Tryd.prog 3 #[.string text] w fun e w' => e = .returned (.bool true) ∧ Below w.heap.size w w' := by
  have HH := Lib.hid (fun v => Lx.head_any v)
  by_cases hl : 21000 < text.size
  · have hd : decide ((21000 : Int) < (text.size : Int)) = true := decide_eq_true (by omega)
    have hd2 : decide (21000 < text.size) = true := decide_eq_true hl
    go_enter Tryd.func3, Tryd.ntmps3
    go_wp2_with fail
    refine (HH.out _).mono ?_
    rintro e w1 ⟨rfl, hb1⟩
    go_wp2_with fail
    go_ret
    exact ⟨rfl, hb1⟩
  have hd : decide ((21000 : Int) < (text.size : Int)) = false := decide_eq_false (by omega)
  have hd2 : decide (21000 < text.size) = false := decide_eq_false hl
  by_cases hm : 20000 < text.size
  · have C1 := Lib.hid (fun v => Lx.lex_long text v hm)
    have C2 := Lib.hid (fun v => Lx.lexR_long text v hm)
    have CS := Lib.hid (fun v => Lx.same0 none none 0 0 0 0 0 [] v rfl (by omega) (by simp) TkS.none TkS.none)
    clear hm
    go_enter Tryd.func3, Tryd.ntmps3
    go_wp2_with fail
    refine (HH.out _).mono ?_
    rintro e w1 ⟨rfl, hb1⟩
    go_wp2_with fail
    refine (C1.out _).mono ?_
    rintro e w2 ⟨rfl, rfl⟩
    go_wp2_with fail
    refine (C2.out _).mono ?_
    rintro e w2 ⟨rfl, rfl⟩
    go_wp2_with fail
    refine (CS.out _).mono ?_
    rintro e w3 ⟨rfl, hb3⟩
    go_wp2_with fail
    go_ret
    exact ⟨rfl, Lx.Nb hb1 hb3⟩
  · obtain ⟨T, E, hL⟩ := Lx.Lexes.ex _ text.data.toList 0 (Nat.le_refl _)
    have C1 := Lib.hid (fun v => Lx.lex_run text v (by omega) T E hL)
    have C2 := Lib.hid (fun v => Lx.lexR_run text v (by omega) T E hL)
    have HSM := Lib.hid (show ∀ t ∈ T, t.at' < 2 ^ 40 from fun t ht => by have := hL.ats t ht; rw [Lx.len] at this; omega)
    clear hL
    go_enter Tryd.func3, Tryd.ntmps3
    go_wp2_with fail
    refine (HH.out _).mono ?_
    rintro e w1 ⟨rfl, hb1⟩
    go_wp2_with fail
    refine (C1.out _).mono ?_
    rintro e w2 ⟨V1, e1, o1, rfl, hb2, hO1⟩
    have HO1 := Lib.hid hO1
    clear hO1 C1 HH
    go_wp2_with fail
    refine (C2.out _).mono ?_
    rintro e w3 ⟨V2, e2, o2, rfl, hb3, hO2⟩
    obtain ⟨rfl, rfl, cs⟩ := Lx.out_two HO1.out hO2 hb3 HSM.out
    have CS := Lib.hid cs
    have g1 : (e1 == e1) = true := by simp
    have g2 : (o1 == o1) = true := by simp
    clear cs hO2 HO1 C2 HSM
    go_wp2_with fail
    refine CS.out.mono ?_
    rintro e w4 ⟨rfl, hb4⟩
    go_wp2_with fail
    go_ret
    exact ⟨rfl, Lx.Nb (Lx.Nb hb1 hb2) (Lx.Nb hb3 hb4)⟩
end Go.Proofs.YtkbnaendlcjjbaaDoor
