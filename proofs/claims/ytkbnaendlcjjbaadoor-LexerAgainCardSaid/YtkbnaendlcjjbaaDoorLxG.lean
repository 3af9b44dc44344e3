/- Layer 7: the program's Lex by its outcome; the law's head. -/
import Derived.Test.YtkbnaendlcjjbaaDoorLxF
set_option linter.unusedSimpArgs false
set_option linter.unusedVariables false
namespace Go.Proofs.YtkbnaendlcjjbaaDoor
open Go.RowKit
set_option maxRecDepth 100000

/-- What a walk keeps of a list of tokens that lies at A. -/
def Lx.Held (w : World) (A : Option Addr) (c : Nat) (T : List Lx.Tk) : Prop := TkS w w.heap.size 0 A T ∧ T.length ≤ c ∧ c ≤ maxLen ∧ ((A = none ∧ c = 0) ∨ ∃ g, A = some ⟨g, 0, none⟩)
theorem Lx.Held.bt {w w' : World} {A : Option Addr} {c : Nat} {T : List Lx.Tk} (h : Lx.Held w A c T) (hb : Below w.heap.size w w') : Lx.Held w' A c T := ⟨h.1.bt hb, h.2⟩
theorem Lx.lex_ok (t : ByteArray) (w : World) (hm : t.size ≤ 20000) (T : List Lx.Tk) (hT : T.length ≤ 5000) (hL : Lx.Lexes t.data.toList 0 T none) :
    Calls Tryd.prog 12 #[.string t] w fun e w' => ∃ A c, e = .returned (.tuple #[.slice A T.length c, .int .i64 0, .int .i64 0]) ∧ Below w.heap.size w w' ∧ Hid (Lx.Held w' A c T) := by
  refine (Lx.lex_run t w hm T none hL).mono ?_
  rintro e w' ⟨V, en, off, rfl, hb, ho⟩
  rcases ho with ⟨h, _⟩ | ⟨_, ⟨x, o, h, _⟩ | ⟨_, hc, rfl, rfl⟩⟩
  · omega
  · cases h
  · obtain ⟨A, c, rfl, h1, h2, h3⟩ := hc.form
    refine ⟨A, c, rfl, hb, Lib.hid ⟨h1, h2, h3, ?_⟩⟩
    rcases hc.2 with ⟨e, _⟩ | ⟨g, cap, cur, e, _⟩
    · simp only [Value.slice.injEq] at e
      exact .inl ⟨e.1, e.2.2⟩
    · simp only [Value.slice.injEq] at e
      exact .inr ⟨g, e.1⟩
theorem Lx.lex_bad (t : ByteArray) (w : World) (hm : t.size ≤ 20000) (T : List Lx.Tk) (hT : T.length ≤ 5000) (x : Int) (o : Nat) (hL : Lx.Lexes t.data.toList 0 T (some (x, o))) :
    Calls Tryd.prog 12 #[.string t] w fun e w' => e = .returned (.tuple #[.slice none 0 0, .int .i64 x, .int .i64 (o : Int)]) ∧ Below w.heap.size w w' := by
  refine (Lx.lex_run t w hm T _ hL).mono ?_
  rintro e w' ⟨V, en, off, rfl, hb, ho⟩
  rcases ho with ⟨h, _⟩ | ⟨_, ⟨x', o', h, rfl, rfl, rfl⟩ | ⟨h, _⟩⟩
  · omega
  · cases h
    exact ⟨rfl, hb⟩
  · cases h

def Lx.hd1 : List Lx.Tk := [⟨1, 0, 0, [114, 111, 119]⟩, ⟨1, 4, 0, [97, 49]⟩, ⟨1, 7, 0, [97, 116]⟩, ⟨2, 10, 7, [55]⟩, ⟨4, 11, 0, [62, 61]⟩, ⟨1, 13, 0, [120]⟩]
def Lx.hd6 : List Lx.Tk := [⟨1, 0, 0, [116, 111]⟩, ⟨3, 3, 0, []⟩, ⟨3, 6, 0, [97, 32, 98]⟩, ⟨4, 11, 0, [59]⟩]
set_option maxHeartbeats 4000000 in
theorem Lx.head_any (w : World) : Calls Tryd.prog 11 #[] w fun e w' => e = .returned (.bool true) ∧ Below w.heap.size w w' := by
  have C1 := Lib.hid (fun v => Lx.lex_ok ⟨#[114, 111, 119, 32, 97, 49, 32, 97, 116, 32, 55, 62, 61, 120, 35, 32, 121]⟩ v (by decide) Lx.hd1 (by decide) (Lx.of_run 20 _ 0 _ _ (by decide)))
  have C2 := Lib.hid (fun v => Lx.lex_bad ⟨#[97, 32, 33, 98]⟩ v (by decide) [⟨1, 0, 0, [97]⟩] (by decide) 3 2 (Lx.of_run 20 _ 0 _ _ (by decide)))
  have C3 := Lib.hid (fun v => Lx.lex_bad ⟨#[55, 120]⟩ v (by decide) [] (by decide) 4 0 (Lx.of_run 20 _ 0 _ _ (by decide)))
  have C4 := Lib.hid (fun v => Lx.lex_bad ⟨#[49, 50, 51, 52, 53, 54, 55, 56, 57, 48, 49, 50, 51, 52]⟩ v (by decide) [] (by decide) 4 0 (Lx.of_run 20 _ 0 _ _ (by decide)))
  have C5 := Lib.hid (fun v => Lx.lex_bad ⟨#[10, 97, 98, 99, 100, 101, 102, 103, 104, 105, 106, 107, 108, 109, 110, 111, 112, 113, 114, 115, 116, 117, 118, 119, 120, 121]⟩ v (by decide) [] (by decide) 2 1 (Lx.of_run 20 _ 0 _ _ (by decide)))
  have C6 := Lib.hid (fun v => Lx.lex_ok ⟨#[116, 111, 32, 34, 34, 32, 34, 97, 32, 98, 34, 59]⟩ v (by decide) Lx.hd6 (by decide) (Lx.of_run 20 _ 0 _ _ (by decide)))
  have C7 := Lib.hid (fun v => Lx.lex_bad ⟨#[97, 32, 34, 98]⟩ v (by decide) [⟨1, 0, 0, [97]⟩] (by decide) 6 2 (Lx.of_run 20 _ 0 _ _ (by decide)))
  rw [show (2 : Nat) = 2 from rfl] at C2
  go_enter Tryd.func11, Tryd.ntmps11
  go_wp2_with fail
  refine (C1.out _).mono ?_
  rintro e w1 ⟨A1, c1, rfl, hb1, H1⟩
  go_wp2_with fail
  refine (C2.out _).mono ?_
  rintro e w2 ⟨rfl, hb2⟩
  go_wp2_with fail
  refine (C3.out _).mono ?_
  rintro e w3 ⟨rfl, hb3⟩
  go_wp2_with fail
  refine (C4.out _).mono ?_
  rintro e w4 ⟨rfl, hb4⟩
  go_wp2_with fail
  refine (C5.out _).mono ?_
  rintro e w5 ⟨rfl, hb5⟩
  go_wp2_with fail
  refine (C6.out _).mono ?_
  rintro e w6 ⟨A6, c6, rfl, hb6, H6⟩
  go_wp2_with fail
  refine (C7.out _).mono ?_
  rintro e w7 ⟨rfl, hb7⟩
  have hb23 := Lx.Nb (Lx.Nb (Lx.Nb hb2 hb3) (Lx.Nb hb4 hb5)) (Lx.Nb hb6 hb7)
  have hb := Lx.Nb hb1 hb23
  have h1 := (H1.out.bt hb23).1
  have h6 := (H6.out.bt hb7).1
  clear C1 C2 C3 C4 C5 C6 C7 hb1 hb2 hb3 hb4 hb5 hb6 hb7 hb23 H1 H6
  obtain ⟨a1, rfl, _, p0, p1, p2, p3⟩ := h1.at0 1 (by decide)
  obtain ⟨_, e1, _, q0, q1, q2, q3⟩ := h1.at0 3 (by decide)
  cases e1
  obtain ⟨_, e1, _, r0, r1, r2, r3⟩ := h1.at0 4 (by decide)
  cases e1
  obtain ⟨_, e1, _, s0, s1, s2, s3⟩ := h1.at0 5 (by decide)
  cases e1
  obtain ⟨a6, rfl, _, x0, x1, x2, x3⟩ := h6.at0 1 (by decide)
  obtain ⟨_, e1, _, y0, y1, y2, y3⟩ := h6.at0 2 (by decide)
  cases e1
  obtain ⟨_, e1, _, z0, z1, z2, z3⟩ := h6.at0 3 (by decide)
  cases e1
  clear h1 h6
  rw [show Lx.hd1.length = 6 from rfl, show Lx.hd6.length = 4 from rfl]
  simp only [Lx.hd1, Lx.hd6, List.getElem_cons_zero, List.getElem_cons_succ] at p0 p1 p2 p3 q0 q1 q2 q3 r0 r1 r2 r3 s0 s1 s2 s3 x0 x1 x2 x3 y0 y1 y2 y3 z0 z1 z2 z3
  go_wp2_with fail
  go_ret
  exact ⟨rfl, hb⟩
end Go.Proofs.YtkbnaendlcjjbaaDoor
