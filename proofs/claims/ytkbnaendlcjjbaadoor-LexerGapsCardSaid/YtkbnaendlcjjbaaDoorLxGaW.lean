/- The walk of LexerGaps. -/
import Derived.Test.YtkbnaendlcjjbaaDoorLxPaW
import Derived.Deep.RegionHeld3
import Derived.Lib.QuietBelow
import Derived.Deep.QuietTactic
set_option linter.unusedSimpArgs false
set_option linter.unusedVariables false
namespace Go.Proofs.YtkbnaendlcjjbaaDoor
open Go.RowKit
set_option maxRecDepth 100000

theorem Lx.gaps_text {l gs : List UInt8} {T : List Lx.Tk} (hg : Lx.gapN false gs = gs.length) (hL : Lx.Lexes l 0 T none) (m : Nat) (hm : (T = [] ∧ m = 0) ∨ ∃ i, ∃ hi : i < T.length, m = (T[i]).at' + (T[i]).wd) :
    m ≤ l.length ∧ ∃ U, Lx.Lexes (gs ++ 10 :: (l.take m ++ (gs ++ 10 :: (l.drop m ++ 10 :: gs)))) 0 U none ∧ Lx.bares U = Lx.bares T := by
  have hnil : ∀ off, Lx.Lexes gs off [] none := fun off => .done _ _ (by rw [hg, List.drop_length])
  have hJ := hL.join rfl (hnil _)
  rw [List.append_nil] at hJ
  rcases hm with ⟨rfl, rfl⟩ | ⟨i, hi, rfl⟩
  · refine ⟨by omega, [], ?_, rfl⟩
    rw [List.take_zero, List.drop_zero, List.nil_append]
    have h1 := hJ.shift (d := 0 + gs.length + 1 + gs.length + 1)
    rw [Nat.zero_add] at h1
    exact Lx.Lexes.after gs hg (Lx.Lexes.after gs hg (by simpa [Lx.shift] using h1))
  · obtain ⟨q1, q2, _⟩ := hL.between rfl gs hg i hi 0
    obtain ⟨_, q3, U, q4, q5⟩ := hJ.between rfl gs hg i hi (0 + gs.length + 1)
    rw [Nat.sub_zero] at q2 q4
    refine ⟨q2, U, ?_, q5⟩
    rw [List.take_append_of_le_length q2, List.drop_append_of_le_length q2] at q4
    exact Lx.Lexes.after gs hg q4
theorem Lx.gaps_str (g t : ByteArray) (m : Nat) (hm : m ≤ t.size) : (g ++ ⟨#[10]⟩ ++ t.extract 0 m ++ (g ++ ⟨#[10]⟩) ++ t.extract m t.size ++ ⟨#[10]⟩ ++ g).data.toList = g.data.toList ++ 10 :: (t.data.toList.take m ++ (g.data.toList ++ 10 :: (t.data.toList.drop m ++ 10 :: g.data.toList))) := by
  have h1 := Lx.ext_take t m hm
  have h2 := Lx.ext_drop t m hm
  generalize t.extract 0 m = a at *
  generalize t.extract m t.size = b at *
  rw [← h1, ← h2]
  simp

theorem Lx.gaps_str0 (g t : ByteArray) : (g ++ ⟨#[10]⟩ ++ (g ++ ⟨#[10]⟩) ++ t ++ ⟨#[10]⟩ ++ g).data.toList = g.data.toList ++ 10 :: (t.data.toList.take 0 ++ (g.data.toList ++ 10 :: (t.data.toList.drop 0 ++ 10 :: g.data.toList))) := by
  simp
set_option maxHeartbeats 2000000 in
theorem Lx.gaps_walk (text gaps : ByteArray) (after : Int) (w : World) (hp : True) (hs1 : text.size ≤ maxLen) (hs2 : gaps.size ≤ maxLen) (ha : (Lit.int .u16 after).wf = true) :
    Calls Tryd.prog 8 #[.string text, .string gaps, .int .u16 after] w fun e w' => e = .returned (.bool true) ∧ Below w.heap.size w w' := by
  have HH := Lib.hid (fun v => Lx.head_any v)
  by_cases hl : 1500 < text.size
  · have hd : decide ((1500 : Int) < (text.size : Int)) = true := decide_eq_true (by omega)
    have hd2 : decide (1500 < text.size) = true := decide_eq_true hl
    clear ha
    go_enter Tryd.func8, Tryd.ntmps8
    go_wp2_with fail
    refine (HH.out _).mono ?_
    rintro e w1 ⟨rfl, hb1⟩
    go_wp2_with fail
    go_ret
    exact ⟨rfl, hb1⟩
  have hd : decide ((1500 : Int) < (text.size : Int)) = false := decide_eq_false (by omega)
  have hd2 : decide (1500 < text.size) = false := decide_eq_false hl
  by_cases hl2 : 300 < gaps.size
  · have hd3 : decide ((300 : Int) < (gaps.size : Int)) = true := decide_eq_true (by omega)
    have hd4 : decide (300 < gaps.size) = true := decide_eq_true hl2
    clear ha
    go_enter Tryd.func8, Tryd.ntmps8
    go_wp2_with fail
    refine (HH.out _).mono ?_
    rintro e w1 ⟨rfl, hb1⟩
    go_wp2_with fail
    go_ret
    exact ⟨rfl, hb1⟩
  have hd3 : decide ((300 : Int) < (gaps.size : Int)) = false := decide_eq_false (by omega)
  have hd4 : decide (300 < gaps.size) = false := decide_eq_false hl2
  have CG := Lib.hid (fun v => Lx.gapsR_any gaps v (by omega))
  by_cases hg : ¬ Lx.gapN false gaps.data.toList = gaps.size
  · rw [decide_eq_false hg] at CG
    clear ha hg
    go_enter Tryd.func8, Tryd.ntmps8
    go_wp2_with fail
    refine (HH.out _).mono ?_
    rintro e w1 ⟨rfl, hb1⟩
    go_wp2_with fail
    refine (CG.out _).mono ?_
    rintro e w2 ⟨rfl, rfl⟩
    go_wp2_with fail
    go_ret
    exact ⟨rfl, hb1⟩
  have hg := Decidable.of_not_not hg
  rw [decide_eq_true hg] at CG
  rw [← Lx.len] at hg
  obtain ⟨T, E, hL⟩ := Lx.Lexes.ex _ text.data.toList 0 (Nat.le_refl _)
  have hTl := hL.count
  rw [Lx.len] at hTl
  cases E with
  | some p =>
    obtain ⟨x, o⟩ := p
    have hx := hL.err rfl
    have hx1 : (x != 0) = true := by simp; omega
    have C := Lib.hid (fun v => Lx.lex_bad text v (by omega) T (by omega) x o hL)
    clear hL hx hTl ha hg
    go_enter Tryd.func8, Tryd.ntmps8
    go_wp2_with fail
    refine (HH.out _).mono ?_
    rintro e w1 ⟨rfl, hb1⟩
    go_wp2_with fail
    refine (CG.out _).mono ?_
    rintro e w2 ⟨rfl, rfl⟩
    go_wp2_with fail
    refine (C.out _).mono ?_
    rintro e w3 ⟨rfl, hb3⟩
    go_wp2_with fail
    go_ret
    exact ⟨rfl, Lx.Nb hb1 hb3⟩
  | none =>
    have C := Lib.hid (fun v => Lx.lex_ok text v (by omega) T (by omega) hL)
    have h10 : (⟨#[10]⟩ : ByteArray).size = 1 := rfl
    by_cases hT : T = []
    · subst hT
      obtain ⟨_, U, hU, hbare⟩ := Lx.gaps_text hg hL 0 (.inl ⟨rfl, rfl⟩)
      have hlen : U.length = 0 := by have := congrArg List.length hbare; simpa [Lx.bares] using this
      have hsz : (gaps ++ ⟨#[10]⟩ ++ (gaps ++ ⟨#[10]⟩) ++ text ++ ⟨#[10]⟩ ++ gaps).size ≤ 20000 := by
        simp only [ByteArray.size_append, ByteArray.size_extract]
        omega
      have C2 := Lib.hid (fun v => Lx.lex_ok _ v hsz U (by omega) (by rw [Lx.gaps_str0]; exact hU))
      have CS := Lib.hid (fun (A1 A2 : Option Addr) (c1 c2 : Nat) (v : World) (h2 : Lx.Held v A2 c2 U) => Lx.alike_any A1 A2 c1 c2 0 [] U v rfl hlen (by omega) hbare.symm TkS.none h2.1)
      have n0 : (0 : Int) ≤ (text.size : Int) := by omega
      have n1 : ¬ 9223372036854775807 < gaps.size + 1 := by omega
      have n2 : ¬ 9223372036854775807 < gaps.size + 1 + (gaps.size + 1) := by omega
      have n3 : ¬ 9223372036854775807 < gaps.size + 1 + (gaps.size + 1) + text.size := by omega
      have n4 : ¬ 9223372036854775807 < gaps.size + 1 + (gaps.size + 1) + text.size + 1 := by omega
      have n5 : ¬ 9223372036854775807 < gaps.size + 1 + (gaps.size + 1) + text.size + 1 + gaps.size := by omega
      rw [hlen] at C2
      rw [show ([] : List Lx.Tk).length = 0 from rfl] at C
      clear hL hU hbare hsz hlen ha hg
      go_enter Tryd.func8, Tryd.ntmps8
      go_wp2_with fail
      refine (HH.out _).mono ?_
      rintro e w1 ⟨rfl, hb1⟩
      go_wp2_with fail
      refine (CG.out _).mono ?_
      rintro e w2 ⟨rfl, rfl⟩
      go_wp2_with fail
      refine (C.out _).mono ?_
      rintro e w3 ⟨A, c, rfl, hb3, H3⟩
      go_wp2_with fail
      go_region_held3 (fun _ => True) (trivial) (first
        | (go_at_call 12
           (with_reducible refine (C2.out _).mono ?_)
           rintro e w4 ⟨A', c', rfl, hb4, H4⟩)
        | fail)
      all_goals go_wp2_with fail
      refine (CS.out A A' c c' _ H4.out).mono ?_
      rintro e w5 ⟨rfl, hb5⟩
      go_wp2_with fail
      go_ret
      exact ⟨rfl, Lx.Nb (Lx.Nb hb1 hb3) (Lx.Nb (Lx.drewN_below w3 1) (Lx.Nb hb4 hb5))⟩
    · obtain ⟨a, rfl, ha2⟩ : ∃ a : Nat, after = (a : Int) ∧ a < 65536 := by
        simp [Lit.wf, IntKind.min, IntKind.max, IntKind.bits, IntKind.signed] at ha
        exact ⟨after.toNat, by omega, by omega⟩
      have hn : 0 < T.length := Nat.pos_of_ne_zero fun e => hT (List.length_eq_zero_iff.1 e)
      have hi : a % T.length < T.length := Nat.mod_lt _ hn
      obtain ⟨hmle, U, hU, hbare⟩ := Lx.gaps_text hg hL ((T[a % T.length]).at' + (T[a % T.length]).wd) (.inr ⟨_, hi, rfl⟩)
      rw [Lx.len] at hmle
      have hlen : U.length = T.length := by have := congrArg List.length hbare; simpa [Lx.bares] using this
      have htl : (T[a % T.length]).text.length ≤ (T[a % T.length]).wd := by
        unfold Lx.Tk.wd
        split <;> omega
      have CW := Lib.hid (fun v => Lx.width_any T[a % T.length] v (by omega))
      have HAT := Lib.hid (fun (v : World) (A : Option Addr) (c : Nat) (h : Lx.Held v A c T) => h.1.at0 (a % T.length) hi)
      have hsz : (gaps ++ ⟨#[10]⟩ ++ text.extract 0 ((T[a % T.length]).at' + (T[a % T.length]).wd) ++ (gaps ++ ⟨#[10]⟩) ++ text.extract ((T[a % T.length]).at' + (T[a % T.length]).wd) text.size ++ ⟨#[10]⟩ ++ gaps).size ≤ 20000 := by
        simp only [ByteArray.size_append, ByteArray.size_extract]
        omega
      have C2 := Lib.hid (fun v => Lx.lex_ok _ v hsz U (by omega) (by rw [Lx.gaps_str _ _ _ hmle]; exact hU))
      have CS := Lib.hid (fun (A1 A2 : Option Addr) (c1 c2 : Nat) (v : World) (h1 : Lx.Held v A1 c1 T) (h2 : Lx.Held v A2 c2 U) => Lx.alike_any A1 A2 c1 c2 T.length T U v rfl hlen (by omega) hbare.symm h1.1 h2.1)
      rw [hlen] at C2
      have hr1 : Int.tmod (a : Int) (T.length : Int) = ((a % T.length : Nat) : Int) := rfl
      have hr2 : (a : Int) % (T.length : Int) = ((a % T.length : Nat) : Int) := by omega
      have hw1 : IntKind.i64.wrap (a : Int) = (a : Int) := by rw [IntKind.wrap_i64]; omega
      have hz1 : ((T.length : Int) == 0) = false := by simp; omega
      have hz2 : ¬ (T.length : Int) = 0 := by omega
      have hz3 : decide ((0 : Int) < (T.length : Int)) = true := decide_eq_true (by omega)
      have hz4 : decide (0 < T.length) = true := decide_eq_true (by omega)
      have hi0 : (0 : Int) ≤ ((a % T.length : Nat) : Int) := by omega
      have hi1 : ((a % T.length : Nat) : Int) < (T.length : Int) := by omega
      have hw2 : IntKind.i64.wrap (((T[a % T.length]).at' : Int) + ((T[a % T.length]).wd : Int)) = (((T[a % T.length]).at' + (T[a % T.length]).wd : Nat) : Int) := by rw [IntKind.wrap_i64]; omega
      generalize (T[a % T.length]).at' + (T[a % T.length]).wd = m at *
      generalize T[a % T.length] = t1 at *
      generalize a % T.length = i at *
      generalize hnn : T.length = n at *
      clear hL hU hbare hsz hlen hg hnn hT htl ha
      have m1 : ¬ 9223372036854775807 < gaps.size + 1 + m := by omega
      have m2 : ¬ 9223372036854775807 < gaps.size + 1 + m + (gaps.size + 1) := by omega
      have m3 : ¬ 9223372036854775807 < gaps.size + 1 + m + (gaps.size + 1) + (text.size - m) := by omega
      have m4 : ¬ 9223372036854775807 < gaps.size + 1 + m + (gaps.size + 1) + (text.size - m) + 1 := by omega
      have m5 : ¬ 9223372036854775807 < gaps.size + 1 + m + (gaps.size + 1) + (text.size - m) + 1 + gaps.size := by omega
      have k1 : ¬ 9223372036854775807 < gaps.size + 1 + min m text.size := by omega
      have k2 : ¬ 9223372036854775807 < gaps.size + 1 + min m text.size + (gaps.size + 1) := by omega
      have k3 : ¬ 9223372036854775807 < gaps.size + 1 + min m text.size + (gaps.size + 1) + (text.size - m) := by omega
      have k4 : ¬ 9223372036854775807 < gaps.size + 1 + min m text.size + (gaps.size + 1) + (text.size - m) + 1 := by omega
      have k5 : ¬ 9223372036854775807 < gaps.size + 1 + min m text.size + (gaps.size + 1) + (text.size - m) + 1 + gaps.size := by omega
      have k6 : ¬ 9223372036854775807 < gaps.size + 1 := by omega
      have q0 : (0 : Int) ≤ (m : Int) := by omega
      have q1 : (m : Int) ≤ (text.size : Int) := by omega
      have q2 : decide ((text.size : Int) < (m : Int)) = false := decide_eq_false (by omega)
      have q3 : decide (text.size < m) = false := decide_eq_false (by omega)
      have q4 : decide ((m : Int) < 0) = false := decide_eq_false (by omega)
      go_enter Tryd.func8, Tryd.ntmps8
      go_wp2_with fail
      refine (HH.out _).mono ?_
      rintro e w1 ⟨rfl, hb1⟩
      go_wp2_with fail
      refine (CG.out _).mono ?_
      rintro e w2 ⟨rfl, rfl⟩
      go_wp2_with fail
      refine (C.out _).mono ?_
      rintro e w3 ⟨A, c, rfl, hb3, H3⟩
      obtain ⟨g, rfl, _, p0, p1, p2, p3⟩ := HAT.out w3 A c H3.out
      clear HAT C CG HH
      generalize t1.wd = wd at *
      generalize t1.kind = kd at *
      generalize (t1.at' : Int) = at1 at *
      generalize (t1.n : Int) = nn at *
      generalize (⟨t1.text.toArray⟩ : ByteArray) = X at *
      go_wp2_with fail
      have hba := Lx.al w3 (.cells #[.int .i64 kd, .int .i64 at1, .int .i64 nn, .string X] 30)
      obtain ⟨x0, x1, x2, x3⟩ := Lx.tkCells w3 (.int .i64 kd) (.int .i64 at1) (.int .i64 nn) (.string X) 30
      obtain ⟨v, hv⟩ : ∃ v, w3.alloc (.cells #[.int .i64 kd, .int .i64 at1, .int .i64 nn, .string X] 30) = v := ⟨_, rfl⟩
      rw [hv] at hba x0 x1 x2 x3 ⊢
      clear hv p0 p1 p2 p3
      have y0 := fun dq os => cell_regrown x0 dq os
      have y1 := fun dq os => cell_regrown x1 dq os
      have y2 := fun dq os => cell_regrown x2 dq os
      have y3 := fun dq os => cell_regrown x3 dq os
      have LYr := Lib.hid (fun dq os => Calls.regrown_of (CW.out (Go.Sort.grow (redrawn v dq) os)))
      clear x0 x1 x2 x3 CW
      refine wp_region_quiet_below (by kernel_rfl) (by kernel_rfl) ?_
      repeat (quiet_step ((go_at_call 15; exact LYr.out _ _)))
      refine wpQuiet_nil ?_
      intro _ hw'
      obtain ⟨⟨dq, osq⟩, hw''⟩ := hw'
      subst hw''
      have hbr := below_regrown v dq osq
      have hb4 := Lx.Nb hba hbr
      generalize Go.Sort.grow (redrawn v dq) osq = v2 at *
      clear LYr y0 y1 y2 y3 hba hbr
      go_wp2_with fail
      go_region_held3 (fun _ => True) (trivial) (first
        | (go_at_call 12
           (with_reducible refine (C2.out _).mono ?_)
           rintro e w4 ⟨A', c', rfl, hb5, H4⟩)
        | fail)
      all_goals go_wp2_with fail
      refine (CS.out _ A' c c' _ (H3.out.bt (Lx.Nb hb4 (Lx.Nb (Lx.drewN_below v2 1) hb5))) H4.out).mono ?_
      rintro e w5 ⟨rfl, hb6⟩
      go_wp2_with fail
      go_ret
      exact ⟨rfl, Lx.Nb (Lx.Nb hb1 hb3) (Lx.Nb (Lx.Nb hb4 (Lx.drewN_below v2 1)) (Lx.Nb hb5 hb6))⟩
end Go.Proofs.YtkbnaendlcjjbaaDoor
