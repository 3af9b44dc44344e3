/- The walk of LexerLongest. -/
import Derived.Test.YtkbnaendlcjjbaaDoorLxPaW
import Derived.Deep.RegionHeld3
import Derived.Lib.QuietBelow
import Derived.Deep.QuietTactic
set_option linter.unusedSimpArgs false
set_option linter.unusedVariables false
namespace Go.Proofs.YtkbnaendlcjjbaaDoor
open Go.RowKit
set_option maxRecDepth 100000

theorem Lx.Lexes.small {l : List UInt8} {off : Nat} {ts e} (h : Lx.Lexes l off ts e) : ∀ t ∈ ts, t.text.length ≤ 400 ∧ t.bytes.length ≤ 402 ∧ t.wd ≤ 402 := by
  induction h with
  | done => intro t h; simp at h
  | bad => intro t h; simp at h
  | tok l off k n t w ts e h hk hr ih =>
    intro u hu
    rcases List.mem_cons.1 hu with rfl | hu
    · obtain ⟨_, _, _, h4⟩ := Lx.tok_bytes hk (off + Lx.gapN false l)
      refine ⟨h4, ?_, ?_⟩
      · unfold Lx.Tk.bytes
        split
        · simp; omega
        · dsimp only; omega
      · unfold Lx.Tk.wd
        split
        · dsimp only; omega
        · dsimp only; omega
    · exact ih u hu
theorem Lx.Lexes.pair {e : Option (Int × Nat)} : ∀ (i : Nat) (l : List UInt8) (off : Nat) (ts : List Lx.Tk), Lx.Lexes l off ts e → ∀ (h0 : i < ts.length) (h1 : i + 1 < ts.length), (ts[i]).at' + (ts[i]).wd = (ts[i + 1]).at' →
    ∀ U F, Lx.Lexes ((ts[i]).bytes ++ (ts[i + 1]).bytes) 0 U F → ¬(F = none ∧ U.length = 1)
  | 0, l, off, t :: u :: r, h, _, _, he, U, F, hU => by
    obtain ⟨a1, a2, a3, a4, a5, a6, a7, a8, a9⟩ := h.step
    obtain ⟨b1, b2, b3, b4, b5, b6, b7, b8, b9⟩ := a7.step
    simp only [List.getElem_cons_zero, List.getElem_cons_succ] at he hU ⊢
    rw [he, Nat.sub_self, List.drop_zero] at b5 b9
    have hsplit : l.drop (t.at' - off) = t.bytes ++ l.drop (u.at' - off) := by
      rw [a5]
      conv => lhs; rw [← List.take_append_drop t.wd (l.drop (t.at' - off))]
      rw [List.drop_drop]
      congr 2
      omega
    have hs2 : l.drop (u.at' - off) = u.bytes ++ (l.drop (u.at' - off)).drop u.wd := by
      rw [b5]
      exact (List.take_append_drop u.wd _).symm
    have htl : t.wd = t.bytes.length := by
      rw [a5, List.length_take, List.length_drop]
      omega
    rw [hsplit, hs2] at a6
    have hune : u.bytes ≠ [] := fun e0 => by
      rw [b5] at e0
      have := congrArg List.length e0
      rw [List.length_take, List.length_drop] at this
      simp at this
      rw [he] at b3
      simp only [List.length_drop] at b3
      omega
    have hsu : Lx.hd Lx.solid u.bytes = true := by
      rw [hs2, Lx.hd_append hune] at b9
      exact b9
    have htne : t.bytes ≠ [] := fun e0 => by rw [e0] at htl; simp at htl; omega
    have hst : Lx.hd Lx.solid t.bytes = true := by
      rw [hsplit, Lx.hd_append htne] at a9
      exact a9
    exact Lx.tok_two a6 htl hune hst hsu hU
  | i + 1, l, off, t :: ts, h, h0, h1, he, U, F, hU => by
    obtain ⟨a1, a2, a3, a4, a5, a6, a7, a8, a9⟩ := h.step
    simp only [List.getElem_cons_succ] at he hU
    exact Lx.Lexes.pair i _ _ ts a7 (by simpa using h0) (by simpa using h1) he U F hU
theorem Lx.two_str (a b : List UInt8) : ((⟨a.toArray⟩ : ByteArray) ++ ⟨b.toArray⟩).data.toList = a ++ b := by simp
theorem Lx.keep8 {w w' : World} {a0 a1 a2 a3 a4 a5 a6 a7 : Addr} {v0 v1 v2 v3 v4 v5 v6 v7 : Value}
    (h : w.cell? a0 = some v0 ∧ w.cell? a1 = some v1 ∧ w.cell? a2 = some v2 ∧ w.cell? a3 = some v3 ∧ w.cell? a4 = some v4 ∧ w.cell? a5 = some v5 ∧ w.cell? a6 = some v6 ∧ w.cell? a7 = some v7) (hb : Below w.heap.size w w') :
    w'.cell? a0 = some v0 ∧ w'.cell? a1 = some v1 ∧ w'.cell? a2 = some v2 ∧ w'.cell? a3 = some v3 ∧ w'.cell? a4 = some v4 ∧ w'.cell? a5 = some v5 ∧ w'.cell? a6 = some v6 ∧ w'.cell? a7 = some v7 := by
  obtain ⟨h0, h1, h2, h3, h4, h5, h6, h7⟩ := h
  exact ⟨Lx.cell_bt h0 hb, Lx.cell_bt h1 hb, Lx.cell_bt h2 hb, Lx.cell_bt h3 hb, Lx.cell_bt h4 hb, Lx.cell_bt h5 hb, Lx.cell_bt h6 hb, Lx.cell_bt h7 hb⟩

set_option maxHeartbeats 2000000 in
theorem Lx.longest_walk (text : ByteArray) (w : World) (hp : True) (hs : text.size ≤ maxLen) :
    Calls Tryd.prog 9 #[.string text] w fun e w' => e = .returned (.bool true) ∧ Below w.heap.size w w' := by
  have HH := Lib.hid (fun v => Lx.head_any v)
  by_cases hl : 3000 < text.size
  · have hd : decide ((3000 : Int) < (text.size : Int)) = true := decide_eq_true (by omega)
    have hd2 : decide (3000 < text.size) = true := decide_eq_true hl
    go_enter Tryd.func9, Tryd.ntmps9
    go_wp2_with fail
    refine (HH.out _).mono ?_
    rintro e w1 ⟨rfl, hb1⟩
    go_wp2_with fail
    go_ret
    exact ⟨rfl, hb1⟩
  have hd : decide ((3000 : Int) < (text.size : Int)) = false := decide_eq_false (by omega)
  have hd2 : decide (3000 < text.size) = false := decide_eq_false hl
  obtain ⟨T, E, hL⟩ := Lx.Lexes.ex _ text.data.toList 0 (Nat.le_refl _)
  have hTl := hL.count
  rw [Lx.len] at hTl
  cases E with
  | some p =>
    obtain ⟨x, o⟩ := p
    have C := Lib.hid (fun v => Lx.lex_bad text v (by omega) T (by omega) x o hL)
    clear hL hTl
    go_enter Tryd.func9, Tryd.ntmps9
    go_wp2_with fail
    refine (HH.out _).mono ?_
    rintro e w1 ⟨rfl, hb1⟩
    go_wp2_with fail
    refine (C.out _).mono ?_
    rintro e w2 ⟨rfl, hb2⟩
    go_wp2_with fail
    go_loopw [7] (fun i wr => i = .int .i64 1 ∧ Below w.heap.size w wr) (fun i _ => 0)
    case atStart => exact ⟨rfl, Lx.Nb hb1 hb2⟩
    case round =>
      obtain ⟨rfl, hb⟩ := hrel
      go_wp2_with fail
      go_ret
      exact ⟨rfl, hb⟩
  | none =>
    have C := Lib.hid (fun v => Lx.lex_ok text v (by omega) T (by omega) hL)
    have HP := Lib.hid (fun i h0 h1 he U F hU => Lx.Lexes.pair i _ _ T hL h0 h1 he U F hU)
    have HS := Lib.hid hL.small
    have HA := Lib.hid hL.ats
    clear hL
    generalize hn : T.length = n at hTl C
    have HN := Lib.hid hn
    clear hn
    go_enter Tryd.func9, Tryd.ntmps9
    go_wp2_with fail
    refine (HH.out _).mono ?_
    rintro e w1 ⟨rfl, hb1⟩
    go_wp2_with fail
    refine (C.out _).mono ?_
    rintro e w2 ⟨A, c, rfl, hb2, H2⟩
    clear C HH
    have HT := Lib.hid (fun (v : World) (h : Below w2.heap.size w2 v) => (H2.out.bt h).1)
    have HB := Lib.hid (Lx.Nb hb1 hb2)
    clear hb1 hb2 H2
    go_wp2_with fail
    go_loopw [7] (fun i wr => ∃ j : Nat, (j + 1 ≤ n ∨ j = 0) ∧ i = .int .i64 ((j + 1 : Nat) : Int) ∧ Below w2.heap.size w2 wr) (fun i _ => n - (intOf i).toNat)
    case atStart => exact ⟨0, .inr rfl, rfl, Below.refl _ _⟩
    case round =>
      obtain ⟨j, hj, rfl, hb⟩ := hrel
      by_cases hlt : j + 1 < n
      · have hj1 : j + 1 < T.length := by rw [HN.out]; exact hlt
        have hj0 : j < T.length := by omega
        obtain ⟨g, rfl, _, p0, p1, p2, p3⟩ := (HT.out wr hb).at0 j hj0
        obtain ⟨_, e1, _, q0, q1, q2, q3⟩ := (HT.out wr hb).at0 (j + 1) hj1
        cases e1
        have hPR := HP.out j hj0 hj1
        have hsp := HS.out _ (List.getElem_mem hj0)
        have hsq := HS.out _ (List.getElem_mem hj1)
        have hap := HA.out _ (List.getElem_mem hj0)
        rw [Lx.len] at hap
        have W1 := Lib.hid (fun v => Lx.written_any T[j] v (by omega))
        have W2 := Lib.hid (fun v => Lx.written_any T[j + 1] v (by omega))
        have CW := Lib.hid (fun v => Lx.width_any T[j] v (by omega))
        have hwr : IntKind.i64.wrap (((T[j]).at' : Int) + ((T[j]).wd : Int)) = (((T[j]).at' + (T[j]).wd : Nat) : Int) := by rw [IntKind.wrap_i64]; omega
        have hwk : IntKind.i64.wrap (((j + 1 : Nat) : Int) - 1) = (j : Int) := by rw [IntKind.wrap_i64]; omega
        have hw2 : IntKind.i64.wrap (((j + 1 : Nat) : Int) + 1) = ((j + 1 + 1 : Nat) : Int) := by rw [IntKind.wrap_i64]; omega
        have l1 := Lx.bsize (T[j]).bytes
        have l2 := Lx.bsize (T[j + 1]).bytes
        have hlx : ∀ U F, Lx.Lexes ((⟨(T[j]).bytes.toArray⟩ : ByteArray) ++ ⟨(T[j + 1]).bytes.toArray⟩).data.toList 0 U F → (T[j]).at' + (T[j]).wd = (T[j + 1]).at' → ¬(F = none ∧ U.length = 1) := fun U F hU he => hPR he U F (by rw [Lx.two_str] at hU; exact hU)
        have HLX := Lib.hid hlx
        clear hlx hPR HP HS HA
        generalize (⟨(T[j]).bytes.toArray⟩ : ByteArray) = Y1 at *
        generalize (⟨(T[j + 1]).bytes.toArray⟩ : ByteArray) = Y2 at *
        have hY1 : Y1.size ≤ 402 := by omega
        have hY2 : Y2.size ≤ 402 := by omega
        generalize T[j] = t1 at *
        generalize T[j + 1] = t2 at *
        generalize t1.at' + t1.wd = m at *
        generalize t1.wd = wd at *
        generalize t1.kind = kd at *
        generalize (t1.at' : Int) = at1 at *
        generalize (t1.n : Int) = nn at *
        generalize (⟨t1.text.toArray⟩ : ByteArray) = X at *
        generalize t2.kind = kd2 at *
        generalize (t2.n : Int) = nn2 at *
        generalize (⟨t2.text.toArray⟩ : ByteArray) = X2 at *
        generalize t2.at' = at2 at *
        clear l1 l2 hsp hsq hap hTl hj1 hj0 HN
        have hlt' : ((j + 1 : Nat) : Int) < (n : Int) := by omega
        have hj00 : (0 : Int) ≤ (j : Int) := by omega
        have hj01 : (j : Int) < (n : Int) := by omega
        have hk00 : (0 : Int) ≤ ((j + 1 : Nat) : Int) := by omega
        generalize hk : j + 1 = k at *
        have HK := Lib.hid hk
        clear hk
        go_wp2_with fail
        have y0 := fun dq os => cell_regrown p0 dq os
        have y1 := fun dq os => cell_regrown p1 dq os
        have y2 := fun dq os => cell_regrown p2 dq os
        have y3 := fun dq os => cell_regrown p3 dq os
        have z1 := fun dq os => cell_regrown q1 dq os
        have LYr := Lib.hid (fun dq os => Calls.regrown_of (CW.out (Go.Sort.grow (redrawn wr dq) os)))
        refine wp_region_quiet_below (by kernel_rfl) (by kernel_rfl) ?_
        repeat (quiet_step ((go_at_call 15; exact LYr.out _ _)))
        refine wpQuiet_nil ?_
        intro _ hw'
        obtain ⟨⟨dq, osq⟩, hw''⟩ := hw'
        subst hw''
        have hbr := below_regrown wr dq osq
        have K0 := Lx.keep8 ⟨p0, p1, p2, p3, q0, q1, q2, q3⟩ hbr
        have hb4 := Lx.Nb hb hbr
        generalize Go.Sort.grow (redrawn wr dq) osq = v at *
        clear LYr y0 y1 y2 y3 z1 hbr CW p0 p1 p2 p3 q0 q1 q2 q3 hb
        by_cases he : m = at2
        · have he2 : ((m : Int) != (at2 : Int)) = false := by simp; omega
          obtain ⟨U, F, hU⟩ := Lx.Lexes.ex _ (Y1 ++ Y2).data.toList 0 (Nat.le_refl _)
          have hbad := HLX.out U F hU he
          have hUl := hU.count
          rw [Lx.len] at hUl
          have hYs : (Y1 ++ Y2).size ≤ 804 := by rw [ByteArray.size_append]; omega
          have ys : ¬ 9223372036854775807 < Y1.size + Y2.size := by omega
          have Kd : v.drew.cell? ⟨g, j * 4, none⟩ = some (.int .i64 kd) ∧ v.drew.cell? ⟨g, j * 4 + 1, none⟩ = some (.int .i64 at1) ∧ v.drew.cell? ⟨g, j * 4 + 2, none⟩ = some (.int .i64 nn) ∧ v.drew.cell? ⟨g, j * 4 + 3, none⟩ = some (.string X) ∧ v.drew.cell? ⟨g, k * 4, none⟩ = some (.int .i64 kd2) ∧ v.drew.cell? ⟨g, k * 4 + 1, none⟩ = some (.int .i64 (at2 : Int)) ∧ v.drew.cell? ⟨g, k * 4 + 2, none⟩ = some (.int .i64 nn2) ∧ v.drew.cell? ⟨g, k * 4 + 3, none⟩ = some (.string X2) := K0
          clear he HLX
          cases F with
          | some p =>
            obtain ⟨x, o⟩ := p
            have hx := hU.err rfl
            have hx1 : (x == 0) = false := by simp; omega
            have C := Lib.hid (fun v => Lx.lex_bad (Y1 ++ Y2) v (by omega) U (by omega) x o hU)
            clear hU hx hbad
            go_wp2_with fail
            go_region_held3 (fun w' => w'.cell? ⟨g, j * 4, none⟩ = some (.int .i64 kd) ∧ w'.cell? ⟨g, j * 4 + 1, none⟩ = some (.int .i64 at1) ∧ w'.cell? ⟨g, j * 4 + 2, none⟩ = some (.int .i64 nn) ∧ w'.cell? ⟨g, j * 4 + 3, none⟩ = some (.string X) ∧ w'.cell? ⟨g, k * 4, none⟩ = some (.int .i64 kd2) ∧ w'.cell? ⟨g, k * 4 + 1, none⟩ = some (.int .i64 (at2 : Int)) ∧ w'.cell? ⟨g, k * 4 + 2, none⟩ = some (.int .i64 nn2) ∧ w'.cell? ⟨g, k * 4 + 3, none⟩ = some (.string X2))
              (first | exact Kd | exact K5 | exact K6 | exact K7 | exact K0)
              (first
                | (go_at_call 16
                   (with_reducible refine (W1.out v.drew).mono ?_)
                   rintro e w5 ⟨rfl, hb5⟩
                   have K5 := Lx.keep8 Kd hb5)
                | (go_at_call 16
                   (with_reducible refine (W2.out v.drew).mono ?_)
                   rintro e w5 ⟨rfl, hb5⟩
                   have K5 := Lx.keep8 Kd hb5)
                | (go_at_call 16
                   (with_reducible refine (W1.out w5).mono ?_)
                   rintro e w6 ⟨rfl, hb6⟩
                   have K6 := Lx.keep8 K5 hb6)
                | (go_at_call 16
                   (with_reducible refine (W2.out w5).mono ?_)
                   rintro e w6 ⟨rfl, hb6⟩
                   have K6 := Lx.keep8 K5 hb6)
                | (go_at_call 12
                   (with_reducible refine (C.out w6).mono ?_)
                   rintro e w7 ⟨rfl, hb7⟩
                   have K7 := Lx.keep8 K6 hb7)
                | fail)
            all_goals go_wp2_with fail
            all_goals exact ⟨⟨k, by omega, by first | rfl | (rw [hw2]), Lx.Nb hb4 (Lx.Nb (Lx.drewN_below v 1) (Lx.Nb hb5 (Lx.Nb hb6 hb7)))⟩, by simp [intOf]; omega⟩
          | none =>
            have hu1 : ((U.length : Int) == 1) = false := by
              have : ¬ U.length = 1 := fun h => hbad ⟨rfl, h⟩
              simp
              omega
            have hu2 : (U.length == 1) = false := by
              have : ¬ U.length = 1 := fun h => hbad ⟨rfl, h⟩
              simpa using this
            have C := Lib.hid (fun v => Lx.lex_ok (Y1 ++ Y2) v (by omega) U (by omega) hU)
            clear hU hbad
            generalize U.length = nu at *
            go_wp2_with fail
            go_region_held3 (fun w' => w'.cell? ⟨g, j * 4, none⟩ = some (.int .i64 kd) ∧ w'.cell? ⟨g, j * 4 + 1, none⟩ = some (.int .i64 at1) ∧ w'.cell? ⟨g, j * 4 + 2, none⟩ = some (.int .i64 nn) ∧ w'.cell? ⟨g, j * 4 + 3, none⟩ = some (.string X) ∧ w'.cell? ⟨g, k * 4, none⟩ = some (.int .i64 kd2) ∧ w'.cell? ⟨g, k * 4 + 1, none⟩ = some (.int .i64 (at2 : Int)) ∧ w'.cell? ⟨g, k * 4 + 2, none⟩ = some (.int .i64 nn2) ∧ w'.cell? ⟨g, k * 4 + 3, none⟩ = some (.string X2))
              (first | exact Kd | exact K5 | exact K6 | exact K7 | exact K0)
              (first
                | (go_at_call 16
                   (with_reducible refine (W1.out v.drew).mono ?_)
                   rintro e w5 ⟨rfl, hb5⟩
                   have K5 := Lx.keep8 Kd hb5)
                | (go_at_call 16
                   (with_reducible refine (W2.out v.drew).mono ?_)
                   rintro e w5 ⟨rfl, hb5⟩
                   have K5 := Lx.keep8 Kd hb5)
                | (go_at_call 16
                   (with_reducible refine (W1.out w5).mono ?_)
                   rintro e w6 ⟨rfl, hb6⟩
                   have K6 := Lx.keep8 K5 hb6)
                | (go_at_call 16
                   (with_reducible refine (W2.out w5).mono ?_)
                   rintro e w6 ⟨rfl, hb6⟩
                   have K6 := Lx.keep8 K5 hb6)
                | (go_at_call 12
                   (with_reducible refine (C.out w6).mono ?_)
                   rintro e w7 ⟨A', c', rfl, hb7, H7⟩
                   have K7 := Lx.keep8 K6 hb7)
                | fail)
            all_goals go_wp2_with fail
            all_goals exact ⟨⟨k, by omega, by first | rfl | (rw [hw2]), Lx.Nb hb4 (Lx.Nb (Lx.drewN_below v 1) (Lx.Nb hb5 (Lx.Nb hb6 hb7)))⟩, by simp [intOf]; omega⟩
        · have he2 : ((m : Int) != (at2 : Int)) = true := by simp; omega
          have he3 : ¬ (m : Int) = (at2 : Int) := by omega
          go_wp2_with fail
          exact ⟨⟨k, by omega, by first | rfl | (rw [hw2]), hb4⟩, by simp [intOf]; omega⟩
      · have hlt' : ¬ ((j + 1 : Nat) : Int) < (n : Int) := by omega
        generalize j + 1 = k at *
        go_wp2_with fail
        go_ret
        exact ⟨rfl, Lx.Nb HB.out hb⟩
end Go.Proofs.YtkbnaendlcjjbaaDoor
