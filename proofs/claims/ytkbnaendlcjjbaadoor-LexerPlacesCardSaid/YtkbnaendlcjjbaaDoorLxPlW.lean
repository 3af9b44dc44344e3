/- The walk of LexerPlaces. -/
import Derived.Test.YtkbnaendlcjjbaaDoorLxBgW
import Derived.Lib.QuietBelow
import Derived.Deep.QuietTactic
set_option linter.unusedSimpArgs false
set_option linter.unusedVariables false
namespace Go.Proofs.YtkbnaendlcjjbaaDoor
open Go.RowKit
set_option maxRecDepth 100000

theorem Lx.ext_mid (t : ByteArray) (a b : Nat) (h : a ≤ b) (hb : b ≤ t.size) : (t.extract a b).data.toList = (t.data.toList.drop a).take (b - a) := by
  rw [Lx.ext t a b (b - a) (by omega), Lx.bsz]
theorem Lx.ext_eq (t : ByteArray) (a b : Nat) (l : List UInt8) (h : a ≤ b) (hl : l = (t.data.toList.drop a).take (b - a)) : t.extract a b = ⟨l.toArray⟩ := by
  rw [hl]
  exact Lx.ext t a b (b - a) (by omega)
/-- What stands at the place of the token number k. -/
structure Lx.At (text : ByteArray) (T : List Lx.Tk) (en : Nat) (t : Lx.Tk) : Prop where
  le : en ≤ t.at'
  fits : t.at' + t.wd ≤ text.size
  small : t.text.length < 2 ^ 40
  word : text.extract t.at' (t.at' + t.wd) = ⟨t.bytes.toArray⟩
  some : t.bytes ≠ []
  gaps : Lx.gapN false (text.extract en t.at').data.toList = (text.extract en t.at').size
theorem Lx.at_of {text : ByteArray} {en : Nat} {t : Lx.Tk} {r : List Lx.Tk} (he : en ≤ text.size) (h : Lx.Lexes (text.data.toList.drop en) en (t :: r) none) : Lx.At text (t :: r) en t ∧ Lx.Lexes (text.data.toList.drop (t.at' + t.wd)) (t.at' + t.wd) r none := by
  obtain ⟨a1, a2, a3, a4, a5, a6, a7, a8, a9⟩ := h.step
  rw [List.length_drop, Lx.len] at a3
  have htl : t.text.length ≤ t.wd := by unfold Lx.Tk.wd; split <;> omega
  have e1 : (text.data.toList.drop en).drop (t.at' - en) = text.data.toList.drop t.at' := by rw [List.drop_drop]; congr 1; omega
  rw [e1] at a5
  refine ⟨⟨a1, by omega, ?_, ?_, ?_, ?_⟩, ?_⟩
  · by_cases hh : t.text.length < 2 ^ 40
    · exact hh
    · have h4 := (Lx.tok_bytes a6 0).2.2.2
      omega
  · exact Lx.ext_eq _ _ _ _ (by omega) (by rw [a5]; congr 1; omega)
  · intro e0
    rw [a5] at e0
    have := congrArg List.length e0
    rw [List.length_take, List.length_drop, Lx.len] at this
    simp at this
    omega
  · rw [← Lx.len, Lx.ext_mid _ _ _ a1 (by omega)]
    exact a8
  · rw [List.drop_drop] at a7
    rw [show en + (t.at' + t.wd - en) = t.at' + t.wd by omega] at a7
    exact a7

set_option maxHeartbeats 2000000 in
theorem Lx.places_walk (text : ByteArray) (w : World) (hp : True) (hs : text.size ≤ maxLen) :
    Calls Tryd.prog 4 #[.string text] w fun e w' => e = .returned (.bool true) ∧ Below w.heap.size w w' := by
  have HH := Lib.hid (fun v => Lx.head_any v)
  by_cases hl : 3000 < text.size
  · have hd : decide ((3000 : Int) < (text.size : Int)) = true := decide_eq_true (by omega)
    have hd2 : decide (3000 < text.size) = true := decide_eq_true hl
    go_enter Tryd.func4, Tryd.ntmps4
    go_wp2_with fail
    refine (HH.out _).mono ?_
    rintro e w1 ⟨rfl, hb1⟩
    go_wp2_with fail
    go_ret
    exact ⟨rfl, hb1⟩
  have hd : decide ((3000 : Int) < (text.size : Int)) = false := decide_eq_false (by omega)
  have hd2 : decide (3000 < text.size) = false := decide_eq_false hl
  obtain ⟨T, E, hL⟩ := Lx.Lexes.ex _ text.data.toList 0 (Nat.le_refl _)
  have hTl := hL.count
  rw [Lx.len] at hTl
  cases E with
  | some p =>
    obtain ⟨x, o⟩ := p
    have hx := hL.err rfl
    have hx1 : (x != 0) = true := by simp; omega
    obtain ⟨_, ho, _, _⟩ := hL.bad_at rfl
    rw [Lx.len] at ho
    have C := Lib.hid (fun v => Lx.lex_bad text v (by omega) T (by omega) x o hL)
    have o0 : (0 : Int) ≤ (o : Int) := by omega
    have o1 : (o : Int) < (text.size : Int) := by omega
    have o2 : decide ((0 : Int) ≤ (o : Int)) = true := decide_eq_true o0
    have o3 : decide ((o : Int) < (text.size : Int)) = true := decide_eq_true o1
    have o4 : o < text.size := by omega
    clear hL hx hTl ho
    go_enter Tryd.func4, Tryd.ntmps4
    go_wp2_with fail
    refine (HH.out _).mono ?_
    rintro e w1 ⟨rfl, hb1⟩
    go_wp2_with fail
    refine (C.out _).mono ?_
    rintro e w2 ⟨rfl, hb2⟩
    go_wp2_with fail
    go_ret
    exact ⟨rfl, Lx.Nb hb1 hb2⟩
  | none =>
    have C := Lib.hid (fun v => Lx.lex_ok text v (by omega) T (by omega) hL)
    have HL0 := Lib.hid hL
    clear hL
    generalize hn : T.length = n at hTl C
    have HN := Lib.hid hn
    clear hn
    go_enter Tryd.func4, Tryd.ntmps4
    go_wp2_with fail
    refine (HH.out _).mono ?_
    rintro e w1 ⟨rfl, hb1⟩
    go_wp2_with fail
    refine (C.out _).mono ?_
    rintro e w2 ⟨A, c, rfl, hb2, H2⟩
    clear C HH
    have HT := Lib.hid (fun (v : World) (h : Below w2.heap.size w2 v) => (H2.out.bt h).1)
    have HB := Lib.hid (Lx.Nb hb1 hb2)
    clear hb1 hb2 H2
    go_wp2_with fail
    go_loopw [7, 8] (fun x i wr => ∃ (k en : Nat), k ≤ n ∧ en ≤ text.size ∧ i = .int .i64 (k : Int) ∧ x = .int .i64 (en : Int) ∧ Hid (Lx.Lexes (text.data.toList.drop en) en (T.drop k) none) ∧ Below w2.heap.size w2 wr) (fun _ i _ => n - (intOf i).toNat)
    case atStart => exact ⟨0, 0, by omega, by omega, rfl, rfl, HL0, Below.refl _ _⟩
    case round =>
      clear HL0
      obtain ⟨k, en, hk, hen, rfl, rfl, HL, hb⟩ := hrel
      by_cases hlt : k < n
      · have hk0 : k < T.length := by rw [HN.out]; exact hlt
        obtain ⟨g, rfl, _, p0, p1, p2, p3⟩ := (HT.out wr hb).at0 k hk0
        have hdr : T.drop k = T[k] :: T.drop (k + 1) := List.drop_eq_getElem_cons hk0
        have hLt := HL.out
        rw [hdr] at hLt
        obtain ⟨⟨d1, d2, d3, d4, d5, d6⟩, d7⟩ := Lx.at_of hen hLt
        have CW := Lib.hid (fun v => Lx.width_any T[k] v d3)
        have CN := Lib.hid (fun v => Lx.written_any T[k] v d3)
        have CG := Lib.hid (fun v => (Lx.gapsR_any (text.extract en (T[k]).at') v (by rw [ByteArray.size_extract]; omega)).mono fun e u h => (⟨h.1, h.2 ▸ Below.refl _ _⟩ : e = .returned (.bool (decide (Lx.gapN false (text.extract en (T[k]).at').data.toList = (text.extract en (T[k]).at').size))) ∧ Below v.heap.size v u))
        rw [decide_eq_true d6] at CG
        have hyn : ((⟨(T[k]).bytes.toArray⟩ : ByteArray)).data.toList.isEmpty = false := by
          rw [Lx.bsz]
          cases hb0 : (T[k]).bytes with
          | nil => exact absurd hb0 d5
          | cons a b => rfl
        have hyt : ByteArray.toList (⟨(T[k]).bytes.toArray⟩ : ByteArray) = (T[k]).bytes := by simp
        have hyn2 : (ByteArray.toList (⟨(T[k]).bytes.toArray⟩ : ByteArray)).isEmpty = false := by
          rw [hyt]
          cases hb0 : (T[k]).bytes with
          | nil => exact absurd hb0 d5
          | cons a b => rfl
        have HL2 := Lib.hid d7
        have hwr : IntKind.i64.wrap (((T[k]).at' : Int) + ((T[k]).wd : Int)) = (((T[k]).at' + (T[k]).wd : Nat) : Int) := by rw [IntKind.wrap_i64]; omega
        have hma : (T[k]).at' ≤ (T[k]).at' + (T[k]).wd := by omega
        clear d7 d6 d5 d3 hLt HL hyt
        generalize (⟨(T[k]).bytes.toArray⟩ : ByteArray) = Y at *
        generalize T[k] = t1 at *
        generalize t1.at' + t1.wd = m at *
        generalize t1.wd = wd at *
        generalize t1.kind = kd at *
        generalize (t1.n : Int) = nn at *
        generalize (⟨t1.text.toArray⟩ : ByteArray) = X at *
        generalize t1.at' = at1 at *
        clear hdr
        have b0 : (0 : Int) ≤ (en : Int) := by omega
        have b1 : (en : Int) ≤ (at1 : Int) := by omega
        have b2 : (at1 : Int) ≤ (m : Int) := by omega
        have b3 : (m : Int) ≤ (text.size : Int) := by omega
        have b4 : (0 : Int) ≤ (at1 : Int) := by omega
        have b5 : (at1 : Int) ≤ (text.size : Int) := by omega
        have b6 : decide ((at1 : Int) < (en : Int)) = false := decide_eq_false (by omega)
        have b7 : decide ((text.size : Int) < (m : Int)) = false := decide_eq_false (by omega)
        have b8 : decide (at1 < en) = false := decide_eq_false (by omega)
        have b9 : decide (text.size < m) = false := decide_eq_false (by omega)
        have hlt' : (k : Int) < (n : Int) := by omega
        have hk00 : (0 : Int) ≤ (k : Int) := by omega
        clear hma
        go_wp2_with fail
        refine (CW.out _).mono ?_
        rintro e v ⟨rfl, hbv⟩
        have p0' := Lx.cell_bt p0 hbv
        have p1' := Lx.cell_bt p1 hbv
        have p2' := Lx.cell_bt p2 hbv
        have p3' := Lx.cell_bt p3 hbv
        have hbw := Lx.Nb hb hbv
        clear p0 p1 p2 p3 hbv hb
        go_wp2_with fail
        have y0 := fun dq os => cell_regrown p0' dq os
        have y1 := fun dq os => cell_regrown p1' dq os
        have y2 := fun dq os => cell_regrown p2' dq os
        have y3 := fun dq os => cell_regrown p3' dq os
        have LW := Lib.hid (fun dq os => Calls.regrown_of (CW.out (Go.Sort.grow (redrawn v dq) os)))
        have LN := Lib.hid (fun dq os => Calls.regrown_of (CN.out (Go.Sort.grow (redrawn v dq) os)))
        have LG := Lib.hid (fun dq os => Calls.regrown_of (CG.out (Go.Sort.grow (redrawn v dq) os)))
        refine wp_region_quiet_below (by kernel_rfl) (by kernel_rfl) ?_
        repeat (quiet_step (first | (go_at_call 15; exact LW.out _ _) | (go_at_call 16; exact LN.out _ _) | (go_at_call 17; exact LG.out _ _)))
        refine wpQuiet_nil ?_
        intro _ hw'
        obtain ⟨⟨dq, osq⟩, hw''⟩ := hw'
        subst hw''
        have hbr := below_regrown v dq osq
        have r0 := Lx.cell_bt p0' hbr
        have r1 := Lx.cell_bt p1' hbr
        have r2 := Lx.cell_bt p2' hbr
        have r3 := Lx.cell_bt p3' hbr
        have hb4 := Lx.Nb hbw hbr
        generalize Go.Sort.grow (redrawn v dq) osq = v2 at *
        clear LW LN LG y0 y1 y2 y3 p0' p1' p2' p3' hbr hbw
        go_wp2_with fail
        refine (CW.out _).mono ?_
        rintro e v3 ⟨rfl, hb5⟩
        go_wp2_with fail
        exact ⟨⟨k + 1, m, by omega, by omega, by go_num, rfl, HL2, Lx.Nb hb4 hb5⟩, by simp [intOf]; omega⟩
      · obtain rfl : k = n := by omega
        have hg : Lx.gapN false (text.extract en text.size).data.toList = (text.extract en text.size).size := by
          have := HL.out
          rw [show T.drop k = [] from List.drop_eq_nil_of_le (by rw [HN.out]; exact Nat.le_refl _)] at this
          have := this.nil
          rw [← Lx.len (text.extract en text.size), Lx.ext_drop _ _ hen]
          exact this
        have CG := Lib.hid (fun v => Lx.gapsR_any (text.extract en text.size) v (by rw [ByteArray.size_extract]; omega))
        rw [decide_eq_true hg] at CG
        have b0 : (0 : Int) ≤ (en : Int) := by omega
        have b1 : (en : Int) ≤ (text.size : Int) := by omega
        clear hg HL
        go_wp2_with fail
        refine (CG.out _).mono ?_
        rintro e v ⟨rfl, rfl⟩
        go_wp2_with fail
        go_ret
        exact ⟨rfl, Lx.Nb HB.out hb⟩
end Go.Proofs.YtkbnaendlcjjbaaDoor
