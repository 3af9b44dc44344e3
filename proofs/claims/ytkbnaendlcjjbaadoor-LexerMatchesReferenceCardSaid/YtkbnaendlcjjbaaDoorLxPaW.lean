/- The walk of LexerParts. -/
import Derived.Test.YtkbnaendlcjjbaaDoorLxBgW
set_option linter.unusedSimpArgs false
set_option linter.unusedVariables false
namespace Go.Proofs.YtkbnaendlcjjbaaDoor
open Go.RowKit
set_option maxRecDepth 100000

theorem Lx.line_str (a b : ByteArray) : (a ++ ⟨#[10]⟩ ++ b).data.toList = a.data.toList ++ 10 :: b.data.toList := by
  simp
theorem Lx.shift_length (d : Nat) (l : List Lx.Tk) : (Lx.shift d l).length = l.length := by simp [Lx.shift]
theorem Lx.shift_zero (l : List Lx.Tk) : Lx.shift 0 l = l := by simp [Lx.shift]
theorem TkS.left {w : World} {B o : Nat} {A : Option Addr} {l m : List Lx.Tk} (h : TkS w B o A (l ++ m)) : TkS w B o A l := fun k hk => by
  have := h k (by rw [List.length_append]; omega)
  rw [List.getElem_append_left hk] at this
  exact this
theorem TkS.right {w : World} {B o g : Nat} {l m : List Lx.Tk} (h : TkS w B o (some ⟨g, o, none⟩) (l ++ m)) : TkS w B (o + l.length * 4) (some ⟨g, o + l.length * 4, none⟩) m := fun k hk => by
  obtain ⟨g', e, hlt, h0, h1, h2, h3⟩ := h (l.length + k) (by rw [List.length_append]; omega)
  cases e
  rw [List.getElem_append_right (by omega)] at h0 h1 h2 h3
  simp only [Nat.add_sub_cancel_left] at h0 h1 h2 h3
  have ea : o + (l.length + k) * 4 = o + l.length * 4 + k * 4 := by omega
  rw [ea] at h0 h1 h2 h3
  exact ⟨g, rfl, hlt, h0, h1, h2, h3⟩
theorem TkS.none {w : World} {B o : Nat} {A : Option Addr} : TkS w B o A [] := fun k hk => absurd hk (by simp)
theorem Lx.Lexes.ats {l : List UInt8} {off : Nat} {ts e} (h : Lx.Lexes l off ts e) : ∀ t ∈ ts, t.at' < off + l.length := by
  induction h with
  | done => intro t h; simp at h
  | bad => intro t h; simp at h
  | tok l off k n t w ts e h hk hr ih =>
    intro u hu
    have := Lx.gap_lt h
    rcases List.mem_cons.1 hu with rfl | hu
    · dsimp only; omega
    · have h2 := ih u hu
      have hw := Lx.tok_lt hk
      simp only [List.length_drop] at h2 hw
      omega

theorem Lx.same0 (A1 A2 : Option Addr) (c1 c2 n o1 o2 : Nat) (l : List Lx.Tk) (w : World) (hn1 : l.length = n) (hn : n ≤ 5000) (hsm : ∀ t ∈ l, t.at' < 2 ^ 40) (h1 : TkS w w.heap.size o1 A1 l) (h2 : TkS w w.heap.size o2 A2 l) :
    Calls Tryd.prog 14 #[.slice A1 n c1, .int .i64 0, .slice A2 n c2] w fun e w' => e = .returned (.bool true) ∧ Below w.heap.size w w' := by
  have h := Lx.same_any A1 A2 c1 c2 n 0 o1 o2 l l w hn1 hn1 hn (Lx.shift_zero l).symm (by omega) hsm h1 h2
  rw [show ((0 : Nat) : Int) = 0 from rfl] at h
  exact h

set_option maxHeartbeats 2000000 in
theorem Lx.parts_walk (one two : ByteArray) (w : World) (hp : True) (hs1 : one.size ≤ maxLen) (hs2 : two.size ≤ maxLen) :
    Calls Tryd.prog 6 #[.string one, .string two] w fun e w' => e = .returned (.bool true) ∧ Below w.heap.size w w' := by
  have HH := Lib.hid (fun v => Lx.head_any v)
  by_cases hl : 1500 < one.size
  · have hd : decide ((1500 : Int) < (one.size : Int)) = true := decide_eq_true (by omega)
    have hd2 : decide (1500 < one.size) = true := decide_eq_true hl
    go_enter Tryd.func6, Tryd.ntmps6
    go_wp2_with fail
    refine (HH.out _).mono ?_
    rintro e w1 ⟨rfl, hb1⟩
    go_wp2_with fail
    go_ret
    exact ⟨rfl, hb1⟩
  have hd : decide ((1500 : Int) < (one.size : Int)) = false := decide_eq_false (by omega)
  have hd2 : decide (1500 < one.size) = false := decide_eq_false hl
  by_cases hl2 : 1500 < two.size
  · have hd3 : decide ((1500 : Int) < (two.size : Int)) = true := decide_eq_true (by omega)
    have hd4 : decide (1500 < two.size) = true := decide_eq_true hl2
    go_enter Tryd.func6, Tryd.ntmps6
    go_wp2_with fail
    refine (HH.out _).mono ?_
    rintro e w1 ⟨rfl, hb1⟩
    go_wp2_with fail
    go_ret
    exact ⟨rfl, hb1⟩
  have hd3 : decide ((1500 : Int) < (two.size : Int)) = false := decide_eq_false (by omega)
  have hd4 : decide (1500 < two.size) = false := decide_eq_false hl2
  obtain ⟨Ta, Ea, hA⟩ := Lx.Lexes.ex _ one.data.toList 0 (Nat.le_refl _)
  obtain ⟨Tb, Eb, hB⟩ := Lx.Lexes.ex _ two.data.toList 0 (Nat.le_refl _)
  have hla := hA.count
  have hlb := hB.count
  rw [Lx.len] at hla hlb
  have h10 : (⟨#[10]⟩ : ByteArray).size = 1 := rfl
  have hsz : (one ++ ⟨#[10]⟩ ++ two).size ≤ 20000 := by rw [ByteArray.size_append, ByteArray.size_append]; omega
  cases Ea with
  | some p =>
    obtain ⟨x, o⟩ := p
    have hx := hA.err rfl
    have hx1 : (x != 0) = true := by simp; omega
    have hJ := hA.join_bad rfl two.data.toList
    have C1 := Lib.hid (fun v => Lx.lex_bad one v (by omega) Ta (by omega) x o hA)
    have C2 := Lib.hid (fun v => Lx.lex_run two v (by omega) Tb Eb hB)
    have C3 := Lib.hid (fun v => Lx.lex_bad (one ++ ⟨#[10]⟩ ++ two) v hsz Ta (by omega) x o (by rw [Lx.line_str]; exact hJ))
    clear hA hB hJ hx hsz
    go_enter Tryd.func6, Tryd.ntmps6
    go_wp2_with fail
    refine (HH.out _).mono ?_
    rintro e w1 ⟨rfl, hb1⟩
    go_wp2_with fail
    refine (C1.out _).mono ?_
    rintro e w2 ⟨rfl, hb2⟩
    go_wp2_with fail
    refine (C2.out _).mono ?_
    rintro e w3 ⟨V, en, off, rfl, hb3, _⟩
    go_wp2_with fail
    refine (C3.out _).mono ?_
    rintro e w4 ⟨rfl, hb4⟩
    go_wp2_with fail
    go_ret
    exact ⟨rfl, Lx.Nb (Lx.Nb hb1 hb2) (Lx.Nb hb3 hb4)⟩
  | none =>
    have hsh := hB.shift (d := one.size + 1)
    rw [Nat.zero_add] at hsh
    have hJ := hA.join rfl (two := two.data.toList) (b := Lx.shift (one.size + 1) Tb) (by rw [Nat.zero_add, Lx.len]; exact hsh)
    have C1 := Lib.hid (fun v => Lx.lex_ok one v (by omega) Ta (by omega) hA)
    cases Eb with
    | some p =>
      obtain ⟨y, o⟩ := p
      have hy := hB.err rfl
      have hy1 : (y != 0) = true := by simp; omega
      have hy2 : (y == y) = true := by simp
      obtain ⟨_, ho, _⟩ := hB.bad_at rfl
      rw [Lx.len] at ho
      have C2 := Lib.hid (fun v => Lx.lex_bad two v (by omega) Tb (by omega) y o hB)
      have C3 := Lib.hid (fun v => Lx.lex_bad (one ++ ⟨#[10]⟩ ++ two) v hsz (Ta ++ Lx.shift (one.size + 1) Tb) (by rw [List.length_append, Lx.shift_length]; omega) y (o + (one.size + 1)) (by rw [Lx.line_str]; exact hJ))
      have hw1 : IntKind.i64.wrap (IntKind.i64.wrap ((o : Int) + (one.size : Int)) + 1) = ((o + (one.size + 1) : Nat) : Int) := by
        rw [IntKind.wrap_i64, IntKind.wrap_i64]; omega
      have hw2 : IntKind.i64.wrap ((o : Int) + (one.size : Int)) = ((o + one.size : Nat) : Int) := by rw [IntKind.wrap_i64]; omega
      have hw3 : IntKind.i64.wrap (((o + one.size : Nat) : Int) + 1) = ((o + (one.size + 1) : Nat) : Int) := by rw [IntKind.wrap_i64]; omega
      clear hA hB hJ hy hsz hsh
      generalize o + (one.size + 1) = q at *
      generalize o + one.size = q2 at *
      generalize Ta.length = na at *
      go_enter Tryd.func6, Tryd.ntmps6
      go_wp2_with fail
      refine (HH.out _).mono ?_
      rintro e w1 ⟨rfl, hb1⟩
      go_wp2_with fail
      refine (C1.out _).mono ?_
      rintro e w2 ⟨A1, c1, rfl, hb2, H1⟩
      go_wp2_with fail
      refine (C2.out _).mono ?_
      rintro e w3 ⟨rfl, hb3⟩
      go_wp2_with fail
      refine (C3.out _).mono ?_
      rintro e w4 ⟨rfl, hb4⟩
      go_wp2_with fail
      go_ret
      exact ⟨rfl, Lx.Nb (Lx.Nb hb1 hb2) (Lx.Nb hb3 hb4)⟩
    | none =>
      have C2 := Lib.hid (fun v => Lx.lex_ok two v (by omega) Tb (by omega) hB)
      have C3 := Lib.hid (fun v => Lx.lex_ok (one ++ ⟨#[10]⟩ ++ two) v hsz (Ta ++ Lx.shift (one.size + 1) Tb) (by rw [List.length_append, Lx.shift_length]; omega) (by rw [Lx.line_str]; exact hJ))
      have hsa : ∀ t ∈ Ta, t.at' < 2 ^ 40 := fun t ht => by have := hA.ats t ht; rw [Lx.len] at this; omega
      have hsb : ∀ t ∈ Tb, t.at' < 2 ^ 40 := fun t ht => by have := hB.ats t ht; rw [Lx.len] at this; omega
      have S1 := Lib.hid (fun (A1 A2 : Option Addr) (c1 c2 : Nat) (v : World) (h1 : TkS v v.heap.size 0 A1 Ta) (h2 : TkS v v.heap.size 0 A2 Ta) => Lx.same0 A1 A2 c1 c2 Ta.length 0 0 Ta v rfl (by omega) hsa h1 h2)
      have S2 := Lib.hid (fun (A1 A2 : Option Addr) (c1 c2 o2 : Nat) (v : World) (h1 : TkS v v.heap.size 0 A1 Tb) (h2 : TkS v v.heap.size o2 A2 (Lx.shift (one.size + 1) Tb)) => Lx.same_any A1 A2 c1 c2 Tb.length (one.size + 1) 0 o2 Tb _ v rfl (Lx.shift_length _ _) (by omega) rfl (by omega) hsb h1 h2)
      have hw1 : IntKind.i64.wrap ((Ta.length : Int) + (Tb.length : Int)) = (((Ta ++ Lx.shift (one.size + 1) Tb).length : Nat) : Int) := by
        rw [List.length_append, Lx.shift_length, IntKind.wrap_i64]; omega
      have hw2 : IntKind.i64.wrap ((one.size : Int) + 1) = ((one.size + 1 : Nat) : Int) := by rw [IntKind.wrap_i64]; omega
      have HR := Lib.hid (fun (w : World) (g : Nat) (h : TkS w w.heap.size 0 (some ⟨g, 0, none⟩) (Ta ++ Lx.shift (one.size + 1) Tb)) => h.right)
      have HLL := Lib.hid (fun (w : World) (A : Option Addr) (h : TkS w w.heap.size 0 A (Ta ++ Lx.shift (one.size + 1) Tb)) => h.left)
      have hnT : Ta.length ≤ (Ta ++ Lx.shift (one.size + 1) Tb).length := by rw [List.length_append]; omega
      have HNN : Hid ((Ta ++ Lx.shift (one.size + 1) Tb).length = Ta.length + Tb.length) := Lib.hid (by rw [List.length_append, Lx.shift_length])
      have HTE : Hid (Ta.length = (Ta ++ Lx.shift (one.size + 1) Tb).length → Lx.shift (one.size + 1) Tb = []) := Lib.hid (fun h => by
        rw [List.length_append] at h
        exact List.length_eq_zero_iff.1 (by omega))
      clear hA hB hJ hsz hsh hsa hsb
      generalize hTT : Ta ++ Lx.shift (one.size + 1) Tb = TT at *
      generalize Lx.shift (one.size + 1) Tb = Tc at *
      generalize one.size + 1 = d at *
      generalize hna : Ta.length = na at *
      generalize Tb.length = nb at *
      generalize hnn : TT.length = nT at *
      have HNT := Lib.hid hnn
      clear hTT hna hnn
      go_enter Tryd.func6, Tryd.ntmps6
      go_wp2_with fail
      refine (HH.out _).mono ?_
      rintro e w1 ⟨rfl, hb1⟩
      go_wp2_with fail
      refine (C1.out _).mono ?_
      rintro e w2 ⟨A1, c1, rfl, hb2, H1⟩
      go_wp2_with fail
      refine (C2.out _).mono ?_
      rintro e w3 ⟨A2, c2, rfl, hb3, H2⟩
      go_wp2_with fail
      refine (C3.out _).mono ?_
      rintro e w4 ⟨A3, c3, rfl, hb4, H3⟩
      have hb := Lx.Nb (Lx.Nb hb1 hb2) (Lx.Nb hb3 hb4)
      have h1 := (H1.out.bt (Lx.Nb hb3 hb4)).1
      have h2 := (H2.out.bt hb4).1
      have HH1 := Lib.hid h1
      have HH2 := Lib.hid h2
      obtain ⟨k1, k2, k3, k4⟩ := H3.out
      have HK := Lib.hid k1
      rw [HNT.out] at k2
      clear H1 H2 H3 h1 h2 k1 hb1 hb2 hb3 hb4 C1 C2 C3 HH
      have hn0 : (0 : Int) ≤ (na : Int) := by omega
      have hn1 : (na : Int) ≤ (c3 : Int) := by omega
      have hn2 : (na : Int) ≤ (nT : Int) := by omega
      have hn3 : (nT : Int) ≤ (c3 : Int) := by omega
      unfold maxLen at k3
      have hnn := HNN.out
      rcases k4 with ⟨rfl, rfl⟩ | ⟨g, rfl⟩
      · obtain rfl : nT = 0 := by omega
        obtain rfl : na = 0 := by omega
        obtain rfl : nb = 0 := by omega
        have HTc : Hid (Tc = []) := Lib.hid (HTE.out rfl)
        clear hnn hn0 hn1 hn2 hn3 hw1 hnT
        go_wp2_with fail
        refine (S1.out A1 _ c1 _ w4 HH1.out (HLL.out _ _ HK.out)).mono ?_
        rintro e w5 ⟨rfl, hb5⟩
        have S3 := Lib.hid (fun (A : Option Addr) (c : Nat) => S2.out A2 A c2 c 0 w5 (HH2.out.bt hb5) (by rw [HTc.out]; exact TkS.none))
        clear S1 S2
        go_wp2_with fail
        refine (S3.out _ _).mono ?_
        rintro e w6 ⟨rfl, hb6⟩
        go_wp2_with fail
        go_ret
        exact ⟨rfl, Lx.Nb hb (Lx.Nb hb5 hb6)⟩
      · by_cases hc : na = c3
        · have HTc : Hid (Tc = []) := Lib.hid (HTE.out (by omega))
          obtain rfl : nb = 0 := by omega
          obtain rfl : nT = na := by omega
          subst hc
          clear hnn
          go_wp2_with fail
          refine (S1.out A1 (some ⟨g, 0, none⟩) c1 _ w4 HH1.out (HLL.out _ _ HK.out)).mono ?_
          rintro e w5 ⟨rfl, hb5⟩
          have S3 := Lib.hid (fun (A : Option Addr) (c : Nat) => S2.out A2 A c2 c 0 w5 (HH2.out.bt hb5) (by rw [HTc.out]; exact TkS.none))
          clear S1 S2
          go_wp2_with fail
          refine (S3.out _ _).mono ?_
          rintro e w6 ⟨rfl, hb6⟩
          go_wp2_with fail
          go_ret
          exact ⟨rfl, Lx.Nb hb (Lx.Nb hb5 hb6)⟩
        · have hc' : ¬ (c3 : Int) = (na : Int) := by omega
          have hsub : nT - na = nb := by omega
          clear hnn
          go_wp2_with fail
          refine (S1.out A1 (some ⟨g, 0, none⟩) c1 c3 w4 HH1.out (HLL.out _ _ HK.out)).mono ?_
          rintro e w5 ⟨rfl, hb5⟩
          have hri := HR.out _ _ (HK.out.bt hb5)
          rw [Nat.zero_add] at hri
          have S3 := Lib.hid (S2.out A2 (some ⟨g, na * 4, none⟩) c2 (c3 - na) (na * 4) w5 (HH2.out.bt hb5) hri)
          clear S1 S2 hri
          go_wp2_with fail
          refine S3.out.mono ?_
          rintro e w6 ⟨rfl, hb6⟩
          go_wp2_with fail
          go_ret
          exact ⟨rfl, Lx.Nb hb (Lx.Nb hb5 hb6)⟩
end Go.Proofs.YtkbnaendlcjjbaaDoor
