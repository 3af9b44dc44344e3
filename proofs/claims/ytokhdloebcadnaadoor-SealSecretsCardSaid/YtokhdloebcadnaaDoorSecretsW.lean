/- P3.5: the walk of SealSecrets. -/
import Derived.Test.YtokhdloebcadnaaDoorSeW
namespace Go.Proofs.YtokhdloebcadnaaDoor
open Go.RowKit
set_option maxRecDepth 100000
set_option linter.unusedSimpArgs false
set_option linter.unusedVariables false

set_option maxHeartbeats 4000000 in
/-- The cases in which nothing is asked. -/
theorem secrets_out (s o : ByteArray) (a b : Nat) (m : ByteArray) (W : World) (hp : Pow W.heap.size W) (ha : a ≤ 255) (hb : b ≤ 255) (hn : shortL [s, o, m] = false ∨ s = o) :
    Calls Tryd.prog 8 #[.string s, .string o, .int .u8 (a : Int), .int .u8 (b : Int), .string m] W fun e w' => e = .returned (.bool true) ∧ Below W.heap.size W w' := by
  have HP := Lib.hid hp
  clear hp
  have E1 := fun h (hh : a % 3 = h) => Lib.hid (show (a : Int) % 3 = (h : Int) by omega)
  have h2 : a % 3 ≤ 2 := by omega
  have E1 := E1 _ rfl
  have WP := Lib.hid (wrap_pow (a % 3) (by omega))
  have hq : 0 < 2 ^ (a % 3) := Nat.pow_pos (by omega)
  generalize 2 ^ (a % 3) = p at *
  generalize a % 3 = h at *
  have E2 := Lib.hid (show (b : Int) % (p : Int) = ((b % p : Nat) : Int) by rw [Int.natCast_emod])
  generalize b % p = i at *
  have q1 : ((p : Int) == 0) = false := by rw [beq_eq_false_iff_ne]; omega
  have q2 : (p : Int) ≠ 0 := by omega
  cases hsh : shortL [s, o, m] with
  | false =>
    have SH := Lib.hid (fun w' => short_lit w' [s, o, m] false hsh (by simp))
    clear hn hsh
    go_enter Tryd.func8, Tryd.ntmps8
    go_wp2_with fail
    refine (head_any W HP.out).mono ?_
    rintro e w1 ⟨rfl, hb1⟩
    have E1' := E1.out
    have WP' := WP.out
    have E2' := E2.out
    go_wp2_with fail
    clear E1' WP' E2'
    refine (SH.out w1).mono ?_
    rintro e w2 ⟨rfl, hb2⟩
    have hb2' := Bt hb1 hb2
    go_wp2_with fail
    go_ret
    exact ⟨rfl, hb2'⟩
  | true =>
    obtain rfl : s = o := by
      rcases hn with h | h
      · rw [h] at hsh; cases hsh
      · exact h
    have SH := Lib.hid (fun w' => short_lit w' [s, s, m] true hsh (by simp))
    clear hn hsh
    go_enter Tryd.func8, Tryd.ntmps8
    go_wp2_with fail
    refine (head_any W HP.out).mono ?_
    rintro e w1 ⟨rfl, hb1⟩
    have E1' := E1.out
    have WP' := WP.out
    have E2' := E2.out
    go_wp2_with fail
    clear E1' WP' E2'
    refine (SH.out w1).mono ?_
    rintro e w2 ⟨rfl, hb2⟩
    have hb2' := Bt hb1 hb2
    go_wp2_with fail
    go_ret
    exact ⟨rfl, hb2'⟩

set_option maxHeartbeats 4000000 in
theorem secrets_in (s o : ByteArray) (a b : Nat) (m : ByteArray) (W : World) (hp : Pow W.heap.size W) (ha : a ≤ 255) (hb : b ≤ 255) (hn : shortL [s, o, m] = true) (hso : s ≠ o) :
    Calls Tryd.prog 8 #[.string s, .string o, .int .u8 (a : Int), .int .u8 (b : Int), .string m] W fun e w' => e = .returned (.bool true) ∧ Below W.heap.size W w' := by
  have HP := Lib.hid hp
  clear hp
  have z1 := short_all hn s (by simp)
  have z2 := short_all hn o (by simp)
  have z3 := short_all hn m (by simp)
  have z3' : m.size ≤ maxLen := by unfold maxLen; omega
  have E1 := fun h (hh : a % 3 = h) => Lib.hid (show (a : Int) % 3 = (h : Int) by omega)
  have h2 : a % 3 ≤ 2 := by omega
  have E1 := E1 _ rfl
  have WP := Lib.hid (wrap_pow (a % 3) (by omega))
  have hq : 0 < 2 ^ (a % 3) := Nat.pow_pos (by omega)
  have hip : b % 2 ^ (a % 3) < 2 ^ (a % 3) := Nat.mod_lt _ hq
  have E2 := Lib.hid (show (b : Int) % ((2 ^ (a % 3) : Nat) : Int) = ((b % 2 ^ (a % 3) : Nat) : Int) by rw [Int.natCast_emod])
  generalize a % 3 = h at *
  generalize b % 2 ^ h = i at *
  have SH := Lib.hid (fun w' => short_lit w' [s, o, m] true hn (by simp))
  have PK := Lib.hid (fun (w' : World) (hb : Below W.heap.size W w') => Public_ok o h w' (by omega) (by omega) (HP.out.bt hb))
  have SG := Lib.hid (fun (w' : World) (hb : Below W.heap.size W w') => sign_ok s m h i w' (by omega) z3' (by omega) hip (HP.out.bt hb))
  have M1 := Lib.hid (fun (w' : World) => made_any s h 15 w' (by omega) (by omega) (by omega) (by omega))
  have M2 := Lib.hid (fun (w' : World) => made_any o h 15 w' (by omega) (by omega) (by omega) (by omega))
  have L1 := made_len s h 15 (by omega) (by omega)
  have L2 := made_len o h 15 (by omega) (by omega)
  have TZ := Lib.hid (show ∀ x ∈ Se.made s h 15 ++ Se.made o h 15, x.size ≤ 140737488355328 from fun x hx => by
    rcases List.mem_append.1 hx with hx | hx
    · exact made_le s h 15 (by omega) (by omega) x hx
    · exact made_le o h 15 (by omega) (by omega) x hx)
  have HSL := Lib.hid (Se.sig_length s i m)
  have HPL := Lib.hid (path_len s h i hip)
  have HZP := Lib.hid (digs_le (path_digs s h i))
  have HSH : Hid (vf (pub o h) m i (Se.sig s i m) (Tr.path (Se.keys s h) i) = true → Tr.Shown (Se.made s h 15 ++ Se.made o h 15)) := Lib.hid (fun hv => by
    obtain ⟨_, _, _, _, j, hj, _, hu⟩ := vf_parts hv
    obtain rfl : i = j := by omega
    rw [HPL.out] at hu
    exact Se.secrets hip hso hu)
  have hsb := bytes_ne hso
  have z3h := Lib.hid z3'
  clear hip hn z1 z2 z3 z3' hso
  generalize 2 ^ h = p at *
  have q1 : ((p : Int) == 0) = false := by rw [beq_eq_false_iff_ne]; omega
  have q2 : (p : Int) ≠ 0 := by omega
  generalize Se.made s h 15 = x1 at *
  generalize Se.made o h 15 = x2 at *
  generalize Se.sig s i m = sg at *
  generalize Tr.path (Se.keys s h) i = pt at *
  generalize pub o h = pb at *
  have VB := fun b hb => Lib.hid (fun (w' : World) A1 A2 c1 c2 => verify_ex pb m i A1 A2 c1 c2 18 h sg pt HSL.out HPL.out b hb w')
  cases hv : vf pb m i sg pt with
  | false =>
    have V := VB _ hv
    clear VB hv HSH
    go_enter Tryd.func8, Tryd.ntmps8
    go_wp2_with fail
    refine (head_any W HP.out).mono ?_
    rintro e w1 ⟨rfl, hb1⟩
    have E1' := E1.out
    have WP' := WP.out
    have E2' := E2.out
    go_wp2_with fail
    clear E1' WP' E2'
    rw [E1.out, E2.out]
    refine (SH.out w1).mono ?_
    rintro e w2 ⟨rfl, hb2⟩
    have hb2' := Bt hb1 hb2
    go_wp2_with fail
    refine (PK.out w2 hb2').mono ?_
    rintro e w3 ⟨rfl, hb3⟩
    have hb3' := Bt hb2' hb3
    go_wp2_with fail
    refine (SG.out w3 hb3').mono ?_
    rintro e w4 ⟨A1, A2, c1, c2, rfl, hs1, hs2, l1, m1, l2, m2, hb4⟩
    have x4 := Boxed3.new w4 (.int .i64 (i : Int)) (.slice A1 18 c1) (.slice A2 h c2)
    have ha4 := (Below.refl w4.heap.size w4).alloc (Nat.le_refl _) (.cells #[.int .i64 (i : Int), .slice A1 18 c1, .slice A2 h c2] 24)
    have HB4 := Lib.hid (Bt (Bt hb3' hb4) ha4)
    have HS1 := Lib.hid (hs1.bt ha4)
    have HS2 := Lib.hid (hs2.bt ha4)
    obtain ⟨k0, k1, k2, _, _, _⟩ := x4.cells
    clear hs1 hs2
    go_wp2_with fail
    refine (V.out _ A1 A2 c1 c2 HS1.out HS2.out (by omega) m1 (by omega) m2 z3h.out (fun s hs => by have := HZP.out s hs; omega) (HP.out.bt HB4.out)).mono ?_
    rintro e w5 ⟨rfl, hb5⟩
    have hb5' := Bt HB4.out hb5
    go_wp2_with fail
    go_ret
    exact ⟨rfl, hb5'⟩
  | true =>
    have V := VB _ hv
    have HSH := Lib.hid (HSH.out hv)
    clear VB hv
    go_enter Tryd.func8, Tryd.ntmps8
    go_wp2_with fail
    refine (head_any W HP.out).mono ?_
    rintro e w1 ⟨rfl, hb1⟩
    have E1' := E1.out
    have WP' := WP.out
    have E2' := E2.out
    go_wp2_with fail
    clear E1' WP' E2'
    rw [E1.out, E2.out]
    refine (SH.out w1).mono ?_
    rintro e w2 ⟨rfl, hb2⟩
    have hb2' := Bt hb1 hb2
    go_wp2_with fail
    refine (PK.out w2 hb2').mono ?_
    rintro e w3 ⟨rfl, hb3⟩
    have hb3' := Bt hb2' hb3
    go_wp2_with fail
    refine (SG.out w3 hb3').mono ?_
    rintro e w4 ⟨A1, A2, c1, c2, rfl, hs1, hs2, l1, m1, l2, m2, hb4⟩
    have x4 := Boxed3.new w4 (.int .i64 (i : Int)) (.slice A1 18 c1) (.slice A2 h c2)
    have ha4 := (Below.refl w4.heap.size w4).alloc (Nat.le_refl _) (.cells #[.int .i64 (i : Int), .slice A1 18 c1, .slice A2 h c2] 24)
    have HB4 := Lib.hid (Bt (Bt hb3' hb4) ha4)
    have HS1 := Lib.hid (hs1.bt ha4)
    have HS2 := Lib.hid (hs2.bt ha4)
    obtain ⟨k0, k1, k2, _, _, _⟩ := x4.cells
    clear hs1 hs2
    go_wp2_with fail
    refine (V.out _ A1 A2 c1 c2 HS1.out HS2.out (by omega) m1 (by omega) m2 z3h.out (fun s hs => by have := HZP.out s hs; omega) (HP.out.bt HB4.out)).mono ?_
    rintro e w5 ⟨rfl, hb5⟩
    have hb5' := Bt HB4.out hb5
    go_wp2_with fail
    refine (M1.out w5).mono ?_
    rintro e w6 ⟨v6, rfl, ho6, hb6⟩
    go_wp2_with fail
    refine (M2.out w6).mono ?_
    rintro e w7 ⟨v7, rfl, ho7, hb7⟩
    have ho67 := own_below ho6 hb7
    go_wp2_with (first
      | (at_builtin
         refine list_append2 ?hw (.tmp 69) (.tmp 72) ?ho w5.heap.size v6 x1 ?hs ho67 v7 _ x2 ?hx ho7 (by omega) (Bt hb6 hb7).size ?_
         case hw => simp [Region.wanted, yielded]
         case ho => rfl
         case hs => rfl
         case hx => rfl
         intro v8 w8 ho8 hb8
         have hb8' := (Bt (Bt hb5' hb6) hb7).trans (hb8.mono (hb5'.size))
         obtain ⟨A8, c8, rfl, hs8, hc8, hm8⟩ := ho8.form
         have HS8 := Lib.hid hs8
         clear hs8)
      | fail)
    with_reducible refine (shown_len A8 c8 (x1 ++ x2) (x1.length + x2.length) (by simp) w8 HS8.out (by omega) TZ.out HSH.out).mono ?_
    rintro e w9 ⟨rfl, hb9⟩
    have hb9' := Bt hb8' hb9
    go_wp2_with fail
    go_ret
    exact ⟨rfl, hb9'⟩

theorem secrets_walk (s o : ByteArray) (a b : Int) (m : ByteArray) (W : World) (hp : Pow W.heap.size W) (_ : s.size ≤ maxLen) (_ : o.size ≤ maxLen) (ha : (Go.Lit.int .u8 a).wf = true) (hb : (Go.Lit.int .u8 b).wf = true) (_ : m.size ≤ maxLen) :
    Calls Tryd.prog 8 #[.string s, .string o, .int .u8 a, .int .u8 b, .string m] W fun e w' => e = .returned (.bool true) ∧ Below W.heap.size W w' := by
  obtain ⟨a0, a1⟩ : IntKind.u8.min ≤ a ∧ a ≤ IntKind.u8.max := by simpa [Go.Lit.wf] using ha
  obtain ⟨b0, b1⟩ : IntKind.u8.min ≤ b ∧ b ≤ IntKind.u8.max := by simpa [Go.Lit.wf] using hb
  change 0 ≤ a at a0
  change a ≤ 255 at a1
  change 0 ≤ b at b0
  change b ≤ 255 at b1
  obtain ⟨a, rfl⟩ : ∃ k : Nat, a = k := ⟨a.toNat, by omega⟩
  obtain ⟨b, rfl⟩ : ∃ k : Nat, b = k := ⟨b.toNat, by omega⟩
  by_cases h : shortL [s, o, m] = false ∨ s = o
  · exact secrets_out s o a b m W hp (by omega) (by omega) h
  · exact secrets_in s o a b m W hp (by omega) (by omega) (by
      cases e : shortL [s, o, m] with
      | true => rfl
      | false => exact absurd (.inl e) h) (fun e => h (.inr e))
end Go.Proofs.YtokhdloebcadnaaDoor
