/- P3.4: the walk of SealBinds. -/
import Derived.Test.YtokhdloebcadnaaDoorSeW
namespace Go.Proofs.YtokhdloebcadnaaDoor
open Go.RowKit
set_option maxRecDepth 100000
set_option linter.unusedSimpArgs false
set_option linter.unusedVariables false
attribute [-go_sem] Builtin.append_

set_option maxHeartbeats 4000000 in
/-- The cases in which nothing is asked. -/
theorem binds3_out (s : ByteArray) (a b : Nat) (m o : ByteArray) (W : World) (hp : Pow W.heap.size W) (ha : a ≤ 255) (hb : b ≤ 255) (hm : m.size ≤ maxLen) (ho : o.size ≤ maxLen) (hn : shortL [s, m, o] = false ∨ Tr.sm m = Tr.sm o) :
    Calls Tryd.prog 6 #[.string s, .int .u8 (a : Int), .int .u8 (b : Int), .string m, .string o] W fun e w' => e = .returned (.bool true) ∧ Below W.heap.size W w' := by
  have HP := Lib.hid hp
  clear hp
  have E1 := fun h (hh : a % 3 = h) => Lib.hid (show (a : Int) % 3 = (h : Int) by omega)
  have h2 : a % 3 ≤ 2 := by omega
  have E1 := E1 _ rfl
  have WP := Lib.hid (wrap_pow (a % 3) (by omega))
  have hq : 0 < 2 ^ (a % 3) := Nat.pow_pos (by omega)
  generalize 2 ^ (a % 3) = p at *
  generalize a % 3 = h at *
  have E2 := Lib.hid (show (b : Int) % (p : Int) = ((b % p : Nat) : Int) by rw [Int.natCast_emod])
  generalize b % p = i at *
  have q1 : ((p : Int) == 0) = false := by rw [beq_eq_false_iff_ne]; omega
  have q2 : (p : Int) ≠ 0 := by omega
  cases hsh : shortL [s, m, o] with
  | false =>
    have SH := Lib.hid (fun w' => short_lit w' [s, m, o] false hsh (by simp))
    clear hn hsh
    go_enter Tryd.func6, Tryd.ntmps6
    go_wp2_with fail
    refine (head_any W HP.out).mono ?_
    rintro e w1 ⟨rfl, hb1⟩
    have E1' := E1.out
    have WP' := WP.out
    have E2' := E2.out
    go_wp2_with fail
    clear E1' WP' E2'
    refine (SH.out w1).mono ?_
    rintro e w2 ⟨rfl, hb2⟩
    have hb2' := Bt hb1 hb2
    go_wp2_with fail
    go_ret
    exact ⟨rfl, hb2'⟩
  | true =>
    have hmo : Tr.sm m = Tr.sm o := by
      rcases hn with h | h
      · rw [h] at hsh; cases hsh
      · exact h
    have z2 := short_all hsh m (by simp)
    have z3 := short_all hsh o (by simp)
    have U1 := Lib.hid (fun w' => rsum_ch m w' (by omega))
    have U2 := Lib.hid (fun w' => rsum_ch o w' (by omega))
    have SH := Lib.hid (fun w' => short_lit w' [s, m, o] true hsh (by simp))
    have hss : ((Tr.sm o).toList == (Tr.sm o).toList) = true := by simp
    rw [hmo] at U1
    clear hn hsh hmo
    generalize Tr.sm o = d at *
    go_enter Tryd.func6, Tryd.ntmps6
    go_wp2_with fail
    refine (head_any W HP.out).mono ?_
    rintro e w1 ⟨rfl, hb1⟩
    have E1' := E1.out
    have WP' := WP.out
    have E2' := E2.out
    go_wp2_with fail
    clear E1' WP' E2'
    refine (SH.out w1).mono ?_
    rintro e w2 ⟨rfl, hb2⟩
    have hb2' := Bt hb1 hb2
    go_wp2_with fail
    refine (U1.out w2).mono ?_
    rintro e w2a ⟨rfl, rfl⟩
    go_wp2_with fail
    refine (U2.out w2).mono ?_
    rintro e w2a ⟨rfl, rfl⟩
    go_wp2_with fail
    go_ret
    exact ⟨rfl, hb2'⟩

set_option maxHeartbeats 4000000 in
theorem binds3_in (s : ByteArray) (a b : Nat) (m o : ByteArray) (W : World) (hp : Pow W.heap.size W) (ha : a ≤ 255) (hb : b ≤ 255) (hn : shortL [s, m, o] = true) (hmo : Tr.sm m ≠ Tr.sm o) :
    Calls Tryd.prog 6 #[.string s, .int .u8 (a : Int), .int .u8 (b : Int), .string m, .string o] W fun e w' => e = .returned (.bool true) ∧ Below W.heap.size W w' := by
  have HP := Lib.hid hp
  clear hp
  have E1 := fun h (hh : a % 3 = h) => Lib.hid (show (a : Int) % 3 = (h : Int) by omega)
  have h2 : a % 3 ≤ 2 := by omega
  have E1 := E1 _ rfl
  have WP := Lib.hid (wrap_pow (a % 3) (by omega))
  have hq : 0 < 2 ^ (a % 3) := Nat.pow_pos (by omega)
  have z1 := short_all hn s (by simp)
  have z2 := short_all hn m (by simp)
  have z3 := short_all hn o (by simp)
  have z2' : m.size ≤ maxLen := by unfold maxLen; omega
  have z3' : o.size ≤ maxLen := by unfold maxLen; omega
  have U1 := Lib.hid (fun w' => rsum_ch m w' (by omega))
  have U2 := Lib.hid (fun w' => rsum_ch o w' (by omega))
  have hip : b % 2 ^ (a % 3) < 2 ^ (a % 3) := Nat.mod_lt _ hq
  have E2 := Lib.hid (show (b : Int) % ((2 ^ (a % 3) : Nat) : Int) = ((b % 2 ^ (a % 3) : Nat) : Int) by rw [Int.natCast_emod])
  generalize a % 3 = h at *
  generalize b % 2 ^ h = i at *
  have h4 : 2 ^ h ≤ 4 := Nat.pow_le_pow_right (n := 2) (by omega) h2
  have hi4 : (i : Int) ≤ 9223372036854775807 := by omega
  have SH := Lib.hid (fun w' => short_lit w' [s, m, o] true hn (by simp))
  have PK := Lib.hid (fun (w' : World) (hb : Below W.heap.size W w') => Public_ok s h w' (by omega) (by omega) (HP.out.bt hb))
  have SG := Lib.hid (fun (w' : World) (hb : Below W.heap.size W w') => sign_ok s m h i w' (by omega) z2' (by omega) hip (HP.out.bt hb))
  have M1 := Lib.hid (fun (w' : World) => show Calls Tryd.prog 23 #[.string s, .int .i64 (h : Int), .int .i64 30] w' (Gives (Se.made s h 30) w') from made_any s h 30 w' (by omega) (by omega) (by omega) (by omega))
  have HSL := Lib.hid (Se.sig_length s i m)
  have HPL := Lib.hid (path_len s h i hip)
  have HZS := Lib.hid (sig_le s i m)
  have HZP := Lib.hid (digs_le (path_digs s h i))
  have CK := Lib.hid (fun (w' : World) A1 A2 c1 c2 => checked_ex o i (Se.sig s i m) (Tr.path (Se.keys s h) i) h HPL.out A1 A2 c1 c2 w' hi4 (by omega) HSL.out (by omega))
  have L1 := made_len s h 30 (by omega) (by omega)
  have L2 := checked_len o i (Se.sig s i m) (Tr.path (Se.keys s h) i)
  rw [HPL.out] at L2
  have TZ := Lib.hid (show ∀ x ∈ Se.made s h 30 ++ Se.checked o i (Se.sig s i m) (Tr.path (Se.keys s h) i), x.size ≤ 140737488355328 from fun x hx => by
    rcases List.mem_append.1 hx with hx | hx
    · exact made_le s h 30 (by omega) (by omega) x hx
    · exact checked_le o i _ _ HZS.out (fun s hs => by have := HZP.out s hs; omega) x hx)
  have HSH : Hid (vf (pub s h) o i (Se.sig s i m) (Tr.path (Se.keys s h) i) = true → Tr.Shown (Se.made s h 30 ++ Se.checked o i (Se.sig s i m) (Tr.path (Se.keys s h) i))) := Lib.hid (fun hv => by
    obtain ⟨_, _, _, _, j, hj, _, hu⟩ := vf_parts hv
    obtain rfl : i = j := by omega
    rw [HPL.out] at hu
    exact Se.binds hip (sm_sum hmo) hu)
  have hsb := bytes_ne hmo
  have z3h := Lib.hid z3'
  clear hip hn z1 z2 z3 z2' z3' hmo h4 hi4
  generalize 2 ^ h = p at *
  have q1 : ((p : Int) == 0) = false := by rw [beq_eq_false_iff_ne]; omega
  have q2 : (p : Int) ≠ 0 := by omega
  generalize Se.made s h 30 = x1 at *
  generalize Se.checked o i (Se.sig s i m) (Tr.path (Se.keys s h) i) = x2 at *
  generalize Se.sig s i m = sg at *
  generalize Tr.path (Se.keys s h) i = pt at *
  generalize pub s h = pb at *
  generalize Tr.sm m = dm at *
  generalize Tr.sm o = dn at *
  have VB := fun b hb => Lib.hid (fun (w' : World) A1 A2 c1 c2 => verify_ex pb o i A1 A2 c1 c2 18 h sg pt HSL.out HPL.out b hb w')
  cases hv : vf pb o i sg pt with
  | false =>
    have V := VB _ hv
    clear VB hv HSH
    go_enter Tryd.func6, Tryd.ntmps6
    go_wp2_with fail
    refine (head_any W HP.out).mono ?_
    rintro e w1 ⟨rfl, hb1⟩
    have E1' := E1.out
    have WP' := WP.out
    have E2' := E2.out
    go_wp2_with fail
    clear E1' WP' E2'
    rw [E1.out, E2.out]
    refine (SH.out w1).mono ?_
    rintro e w2 ⟨rfl, hb2⟩
    have hb2' := Bt hb1 hb2
    go_wp2_with fail
    refine (U1.out w2).mono ?_
    rintro e w2a ⟨rfl, rfl⟩
    go_wp2_with fail
    refine (U2.out w2).mono ?_
    rintro e w2a ⟨rfl, rfl⟩
    go_wp2_with fail
    refine (PK.out w2 hb2').mono ?_
    rintro e w3 ⟨rfl, hb3⟩
    have hb3' := Bt hb2' hb3
    go_wp2_with fail
    refine (SG.out w3 hb3').mono ?_
    rintro e w4 ⟨A1, A2, c1, c2, rfl, hs1, hs2, l1, m1, l2, m2, hb4⟩
    have x4 := Boxed3.new w4 (.int .i64 (i : Int)) (.slice A1 18 c1) (.slice A2 h c2)
    have ha4 := (Below.refl w4.heap.size w4).alloc (Nat.le_refl _) (.cells #[.int .i64 (i : Int), .slice A1 18 c1, .slice A2 h c2] 24)
    have HB4 := Lib.hid (Bt (Bt hb3' hb4) ha4)
    have HS1 := Lib.hid (hs1.bt ha4)
    have HS2 := Lib.hid (hs2.bt ha4)
    obtain ⟨k0, k1, k2, _, _, _⟩ := x4.cells
    clear hs1 hs2
    go_wp2_with fail
    refine (V.out _ A1 A2 c1 c2 HS1.out HS2.out (by omega) m1 (by omega) m2 z3h.out (fun s hs => by have := HZP.out s hs; omega) (HP.out.bt HB4.out)).mono ?_
    rintro e w5 ⟨rfl, hb5⟩
    have hb5' := Bt HB4.out hb5
    go_wp2_with fail
    go_ret
    exact ⟨rfl, hb5'⟩
  | true =>
    have V := VB _ hv
    have HSH := Lib.hid (HSH.out hv)
    clear VB hv
    go_enter Tryd.func6, Tryd.ntmps6
    go_wp2_with fail
    refine (head_any W HP.out).mono ?_
    rintro e w1 ⟨rfl, hb1⟩
    have E1' := E1.out
    have WP' := WP.out
    have E2' := E2.out
    go_wp2_with fail
    clear E1' WP' E2'
    rw [E1.out, E2.out]
    refine (SH.out w1).mono ?_
    rintro e w2 ⟨rfl, hb2⟩
    have hb2' := Bt hb1 hb2
    go_wp2_with fail
    refine (U1.out w2).mono ?_
    rintro e w2a ⟨rfl, rfl⟩
    go_wp2_with fail
    refine (U2.out w2).mono ?_
    rintro e w2a ⟨rfl, rfl⟩
    go_wp2_with fail
    refine (PK.out w2 hb2').mono ?_
    rintro e w3 ⟨rfl, hb3⟩
    have hb3' := Bt hb2' hb3
    go_wp2_with fail
    refine (SG.out w3 hb3').mono ?_
    rintro e w4 ⟨A1, A2, c1, c2, rfl, hs1, hs2, l1, m1, l2, m2, hb4⟩
    have x4 := Boxed3.new w4 (.int .i64 (i : Int)) (.slice A1 18 c1) (.slice A2 h c2)
    have ha4 := (Below.refl w4.heap.size w4).alloc (Nat.le_refl _) (.cells #[.int .i64 (i : Int), .slice A1 18 c1, .slice A2 h c2] 24)
    have HB4 := Lib.hid (Bt (Bt hb3' hb4) ha4)
    have HS1 := Lib.hid (hs1.bt ha4)
    have HS2 := Lib.hid (hs2.bt ha4)
    obtain ⟨k0, k1, k2, _, _, _⟩ := x4.cells
    clear hs1 hs2
    go_wp2_with fail
    refine (V.out _ A1 A2 c1 c2 HS1.out HS2.out (by omega) m1 (by omega) m2 z3h.out (fun s hs => by have := HZP.out s hs; omega) (HP.out.bt HB4.out)).mono ?_
    rintro e w5 ⟨rfl, hb5⟩
    have hb5' := Bt HB4.out hb5
    have x5 := x4.bt hb5
    obtain ⟨g0, g1, g2, _, _, _⟩ := x5.cells
    have HT1' := HS1.out.bt hb5
    have HT2' := HS2.out.bt hb5
    have HT1 : Hid (Strs w5.drew w5.drew.heap.size A1 sg) := Lib.hid HT1'
    have HT2 : Hid (Strs w5.drew w5.drew.heap.size A2 pt) := Lib.hid HT2'
    clear HT1' HT2'
    clear HS1 HS2
    go_wp2_with fail
    go_region_held3 (fun w' => w'.cell? ⟨w4.heap.size, 0, none⟩ = some (.int .i64 (i : Int)) ∧ w'.cell? ⟨w4.heap.size, 1, none⟩ = some (.slice A1 18 c1) ∧ w'.cell? ⟨w4.heap.size, 2, none⟩ = some (.slice A2 h c2)) (first | exact ⟨g0, g1, g2⟩ | exact ⟨e0, e1, e2⟩ | exact ⟨f0, f1, f2⟩ | exact ⟨n0, n1, n2⟩ | exact ⟨o0, o1, o2⟩)
      (first
        | (go_at_call 23
           (with_reducible refine (M1.out _).mono ?_)
           rintro e w6 ⟨v6, rfl, ho6, hb6⟩
           have hb6' := Bt hb5'.drew hb6
           obtain ⟨e0, e1, e2, _, _, _⟩ := (Boxed3.bt (w := w5.drew) x5 hb6).cells)
        | (go_at_call 24
           (with_reducible refine (CK.out _ A1 A2 c1 c2 (HT1.out.bt hb6) (HT2.out.bt hb6) (by omega) m1 (by omega) m2 HZS.out (fun s hs => by have := HZP.out s hs; omega)).mono ?_)
           rintro e w7 ⟨v7, rfl, ho7, hb7⟩
           have hb7' := Bt hb6' hb7
           have ho67 := own_below ho6 hb7
           obtain ⟨f0, f1, f2, _, _, _⟩ := ((Boxed3.bt (w := w5.drew) x5 hb6).bt hb7).cells
           obtain ⟨v8, w8, hrun8, ho8, hb8, _, _⟩ := run_append4 w7 w5.heap.size v6 x1 ho67 v7 _ x2 ho7 (by omega) (Bt hb6 hb7).size 22
           have hb68 := (Bt hb6 hb7).trans (hb8.mono (Nat.le_refl _))
           have hb8' := Bt hb5'.drew hb68
           obtain ⟨A8, c8, rfl, hs8, hc8, hm8⟩ := ho8.form
           obtain ⟨n0, n1, n2, _, _, _⟩ := (Boxed3.bt (w := w5.drew) x5 hb68).cells
           have HS8 := Lib.hid hs8
           clear hs8 ho8 hb8)
        | (go_at_call 22
           with_reducible refine (shown_len A8 c8 (x1 ++ x2) (x1.length + x2.length) (by simp) w8 HS8.out (by omega) TZ.out HSH.out).mono ?_
           rintro e w9 ⟨rfl, hb9⟩
           have hb9' := Bt hb8' hb9
           obtain ⟨o0, o1, o2, _, _, _⟩ := (Boxed3.bt (w := w5.drew) x5 (Bt hb68 hb9)).cells)
        | fail)
    go_wp2
    go_ret
    exact ⟨rfl, hb9'⟩

theorem binds3_walk (s : ByteArray) (a b : Int) (m o : ByteArray) (W : World) (hp : Pow W.heap.size W) (_ : s.size ≤ maxLen) (ha : (Go.Lit.int .u8 a).wf = true) (hb : (Go.Lit.int .u8 b).wf = true) (hm : m.size ≤ maxLen) (ho : o.size ≤ maxLen) :
    Calls Tryd.prog 6 #[.string s, .int .u8 a, .int .u8 b, .string m, .string o] W fun e w' => e = .returned (.bool true) ∧ Below W.heap.size W w' := by
  obtain ⟨a0, a1⟩ : IntKind.u8.min ≤ a ∧ a ≤ IntKind.u8.max := by simpa [Go.Lit.wf] using ha
  obtain ⟨b0, b1⟩ : IntKind.u8.min ≤ b ∧ b ≤ IntKind.u8.max := by simpa [Go.Lit.wf] using hb
  change 0 ≤ a at a0
  change a ≤ 255 at a1
  change 0 ≤ b at b0
  change b ≤ 255 at b1
  obtain ⟨a, rfl⟩ : ∃ k : Nat, a = k := ⟨a.toNat, by omega⟩
  obtain ⟨b, rfl⟩ : ∃ k : Nat, b = k := ⟨b.toNat, by omega⟩
  by_cases h : shortL [s, m, o] = false ∨ Tr.sm m = Tr.sm o
  · exact binds3_out s a b m o W hp (by omega) (by omega) hm ho h
  · exact binds3_in s a b m o W hp (by omega) (by omega) (by
      cases e : shortL [s, m, o] with
      | true => rfl
      | false => exact absurd (.inl e) h) (fun e => h (.inr e))
end Go.Proofs.YtokhdloebcadnaaDoor
