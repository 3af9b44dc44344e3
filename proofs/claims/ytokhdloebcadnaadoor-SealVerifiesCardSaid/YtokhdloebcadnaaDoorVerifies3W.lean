/- P3.2: the walk of SealVerifies. -/
import Derived.Test.YtokhdloebcadnaaDoorSeW
import Derived.Test.YtokhdloebcadnaaDoorSeI
import Derived.Test.YtokhdloebcadnaaDoorDgF
namespace Go.Proofs.YtokhdloebcadnaaDoor
open Go.RowKit
set_option maxRecDepth 100000
set_option linter.unusedSimpArgs false
set_option linter.unusedVariables false

theorem is_yes3 (s : ByteArray) (w : World) (h : Dg.isDigest s.data.toList = true) : Calls Tryd.prog 20 #[.string s] w fun e w' => e = .returned (.bool true) ∧ w = w' := by
  have := is_any s w
  rwa [h] at this
theorem same_ex (i : Int) (A1 A2 A3 A4 : Option Addr) (c1 c2 c3 c4 k1 k2 : Nat) (sg pt : List ByteArray) (hk1 : sg.length = k1) (hk2 : pt.length = k2) (w : World)
    (h1 : Strs w w.heap.size A1 sg) (h2 : Strs w w.heap.size A2 pt) (h3 : Strs w w.heap.size A3 sg) (h4 : Strs w w.heap.size A4 pt) (n1 : k1 ≤ maxLen) (n2 : k2 ≤ maxLen) :
    Calls Tryd.prog 17 #[.agg #[.int .i64 i, .slice A1 k1 c1, .slice A2 k2 c2], .agg #[.int .i64 i, .slice A3 k1 c3, .slice A4 k2 c4]] w fun e w' => e = .returned (.bool true) ∧ Below w.heap.size w w' := by
  subst hk1 hk2
  refine (rSame_any i i A1 A2 A3 A4 c1 c2 c3 c4 sg pt sg pt w h1 h2 h3 h4 n1 n2).mono ?_
  rintro e w1 ⟨rfl, hb⟩
  exact ⟨by simp, hb⟩
theorem digs_at {l : List ByteArray} (h : Tr.digs l = true) (k : Nat) (hk : k < l.length) : Dg.isDigest (l.getD k ByteArray.empty).data.toList = true := by
  unfold Tr.digs at h
  rw [List.getD_eq_getElem?_getD, List.getElem?_eq_getElem hk]
  exact List.all_eq_true.1 h _ (List.getElem_mem _)

set_option maxHeartbeats 4000000 in
theorem verifies3_out (s : ByteArray) (a b : Nat) (m : ByteArray) (W : World) (hp : Pow W.heap.size W) (ha : a ≤ 255) (hb : b ≤ 255) (hsh : shortL [s, m] = false) :
    Calls Tryd.prog 4 #[.string s, .int .u8 (a : Int), .int .u8 (b : Int), .string m] W fun e w' => e = .returned (.bool true) ∧ Below W.heap.size W w' := by
  have HP := Lib.hid hp
  have SH := Lib.hid (fun w' => short_lit w' [s, m] false hsh (by simp))
  clear hsh hp
  go_enter Tryd.func4, Tryd.ntmps4
  go_wp2_with fail
  refine (head_any W HP.out).mono ?_
  rintro e w1 ⟨rfl, hb1⟩
  go_wp2_with fail
  refine (SH.out w1).mono ?_
  rintro e w2 ⟨rfl, hb2⟩
  have hb2' := Bt hb1 hb2
  go_wp2_with fail
  go_ret
  exact ⟨rfl, hb2'⟩

set_option maxHeartbeats 8000000 in
theorem verifies3_in (s : ByteArray) (a b : Nat) (m : ByteArray) (W : World) (hp : Pow W.heap.size W) (ha : a ≤ 255) (hb : b ≤ 255) (hn : shortL [s, m] = true) :
    Calls Tryd.prog 4 #[.string s, .int .u8 (a : Int), .int .u8 (b : Int), .string m] W fun e w' => e = .returned (.bool true) ∧ Below W.heap.size W w' := by
  have HP := Lib.hid hp
  clear hp
  have E1 := fun h (hh : a % 4 = h) => Lib.hid (show (a : Int) % 4 = (h : Int) by omega)
  have h2 : a % 4 ≤ 3 := by omega
  have E1 := E1 _ rfl
  have WP := Lib.hid (wrap_pow (a % 4) (by omega))
  have hq : 0 < 2 ^ (a % 4) := Nat.pow_pos (by omega)
  have z1 := short_all hn s (by simp)
  have z2 := short_all hn m (by simp)
  have z2' : m.size ≤ maxLen := by unfold maxLen; omega
  have hip : b % 2 ^ (a % 4) < 2 ^ (a % 4) := Nat.mod_lt _ hq
  have E2 := Lib.hid (show (b : Int) % ((2 ^ (a % 4) : Nat) : Int) = ((b % 2 ^ (a % 4) : Nat) : Int) by rw [Int.natCast_emod])
  generalize a % 4 = h at *
  generalize b % 2 ^ h = i at *
  have hip2 : i < 2 ^ (h + 1) := by rw [Nat.pow_succ]; omega
  have SH := Lib.hid (fun w' => short_lit w' [s, m] true hn (by simp))
  have PK := Lib.hid (fun (w' : World) (hb : Below W.heap.size W w') => Public_ok s h w' (by omega) (by omega) (HP.out.bt hb))
  have SG := Lib.hid (fun (w' : World) (hb : Below W.heap.size W w') => sign_ok s m h i w' (by omega) z2' (by omega) hip (HP.out.bt hb))
  have SG2 := Lib.hid (fun (w' : World) (hb : Below W.heap.size W w') => sign_ok s m (h + 1) i w' (by omega) z2' (by omega) hip2 (HP.out.bt hb))
  rw [show ((h + 1 : Nat) : Int) = (h : Int) + 1 from rfl] at SG2
  have HSL := Lib.hid (Se.sig_length s i m)
  have HPL := Lib.hid (path_len s h i hip)
  have HZP := Lib.hid (digs_le (path_digs s h i))
  have D1 := Lib.hid (fun k (hk : k < 18) => digs_at (sig_digs s i m) k (by rw [HSL.out]; exact hk))
  have D2 := Lib.hid (fun k (hk : k < h) => digs_at (path_digs s h i) k (by rw [HPL.out]; exact hk))
  have PD := Lib.hid (pub_digest s h (by omega))
  have V0 := Lib.hid (vf_own s m h i (by omega) hip)
  have z2h := Lib.hid z2'
  clear hip hip2 hn z1 z2 z2'
  generalize 2 ^ h = p at *
  have q1 : ((p : Int) == 0) = false := by rw [beq_eq_false_iff_ne]; omega
  have q2 : (p : Int) ≠ 0 := by omega
  generalize Se.sig s i m = sg at *
  generalize Tr.path (Se.keys s h) i = pt at *
  generalize Tr.path (Se.keys s (h + 1)) i = pt2 at *
  generalize pub s h = pb at *
  have VR := Lib.hid (fun (w' : World) A1 A2 c1 c2 => verify_ex pb m i A1 A2 c1 c2 18 h sg pt HSL.out HPL.out true V0.out w')
  have SM := Lib.hid (fun (w' : World) A1 A2 A3 A4 c1 c2 c3 c4 => same_ex i A1 A2 A3 A4 c1 c2 c3 c4 18 h sg pt HSL.out HPL.out w')
  have SL := Lib.hid (fun (w' : World) A1 A2 c1 c2 => same_val A1 A2 c1 c2 18 18 sg sg HSL.out HSL.out true (by simp) w')
  go_enter Tryd.func4, Tryd.ntmps4
  go_wp2_with fail
  refine (head_any W HP.out).mono ?_
  rintro e w1 ⟨rfl, hb1⟩
  go_wp2_with fail
  refine (SH.out w1).mono ?_
  rintro e w2 ⟨rfl, hb2⟩
  have hb2' := Bt hb1 hb2
  have E1' := E1.out
  have WP' := WP.out
  have E2' := E2.out
  go_wp2_with fail
  clear E1' WP' E2'
  rw [E1.out, E2.out]
  refine (PK.out w2 hb2').mono ?_
  rintro e w3 ⟨rfl, hb3⟩
  have hb3' := Bt hb2' hb3
  go_wp2_with fail
  refine (SG.out w3 hb3').mono ?_
  rintro e w4 ⟨A1, A2, c1, c2, rfl, hs1, hs2, l1, m1, l2, m2, hb4⟩
  have x4 := Boxed3.new w4 (.int .i64 (i : Int)) (.slice A1 18 c1) (.slice A2 h c2)
  have ha4 := (Below.refl w4.heap.size w4).alloc (Nat.le_refl _) (.cells #[.int .i64 (i : Int), .slice A1 18 c1, .slice A2 h c2] 24)
  have hb4' := Bt (Bt hb3' hb4) ha4
  go_wp2_with fail
  refine (SG.out _ hb4').mono ?_
  rintro e w5 ⟨A3, A4, c3, c4, rfl, hs3, hs4, l3, m3, l4, m4, hb5⟩
  have x5 := Boxed3.new w5 (.int .i64 (i : Int)) (.slice A3 18 c3) (.slice A4 h c4)
  have ha5 := (Below.refl w5.heap.size w5).alloc (Nat.le_refl _) (.cells #[.int .i64 (i : Int), .slice A3 18 c3, .slice A4 h c4] 24)
  have hb45 := Bt hb5 ha5
  have hb5' := Bt (Bt hb4' hb5) ha5
  go_wp2_with fail
  refine (SG2.out _ hb5').mono ?_
  rintro e w6 ⟨A5, A6, c5, c6, rfl, hs5, hs6, l5, m5, l6, m6, hb6⟩
  have x6 := Boxed3.new w6 (.int .i64 (i : Int)) (.slice A5 18 c5) (.slice A6 (h + 1) c6)
  have ha6 := (Below.refl w6.heap.size w6).alloc (Nat.le_refl _) (.cells #[.int .i64 (i : Int), .slice A5 18 c5, .slice A6 (h + 1) c6] 24)
  have hb56 := Bt hb6 ha6
  have HB6 := Lib.hid (Bt (Bt hb5' hb6) ha6)
  have y4 := (x4.bt hb45).bt hb56
  have y5 := x5.bt hb56
  have HS1 := Lib.hid ((((hs1.bt ha4).bt hb45).bt hb56))
  have HS2 := Lib.hid ((((hs2.bt ha4).bt hb45).bt hb56))
  have HS3 := Lib.hid ((hs3.bt ha5).bt hb56)
  have HS4 := Lib.hid ((hs4.bt ha5).bt hb56)
  have HS5 := Lib.hid (hs5.bt ha6)
  obtain ⟨k0, k1, k2, _, _, _⟩ := y4.cells
  obtain ⟨g0, g1, g2, _, _, _⟩ := y5.cells
  clear hs1 hs2 hs3 hs4 hs5 hs6
  go_wp2_with fail
  refine (SM.out _ A1 A2 A3 A4 c1 c2 c3 c4 HS1.out HS2.out HS3.out HS4.out (by unfold maxLen; omega) (by unfold maxLen; omega)).mono ?_
  rintro e w7 ⟨rfl, hb7⟩
  have HB7 := Lib.hid (Bt HB6.out hb7)
  have HT1 := Lib.hid (HS1.out.bt hb7)
  have HT2 := Lib.hid (HS2.out.bt hb7)
  have HT5 := Lib.hid (HS5.out.bt hb7)
  have Y4 := Lib.hid (y4.bt hb7)
  have Y6 := Lib.hid (x6.bt hb7)
  obtain ⟨e0, e1, e2, _, _, _⟩ := (y4.bt hb7).cells
  clear HS1 HS2 HS3 HS4 HS5 x4 x5 x6 y4 y5 k0 k1 k2 g0 g1 g2
  go_wp2_with fail
  go_loop [20] (fun i => ∃ k : Nat, k ≤ 18 ∧ i = .int .i64 k) (fun i => 18 - (intOf i).toNat)
  case atStart => exact ⟨0, by omega, rfl⟩
  case round =>
    obtain ⟨k, hk, rfl⟩ := hrel
    by_cases hlt : k < 18
    · obtain ⟨ad, e, _, hc⟩ := HT1.out k (by rw [HSL.out]; exact hlt)
      cases e
      have IS := Lib.hid (fun w' => is_yes3 (sg.getD k ByteArray.empty) w' (D1.out k hlt))
      generalize sg.getD k ByteArray.empty = x at *
      go_wp2_with fail
      refine (IS.out _).mono ?_
      rintro e w8 ⟨rfl, rfl⟩
      go_wp2_with fail
      exact ⟨⟨k + 1, by omega, by go_num⟩, by simp [intOf]; omega⟩
    · obtain rfl : k = 18 := by omega
      go_wp2_with fail
      go_loop [21] (fun i => ∃ k : Nat, k ≤ h ∧ i = .int .i64 k) (fun i => h - (intOf i).toNat)
      case atStart => exact ⟨0, by omega, rfl⟩
      case round =>
        obtain ⟨k, hk, rfl⟩ := hrel
        by_cases hlt2 : k < h
        · obtain ⟨ad, e, _, hc⟩ := HT2.out k (by rw [HPL.out]; exact hlt2)
          cases e
          have IS := Lib.hid (fun w' => is_yes3 (pt.getD k ByteArray.empty) w' (D2.out k hlt2))
          generalize pt.getD k ByteArray.empty = x at *
          go_wp2_with fail
          refine (IS.out _).mono ?_
          rintro e w8 ⟨rfl, rfl⟩
          go_wp2_with fail
          exact ⟨⟨k + 1, by omega, by go_num⟩, by simp [intOf]; omega⟩
        · obtain rfl : k = h := by omega
          have IS := Lib.hid (fun w' => is_yes3 pb w' PD.out)
          obtain ⟨g0, g1, g2, _, _, _⟩ := Y6.out.cells
          go_wp2_with fail
          refine (IS.out _).mono ?_
          rintro e w8 ⟨rfl, rfl⟩
          go_wp2_with fail
          refine (SL.out _ A5 A1 c5 c1 HT5.out HT1.out (by rw [HSL.out]; unfold maxLen; omega)).mono ?_
          rintro e w9 ⟨rfl, hb9⟩
          have HB9 := Lib.hid (Bt HB7.out hb9)
          obtain ⟨r0, r1, r2, _, _, _⟩ := (Y4.out.bt hb9).cells
          have HU1 := Lib.hid (HT1.out.bt hb9)
          have HU2 := Lib.hid (HT2.out.bt hb9)
          go_wp2_with fail
          refine (VR.out _ A1 A2 c1 c2 HU1.out HU2.out (by omega) m1 (by omega) m2 z2h.out (fun s hs => by have := HZP.out s hs; omega) (HP.out.bt HB9.out)).mono ?_
          rintro e w10 ⟨rfl, hb10⟩
          have hb10' := Bt HB9.out hb10
          go_wp2_with fail
          go_ret
          exact ⟨rfl, hb10'⟩

theorem verifies3_walk (s : ByteArray) (a b : Int) (m : ByteArray) (W : World) (hp : Pow W.heap.size W) (_ : s.size ≤ maxLen) (ha : (Go.Lit.int .u8 a).wf = true) (hb : (Go.Lit.int .u8 b).wf = true) (hm : m.size ≤ maxLen) :
    Calls Tryd.prog 4 #[.string s, .int .u8 a, .int .u8 b, .string m] W fun e w' => e = .returned (.bool true) ∧ Below W.heap.size W w' := by
  obtain ⟨a0, a1⟩ : IntKind.u8.min ≤ a ∧ a ≤ IntKind.u8.max := by simpa [Go.Lit.wf] using ha
  obtain ⟨b0, b1⟩ : IntKind.u8.min ≤ b ∧ b ≤ IntKind.u8.max := by simpa [Go.Lit.wf] using hb
  change 0 ≤ a at a0
  change a ≤ 255 at a1
  change 0 ≤ b at b0
  change b ≤ 255 at b1
  obtain ⟨a, rfl⟩ : ∃ k : Nat, a = k := ⟨a.toNat, by omega⟩
  obtain ⟨b, rfl⟩ : ∃ k : Nat, b = k := ⟨b.toNat, by omega⟩
  cases e : shortL [s, m] with
  | false => exact verifies3_out s a b m W hp (by omega) (by omega) e
  | true => exact verifies3_in s a b m W hp (by omega) (by omega) e
end Go.Proofs.YtokhdloebcadnaaDoor
