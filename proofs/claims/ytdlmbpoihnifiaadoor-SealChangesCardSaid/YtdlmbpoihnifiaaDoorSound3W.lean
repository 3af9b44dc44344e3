/- P3.3: the walk of SealSound. -/
import Derived.Test.YtdlmbpoihnifiaaDoorSeW
import Derived.Test.YtdlmbpoihnifiaaDoorSeI
namespace Go.Proofs.YtdlmbpoihnifiaaDoor
open Go.RowKit
set_option maxRecDepth 100000
set_option linter.unusedSimpArgs false
set_option linter.unusedVariables false
attribute [-go_sem] Builtin.append_

theorem few_ex (i : Int) (A1 A2 : Option Addr) (c1 c2 k1 k2 : Nat) (sg pt : List ByteArray) (hk1 : sg.length = k1) (hk2 : pt.length = k2) (b : Bool) (hb : fw sg pt = b) (w : World) (h1 : Strs w w.heap.size A1 sg) (h2 : Strs w w.heap.size A2 pt) (n1 : k1 ≤ maxLen := by omega) (n2 : k2 ≤ maxLen := by omega) :
    Calls Tryd.prog 12 #[.agg #[.int .i64 i, .slice A1 k1 c1, .slice A2 k2 c2]] w fun e w' => e = .returned (.bool b) ∧ Below w.heap.size w w' := by
  subst hk1 hk2 hb
  exact rFew_any i A1 A2 c1 c2 sg pt w h1 h2 n1 n2
theorem sameb_ex (i j : Int) (A1 A2 A3 A4 : Option Addr) (c1 c2 c3 c4 k1 k2 k3 k4 : Nat) (sg pt sg' pt' : List ByteArray) (hk1 : sg.length = k1) (hk2 : pt.length = k2) (hk3 : sg'.length = k3) (hk4 : pt'.length = k4) (b : Bool) (hb : decide (i = j ∧ sg = sg' ∧ pt = pt') = b) (w : World)
    (h1 : Strs w w.heap.size A1 sg) (h2 : Strs w w.heap.size A2 pt) (h3 : Strs w w.heap.size A3 sg') (h4 : Strs w w.heap.size A4 pt') (n1 : k1 ≤ maxLen) (n2 : k2 ≤ maxLen) :
    Calls Tryd.prog 17 #[.agg #[.int .i64 i, .slice A1 k1 c1, .slice A2 k2 c2], .agg #[.int .i64 j, .slice A3 k3 c3, .slice A4 k4 c4]] w fun e w' => e = .returned (.bool b) ∧ Below w.heap.size w w' := by
  subst hk1 hk2 hk3 hk4 hb
  exact rSame_any i j A1 A2 A3 A4 c1 c2 c3 c4 sg pt sg' pt' w h1 h2 h3 h4 n1 n2

set_option maxHeartbeats 4000000 in
theorem sound_short (s : ByteArray) (a : Nat) (m : ByteArray) (i : Int) (A1 A2 : Option Addr) (c1 c2 n1 n2 : Nat) (sg pt : List ByteArray) (hl1 : sg.length = n1) (hl2 : pt.length = n2) (W : World) (hp : Pow W.heap.size W) (ha : a ≤ 255) (hs1 : Strs W W.heap.size A1 sg) (hs2 : Strs W W.heap.size A2 pt) (hc1 : n1 ≤ c1) (hm1 : c1 ≤ maxLen) (hc2 : n2 ≤ c2) (hm2 : c2 ≤ maxLen) (hsh : shortL [s, m] = false) :
    Calls Tryd.prog 5 #[.string s, .int .u8 (a : Int), .string m, .agg #[.int .i64 i, .slice A1 n1 c1, .slice A2 n2 c2]] W fun e w' => e = .returned (.bool true) ∧ Below W.heap.size W w' := by
  have SH := Lib.hid (fun w' => short_lit w' [s, m] false hsh (by simp))
  have hbA := (Below.refl W.heap.size W).alloc (Nat.le_refl _) (.cells #[.int .i64 i, .slice A1 n1 c1, .slice A2 n2 c2] 24)
  have b0 := Boxed3.new W (.int .i64 i) (.slice A1 n1 c1) (.slice A2 n2 c2)
  have B0 := Lib.hid b0
  obtain ⟨k0, k1, k2, _, _, _⟩ := b0.cells
  have HP := Lib.hid (hp.bt hbA)
  have HS1 := Lib.hid (hs1.bt hbA)
  have HS2 := Lib.hid (hs2.bt hbA)
  clear hp hs1 hs2 b0
  have E1 := fun h (hh : a % 3 = h) => Lib.hid (show (a : Int) % 3 = (h : Int) by omega)
  have h2 : a % 3 ≤ 2 := by omega
  have E1 := E1 _ rfl
  go_enter Tryd.func5, Tryd.ntmps5
  go_wp2_with fail
  refine (head_any _ HP.out).mono ?_
  rintro e w1 ⟨rfl, hb1⟩
  have hb1' := Bt hbA hb1
  obtain ⟨a0, a1, a2, _, _, _⟩ := (B0.out.bt hb1).cells
  have E1' := E1.out
  go_wp2_with fail
  clear E1'
  refine (SH.out w1).mono ?_
  rintro e w2 ⟨rfl, hb2⟩
  go_wp2_with fail
  go_ret
  exact ⟨rfl, Bt hb1' hb2⟩

set_option maxHeartbeats 4000000 in
theorem sound_few (s : ByteArray) (a : Nat) (m : ByteArray) (i : Int) (A1 A2 : Option Addr) (c1 c2 n1 n2 : Nat) (sg pt : List ByteArray) (hl1 : sg.length = n1) (hl2 : pt.length = n2) (W : World) (hp : Pow W.heap.size W) (ha : a ≤ 255) (hs1 : Strs W W.heap.size A1 sg) (hs2 : Strs W W.heap.size A2 pt) (hc1 : n1 ≤ c1) (hm1 : c1 ≤ maxLen) (hc2 : n2 ≤ c2) (hm2 : c2 ≤ maxLen) (hsh : shortL [s, m] = true) (hfw : fw sg pt = false) :
    Calls Tryd.prog 5 #[.string s, .int .u8 (a : Int), .string m, .agg #[.int .i64 i, .slice A1 n1 c1, .slice A2 n2 c2]] W fun e w' => e = .returned (.bool true) ∧ Below W.heap.size W w' := by
  have SH := Lib.hid (fun w' => short_lit w' [s, m] true hsh (by simp))
  have FW := Lib.hid (fun w' => few_ex i A1 A2 c1 c2 n1 n2 sg pt hl1 hl2 false hfw w')
  have hbA := (Below.refl W.heap.size W).alloc (Nat.le_refl _) (.cells #[.int .i64 i, .slice A1 n1 c1, .slice A2 n2 c2] 24)
  have b0 := Boxed3.new W (.int .i64 i) (.slice A1 n1 c1) (.slice A2 n2 c2)
  have B0 := Lib.hid b0
  obtain ⟨k0, k1, k2, _, _, _⟩ := b0.cells
  have HP := Lib.hid (hp.bt hbA)
  have HS1 := Lib.hid (hs1.bt hbA)
  have HS2 := Lib.hid (hs2.bt hbA)
  clear hp hs1 hs2 b0
  have E1 := fun h (hh : a % 3 = h) => Lib.hid (show (a : Int) % 3 = (h : Int) by omega)
  have h2 : a % 3 ≤ 2 := by omega
  have E1 := E1 _ rfl
  go_enter Tryd.func5, Tryd.ntmps5
  go_wp2_with fail
  refine (head_any _ HP.out).mono ?_
  rintro e w1 ⟨rfl, hb1⟩
  have hb1' := Bt hbA hb1
  obtain ⟨a0, a1, a2, _, _, _⟩ := (B0.out.bt hb1).cells
  have E1' := E1.out
  go_wp2_with fail
  clear E1'
  refine (SH.out w1).mono ?_
  rintro e w2 ⟨rfl, hb2⟩
  have hb2' := Bt hb1' hb2
  have hb12 := Bt hb1 hb2
  obtain ⟨d0, d1, d2, _, _, _⟩ := (B0.out.bt hb12).cells
  clear k0 k1 k2 a0 a1 a2
  go_wp2_with fail
  refine (FW.out _ (HS1.out.bt hb12) (HS2.out.bt hb12)).mono ?_
  rintro e w3 ⟨rfl, hb3⟩
  have hb3' := Bt hb2' hb3
  have hb13 := Bt hb12 hb3
  obtain ⟨e0, e1, e2, _, _, _⟩ := (B0.out.bt hb13).cells
  clear d0 d1 d2
  go_wp2_with fail
  go_ret
  exact ⟨rfl, hb3'⟩

set_option maxHeartbeats 4000000 in
theorem sound_no (s : ByteArray) (a : Nat) (m : ByteArray) (i : Int) (A1 A2 : Option Addr) (c1 c2 n1 n2 : Nat) (sg pt : List ByteArray) (hl1 : sg.length = n1) (hl2 : pt.length = n2) (W : World) (hp : Pow W.heap.size W) (ha : a ≤ 255) (hs1 : Strs W W.heap.size A1 sg) (hs2 : Strs W W.heap.size A2 pt) (hc1 : n1 ≤ c1) (hm1 : c1 ≤ maxLen) (hc2 : n2 ≤ c2) (hm2 : c2 ≤ maxLen) (hsh : shortL [s, m] = true) (hfw : fw sg pt = true) (hv : vf (pub s (a % 3)) m i sg pt = false) :
    Calls Tryd.prog 5 #[.string s, .int .u8 (a : Int), .string m, .agg #[.int .i64 i, .slice A1 n1 c1, .slice A2 n2 c2]] W fun e w' => e = .returned (.bool true) ∧ Below W.heap.size W w' := by
  have z1 := short_all hsh s (by simp)
  have z2 := short_all hsh m (by simp)
  have z2' : m.size ≤ maxLen := by unfold maxLen; omega
  have z2h := Lib.hid z2'
  obtain ⟨fb1, fb2, fz1, fz2⟩ := fw_bounds hfw
  have HZP := Lib.hid fz2
  have HZS := Lib.hid fz1
  have FW := Lib.hid (fun w' => few_ex i A1 A2 c1 c2 n1 n2 sg pt hl1 hl2 true hfw w')
  have SH := Lib.hid (fun w' => short_lit w' [s, m] true hsh (by simp))
  have hbA := (Below.refl W.heap.size W).alloc (Nat.le_refl _) (.cells #[.int .i64 i, .slice A1 n1 c1, .slice A2 n2 c2] 24)
  have b0 := Boxed3.new W (.int .i64 i) (.slice A1 n1 c1) (.slice A2 n2 c2)
  have B0 := Lib.hid b0
  obtain ⟨k0, k1, k2, _, _, _⟩ := b0.cells
  have HP := Lib.hid (hp.bt hbA)
  have HS1 := Lib.hid (hs1.bt hbA)
  have HS2 := Lib.hid (hs2.bt hbA)
  clear hp hs1 hs2 b0
  have E1 := fun h (hh : a % 3 = h) => Lib.hid (show (a : Int) % 3 = (h : Int) by omega)
  have h2 : a % 3 ≤ 2 := by omega
  have E1 := E1 _ rfl
  generalize a % 3 = h at *
  have PK := Lib.hid (fun (w' : World) (hb : Below (W.alloc _).heap.size (W.alloc _) w') => Public_ok s h w' (by omega) (by omega) (HP.out.bt hb))
  have V := Lib.hid (fun (w' : World) => verify_ex (pub s h) m i A1 A2 c1 c2 n1 n2 sg pt hl1 hl2 false hv w')
  clear hv hsh hfw z1 z2 z2' fb1 fb2 fz1 fz2
  generalize pub s h = pb at *
  go_enter Tryd.func5, Tryd.ntmps5
  go_wp2_with fail
  refine (head_any _ HP.out).mono ?_
  rintro e w1 ⟨rfl, hb1⟩
  have hb1' := Bt hbA hb1
  obtain ⟨a0, a1, a2, _, _, _⟩ := (B0.out.bt hb1).cells
  have E1' := E1.out
  go_wp2_with fail
  clear E1'
  refine (SH.out w1).mono ?_
  rintro e w2 ⟨rfl, hb2⟩
  have hb2' := Bt hb1' hb2
  have hb12 := Bt hb1 hb2
  obtain ⟨d0, d1, d2, _, _, _⟩ := (B0.out.bt hb12).cells
  clear k0 k1 k2 a0 a1 a2
  go_wp2_with fail
  refine (FW.out _ (HS1.out.bt hb12) (HS2.out.bt hb12)).mono ?_
  rintro e w3 ⟨rfl, hb3⟩
  have hb3' := Bt hb2' hb3
  have hb13 := Bt hb12 hb3
  obtain ⟨e0, e1, e2, _, _, _⟩ := (B0.out.bt hb13).cells
  clear d0 d1 d2
  go_wp2_with fail
  rw [E1.out]
  refine (PK.out w3 hb13).mono ?_
  rintro e w4 ⟨rfl, hb4⟩
  have hb4' := Bt hb3' hb4
  have hb14 := Bt hb13 hb4
  obtain ⟨f0, f1, f2, _, _, _⟩ := (B0.out.bt hb14).cells
  clear e0 e1 e2
  go_wp2_with fail
  refine (V.out w4 (HS1.out.bt hb14) (HS2.out.bt hb14) hc1 hm1 hc2 hm2 z2h.out (fun s hs => by have := HZP.out s hs; omega) (HP.out.bt hb14)).mono ?_
  rintro e w5 ⟨rfl, hb5⟩
  have hb5' := Bt hb4' hb5
  have hb15 := Bt hb14 hb5
  obtain ⟨g0, g1, g2, _, _, _⟩ := (B0.out.bt hb15).cells
  clear f0 f1 f2
  go_wp2_with fail
  go_ret
  exact ⟨rfl, hb5'⟩

set_option maxHeartbeats 4000000 in
theorem sound_own (s : ByteArray) (a : Nat) (m : ByteArray) (i : Nat) (A1 A2 : Option Addr) (c1 c2 n2 : Nat) (sg pt : List ByteArray) (hl1 : sg.length = 18) (hl2 : pt.length = n2) (W : World) (hp : Pow W.heap.size W) (ha : a ≤ 255) (hs1 : Strs W W.heap.size A1 sg) (hs2 : Strs W W.heap.size A2 pt) (hc1 : 18 ≤ c1) (hm1 : c1 ≤ maxLen) (hc2 : n2 ≤ c2) (hm2 : c2 ≤ maxLen) (hsh : shortL [s, m] = true) (hfw : fw sg pt = true) (hi : i < 256) (hv : vf (pub s (a % 3)) m i sg pt = true) (hip : i < 2 ^ (a % 3)) (hsm : decide ((i : Int) = i ∧ Se.sig s i m = sg ∧ Tr.path (Se.keys s (a % 3)) i = pt) = true) :
    Calls Tryd.prog 5 #[.string s, .int .u8 (a : Int), .string m, .agg #[.int .i64 (i : Int), .slice A1 18 c1, .slice A2 n2 c2]] W fun e w' => e = .returned (.bool true) ∧ Below W.heap.size W w' := by
  have z1 := short_all hsh s (by simp)
  have z2 := short_all hsh m (by simp)
  have z2' : m.size ≤ maxLen := by unfold maxLen; omega
  have z2h := Lib.hid z2'
  obtain ⟨fb1, fb2, fz1, fz2⟩ := fw_bounds hfw
  have HZP := Lib.hid fz2
  have HZS := Lib.hid fz1
  have FW := Lib.hid (fun w' => few_ex i A1 A2 c1 c2 18 n2 sg pt hl1 hl2 true hfw w')
  have SH := Lib.hid (fun w' => short_lit w' [s, m] true hsh (by simp))
  have hbA := (Below.refl W.heap.size W).alloc (Nat.le_refl _) (.cells #[.int .i64 (i : Int), .slice A1 18 c1, .slice A2 n2 c2] 24)
  have b0 := Boxed3.new W (.int .i64 (i : Int)) (.slice A1 18 c1) (.slice A2 n2 c2)
  have B0 := Lib.hid b0
  obtain ⟨k0, k1, k2, _, _, _⟩ := b0.cells
  have HP := Lib.hid (hp.bt hbA)
  have HS1 := Lib.hid (hs1.bt hbA)
  have HS2 := Lib.hid (hs2.bt hbA)
  clear hp hs1 hs2 b0
  have E1 := fun h (hh : a % 3 = h) => Lib.hid (show (a : Int) % 3 = (h : Int) by omega)
  have h2 : a % 3 ≤ 2 := by omega
  have E1 := E1 _ rfl
  generalize a % 3 = h at *
  have PK := Lib.hid (fun (w' : World) (hb : Below (W.alloc _).heap.size (W.alloc _) w') => Public_ok s h w' (by omega) (by omega) (HP.out.bt hb))
  have V := Lib.hid (fun (w' : World) => verify_ex (pub s h) m i A1 A2 c1 c2 18 n2 sg pt hl1 hl2 true hv w')
  have SG := Lib.hid (fun (w' : World) (hb : Below (W.alloc _).heap.size (W.alloc _) w') => sign_ok s m h i w' (by omega) z2' (by omega) hip (HP.out.bt hb))
  have HPL2 := path_len s h i hip
  have SM := Lib.hid (fun (w' : World) A3 A4 A1 A2 c3 c4 c1 c2 => sameb_ex i i A3 A4 A1 A2 c3 c4 c1 c2 18 h 18 n2 (Se.sig s i m) (Tr.path (Se.keys s h) i) sg pt (Se.sig_length s i m) HPL2 hl1 hl2 true hsm w')
  clear hv hsh hfw z1 z2 z2' fb1 fb2 fz1 fz2 hip hsm HPL2
  generalize pub s h = pb at *
  generalize Se.sig s i m = sgo at *
  generalize Tr.path (Se.keys s h) i = pto at *
  go_enter Tryd.func5, Tryd.ntmps5
  go_wp2_with fail
  refine (head_any _ HP.out).mono ?_
  rintro e w1 ⟨rfl, hb1⟩
  have hb1' := Bt hbA hb1
  obtain ⟨a0, a1, a2, _, _, _⟩ := (B0.out.bt hb1).cells
  have E1' := E1.out
  go_wp2_with fail
  clear E1'
  refine (SH.out w1).mono ?_
  rintro e w2 ⟨rfl, hb2⟩
  have hb2' := Bt hb1' hb2
  have hb12 := Bt hb1 hb2
  obtain ⟨d0, d1, d2, _, _, _⟩ := (B0.out.bt hb12).cells
  clear k0 k1 k2 a0 a1 a2
  go_wp2_with fail
  refine (FW.out _ (HS1.out.bt hb12) (HS2.out.bt hb12)).mono ?_
  rintro e w3 ⟨rfl, hb3⟩
  have hb3' := Bt hb2' hb3
  have hb13 := Bt hb12 hb3
  obtain ⟨e0, e1, e2, _, _, _⟩ := (B0.out.bt hb13).cells
  clear d0 d1 d2
  go_wp2_with fail
  rw [E1.out]
  refine (PK.out w3 hb13).mono ?_
  rintro e w4 ⟨rfl, hb4⟩
  have hb4' := Bt hb3' hb4
  have hb14 := Bt hb13 hb4
  obtain ⟨f0, f1, f2, _, _, _⟩ := (B0.out.bt hb14).cells
  clear e0 e1 e2
  go_wp2_with fail
  refine (V.out w4 (HS1.out.bt hb14) (HS2.out.bt hb14) hc1 hm1 hc2 hm2 z2h.out (fun s hs => by have := HZP.out s hs; omega) (HP.out.bt hb14)).mono ?_
  rintro e w5 ⟨rfl, hb5⟩
  have hb5' := Bt hb4' hb5
  have hb15 := Bt hb14 hb5
  obtain ⟨g0, g1, g2, _, _, _⟩ := (B0.out.bt hb15).cells
  clear f0 f1 f2
  go_wp2_with fail
  refine (SG.out w5 hb15).mono ?_
  rintro e w6 ⟨A3, A4, c3, c4, rfl, hs3, hs4, l3, m3, l4, m4, hb6⟩
  have x6 := Boxed3.new w6 (.int .i64 (i : Int)) (.slice A3 18 c3) (.slice A4 h c4)
  have ha6 := (Below.refl w6.heap.size w6).alloc (Nat.le_refl _) (.cells #[.int .i64 (i : Int), .slice A3 18 c3, .slice A4 h c4] 24)
  have hb56 := Bt hb6 ha6
  have hb6' := Bt hb5' hb56
  have hb16 := Bt hb15 hb56
  have HO3 := Lib.hid (hs3.bt ha6)
  have HO4 := Lib.hid (hs4.bt ha6)
  obtain ⟨r0, r1, r2, _, _, _⟩ := (B0.out.bt hb16).cells
  obtain ⟨s0, s1, s2, _, _, _⟩ := x6.cells
  clear g0 g1 g2 hs3 hs4
  go_wp2_with fail
  refine (SM.out _ A3 A4 A1 A2 c3 c4 c1 c2 HO3.out HO4.out (HS1.out.bt hb16) (HS2.out.bt hb16) (by unfold maxLen; omega) (by unfold maxLen; omega)).mono ?_
  rintro e w7 ⟨rfl, hb7⟩
  have hb7' := Bt hb6' hb7
  have hb17 := Bt hb16 hb7
  obtain ⟨u0, u1, u2, _, _, _⟩ := (B0.out.bt hb17).cells
  clear r0 r1 r2
  go_wp2_with fail
  go_ret
  exact ⟨rfl, hb7'⟩

set_option maxHeartbeats 4000000 in
theorem sound_other (s : ByteArray) (a : Nat) (m : ByteArray) (i : Nat) (A1 A2 : Option Addr) (c1 c2 n2 : Nat) (sg pt : List ByteArray) (hl1 : sg.length = 18) (hl2 : pt.length = n2) (W : World) (hp : Pow W.heap.size W) (ha : a ≤ 255) (hs1 : Strs W W.heap.size A1 sg) (hs2 : Strs W W.heap.size A2 pt) (hc1 : 18 ≤ c1) (hm1 : c1 ≤ maxLen) (hc2 : n2 ≤ c2) (hm2 : c2 ≤ maxLen) (hsh : shortL [s, m] = true) (hfw : fw sg pt = true) (hi : i < 256) (hv : vf (pub s (a % 3)) m i sg pt = true) (hip : i < 2 ^ (a % 3)) (hsm : decide ((i : Int) = i ∧ Se.sig s i m = sg ∧ Tr.path (Se.keys s (a % 3)) i = pt) = false) (hshown : Tr.Shown (Se.made s (a % 3) 15 ++ Se.checked m i sg pt)) :
    Calls Tryd.prog 5 #[.string s, .int .u8 (a : Int), .string m, .agg #[.int .i64 (i : Int), .slice A1 18 c1, .slice A2 n2 c2]] W fun e w' => e = .returned (.bool true) ∧ Below W.heap.size W w' := by
  have z1 := short_all hsh s (by simp)
  have z2 := short_all hsh m (by simp)
  have z2' : m.size ≤ maxLen := by unfold maxLen; omega
  have z2h := Lib.hid z2'
  obtain ⟨fb1, fb2, fz1, fz2⟩ := fw_bounds hfw
  have HZP := Lib.hid fz2
  have HZS := Lib.hid fz1
  have FW := Lib.hid (fun w' => few_ex i A1 A2 c1 c2 18 n2 sg pt hl1 hl2 true hfw w')
  have SH := Lib.hid (fun w' => short_lit w' [s, m] true hsh (by simp))
  have hbA := (Below.refl W.heap.size W).alloc (Nat.le_refl _) (.cells #[.int .i64 (i : Int), .slice A1 18 c1, .slice A2 n2 c2] 24)
  have b0 := Boxed3.new W (.int .i64 (i : Int)) (.slice A1 18 c1) (.slice A2 n2 c2)
  have B0 := Lib.hid b0
  obtain ⟨k0, k1, k2, _, _, _⟩ := b0.cells
  have HP := Lib.hid (hp.bt hbA)
  have HS1 := Lib.hid (hs1.bt hbA)
  have HS2 := Lib.hid (hs2.bt hbA)
  clear hp hs1 hs2 b0
  have E1 := fun h (hh : a % 3 = h) => Lib.hid (show (a : Int) % 3 = (h : Int) by omega)
  have h2 : a % 3 ≤ 2 := by omega
  have E1 := E1 _ rfl
  generalize a % 3 = h at *
  have PK := Lib.hid (fun (w' : World) (hb : Below (W.alloc _).heap.size (W.alloc _) w') => Public_ok s h w' (by omega) (by omega) (HP.out.bt hb))
  have V := Lib.hid (fun (w' : World) => verify_ex (pub s h) m i A1 A2 c1 c2 18 n2 sg pt hl1 hl2 true hv w')
  have SG := Lib.hid (fun (w' : World) (hb : Below (W.alloc _).heap.size (W.alloc _) w') => sign_ok s m h i w' (by omega) z2' (by omega) hip (HP.out.bt hb))
  have HPL2 := path_len s h i hip
  have SM := Lib.hid (fun (w' : World) A3 A4 A1 A2 c3 c4 c1 c2 => sameb_ex i i A3 A4 A1 A2 c3 c4 c1 c2 18 h 18 n2 (Se.sig s i m) (Tr.path (Se.keys s h) i) sg pt (Se.sig_length s i m) HPL2 hl1 hl2 false hsm w')
  have M1 := Lib.hid (fun (w' : World) => show Calls Tryd.prog 23 #[.string s, .int .i64 (h : Int), .int .i64 15] w' (Gives (Se.made s h 15) w') from made_any s h 15 w' (by omega) (by omega) (by omega) (by omega))
  have CK := Lib.hid (fun (w' : World) A1 A2 c1 c2 => checked_ex m i sg pt n2 hl2 A1 A2 c1 c2 w' (by omega) (by omega) hl1 (by omega))
  have L1 := made_len s h 15 (by omega) (by omega)
  have L2 := checked_len m i sg pt
  rw [hl2] at L2
  have TZ := Lib.hid (show ∀ x ∈ Se.made s h 15 ++ Se.checked m i sg pt, x.size ≤ 140737488355328 from fun x hx => by
    rcases List.mem_append.1 hx with hx | hx
    · exact made_le s h 15 (by omega) (by omega) x hx
    · exact checked_le m i _ _ (fun s hs => by have := HZS.out s hs; omega) (fun s hs => by have := HZP.out s hs; omega) x hx)
  have HSH := Lib.hid hshown
  clear hv hsh hfw z1 z2 z2' fb1 fz1 fz2 hip hsm HPL2 hshown
  generalize pub s h = pb at *
  generalize Se.made s h 15 = x1 at *
  generalize Se.checked m i sg pt = x2 at *
  generalize Se.sig s i m = sgo at *
  generalize Tr.path (Se.keys s h) i = pto at *
  go_enter Tryd.func5, Tryd.ntmps5
  go_wp2_with fail
  refine (head_any _ HP.out).mono ?_
  rintro e w1 ⟨rfl, hb1⟩
  have hb1' := Bt hbA hb1
  obtain ⟨a0, a1, a2, _, _, _⟩ := (B0.out.bt hb1).cells
  have E1' := E1.out
  go_wp2_with fail
  clear E1'
  refine (SH.out w1).mono ?_
  rintro e w2 ⟨rfl, hb2⟩
  have hb2' := Bt hb1' hb2
  have hb12 := Bt hb1 hb2
  obtain ⟨d0, d1, d2, _, _, _⟩ := (B0.out.bt hb12).cells
  clear k0 k1 k2 a0 a1 a2
  go_wp2_with fail
  refine (FW.out _ (HS1.out.bt hb12) (HS2.out.bt hb12)).mono ?_
  rintro e w3 ⟨rfl, hb3⟩
  have hb3' := Bt hb2' hb3
  have hb13 := Bt hb12 hb3
  obtain ⟨e0, e1, e2, _, _, _⟩ := (B0.out.bt hb13).cells
  clear d0 d1 d2
  go_wp2_with fail
  rw [E1.out]
  refine (PK.out w3 hb13).mono ?_
  rintro e w4 ⟨rfl, hb4⟩
  have hb4' := Bt hb3' hb4
  have hb14 := Bt hb13 hb4
  obtain ⟨f0, f1, f2, _, _, _⟩ := (B0.out.bt hb14).cells
  clear e0 e1 e2
  go_wp2_with fail
  refine (V.out w4 (HS1.out.bt hb14) (HS2.out.bt hb14) hc1 hm1 hc2 hm2 z2h.out (fun s hs => by have := HZP.out s hs; omega) (HP.out.bt hb14)).mono ?_
  rintro e w5 ⟨rfl, hb5⟩
  have hb5' := Bt hb4' hb5
  have hb15 := Bt hb14 hb5
  obtain ⟨g0, g1, g2, _, _, _⟩ := (B0.out.bt hb15).cells
  clear f0 f1 f2
  go_wp2_with fail
  refine (SG.out w5 hb15).mono ?_
  rintro e w6 ⟨A3, A4, c3, c4, rfl, hs3, hs4, l3, m3, l4, m4, hb6⟩
  have x6 := Boxed3.new w6 (.int .i64 (i : Int)) (.slice A3 18 c3) (.slice A4 h c4)
  have ha6 := (Below.refl w6.heap.size w6).alloc (Nat.le_refl _) (.cells #[.int .i64 (i : Int), .slice A3 18 c3, .slice A4 h c4] 24)
  have hb56 := Bt hb6 ha6
  have hb6' := Bt hb5' hb56
  have hb16 := Bt hb15 hb56
  have HO3 := Lib.hid (hs3.bt ha6)
  have HO4 := Lib.hid (hs4.bt ha6)
  obtain ⟨r0, r1, r2, _, _, _⟩ := (B0.out.bt hb16).cells
  obtain ⟨s0, s1, s2, _, _, _⟩ := x6.cells
  clear g0 g1 g2 hs3 hs4
  go_wp2_with fail
  refine (SM.out _ A3 A4 A1 A2 c3 c4 c1 c2 HO3.out HO4.out (HS1.out.bt hb16) (HS2.out.bt hb16) (by unfold maxLen; omega) (by unfold maxLen; omega)).mono ?_
  rintro e w7 ⟨rfl, hb7⟩
  have hb7' := Bt hb6' hb7
  have hb17 := Bt hb16 hb7
  obtain ⟨u0, u1, u2, _, _, _⟩ := (B0.out.bt hb17).cells
  clear r0 r1 r2
  go_wp2_with fail
  have HT1' := HS1.out.bt hb17
  have HT2' := HS2.out.bt hb17
  have HT1 : Hid (Strs (w7).drew (w7).drew.heap.size A1 sg) := Lib.hid HT1'
  have HT2 : Hid (Strs (w7).drew (w7).drew.heap.size A2 pt) := Lib.hid HT2'
  have X7 := Lib.hid (B0.out.bt hb17)
  have HB17 := Lib.hid hb7'.drew
  clear HT1' HT2'
  go_region_held3 (fun w' => w'.cell? ⟨W.heap.size, 0, none⟩ = some (.int .i64 (i : Int)) ∧ w'.cell? ⟨W.heap.size, 1, none⟩ = some (.slice A1 18 c1) ∧ w'.cell? ⟨W.heap.size, 2, none⟩ = some (.slice A2 n2 c2)) (first | exact ⟨u0, u1, u2⟩ | exact ⟨p0, p1, p2⟩ | exact ⟨f0, f1, f2⟩ | exact ⟨y0, y1, y2⟩ | exact ⟨o0, o1, o2⟩)
    (first
      | (go_at_call 23
         (with_reducible refine (M1.out _).mono ?_)
         rintro e w8 ⟨v8, rfl, ho8, hb8⟩
         have hb8' := Bt HB17.out hb8
         obtain ⟨p0, p1, p2, _, _, _⟩ := (Boxed3.bt (w := (w7).drew) X7.out hb8).cells)
      | (go_at_call 24
         (with_reducible refine (CK.out _ A1 A2 c1 c2 (HT1.out.bt hb8) (HT2.out.bt hb8) hc1 hm1 hc2 hm2 (fun s hs => by have := HZS.out s hs; omega) (fun s hs => by have := HZP.out s hs; omega)).mono ?_)
         rintro e w9 ⟨v9, rfl, ho9, hb9⟩
         have hb9' := Bt hb8' hb9
         have ho89 := own_below ho8 hb9
         obtain ⟨f0, f1, f2, _, _, _⟩ := ((Boxed3.bt (w := (w7).drew) X7.out hb8).bt hb9).cells
         obtain ⟨v10, w10, hrun10, ho10, hb10, _, _⟩ := run_append4 w9 (w7).heap.size v8 x1 ho89 v9 _ x2 ho9 (by omega) (Bt hb8 hb9).size 22
         have hb810 := (Bt hb8 hb9).trans (hb10.mono (Nat.le_refl _))
         have hb10' := Bt HB17.out hb810
         obtain ⟨A8, c8, rfl, hs8, hc8, hm8⟩ := ho10.form
         obtain ⟨y0, y1, y2, _, _, _⟩ := (Boxed3.bt (w := (w7).drew) X7.out hb810).cells
         have HS8 := Lib.hid hs8
         clear hs8 ho10 hb10)
      | (go_at_call 22
         with_reducible refine (shown_len A8 c8 (x1 ++ x2) (x1.length + x2.length) (by simp) w10 HS8.out (by omega) TZ.out HSH.out).mono ?_
         rintro e w11 ⟨rfl, hb11⟩
         have hb11' := Bt hb10' hb11
         obtain ⟨o0, o1, o2, _, _, _⟩ := (Boxed3.bt (w := (w7).drew) X7.out (Bt hb810 hb11)).cells)
      | fail)
  go_wp2
  go_ret
  exact ⟨rfl, hb11'⟩

set_option maxHeartbeats 4000000 in
theorem sound_err (s : ByteArray) (a : Nat) (m : ByteArray) (i : Nat) (A1 A2 : Option Addr) (c1 c2 n2 : Nat) (sg pt : List ByteArray) (hl1 : sg.length = 18) (hl2 : pt.length = n2) (W : World) (hp : Pow W.heap.size W) (ha : a ≤ 255) (hs1 : Strs W W.heap.size A1 sg) (hs2 : Strs W W.heap.size A2 pt) (hc1 : 18 ≤ c1) (hm1 : c1 ≤ maxLen) (hc2 : n2 ≤ c2) (hm2 : c2 ≤ maxLen) (hsh : shortL [s, m] = true) (hfw : fw sg pt = true) (hi : i < 256) (hv : vf (pub s (a % 3)) m i sg pt = true) (hip : 2 ^ (a % 3) ≤ i) (hshown : Tr.Shown (Se.made s (a % 3) 15 ++ Se.checked m i sg pt)) :
    Calls Tryd.prog 5 #[.string s, .int .u8 (a : Int), .string m, .agg #[.int .i64 (i : Int), .slice A1 18 c1, .slice A2 n2 c2]] W fun e w' => e = .returned (.bool true) ∧ Below W.heap.size W w' := by
  have z1 := short_all hsh s (by simp)
  have z2 := short_all hsh m (by simp)
  have z2' : m.size ≤ maxLen := by unfold maxLen; omega
  have z2h := Lib.hid z2'
  obtain ⟨fb1, fb2, fz1, fz2⟩ := fw_bounds hfw
  have HZP := Lib.hid fz2
  have HZS := Lib.hid fz1
  have FW := Lib.hid (fun w' => few_ex i A1 A2 c1 c2 18 n2 sg pt hl1 hl2 true hfw w')
  have SH := Lib.hid (fun w' => short_lit w' [s, m] true hsh (by simp))
  have hbA := (Below.refl W.heap.size W).alloc (Nat.le_refl _) (.cells #[.int .i64 (i : Int), .slice A1 18 c1, .slice A2 n2 c2] 24)
  have b0 := Boxed3.new W (.int .i64 (i : Int)) (.slice A1 18 c1) (.slice A2 n2 c2)
  have B0 := Lib.hid b0
  obtain ⟨k0, k1, k2, _, _, _⟩ := b0.cells
  have HP := Lib.hid (hp.bt hbA)
  have HS1 := Lib.hid (hs1.bt hbA)
  have HS2 := Lib.hid (hs2.bt hbA)
  clear hp hs1 hs2 b0
  have E1 := fun h (hh : a % 3 = h) => Lib.hid (show (a : Int) % 3 = (h : Int) by omega)
  have h2 : a % 3 ≤ 2 := by omega
  have E1 := E1 _ rfl
  generalize a % 3 = h at *
  have PK := Lib.hid (fun (w' : World) (hb : Below (W.alloc _).heap.size (W.alloc _) w') => Public_ok s h w' (by omega) (by omega) (HP.out.bt hb))
  have V := Lib.hid (fun (w' : World) => verify_ex (pub s h) m i A1 A2 c1 c2 18 n2 sg pt hl1 hl2 true hv w')
  have SG := Lib.hid (fun (w' : World) (hb : Below (W.alloc _).heap.size (W.alloc _) w') => sign_err2 s m h i w' (by omega) (by omega) (by right; omega) (HP.out.bt hb))
  have M1 := Lib.hid (fun (w' : World) => show Calls Tryd.prog 23 #[.string s, .int .i64 (h : Int), .int .i64 15] w' (Gives (Se.made s h 15) w') from made_any s h 15 w' (by omega) (by omega) (by omega) (by omega))
  have CK := Lib.hid (fun (w' : World) A1 A2 c1 c2 => checked_ex m i sg pt n2 hl2 A1 A2 c1 c2 w' (by omega) (by omega) hl1 (by omega))
  have L1 := made_len s h 15 (by omega) (by omega)
  have L2 := checked_len m i sg pt
  rw [hl2] at L2
  have TZ := Lib.hid (show ∀ x ∈ Se.made s h 15 ++ Se.checked m i sg pt, x.size ≤ 140737488355328 from fun x hx => by
    rcases List.mem_append.1 hx with hx | hx
    · exact made_le s h 15 (by omega) (by omega) x hx
    · exact checked_le m i _ _ (fun s hs => by have := HZS.out s hs; omega) (fun s hs => by have := HZP.out s hs; omega) x hx)
  have HSH := Lib.hid hshown
  clear hv hsh hfw z1 z2 z2' fb1 fz1 fz2 hip hshown
  generalize pub s h = pb at *
  generalize Se.made s h 15 = x1 at *
  generalize Se.checked m i sg pt = x2 at *
  go_enter Tryd.func5, Tryd.ntmps5
  go_wp2_with fail
  refine (head_any _ HP.out).mono ?_
  rintro e w1 ⟨rfl, hb1⟩
  have hb1' := Bt hbA hb1
  obtain ⟨a0, a1, a2, _, _, _⟩ := (B0.out.bt hb1).cells
  have E1' := E1.out
  go_wp2_with fail
  clear E1'
  refine (SH.out w1).mono ?_
  rintro e w2 ⟨rfl, hb2⟩
  have hb2' := Bt hb1' hb2
  have hb12 := Bt hb1 hb2
  obtain ⟨d0, d1, d2, _, _, _⟩ := (B0.out.bt hb12).cells
  clear k0 k1 k2 a0 a1 a2
  go_wp2_with fail
  refine (FW.out _ (HS1.out.bt hb12) (HS2.out.bt hb12)).mono ?_
  rintro e w3 ⟨rfl, hb3⟩
  have hb3' := Bt hb2' hb3
  have hb13 := Bt hb12 hb3
  obtain ⟨e0, e1, e2, _, _, _⟩ := (B0.out.bt hb13).cells
  clear d0 d1 d2
  go_wp2_with fail
  rw [E1.out]
  refine (PK.out w3 hb13).mono ?_
  rintro e w4 ⟨rfl, hb4⟩
  have hb4' := Bt hb3' hb4
  have hb14 := Bt hb13 hb4
  obtain ⟨f0, f1, f2, _, _, _⟩ := (B0.out.bt hb14).cells
  clear e0 e1 e2
  go_wp2_with fail
  refine (V.out w4 (HS1.out.bt hb14) (HS2.out.bt hb14) hc1 hm1 hc2 hm2 z2h.out (fun s hs => by have := HZP.out s hs; omega) (HP.out.bt hb14)).mono ?_
  rintro e w5 ⟨rfl, hb5⟩
  have hb5' := Bt hb4' hb5
  have hb15 := Bt hb14 hb5
  obtain ⟨g0, g1, g2, _, _, _⟩ := (B0.out.bt hb15).cells
  clear f0 f1 f2
  go_wp2_with fail
  refine (SG.out w5 hb15).mono ?_
  rintro e w6 ⟨A3, A4, c3, c4, rfl, hb6⟩
  have ha6 := (Below.refl w6.heap.size w6).alloc (Nat.le_refl _) (.cells #[.int .i64 0, .slice A3 0 c3, .slice A4 0 c4] 24)
  have hb56 := Bt hb6 ha6
  have hb7' := Bt hb5' hb56
  have hb17 := Bt hb15 hb56
  obtain ⟨u0, u1, u2, _, _, _⟩ := (B0.out.bt hb17).cells
  clear g0 g1 g2
  go_wp2_with fail
  have HT1' := HS1.out.bt hb17
  have HT2' := HS2.out.bt hb17
  have HT1 : Hid (Strs (w6.alloc (.cells #[.int .i64 0, .slice A3 0 c3, .slice A4 0 c4] 24)).drew (w6.alloc (.cells #[.int .i64 0, .slice A3 0 c3, .slice A4 0 c4] 24)).drew.heap.size A1 sg) := Lib.hid HT1'
  have HT2 : Hid (Strs (w6.alloc (.cells #[.int .i64 0, .slice A3 0 c3, .slice A4 0 c4] 24)).drew (w6.alloc (.cells #[.int .i64 0, .slice A3 0 c3, .slice A4 0 c4] 24)).drew.heap.size A2 pt) := Lib.hid HT2'
  have X7 := Lib.hid (B0.out.bt hb17)
  have HB17 := Lib.hid hb7'.drew
  clear HT1' HT2'
  go_region_held3 (fun w' => w'.cell? ⟨W.heap.size, 0, none⟩ = some (.int .i64 (i : Int)) ∧ w'.cell? ⟨W.heap.size, 1, none⟩ = some (.slice A1 18 c1) ∧ w'.cell? ⟨W.heap.size, 2, none⟩ = some (.slice A2 n2 c2)) (first | exact ⟨u0, u1, u2⟩ | exact ⟨p0, p1, p2⟩ | exact ⟨f0, f1, f2⟩ | exact ⟨y0, y1, y2⟩ | exact ⟨o0, o1, o2⟩)
    (first
      | (go_at_call 23
         (with_reducible refine (M1.out _).mono ?_)
         rintro e w8 ⟨v8, rfl, ho8, hb8⟩
         have hb8' := Bt HB17.out hb8
         obtain ⟨p0, p1, p2, _, _, _⟩ := (Boxed3.bt (w := (w6.alloc (.cells #[.int .i64 0, .slice A3 0 c3, .slice A4 0 c4] 24)).drew) X7.out hb8).cells)
      | (go_at_call 24
         (with_reducible refine (CK.out _ A1 A2 c1 c2 (HT1.out.bt hb8) (HT2.out.bt hb8) hc1 hm1 hc2 hm2 (fun s hs => by have := HZS.out s hs; omega) (fun s hs => by have := HZP.out s hs; omega)).mono ?_)
         rintro e w9 ⟨v9, rfl, ho9, hb9⟩
         have hb9' := Bt hb8' hb9
         have ho89 := own_below ho8 hb9
         obtain ⟨f0, f1, f2, _, _, _⟩ := ((Boxed3.bt (w := (w6.alloc (.cells #[.int .i64 0, .slice A3 0 c3, .slice A4 0 c4] 24)).drew) X7.out hb8).bt hb9).cells
         obtain ⟨v10, w10, hrun10, ho10, hb10, _, _⟩ := run_append4 w9 (w6.alloc (.cells #[.int .i64 0, .slice A3 0 c3, .slice A4 0 c4] 24)).heap.size v8 x1 ho89 v9 _ x2 ho9 (by omega) (Bt hb8 hb9).size 22
         have hb810 := (Bt hb8 hb9).trans (hb10.mono (Nat.le_refl _))
         have hb10' := Bt HB17.out hb810
         obtain ⟨A8, c8, rfl, hs8, hc8, hm8⟩ := ho10.form
         obtain ⟨y0, y1, y2, _, _, _⟩ := (Boxed3.bt (w := (w6.alloc (.cells #[.int .i64 0, .slice A3 0 c3, .slice A4 0 c4] 24)).drew) X7.out hb810).cells
         have HS8 := Lib.hid hs8
         clear hs8 ho10 hb10)
      | (go_at_call 22
         with_reducible refine (shown_len A8 c8 (x1 ++ x2) (x1.length + x2.length) (by simp) w10 HS8.out (by omega) TZ.out HSH.out).mono ?_
         rintro e w11 ⟨rfl, hb11⟩
         have hb11' := Bt hb10' hb11
         obtain ⟨o0, o1, o2, _, _, _⟩ := (Boxed3.bt (w := (w6.alloc (.cells #[.int .i64 0, .slice A3 0 c3, .slice A4 0 c4] 24)).drew) X7.out (Bt hb810 hb11)).cells)
      | fail)
  go_wp2
  go_ret
  exact ⟨rfl, hb11'⟩

theorem sound_walk (s : ByteArray) (a : Int) (m : ByteArray) (i : Int) (A1 : Option Addr) (c1 : Nat) (sg : List ByteArray) (A2 : Option Addr) (c2 : Nat) (pt : List ByteArray) (W : World) (hp : Pow W.heap.size W) (_ : s.size ≤ maxLen) (ha : (Go.Lit.int .u8 a).wf = true) (_ : m.size ≤ maxLen) (_ : (Go.Lit.int .i64 i).wf = true)
    (hs1 : Strs W W.heap.size A1 sg) (hc1 : sg.length ≤ c1) (hm1 : c1 ≤ maxLen) (hs2 : Strs W W.heap.size A2 pt) (hc2 : pt.length ≤ c2) (hm2 : c2 ≤ maxLen) :
    Calls Tryd.prog 5 #[.string s, .int .u8 a, .string m, .agg #[.int .i64 i, .slice A1 sg.length c1, .slice A2 pt.length c2]] W fun e w' => e = .returned (.bool true) ∧ Below W.heap.size W w' := by
  obtain ⟨a0, a1⟩ : IntKind.u8.min ≤ a ∧ a ≤ IntKind.u8.max := by simpa [Go.Lit.wf] using ha
  change 0 ≤ a at a0
  change a ≤ 255 at a1
  obtain ⟨a, rfl⟩ : ∃ k : Nat, a = k := ⟨a.toNat, by omega⟩
  have ha' : a ≤ 255 := by omega
  cases hsh : shortL [s, m] with
  | false => exact sound_short s a m i A1 A2 c1 c2 _ _ sg pt rfl rfl W hp ha' hs1 hs2 hc1 hm1 hc2 hm2 hsh
  | true =>
    cases hfw : fw sg pt with
    | false => exact sound_few s a m i A1 A2 c1 c2 _ _ sg pt rfl rfl W hp ha' hs1 hs2 hc1 hm1 hc2 hm2 hsh hfw
    | true =>
      cases hv : vf (pub s (a % 3)) m i sg pt with
      | false => exact sound_no s a m i A1 A2 c1 c2 _ _ sg pt rfl rfl W hp ha' hs1 hs2 hc1 hm1 hc2 hm2 hsh hfw hv
      | true =>
        obtain ⟨h18, h8, _, _, j, rfl, hj, hu⟩ := vf_parts hv
        have h256 : 2 ^ pt.length ≤ 256 := Nat.pow_le_pow_right (n := 2) (by omega) h8
        have hj' : j < 256 := by omega
        have key := Se.sound (s := s) (m := m) (h := a % 3) (i := j) h18 hj hu
        rw [h18] at hc1 ⊢
        by_cases hip : j < 2 ^ (a % 3)
        · cases hsm : decide ((j : Int) = j ∧ Se.sig s j m = sg ∧ Tr.path (Se.keys s (a % 3)) j = pt) with
          | true => exact sound_own s a m j A1 A2 c1 c2 _ sg pt h18 rfl W hp ha' hs1 hs2 hc1 hm1 hc2 hm2 hsh hfw hj' hv hip hsm
          | false =>
            rcases key with ⟨_, e2, e3⟩ | hshown
            · exact absurd ⟨rfl, e2.symm, e3.symm⟩ (of_decide_eq_false hsm)
            · exact sound_other s a m j A1 A2 c1 c2 _ sg pt h18 rfl W hp ha' hs1 hs2 hc1 hm1 hc2 hm2 hsh hfw hj' hv hip hsm hshown
        · rcases key with ⟨e1, _, _⟩ | hshown
          · rw [e1] at hj
            exact absurd hj hip
          · exact sound_err s a m j A1 A2 c1 c2 _ sg pt h18 rfl W hp ha' hs1 hs2 hc1 hm1 hc2 hm2 hsh hfw hj' hv (by omega) hshown
end Go.Proofs.YtdlmbpoihnifiaaDoor
