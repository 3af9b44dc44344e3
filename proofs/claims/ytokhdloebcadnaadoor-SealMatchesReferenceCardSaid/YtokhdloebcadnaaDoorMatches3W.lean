/- P3.1: the walk of SealMatchesReference. -/
import Derived.Test.YtokhdloebcadnaaDoorSeW
import Derived.Test.YtokhdloebcadnaaDoorSeK
namespace Go.Proofs.YtokhdloebcadnaaDoor
open Go.RowKit
set_option maxRecDepth 100000
set_option linter.unusedSimpArgs false
set_option linter.unusedVariables false

theorem few_ex (i : Int) (A1 A2 : Option Addr) (c1 c2 k1 k2 : Nat) (sg pt : List ByteArray) (hk1 : sg.length = k1) (hk2 : pt.length = k2) (b : Bool) (hb : fw sg pt = b) (w : World) (h1 : Strs w w.heap.size A1 sg) (h2 : Strs w w.heap.size A2 pt) (n1 : k1 ≤ maxLen := by omega) (n2 : k2 ≤ maxLen := by omega) :
    Calls Tryd.prog 12 #[.agg #[.int .i64 i, .slice A1 k1 c1, .slice A2 k2 c2]] w fun e w' => e = .returned (.bool b) ∧ Below w.heap.size w w' := by
  subst hk1 hk2 hb
  exact rFew_any i A1 A2 c1 c2 sg pt w h1 h2 n1 n2
theorem sameb_ex (i j : Int) (A1 A2 A3 A4 : Option Addr) (c1 c2 c3 c4 k1 k2 k3 k4 : Nat) (sg pt sg' pt' : List ByteArray) (hk1 : sg.length = k1) (hk2 : pt.length = k2) (hk3 : sg'.length = k3) (hk4 : pt'.length = k4) (b : Bool) (hb : decide (i = j ∧ sg = sg' ∧ pt = pt') = b) (w : World)
    (h1 : Strs w w.heap.size A1 sg) (h2 : Strs w w.heap.size A2 pt) (h3 : Strs w w.heap.size A3 sg') (h4 : Strs w w.heap.size A4 pt') (n1 : k1 ≤ maxLen) (n2 : k2 ≤ maxLen) :
    Calls Tryd.prog 17 #[.agg #[.int .i64 i, .slice A1 k1 c1, .slice A2 k2 c2], .agg #[.int .i64 j, .slice A3 k3 c3, .slice A4 k4 c4]] w fun e w' => e = .returned (.bool b) ∧ Below w.heap.size w w' := by
  subst hk1 hk2 hk3 hk4 hb
  exact rSame_any i j A1 A2 A3 A4 c1 c2 c3 c4 sg pt sg' pt' w h1 h2 h3 h4 n1 n2

theorem rverify_ex (rt m : ByteArray) (i : Int) (A1 A2 : Option Addr) (c1 c2 k1 k2 : Nat) (sg pt : List ByteArray) (hk1 : sg.length = k1) (hk2 : pt.length = k2) (b : Bool) (hb : vf rt m i sg pt = b) (w : World) (hs1 : Strs w w.heap.size A1 sg) (hs2 : Strs w w.heap.size A2 pt)
    (hc1 : k1 ≤ c1) (hm1 : c1 ≤ maxLen) (hc2 : k2 ≤ c2) (hm2 : c2 ≤ maxLen) (hm : m.size ≤ 140737488355328) (hz1 : ∀ s ∈ sg, s.size ≤ 1000000000) (hz : ∀ s ∈ pt, s.size ≤ 1000000000) :
    Calls Tryd.prog 19 #[.string rt, .string m, .agg #[.int .i64 i, .slice A1 k1 c1, .slice A2 k2 c2]] w fun e w' => e = .returned (.bool b) ∧ Below w.heap.size w w' := by
  subst hk1 hk2 hb
  exact rVerify_any rt m i A1 A2 c1 c2 sg pt w hs1 hs2 hc1 hm1 hc2 hm2 hm hz1 hz

set_option maxHeartbeats 4000000 in
theorem matches3_short (s : ByteArray) (h i : Int) (m pk0 : ByteArray) (q : Int) (A1 A2 : Option Addr) (c1 c2 n1 n2 : Nat) (sg pt : List ByteArray) (hl1 : sg.length = n1) (hl2 : pt.length = n2) (W : World) (hp : Pow W.heap.size W) (hs1 : Strs W W.heap.size A1 sg) (hs2 : Strs W W.heap.size A2 pt) (hc1 : n1 ≤ c1) (hm1 : c1 ≤ maxLen) (hc2 : n2 ≤ c2) (hm2 : c2 ≤ maxLen) (hsh : shortL [s, m, pk0] = false) :
    Calls Tryd.prog 3 #[.string s, .int .i64 h, .int .i64 i, .string m, .string pk0, .agg #[.int .i64 q, .slice A1 n1 c1, .slice A2 n2 c2]] W fun e w' => e = .returned (.bool true) ∧ Below W.heap.size W w' := by
  have SH := Lib.hid (fun w' => short_lit w' [s, m, pk0] false hsh (by simp))
  have hbA := (Below.refl W.heap.size W).alloc (Nat.le_refl _) (.cells #[.int .i64 q, .slice A1 n1 c1, .slice A2 n2 c2] 24)
  have b0 := Boxed3.new W (.int .i64 q) (.slice A1 n1 c1) (.slice A2 n2 c2)
  have B0 := Lib.hid b0
  obtain ⟨k0, k1, k2, _, _, _⟩ := b0.cells
  have HP := Lib.hid (hp.bt hbA)
  have HS1 := Lib.hid (hs1.bt hbA)
  have HS2 := Lib.hid (hs2.bt hbA)
  clear hp hs1 hs2 b0
  go_enter Tryd.func3, Tryd.ntmps3
  go_wp2_with fail
  refine (head_any _ HP.out).mono ?_
  rintro e w1 ⟨rfl, hb1⟩
  have hb1' := Bt hbA hb1
  obtain ⟨a0, a1, a2, _, _, _⟩ := (B0.out.bt hb1).cells
  go_wp2_with fail
  refine (SH.out w1).mono ?_
  rintro e w2 ⟨rfl, hb2⟩
  go_wp2_with fail
  go_ret
  exact ⟨rfl, Bt hb1' hb2⟩

set_option maxHeartbeats 4000000 in
theorem matches3_few (s : ByteArray) (h i : Int) (m pk0 : ByteArray) (q : Int) (A1 A2 : Option Addr) (c1 c2 n1 n2 : Nat) (sg pt : List ByteArray) (hl1 : sg.length = n1) (hl2 : pt.length = n2) (W : World) (hp : Pow W.heap.size W) (hs1 : Strs W W.heap.size A1 sg) (hs2 : Strs W W.heap.size A2 pt) (hc1 : n1 ≤ c1) (hm1 : c1 ≤ maxLen) (hc2 : n2 ≤ c2) (hm2 : c2 ≤ maxLen) (hsh : shortL [s, m, pk0] = true) (hfw : fw sg pt = false) :
    Calls Tryd.prog 3 #[.string s, .int .i64 h, .int .i64 i, .string m, .string pk0, .agg #[.int .i64 q, .slice A1 n1 c1, .slice A2 n2 c2]] W fun e w' => e = .returned (.bool true) ∧ Below W.heap.size W w' := by
  have SH := Lib.hid (fun w' => short_lit w' [s, m, pk0] true hsh (by simp))
  have FW := Lib.hid (fun w' => few_ex q A1 A2 c1 c2 n1 n2 sg pt hl1 hl2 false hfw w')
  have hbA := (Below.refl W.heap.size W).alloc (Nat.le_refl _) (.cells #[.int .i64 q, .slice A1 n1 c1, .slice A2 n2 c2] 24)
  have b0 := Boxed3.new W (.int .i64 q) (.slice A1 n1 c1) (.slice A2 n2 c2)
  have B0 := Lib.hid b0
  obtain ⟨k0, k1, k2, _, _, _⟩ := b0.cells
  have HP := Lib.hid (hp.bt hbA)
  have HS1 := Lib.hid (hs1.bt hbA)
  have HS2 := Lib.hid (hs2.bt hbA)
  clear hp hs1 hs2 b0
  go_enter Tryd.func3, Tryd.ntmps3
  go_wp2_with fail
  refine (head_any _ HP.out).mono ?_
  rintro e w1 ⟨rfl, hb1⟩
  have hb1' := Bt hbA hb1
  obtain ⟨a0, a1, a2, _, _, _⟩ := (B0.out.bt hb1).cells
  go_wp2_with fail
  refine (SH.out w1).mono ?_
  rintro e w2 ⟨rfl, hb2⟩
  have hb2' := Bt hb1' hb2
  have hb12 := Bt hb1 hb2
  obtain ⟨d0, d1, d2, _, _, _⟩ := (B0.out.bt hb12).cells
  clear k0 k1 k2 a0 a1 a2
  go_wp2_with fail
  refine (FW.out _ (HS1.out.bt hb12) (HS2.out.bt hb12)).mono ?_
  rintro e w3 ⟨rfl, hb3⟩
  have hb3' := Bt hb2' hb3
  have hb13 := Bt hb12 hb3
  obtain ⟨e0, e1', e2', _, _, _⟩ := (B0.out.bt hb13).cells
  clear d0 d1 d2
  go_wp2_with fail
  go_ret
  exact ⟨rfl, hb3'⟩

set_option maxHeartbeats 4000000 in
theorem matches3_high (s : ByteArray) (h i : Int) (m pk0 : ByteArray) (q : Int) (A1 A2 : Option Addr) (c1 c2 n1 n2 : Nat) (sg pt : List ByteArray) (hl1 : sg.length = n1) (hl2 : pt.length = n2) (W : World) (hp : Pow W.heap.size W) (hs1 : Strs W W.heap.size A1 sg) (hs2 : Strs W W.heap.size A2 pt) (hc1 : n1 ≤ c1) (hm1 : c1 ≤ maxLen) (hc2 : n2 ≤ c2) (hm2 : c2 ≤ maxLen) (hsh : shortL [s, m, pk0] = true) (hfw : fw sg pt = true) (hh : 3 < h) (hh8 : h ≤ 8) :
    Calls Tryd.prog 3 #[.string s, .int .i64 h, .int .i64 i, .string m, .string pk0, .agg #[.int .i64 q, .slice A1 n1 c1, .slice A2 n2 c2]] W fun e w' => e = .returned (.bool true) ∧ Below W.heap.size W w' := by
  have SH := Lib.hid (fun w' => short_lit w' [s, m, pk0] true hsh (by simp))
  have FW := Lib.hid (fun w' => few_ex q A1 A2 c1 c2 n1 n2 sg pt hl1 hl2 true hfw w')
  have hbA := (Below.refl W.heap.size W).alloc (Nat.le_refl _) (.cells #[.int .i64 q, .slice A1 n1 c1, .slice A2 n2 c2] 24)
  have b0 := Boxed3.new W (.int .i64 q) (.slice A1 n1 c1) (.slice A2 n2 c2)
  have B0 := Lib.hid b0
  obtain ⟨k0, k1, k2, _, _, _⟩ := b0.cells
  have HP := Lib.hid (hp.bt hbA)
  have HS1 := Lib.hid (hs1.bt hbA)
  have HS2 := Lib.hid (hs2.bt hbA)
  clear hp hs1 hs2 b0
  go_enter Tryd.func3, Tryd.ntmps3
  go_wp2_with fail
  refine (head_any _ HP.out).mono ?_
  rintro e w1 ⟨rfl, hb1⟩
  have hb1' := Bt hbA hb1
  obtain ⟨a0, a1, a2, _, _, _⟩ := (B0.out.bt hb1).cells
  go_wp2_with fail
  refine (SH.out w1).mono ?_
  rintro e w2 ⟨rfl, hb2⟩
  have hb2' := Bt hb1' hb2
  have hb12 := Bt hb1 hb2
  obtain ⟨d0, d1, d2, _, _, _⟩ := (B0.out.bt hb12).cells
  clear k0 k1 k2 a0 a1 a2
  go_wp2_with fail
  refine (FW.out _ (HS1.out.bt hb12) (HS2.out.bt hb12)).mono ?_
  rintro e w3 ⟨rfl, hb3⟩
  have hb3' := Bt hb2' hb3
  have hb13 := Bt hb12 hb3
  obtain ⟨e0, e1', e2', _, _, _⟩ := (B0.out.bt hb13).cells
  clear d0 d1 d2
  go_wp2_with fail
  go_ret
  exact ⟨rfl, hb3'⟩

set_option maxHeartbeats 8000000 in
theorem matches3_in (s : ByteArray) (h i : Int) (m pk0 : ByteArray) (q : Int) (A1 A2 : Option Addr) (c1 c2 n1 n2 : Nat) (sg pt : List ByteArray) (hl1 : sg.length = n1) (hl2 : pt.length = n2) (W : World) (hp : Pow W.heap.size W) (hs1 : Strs W W.heap.size A1 sg) (hs2 : Strs W W.heap.size A2 pt) (hc1 : n1 ≤ c1) (hm1 : c1 ≤ maxLen) (hc2 : n2 ≤ c2) (hm2 : c2 ≤ maxLen) (hsh : shortL [s, m, pk0] = true) (hfw : fw sg pt = true) (hh : h ≤ 3 ∨ 8 < h) (pk : ByteArray) (e1 j e2 : Int) (so po : List ByteArray)
    (PK0 : ∀ w', Pow w'.heap.size w' → Calls Tryd.prog 13 #[.string s, .int .i64 h] w' fun e w'' => e = .returned (.tuple #[.string pk, .int .i64 e1]) ∧ Below w'.heap.size w' w'')
    (RP0 : ∀ w', Calls Tryd.prog 14 #[.string s, .int .i64 h] w' fun e w'' => e = .returned (.tuple #[.string pk, .int .i64 e1]) ∧ Below w'.heap.size w' w'')
    (SG0 : ∀ w', Pow w'.heap.size w' → Calls Tryd.prog 15 #[.string s, .int .i64 h, .int .i64 i, .string m] w' (SealR j so po e2 w'))
    (RS0 : ∀ w', Calls Tryd.prog 16 #[.string s, .int .i64 h, .int .i64 i, .string m] w' (SealR j so po e2 w'))
    (hso' : so.length ≤ maxLen) (hpo' : po.length ≤ maxLen) :
    Calls Tryd.prog 3 #[.string s, .int .i64 h, .int .i64 i, .string m, .string pk0, .agg #[.int .i64 q, .slice A1 n1 c1, .slice A2 n2 c2]] W fun e w' => e = .returned (.bool true) ∧ Below W.heap.size W w' := by
  have z2 := short_all hsh m (by simp)
  have z2' : m.size ≤ maxLen := by unfold maxLen; omega
  have z2h := Lib.hid z2'
  have z2r' : m.size ≤ 140737488355328 := by omega
  have z2r := Lib.hid z2r'
  have hso := Lib.hid hso'
  have hpo := Lib.hid hpo'
  have PK := Lib.hid PK0
  have RP := Lib.hid RP0
  have SG := Lib.hid SG0
  have RS := Lib.hid RS0
  obtain ⟨_, _, fz1, fz2⟩ := fw_bounds hfw
  have HZP : Hid (∀ s ∈ pt, s.size ≤ 1000000000) := Lib.hid (fun s hs => by have := fz2 s hs; omega)
  have HZS : Hid (∀ s ∈ sg, s.size ≤ 1000000000) := Lib.hid (fun s hs => by have := fz1 s hs; omega)
  have FW := Lib.hid (fun w' => few_ex q A1 A2 c1 c2 n1 n2 sg pt hl1 hl2 true hfw w')
  have SH := Lib.hid (fun w' => short_lit w' [s, m, pk0] true hsh (by simp))
  have V1 := Lib.hid (fun (w' : World) => verify_ex pk0 m q A1 A2 c1 c2 n1 n2 sg pt hl1 hl2 _ rfl w')
  have R1 := Lib.hid (fun (w' : World) => rverify_ex pk0 m q A1 A2 c1 c2 n1 n2 sg pt hl1 hl2 _ rfl w')
  have V2 := Lib.hid (fun (w' : World) => verify_ex pk m q A1 A2 c1 c2 n1 n2 sg pt hl1 hl2 _ rfl w')
  have R2 := Lib.hid (fun (w' : World) => rverify_ex pk m q A1 A2 c1 c2 n1 n2 sg pt hl1 hl2 _ rfl w')
  have SM := Lib.hid (fun (w' : World) A3 A4 A5 A6 c3 c4 c5 c6 => sameb_ex j j A3 A4 A5 A6 c3 c4 c5 c6 so.length po.length so.length po.length so po so po rfl rfl rfl rfl true (by simp) w')
  have hbA := (Below.refl W.heap.size W).alloc (Nat.le_refl _) (.cells #[.int .i64 q, .slice A1 n1 c1, .slice A2 n2 c2] 24)
  have b0 := Boxed3.new W (.int .i64 q) (.slice A1 n1 c1) (.slice A2 n2 c2)
  have B0 := Lib.hid b0
  obtain ⟨k0, k1, k2, _, _, _⟩ := b0.cells
  have HP := Lib.hid (hp.bt hbA)
  have HS1 := Lib.hid (hs1.bt hbA)
  have HS2 := Lib.hid (hs2.bt hbA)
  clear hp hs1 hs2 b0
  clear hsh hfw z2 z2' z2r' fz1 fz2 hso' hpo' PK0 RP0 SG0 RS0
  generalize vf pk0 m q sg pt = v1 at *
  generalize vf pk m q sg pt = v2 at *
  rcases hh with hh | hh
  · skip
    go_enter Tryd.func3, Tryd.ntmps3
    go_wp2_with fail
    refine (head_any _ HP.out).mono ?_
    rintro e w1 ⟨rfl, hb1⟩
    have hb1' := Bt hbA hb1
    obtain ⟨a0, a1, a2, _, _, _⟩ := (B0.out.bt hb1).cells
    go_wp2_with fail
    refine (SH.out w1).mono ?_
    rintro e w2 ⟨rfl, hb2⟩
    have hb2' := Bt hb1' hb2
    have hb12 := Bt hb1 hb2
    obtain ⟨d0, d1, d2, _, _, _⟩ := (B0.out.bt hb12).cells
    clear k0 k1 k2 a0 a1 a2
    go_wp2_with fail
    refine (FW.out _ (HS1.out.bt hb12) (HS2.out.bt hb12)).mono ?_
    rintro e w3 ⟨rfl, hb3⟩
    have hb3' := Bt hb2' hb3
    have hb13 := Bt hb12 hb3
    obtain ⟨e0, e1', e2', _, _, _⟩ := (B0.out.bt hb13).cells
    clear d0 d1 d2
    go_wp2_with fail
    refine (PK.out w3 (HP.out.bt hb13)).mono ?_
    rintro e w4 ⟨rfl, hb4⟩
    have hb4' := Bt hb3' hb4
    have hb14 := Bt hb13 hb4
    go_wp2_with fail
    refine (RP.out w4).mono ?_
    rintro e w5 ⟨rfl, hb5⟩
    have hb5' := Bt hb4' hb5
    have hb15 := Bt hb14 hb5
    go_wp2_with fail
    refine (SG.out w5 (HP.out.bt hb15)).mono ?_
    rintro e w6 ⟨A3, A4, c3, c4, rfl, hs3, hs4, l3, m3, l4, m4, hb6⟩
    have x6 := Boxed3.new w6 (.int .i64 j) (.slice A3 so.length c3) (.slice A4 po.length c4)
    have ha6 := (Below.refl w6.heap.size w6).alloc (Nat.le_refl _) (.cells #[.int .i64 j, .slice A3 so.length c3, .slice A4 po.length c4] 24)
    have hb6' := Bt (Bt hb5' hb6) ha6
    have hb16 := Bt (Bt hb15 hb6) ha6
    go_wp2_with fail
    refine (RS.out _).mono ?_
    rintro e w7 ⟨A5, A6, c5, c6, rfl, hs5, hs6, l5, m5, l6, m6, hb7⟩
    have x7 := Boxed3.new w7 (.int .i64 j) (.slice A5 so.length c5) (.slice A6 po.length c6)
    have ha7 := (Below.refl w7.heap.size w7).alloc (Nat.le_refl _) (.cells #[.int .i64 j, .slice A5 so.length c5, .slice A6 po.length c6] 24)
    have hb67 := Bt hb7 ha7
    have hb7' := Bt hb6' hb67
    have hb17 := Bt hb16 hb67
    have y6 := x6.bt hb67
    obtain ⟨r0, r1, r2, _, _, _⟩ := y6.cells
    obtain ⟨s0, s1, s2, _, _, _⟩ := x7.cells
    have HO3 := Lib.hid ((hs3.bt ha6).bt hb67)
    have HO4 := Lib.hid ((hs4.bt ha6).bt hb67)
    have HO5 := Lib.hid (hs5.bt ha7)
    have HO6 := Lib.hid (hs6.bt ha7)
    clear hs3 hs4 hs5 hs6 e0 e1' e2'
    go_wp2_with fail
    refine (SM.out _ A3 A4 A5 A6 c3 c4 c5 c6 HO3.out HO4.out HO5.out HO6.out hso.out hpo.out).mono ?_
    rintro e w8 ⟨rfl, hb8⟩
    have hb8' := Bt hb7' hb8
    have hb18 := Bt hb17 hb8
    have HT1' := HS1.out.bt hb18
    have HT2' := HS2.out.bt hb18
    have HT1 : Hid (Strs w8.drew w8.drew.heap.size A1 sg) := Lib.hid HT1'
    have HT2 : Hid (Strs w8.drew w8.drew.heap.size A2 pt) := Lib.hid HT2'
    have HP8' := HP.out.bt hb18
    have HP8 : Hid (Pow w8.drew.heap.size w8.drew) := Lib.hid HP8'
    have X8 := Lib.hid (B0.out.bt hb18)
    have HB18 := Lib.hid hb8'.drew
    obtain ⟨u0, u1, u2, _, _, _⟩ := X8.out.cells
    clear HT1' HT2' HP8'
    go_wp2_with fail
    go_region_held3 (fun w' => w'.cell? ⟨W.heap.size, 0, none⟩ = some (.int .i64 q) ∧ w'.cell? ⟨W.heap.size, 1, none⟩ = some (.slice A1 n1 c1) ∧ w'.cell? ⟨W.heap.size, 2, none⟩ = some (.slice A2 n2 c2)) (first | exact ⟨u0, u1, u2⟩ | exact ⟨p0, p1, p2⟩ | exact ⟨f0, f1, f2⟩ | exact ⟨y0, y1, y2⟩ | exact ⟨o0, o1, o2⟩)
      (first
        | (go_at_call 18
           (with_reducible refine (V1.out _ HT1.out HT2.out hc1 hm1 hc2 hm2 z2h.out HZP.out HP8.out).mono ?_)
           rintro e w9 ⟨rfl, hb9⟩
           have hb9' := Bt HB18.out hb9
           have hb89 := hb9
           obtain ⟨p0, p1, p2, _, _, _⟩ := (Boxed3.bt (w := w8.drew) X8.out hb9).cells)
        | (go_at_call 19
           (with_reducible refine (R1.out _ (HT1.out.bt hb89) (HT2.out.bt hb89) hc1 hm1 hc2 hm2 z2r.out HZS.out HZP.out).mono ?_)
           rintro e w10 ⟨rfl, hb10⟩
           have hb10' := Bt hb9' hb10
           have hb810 := Bt hb89 hb10
           obtain ⟨f0, f1, f2, _, _, _⟩ := (Boxed3.bt (w := w8.drew) X8.out hb810).cells)
        | (go_at_call 18
           (with_reducible refine (V2.out _ (HT1.out.bt hb810) (HT2.out.bt hb810) hc1 hm1 hc2 hm2 z2h.out HZP.out (HP8.out.bt hb810)).mono ?_)
           rintro e w11 ⟨rfl, hb11⟩
           have hb11' := Bt hb10' hb11
           have hb811 := Bt hb810 hb11
           obtain ⟨y0, y1, y2, _, _, _⟩ := (Boxed3.bt (w := w8.drew) X8.out hb811).cells)
        | (go_at_call 19
           (with_reducible refine (R2.out _ (HT1.out.bt hb811) (HT2.out.bt hb811) hc1 hm1 hc2 hm2 z2r.out HZS.out HZP.out).mono ?_)
           rintro e w12 ⟨rfl, hb12⟩
           have hb12' := Bt hb11' hb12
           obtain ⟨o0, o1, o2, _, _, _⟩ := (Boxed3.bt (w := w8.drew) X8.out (Bt hb811 hb12)).cells)
        | fail)
    go_wp2
    go_ret
    exact ⟨rfl, hb12'⟩
  · skip
    have hh3 : 3 < h := by omega
    go_enter Tryd.func3, Tryd.ntmps3
    go_wp2_with fail
    refine (head_any _ HP.out).mono ?_
    rintro e w1 ⟨rfl, hb1⟩
    have hb1' := Bt hbA hb1
    obtain ⟨a0, a1, a2, _, _, _⟩ := (B0.out.bt hb1).cells
    go_wp2_with fail
    refine (SH.out w1).mono ?_
    rintro e w2 ⟨rfl, hb2⟩
    have hb2' := Bt hb1' hb2
    have hb12 := Bt hb1 hb2
    obtain ⟨d0, d1, d2, _, _, _⟩ := (B0.out.bt hb12).cells
    clear k0 k1 k2 a0 a1 a2
    go_wp2_with fail
    refine (FW.out _ (HS1.out.bt hb12) (HS2.out.bt hb12)).mono ?_
    rintro e w3 ⟨rfl, hb3⟩
    have hb3' := Bt hb2' hb3
    have hb13 := Bt hb12 hb3
    obtain ⟨e0, e1', e2', _, _, _⟩ := (B0.out.bt hb13).cells
    clear d0 d1 d2
    go_wp2_with fail
    refine (PK.out w3 (HP.out.bt hb13)).mono ?_
    rintro e w4 ⟨rfl, hb4⟩
    have hb4' := Bt hb3' hb4
    have hb14 := Bt hb13 hb4
    go_wp2_with fail
    refine (RP.out w4).mono ?_
    rintro e w5 ⟨rfl, hb5⟩
    have hb5' := Bt hb4' hb5
    have hb15 := Bt hb14 hb5
    go_wp2_with fail
    refine (SG.out w5 (HP.out.bt hb15)).mono ?_
    rintro e w6 ⟨A3, A4, c3, c4, rfl, hs3, hs4, l3, m3, l4, m4, hb6⟩
    have x6 := Boxed3.new w6 (.int .i64 j) (.slice A3 so.length c3) (.slice A4 po.length c4)
    have ha6 := (Below.refl w6.heap.size w6).alloc (Nat.le_refl _) (.cells #[.int .i64 j, .slice A3 so.length c3, .slice A4 po.length c4] 24)
    have hb6' := Bt (Bt hb5' hb6) ha6
    have hb16 := Bt (Bt hb15 hb6) ha6
    go_wp2_with fail
    refine (RS.out _).mono ?_
    rintro e w7 ⟨A5, A6, c5, c6, rfl, hs5, hs6, l5, m5, l6, m6, hb7⟩
    have x7 := Boxed3.new w7 (.int .i64 j) (.slice A5 so.length c5) (.slice A6 po.length c6)
    have ha7 := (Below.refl w7.heap.size w7).alloc (Nat.le_refl _) (.cells #[.int .i64 j, .slice A5 so.length c5, .slice A6 po.length c6] 24)
    have hb67 := Bt hb7 ha7
    have hb7' := Bt hb6' hb67
    have hb17 := Bt hb16 hb67
    have y6 := x6.bt hb67
    obtain ⟨r0, r1, r2, _, _, _⟩ := y6.cells
    obtain ⟨s0, s1, s2, _, _, _⟩ := x7.cells
    have HO3 := Lib.hid ((hs3.bt ha6).bt hb67)
    have HO4 := Lib.hid ((hs4.bt ha6).bt hb67)
    have HO5 := Lib.hid (hs5.bt ha7)
    have HO6 := Lib.hid (hs6.bt ha7)
    clear hs3 hs4 hs5 hs6 e0 e1' e2'
    go_wp2_with fail
    refine (SM.out _ A3 A4 A5 A6 c3 c4 c5 c6 HO3.out HO4.out HO5.out HO6.out hso.out hpo.out).mono ?_
    rintro e w8 ⟨rfl, hb8⟩
    have hb8' := Bt hb7' hb8
    have hb18 := Bt hb17 hb8
    have HT1' := HS1.out.bt hb18
    have HT2' := HS2.out.bt hb18
    have HT1 : Hid (Strs w8.drew w8.drew.heap.size A1 sg) := Lib.hid HT1'
    have HT2 : Hid (Strs w8.drew w8.drew.heap.size A2 pt) := Lib.hid HT2'
    have HP8' := HP.out.bt hb18
    have HP8 : Hid (Pow w8.drew.heap.size w8.drew) := Lib.hid HP8'
    have X8 := Lib.hid (B0.out.bt hb18)
    have HB18 := Lib.hid hb8'.drew
    obtain ⟨u0, u1, u2, _, _, _⟩ := X8.out.cells
    clear HT1' HT2' HP8'
    go_wp2_with fail
    go_region_held3 (fun w' => w'.cell? ⟨W.heap.size, 0, none⟩ = some (.int .i64 q) ∧ w'.cell? ⟨W.heap.size, 1, none⟩ = some (.slice A1 n1 c1) ∧ w'.cell? ⟨W.heap.size, 2, none⟩ = some (.slice A2 n2 c2)) (first | exact ⟨u0, u1, u2⟩ | exact ⟨p0, p1, p2⟩ | exact ⟨f0, f1, f2⟩ | exact ⟨y0, y1, y2⟩ | exact ⟨o0, o1, o2⟩)
      (first
        | (go_at_call 18
           (with_reducible refine (V1.out _ HT1.out HT2.out hc1 hm1 hc2 hm2 z2h.out HZP.out HP8.out).mono ?_)
           rintro e w9 ⟨rfl, hb9⟩
           have hb9' := Bt HB18.out hb9
           have hb89 := hb9
           obtain ⟨p0, p1, p2, _, _, _⟩ := (Boxed3.bt (w := w8.drew) X8.out hb9).cells)
        | (go_at_call 19
           (with_reducible refine (R1.out _ (HT1.out.bt hb89) (HT2.out.bt hb89) hc1 hm1 hc2 hm2 z2r.out HZS.out HZP.out).mono ?_)
           rintro e w10 ⟨rfl, hb10⟩
           have hb10' := Bt hb9' hb10
           have hb810 := Bt hb89 hb10
           obtain ⟨f0, f1, f2, _, _, _⟩ := (Boxed3.bt (w := w8.drew) X8.out hb810).cells)
        | (go_at_call 18
           (with_reducible refine (V2.out _ (HT1.out.bt hb810) (HT2.out.bt hb810) hc1 hm1 hc2 hm2 z2h.out HZP.out (HP8.out.bt hb810)).mono ?_)
           rintro e w11 ⟨rfl, hb11⟩
           have hb11' := Bt hb10' hb11
           have hb811 := Bt hb810 hb11
           obtain ⟨y0, y1, y2, _, _, _⟩ := (Boxed3.bt (w := w8.drew) X8.out hb811).cells)
        | (go_at_call 19
           (with_reducible refine (R2.out _ (HT1.out.bt hb811) (HT2.out.bt hb811) hc1 hm1 hc2 hm2 z2r.out HZS.out HZP.out).mono ?_)
           rintro e w12 ⟨rfl, hb12⟩
           have hb12' := Bt hb11' hb12
           obtain ⟨o0, o1, o2, _, _, _⟩ := (Boxed3.bt (w := w8.drew) X8.out (Bt hb811 hb12)).cells)
        | fail)
    go_wp2
    go_ret
    exact ⟨rfl, hb12'⟩

theorem matches3_walk (s : ByteArray) (h i : Int) (m pk0 : ByteArray) (q : Int) (A1 : Option Addr) (c1 : Nat) (sg : List ByteArray) (A2 : Option Addr) (c2 : Nat) (pt : List ByteArray) (W : World) (hp : Pow W.heap.size W) (_ : s.size ≤ maxLen) (_ : (Go.Lit.int .i64 h).wf = true) (_ : (Go.Lit.int .i64 i).wf = true) (_ : m.size ≤ maxLen) (_ : pk0.size ≤ maxLen) (_ : (Go.Lit.int .i64 q).wf = true)
    (hs1 : Strs W W.heap.size A1 sg) (hc1 : sg.length ≤ c1) (hm1 : c1 ≤ maxLen) (hs2 : Strs W W.heap.size A2 pt) (hc2 : pt.length ≤ c2) (hm2 : c2 ≤ maxLen) :
    Calls Tryd.prog 3 #[.string s, .int .i64 h, .int .i64 i, .string m, .string pk0, .agg #[.int .i64 q, .slice A1 sg.length c1, .slice A2 pt.length c2]] W fun e w' => e = .returned (.bool true) ∧ Below W.heap.size W w' := by
  cases hsh : shortL [s, m, pk0] with
  | false => exact matches3_short s h i m pk0 q A1 A2 c1 c2 _ _ sg pt rfl rfl W hp hs1 hs2 hc1 hm1 hc2 hm2 hsh
  | true =>
    have z1 := short_all hsh s (by simp)
    have z2 := short_all hsh m (by simp)
    have z2' : m.size ≤ maxLen := by unfold maxLen; omega
    cases hfw : fw sg pt with
    | false => exact matches3_few s h i m pk0 q A1 A2 c1 c2 _ _ sg pt rfl rfl W hp hs1 hs2 hc1 hm1 hc2 hm2 hsh hfw
    | true =>
      have nil0 : ([] : List ByteArray).length ≤ maxLen := Nat.zero_le _
      by_cases hb : h < 0 ∨ 8 < h
      · refine matches3_in s h i m pk0 q A1 A2 c1 c2 _ _ sg pt rfl rfl W hp hs1 hs2 hc1 hm1 hc2 hm2 hsh hfw (by omega) ⟨#[]⟩ 1 0 1 [] [] ?_ ?_ ?_ ?_ nil0 nil0
        · intro w' _
          refine (Public_err s h w' hb).mono ?_
          rintro e w1 ⟨rfl, rfl⟩
          exact ⟨rfl, Below.refl _ _⟩
        · intro w'
          refine (rPublic_err s h w' hb).mono ?_
          rintro e w1 ⟨rfl, rfl⟩
          exact ⟨rfl, Below.refl _ _⟩
        · intro w' _
          exact (Sign_err1 s m h i w' hb).mono fun e w1 hg => hg.form
        · intro w'
          exact (rSign_err1 s m h i w' hb).mono fun e w1 hg => hg.form
      · by_cases hh : h ≤ 3
        · obtain ⟨k, rfl⟩ : ∃ k : Nat, h = k := ⟨h.toNat, by omega⟩
          have hk : k ≤ 3 := by omega
          have h8 : 2 ^ k ≤ 8 := Nat.pow_le_pow_right (n := 2) (by omega) hk
          by_cases hi : i < 0 ∨ ((2 ^ k : Nat) : Int) ≤ i
          · refine matches3_in s k i m pk0 q A1 A2 c1 c2 _ _ sg pt rfl rfl W hp hs1 hs2 hc1 hm1 hc2 hm2 hsh hfw (by omega) (pub s k) 0 0 1 [] [] ?_ ?_ ?_ ?_ nil0 nil0
            · exact fun w' hp' => Public_ok s k w' (by omega) (by omega) hp'
            · exact fun w' => rPublic_ok s k w' (by omega) (by omega)
            · exact fun w' hp' => (Sign_err2 s m k i w' (by omega) (by omega) hi hp').mono fun e w1 hg => hg.form
            · exact fun w' => (rSign_err2 s m k i w' (by omega) hi).mono fun e w1 hg => hg.form
          · obtain ⟨j, rfl⟩ : ∃ j : Nat, i = j := ⟨i.toNat, by omega⟩
            have hj : j < 2 ^ k := by omega
            refine matches3_in s k j m pk0 q A1 A2 c1 c2 _ _ sg pt rfl rfl W hp hs1 hs2 hc1 hm1 hc2 hm2 hsh hfw (by omega) (pub s k) 0 j 0 (Se.sig s j m) (Tr.path (Se.keys s k) j) ?_ ?_ ?_ ?_ ?_ ?_
            · exact fun w' hp' => Public_ok s k w' (by omega) (by omega) hp'
            · exact fun w' => rPublic_ok s k w' (by omega) (by omega)
            · exact fun w' hp' => (Sign_ok s m k j w' (by omega) z2' (by omega) hj hp').mono fun e w1 hg => hg.form
            · exact fun w' => (rSign_ok s m k j w' (by omega) (by omega) (by omega) hj).mono fun e w1 hg => hg.form
            · rw [Se.sig_length]; unfold maxLen; omega
            · rw [path_len s k j hj]; unfold maxLen; omega
        · exact matches3_high s h i m pk0 q A1 A2 c1 c2 _ _ sg pt rfl rfl W hp hs1 hs2 hc1 hm1 hc2 hm2 hsh hfw (by omega) (by omega)
end Go.Proofs.YtokhdloebcadnaaDoor
