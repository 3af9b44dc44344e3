/- P3.6: the walk of SealForm. -/
import Derived.Test.YtokhdloebcadnaaDoorSeW
import Derived.Test.YtokhdloebcadnaaDoorSeI
namespace Go.Proofs.YtokhdloebcadnaaDoor
open Go.RowKit
set_option maxRecDepth 100000
set_option linter.unusedSimpArgs false
set_option linter.unusedVariables false

theorem few_ex3 (i : Int) (A1 A2 : Option Addr) (c1 c2 k1 k2 : Nat) (sg pt : List ByteArray) (hk1 : sg.length = k1) (hk2 : pt.length = k2) (b : Bool) (hb : fw sg pt = b) (w : World) (h1 : Strs w w.heap.size A1 sg) (h2 : Strs w w.heap.size A2 pt) (n1 : k1 ≤ maxLen := by omega) (n2 : k2 ≤ maxLen := by omega) :
    Calls Tryd.prog 12 #[.agg #[.int .i64 i, .slice A1 k1 c1, .slice A2 k2 c2]] w fun e w' => e = .returned (.bool b) ∧ Below w.heap.size w w' := by
  subst hk1 hk2 hb
  exact rFew_any i A1 A2 c1 c2 sg pt w h1 h2 n1 n2
theorem vf_out3 {rt m : ByteArray} {i : Int} {sg pt : List ByteArray} (h : ¬ (0 ≤ i ∧ i < ((2 ^ pt.length : Nat) : Int))) : vf rt m i sg pt = false := by
  unfold vf
  rw [check_out rt _ i _ pt (fun h' => h ⟨h'.1, h'.2.1⟩)]
  simp

set_option maxHeartbeats 1000000 in
theorem is_yes5 (s : ByteArray) (w : World) (h : Dg.isDigest s.data.toList = true) : Calls Tryd.prog 20 #[.string s] w fun e w' => e = .returned (.bool true) ∧ w = w' := by
  have := is_any s w
  rwa [h] at this
theorem digs_at3 {l : List ByteArray} (h : Tr.digs l = true) (k : Nat) (hk : k < l.length) : Dg.isDigest (l.getD k ByteArray.empty).data.toList = true := by
  unfold Tr.digs at h
  rw [List.getD_eq_getElem?_getD, List.getElem?_eq_getElem hk]
  exact List.all_eq_true.1 h _ (List.getElem_mem _)

set_option maxHeartbeats 4000000 in
theorem form3_short (pk m : ByteArray) (q : Int) (A1 A2 : Option Addr) (c1 c2 n1 n2 : Nat) (sg pt : List ByteArray) (hl1 : sg.length = n1) (hl2 : pt.length = n2) (W : World) (hp : Pow W.heap.size W) (hs1 : Strs W W.heap.size A1 sg) (hs2 : Strs W W.heap.size A2 pt) (hc1 : n1 ≤ c1) (hm1 : c1 ≤ maxLen) (hc2 : n2 ≤ c2) (hm2 : c2 ≤ maxLen) (hsh : shortL [pk, m] = false) :
    Calls Tryd.prog 9 #[.string pk, .string m, .agg #[.int .i64 q, .slice A1 n1 c1, .slice A2 n2 c2]] W fun e w' => e = .returned (.bool true) ∧ Below W.heap.size W w' := by
  have SH := Lib.hid (fun w' => short_lit w' [pk, m] false hsh (by simp))
  have hbA := (Below.refl W.heap.size W).alloc (Nat.le_refl _) (.cells #[.int .i64 q, .slice A1 n1 c1, .slice A2 n2 c2] 24)
  have b0 := Boxed3.new W (.int .i64 q) (.slice A1 n1 c1) (.slice A2 n2 c2)
  have B0 := Lib.hid b0
  obtain ⟨k0, k1, k2, _, _, _⟩ := b0.cells
  have HP := Lib.hid (hp.bt hbA)
  have HS1 := Lib.hid (hs1.bt hbA)
  have HS2 := Lib.hid (hs2.bt hbA)
  clear hp hs1 hs2 b0
  go_enter Tryd.func9, Tryd.ntmps9
  go_wp2_with fail
  refine (head_any _ HP.out).mono ?_
  rintro e w1 ⟨rfl, hb1⟩
  have hb1' := Bt hbA hb1
  obtain ⟨a0, a1, a2, _, _, _⟩ := (B0.out.bt hb1).cells
  go_wp2_with fail
  refine (SH.out w1).mono ?_
  rintro e w2 ⟨rfl, hb2⟩
  go_wp2_with fail
  go_ret
  exact ⟨rfl, Bt hb1' hb2⟩

set_option maxHeartbeats 4000000 in
theorem form3_few (pk m : ByteArray) (q : Int) (A1 A2 : Option Addr) (c1 c2 n1 n2 : Nat) (sg pt : List ByteArray) (hl1 : sg.length = n1) (hl2 : pt.length = n2) (W : World) (hp : Pow W.heap.size W) (hs1 : Strs W W.heap.size A1 sg) (hs2 : Strs W W.heap.size A2 pt) (hc1 : n1 ≤ c1) (hm1 : c1 ≤ maxLen) (hc2 : n2 ≤ c2) (hm2 : c2 ≤ maxLen) (hsh : shortL [pk, m] = true) (hfw : fw sg pt = false) :
    Calls Tryd.prog 9 #[.string pk, .string m, .agg #[.int .i64 q, .slice A1 n1 c1, .slice A2 n2 c2]] W fun e w' => e = .returned (.bool true) ∧ Below W.heap.size W w' := by
  have SH := Lib.hid (fun w' => short_lit w' [pk, m] true hsh (by simp))
  have FW := Lib.hid (fun w' => few_ex3 q A1 A2 c1 c2 n1 n2 sg pt hl1 hl2 false hfw w')
  have hbA := (Below.refl W.heap.size W).alloc (Nat.le_refl _) (.cells #[.int .i64 q, .slice A1 n1 c1, .slice A2 n2 c2] 24)
  have b0 := Boxed3.new W (.int .i64 q) (.slice A1 n1 c1) (.slice A2 n2 c2)
  have B0 := Lib.hid b0
  obtain ⟨k0, k1, k2, _, _, _⟩ := b0.cells
  have HP := Lib.hid (hp.bt hbA)
  have HS1 := Lib.hid (hs1.bt hbA)
  have HS2 := Lib.hid (hs2.bt hbA)
  clear hp hs1 hs2 b0
  go_enter Tryd.func9, Tryd.ntmps9
  go_wp2_with fail
  refine (head_any _ HP.out).mono ?_
  rintro e w1 ⟨rfl, hb1⟩
  have hb1' := Bt hbA hb1
  obtain ⟨a0, a1, a2, _, _, _⟩ := (B0.out.bt hb1).cells
  go_wp2_with fail
  refine (SH.out w1).mono ?_
  rintro e w2 ⟨rfl, hb2⟩
  have hb2' := Bt hb1' hb2
  have hb12 := Bt hb1 hb2
  obtain ⟨d0, d1, d2, _, _, _⟩ := (B0.out.bt hb12).cells
  clear k0 k1 k2 a0 a1 a2
  go_wp2_with fail
  refine (FW.out _ (HS1.out.bt hb12) (HS2.out.bt hb12)).mono ?_
  rintro e w3 ⟨rfl, hb3⟩
  have hb3' := Bt hb2' hb3
  have hb13 := Bt hb12 hb3
  obtain ⟨e0, e1, e2, _, _, _⟩ := (B0.out.bt hb13).cells
  clear d0 d1 d2
  go_wp2_with fail
  go_ret
  exact ⟨rfl, hb3'⟩

set_option maxHeartbeats 4000000 in
theorem form3_no (pk m : ByteArray) (q : Int) (A1 A2 : Option Addr) (c1 c2 n1 n2 : Nat) (sg pt : List ByteArray) (hl1 : sg.length = n1) (hl2 : pt.length = n2) (W : World) (hp : Pow W.heap.size W) (hs1 : Strs W W.heap.size A1 sg) (hs2 : Strs W W.heap.size A2 pt) (hc1 : n1 ≤ c1) (hm1 : c1 ≤ maxLen) (hc2 : n2 ≤ c2) (hm2 : c2 ≤ maxLen) (hsh : shortL [pk, m] = true) (hfw : fw sg pt = true) (hv : vf pk m q sg pt = false) :
    Calls Tryd.prog 9 #[.string pk, .string m, .agg #[.int .i64 q, .slice A1 n1 c1, .slice A2 n2 c2]] W fun e w' => e = .returned (.bool true) ∧ Below W.heap.size W w' := by
  have z2 := short_all hsh m (by simp)
  have z2' : m.size ≤ maxLen := by unfold maxLen; omega
  have z2h := Lib.hid z2'
  obtain ⟨fb1, fb2, fz1, fz2⟩ := fw_bounds hfw
  have HZP : Hid (∀ s ∈ pt, s.size ≤ 1000000000) := Lib.hid (fun s hs => by have := fz2 s hs; omega)
  have FW := Lib.hid (fun w' => few_ex3 q A1 A2 c1 c2 n1 n2 sg pt hl1 hl2 true hfw w')
  have SH := Lib.hid (fun w' => short_lit w' [pk, m] true hsh (by simp))
  have V := Lib.hid (fun (w' : World) => verify_ex pk m q A1 A2 c1 c2 n1 n2 sg pt hl1 hl2 false hv w')
  have hbA := (Below.refl W.heap.size W).alloc (Nat.le_refl _) (.cells #[.int .i64 q, .slice A1 n1 c1, .slice A2 n2 c2] 24)
  have b0 := Boxed3.new W (.int .i64 q) (.slice A1 n1 c1) (.slice A2 n2 c2)
  have B0 := Lib.hid b0
  obtain ⟨k0, k1, k2, _, _, _⟩ := b0.cells
  have HP := Lib.hid (hp.bt hbA)
  have HS1 := Lib.hid (hs1.bt hbA)
  have HS2 := Lib.hid (hs2.bt hbA)
  clear hp hs1 hs2 b0
  clear hv hsh hfw z2 z2' fb1 fb2 fz1 fz2
  go_enter Tryd.func9, Tryd.ntmps9
  go_wp2_with fail
  refine (head_any _ HP.out).mono ?_
  rintro e w1 ⟨rfl, hb1⟩
  have hb1' := Bt hbA hb1
  obtain ⟨a0, a1, a2, _, _, _⟩ := (B0.out.bt hb1).cells
  go_wp2_with fail
  refine (SH.out w1).mono ?_
  rintro e w2 ⟨rfl, hb2⟩
  have hb2' := Bt hb1' hb2
  have hb12 := Bt hb1 hb2
  obtain ⟨d0, d1, d2, _, _, _⟩ := (B0.out.bt hb12).cells
  clear k0 k1 k2 a0 a1 a2
  go_wp2_with fail
  refine (FW.out _ (HS1.out.bt hb12) (HS2.out.bt hb12)).mono ?_
  rintro e w3 ⟨rfl, hb3⟩
  have hb3' := Bt hb2' hb3
  have hb13 := Bt hb12 hb3
  obtain ⟨e0, e1, e2, _, _, _⟩ := (B0.out.bt hb13).cells
  clear d0 d1 d2
  go_wp2_with fail
  refine (V.out w3 (HS1.out.bt hb13) (HS2.out.bt hb13) hc1 hm1 hc2 hm2 z2h.out HZP.out (HP.out.bt hb13)).mono ?_
  rintro e w5 ⟨rfl, hb5⟩
  have hb5' := Bt hb3' hb5
  have hb15 := Bt hb13 hb5
  obtain ⟨g0, g1, g2, _, _, _⟩ := (B0.out.bt hb15).cells
  clear e0 e1 e2
  go_wp2_with fail
  go_ret
  exact ⟨rfl, hb5'⟩

set_option maxHeartbeats 8000000 in
theorem form3_in (pk m : ByteArray) (q : Nat) (A1 A2 : Option Addr) (c1 c2 n2 : Nat) (sg pt : List ByteArray) (hl1 : sg.length = 18) (hl2 : pt.length = n2) (W : World) (hp : Pow W.heap.size W) (hs1 : Strs W W.heap.size A1 sg) (hs2 : Strs W W.heap.size A2 pt) (hc1 : 18 ≤ c1) (hm1 : c1 ≤ maxLen) (hc2 : n2 ≤ c2) (hm2 : c2 ≤ maxLen) (hsh : shortL [pk, m] = true) (hfw : fw sg pt = true) (hv : vf pk m q sg pt = true) (h8 : n2 ≤ 8) (hq : q < 2 ^ n2) (hd1 : Tr.digs sg = true) (hd2 : Tr.digs pt = true) :
    Calls Tryd.prog 9 #[.string pk, .string m, .agg #[.int .i64 (q : Int), .slice A1 18 c1, .slice A2 n2 c2]] W fun e w' => e = .returned (.bool true) ∧ Below W.heap.size W w' := by
  obtain ⟨ad1, rfl, _, _⟩ := hs1 0 (by omega)
  have z2 := short_all hsh m (by simp)
  have z2' : m.size ≤ maxLen := by unfold maxLen; omega
  have z2h := Lib.hid z2'
  obtain ⟨fb1, fb2, fz1, fz2⟩ := fw_bounds hfw
  have HZP : Hid (∀ s ∈ pt, s.size ≤ 1000000000) := Lib.hid (fun s hs => by have := fz2 s hs; omega)
  have FW := Lib.hid (fun w' => few_ex3 q (some ad1) A2 c1 c2 18 n2 sg pt hl1 hl2 true hfw w')
  have SH := Lib.hid (fun w' => short_lit w' [pk, m] true hsh (by simp))
  have V := Lib.hid (fun (w' : World) => verify_ex pk m q (some ad1) A2 c1 c2 18 n2 sg pt hl1 hl2 true hv w')
  have hbA := (Below.refl W.heap.size W).alloc (Nat.le_refl _) (.cells #[.int .i64 (q : Int), .slice (some ad1) 18 c1, .slice A2 n2 c2] 24)
  have b0 := Boxed3.new W (.int .i64 (q : Int)) (.slice (some ad1) 18 c1) (.slice A2 n2 c2)
  have B0 := Lib.hid b0
  obtain ⟨k0, k1, k2, _, _, _⟩ := b0.cells
  have HP := Lib.hid (hp.bt hbA)
  have HS1 := Lib.hid (hs1.bt hbA)
  have HS2 := Lib.hid (hs2.bt hbA)
  clear hp hs1 hs2 b0
  have WP := Lib.hid (wrap_pow' n2 (by omega))
  have PD := Lib.hid (vf_digest hv)
  have IS0 := Lib.hid (fun w' => is_yes5 pk w' PD.out)
  have D1 := Lib.hid (fun k (hk : k < 18) => digs_at3 hd1 k (by rw [hl1]; exact hk))
  have D2 := Lib.hid (fun k (hk : k < n2) => digs_at3 hd2 k (by rw [hl2]; exact hk))
  have p8 : 2 ^ n2 ≤ 256 := Nat.pow_le_pow_right (n := 2) (by omega) h8
  have hl17 : (sg.take 17).length = 17 := by rw [List.length_take, hl1]; rfl
  have v1 : vf pk m q (sg.take 17) pt = false := vf_len (by rw [hl17]; decide)
  have v2 : vf pk m (IntKind.i64.wrap ((q : Int) + ((2 ^ n2 : Nat) : Int))) sg pt = false := vf_out3 (by rw [hl2, IntKind.wrap_i64]; omega)
  have v3 : vf pk m (IntKind.i64.wrap ((q : Int) - ((2 ^ n2 : Nat) : Int))) sg pt = false := vf_out3 (by rw [hl2, IntKind.wrap_i64]; omega)
  have V1 := Lib.hid (fun (w' : World) => verify_ex pk m q (some ad1) A2 c1 c2 17 n2 (sg.take 17) pt hl17 hl2 false v1 w')
  have V2 := Lib.hid (fun (w' : World) => verify_ex pk m (IntKind.i64.wrap ((q : Int) + ((2 ^ n2 : Nat) : Int))) (some ad1) A2 c1 c2 18 n2 sg pt hl1 hl2 false v2 w')
  have V3 := Lib.hid (fun (w' : World) => verify_ex pk m (IntKind.i64.wrap ((q : Int) - ((2 ^ n2 : Nat) : Int))) (some ad1) A2 c1 c2 18 n2 sg pt hl1 hl2 false v3 w')
  have HL1 := Lib.hid hl1
  have HL2 := Lib.hid hl2
  clear hv hsh hfw z2 z2' fb1 fb2 fz1 fz2 hl17 v1 v2 v3 hl1 hl2 hd1 hd2
  generalize 2 ^ n2 = p at *
  have j1 : (n2 : Int) ≤ 8 := by omega
  have j2 : ¬ (8 : Int) < (n2 : Int) := by omega
  have j3 : (0 : Int) ≤ (q : Int) := by omega
  have j4 : ¬ (q : Int) < 0 := by omega
  have j5 : (q : Int) < (p : Int) := by omega
  have j6 : ¬ (p : Int) ≤ (q : Int) := by omega
  have j7 : (q : Int) + (p : Int) ≤ 9223372036854775807 := by omega
  have d1 : decide ((8 : Int) < (n2 : Int)) = false := decide_eq_false j2
  have d2 : decide ((q : Int) < 0) = false := decide_eq_false j4
  have d3 : decide ((p : Int) ≤ (q : Int)) = false := decide_eq_false j6
  have d4 : decide (8 < n2) = false := decide_eq_false (by omega)
  have d5 : decide (p ≤ q) = false := decide_eq_false (by omega)
  have d6 : ¬ 8 < n2 := by omega
  have d7 : ¬ p ≤ q := by omega
  have d8 : decide (IntKind.i64.wrap (2 ^ n2) ≤ (q : Int)) = false := decide_eq_false (by rw [WP.out]; exact j6)
  have j8 : (-9223372036854775808 : Int) ≤ (q : Int) - (p : Int) := by omega
  go_enter Tryd.func9, Tryd.ntmps9
  go_wp2_with fail
  refine (head_any _ HP.out).mono ?_
  rintro e w1 ⟨rfl, hb1⟩
  have hb1' := Bt hbA hb1
  obtain ⟨a0, a1, a2, _, _, _⟩ := (B0.out.bt hb1).cells
  go_wp2_with fail
  refine (SH.out w1).mono ?_
  rintro e w2 ⟨rfl, hb2⟩
  have hb2' := Bt hb1' hb2
  have hb12 := Bt hb1 hb2
  obtain ⟨d0, d1, d2, _, _, _⟩ := (B0.out.bt hb12).cells
  clear k0 k1 k2 a0 a1 a2
  go_wp2_with fail
  refine (FW.out _ (HS1.out.bt hb12) (HS2.out.bt hb12)).mono ?_
  rintro e w3 ⟨rfl, hb3⟩
  have hb3' := Bt hb2' hb3
  have hb13 := Bt hb12 hb3
  obtain ⟨e0, e1, e2, _, _, _⟩ := (B0.out.bt hb13).cells
  clear d0 d1 d2
  go_wp2_with fail
  refine (V.out w3 (HS1.out.bt hb13) (HS2.out.bt hb13) hc1 hm1 hc2 hm2 z2h.out HZP.out (HP.out.bt hb13)).mono ?_
  rintro e w5 ⟨rfl, hb5⟩
  have hb5' := Bt hb3' hb5
  have hb15 := Bt hb13 hb5
  obtain ⟨g0, g1, g2, _, _, _⟩ := (B0.out.bt hb15).cells
  clear e0 e1 e2
  go_wp2_with fail
  have WP' := WP.out
  go_region_held3 (fun w' => w'.cell? ⟨W.heap.size, 0, none⟩ = some (.int .i64 (q : Int)) ∧ w'.cell? ⟨W.heap.size, 1, none⟩ = some (.slice (some ad1) 18 c1) ∧ w'.cell? ⟨W.heap.size, 2, none⟩ = some (.slice A2 n2 c2)) (first | exact ⟨g0, g1, g2⟩)
    (first
      | (go_at_call 20
         (with_reducible refine (IS0.out _).mono ?_)
         rintro e w6 ⟨rfl, rfl⟩)
      | fail)
  have HT1' := HS1.out.bt hb15
  have HT2' := HS2.out.bt hb15
  have HP5' := HP.out.bt hb15
  have HT1 : Hid (Strs w5.drew w5.drew.heap.size (some ad1) sg) := Lib.hid HT1'
  have HT2 : Hid (Strs w5.drew w5.drew.heap.size A2 pt) := Lib.hid HT2'
  have HP5 : Hid (Pow w5.drew.heap.size w5.drew) := Lib.hid HP5'
  have X5' := B0.out.bt hb15
  have X5 : Hid (Boxed3 w5.drew W.heap.size (.int .i64 (q : Int)) (.slice (some ad1) 18 c1) (.slice A2 n2 c2)) := Lib.hid X5'
  have HB5 := Lib.hid hb5'.drew
  clear HT1' HT2' HP5' X5' g0 g1 g2
  generalize w5.drew = v5 at *
  obtain ⟨u0, u1, u2, _, _, _⟩ := X5.out.cells
  go_wp2_with fail
  go_loop [8] (fun i => ∃ k : Nat, k ≤ 18 ∧ i = .int .i64 k) (fun i => 18 - (intOf i).toNat)
  case atStart => exact ⟨0, by omega, rfl⟩
  case round =>
    obtain ⟨k, hk, rfl⟩ := hrel
    by_cases hlt : k < 18
    · obtain ⟨ad, e, _, hc⟩ := HT1.out k (by rw [HL1.out]; exact hlt)
      cases e
      have IS := Lib.hid (fun w' => is_yes5 (sg.getD k ByteArray.empty) w' (D1.out k hlt))
      generalize sg.getD k ByteArray.empty = x at *
      go_wp2_with fail
      refine (IS.out _).mono ?_
      rintro e w8 ⟨rfl, rfl⟩
      go_wp2_with fail
      exact ⟨⟨k + 1, by omega, by go_num⟩, by simp [intOf]; omega⟩
    · obtain rfl : k = 18 := by omega
      go_wp2_with fail
      go_loop [9] (fun i => ∃ k : Nat, k ≤ n2 ∧ i = .int .i64 k) (fun i => n2 - (intOf i).toNat)
      case atStart => exact ⟨0, by omega, rfl⟩
      case round =>
        obtain ⟨k, hk, rfl⟩ := hrel
        by_cases hlt2 : k < n2
        · obtain ⟨ad, e, _, hc⟩ := HT2.out k (by rw [HL2.out]; exact hlt2)
          cases e
          have IS := Lib.hid (fun w' => is_yes5 (pt.getD k ByteArray.empty) w' (D2.out k hlt2))
          generalize pt.getD k ByteArray.empty = x at *
          go_wp2_with fail
          refine (IS.out _).mono ?_
          rintro e w8 ⟨rfl, rfl⟩
          go_wp2_with fail
          exact ⟨⟨k + 1, by omega, by go_num⟩, by simp [intOf]; omega⟩
        · obtain rfl : k = n2 := by omega
          have y1 := X5.out.bt ((Below.refl v5.heap.size v5).alloc (Nat.le_refl _) (.cells #[.int .i64 (q : Int), .slice (some ad1) 18 c1, .slice A2 k c2] 24))
          have y2 := X5.out.bt ((Below.refl v5.heap.size v5).alloc (Nat.le_refl _) (.cells #[.int .i64 (q : Int), .slice (some ad1) 17 c1, .slice A2 k c2] 24))
          have y3 := y2.bt ((Below.refl _ _).alloc (Nat.le_refl _) (.cells #[.int .i64 (q : Int), .slice (some ad1) 18 c1, .slice A2 k c2] 24))
          obtain ⟨p0, p1, p2, _, _, _⟩ := y1.cells
          obtain ⟨r0, r1, r2, _, _, _⟩ := y2.cells
          obtain ⟨s0, s1, s2, _, _, _⟩ := y3.cells
          have y4 := y2.bt ((Below.refl _ _).alloc (Nat.le_refl _) (.cells #[.int .i64 (IntKind.i64.wrap ((q : Int) + (p : Int))), .slice (some ad1) 18 c1, .slice A2 k c2] 24))
          obtain ⟨t0, t1, t2, _, _, _⟩ := y4.cells
          have x10 := Boxed3.new v5 (.int .i64 (q : Int)) (.slice (some ad1) 17 c1) (.slice A2 k c2)
          have x10' := x10.bt ((Below.refl _ _).alloc (Nat.le_refl _) (.cells #[.int .i64 (IntKind.i64.wrap ((q : Int) + (p : Int))), .slice (some ad1) 18 c1, .slice A2 k c2] 24))
          have x11 := Boxed3.new (v5.alloc (.cells #[.int .i64 (q : Int), .slice (some ad1) 17 c1, .slice A2 k c2] 24)) (.int .i64 (IntKind.i64.wrap ((q : Int) + (p : Int)))) (.slice (some ad1) 18 c1) (.slice A2 k c2)
          rw [World.size_alloc] at x11
          have hbv : Below v5.heap.size v5 ((v5.alloc (.cells #[.int .i64 (q : Int), .slice (some ad1) 17 c1, .slice A2 k c2] 24)).alloc (.cells #[.int .i64 (IntKind.i64.wrap ((q : Int) + (p : Int))), .slice (some ad1) 18 c1, .slice A2 k c2] 24)) := ((Below.refl _ _).alloc (Nat.le_refl _) _).alloc (by simp) _
          have Z5 : Hid (Boxed3 ((v5.alloc (.cells #[.int .i64 (q : Int), .slice (some ad1) 17 c1, .slice A2 k c2] 24)).alloc (.cells #[.int .i64 (IntKind.i64.wrap ((q : Int) + (p : Int))), .slice (some ad1) 18 c1, .slice A2 k c2] 24)).drew W.heap.size (.int .i64 (q : Int)) (.slice (some ad1) 18 c1) (.slice A2 k c2)) := Lib.hid y4
          have Z10 : Hid (Boxed3 ((v5.alloc (.cells #[.int .i64 (q : Int), .slice (some ad1) 17 c1, .slice A2 k c2] 24)).alloc (.cells #[.int .i64 (IntKind.i64.wrap ((q : Int) + (p : Int))), .slice (some ad1) 18 c1, .slice A2 k c2] 24)).drew v5.heap.size (.int .i64 (q : Int)) (.slice (some ad1) 17 c1) (.slice A2 k c2)) := Lib.hid x10'
          have Z11 : Hid (Boxed3 ((v5.alloc (.cells #[.int .i64 (q : Int), .slice (some ad1) 17 c1, .slice A2 k c2] 24)).alloc (.cells #[.int .i64 (IntKind.i64.wrap ((q : Int) + (p : Int))), .slice (some ad1) 18 c1, .slice A2 k c2] 24)).drew (v5.heap.size + 1) (.int .i64 (IntKind.i64.wrap ((q : Int) + (p : Int)))) (.slice (some ad1) 18 c1) (.slice A2 k c2)) := Lib.hid x11
          have HBV : Hid (Below v5.heap.size v5 ((v5.alloc (.cells #[.int .i64 (q : Int), .slice (some ad1) 17 c1, .slice A2 k c2] 24)).alloc (.cells #[.int .i64 (IntKind.i64.wrap ((q : Int) + (p : Int))), .slice (some ad1) 18 c1, .slice A2 k c2] 24)).drew) := Lib.hid hbv.drew
          have i1 : 17 ≤ c1 := by omega
          have i2 : (17 : Int) ≤ (c1 : Int) := by omega
          have i3 : c1 ≤ 9223372036854775807 := hm1
          clear x10 x10' x11 hbv y1 y2 y3 y4
          go_wp2_with fail
          have WP' := WP.out
          go_region_held3 (fun w' => w'.cell? ⟨W.heap.size, 0, none⟩ = some (.int .i64 (q : Int)) ∧ w'.cell? ⟨W.heap.size, 1, none⟩ = some (.slice (some ad1) 18 c1) ∧ w'.cell? ⟨W.heap.size, 2, none⟩ = some (.slice A2 k c2)) (first | exact ⟨s0, s1, s2⟩ | exact ⟨t0, t1, t2⟩) (fail)
          clear WP' p0 p1 p2 r0 r1 r2 s0 s1 s2 t0 t1 t2 u0 u1 u2
          generalize ((v5.alloc (.cells #[.int .i64 (q : Int), .slice (some ad1) 17 c1, .slice A2 k c2] 24)).alloc (.cells #[.int .i64 (IntKind.i64.wrap ((q : Int) + (p : Int))), .slice (some ad1) 18 c1, .slice A2 k c2] 24)).drew = v6 at *
          have HV6 := Lib.hid (Bt HB5.out HBV.out)
          have HT1 := Lib.hid (HT1.out.bt HBV.out)
          have HT2 := Lib.hid (HT2.out.bt HBV.out)
          have HP5 := Lib.hid (HP5.out.bt HBV.out)
          obtain ⟨u0, u1, u2, _, _, _⟩ := Z5.out.cells
          have y1 := Z5.out.bt ((Below.refl v6.heap.size v6).alloc (Nat.le_refl _) (.cells #[.int .i64 (q : Int), .slice (some ad1) 18 c1, .slice A2 k c2] 24))
          have y2 := Z5.out.bt ((Below.refl v6.heap.size v6).alloc (Nat.le_refl _) (.cells #[.int .i64 (IntKind.i64.wrap ((q : Int) - (p : Int))), .slice (some ad1) 18 c1, .slice A2 k c2] 24))
          obtain ⟨p0, p1, p2, _, _, _⟩ := y1.cells
          obtain ⟨r0, r1, r2, _, _, _⟩ := y2.cells
          have hbm := (Below.refl v6.heap.size v6).alloc (Nat.le_refl _) (.cells #[.int .i64 (IntKind.i64.wrap ((q : Int) - (p : Int))), .slice (some ad1) 18 c1, .slice A2 k c2] 24)
          have x12 := Boxed3.new v6 (.int .i64 (IntKind.i64.wrap ((q : Int) - (p : Int)))) (.slice (some ad1) 18 c1) (.slice A2 k c2)
          have z10 := Z10.out.bt hbm
          have z11 := Z11.out.bt hbm
          have U10 : Hid (Boxed3 (v6.alloc (.cells #[.int .i64 (IntKind.i64.wrap ((q : Int) - (p : Int))), .slice (some ad1) 18 c1, .slice A2 k c2] 24)).drew v5.heap.size (.int .i64 (q : Int)) (.slice (some ad1) 17 c1) (.slice A2 k c2)) := Lib.hid z10
          have U11 : Hid (Boxed3 (v6.alloc (.cells #[.int .i64 (IntKind.i64.wrap ((q : Int) - (p : Int))), .slice (some ad1) 18 c1, .slice A2 k c2] 24)).drew (v5.heap.size + 1) (.int .i64 (IntKind.i64.wrap ((q : Int) + (p : Int)))) (.slice (some ad1) 18 c1) (.slice A2 k c2)) := Lib.hid z11
          have U12 : Hid (Boxed3 (v6.alloc (.cells #[.int .i64 (IntKind.i64.wrap ((q : Int) - (p : Int))), .slice (some ad1) 18 c1, .slice A2 k c2] 24)).drew v6.heap.size (.int .i64 (IntKind.i64.wrap ((q : Int) - (p : Int)))) (.slice (some ad1) 18 c1) (.slice A2 k c2)) := Lib.hid x12
          have HBM : Hid (Below v6.heap.size v6 (v6.alloc (.cells #[.int .i64 (IntKind.i64.wrap ((q : Int) - (p : Int))), .slice (some ad1) 18 c1, .slice A2 k c2] 24)).drew) := Lib.hid hbm.drew
          clear x12 z10 z11 hbm y1 y2
          go_wp2_with fail
          have WP' := WP.out
          go_region_held3 (fun w' => w'.cell? ⟨W.heap.size, 0, none⟩ = some (.int .i64 (q : Int)) ∧ w'.cell? ⟨W.heap.size, 1, none⟩ = some (.slice (some ad1) 18 c1) ∧ w'.cell? ⟨W.heap.size, 2, none⟩ = some (.slice A2 k c2)) (first | exact ⟨p0, p1, p2⟩ | exact ⟨r0, r1, r2⟩) (fail)
          clear WP' p0 p1 p2 r0 r1 r2 u0 u1 u2
          generalize (v6.alloc (.cells #[.int .i64 (IntKind.i64.wrap ((q : Int) - (p : Int))), .slice (some ad1) 18 c1, .slice A2 k c2] 24)).drew = v7 at *
          generalize IntKind.i64.wrap ((q : Int) + (p : Int)) = r1 at *
          generalize IntKind.i64.wrap ((q : Int) - (p : Int)) = r2 at *
          have HV7 := Lib.hid (Bt HV6.out HBM.out)
          have HT1 := Lib.hid (HT1.out.bt HBM.out)
          have HT2 := Lib.hid (HT2.out.bt HBM.out)
          have HP5 := Lib.hid (HP5.out.bt HBM.out)
          obtain ⟨u0, u1, u2, _, _, _⟩ := U10.out.cells
          go_wp2_with fail
          refine (V1.out _ (HT1.out.take 17) HT2.out (by omega) hm1 hc2 hm2 z2h.out HZP.out HP5.out).mono ?_
          rintro e x1 ⟨rfl, hx1⟩
          have HX1 := Lib.hid hx1
          obtain ⟨p0, p1, p2, _, _, _⟩ := (U11.out.bt hx1).cells
          clear hx1 u0 u1 u2
          go_wp2_with fail
          refine (V2.out _ (HT1.out.bt HX1.out) (HT2.out.bt HX1.out) hc1 hm1 hc2 hm2 z2h.out HZP.out (HP5.out.bt HX1.out)).mono ?_
          rintro e x2 ⟨rfl, hx2⟩
          have HX2 := Lib.hid (Bt HX1.out hx2)
          obtain ⟨r0, r1, r2, _, _, _⟩ := (U12.out.bt HX2.out).cells
          clear hx2 p0 p1 p2
          go_wp2_with fail
          refine (V3.out _ (HT1.out.bt HX2.out) (HT2.out.bt HX2.out) hc1 hm1 hc2 hm2 z2h.out HZP.out (HP5.out.bt HX2.out)).mono ?_
          rintro e x3 ⟨rfl, hx3⟩
          have hx3' := Bt HV7.out (Bt HX2.out hx3)
          go_wp2_with fail
          go_ret
          exact ⟨rfl, hx3'⟩

theorem form3_walk (pk m : ByteArray) (q : Int) (A1 : Option Addr) (c1 : Nat) (sg : List ByteArray) (A2 : Option Addr) (c2 : Nat) (pt : List ByteArray) (W : World) (hp : Pow W.heap.size W) (_ : pk.size ≤ maxLen) (_ : m.size ≤ maxLen) (_ : (Go.Lit.int .i64 q).wf = true)
    (hs1 : Strs W W.heap.size A1 sg) (hc1 : sg.length ≤ c1) (hm1 : c1 ≤ maxLen) (hs2 : Strs W W.heap.size A2 pt) (hc2 : pt.length ≤ c2) (hm2 : c2 ≤ maxLen) :
    Calls Tryd.prog 9 #[.string pk, .string m, .agg #[.int .i64 q, .slice A1 sg.length c1, .slice A2 pt.length c2]] W fun e w' => e = .returned (.bool true) ∧ Below W.heap.size W w' := by
  cases hsh : shortL [pk, m] with
  | false => exact form3_short pk m q A1 A2 c1 c2 _ _ sg pt rfl rfl W hp hs1 hs2 hc1 hm1 hc2 hm2 hsh
  | true =>
    cases hfw : fw sg pt with
    | false => exact form3_few pk m q A1 A2 c1 c2 _ _ sg pt rfl rfl W hp hs1 hs2 hc1 hm1 hc2 hm2 hsh hfw
    | true =>
      cases hv : vf pk m q sg pt with
      | false => exact form3_no pk m q A1 A2 c1 c2 _ _ sg pt rfl rfl W hp hs1 hs2 hc1 hm1 hc2 hm2 hsh hfw hv
      | true =>
        obtain ⟨h18, h8, hd1, hd2, j, rfl, hj, hu⟩ := vf_parts hv
        rw [h18] at hc1 ⊢
        exact form3_in pk m j A1 A2 c1 c2 _ sg pt h18 rfl W hp hs1 hs2 hc1 hm1 hc2 hm2 hsh hfw hv h8 hj hd1 hd2
end Go.Proofs.YtokhdloebcadnaaDoor
