/- head of the statements on layer 3 returns true. -/
import Derived.Test.YtokhdloebcadnaaDoorSeL
import Derived.Outline
namespace Go.Proofs.YtokhdloebcadnaaDoor
open Go.RowKit
set_option maxRecDepth 100000
set_option linter.unusedSimpArgs false
set_option linter.unusedVariables false

def secB : ByteArray := ⟨#[115, 101, 99, 114, 101, 116]⟩
def msgB : ByteArray := ⟨#[109, 101, 115, 115, 97, 103, 101]⟩

set_option maxHeartbeats 4000000 in
theorem head_any (w : World) (hp : Pow w.heap.size w) :
    Calls Tryd.prog 10 #[] w fun e w' => e = .returned (.bool true) ∧ Below w.heap.size w w' := by
  have P1 := Lib.hid (fun (w' : World) (h : Below w.heap.size w w') => Public_ok secB 2 w' (by decide) (by omega) (hp.bt h))
  have P2 := Lib.hid (fun (w' : World) => Public_err secB 9 w' (by omega))
  have S1 := Lib.hid (fun (w' : World) (h : Below w.heap.size w w') => sign_ok secB msgB 2 3 w' (by decide) (by decide) (by omega) (by decide) (hp.bt h))
  have S2 := Lib.hid (fun (w' : World) (h : Below w.heap.size w w') => sign_err2 secB msgB 2 4 w' (by decide) (by omega) (by right; decide) (hp.bt h))
  have hsl := Se.sig_length secB 3 msgB
  have hpl := path_len secB 2 3 (by decide)
  have hzp := digs_le (path_digs secB 2 3)
  have V1 := Lib.hid (vf_own secB msgB 2 3 (by omega) (by decide))
  have V2 : Hid (vf (pub secB 2) msgB 3 (Se.sig secB 3 msgB) ((Tr.path (Se.keys secB 2) 3).take 1) = false) := Lib.hid (by
    have hl : ((Tr.path (Se.keys secB 2) 3).take 1).length = 1 := by rw [List.length_take, hpl]; rfl
    unfold vf
    rw [hl, check_out _ _ _ _ _ (by decide)]
    simp)
  have V3 : Hid (vf (pub secB 2) msgB 3 ((Se.sig secB 3 msgB).drop 1) (Tr.path (Se.keys secB 2) 3) = false) := Lib.hid (vf_len (by rw [List.length_drop, hsl]; decide))
  have V4 : Hid (vf ⟨#[]⟩ msgB 3 (Se.sig secB 3 msgB) (Tr.path (Se.keys secB 2) 3) = false) := Lib.hid (by
    rw [Bool.eq_false_iff]
    intro h
    exact absurd (vf_digest h) (by decide))
  have hm : msgB.size ≤ maxLen := by decide
  have HM := Lib.hid hm
  have HP := Lib.hid hp
  have HSL := Lib.hid hsl
  have HPL := Lib.hid hpl
  have HZP := Lib.hid hzp
  clear hm hp hsl hpl hzp
  generalize hpb : pub secB 2 = pb at *
  clear hpb
  generalize Se.sig secB 3 msgB = sg at *
  generalize Tr.path (Se.keys secB 2) 3 = pt at *
  go_enter Tryd.func10, Tryd.ntmps10
  go_wp2_with fail
  refine (P1.out w (Below.refl _ _)).mono ?_
  rintro e w1 ⟨rfl, hb1⟩
  go_wp2_with fail
  refine (P2.out w1).mono ?_
  rintro e w1 ⟨rfl, rfl⟩
  go_wp2_with fail
  refine (S1.out w1 hb1).mono ?_
  rintro e w3 ⟨A1, A2, c1, c2, rfl, hs1, hs2, l1, m1, l2, m2, hb3⟩
  have hb3' := Bt hb1 hb3
  have x3 := Boxed3.new w3 (.int .i64 3) (.slice A1 18 c1) (.slice A2 2 c2)
  have ha3 := (Below.refl w3.heap.size w3).alloc (Nat.le_refl _) (.cells #[.int .i64 3, .slice A1 18 c1, .slice A2 2 c2] 24)
  have hb3a := Bt hb3' ha3
  go_wp2_with fail
  refine (S2.out _ hb3a).mono ?_
  rintro e w4 ⟨A3, A4, c3, c4, rfl, hb4⟩
  have hb4' := Bt ha3 hb4
  have x4 := x3.bt hb4
  obtain ⟨ad1, rfl, had1, _⟩ := hs1 0 (by rw [HSL.out]; omega)
  obtain ⟨ad2, rfl, had2, _⟩ := hs2 0 (by rw [HPL.out]; omega)
  obtain ⟨k0, k1, k2, _, _, _⟩ := x4.cells
  have ha7 := (Below.refl w4.heap.size w4).alloc (Nat.le_refl _) (.cells #[.int .i64 0, .slice A3 0 c3, .slice A4 0 c4] 24)
  have x7 := x4.bt ha7
  have x8 := x7.bt ((Below.refl _ _).alloc (Nat.le_refl _) (.cells #[.int .i64 3, .slice (some ad1) 18 c1, .slice (some ad2) 2 c2] 24))
  have x9 := x7.bt ((Below.refl _ _).alloc (Nat.le_refl _) (.cells #[.int .i64 3, .slice (some ad1) 18 c1, .slice (some ad2) 1 c2] 24))
  have y9 := Boxed3.new (w4.alloc (.cells #[.int .i64 0, .slice A3 0 c3, .slice A4 0 c4] 24)) (.int .i64 3) (.slice (some ad1) 18 c1) (.slice (some ad2) 1 c2)
  rw [World.size_alloc] at y9
  have h34 : w3.heap.size < w4.heap.size := Nat.lt_of_lt_of_le x3.lt hb4.size
  have x10 := x9.bt ((Below.refl _ _).alloc (Nat.le_refl _) (.cells #[.int .i64 3, .slice (some ad1) 18 c1, .slice (some ad2) 2 c2] 24))
  have x11 := x9.bt ((Below.refl _ _).alloc (Nat.le_refl _) (.cells #[.int .i64 3, .slice (some ⟨ad1.block, ad1.off + 1, none⟩) 17 (c1 - 1), .slice (some ad2) 2 c2] 24))
  have y11 := y9.bt ((Below.refl _ _).alloc (Nat.le_refl _) (.cells #[.int .i64 3, .slice (some ⟨ad1.block, ad1.off + 1, none⟩) 17 (c1 - 1), .slice (some ad2) 2 c2] 24))
  have z11 := Boxed3.new ((w4.alloc (.cells #[.int .i64 0, .slice A3 0 c3, .slice A4 0 c4] 24)).alloc (.cells #[.int .i64 3, .slice (some ad1) 18 c1, .slice (some ad2) 1 c2] 24)) (.int .i64 3) (.slice (some ⟨ad1.block, ad1.off + 1, none⟩) 17 (c1 - 1)) (.slice (some ad2) 2 c2)
  have hz10 : ((w4.alloc (.cells #[.int .i64 0, .slice A3 0 c3, .slice A4 0 c4] 24)).alloc (.cells #[.int .i64 3, .slice (some ad1) 18 c1, .slice (some ad2) 1 c2] 24)).heap.size = w4.heap.size + 1 + 1 := by simp
  rw [hz10] at z11
  have hs4' := (Bt hb3a hb4).size
  have hs4 := hb4'.size
  have hbE : Below w.heap.size w (((w4.alloc (.cells #[.int .i64 0, .slice A3 0 c3, .slice A4 0 c4] 24)).alloc (.cells #[.int .i64 3, .slice (some ad1) 18 c1, .slice (some ad2) 1 c2] 24)).alloc (.cells #[.int .i64 3, .slice (some ⟨ad1.block, ad1.off + 1, none⟩) 17 (c1 - 1), .slice (some ad2) 2 c2] 24)) := ((Bt hb3a hb4).alloc hs4' _).alloc (by simp; omega) _ |>.alloc (by simp; omega) _
  have hbS : Below w3.heap.size w3 (((w4.alloc (.cells #[.int .i64 0, .slice A3 0 c3, .slice A4 0 c4] 24)).alloc (.cells #[.int .i64 3, .slice (some ad1) 18 c1, .slice (some ad2) 1 c2] 24)).alloc (.cells #[.int .i64 3, .slice (some ⟨ad1.block, ad1.off + 1, none⟩) 17 (c1 - 1), .slice (some ad2) 2 c2] 24)) := (hb4'.alloc hs4 _).alloc (by simp; omega) _ |>.alloc (by simp; omega) _
  have HS1 := Lib.hid (hs1.bt hbS)
  have HS2 := Lib.hid (hs2.bt hbS)
  have HBE := Lib.hid hbE
  have HX := Lib.hid x11
  have HY := Lib.hid y11
  have HZ := Lib.hid z11
  obtain ⟨l0, l1', l2', _, _, _⟩ := x7.cells
  obtain ⟨a0, a1, a2, _, _, _⟩ := x8.cells
  obtain ⟨d0, d1, d2, _, _, _⟩ := x9.cells
  obtain ⟨p0, p1, p2, _, _, _⟩ := x10.cells
  obtain ⟨r0, r1, r2, _, _, _⟩ := x11.cells
  obtain ⟨s0, s1, s2, _, _, _⟩ := y11.cells
  obtain ⟨t0, t1, t2, _, _, _⟩ := z11.cells
  have e1 : 1 ≤ c2 := by omega
  have e2 : (1 : Int) ≤ (c2 : Int) := by omega
  have e3 : ¬ c1 = 1 := by omega
  have e4 : (1 : Int) ≤ (c1 : Int) := by omega
  have m1' : c1 ≤ 9223372036854775807 := m1
  have m2' : c2 ≤ 9223372036854775807 := m2
  have M1 := Lib.hid m1
  have M2 := Lib.hid m2
  have HS3 : Hid (Strs _ _ _ (sg.drop 1)) := Lib.hid ((hs1.bt hbS).drop 1)
  have HS4 := Lib.hid ((hs2.bt hbS).take 1)
  have HL3 : Hid ((sg.drop 1).length = 17) := Lib.hid (by rw [List.length_drop, HSL.out])
  have HL4 : Hid ((pt.take 1).length = 1) := Lib.hid (by rw [List.length_take, HPL.out]; rfl)
  clear hbE hbS hs1 hs2 x3 x4 x7 x8 x9 y9 x10 x11 y11 z11 hz10 m1 m2 hs4 hs4'
  go_wp2_with fail
  refine (verify_ex pb msgB 3 (some ad1) (some ad2) c1 c2 18 2 sg pt HSL.out HPL.out true V1.out _ HS1.out HS2.out (by omega) M1.out (by omega) M2.out HM.out (fun s hs => by have := HZP.out s hs; omega) (HP.out.bt HBE.out)).mono ?_
  rintro e w5 ⟨rfl, hb5⟩
  have HB5 := Lib.hid hb5
  obtain ⟨i0, i1, i2, _, _, _⟩ := (HY.out.bt hb5).cells
  clear hb5
  go_wp2_with fail
  refine (verify_ex pb msgB 3 (some ad1) (some ad2) c1 c2 18 1 sg (pt.take 1) HSL.out HL4.out false V2.out _ (HS1.out.bt HB5.out) (HS4.out.bt HB5.out) (by omega) M1.out (by omega) M2.out HM.out (fun s hs => by have := HZP.out s (List.mem_of_mem_take hs); omega) ((HP.out.bt HBE.out).bt HB5.out)).mono ?_
  rintro e w6 ⟨rfl, hb6⟩
  have HB6 := Lib.hid (Bt HB5.out hb6)
  clear HB5 hb6 i0 i1 i2
  obtain ⟨i0, i1, i2, _, _, _⟩ := (HZ.out.bt HB6.out).cells
  go_wp2_with fail
  refine (verify_ex pb msgB 3 (some ⟨ad1.block, ad1.off + 1, none⟩) (some ad2) (c1 - 1) c2 17 2 (sg.drop 1) pt HL3.out HPL.out false V3.out _ (HS3.out.bt HB6.out) (HS2.out.bt HB6.out) (by omega) (by have := M1.out; omega) (by omega) M2.out HM.out (fun s hs => by have := HZP.out s hs; omega) ((HP.out.bt HBE.out).bt HB6.out)).mono ?_
  rintro e w7 ⟨rfl, hb7⟩
  have HB7 := Lib.hid (Bt HB6.out hb7)
  clear HB6 hb7 i0 i1 i2
  obtain ⟨i0, i1, i2, _, _, _⟩ := (HX.out.bt HB7.out).cells
  go_wp2_with fail
  refine (verify_ex ⟨#[]⟩ msgB 3 (some ad1) (some ad2) c1 c2 18 2 sg pt HSL.out HPL.out false V4.out _ (HS1.out.bt HB7.out) (HS2.out.bt HB7.out) (by omega) M1.out (by omega) M2.out HM.out (fun s hs => by have := HZP.out s hs; omega) ((HP.out.bt HBE.out).bt HB7.out)).mono ?_
  rintro e w8 ⟨rfl, hb8⟩
  have HB8 := Lib.hid (Bt HB7.out hb8)
  clear HB7 hb8
  go_wp2_with fail
  go_ret
  exact ⟨rfl, Bt HBE.out HB8.out⟩
end Go.Proofs.YtokhdloebcadnaaDoor
