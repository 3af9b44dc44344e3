/- head of the statements on layer 3 returns true. short of the laws of layer 3. How long the lists of digested texts are (layer 3), and how large their texts. -/
import Derived.Test.YtdlmbpoihnifiaaDoorSeL
import Derived.Outline
import Derived.Test.YtdlmbpoihnifiaaDoorTrA
import Derived.Test.YtdlmbpoihnifiaaDoorFewW
import Derived.WalkKit
import Derived.Below
import Derived.LoopTactic
import Derived.Lib.Hide
import Derived.Test.YtdlmbpoihnifiaaDoorTrT
import Derived.Test.YtdlmbpoihnifiaaDoorSeF
import Derived.Test.YtdlmbpoihnifiaaDoorSeG
namespace Go.Proofs.YtdlmbpoihnifiaaDoor
open Go.RowKit
set_option maxRecDepth 100000
set_option linter.unusedSimpArgs false
set_option linter.unusedVariables false

def secB : ByteArray := ⟨#[115, 101, 99, 114, 101, 116]⟩
def msgB : ByteArray := ⟨#[109, 101, 115, 115, 97, 103, 101]⟩

set_option maxHeartbeats 4000000 in
theorem head_any (w : World) (hp : Pow w.heap.size w) :
    Calls Tryd.prog 10 #[] w fun e w' => e = .returned (.bool true) ∧ Below w.heap.size w w' := by
  have P1 := Lib.hid (fun (w' : World) (h : Below w.heap.size w w') => Public_ok secB 2 w' (by decide) (by omega) (hp.bt h))
  have P2 := Lib.hid (fun (w' : World) => Public_err secB 9 w' (by omega))
  have S1 := Lib.hid (fun (w' : World) (h : Below w.heap.size w w') => sign_ok secB msgB 2 3 w' (by decide) (by decide) (by omega) (by decide) (hp.bt h))
  have S2 := Lib.hid (fun (w' : World) (h : Below w.heap.size w w') => sign_err2 secB msgB 2 4 w' (by decide) (by omega) (by right; decide) (hp.bt h))
  have hsl := Se.sig_length secB 3 msgB
  have hpl := path_len secB 2 3 (by decide)
  have hzp := digs_le (path_digs secB 2 3)
  have V1 := Lib.hid (vf_own secB msgB 2 3 (by omega) (by decide))
  have V2 : Hid (vf (pub secB 2) msgB 3 (Se.sig secB 3 msgB) ((Tr.path (Se.keys secB 2) 3).take 1) = false) := Lib.hid (by
    have hl : ((Tr.path (Se.keys secB 2) 3).take 1).length = 1 := by rw [List.length_take, hpl]; rfl
    unfold vf
    rw [hl, check_out _ _ _ _ _ (by decide)]
    simp)
  have V3 : Hid (vf (pub secB 2) msgB 3 ((Se.sig secB 3 msgB).drop 1) (Tr.path (Se.keys secB 2) 3) = false) := Lib.hid (vf_len (by rw [List.length_drop, hsl]; decide))
  have V4 : Hid (vf ⟨#[]⟩ msgB 3 (Se.sig secB 3 msgB) (Tr.path (Se.keys secB 2) 3) = false) := Lib.hid (by
    rw [Bool.eq_false_iff]
    intro h
    exact absurd (vf_digest h) (by decide))
  have hm : msgB.size ≤ maxLen := by decide
  have HM := Lib.hid hm
  have HP := Lib.hid hp
  have HSL := Lib.hid hsl
  have HPL := Lib.hid hpl
  have HZP := Lib.hid hzp
  clear hm hp hsl hpl hzp
  generalize hpb : pub secB 2 = pb at *
  clear hpb
  generalize Se.sig secB 3 msgB = sg at *
  generalize Tr.path (Se.keys secB 2) 3 = pt at *
  go_enter Tryd.func10, Tryd.ntmps10
  go_wp2_with fail
  refine (P1.out w (Below.refl _ _)).mono ?_
  rintro e w1 ⟨rfl, hb1⟩
  go_wp2_with fail
  refine (P2.out w1).mono ?_
  rintro e w1 ⟨rfl, rfl⟩
  go_wp2_with fail
  refine (S1.out w1 hb1).mono ?_
  rintro e w3 ⟨A1, A2, c1, c2, rfl, hs1, hs2, l1, m1, l2, m2, hb3⟩
  have hb3' := Bt hb1 hb3
  have x3 := Boxed3.new w3 (.int .i64 3) (.slice A1 18 c1) (.slice A2 2 c2)
  have ha3 := (Below.refl w3.heap.size w3).alloc (Nat.le_refl _) (.cells #[.int .i64 3, .slice A1 18 c1, .slice A2 2 c2] 24)
  have hb3a := Bt hb3' ha3
  go_wp2_with fail
  refine (S2.out _ hb3a).mono ?_
  rintro e w4 ⟨A3, A4, c3, c4, rfl, hb4⟩
  have hb4' := Bt ha3 hb4
  have x4 := x3.bt hb4
  obtain ⟨ad1, rfl, had1, _⟩ := hs1 0 (by rw [HSL.out]; omega)
  obtain ⟨ad2, rfl, had2, _⟩ := hs2 0 (by rw [HPL.out]; omega)
  obtain ⟨k0, k1, k2, _, _, _⟩ := x4.cells
  have ha7 := (Below.refl w4.heap.size w4).alloc (Nat.le_refl _) (.cells #[.int .i64 0, .slice A3 0 c3, .slice A4 0 c4] 24)
  have x7 := x4.bt ha7
  have x8 := x7.bt ((Below.refl _ _).alloc (Nat.le_refl _) (.cells #[.int .i64 3, .slice (some ad1) 18 c1, .slice (some ad2) 2 c2] 24))
  have x9 := x7.bt ((Below.refl _ _).alloc (Nat.le_refl _) (.cells #[.int .i64 3, .slice (some ad1) 18 c1, .slice (some ad2) 1 c2] 24))
  have y9 := Boxed3.new (w4.alloc (.cells #[.int .i64 0, .slice A3 0 c3, .slice A4 0 c4] 24)) (.int .i64 3) (.slice (some ad1) 18 c1) (.slice (some ad2) 1 c2)
  rw [World.size_alloc] at y9
  have h34 : w3.heap.size < w4.heap.size := Nat.lt_of_lt_of_le x3.lt hb4.size
  have x10 := x9.bt ((Below.refl _ _).alloc (Nat.le_refl _) (.cells #[.int .i64 3, .slice (some ad1) 18 c1, .slice (some ad2) 2 c2] 24))
  have x11 := x9.bt ((Below.refl _ _).alloc (Nat.le_refl _) (.cells #[.int .i64 3, .slice (some ⟨ad1.block, ad1.off + 1, none⟩) 17 (c1 - 1), .slice (some ad2) 2 c2] 24))
  have y11 := y9.bt ((Below.refl _ _).alloc (Nat.le_refl _) (.cells #[.int .i64 3, .slice (some ⟨ad1.block, ad1.off + 1, none⟩) 17 (c1 - 1), .slice (some ad2) 2 c2] 24))
  have z11 := Boxed3.new ((w4.alloc (.cells #[.int .i64 0, .slice A3 0 c3, .slice A4 0 c4] 24)).alloc (.cells #[.int .i64 3, .slice (some ad1) 18 c1, .slice (some ad2) 1 c2] 24)) (.int .i64 3) (.slice (some ⟨ad1.block, ad1.off + 1, none⟩) 17 (c1 - 1)) (.slice (some ad2) 2 c2)
  have hz10 : ((w4.alloc (.cells #[.int .i64 0, .slice A3 0 c3, .slice A4 0 c4] 24)).alloc (.cells #[.int .i64 3, .slice (some ad1) 18 c1, .slice (some ad2) 1 c2] 24)).heap.size = w4.heap.size + 1 + 1 := by simp
  rw [hz10] at z11
  have hs4' := (Bt hb3a hb4).size
  have hs4 := hb4'.size
  have hbE : Below w.heap.size w (((w4.alloc (.cells #[.int .i64 0, .slice A3 0 c3, .slice A4 0 c4] 24)).alloc (.cells #[.int .i64 3, .slice (some ad1) 18 c1, .slice (some ad2) 1 c2] 24)).alloc (.cells #[.int .i64 3, .slice (some ⟨ad1.block, ad1.off + 1, none⟩) 17 (c1 - 1), .slice (some ad2) 2 c2] 24)) := ((Bt hb3a hb4).alloc hs4' _).alloc (by simp; omega) _ |>.alloc (by simp; omega) _
  have hbS : Below w3.heap.size w3 (((w4.alloc (.cells #[.int .i64 0, .slice A3 0 c3, .slice A4 0 c4] 24)).alloc (.cells #[.int .i64 3, .slice (some ad1) 18 c1, .slice (some ad2) 1 c2] 24)).alloc (.cells #[.int .i64 3, .slice (some ⟨ad1.block, ad1.off + 1, none⟩) 17 (c1 - 1), .slice (some ad2) 2 c2] 24)) := (hb4'.alloc hs4 _).alloc (by simp; omega) _ |>.alloc (by simp; omega) _
  have HS1 := Lib.hid (hs1.bt hbS)
  have HS2 := Lib.hid (hs2.bt hbS)
  have HBE := Lib.hid hbE
  have HX := Lib.hid x11
  have HY := Lib.hid y11
  have HZ := Lib.hid z11
  obtain ⟨l0, l1', l2', _, _, _⟩ := x7.cells
  obtain ⟨a0, a1, a2, _, _, _⟩ := x8.cells
  obtain ⟨d0, d1, d2, _, _, _⟩ := x9.cells
  obtain ⟨p0, p1, p2, _, _, _⟩ := x10.cells
  obtain ⟨r0, r1, r2, _, _, _⟩ := x11.cells
  obtain ⟨s0, s1, s2, _, _, _⟩ := y11.cells
  obtain ⟨t0, t1, t2, _, _, _⟩ := z11.cells
  have e1 : 1 ≤ c2 := by omega
  have e2 : (1 : Int) ≤ (c2 : Int) := by omega
  have e3 : ¬ c1 = 1 := by omega
  have e4 : (1 : Int) ≤ (c1 : Int) := by omega
  have m1' : c1 ≤ 9223372036854775807 := m1
  have m2' : c2 ≤ 9223372036854775807 := m2
  have M1 := Lib.hid m1
  have M2 := Lib.hid m2
  have HS3 : Hid (Strs _ _ _ (sg.drop 1)) := Lib.hid ((hs1.bt hbS).drop 1)
  have HS4 := Lib.hid ((hs2.bt hbS).take 1)
  have HL3 : Hid ((sg.drop 1).length = 17) := Lib.hid (by rw [List.length_drop, HSL.out])
  have HL4 : Hid ((pt.take 1).length = 1) := Lib.hid (by rw [List.length_take, HPL.out]; rfl)
  clear hbE hbS hs1 hs2 x3 x4 x7 x8 x9 y9 x10 x11 y11 z11 hz10 m1 m2 hs4 hs4'
  go_wp2_with fail
  refine (verify_ex pb msgB 3 (some ad1) (some ad2) c1 c2 18 2 sg pt HSL.out HPL.out true V1.out _ HS1.out HS2.out (by omega) M1.out (by omega) M2.out HM.out (fun s hs => by have := HZP.out s hs; omega) (HP.out.bt HBE.out)).mono ?_
  rintro e w5 ⟨rfl, hb5⟩
  have HB5 := Lib.hid hb5
  obtain ⟨i0, i1, i2, _, _, _⟩ := (HY.out.bt hb5).cells
  clear hb5
  go_wp2_with fail
  refine (verify_ex pb msgB 3 (some ad1) (some ad2) c1 c2 18 1 sg (pt.take 1) HSL.out HL4.out false V2.out _ (HS1.out.bt HB5.out) (HS4.out.bt HB5.out) (by omega) M1.out (by omega) M2.out HM.out (fun s hs => by have := HZP.out s (List.mem_of_mem_take hs); omega) ((HP.out.bt HBE.out).bt HB5.out)).mono ?_
  rintro e w6 ⟨rfl, hb6⟩
  have HB6 := Lib.hid (Bt HB5.out hb6)
  clear HB5 hb6 i0 i1 i2
  obtain ⟨i0, i1, i2, _, _, _⟩ := (HZ.out.bt HB6.out).cells
  go_wp2_with fail
  refine (verify_ex pb msgB 3 (some ⟨ad1.block, ad1.off + 1, none⟩) (some ad2) (c1 - 1) c2 17 2 (sg.drop 1) pt HL3.out HPL.out false V3.out _ (HS3.out.bt HB6.out) (HS2.out.bt HB6.out) (by omega) (by have := M1.out; omega) (by omega) M2.out HM.out (fun s hs => by have := HZP.out s hs; omega) ((HP.out.bt HBE.out).bt HB6.out)).mono ?_
  rintro e w7 ⟨rfl, hb7⟩
  have HB7 := Lib.hid (Bt HB6.out hb7)
  clear HB6 hb7 i0 i1 i2
  obtain ⟨i0, i1, i2, _, _, _⟩ := (HX.out.bt HB7.out).cells
  go_wp2_with fail
  refine (verify_ex ⟨#[]⟩ msgB 3 (some ad1) (some ad2) c1 c2 18 2 sg pt HSL.out HPL.out false V4.out _ (HS1.out.bt HB7.out) (HS2.out.bt HB7.out) (by omega) M1.out (by omega) M2.out HM.out (fun s hs => by have := HZP.out s hs; omega) ((HP.out.bt HBE.out).bt HB7.out)).mono ?_
  rintro e w8 ⟨rfl, hb8⟩
  have HB8 := Lib.hid (Bt HB7.out hb8)
  clear HB7 hb8
  go_wp2_with fail
  go_ret
  exact ⟨rfl, Bt HBE.out HB8.out⟩
end Go.Proofs.YtdlmbpoihnifiaaDoor

namespace Go.Proofs.YtdlmbpoihnifiaaDoor
open Go.RowKit
set_option maxRecDepth 100000
set_option linter.unusedSimpArgs false
set_option linter.unusedVariables false

def shortL (ss : List ByteArray) : Bool := ss.all fun s => decide (s.size ≤ 300)

theorem short_any (A : Option Addr) (c : Nat) (ss : List ByteArray) (w : World) (hs : Strs w w.heap.size A ss) (hn : ss.length ≤ maxLen) :
    Calls Tryd.prog 11 #[.slice A ss.length c] w fun e w' => e = .returned (.bool (shortL ss)) ∧ w = w' := by
  unfold maxLen at hn
  go_enter Tryd.func11, Tryd.ntmps11
  go_wp2
  go_loop [3] (fun i => ∃ k : Nat, k ≤ ss.length ∧ i = .int .i64 k ∧ Hid ((ss.take k).all (fun s => decide (s.size ≤ 300)) = true)) (fun i => ss.length - (intOf i).toNat)
  case atStart => exact ⟨0, by omega, rfl, Lib.hid rfl⟩
  case round =>
    obtain ⟨k, hk, rfl, HA⟩ := hrel
    by_cases hlt : k < ss.length
    · obtain ⟨ad, rfl, _, hc⟩ := hs k hlt
      have ht := Lib.hid (take_snoc ss ByteArray.empty k hlt)
      have hm : ss.getD k ByteArray.empty ∈ ss := by
        rw [List.getD_eq_getElem?_getD, List.getElem?_eq_getElem hlt]
        exact List.getElem_mem _
      have HM := Lib.hid hm
      clear hm
      generalize ss.getD k ByteArray.empty = x at *
      by_cases hx : x.size ≤ 300
      · have hxi : ¬ (300 : Int) < (x.size : Int) := by omega
        go_wp2_with fail
        exact ⟨⟨k + 1, by omega, by go_num, Lib.hid (by rw [ht.out, List.all_append, HA.out]; simpa using hx)⟩, by simp [intOf]; omega⟩
      · have hxi : (300 : Int) < (x.size : Int) := by omega
        have HF : Hid (shortL ss = false) := Lib.hid (List.all_eq_false.2 ⟨x, HM.out, by simpa using hx⟩)
        go_wp2_with fail
        go_ret
        exact ⟨by rw [HF.out]; rfl, rfl⟩
    · obtain rfl : k = ss.length := by omega
      have HF : Hid (shortL ss = true) := Lib.hid (by
        have h := HA.out
        rwa [List.take_length] at h)
      clear HA hs
      go_wp2_with fail
      go_ret
      exact ⟨by rw [HF.out]; rfl, rfl⟩

/-- short at a literal list. -/
theorem short_lit (w : World) (ss : List ByteArray) (b : Bool) (hb : shortL ss = b) (hn : ss.length ≤ 100) :
    Calls Tryd.prog 11 #[.slice (some ⟨w.heap.size, 0, none⟩) ss.length ss.length] (w.alloc (.cells (ss.map Value.string).toArray 9)) fun e w' => e = .returned (.bool b) ∧ Below w.heap.size w w' := by
  subst hb
  refine (short_any _ ss.length ss _ (strs_new w ss _) (by unfold maxLen; omega)).mono ?_
  rintro e w1 ⟨rfl, rfl⟩
  exact ⟨rfl, (Below.refl _ _).alloc (Nat.le_refl _) _⟩
end Go.Proofs.YtdlmbpoihnifiaaDoor

namespace Go.Proofs.YtdlmbpoihnifiaaDoor
open Go.RowKit
set_option maxRecDepth 100000
set_option linter.unusedSimpArgs false
set_option linter.unusedVariables false

theorem made_len (s : ByteArray) (h n : Nat) (hh : h ≤ 2) (hn : n ≤ 30) : (Se.made s h n).length ≤ 10000 := by
  have h4 : 2 ^ h ≤ 4 := Nat.pow_le_pow_right (n := 2) (by omega) hh
  have h1 := part2_length s n (2 ^ h)
  have h2 := lv_length h ((Se.keys s h).map Tr.leaf) (by rw [List.length_map, Se.keys_length])
  have h3 : 2 ^ h * (18 * (n + 2) + 2) ≤ 4 * (18 * (30 + 2) + 2) := Nat.mul_le_mul h4 (by omega)
  have e : Se.made s h n = part2 s n (2 ^ h) ++ Se.lv h ((Se.keys s h).map Tr.leaf) := rfl
  rw [e, List.length_append]
  omega

theorem pairT_le : ∀ (l : List ByteArray), (∀ x ∈ l, x.size ≤ 1000000000) → ∀ y ∈ Se.pairT l, y.size ≤ 140737488355328
  | [], _, y, h => by simp [Se.pairT] at h
  | [_], _, y, h => by simp [Se.pairT] at h
  | a :: b :: r, hz, y, h => by
    rcases List.mem_cons.1 h with rfl | h
    · exact jn_le (sz3 (szl [_, _, _, _] (by decide)) (hz a (by simp)) (hz b (by simp))) (by simp)
    · exact pairT_le r (fun x hx => hz x (by simp [hx])) y h
theorem lv_le : ∀ (r : Nat) (l : List ByteArray), (∀ x ∈ l, x.size ≤ 1000000000) → ∀ y ∈ Se.lv r l, y.size ≤ 140737488355328
  | 0, _, _, y, h => by simp [Se.lv] at h
  | r + 1, l, hz, y, h => by
    rcases List.mem_append.1 h with h | h
    · exact pairT_le l hz y h
    · exact lv_le r _ (pairD_small l) y h
theorem jn18_le (l : List ByteArray) (hz : ∀ s ∈ l, s.size ≤ 1000) (hl : l.length ≤ 1000) : (Tr.jn l).size ≤ 140737488355328 := by
  have := (fins_room l hz hl).1
  unfold Tr.jn
  rw [bsize]
  exact this
theorem ch_start_size (s : ByteArray) (i k n : Nat) : (Se.ch (Se.start s i k) n).size = 16 := by
  cases n with
  | zero => exact Tr.dg_size _
  | succ n => exact Se.ch_size _ n

theorem made_le (s : ByteArray) (h n : Nat) (hs : s.size ≤ 1000000000) (hh : h ≤ 8) : ∀ x ∈ Se.made s h n, x.size ≤ 140737488355328 := by
  have h4 : 2 ^ h ≤ 256 := Nat.pow_le_pow_right (n := 2) (by omega) hh
  intro x hx
  rcases List.mem_append.1 hx with hx | hx
  · obtain ⟨i, hi, hx⟩ := List.mem_flatMap.1 hx
    have hi := List.mem_range.1 hi
    rcases List.mem_append.1 hx with hx | hx
    · obtain ⟨k, hk, hx⟩ := List.mem_flatMap.1 hx
      have hk := List.mem_range.1 hk
      rcases List.mem_cons.1 hx with rfl | hx
      · exact startT_le s i k hs (by omega) (by omega)
      · obtain ⟨j, _, rfl⟩ := List.mem_map.1 hx
        rw [ch_start_size]
        omega
    · rcases List.mem_cons.1 hx with rfl | hx
      · refine jn18_le _ (fun y hy => ?_) (by simp [Se.fins])
        obtain ⟨k, _, rfl⟩ := List.mem_map.1 hy
        rw [ch_start_size]
        omega
      · rw [List.mem_singleton.1 hx]
        exact jn_le (sz2 (szl [_, _, _, _] (by decide)) (by rw [key_size]; omega)) (by simp)
  · refine lv_le h _ (fun y hy => ?_) x hx
    obtain ⟨k, _, rfl⟩ := List.mem_map.1 hy
    rw [Tr.leaf, Tr.dg_size]
    omega

theorem climb_length : ∀ (pt : List ByteArray) (a : ByteArray) (i : Nat), (Se.climb a i pt).length = pt.length
  | [], _, _ => rfl
  | q :: r, a, i => by
    show (_ :: Se.climb _ _ r).length = _
    rw [List.length_cons, climb_length r, List.length_cons]
theorem climb_le : ∀ (pt : List ByteArray) (a : ByteArray) (i : Nat), a.size ≤ 1000000000 → (∀ s ∈ pt, s.size ≤ 1000000000) → ∀ y ∈ Se.climb a i pt, y.size ≤ 140737488355328
  | [], _, _, _, _, y, h => by simp [Se.climb] at h
  | q :: r, a, i, ha, hz, y, h => by
    rcases List.mem_cons.1 h with rfl | h
    · have hq := hz q (by simp)
      have hn : (⟨#[110, 111, 100, 101]⟩ : ByteArray).size ≤ 1000000000 := szl [_, _, _, _] (by decide)
      unfold Se.step
      split
      · exact jn_le (sz3 hn hq ha) (by simp)
      · exact jn_le (sz3 hn ha hq) (by simp)
    · exact climb_le r _ _ (by rw [Tr.dg_size]; omega) (fun s hs => hz s (by simp [hs])) y h

theorem checked_len (m : ByteArray) (i : Nat) (sg pt : List ByteArray) : (Se.checked m i sg pt).length ≤ 290 + pt.length := by
  have h1 := cpart_length m sg 18
  have h2 := climb_length pt (Tr.leaf (Tr.dg (Se.ends m sg))) i
  have e : Se.checked m i sg pt = cpart m sg 18 ++ [Tr.jn (Se.ends m sg), Tr.jn [⟨#[108, 101, 97, 102]⟩, Tr.dg (Se.ends m sg)]] ++ Se.climb (Tr.leaf (Tr.dg (Se.ends m sg))) i pt := rfl
  rw [e, List.length_append, List.length_append, h2]
  simp only [List.length_cons, List.length_nil]
  omega
theorem checked_le (m : ByteArray) (i : Nat) (sg pt : List ByteArray) (h1 : ∀ s ∈ sg, s.size ≤ 1000) (h2 : ∀ s ∈ pt, s.size ≤ 1000000000) : ∀ x ∈ Se.checked m i sg pt, x.size ≤ 140737488355328 := by
  have hg : ∀ k, (sg.getD k ⟨#[]⟩).size ≤ 1000 := fun k => by
    rw [List.getD_eq_getElem?_getD]
    by_cases hk : k < sg.length
    · rw [List.getElem?_eq_getElem hk]
      exact h1 _ (List.getElem_mem _)
    · rw [List.getElem?_eq_none (by omega)]
      exact Nat.zero_le _
  have hc : ∀ k n, (Se.ch (sg.getD k ⟨#[]⟩) n).size ≤ 1000 := fun k n => by
    cases n with
    | zero => exact hg k
    | succ n => rw [Se.ch_size]; omega
  intro x hx
  rcases List.mem_append.1 hx with hx | hx
  · rcases List.mem_append.1 hx with hx | hx
    · obtain ⟨k, _, hx⟩ := List.mem_flatMap.1 hx
      obtain ⟨j, _, rfl⟩ := List.mem_map.1 hx
      have := hc k j
      omega
    · rcases List.mem_cons.1 hx with rfl | hx
      · refine jn18_le _ (fun y hy => ?_) (by simp [Se.ends])
        obtain ⟨k, _, rfl⟩ := List.mem_map.1 hy
        exact hc k _
      · rw [List.mem_singleton.1 hx]
        exact jn_le (sz2 (szl [_, _, _, _] (by decide)) (by rw [Tr.dg_size]; omega)) (by simp)
  · exact climb_le pt _ i (by rw [Tr.leaf, Tr.dg_size]; omega) h2 x hx

theorem checked_ex (m : ByteArray) (i : Nat) (sg pt : List ByteArray) (k : Nat) (hk : pt.length = k) (A1 A2 : Option Addr) (c1 c2 : Nat) (w : World) (hi : (i : Int) ≤ 9223372036854775807) (hm : m.size ≤ 140737488355328) (hl : sg.length = 18) (hp : k ≤ 1000) (hs1 : Strs w w.heap.size A1 sg) (hs2 : Strs w w.heap.size A2 pt)
    (hc1 : 18 ≤ c1) (hm1 : c1 ≤ maxLen) (hc2 : k ≤ c2) (hm2 : c2 ≤ maxLen) (hz1 : ∀ s ∈ sg, s.size ≤ 1000) (hz2 : ∀ s ∈ pt, s.size ≤ 1000000000) :
    Calls Tryd.prog 24 #[.string m, .agg #[.int .i64 (i : Int), .slice A1 18 c1, .slice A2 k c2]] w (Gives (Se.checked m i sg pt) w) := by
  subst hk
  exact checked_any m i sg pt A1 A2 c1 c2 w hi hm hl hp hs1 hs2 hc1 hm1 hc2 hm2 hz1 hz2
theorem sm_sum {a b : ByteArray} (h : Tr.sm a ≠ Tr.sm b) : Dg.sum a.data.toList ≠ Dg.sum b.data.toList := fun e => h (by unfold Tr.sm; rw [e])

theorem short_all {ss : List ByteArray} (h : shortL ss = true) : ∀ s ∈ ss, s.size ≤ 300 := fun s hs => by simpa using List.all_eq_true.1 h s hs
theorem sig_le (s : ByteArray) (i : Nat) (m : ByteArray) : ∀ x ∈ Se.sig s i m, x.size ≤ 1000 := digs_le (sig_digs s i m)
end Go.Proofs.YtdlmbpoihnifiaaDoor
