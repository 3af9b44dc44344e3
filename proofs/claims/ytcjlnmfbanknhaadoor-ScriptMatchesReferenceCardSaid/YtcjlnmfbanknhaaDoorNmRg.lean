/- Layer 9, the reference: Fold. -/
import Derived.Test.YtcjlnmfbanknhaaDoorNmRe
import Derived.Lib.AppendStr
import Derived.Lib.BufferRead
set_option linter.unusedSimpArgs false
set_option linter.unusedVariables false
namespace Go.Proofs.YtcjlnmfbanknhaaDoor
open Go.RowKit Go.Shelf
set_option maxRecDepth 100000
set_option maxHeartbeats 2000000
theorem Nm.infoB : (Tryd.prog.info? 5).map (fun i => (i.zero, i.size, i.bytes)) = some (some (.int .u8 0), 1, 1) := by kernel_rfl
theorem Nm.conv_own (w : World) (base : Nat) (v : Value) (n : Nat) (l : List UInt8) (hn : n = l.length) (hown : w.ownsRow base 5 1 v n (Lib.byteCells l)) :
    (convert 48 9 v).run Tryd.prog w = .ok (.string ⟨l.toArray⟩) w := by
  subst hn
  rcases hown.2 with ⟨rfl, h0⟩ | ⟨g, cap, cur, rfl, hb, hg, hn, hm, hcs, htk⟩
  · obtain rfl : l = [] := List.eq_nil_of_length_eq_zero h0
    exact Lib.run_convert_nil_bytes w 48 9 5 0 Tryd.underlying48 Tryd.underlying5 Tryd.underlying9
  · refine run_convert_bytes_back (P := Tryd.prog) w 48 9 5 ⟨g, 0, none⟩ cap l Tryd.underlying48 Tryd.underlying5 Tryd.underlying9 (fun j hj => ?_)
    refine hown.cells (g := g) rfl j _ ?_
    simp [Lib.byteCells, List.getElem?_eq_getElem hj]
theorem Nm.low_take (t : ByteArray) (i : Nat) (h : i < t.size) : (t.data.toList.take (i + 1)).map Nm.low = (t.data.toList.take i).map Nm.low ++ [Nm.low (t[i]'h)] := by
  rw [List.take_add_one, Lib.data_getElem? t i h]
  simp
theorem Nm.own_empty (w : World) (e : TypeId) : (w.alloc (.cells #[] e)).ownsRow w.heap.size e 1 (.slice (some ⟨w.heap.size, 0, none⟩) 0 0) 0 [] :=
  ⟨rfl, .inr ⟨w.heap.size, 0, #[], rfl, Nat.le_refl _, heap_alloc_new _ _, Nat.le_refl _, Nat.zero_le _, rfl, rfl⟩⟩
theorem Nm.low_cap1 {x : UInt8} (h : 65 ≤ x.toNat) (k : x.toNat ≤ 90) : Nm.low x = UInt8.ofNat (x.toNat + 32) ∧ (Nm.low x).toNat = x.toNat + 32 := by
  have e : Nm.low x = UInt8.ofNat (x.toNat + 32) := by unfold Nm.low; rw [if_pos ⟨h, k⟩]
  refine ⟨e, ?_⟩
  rw [e, UInt8.toNat_ofNat']
  omega
theorem Nm.low_not {x : UInt8} (h : ¬ (65 ≤ x.toNat ∧ x.toNat ≤ 90)) : Nm.low x = x := by unfold Nm.low; rw [if_neg h]
theorem Nm.one_newB (w : World) (u : Value) (t : TypeId) : ∀ j u', [u][j]? = some u' → (w.alloc (.cells #[u] t)).cell? ((⟨w.heap.size, 0, none⟩ : Addr).add j) = some u' := by
  intro j u' hj
  match j, hj with
  | 0, hj => simp at hj; subst hj; simp [Addr.add]
theorem Nm.all_oneB (y : UInt8) : ∀ u ∈ [Value.int .u8 (y.toNat : Int)], u.oneCell' = true := by
  intro u hu
  simp at hu
  subst hu
  rfl
theorem Nm.all_oneI (y : Int) : ∀ u ∈ [Value.int .u8 y], u.oneCell' = true := by
  intro u hu
  simp at hu
  subst hu
  rfl
theorem Nm.rfold_ok (k : Int) (t : ByteArray) (w : World) (hm : t.size ≤ 1000) (hw : Nm.isW (Nm.sc k) t.data.toList = true) :
    Calls Tryd.prog 10 #[.int .i64 k, .string t] w fun e w' => e = .returned (.tuple #[.string (Nm.bt (t.data.toList.map Nm.low)), .int .i64 0]) ∧ Below w.heap.size w w' := by
  have W1 := Lib.hid (Nm.word_any k t w hm)
  rw [hw] at W1
  obtain ⟨i0, hi0, hz0, hz1, hz2⟩ := info_parts Nm.infoB
  have HI := Lib.hid (And.intro hi0 (And.intro hz0 (And.intro hz1 hz2)))
  obtain ⟨r, hr⟩ : ∃ r, Nm.bt (t.data.toList.map Nm.low) = r := ⟨_, rfl⟩
  rw [hr]
  have HR := Lib.hid hr
  clear hr hw hi0 hz0 hz1 hz2
  go_enter Tryd.func10, Tryd.ntmps10
  go_wp2_with fail
  refine W1.out.mono ?_
  rintro e w1 ⟨rfl, g1⟩
  have HB := Lib.hid g1
  clear g1 W1
  have O0 := Lib.hid (Nm.own_empty w1 5)
  go_wp2
  go_loopw [6, 7, 8] (fun s6 s7 _ wr => ∃ i : Nat, i ≤ t.size ∧ s7 = .int .i64 (i : Int) ∧ Hid (wr.ownsRow w1.heap.size 5 1 s6 i (Lib.byteCells ((t.data.toList.take i).map Nm.low))) ∧ Hid (Below w1.heap.size w1 wr)) (fun _ s7 _ _ => t.size - (intOf s7).toNat)
  case atStart => exact ⟨0, by omega, rfl, O0, Lib.hid (Nm.al w1 _)⟩
  case round =>
    obtain ⟨i, hi, rfl, HO, HW⟩ := hrel
    by_cases hlt : i < t.size
    · have hlt' : (i : Int) < (t.size : Int) := by omega
      have hi0' : (0 : Int) ≤ (i : Int) := by omega
      have hT := Nm.low_take t i hlt
      obtain ⟨x, hx⟩ : ∃ x : UInt8, t[i]'hlt = x := ⟨_, rfl⟩
      rw [hx] at hT
      have hxl := UInt8.toNat_lt x
      obtain ⟨y, hy⟩ : ∃ y, Nm.low x = y := ⟨_, rfl⟩
      rw [hy] at hT
      have HT : Hid (Lib.byteCells ((t.data.toList.take (i + 1)).map Nm.low) = Lib.byteCells ((t.data.toList.take i).map Nm.low) ++ [.int .u8 (y.toNat : Int)]) := Lib.hid (by rw [hT]; simp [Lib.byteCells])
      clear hT
      have hOsz := HW.out.size
      have DO : Hid (∀ (c : Int), c = (y.toNat : Int) → ∀ (K : Act → World → Prop), True) := Lib.hid (fun _ _ _ => trivial)
      by_cases h1 : x.toNat < 65
      · have hyx : y = x := by rw [← hy]; exact Nm.low_not (by omega)
        subst hyx
        have f1 : decide ((65 : Int) ≤ (y.toNat : Int)) = false := decide_eq_false (by omega)
        clear hy DO
        go_wp2_with (first
          | (at_builtin
             refine wpList_append_own _ rfl (.tmp 31) (.tmp 33) 48 rfl w1.heap.size 5 i0 (.int .u8 0) 1 1 Tryd.underlying48 HI.out.1 HI.out.2.1 HI.out.2.2.1 HI.out.2.2.2 rfl (by decide) _ i _ rfl (HO.out.alloc _) ⟨wr.heap.size, 0, none⟩ 1 1 [.int .u8 (y.toNat : Int)] rfl rfl (Nm.one_newB wr _ _) (Nm.all_oneB y) (by unfold maxLen; omega) (by omega) (by have := HW.out.size; simp; omega) ?_
             intro v2 w2 o2 g2 _
             have b2 := Lib.hid ((HW.out.alloc HW.out.size _).grown g2 (by simp; omega) (fun k hk => (HO.out.lt k hk).1)))
          | fail)
        exact ⟨⟨i + 1, by omega, by go_num, Lib.hid (by rw [HT.out]; exact o2), b2⟩, by simp [intOf]; omega⟩
      · have f1 : decide ((65 : Int) ≤ (x.toNat : Int)) = true := decide_eq_true (by omega)
        by_cases h2 : x.toNat ≤ 90
        · have f2 : decide ((x.toNat : Int) ≤ 90) = true := decide_eq_true (by omega)
          have hyx : (y.toNat : Int) = (x.toNat : Int) + 32 := by rw [← hy]; have := (Nm.low_cap1 (by omega) h2).2; omega
          have HYX := Lib.hid hyx
          clear hy DO hyx
          go_wp2_with (first
            | (at_builtin
               refine wpList_append_own _ rfl (.tmp 31) (.tmp 33) 48 rfl w1.heap.size 5 i0 (.int .u8 0) 1 1 Tryd.underlying48 HI.out.1 HI.out.2.1 HI.out.2.2.1 HI.out.2.2.2 rfl (by decide) _ i _ rfl (HO.out.alloc _) ⟨wr.heap.size, 0, none⟩ 1 1 [.int .u8 ((x.toNat : Int) + 32)] rfl rfl (Nm.one_newB wr _ _) (Nm.all_oneI _) (by unfold maxLen; omega) (by omega) (by have := HW.out.size; simp; omega) ?_
               intro v2 w2 o2 g2 _
               have b2 := Lib.hid ((HW.out.alloc HW.out.size _).grown g2 (by simp; omega) (fun k hk => (HO.out.lt k hk).1)))
            | fail)
          exact ⟨⟨i + 1, by omega, by go_num, Lib.hid (by rw [HT.out, HYX.out]; exact o2), b2⟩, by simp [intOf]; omega⟩
        · have f2 : decide ((x.toNat : Int) ≤ 90) = false := decide_eq_false (by omega)
          have hyx : y = x := by rw [← hy]; exact Nm.low_not (by omega)
          subst hyx
          clear hy DO
          go_wp2_with (first
            | (at_builtin
               refine wpList_append_own _ rfl (.tmp 31) (.tmp 33) 48 rfl w1.heap.size 5 i0 (.int .u8 0) 1 1 Tryd.underlying48 HI.out.1 HI.out.2.1 HI.out.2.2.1 HI.out.2.2.2 rfl (by decide) _ i _ rfl (HO.out.alloc _) ⟨wr.heap.size, 0, none⟩ 1 1 [.int .u8 (y.toNat : Int)] rfl rfl (Nm.one_newB wr _ _) (Nm.all_oneB y) (by unfold maxLen; omega) (by omega) (by have := HW.out.size; simp; omega) ?_
               intro v2 w2 o2 g2 _
               have b2 := Lib.hid ((HW.out.alloc HW.out.size _).grown g2 (by simp; omega) (fun k hk => (HO.out.lt k hk).1)))
            | fail)
          exact ⟨⟨i + 1, by omega, by go_num, Lib.hid (by rw [HT.out]; exact o2), b2⟩, by simp [intOf]; omega⟩
    · obtain rfl : i = t.size := by omega
      have hO := HO.out
      rw [List.take_of_length_le (by rw [← Lib.size_eq]; exact Nat.le_refl _)] at hO
      have HG := Lib.hid (Nm.Nb HB.out HW.out)
      have hcv := Nm.conv_own wr w1.heap.size _ t.size (t.data.toList.map Nm.low) (by rw [List.length_map, ← Lib.size_eq]) hO
      rw [show (⟨(t.data.toList.map Nm.low).toArray⟩ : ByteArray) = r from HR.out] at hcv
      clear hO
      go_wp2
      go_ret2
      exact ⟨rfl, HG.out⟩
theorem Nm.rfold_bad (k : Int) (t : ByteArray) (w : World) (hm : t.size ≤ 1000) (hw : Nm.isW (Nm.sc k) t.data.toList = false) :
    Calls Tryd.prog 10 #[.int .i64 k, .string t] w fun e w' => e = .returned (.tuple #[.string ⟨#[]⟩, .int .i64 1]) ∧ Below w.heap.size w w' := by
  have W1 := Lib.hid (Nm.word_any k t w hm)
  rw [hw] at W1
  clear hw
  go_enter Tryd.func10, Tryd.ntmps10
  go_wp2_with fail
  refine W1.out.mono ?_
  rintro e w1 ⟨rfl, g1⟩
  go_wp2
  go_ret2
  exact ⟨rfl, g1⟩
end Go.Proofs.YtcjlnmfbanknhaaDoor
