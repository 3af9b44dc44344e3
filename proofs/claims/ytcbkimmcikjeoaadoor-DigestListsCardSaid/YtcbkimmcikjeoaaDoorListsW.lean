/- P1.6: the walk of DigestLists. -/
import Derived.Test.YtcbkimmcikjeoaaDoorDgD
import Derived.Test.YtcbkimmcikjeoaaDoorDgH
import Derived.Test.YtcbkimmcikjeoaaDoorDgT
import Derived.Test.YtcbkimmcikjeoaaDoorDgV
import Derived.Test.YtcbkimmcikjeoaaDoorDgJoin
import Derived.Test.YtcbkimmcikjeoaaDoorFewW
import Derived.Test.YtcbkimmcikjeoaaDoorShortW
import Derived.WalkKit
import Derived.WalkLawsBesides
import Derived.Lib.Hide
import Derived.Lib.QuietBelow
import Derived.BigQuiet
import Derived.Lib.Strings
namespace Go.Proofs.YtcbkimmcikjeoaaDoor
open Go.RowKit Go.Sort

theorem strs_at {W w1 : World} {A : Option Addr} {ss : List ByteArray} (hs : Strs W W.heap.size A ss) (hb : Below W.heap.size W w1) : Strs w1 w1.heap.size A ss := fun k hk => by
  obtain ⟨ad, e, hlt, hc⟩ := (hs.below hb (Nat.le_refl _)) k hk
  exact ⟨ad, e, Nat.lt_of_lt_of_le hlt hb.size, hc⟩
theorem pow_at {W w1 : World} (hp : Pow W.heap.size W) (hb : Below W.heap.size W w1) : Pow w1.heap.size w1 :=
  ⟨(hp.below hb (Nat.le_refl _)).1, Nat.lt_of_lt_of_le hp.2 hb.size⟩

theorem glue {x two : ByteArray} {m n : Nat} (hm : m = min n 6) (hx : x.size = n) (h2 : n ≤ two.size) :
    (x.extract 0 m ++ two.extract m n).size = n ∧ x.data.toList.take 6 = (x.extract 0 m ++ two.extract m n).data.toList.take 6 := by
  have hxl : x.data.toList.length = n := by simpa using hx
  have htl : two.data.toList.length = two.size := by simp
  have hd : (x.extract 0 m ++ two.extract m n).data.toList = x.data.toList.take m ++ (two.data.toList.drop m).take (n - m) := by
    rw [ByteArray.data_append, Array.toList_append, Lib.extract_data, Lib.extract_data]
    simp
  refine ⟨?_, ?_⟩
  · have : (x.extract 0 m ++ two.extract m n).size = (x.extract 0 m ++ two.extract m n).data.toList.length := by rw [Array.length_toList]; rfl
    rw [this, hd, List.length_append, List.length_take, List.length_take, List.length_drop, hxl, htl]
    omega
  · rw [hd, List.take_append, List.take_take, List.length_take, hxl]
    have e1 : min 6 m = m := by omega
    by_cases h : n ≤ 6
    · have e2 : m = n := by omega
      subst e2
      rw [e1, Nat.sub_self, List.take_zero, List.take_nil, List.append_nil, List.take_of_length_le (by omega), List.take_of_length_le (by omega)]
    · have e2 : m = 6 := by omega
      subst e2
      rw [show 6 - min 6 n = 0 by omega, List.take_zero, List.append_nil, e1]

theorem list_one (x : ByteArray) (W : World) (hx : x.size ≤ 9) (hp : Pow W.heap.size W) :
    Calls Tryd.prog 14 #[.slice (some ⟨W.heap.size, 0, none⟩) 1 1] (W.alloc (.cells #[.string x] 9)) fun e w' => e = .returned (.string ⟨(Dg.sum (joined [x])).toArray⟩) ∧ Below W.heap.size W w' := by
  have hb : Below W.heap.size W (W.alloc (.cells #[.string x] 9)) := (Below.refl _ _).alloc (Nat.le_refl _) _
  have hs : Strs (W.alloc (.cells #[.string x] 9)) (W.alloc (.cells #[.string x] 9)).heap.size (some ⟨W.heap.size, 0, none⟩) [x] := by
    intro k hk
    refine ⟨_, rfl, by simp, ?_⟩
    match k, hk with
    | 0, _ => simp [Addr.add]
  have hj : (joined [x]).length ≤ 140737488355328 := by
    rw [joined_cons, Lib.decDigits_one (by omega)]
    have : (joined []).length = 0 := rfl
    simp
    omega
  refine (list_any (some ⟨W.heap.size, 0, none⟩) 1 [x] _ hs (by unfold maxLen; simp) hj (pow_at hp hb)).mono ?_
  rintro e w1 ⟨rfl, hb1⟩
  exact ⟨rfl, hb.trans (hb1.mono hb.size)⟩

theorem single_eq {x y : ByteArray} (hl : x.size = y.size) (h9 : x.size ≤ 9) (h6 : x.data.toList.take 6 = y.data.toList.take 6) : (Dg.sum (joined [x]) == Dg.sum (joined [y])) = (x.toList == y.toList) := by
  rw [bytes_beq, Bool.eq_iff_iff, beq_iff_eq, decide_eq_true_eq]
  exact sum_single x y hl h9 h6

theorem joined_eq (ss tt : List ByteArray) : (joined ss == joined tt) = decide (ss = tt) := by
  rw [Bool.eq_iff_iff, beq_iff_eq, decide_eq_true_eq]
  exact ⟨joined_inj ss tt, fun h => by rw [h]⟩
theorem short_lists {ss tt : List ByteArray} (h1 : (joined ss).length ≤ 7) (h2 : (joined tt).length ≤ 7) : (Dg.sum (joined ss) == Dg.sum (joined tt)) = decide (ss = tt) := by
  rw [← joined_eq, Bool.eq_iff_iff, beq_iff_eq, beq_iff_eq]
  exact Dg.sum_short h1 h2

set_option maxRecDepth 100000 in
set_option maxHeartbeats 1000000 in
theorem lists_walk (A : Option Addr) (c : Nat) (ss : List ByteArray) (A' : Option Addr) (c' : Nat) (tt : List ByteArray) (one two : ByteArray) (W : World) (hp : Pow W.heap.size W)
    (hs : Strs W W.heap.size A ss) (hn : ss.length ≤ maxLen) (ht : Strs W W.heap.size A' tt) (hm : tt.length ≤ maxLen) (_ : one.size ≤ maxLen) (_ : two.size ≤ maxLen) :
    Calls Tryd.prog 9 #[.slice A ss.length c, .slice A' tt.length c', .string one, .string two] W fun e w' => e = .returned (.bool true) ∧ Below W.heap.size W w' := by
  go_enter Tryd.func9, Tryd.ntmps9
  go_wp2_with fail
  refine (head_any W hp).mono ?_
  rintro e w1 ⟨rfl, hb1⟩
  go_wp2_with fail
  refine (few_any A c ss 200 w1 (strs_at hs hb1) hn).mono ?_
  rintro e w2 ⟨rfl, rfl⟩
  cases hf : few ss 200 with
  | false =>
    have HF := Lib.hid hf
    clear hf
    go_wp2
    go_ret
    exact ⟨rfl, hb1⟩
  | true =>
    have hfb := few_bounds ss hf
    have HF := Lib.hid hf
    clear hf
    go_wp2_with fail
    refine (few_any A' c' tt 200 w1 (strs_at ht hb1) hm).mono ?_
    rintro e w2 ⟨rfl, rfl⟩
    cases hg : few tt 200 with
    | false =>
      have HG := Lib.hid hg
      clear hg
      go_wp2
      go_ret
      exact ⟨rfl, hb1⟩
    | true =>
      have hgb := few_bounds tt hg
      have HG := Lib.hid hg
      clear hg
      go_wp2_with fail
      refine (joined_ref_any A c ss w1 (strs_at hs hb1) hn (by omega) (by omega)).mono ?_
      rintro e w2 ⟨rfl, hb2⟩
      have hb12 := hb1.trans (hb2.mono hb1.size)
      go_wp2_with fail
      refine (joined_ref_any A' c' tt w2 (strs_at ht hb12) hm (by omega) (by omega)).mono ?_
      rintro e w3 ⟨rfl, hb3⟩
      have hb13 := hb12.trans (hb3.mono hb12.size)
      go_wp2_with fail
      refine (list_any A c ss w3 (strs_at hs hb13) hn (by omega) (pow_at hp hb13)).mono ?_
      rintro e w4 ⟨rfl, hb4⟩
      have hb14 := hb13.trans (hb4.mono hb13.size)
      go_wp2_with fail
      refine (sum_lit (joined ss) w4 (by omega)).mono ?_
      rintro e w5 ⟨rfl, hb5⟩
      have hb15 := hb14.trans (hb5.mono hb14.size)
      go_wp2_with fail
      refine (same_any A A' c c' ss tt w5 (strs_at hs hb15) (strs_at ht hb15) hn).mono ?_
      rintro e w6 ⟨rfl, q, rfl⟩
      have hj := joined_eq ss tt
      have hb16 : Below W.heap.size W (w5.drewN q) := ⟨hb15.os, hb15.tape, hb15.output, hb15.size, hb15.block⟩
      obtain ⟨wz, hwz⟩ : ∃ wz, wz = w5.drewN q := ⟨_, rfl⟩
      have hbz : Below W.heap.size W wz := by rw [hwz]; exact hb16
      rw [← hwz]
      clear hwz hb2 hb3 hb4 hb5 hb12 hb13 hb14 hb15 hb16 hb1
      rcases (show ((joined ss).length ≤ 7 ∧ (joined tt).length ≤ 7) ∨ 7 < (joined ss).length ∨ ((joined ss).length ≤ 7 ∧ 7 < (joined tt).length) by omega) with ⟨h71, h72⟩ | h71 | ⟨h71, h72⟩
      case' inl =>
        have HJ7 := Lib.hid (short_lists h71 h72)
        go_wp2_with fail
        refine (list_any A c ss wz (strs_at hs hbz) hn (by omega) (pow_at hp hbz)).mono ?_
        rintro e u1 ⟨rfl, hc1⟩
        have hd1 := hbz.trans (hc1.mono hbz.size)
        go_wp2_with fail
        refine (list_any A' c' tt u1 (strs_at ht hd1) hm (by omega) (pow_at hp hd1)).mono ?_
        rintro e u2 ⟨rfl, hc2⟩
        have hd2 := hd1.trans (hc2.mono hd1.size)
        go_wp2_with fail
        refine (same_any A A' c c' ss tt u2 (strs_at hs hd2) (strs_at ht hd2) hn).mono ?_
        rintro e u3 ⟨rfl, q2, rfl⟩
        have hj7 := HJ7.out
        have hd3 : Below W.heap.size W (u2.drewN q2) := ⟨hd2.os, hd2.tape, hd2.output, hd2.size, hd2.block⟩
        obtain ⟨wy, hwy⟩ : ∃ wy, wy = u2.drewN q2 := ⟨_, rfl⟩
        have hby : Below W.heap.size W wy := by rw [hwy]; exact hd3
        rw [← hwy]
        clear hwy hc1 hc2 hd1 hd2 hd3
      case' inr.inl =>
        obtain ⟨wy, hwy⟩ : ∃ wy, wy = wz := ⟨_, rfl⟩
        have hby : Below W.heap.size W wy := by rw [hwy]; exact hbz
        rw [← hwy]
        clear hwy
        have hj7 : True := trivial
      case' inr.inr =>
        obtain ⟨wy, hwy⟩ : ∃ wy, wy = wz := ⟨_, rfl⟩
        have hby : Below W.heap.size W wy := by rw [hwy]; exact hbz
        rw [← hwy]
        clear hwy
        have hj7 : True := trivial
      all_goals
        rcases (show (9 < one.size ∧ 9 < two.size ∧ two.size < one.size) ∨ (9 < one.size ∧ 9 < two.size ∧ one.size ≤ two.size) ∨ (one.size ≤ 9 ∧ one.size ≤ two.size) ∨ (two.size ≤ 9 ∧ two.size < one.size) by omega) with ⟨m1, m2, m3⟩ | ⟨m1, m2, m3⟩ | ⟨m1, m2⟩ | ⟨m1, m2⟩
        · go_wp2_with fail
          have hx : (one.extract 0 9).size = 9 := by simp; omega
          have g1 : min (9 : Int) 6 = 6 := by decide
          have g2 : (6 : Int) ≤ ((one.extract 0 9).size : Int) := by omega
          have g3 : (9 : Int) ≤ (two.size : Int) := by omega
          generalize one.extract 0 9 = x at *
          have hx9 : x.size ≤ 9 := by omega
          have g4 : ¬ 9223372036854775807 < min 6 x.size + (min 9 two.size - 6) := by omega
          have HX := Lib.hid hx
          have HG2 := Lib.hid (glue (x := x) (two := two) (m := 6) (n := 9) rfl hx (by omega))
          clear hx
          refine wp_region_quiet_lit (by kernel_rfl) (by kernel_rfl) ?_
          repeat (quiet_step (fail))
          refine wpQuiet_nil ?_
          intro _ hw'
          obtain ⟨nq, hw''⟩ := hw'
          subst hw''
          have hbq : Below W.heap.size W (wy.drewN nq) := ⟨hby.os, hby.tape, hby.output, hby.size, hby.block⟩
          generalize wy.drewN nq = wq at *
          have hY := HG2.out
          clear HG2
          generalize x.extract 0 6 ++ two.extract 6 9 = y at *
          have hyl : (x).size = y.size := by rw [HX.out, hY.1]
          have HE := Lib.hid (single_eq hyl hx9 hY.2)
          have hy9 : y.size ≤ 9 := by omega
          clear hY hyl g1 g2 g3 g4
          go_wp2_with fail
          refine (list_one x wq hx9 (pow_at hp hbq)).mono ?_
          rintro e v1 ⟨rfl, hv1⟩
          have hbv := hbq.trans (hv1.mono hbq.size)
          go_wp2_with fail
          refine (list_one y v1 hy9 (pow_at hp hbv)).mono ?_
          rintro e v2 ⟨rfl, hv2⟩
          have he := HE.out
          go_wp2
          go_ret
          exact ⟨by simp, hbv.trans (hv2.mono hbv.size)⟩
        · go_wp2_with fail
          have hx : (one.extract 0 9).size = 9 := by simp; omega
          have g1 : min (9 : Int) 6 = 6 := by decide
          have g2 : (6 : Int) ≤ ((one.extract 0 9).size : Int) := by omega
          have g3 : (9 : Int) ≤ (two.size : Int) := by omega
          generalize one.extract 0 9 = x at *
          have hx9 : x.size ≤ 9 := by omega
          have g4 : ¬ 9223372036854775807 < min 6 x.size + (min 9 two.size - 6) := by omega
          have HX := Lib.hid hx
          have HG2 := Lib.hid (glue (x := x) (two := two) (m := 6) (n := 9) rfl hx (by omega))
          clear hx
          refine wp_region_quiet_lit (by kernel_rfl) (by kernel_rfl) ?_
          repeat (quiet_step (fail))
          refine wpQuiet_nil ?_
          intro _ hw'
          obtain ⟨nq, hw''⟩ := hw'
          subst hw''
          have hbq : Below W.heap.size W (wy.drewN nq) := ⟨hby.os, hby.tape, hby.output, hby.size, hby.block⟩
          generalize wy.drewN nq = wq at *
          have hY := HG2.out
          clear HG2
          generalize x.extract 0 6 ++ two.extract 6 9 = y at *
          have hyl : (x).size = y.size := by rw [HX.out, hY.1]
          have HE := Lib.hid (single_eq hyl hx9 hY.2)
          have hy9 : y.size ≤ 9 := by omega
          clear hY hyl g1 g2 g3 g4
          go_wp2_with fail
          refine (list_one x wq hx9 (pow_at hp hbq)).mono ?_
          rintro e v1 ⟨rfl, hv1⟩
          have hbv := hbq.trans (hv1.mono hbq.size)
          go_wp2_with fail
          refine (list_one y v1 hy9 (pow_at hp hbv)).mono ?_
          rintro e v2 ⟨rfl, hv2⟩
          have he := HE.out
          go_wp2
          go_ret
          exact ⟨by simp, hbv.trans (hv2.mono hbv.size)⟩
        · go_wp2_with fail
          have g1 : (0 : Int) ≤ min (one.size : Int) 6 := by omega
          have g2 : min (one.size : Int) 6 ≤ (one.size : Int) := by omega
          have g3 : (one.size : Int) ≤ (two.size : Int) := by omega
          have g4 : ¬ 9223372036854775807 < one.size := by omega
          have hx9 : one.size ≤ 9 := by omega
          have HX : Hid (one.size = one.size) := rfl
          have HG2 := Lib.hid (glue (x := one) (two := two) (m := (min (one.size : Int) 6).toNat) (n := one.size) (by omega) rfl (by omega))
          refine wp_region_quiet_lit (by kernel_rfl) (by kernel_rfl) ?_
          repeat (quiet_step (fail))
          refine wpQuiet_nil ?_
          intro _ hw'
          obtain ⟨nq, hw''⟩ := hw'
          subst hw''
          have hbq : Below W.heap.size W (wy.drewN nq) := ⟨hby.os, hby.tape, hby.output, hby.size, hby.block⟩
          generalize wy.drewN nq = wq at *
          have hY := HG2.out
          clear HG2
          generalize one.extract 0 (min (one.size : Int) 6).toNat ++ two.extract (min (one.size : Int) 6).toNat one.size = y at *
          have hyl : (one).size = y.size := by rw [HX.out, hY.1]
          have HE := Lib.hid (single_eq hyl hx9 hY.2)
          have hy9 : y.size ≤ 9 := by omega
          clear hY hyl g1 g2 g3 g4
          go_wp2_with fail
          refine (list_one one wq hx9 (pow_at hp hbq)).mono ?_
          rintro e v1 ⟨rfl, hv1⟩
          have hbv := hbq.trans (hv1.mono hbq.size)
          go_wp2_with fail
          refine (list_one y v1 hy9 (pow_at hp hbv)).mono ?_
          rintro e v2 ⟨rfl, hv2⟩
          have he := HE.out
          go_wp2
          go_ret
          exact ⟨by simp, hbv.trans (hv2.mono hbv.size)⟩
        · go_wp2_with fail
          have hx : (one.extract 0 two.size).size = two.size := by simp; omega
          have g1 : (0 : Int) ≤ min (two.size : Int) 6 := by omega
          have g2 : min (two.size : Int) 6 ≤ ((one.extract 0 two.size).size : Int) := by omega
          have g3 : min (two.size : Int) 6 ≤ (two.size : Int) := by omega
          have g4 : ¬ 9223372036854775807 < two.size := by omega
          generalize one.extract 0 two.size = x at *
          have hx9 : x.size ≤ 9 := by omega
          have HX := Lib.hid hx
          have HG2 := Lib.hid (glue (x := x) (two := two) (m := (min (two.size : Int) 6).toNat) (n := two.size) (by omega) hx (by omega))
          clear hx
          refine wp_region_quiet_lit (by kernel_rfl) (by kernel_rfl) ?_
          repeat (quiet_step (fail))
          refine wpQuiet_nil ?_
          intro _ hw'
          obtain ⟨nq, hw''⟩ := hw'
          subst hw''
          have hbq : Below W.heap.size W (wy.drewN nq) := ⟨hby.os, hby.tape, hby.output, hby.size, hby.block⟩
          generalize wy.drewN nq = wq at *
          have hY := HG2.out
          clear HG2
          generalize x.extract 0 (min (two.size : Int) 6).toNat ++ two.extract (min (two.size : Int) 6).toNat two.size = y at *
          have hyl : (x).size = y.size := by rw [HX.out, hY.1]
          have HE := Lib.hid (single_eq hyl hx9 hY.2)
          have hy9 : y.size ≤ 9 := by omega
          clear hY hyl g1 g2 g3 g4
          go_wp2_with fail
          refine (list_one x wq hx9 (pow_at hp hbq)).mono ?_
          rintro e v1 ⟨rfl, hv1⟩
          have hbv := hbq.trans (hv1.mono hbq.size)
          go_wp2_with fail
          refine (list_one y v1 hy9 (pow_at hp hbv)).mono ?_
          rintro e v2 ⟨rfl, hv2⟩
          have he := HE.out
          go_wp2
          go_ret
          exact ⟨by simp, hbv.trans (hv2.mono hbv.size)⟩
end Go.Proofs.YtcbkimmcikjeoaaDoor
