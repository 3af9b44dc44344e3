/- The digest of a text: absorb and Sum of the program return Dg.sum. -/
import Derived.Test.YtdlmbpoihnifiaaDoorProg
import Derived.Test.YtdlmbpoihnifiaaDoorDgMath
import Derived.Test.YtdlmbpoihnifiaaDoorDgA
import Derived.Test.YtdlmbpoihnifiaaDoorDgB
import Derived.WalkKit
import Derived.Below
import Derived.LoopTactic
import Derived.Outline
import Derived.Lib.Hide
import Derived.Laws.BitsAllLaws
namespace Go.Proofs.YtdlmbpoihnifiaaDoor
open Go.RowKit
set_option maxRecDepth 100000

theorem absorb_any (s : ByteArray) (st n : Nat) (w : World) (hs : s.size ≤ maxLen) (hst : st < 18446744073709551616) (hn : n ≤ s.size / 8 + 1) :
    Calls Tryd.prog 85 #[.int .u64 (st : Int), .int .i64 (n : Int), .func (Fn.func 87) #[.string s] #[]] w fun e w' => e = .returned (.int .u64 ((Dg.absorb st s.data.toList n : Nat) : Int)) ∧ Below w.heap.size w w' := by
  have hs' := hs
  unfold maxLen at hs'
  go_enter Tryd.func85, Tryd.ntmps85
  go_wp2
  go_loopw [0, 9] (fun m i wr => ∃ k q : Nat, k ≤ n ∧ i = .int .i64 k ∧ m = .int .u64 (q : Int) ∧ q = Dg.absorb st s.data.toList k ∧ Below w.heap.size w wr) (fun _ i _ => n - (intOf i).toNat)
  case atStart => exact ⟨0, st, by omega, rfl, rfl, rfl, Below.refl _ _⟩
  case round =>
    obtain ⟨k, q, hk, rfl, rfl, hq, hb⟩ := hrel
    by_cases hlt : k < n
    · have HQ := Lib.hid hq
      have hq64 : q < 18446744073709551616 := by rw [hq]; exact Dg.absorb_lt _ hst _ _
      clear hq
      have hi : 8 * k ≤ s.size := by omega
      have hn64 : Dg.num (s.data.toList.drop (8 * k)) 8 < 18446744073709551616 := Dg.num_lt _ 8
      go_wp2_with (first
        | (go_at_call 87; refine (take_any s k _ hs hi).mono ?_; rintro e w1 ⟨rfl, hb1⟩)
        | (go_at_call 93; refine (number_any (first8 (s.data.toList.drop (8 * k))) _ (first8_length _)).mono ?_; rintro e w2 ⟨rfl, hb2⟩; rw [num_first8])
        | (go_at_call 92; rw [bits_xor_u64_nat q _ hq64 hn64]; refine (mix_any _ _).mono ?_; rintro e w3 ⟨rfl, rfl⟩)
        | fail)
      exact ⟨⟨k + 1, _, by omega, by go_num, rfl, by rw [HQ.out]; rfl, hb.trans ((hb1.mono hb.size).trans (hb2.mono (Nat.le_trans hb.size hb1.size)))⟩, by simp [intOf]; omega⟩
    · obtain rfl : k = n := by omega
      have HQ := Lib.hid hq
      clear hq
      go_wp2
      go_ret
      exact ⟨ret_int (by rw [HQ.out]), hb⟩

theorem sum_any (s : ByteArray) (w : World) (hs : s.size ≤ maxLen) :
    Calls Tryd.prog 78 #[.string s] w fun e w' => e = .returned (.string ⟨(Dg.sum s.data.toList).toArray⟩) ∧ Below w.heap.size w w' := by
  have hs' := hs
  unfold maxLen at hs'
  have e1 : bits BinOp.xor IntKind.u64 2611923443488327891 (s.size : Int) = ((2611923443488327891 ^^^ s.size : Nat) : Int) := bits_xor_u64_nat 2611923443488327891 s.size (by decide) (by omega)
  have e2 : ((s.size : Int) / 8 + 1) = ((s.size / 8 + 1 : Nat) : Int) := by omega
  have E1 := Lib.hid e1
  have E2 := Lib.hid e2
  clear e1 e2
  have h64 : 2611923443488327891 ^^^ s.size < 18446744073709551616 := Nat.xor_lt_two_pow (n := 64) (by decide) (by omega)
  have hst : Dg.absorb (2611923443488327891 ^^^ s.size) s.data.toList (s.size / 8 + 1) < 18446744073709551616 := Dg.absorb_lt _ h64 _ _
  have HS : Hid ((⟨(Dg.low (Dg.absorb (2611923443488327891 ^^^ s.size) s.data.toList (s.size / 8 + 1)) 16).toArray⟩ : ByteArray) = ⟨(Dg.sum s.data.toList).toArray⟩) := by
    have : s.data.toList.length = s.size := by simp
    unfold Dg.sum Dg.state
    rw [this]
    exact rfl
  go_enter Tryd.func78, Tryd.ntmps78
  go_wp2_with (first
   | (go_at_call 86; refine (count_any s _ hs).mono ?_; rintro e w' ⟨rfl, rfl⟩)
   | (go_at_call 85; rw [E1.out, E2.out]; refine (absorb_any s _ (s.size / 8 + 1) _ hs h64 (Nat.le_refl _)).mono ?_; rintro e w1 ⟨rfl, hb1⟩)
   | (go_at_call 84; refine (hex_any _ _ hst).mono ?_; rintro e w2 ⟨rfl, hb2⟩)
   | fail)
  go_ret
  exact ⟨by rw [HS.out]; rfl, hb1.trans (hb2.mono hb1.size)⟩
end Go.Proofs.YtdlmbpoihnifiaaDoor
