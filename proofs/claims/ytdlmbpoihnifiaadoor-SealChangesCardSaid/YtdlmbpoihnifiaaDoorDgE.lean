/- join and List of the program. -/
import Derived.Test.YtdlmbpoihnifiaaDoorProg
import Derived.Test.YtdlmbpoihnifiaaDoorDgMath
import Derived.Test.YtdlmbpoihnifiaaDoorDgC
import Derived.Test.YtdlmbpoihnifiaaDoorBuild
import Derived.Test.YtdlmbpoihnifiaaDoorStrs
import Derived.Test.YtdlmbpoihnifiaaDoorShelf
import Derived.WalkKit
import Derived.Below
import Derived.LoopTactic
import Derived.Outline
import Derived.Lib.AppendIntMem
import Derived.Lib.Hide
namespace Go.Proofs.YtdlmbpoihnifiaaDoor
open Go.RowKit
set_option maxRecDepth 100000

theorem gPow : Tryd.prog.globalNamed "internal/strconv.uint64pow10" = some 1 := by kernel_rfl

theorem itoa_nat (n : Nat) : Lib.itoa (n : Int) = Lib.decDigits n := by
  unfold Lib.itoa
  rw [if_neg (by omega)]
  simp

/-- The table of powers of ten, and that it stands below block B. -/
def Pow (B : Nat) (w : World) : Prop := Lib.TabIs Tryd.prog w "internal/strconv.uint64pow10" .u64 Lib.pow10Tab ∧ 1 < B
theorem Pow.below {B B' : Nat} {w w' : World} (h : Pow B w) (hb : Below B' w w') (hB : B ≤ B') : Pow B w' :=
  ⟨tab_below h.1 gPow (Nat.lt_of_lt_of_le h.2 hB) hb, h.2⟩

theorem itoa_any (n : Nat) (B : Nat) (w : World) (h1 : (n : Int) ≤ 9223372036854775807) (hp : Pow B w) :
    Calls Tryd.prog 81 #[.int .i64 (n : Int)] w fun e w' => e = .returned (.string ⟨(Lib.decDigits n).toArray⟩) ∧ Below w.heap.size w w' := by
  refine (Tryd.strconv_Itoa n (by omega) h1 w hp.1).mono ?_
  rintro e w' ⟨rfl, k, os, rfl⟩
  rw [itoa_nat]
  exact ⟨rfl, Lib.below_grow _ _ (Nat.le_refl _) _ _⟩

theorem join_any (A : Option Addr) (c : Nat) (ss : List ByteArray) (w : World) (hs : Strs w w.heap.size A ss) (hn : ss.length ≤ maxLen) (hlen : (joined ss).length ≤ 140737488355328) (hp : Pow w.heap.size w) :
    Calls Tryd.prog 79 #[.slice A ss.length c] w fun e w' => e = .returned (.string ⟨(joined ss).toArray⟩) ∧ Below w.heap.size w w' := by
  unfold maxLen at hn
  go_enter Tryd.func79, Tryd.ntmps79
  go_wp2
  go_loopw [8] (fun i wr => ∃ k : Nat, k ≤ ss.length ∧ i = .int .i64 k ∧ Below w.heap.size w wr ∧ Lib.IsBuilder 94 5 w.heap.size w.heap.size (Lib.byteCells (joined (ss.take k))) wr) (fun i _ => ss.length - (intOf i).toNat)
  case atStart =>
    refine ⟨0, by omega, rfl, (Below.refl _ _).alloc (Nat.le_refl _) _, ?_⟩
    exact Lib.fresh_isBuilder _ _ w
  case round =>
    obtain ⟨k, hk, rfl, hb, hB⟩ := hrel
    by_cases hlt : k < ss.length
    · obtain ⟨ad, rfl, hlt', hc⟩ := (hs.below hb (Nat.le_refl _)) k hlt
      have hj := joined_snoc ss k hlt
      have hle := joined_take_le ss (k + 1)
      generalize ss.getD k ByteArray.empty = x at hc hj
      have hpt : (part x).length = (Lib.decDigits x.size).length + 1 + x.size := by
        unfold part
        simp
        omega
      have hsum : (joined (ss.take k)).length + (Lib.decDigits x.size).length + 1 + x.size ≤ 140737488355328 := by
        rw [hj, List.length_append, hpt] at hle
        omega
      have hcl : (Lib.byteCells (joined (ss.take k))).length = (joined (ss.take k)).length := by simp [Lib.byteCells]
      have HJ := Lib.hid hj
      have HP := hp.below hb (Nat.le_refl _)
      have hx : (x.size : Int) ≤ 9223372036854775807 := by omega
      have hcl' := Lib.hid hcl
      have hsz := hb.size
      clear hj hle hpt hcl
      generalize hJ : joined (ss.take k) = J at *
      have hJ' := Lib.hid hJ
      clear hJ
      go_wp2_with fail
      refine (itoa_any x.size w.heap.size wr hx HP).mono ?_
      rintro e w1 ⟨rfl, hb1⟩
      have hB1 := builder_below hB hb1
      have hs1 := hb1.size
      go_wp2_with fail
      refine (writeString_any w.heap.size w.heap.size _ ⟨(Lib.decDigits x.size).toArray⟩ w1 hB1 (by rw [hcl'.out, bsize]; omega) (by omega)).mono ?_
      rintro e w2 ⟨rfl, hB2, hb2⟩
      have hs2 := hb2.size
      go_wp2_with fail
      refine (writeByte_any w.heap.size w.heap.size _ 58 w2 hB2 (by rw [List.length_append, hcl'.out, Lib.strCells_length, bsize]; omega) (by omega)).mono ?_
      rintro e w3 ⟨rfl, hB3, hb3⟩
      have hs3 := hb3.size
      go_wp2_with fail
      refine (writeString_any w.heap.size w.heap.size _ x w3 hB3 (by rw [List.length_append, List.length_append, hcl'.out, Lib.strCells_length, bsize, List.length_singleton]; omega) (by omega)).mono ?_
      rintro e w4 ⟨rfl, hB4, hb4⟩
      go_wp2
      refine ⟨⟨k + 1, by omega, by go_num, hb.trans ((hb1.mono hsz).trans (hb2.trans (hb3.trans hb4))), ?_⟩, by simp [intOf]; omega⟩
      rw [HJ.out]
      have e : Lib.byteCells (J ++ part x) = Lib.byteCells J ++ Lib.strCells ⟨(Lib.decDigits x.size).toArray⟩ ++ [Value.int .u8 58] ++ Lib.strCells x := by
        simp [Lib.byteCells, Lib.strCells, part]
      rw [e]
      exact hB4
    · obtain rfl : k = ss.length := by omega
      rw [List.take_length] at hB
      have hsz := hb.size
      go_wp2_with fail
      refine (Tryd.Builder_String_any w.heap.size w.heap.size (joined ss) wr hB hsz).mono ?_
      rintro e w1 ⟨rfl, hb1⟩
      go_wp2
      go_ret
      exact ⟨rfl, hb.trans hb1⟩

theorem list_any (A : Option Addr) (c : Nat) (ss : List ByteArray) (w : World) (hs : Strs w w.heap.size A ss) (hn : ss.length ≤ maxLen) (hlen : (joined ss).length ≤ 140737488355328) (hp : Pow w.heap.size w) :
    Calls Tryd.prog 51 #[.slice A ss.length c] w fun e w' => e = .returned (.string ⟨(Dg.sum (joined ss)).toArray⟩) ∧ Below w.heap.size w w' := by
  have hj : (⟨(joined ss).toArray⟩ : ByteArray).size ≤ maxLen := by
    rw [bsize]
    unfold maxLen
    omega
  go_enter Tryd.func51, Tryd.ntmps51
  go_wp2_with fail
  refine (join_any A c ss w hs hn hlen hp).mono ?_
  rintro e w1 ⟨rfl, hb1⟩
  go_wp2_with fail
  refine (sum_any _ w1 hj).mono ?_
  rintro e w2 ⟨rfl, hb2⟩
  go_wp2
  go_ret
  exact ⟨rfl, hb1.trans (hb2.mono hb1.size)⟩
end Go.Proofs.YtdlmbpoihnifiaaDoor
