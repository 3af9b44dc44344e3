/- The reference's Joined and List. -/
import Derived.Test.YtdlmbpoihnifiaaDoorProg
import Derived.Test.YtdlmbpoihnifiaaDoorDgMath
import Derived.Test.YtdlmbpoihnifiaaDoorDgR
import Derived.Test.YtdlmbpoihnifiaaDoorDgU
import Derived.Test.YtdlmbpoihnifiaaDoorStrs
import Derived.Test.YtdlmbpoihnifiaaDoorBuild
import Derived.WalkKit
import Derived.Below
import Derived.LoopTactic
import Derived.Outline
import Derived.Lib.Hide
import Derived.Lib.ItoaNum
import Derived.Lib.AppendStr
import Derived.Lib.BufferRead
import Derived.Laws.IdiomStrings
import Derived.OwnWalk
namespace Go.Proofs.YtdlmbpoihnifiaaDoor
open Go.RowKit
set_option maxRecDepth 100000

def room (ss : List ByteArray) : Nat := (ss.map fun s => s.size + 21).sum
theorem room_snoc (ss : List ByteArray) (k : Nat) (h : k < ss.length) : room (ss.take (k + 1)) = room (ss.take k) + ((ss.getD k ByteArray.empty).size + 21) := by
  have e : ss.take (k + 1) = ss.take k ++ [ss.getD k ByteArray.empty] := by
    rw [List.take_add_one, List.getElem?_eq_getElem h, List.getD_eq_getElem?_getD, List.getElem?_eq_getElem h]
    rfl
  rw [e]
  simp [room]
theorem room_take_le (ss : List ByteArray) (k : Nat) : room (ss.take k) ≤ room ss := by
  conv => rhs; rw [← List.take_append_drop k ss]
  unfold room
  rw [List.map_append, List.sum_append]
  omega

theorem convert_own (w : World) (base : Nat) (v : Value) (l : List UInt8) (hown : w.ownsRow base 5 1 v l.length (Lib.byteCells l)) :
    (convert 83 9 v).run Tryd.prog w = .ok (.string ⟨l.toArray⟩) w := by
  rcases hown.2 with ⟨rfl, h0⟩ | ⟨g, cap, cur, rfl, hb, hg, hn, hm, hcs, htk⟩
  · obtain rfl : l = [] := List.eq_nil_of_length_eq_zero h0
    exact Lib.run_convert_nil_bytes w 83 9 5 0 Tryd.underlying83 Tryd.underlying5 Tryd.underlying9
  · refine run_convert_bytes_back (P := Tryd.prog) w 83 9 5 ⟨g, 0, none⟩ cap l Tryd.underlying83 Tryd.underlying5 Tryd.underlying9 (fun j hj => ?_)
    refine hown.cells (g := g) rfl j _ ?_
    simp [Lib.byteCells, List.getElem?_eq_getElem hj]

theorem one_new (w : World) (u : Value) (t : TypeId) : ∀ j u', [u][j]? = some u' → (w.alloc (.cells #[u] t)).cell? ((⟨w.heap.size, 0, none⟩ : Addr).add j) = some u' := by
  intro j u' hj
  match j, hj with
  | 0, hj => simp at hj; subst hj; simp [Addr.add]
theorem all_one (c : Int) : ∀ u ∈ [Value.int .u8 c], u.oneCell' = true := by
  intro u hu
  simp at hu
  subst hu
  rfl

theorem joined_ref_any (A : Option Addr) (c : Nat) (ss : List ByteArray) (w : World) (hs : Strs w w.heap.size A ss) (hn : ss.length ≤ maxLen) (hlen : (joined ss).length ≤ 140737488355328) (hroom : room ss ≤ 140737488355328) :
    Calls Tryd.prog 46 #[.slice A ss.length c] w fun e w' => e = .returned (.string ⟨(joined ss).toArray⟩) ∧ Below w.heap.size w w' := by
  unfold maxLen at hn
  obtain ⟨i0, hi, hz0, hz1, hz2⟩ := info_parts infoByte
  have HR := Lib.hid hroom
  clear hroom
  go_enter Tryd.func46, Tryd.ntmps46
  go_wp2
  go_loop [3, 4] (fun m i => ∃ k r : Nat, k ≤ ss.length ∧ i = .int .i64 k ∧ m = .int .i64 (r : Int) ∧ r = room (ss.take k)) (fun _ i => ss.length - (intOf i).toNat)
  case atStart => exact ⟨0, 0, by omega, rfl, rfl, rfl⟩
  case round =>
    obtain ⟨k, r, hk, rfl, rfl, hr⟩ := hrel
    by_cases hlt : k < ss.length
    · obtain ⟨ad, rfl, _, hc⟩ := hs k hlt
      have h1 := room_snoc ss k hlt
      have h2 := Nat.le_trans (room_take_le ss (k + 1)) HR.out
      rw [← hr] at h1
      have hb : r + (ss.getD k ByteArray.empty).size + 21 ≤ 140737488355328 := by omega
      generalize ss.getD k ByteArray.empty = x at *
      have H1 := Lib.hid h1
      clear h1 h2 hr hs
      go_wp2
      exact ⟨⟨k + 1, r + (x.size + 21), by omega, by go_num, by go_num, H1.out.symm⟩, by simp [intOf]; omega⟩
    · obtain rfl : k = ss.length := by omega
      have hrb : r ≤ 140737488355328 := by rw [hr]; exact Nat.le_trans (room_take_le ss _) HR.out
      clear hr
      go_wp2_with (at_make; refine wpList_make_own _ rfl _ _ 83 rfl w.heap.size 5 i0 (.int .u8 0) 1 Tryd.underlying83 hi hz0 hz1 .i64 .i64 _ r rfl rfl rfl (by rw [hz2]; omega) (by unfold maxLen; omega) (Nat.le_refl _) ?_; intro w1 hown1 hg1)
      have hb1 : Below w.heap.size w w1 := (Below.refl _ _).grown hg1 (Nat.le_refl _) (fun k h => by cases h)
      clear hg1
      generalize Value.slice (some ⟨w.heap.size, 0, none⟩) 0 r = v0 at hown1
      go_loopw [5, 6] (fun t i wr => ∃ (k : Nat) (v : Value), k ≤ ss.length ∧ i = .int .i64 k ∧ v = t ∧ Below w.heap.size w wr ∧ wr.ownsRow w.heap.size 5 1 v (joined (ss.take k)).length (Lib.byteCells (joined (ss.take k)))) (fun _ i _ => ss.length - (intOf i).toNat)
      case atStart => exact ⟨0, _, by omega, rfl, rfl, hb1, hown1⟩
      case round =>
        clear hown1 hb1
        obtain ⟨k, v, hk, rfl, rfl, hb, hown⟩ := hrel
        by_cases hlt : k < ss.length
        · obtain ⟨ad, rfl, hlt', hc⟩ := (hs.below hb (Nat.le_refl _)) k hlt
          have hj := joined_snoc ss k hlt
          have hle := joined_take_le ss (k + 1)
          have hadb : ∀ w', Below w.heap.size w w' → w'.cell? (ad.add k) = some (.string (ss.getD k ByteArray.empty)) := fun w' hw' => by
            obtain ⟨ad', e, _, hc'⟩ := (hs.below hw' (Nat.le_refl _)) k hlt
            cases e
            exact hc'
          generalize ss.getD k ByteArray.empty = x at hc hj hadb
          have hpt : (part x).length = (Lib.decDigits x.size).length + 1 + x.size := by
            unfold part
            simp
            omega
          have hsum : (joined (ss.take k)).length + (Lib.decDigits x.size).length + 1 + x.size ≤ 140737488355328 := by
            rw [hj, List.length_append, hpt] at hle
            omega
          have HJ := Lib.hid hj
          have HA := Lib.hid hadb
          have hx : (x.size : Int) ≤ 9223372036854775807 := by omega
          have hsz := hb.size
          clear hj hle hpt hadb
          generalize hJ : joined (ss.take k) = J at *
          have hJ' := Lib.hid hJ
          clear hJ hs
          have hds : (⟨(Lib.decDigits x.size).toArray⟩ : ByteArray).size = (Lib.decDigits x.size).length := bsize _
          have HDS := Lib.hid hds
          clear hds
          go_wp2_with (first
            | (go_at_call 47; refine (decimal_any x.size _ hx).mono ?_; rintro e w2 ⟨rfl, rfl⟩)
            | (at_builtin
               refine Lib.wpList_append_own_string _ rfl (.tmp 29) (.tmp 35) 83 9 rfl w.heap.size 5 i0 Tryd.underlying83 Tryd.underlying9 hi hz0 hz1 hz2 v J.length _ rfl hown ⟨(Lib.decDigits x.size).toArray⟩ rfl (by rw [HDS.out]; unfold maxLen; omega) (by rw [HDS.out]; omega) hsz ?_
               intro v2 w2 hown2 hg2 _
               have hb2 := hb.grown hg2 hsz (fun k h => (hown.lt k h).1)
               have hz2' := hb2.size)
            | (at_builtin
               refine wpList_append_own _ rfl (.tmp 37) (.tmp 38) 83 rfl w.heap.size 5 i0 (.int .u8 0) 1 1 Tryd.underlying83 hi hz0 hz1 hz2 rfl (by decide) v2 _ _ rfl (hown2.alloc _) ⟨w2.heap.size, 0, none⟩ 1 1 [.int .u8 58] rfl rfl (one_new w2 _ _) (all_one 58) (by rw [HDS.out]; unfold maxLen; omega) (by rw [HDS.out]; omega) (by simp; omega) ?_
               intro v3 w3 hown3 hg3 _
               have hb3 := (hb2.alloc hz2' _).grown hg3 (by simp; omega) (fun k h => (hown2.lt k h).1)
               have hz3' := hb3.size
               have hc3 := HA.out w3 hb3)
            | (at_builtin
               refine Lib.wpList_append_own_string _ rfl (.tmp 40) (.tmp 44) 83 9 rfl w.heap.size 5 i0 Tryd.underlying83 Tryd.underlying9 hi hz0 hz1 hz2 v3 _ _ rfl hown3 x rfl (by rw [HDS.out]; unfold maxLen; omega) (by rw [HDS.out]; omega) hz3' ?_
               intro v4 w4 hown4 hg4 _
               have hb4 := hb3.grown hg4 hz3' (fun k h => (hown3.lt k h).1)))
          refine ⟨⟨k + 1, v4, by omega, by go_num, rfl, hb4, ?_⟩, by simp [intOf]; omega⟩
          rw [HJ.out]
          have e1 : Lib.byteCells (J ++ part x) = Lib.byteCells J ++ Lib.strCells ⟨(Lib.decDigits x.size).toArray⟩ ++ [Value.int .u8 58] ++ Lib.strCells x := by
            simp [Lib.byteCells, Lib.strCells, part]
          have e2 : (J ++ part x).length = J.length + (⟨(Lib.decDigits x.size).toArray⟩ : ByteArray).size + 1 + x.size := by
            rw [HDS.out, List.length_append]
            unfold part
            simp
            omega
          rw [e1, e2]
          exact hown4
        · obtain rfl : k = ss.length := by omega
          rw [List.take_length] at hown
          have hcv := convert_own wr w.heap.size v (joined ss) hown
          have HB := Lib.hid hb
          clear hb hown
          go_wp2
          go_ret
          exact ⟨rfl, HB.out⟩

theorem list_ref_any (A : Option Addr) (c : Nat) (ss : List ByteArray) (w : World) (hs : Strs w w.heap.size A ss) (hn : ss.length ≤ maxLen) (hlen : (joined ss).length ≤ 140737488355328) (hroom : room ss ≤ 140737488355328) :
    Calls Tryd.prog 44 #[.slice A ss.length c] w fun e w' => e = .returned (.string ⟨(Dg.sum (joined ss)).toArray⟩) ∧ Below w.heap.size w w' := by
  have hj : (⟨(joined ss).toArray⟩ : ByteArray).size ≤ 140737488355328 := by
    rw [bsize]
    exact hlen
  go_enter Tryd.func44, Tryd.ntmps44
  go_wp2_with fail
  refine (joined_ref_any A c ss w hs hn hlen hroom).mono ?_
  rintro e w1 ⟨rfl, hb1⟩
  go_wp2_with fail
  refine (rsum_any _ w1 hj).mono ?_
  rintro e w2 ⟨rfl, rfl⟩
  go_wp2
  go_ret
  exact ⟨rfl, hb1⟩
end Go.Proofs.YtdlmbpoihnifiaaDoor
