/- The program's digits: a function that is ranged over (layer 3). -/
import Derived.Test.YtdlmbpoihnifiaaDoorSeQ
import Derived.Test.YtdlmbpoihnifiaaDoorDgC
import Derived.RangeFuncNested
import Derived.RangeFuncBound
import Derived.RangeFuncCalls
import Derived.RangeFuncLeaves
import Derived.Shelf.Abstract
import Derived.Shelf.RegionOpen
import Derived.WalkKit
import Derived.OwnWalkIn
import Derived.TacticsInMore
import Derived.LoopNIn
import Derived.LoopIn
import Derived.Below
import Derived.Lib.Hide
set_option linter.unusedSimpArgs false
set_option linter.unusedVariables false
namespace Go.Proofs.YtdlmbpoihnifiaaDoor
open Go.RowKit Go.Shelf
set_option maxRecDepth 100000
attribute [local go_sem] Oper.semAt_some

/-- What a round is handed: the number of a digit, and the digit. -/
abbrev Dig := { p : Nat × Nat // p.1 < 18 ∧ p.2 ≤ 15 }
abbrev encs (p : Dig) : Array Value := #[.int .i64 (p.1.1 : Int), .int .i64 (p.1.2 : Int)]
def digs18 (m : ByteArray) : List (Nat × Nat) := (List.range 18).map fun k => (k, (Se.ds m).getD k 0)

theorem idx_hv (c : UInt8) (hc : Dg.isDig c = true) (w : World) :
    Calls Tryd.prog 45 #[.string ⟨#[48, 49, 50, 51, 52, 53, 54, 55, 56, 57, 97, 98, 99, 100, 101, 102]⟩, .int .u8 (c.toNat : Int)] w fun e w' => e = .returned (.int .i64 ((Se.hv c : Nat) : Int)) ∧ w = w' := by
  refine (Tryd.strings_IndexByte _ _ w).mono ?_
  rintro e w' ⟨rfl, rfl⟩
  have e1 : ((c.toNat : Int)).toNat.toUInt8 = c := by simp
  rw [e1]
  have : ∀ n : Fin 256, Dg.isDig (UInt8.ofNat n.1) = true → Lib.indexByte [48, 49, 50, 51, 52, 53, 54, 55, 56, 57, 97, 98, 99, 100, 101, 102] (UInt8.ofNat n.1) = ((Se.hv (UInt8.ofNat n.1) : Nat) : Int) := by decide +kernel
  have h := this ⟨c.toNat, c.toNat_lt⟩
  simp only [UInt8.ofNat_toNat] at h
  exact ⟨by rw [← h hc], rfl⟩

theorem digits_made (m : ByteArray) (w : World) :
    Calls Tryd.prog 63 #[.string m] w fun e w' => e = .returned (.func (.func 80) #[] #[.pointer (some ⟨w.heap.size, 0, none⟩)]) ∧ w' = w.alloc (.cells #[.string m] 9) := by
  go_enter Tryd.func63, Tryd.ntmps63
  go_wp2
  go_ret
  exact ⟨rfl, rfl⟩

theorem below_grown {a b : World} (h : Below a.heap.size a b) : a.grownBy b none := ⟨h.os, h.tape, h.output, h.size, fun i hi _ => h.block i hi⟩

theorem rest_take (l : List Nat) (k : Nat) (h : k < l.length) : ((l.take (k + 1)).map fun d => 15 - d).sum = ((l.take k).map fun d => 15 - d).sum + (15 - l.getD k 0) := by
  rw [take_snoc l 0 k h, List.map_append, List.sum_append]
  simp

set_option maxHeartbeats 2000000 in
theorem digits1_stops (n : Nat) (hn : 1 ≤ n) (Bn n₀ : Nat) (m : ByteArray) (hm : m.size ≤ maxLen) (w : World) (hBn : Bn < w.heap.size) (hc : w.cell? ⟨Bn, 0, none⟩ = some (.string m)) :
    SeqStopsK Fence.wide n Tryd.prog 80 #[.pointer (some ⟨Bn, 0, none⟩)] encs (Below n₀) (fun xs => xs.map Subtype.val = digs18 m) (fun _ => True) 18 w := fun l J Jx W hW hJ hJx hY h0 => by
  have hcW : W.cell? ⟨Bn, 0, none⟩ = some (.string m) := (hW.cell (p := ⟨Bn, 0, none⟩) hBn).trans hc
  have HS := Lib.hid (fun w' => callsIn_wide (n := n - 1) |>.2 (sum_any m w' hm))
  have hlen := Dg.sum_length m.data.toList
  have hall := Dg.low_all (Dg.state m.data.toList) 16
  have hds : Se.ds m = (Dg.sum m.data.toList).map Se.hv ++ [(((Dg.sum m.data.toList).map Se.hv).map fun d => 15 - d).sum / 16, (((Dg.sum m.data.toList).map Se.hv).map fun d => 15 - d).sum % 16] := rfl
  have hrl : ∀ k, ((((Dg.sum m.data.toList).map Se.hv).take k).map fun d => 15 - d).sum ≤ 240 := fun k => by
    have := Se.sum_le ((((Dg.sum m.data.toList).map Se.hv).take k).map fun d => 15 - d) 15 (fun d hd => by obtain ⟨x, _, rfl⟩ := List.mem_map.1 hd; omega)
    rw [List.length_map, List.length_take, List.length_map, hlen] at this
    omega
  change ((Dg.sum m.data.toList).all Dg.isDig) = true at hall
  unfold digs18
  rw [hds]
  clear hds
  obtain ⟨sb, hsb⟩ : ∃ sb : ByteArray, Dg.sum m.data.toList = sb.data.toList := ⟨⟨(Dg.sum m.data.toList).toArray⟩, by simp⟩
  rw [hsb] at hlen hall hrl HS ⊢
  have hsz : sb.size = 16 := by simpa using hlen
  have HS2 := Lib.hid (fun w' => by have := HS.out w'; simpa only [Array.toArray_toList] using this)
  clear hlen hsb HS
  obtain ⟨hx, hhx⟩ : ∃ hx, hx = sb.data.toList.map Se.hv := ⟨_, rfl⟩
  rw [← hhx] at hrl ⊢
  have hxl : hx.length = 16 := by rw [hhx]; simpa using hsz
  have HX := Lib.hid hhx
  clear hhx
  refine callsIn_of_wp Tryd.func80 rfl trivial ?_ rfl
  simp only [Tryd.ntmps80, List.size_toArray, List.length_cons, List.length_nil, Nat.reduceAdd, Nat.reduceSub, Array.replicate_succ, Array.replicate_zero, List.push_toArray, List.append_toArray, List.nil_append, List.cons_append]
  gi_wp2_with (refine ⟨trivial, ?_⟩; gi_at_call 78; refine (HS2.out _).mono ?_; rintro e w1 ⟨rfl, hb1⟩)
  have hJ1 : J [] w1 := hJ [] W w1 none h0 (below_grown hb1) (fun r e => by cases e)
  have HA := Lib.hid hall
  have HR := Lib.hid hrl
  clear hall hrl hb1 h0 hcW hc hW
  gi_loopw [4, 5, 6, 11] (fun cs _ _ i wr => ∃ k c : Nat, k ≤ 16 ∧ i = .int .i64 (k : Int) ∧ cs = .int .i64 (c : Int) ∧ Hid (c = ((hx.take k).map fun d => 15 - d).sum) ∧ c ≤ 240 ∧ ∃ pre : List Dig, Hid (pre.map Subtype.val = (List.range k).map fun j => (j, hx.getD j 0)) ∧ pre.length = k ∧ J pre wr) (fun _ _ _ i _ => 16 - (intOf i).toNat)
  case atStart => exact ⟨0, 0, by omega, rfl, rfl, Lib.hid rfl, by omega, [], Lib.hid rfl, rfl, hJ1⟩
  case round =>
    obtain ⟨k, c, hk, rfl, rfl, HC, hc, pre, HP, hpl, hJk⟩ := hrel
    by_cases hlt : k < 16
    · have hd : Dg.isDig sb[k] = true := List.all_eq_true.1 HA.out _ (by
        have : sb[k] = sb.data.toList[k]'(by simpa using (show k < sb.size by omega)) := rfl
        rw [this]
        exact List.getElem_mem _)
      have hget : hx.getD k 0 = Se.hv sb[k] := by
        rw [HX.out, List.getD_eq_getElem?_getD, List.getElem?_map, List.getElem?_eq_getElem (by simpa using (show k < sb.size by omega))]
        rfl
      have hv15 := Se.hv_lt hd
      have hdg : k < 18 ∧ Se.hv sb[k] ≤ 15 := ⟨by omega, hv15⟩
      have HI := Lib.hid (fun w' => callsIn_wide (n := n - 1) |>.2 (idx_hv sb[k] hd w'))
      obtain ⟨fn, tmps, assign, body, hy, hR⟩ := hY pre ⟨(k, Se.hv sb[k]), hdg⟩ wr hJk (by omega)
      have HM := Lib.hid (show (List.range (k + 1)).map (fun j => (j, hx.getD j 0)) = (List.range k).map (fun j => (j, hx.getD j 0)) ++ [(k, Se.hv sb[k])] by rw [List.range_succ, List.map_append, ← hget]; rfl)
      have HS' := Lib.hid (show ((hx.take (k + 1)).map fun d => 15 - d).sum = ((hx.take k).map fun d => 15 - d).sum + (15 - Se.hv sb[k]) by rw [rest_take hx k (by omega), hget])
      have HRk := HR.out (k + 1)
      rw [HS'.out, ← HC.out] at HRk
      dsimp only [encs] at hy
      clear hget hd
      gi_wp2_with (refine ⟨trivial, ?_⟩; gi_at_call 45; refine (HI.out _).mono ?_; rintro e w1 ⟨rfl, rfl⟩)
      refine hR.mono ?_
      rintro e W3 (⟨rfl, hJ3, hk3⟩ | ⟨rfl, hJx3⟩)
      · gi_wp2
        go_roundw
        case rel => exact ⟨k + 1, c + (15 - Se.hv sb[k]), by omega, by go_num, by go_num, Lib.hid (by rw [HS'.out, HC.out]), by omega, pre ++ [⟨(k, Se.hv sb[k]), hdg⟩], Lib.hid (by rw [HM.out, List.map_append, HP.out]; rfl), by simp [hpl], hJ3⟩
        case measure => simp [intOf]; omega
      · gi_wp2
        refine bodyPost_ret (results_none rfl _ _ _) rfl ?_
        exact ⟨⟨_, rfl⟩, .inr ⟨_, trivial, hJx3⟩⟩
    · obtain rfl : k = 16 := by omega
      have d16 : 16 < 18 ∧ c / 16 ≤ 15 := by omega
      have d17 : 17 < 18 ∧ c % 16 ≤ 15 := by omega
      obtain ⟨f1, t1, a1, b1, hy1, hR1⟩ := hY pre ⟨(16, c / 16), d16⟩ wr hJk (by omega)
      dsimp only [encs] at hy1
      rw [show ((16 : Nat) : Int) = 16 from rfl, show ((c / 16 : Nat) : Int) = (c : Int) / 16 by omega] at hy1
      have HC' : Hid (c = (hx.map fun d => 15 - d).sum) := by
        have := HC.out
        rw [List.take_of_length_le (by omega)] at this
        exact Lib.hid this
      have hend : (List.range 18).map (fun k => (k, (hx ++ [(hx.map fun d => 15 - d).sum / 16, (hx.map fun d => 15 - d).sum % 16]).getD k 0)) = (List.range 16).map (fun j => (j, hx.getD j 0)) ++ [(16, c / 16)] ++ [(17, c % 16)] := by
        rw [← HC'.out]
        rw [List.range_succ, List.range_succ, List.map_append, List.map_append]
        congr 1
        · congr 1
          · apply List.map_congr_left
            intro k hk
            rw [Se.getD_lo _ _ _ _ (by have := List.mem_range.1 hk; omega)]
          · simp only [List.map_cons, List.map_nil, Se.getD_16 _ _ _ hxl]
        · simp only [List.map_cons, List.map_nil, Se.getD_17 _ _ _ hxl]
      have HE := Lib.hid hend
      clear hend
      gi_wp2
      refine hR1.mono ?_
      rintro e W3 (⟨rfl, hJ3, hk3⟩ | ⟨rfl, hJx3⟩)
      · obtain ⟨f2, t2, a2, b2, hy2, hR2⟩ := hY _ ⟨(17, c % 16), d17⟩ W3 hJ3 (by simp [hpl])
        dsimp only [encs] at hy2
        rw [show ((17 : Nat) : Int) = 17 from rfl, show ((c % 16 : Nat) : Int) = (c : Int) % 16 by omega] at hy2
        gi_wp2
        refine hR2.mono ?_
        rintro e W4 (⟨rfl, hJ4, hk4⟩ | ⟨rfl, hJx4⟩)
        · gi_wp2
          go_end0
          exact ⟨⟨_, rfl⟩, .inl ⟨_, by rw [HE.out, List.map_append, List.map_append, HP.out]; rfl, hJ4⟩⟩
        · gi_wp2
          go_end0
          exact ⟨⟨_, rfl⟩, .inr ⟨_, trivial, hJx4⟩⟩
      · gi_wp2
        go_end0
        exact ⟨⟨_, rfl⟩, .inr ⟨_, trivial, hJx3⟩⟩
end Go.Proofs.YtdlmbpoihnifiaaDoor
