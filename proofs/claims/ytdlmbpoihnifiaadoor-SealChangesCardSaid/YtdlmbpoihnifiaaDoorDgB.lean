/- The digest's blocks: take and number. -/
import Derived.Test.YtdlmbpoihnifiaaDoorProg
import Derived.Test.YtdlmbpoihnifiaaDoorDgMath
import Derived.Test.YtdlmbpoihnifiaaDoorDgA
import Derived.WalkKit
import Derived.Below
import Derived.LoopTactic
import Derived.Outline
import Derived.Lib.Hide
import Derived.Laws.Rows
import Derived.Laws.CopyRow
import Derived.Laws.CopyOwn
import Derived.Lib.LazyBuf
import Derived.Deep.RegionLaw
import Derived.Deep.WholeRow
import Derived.Laws.BitsAllLaws
namespace Go.Proofs.YtdlmbpoihnifiaaDoor
open Go.RowKit
set_option maxRecDepth 100000

def bytesV (l : List UInt8) : List Value := l.map fun b => Value.int .u8 b.toNat

def first8 (l : List UInt8) : List UInt8 := (l ++ List.replicate 8 0).take 8

theorem first8_length (l : List UInt8) : (first8 l).length = 8 := by simp [first8]

/-- 'copy(b[:], s)', b an array of 8 zeros, s whatever: its first 8 bytes, or all of them, go over. -/
theorem run_copy8 {P : Program} (w : World) (dT sT ty elem : TypeId) (g : Nat) (t : ByteArray) (T : TypeId)
    (hu : P.underlying dT = some (.slice elem)) (hs : (P.info? elem).map (·.size) = some 1) (hg : w.heap[g]? = some (.cells (bytesV (List.replicate 8 0)).toArray T (0, 0))) :
    (Builtin.copy_ #[dT, sT] ty #[.slice (some ⟨g, 0, none⟩) 8 8, .string t]).run P w =
      .ok (goInt (min t.size 8)) (w.setRow g (bytesV (first8 t.data.toList)).toArray) := by
  have hsz : t.data.toList.length = t.size := by simp
  have hlen : (bytesV (t.data.toList.take 8)).length = min t.size 8 := by simp [bytesV]; omega
  have hst := run_storeCells_at P g 0 T (bytesV (t.data.toList.take 8)) 0 _ w hg (by rw [hlen]; simp [bytesV]; omega) (by
    intro v hv
    simp only [bytesV, List.mem_map] at hv
    obtain ⟨b, _, rfl⟩ := hv
    rfl)
  rw [hlen] at hst
  simp only [Nat.add_zero] at hst
  have htk : List.take (Nat.min t.size 8) (List.map (fun b : UInt8 => Value.int IntKind.u8 (b.toNat : Int)) t.data.toList) = bytesV (t.data.toList.take 8) := by
    show _ = List.map _ _
    rw [List.map_take]
    rcases Nat.le_total t.size 8 with h | h
    · rw [show Nat.min t.size 8 = t.size from Nat.min_eq_left h, List.take_of_length_le (by simp), List.take_of_length_le (by simp; omega)]
    · rw [show Nat.min t.size 8 = 8 from Nat.min_eq_right h]
  have hres : ((bytesV (List.replicate 8 0)).toArray.toList.take 0 ++ bytesV (t.data.toList.take 8) ++ (bytesV (List.replicate 8 0)).toArray.toList.drop (0 + min t.size 8)) = bytesV (first8 t.data.toList) := by
    simp only [List.take_zero, List.nil_append, Nat.zero_add, bytesV, first8, ← List.map_drop, ← List.map_append]
    congr 1
    rw [List.take_append, List.drop_replicate, List.take_replicate]
    congr 2
    simp
    omega
  rw [hres] at hst
  cases hq : P.info? elem with
  | none => simp [hq] at hs
  | some i =>
    simp [Builtin.copy_, run_underlying hu, Builtin.lenOf, Builtin.firstCells, sizeOf, typeInfo, hq]
    rw [htk, hst]
    simp [Result.andThen]
    congr 1
    show ((min t.size 8 : Nat) : Int) = _
    omega

/-- .. as one step of a region that draws. -/
theorem step_copy8 {P : Program} {ops : Array Oper} {o : Oper} {a : Act} {w : World} {K : Act → World → Prop} {Q : Exit → Act → World → Prop} {E : Prop}
    (hg : o.guard = none) (d x : Operand) (dT sT : TypeId) (hop : o.op = Op.call { callee := Callee.builtin Builtin.copy, args := #[d, x], argTypes := #[dT, sT] })
    (elem : TypeId) (hu : P.underlying dT = some (.slice elem)) (hs : (P.info? elem).map (·.size) = some 1)
    (g : Nat) (hd : a.eval d = .slice (some ⟨g, 0, none⟩) 8 8) (t : ByteArray) (hx : a.eval x = .string t) (T : TypeId)
    (hh : w.heap[g]? = some (.cells (bytesV (List.replicate 8 0)).toArray T (0, 0)))
    (hK : K (a.put o.dst (goInt (min t.size 8))) (w.setRow g (bytesV (first8 t.data.toList)).toArray)) :
    if Region.wanted o (yielded ops a.tmps) = true then Oper.wp P o a w K Q else E := by
  have hw : Region.wanted o (yielded ops a.tmps) = true := by simp [Region.wanted, hg]
  rw [if_pos hw]
  have hrun := run_copy8 (P := P) w dT sT o.type elem g t T hu hs hh
  unfold Oper.wp
  simp [execOp, hop, resolve, invoke, builtin, hd, hx, hrun, Result.andThen]
  exact hK

theorem take_any (s : ByteArray) (i : Nat) (w : World) (hs : s.size ≤ maxLen) (hi : 8 * i ≤ s.size) :
    Calls Tryd.prog 87 #[.string s, .int .i64 (i : Int)] w fun e w' => e = .returned (.agg (bytesV (first8 (s.data.toList.drop (8 * i)))).toArray) ∧ Below w.heap.size w w' := by
  unfold maxLen at hs
  have w1 : IntKind.i64.wrap ((i : Int) * 8) = (i : Int) * 8 := by rw [IntKind.wrap_i64]; omega
  have w2 : (0 : Int) ≤ (i : Int) * 8 := by omega
  have w3 : (i : Int) * 8 ≤ (s.size : Int) := by omega
  have w4 : ((i : Int) * 8).toNat = i * 8 := by omega
  go_enter Tryd.func87, Tryd.ntmps87
  go_wp2
  go_region_law (refine step_copy8 rfl (.tmp 6) (.tmp 10) _ _ rfl 5 Tryd.underlying83 (by kernel_rfl) (w.heap.size + 1) rfl _ rfl 102 (heap_alloc2_new w _ _) ?_)
  have e : first8 (List.take (s.size - i * 8) (List.drop (i * 8) s.data.toList)) = first8 (s.data.toList.drop (8 * i)) := by
    rw [List.take_of_length_le (by simp), Nat.mul_comm]
  have hl8 := first8_length (List.take (s.size - i * 8) (List.drop (i * 8) s.data.toList))
  generalize first8 (List.take (s.size - i * 8) (List.drop (i * 8) s.data.toList)) = L at hl8 e ⊢
  have HE := Lib.hid e
  have hz : (bytesV L).toArray.size = 8 := by simpa [bytesV] using hl8
  have h1 : (bytesV L).toArray.all (·.oneCell') = true := by
    simp [bytesV, Value.oneCell']
  have hi50 : (Tryd.prog.info? 102).map (·.size) = some (bytesV L).toArray.size := by rw [hz]; kernel_rfl
  generalize hV : (bytesV L).toArray = V at hz h1 hi50 ⊢
  have HV := Lib.hid hV
  have HZ := Lib.hid hz
  have H1 := Lib.hid h1
  have HI := Lib.hid hi50
  clear e hl8 hz h1 hi50 hV
  go_wp2_with (first
    | (refine wpList_load_row rfl _ _ rfl (w.heap.size + 1) rfl 102 _ (0, 0) _ (setRow_heap _ _ _ _ _ _ (heap_alloc2_new w _ _)) Tryd.underlying102 rfl HI.out ?_)
    | (refine wpList_store_row rfl _ _ _ rfl w.heap.size _ rfl rfl 102 _ ((setRow_other _ _ _ _ (by omega)).trans (heap_alloc2_old w _ _)) HI.out HZ.out.symm H1.out ?_))
  refine bodyPost_ret (results_cell_row rfl _ _ w.heap.size 102 V (0, 0) _ rfl (setRow_heap _ _ _ _ _ _ ((setRow_other _ _ _ _ (by omega)).trans (heap_alloc2_old w _ _))) Tryd.underlying102 rfl HI.out) rfl ⟨?_, ?_⟩
  · rw [← HV.out, HE.out]
  · exact below_setRow (below_setRow (((Below.refl _ _).alloc (Nat.le_refl _) _).alloc (by simp) _).drew (by omega) _) (Nat.le_refl _) _

theorem or_byte (n b : Nat) (hn : n * 256 < 18446744073709551616) (hb : b < 256) : bits BinOp.or IntKind.u64 ((n : Int) * 256) (b : Int) = ((n * 256 + b : Nat) : Int) := by
  have h := u64_or_nat (n * 256) b hn (by omega)
  rw [Int.natCast_mul] at h
  rw [show ((n : Int) * 256) = (n : Int) * ((256 : Nat) : Int) from rfl, h]
  congr 1
  rw [← Nat.shiftLeft_eq n 8, ← Nat.shiftLeft_add_eq_or_of_lt (by omega)]

theorem num_first8 (l : List UInt8) : Dg.num (first8 l) 8 = Dg.num l 8 :=
  Dg.num_congr 8 fun j hj => by
    unfold first8
    simp only [List.getD_eq_getElem?_getD, List.getElem?_take, hj, if_true]
    by_cases h : j < l.length
    · rw [List.getElem?_append_left h]
    · rw [List.getElem?_append_right (by omega), List.getElem?_replicate, List.getElem?_eq_none (by omega)]
      split <;> rfl

theorem number_any (l : List UInt8) (w : World) (hl : l.length = 8) :
    Calls Tryd.prog 93 #[.agg (bytesV l).toArray] w fun e w' => e = .returned (.int .u64 ((Dg.num l 8 : Nat) : Int)) ∧ Below w.heap.size w w' := by
  have hz : (bytesV l).toArray.size = 8 := by simpa [bytesV] using hl
  have hi50 : (Tryd.prog.info? 102).map (·.size) = some (bytesV l).toArray.size := by rw [hz]; kernel_rfl
  have hx : ∀ (k : Nat), k < 8 → ∀ w : World, (Instr.index 102 (.agg (bytesV l).toArray) (.int .i64 (k : Int))).run Tryd.prog w = .ok (.int .u8 ((l.getD k 0).toNat : Int)) w := by
    intro k hk w
    have hk' : k < l.length := by omega
    simp [Instr.index, run_underlying Tryd.underlying102, bytesV, go_sem, hk, hk']
  generalize hV : (bytesV l).toArray = V at hz hi50 hx ⊢
  have HV := Lib.hid hV
  have HZ := Lib.hid hz
  have HI := Lib.hid hi50
  have HX := Lib.hid hx
  have HL := Lib.hid hl
  clear hl hz hi50 hV hx
  go_enter Tryd.func93, Tryd.ntmps93
  go_wp2_with (first
    | (refine wpList_load_row rfl _ _ rfl w.heap.size rfl 102 _ (0, 0) _ (heap_alloc_new w _) Tryd.underlying102 rfl HI.out ?_))
  go_loop [3, 7] (fun n i => ∃ k q : Nat, k ≤ 8 ∧ i = .int .i64 k ∧ n = .int .u64 (q : Int) ∧ q = Dg.num l k) (fun _ i => 8 - (intOf i).toNat)
  case atStart => exact ⟨0, 0, by omega, rfl, rfl, rfl⟩
  case round =>
    obtain ⟨k, q, hk, rfl, rfl, hq⟩ := hrel
    by_cases hlt : k < 8
    · have hb := Dg.num_lt l k
      have hp : 256 ^ k ≤ 256 ^ 7 := Nat.pow_le_pow_right (by omega) (by omega)
      have hq7 : q < 72057594037927936 := by rw [hq]; exact Nat.lt_of_lt_of_le hb hp
      have hidx := HX.out k hlt
      have hb8 := (l.getD k 0).toNat_lt
      have hnext : Dg.num l (k + 1) = q * 256 + (l.getD k 0).toNat := by rw [hq]; rfl
      have HN := Lib.hid hnext
      clear hq hb hp hnext
      generalize (l.getD k 0).toNat = b at *
      go_wp2
      exact ⟨⟨k + 1, q * 256 + b, by omega, by go_num, by rw [or_byte q b (by omega) (by omega)], HN.out.symm⟩, by simp [intOf]; omega⟩
    · obtain rfl : k = 8 := by omega
      have HQ := Lib.hid hq
      clear hq
      go_wp2
      go_ret
      exact ⟨ret_int (by rw [HQ.out]), (Below.refl _ _).alloc (Nat.le_refl _) _⟩
end Go.Proofs.YtdlmbpoihnifiaaDoor
