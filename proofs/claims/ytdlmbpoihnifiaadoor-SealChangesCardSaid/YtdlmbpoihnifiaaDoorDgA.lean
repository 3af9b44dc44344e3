/- The digest's leaves: mix of the program and of the reference return Dg.mix. -/
import Derived.Test.YtdlmbpoihnifiaaDoorProg
import Derived.Test.YtdlmbpoihnifiaaDoorDgMath
import Derived.WalkKit
import Derived.Laws.Bits64
import Derived.Below
import Derived.LoopTactic
import Derived.Outline
import Derived.Lib.Hide
import Derived.Laws.Rows
import Derived.Laws.IdiomStrings
namespace Go.Proofs.YtdlmbpoihnifiaaDoor
open Go.RowKit
set_option maxRecDepth 100000

theorem ret_int {k : IntKind} {a b : Int} (h : a = b) : Ending.returned (.int k a) = .returned (.int k b) := by rw [h]

theorem mul_u64 (x c : Nat) : IntKind.u64.wrap ((x : Int) * (c : Int)) = ((x * c % 18446744073709551616 : Nat) : Int) := by
  rw [IntKind.wrap_u64, Int.natCast_emod, Int.natCast_mul]; rfl

theorem mix_val (x : Nat) : bits BinOp.xor IntKind.u64 (IntKind.u64.wrap (bits BinOp.xor IntKind.u64 (IntKind.u64.wrap ((x : Int) * 2862933555777941757)) (IntKind.u64.wrap ((x : Int) * 2862933555777941757) / 4294967296) * 3935559000370003845))
    (IntKind.u64.wrap (bits BinOp.xor IntKind.u64 (IntKind.u64.wrap ((x : Int) * 2862933555777941757)) (IntKind.u64.wrap ((x : Int) * 2862933555777941757) / 4294967296) * 3935559000370003845) / 536870912) = ((Dg.mix x : Nat) : Int) := by
  have e1 : IntKind.u64.wrap ((x : Int) * 2862933555777941757) = ((x * 2862933555777941757 % 18446744073709551616 : Nat) : Int) := mul_u64 x 2862933555777941757
  rw [e1]
  have h1 : x * 2862933555777941757 % 18446744073709551616 < 18446744073709551616 := Nat.mod_lt _ (by decide)
  have e2 := mixStep_u64 (x * 2862933555777941757 % 18446744073709551616) 4294967296 3935559000370003845 h1
  have e2' : IntKind.u64.wrap (bits BinOp.xor IntKind.u64 ((x * 2862933555777941757 % 18446744073709551616 : Nat) : Int) (((x * 2862933555777941757 % 18446744073709551616 : Nat) : Int) / 4294967296) * 3935559000370003845) = _ := e2
  rw [e2']
  exact xorShift_u64 _ 536870912 (Nat.mod_lt _ (by decide))

theorem mix_any (x : Nat) (w : World) :
    Calls Tryd.prog 92 #[.int .u64 (x : Int)] w fun e w' => e = .returned (.int .u64 (Dg.mix x : Nat)) ∧ w = w' := by
  go_enter Tryd.func92, Tryd.ntmps92
  go_wp2
  go_ret
  exact ⟨ret_int (mix_val x), rfl⟩

theorem rmix_any (x : Nat) (w : World) :
    Calls Tryd.prog 50 #[.int .u64 (x : Int)] w fun e w' => e = .returned (.int .u64 (Dg.mix x : Nat)) ∧ w = w' := by
  go_enter Tryd.func50, Tryd.ntmps50
  go_wp2
  go_ret
  exact ⟨ret_int (mix_val x), rfl⟩

theorem count_any (s : ByteArray) (w : World) (hs : s.size ≤ maxLen) :
    Calls Tryd.prog 86 #[.string s] w fun e w' => e = .returned (.int .i64 ((s.size / 8 + 1 : Nat) : Int)) ∧ w = w' := by
  unfold maxLen at hs
  go_enter Tryd.func86, Tryd.ntmps86
  go_wp2
  go_ret
  exact ⟨rfl, rfl⟩

/-- After k rounds the new block holds the k lowest digits behind zeros. -/
structure HexW (w wr : World) (n k : Nat) : Prop where
  below : Below w.heap.size w wr
  heap : wr.heap[w.heap.size]? = some (.cells (((List.replicate (16 - k) 0 ++ Dg.low n k).map fun b : UInt8 => Value.int .u8 b.toNat).toArray) 100 (0, 0))

theorem HexW.cell {w wr : World} {n k : Nat} (h : HexW w wr n k) (hk : k < 16) : ∃ v, wr.cell? ⟨w.heap.size, 15 - k, none⟩ = some v := by
  have hl : (15 - k) < (((List.replicate (16 - k) 0 ++ Dg.low n k).map fun b : UInt8 => Value.int .u8 b.toNat).toArray).size := by
    simp; omega
  exact ⟨_, (by rw [cell_of_row wr w.heap.size (15 - k) _ _ (0, 0) h.heap]; exact Array.getElem?_eq_getElem hl)⟩
theorem HexW.frozen {w wr : World} {n k : Nat} (h : HexW w wr n k) (i : Nat) : wr.frozen? ⟨w.heap.size, i, none⟩ = false := by
  simp [World.frozen?, h.heap]

theorem HexW.step {w wr : World} {n k q : Nat} (h : HexW w wr n k) (hk : k < 16) (hq : q = n / 16 ^ k) (c : UInt8) (hc : c = Dg.dig (q % 16)) :
    HexW w (wr.setCell ⟨w.heap.size, 15 - k, none⟩ (.int .u8 c.toNat)) n (k + 1) := by
  refine ⟨h.below.setCell (Nat.le_refl _) _, ?_⟩
  have hh := h.heap
  have hs := Dg.set_low n k hk
  generalize (List.replicate (16 - k) 0 ++ Dg.low n k) = xs at hh hs
  generalize (List.replicate (16 - (k + 1)) 0 ++ Dg.low n (k + 1)) = ys at hs
  subst hs
  simp [World.setCell, Array.getElem?_modify, hh, hc, hq]

theorem hex_any (n : Nat) (w : World) (hn : n < 18446744073709551616) :
    Calls Tryd.prog 84 #[.int .u64 (n : Int)] w fun e w' => e = .returned (.string ⟨(Dg.low n 16).toArray⟩) ∧ Below w.heap.size w w' := by
  go_enter Tryd.func84, Tryd.ntmps84
  go_wp2
  go_loopw [0, 5] (fun m i wr => ∃ k q : Nat, k ≤ 16 ∧ q ≤ n ∧ i = .int .i64 k ∧ m = .int .u64 (q : Int) ∧ q = n / 16 ^ k ∧ HexW w wr n k) (fun _ i _ => 16 - (intOf i).toNat)
  case atStart => 
    exact ⟨0, n, by omega, Nat.le_refl _, rfl, rfl, by simp, (Below.refl _ _).alloc (Nat.le_refl _) _, heap_alloc_new w _⟩
  case round =>
    obtain ⟨k, q, hk, hqn, rfl, rfl, hq, hb⟩ := hrel
    have HQ := Lib.hid hq
    clear hq
    by_cases hlt : k < 16
    · obtain ⟨v, hc⟩ := hb.cell hlt
      have hf := hb.frozen (15 - k)
      go_wp2
      refine ⟨⟨k + 1, q / 16, by omega, by omega, by go_num, rfl, ?_, hb.step hlt HQ.out _ ?_⟩, by simp [intOf]; omega⟩
      · rw [HQ.out, Nat.pow_succ, Nat.div_div_eq_div_mul]
      · have := Dg.dig_tab (q % 16) (by omega)
        obtain ⟨_, h⟩ := Array.getElem?_eq_some_iff.1 this
        exact h
    · obtain rfl : k = 16 := by omega
      have hcv := run_convert_bytes_back (P := Tryd.prog) wr 83 9 5 ⟨w.heap.size, 0, none⟩ 16 (Dg.low n 16) Tryd.underlying83 Tryd.underlying5 Tryd.underlying9 (fun j hj => by
        have e : (⟨w.heap.size, 0, none⟩ : Addr).add j = ⟨w.heap.size, j, none⟩ := by unfold Addr.add; split <;> simp_all
        have hh := hb.heap
        simp only [Nat.sub_self, List.replicate_zero, List.nil_append] at hh
        rw [e, cell_of_row wr _ j _ _ _ hh]
        simp
        exact ⟨_, List.getElem?_eq_getElem hj, rfl⟩)
      rw [Dg.low_length] at hcv
      have hbb := hb.below
      clear hb
      go_wp2
      go_ret
      exact ⟨rfl, hbb⟩
end Go.Proofs.YtdlmbpoihnifiaaDoor
