/- firstSize, leafRoot and node of the program; a part of a slice of strings. -/
import Derived.Test.YtdlmbpoihnifiaaDoorProg
import Derived.Test.YtdlmbpoihnifiaaDoorDgE
import Derived.Test.YtdlmbpoihnifiaaDoorFewW
import Derived.Test.YtdlmbpoihnifiaaDoorTrMath
import Derived.WalkKit
import Derived.Below
import Derived.LoopTactic
import Derived.Outline
import Derived.Lib.Hide
import Derived.Laws.Rows
import Derived.Deep.Slices
namespace Go.Proofs.YtdlmbpoihnifiaaDoor
open Go.RowKit
set_option maxRecDepth 100000

theorem Bt {a b c : World} (h : Below a.heap.size a b) (k : Below b.heap.size b c) : Below a.heap.size a c := h.trans (k.mono h.size)
theorem Bd (a : World) : Below a.heap.size a a.drew := (Below.refl _ _).drew
theorem Pow.bt {w w' : World} (h : Pow w.heap.size w) (hb : Below w.heap.size w w') : Pow w'.heap.size w' := ⟨(h.below hb (Nat.le_refl _)).1, Nat.lt_of_lt_of_le h.2 hb.size⟩
theorem Strs.bt {w w' : World} {A : Option Addr} {ss : List ByteArray} (h : Strs w w.heap.size A ss) (hb : Below w.heap.size w w') : Strs w' w'.heap.size A ss := fun k hk => by
  obtain ⟨ad, e, hlt, hc⟩ := h.below hb (Nat.le_refl _) k hk
  exact ⟨ad, e, Nat.lt_of_lt_of_le hlt hb.size, hc⟩
theorem cell_bt {w w' : World} {a : Addr} {v : Value} (h : w.cell? a = some v) (hb : Below w.heap.size w w') : w'.cell? a = some v := (hb.cell (block_lt_of_cell h)).trans h
theorem add_add' (a : Addr) (i j : Nat) : (a.add i).add j = a.add (i + j) := Go.Deep.add_add a i j

theorem Strs.take {w : World} {B : Nat} {A : Option Addr} {ss : List ByteArray} (h : Strs w B A ss) (k : Nat) : Strs w B A (ss.take k) := fun j hj => by
  rw [List.length_take] at hj
  obtain ⟨ad, rfl, hlt, hc⟩ := h j (by omega)
  refine ⟨ad, rfl, hlt, ?_⟩
  rw [hc, List.getD_eq_getElem?_getD, List.getD_eq_getElem?_getD, List.getElem?_take_of_lt (by omega)]

theorem Strs.drop {w : World} {B : Nat} {ad : Addr} {ss : List ByteArray} (h : Strs w B (some ad) ss) (k : Nat) : Strs w B (some (ad.add k)) (ss.drop k) := fun j hj => by
  rw [List.length_drop] at hj
  obtain ⟨ad', e, hlt, hc⟩ := h (k + j) (by omega)
  cases e
  refine ⟨_, rfl, by rwa [add_block], ?_⟩
  rw [add_add', hc, List.getD_eq_getElem?_getD, List.getD_eq_getElem?_getD, List.getElem?_drop]

theorem strs_new (w : World) (ss : List ByteArray) (T : TypeId) : Strs (w.alloc (.cells (ss.map Value.string).toArray T)) (w.alloc (.cells (ss.map Value.string).toArray T)).heap.size (some ⟨w.heap.size, 0, none⟩) ss := fun k hk => by
  refine ⟨_, rfl, by simp, ?_⟩
  have e : (⟨w.heap.size, 0, none⟩ : Addr).add k = ⟨w.heap.size, k, none⟩ := by
    unfold Addr.add
    split <;> simp_all
  rw [e]
  simp [hk]

theorem joined_bound (B : Nat) (ss : List ByteArray) (h : ∀ s ∈ ss, s.size ≤ B) (hB : B ≤ 1000000000) (hl : ss.length ≤ 3) : (joined ss).length ≤ 140737488355328 := by
  have h1 := joined_le_room ss fun s hs => by have := h s hs; omega
  have h2 := room_le B ss h
  have h3 : ss.length * (B + 21) ≤ 3 * (B + 21) := Nat.mul_le_mul_right _ hl
  omega

theorem firstSize_any (n : Nat) (w : World) (h2 : 2 ≤ n) (hn : n ≤ maxLen) :
    Calls Tryd.prog 54 #[.int .i64 (n : Int)] w fun e w' => e = .returned (.int .i64 ((Tr.half n : Nat) : Int)) ∧ w = w' := by
  unfold maxLen at hn
  go_enter Tryd.func54, Tryd.ntmps54
  go_wp2
  go_loop [3] (fun i => ∃ j k : Nat, k = 2 ^ j ∧ k < n ∧ i = .int .i64 (k : Int)) (fun i => n - (intOf i).toNat)
  case atStart => exact ⟨0, 1, rfl, by omega, rfl⟩
  case round =>
    obtain ⟨j, k, hk, hlt, rfl⟩ := hrel
    have hp : 0 < k := by rw [hk]; exact Nat.pow_pos (by omega)
    have HK := Lib.hid hk
    clear hk
    by_cases h : k + k < n
    · go_wp2
      refine ⟨⟨j + 1, k * 2, by rw [Nat.pow_succ, ← HK.out], by omega, by go_num⟩, by simp [intOf]; omega⟩
    · have hf : Tr.half n = k := by rw [HK.out]; exact Tr.half_eq (by rw [← HK.out]; exact hlt) (by rw [← HK.out]; omega)
      have HF := Lib.hid hf
      clear hf
      go_wp2
      go_ret
      exact ⟨ret_int (by rw [HF.out]), rfl⟩

theorem leafRoot_any (x : ByteArray) (w : World) (hx : x.size ≤ 1000000000) (hp : Pow w.heap.size w) :
    Calls Tryd.prog 53 #[.string x] w fun e w' => e = .returned (.string (Tr.leaf x)) ∧ Below w.heap.size w w' := by
  have hs := strs_new w [⟨#[108, 101, 97, 102]⟩, x] 9
  have hb : Below w.heap.size w (w.alloc (.cells #[.string ⟨#[108, 101, 97, 102]⟩, .string x] 9)) := (Below.refl _ _).alloc (Nat.le_refl _) _
  have hpa := hp.below hb (Nat.le_refl _)
  have hl := list_any (some ⟨w.heap.size, 0, none⟩) 2 [⟨#[108, 101, 97, 102]⟩, x] _ hs (by unfold maxLen; simp) (joined_bound 1000000000 _ (by intro s hs; simp at hs; rcases hs with rfl | rfl; (simp [ByteArray.size]); exact hx) (by omega) (by simp)) ⟨hpa.1, Nat.lt_of_lt_of_le hpa.2 hb.size⟩
  have HL := Lib.hid hl
  clear hl hs
  go_enter Tryd.func53, Tryd.ntmps53
  go_wp2_with fail
  refine HL.out.mono ?_
  rintro e w1 ⟨rfl, hb1⟩
  go_wp2
  go_ret
  exact ⟨rfl, hb.trans (hb1.mono hb.size)⟩

theorem node_any (x y : ByteArray) (w : World) (hx : x.size ≤ 1000000000) (hy : y.size ≤ 1000000000) (hp : Pow w.heap.size w) :
    Calls Tryd.prog 55 #[.string x, .string y] w fun e w' => e = .returned (.string (Tr.node x y)) ∧ Below w.heap.size w w' := by
  have hs := strs_new w [⟨#[110, 111, 100, 101]⟩, x, y] 9
  have hb : Below w.heap.size w (w.alloc (.cells #[.string ⟨#[110, 111, 100, 101]⟩, .string x, .string y] 9)) := (Below.refl _ _).alloc (Nat.le_refl _) _
  have hpa := hp.below hb (Nat.le_refl _)
  have hl := list_any (some ⟨w.heap.size, 0, none⟩) 3 [⟨#[110, 111, 100, 101]⟩, x, y] _ hs (by unfold maxLen; simp) (joined_bound 1000000000 _ (by intro s hs; simp at hs; rcases hs with rfl | rfl | rfl; (simp [ByteArray.size]); exact hx; exact hy) (by omega) (by simp)) ⟨hpa.1, Nat.lt_of_lt_of_le hpa.2 hb.size⟩
  have HL := Lib.hid hl
  clear hl hs
  go_enter Tryd.func55, Tryd.ntmps55
  go_wp2_with fail
  refine HL.out.mono ?_
  rintro e w1 ⟨rfl, hb1⟩
  go_wp2
  go_ret
  exact ⟨rfl, hb.trans (hb1.mono hb.size)⟩
end Go.Proofs.YtdlmbpoihnifiaaDoor
