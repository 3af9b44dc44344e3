/- The reference's Half, leaf, node, Empty and Root. -/
import Derived.Test.YtdlmbpoihnifiaaDoorTrA
import Derived.Test.YtdlmbpoihnifiaaDoorDgV
import Derived.Test.YtdlmbpoihnifiaaDoorFewW
import Derived.WalkKit
import Derived.Below
import Derived.LoopTactic
import Derived.Outline
import Derived.Lib.Hide
import Derived.Deep.RegionHeld3
import Derived.Deep.DrawnRows
namespace Go.Proofs.YtdlmbpoihnifiaaDoor
open Go.RowKit
set_option maxRecDepth 100000
attribute [local go_sem ↓] Go.wp_at_zero Go.wp_at_succ

theorem room_bound (B : Nat) (ss : List ByteArray) (h : ∀ s ∈ ss, s.size ≤ B) (hB : B ≤ 1000000000) (hl : ss.length ≤ 3) : room ss ≤ 140737488355328 := by
  have h2 := room_le B ss h
  have h3 : ss.length * (B + 21) ≤ 3 * (B + 21) := Nat.mul_le_mul_right _ hl
  omega

/-- The reference's List at a literal list. -/
theorem rlist_lit (w : World) (ss : List ByteArray) (hz : ∀ s ∈ ss, s.size ≤ 1000000000) (hl : ss.length ≤ 3) :
    Calls Tryd.prog 44 #[.slice (some ⟨w.heap.size, 0, none⟩) ss.length ss.length] (w.alloc (.cells (ss.map Value.string).toArray 9)) fun e w' => e = .returned (.string (Tr.dg ss)) ∧ Below w.heap.size w w' := by
  have hb : Below w.heap.size w (w.alloc (.cells (ss.map Value.string).toArray 9)) := (Below.refl _ _).alloc (Nat.le_refl _) _
  refine (list_ref_any _ ss.length ss _ (strs_new w ss _) (by unfold maxLen; omega) (joined_bound 1000000000 ss hz (Nat.le_refl _) hl) (room_bound 1000000000 ss hz (Nat.le_refl _) hl)).mono ?_
  rintro e w1 ⟨rfl, hb1⟩
  exact ⟨rfl, Bt hb hb1⟩

theorem rjoined_lit (w : World) (ss : List ByteArray) (hz : ∀ s ∈ ss, s.size ≤ 1000000000) (hl : ss.length ≤ 3) :
    Calls Tryd.prog 46 #[.slice (some ⟨w.heap.size, 0, none⟩) ss.length ss.length] (w.alloc (.cells (ss.map Value.string).toArray 9)) fun e w' => e = .returned (.string (Tr.jn ss)) ∧ Below w.heap.size w w' := by
  have hb : Below w.heap.size w (w.alloc (.cells (ss.map Value.string).toArray 9)) := (Below.refl _ _).alloc (Nat.le_refl _) _
  refine (joined_ref_any _ ss.length ss _ (strs_new w ss _) (by unfold maxLen; omega) (joined_bound 1000000000 ss hz (Nat.le_refl _) hl) (room_bound 1000000000 ss hz (Nat.le_refl _) hl)).mono ?_
  rintro e w1 ⟨rfl, hb1⟩
  exact ⟨rfl, Bt hb hb1⟩

theorem sz1 {x : ByteArray} (h : x.size ≤ 1000000000) : ∀ s ∈ [x], s.size ≤ 1000000000 := fun s hs => by simp at hs; subst hs; exact h
theorem sz2 {x y : ByteArray} (h : x.size ≤ 1000000000) (h' : y.size ≤ 1000000000) : ∀ s ∈ [x, y], s.size ≤ 1000000000 := fun s hs => by simp at hs; rcases hs with rfl | rfl; exact h; exact h'
theorem sz3 {x y z : ByteArray} (h : x.size ≤ 1000000000) (h' : y.size ≤ 1000000000) (h'' : z.size ≤ 1000000000) : ∀ s ∈ [x, y, z], s.size ≤ 1000000000 := fun s hs => by simp at hs; rcases hs with rfl | rfl | rfl; exact h; exact h'; exact h''
theorem szl (l : List UInt8) (h : l.length ≤ 100) : (⟨l.toArray⟩ : ByteArray).size ≤ 1000000000 := by rw [bsize]; omega

theorem half_any (n : Nat) (w : World) (h2 : 2 ≤ n) (hn : n ≤ 1000000) :
    Calls Tryd.prog 59 #[.int .i64 (n : Int)] w fun e w' => e = .returned (.int .i64 ((Tr.half n : Nat) : Int)) ∧ w = w' := by
  go_enter Tryd.func59, Tryd.ntmps59
  go_wp2
  go_loop [3] (fun i => ∃ j k : Nat, k = 2 ^ j ∧ k < n ∧ i = .int .i64 (k : Int)) (fun i => n - (intOf i).toNat)
  case atStart => exact ⟨0, 1, rfl, by omega, rfl⟩
  case round =>
    obtain ⟨j, k, hk, hlt, rfl⟩ := hrel
    have hp : 0 < k := by rw [hk]; exact Nat.pow_pos (by omega)
    have HK := Lib.hid hk
    clear hk
    by_cases h : 2 * k < n
    · go_wp2
      refine ⟨⟨j + 1, 2 * k, by rw [Nat.pow_succ, ← HK.out]; omega, by omega, by go_num⟩, by simp [intOf]; omega⟩
    · have hf : Tr.half n = k := by rw [HK.out]; exact Tr.half_eq (by rw [← HK.out]; exact hlt) (by rw [← HK.out]; omega)
      have HF := Lib.hid hf
      clear hf
      go_wp2
      go_ret
      exact ⟨ret_int (by rw [HF.out]), rfl⟩

theorem rleaf_any (x : ByteArray) (w : World) (hx : x.size ≤ 1000000000) :
    Calls Tryd.prog 58 #[.string x] w fun e w' => e = .returned (.string (Tr.leaf x)) ∧ Below w.heap.size w w' := by
  have HL := Lib.hid (rlist_lit w [⟨#[108, 101, 97, 102]⟩, x] (sz2 (szl [_, _, _, _] (by decide)) hx) (by simp))
  go_enter Tryd.func58, Tryd.ntmps58
  go_wp2_with fail
  refine HL.out.mono ?_
  rintro e w1 ⟨rfl, hb1⟩
  go_wp2
  go_ret
  exact ⟨rfl, hb1⟩

theorem rnode_any (x y : ByteArray) (w : World) (hx : x.size ≤ 1000000000) (hy : y.size ≤ 1000000000) :
    Calls Tryd.prog 60 #[.string x, .string y] w fun e w' => e = .returned (.string (Tr.node x y)) ∧ Below w.heap.size w w' := by
  have HL := Lib.hid (rlist_lit w [⟨#[110, 111, 100, 101]⟩, x, y] (sz3 (szl [_, _, _, _] (by decide)) hx hy) (by simp))
  go_enter Tryd.func60, Tryd.ntmps60
  go_wp2_with fail
  refine HL.out.mono ?_
  rintro e w1 ⟨rfl, hb1⟩
  go_wp2
  go_ret
  exact ⟨rfl, hb1⟩

theorem rempty_any (w : World) :
    Calls Tryd.prog 57 #[] w fun e w' => e = .returned (.string Tr.empty) ∧ Below w.heap.size w w' := by
  have HL := Lib.hid (rlist_lit w [⟨#[101, 109, 112, 116, 121]⟩] (sz1 (szl [_, _, _, _, _] (by decide))) (by simp))
  go_enter Tryd.func57, Tryd.ntmps57
  go_wp2_with fail
  refine HL.out.mono ?_
  rintro e w1 ⟨rfl, hb1⟩
  go_wp2
  go_ret
  exact ⟨rfl, hb1⟩

set_option maxHeartbeats 1000000 in
theorem rroot_any (N : Nat) : ∀ (A : Option Addr) (c : Nat) (ss : List ByteArray) (w : World), ss.length ≤ N → ss.length ≤ c → c ≤ maxLen → ss.length ≤ 1000000 → Strs w w.heap.size A ss → (∀ s ∈ ss, s.size ≤ 1000000000) →
    Calls Tryd.prog 29 #[.slice A ss.length c] w fun e w' => e = .returned (.string (Tr.root ss)) ∧ Below w.heap.size w w' := by
  induction N with
  | zero =>
    intro A c ss w h0 hc hm hM hs hz
    obtain rfl : ss = [] := List.eq_nil_of_length_eq_zero (by omega)
    have HR := Lib.hid Tr.root_nil
    clear hs hz
    simp only [List.length_nil] at hc ⊢
    go_enter Tryd.func29, Tryd.ntmps29
    go_wp2_with fail
    refine (rempty_any w).mono ?_
    rintro e w1 ⟨rfl, hb1⟩
    go_wp2
    go_ret
    exact ⟨by rw [HR.out]; rfl, hb1⟩
  | succ N ih =>
    intro A c ss w hN hc hm hM hs hz
    by_cases hl0 : ss.length = 0
    · exact ih A c ss w (by omega) hc hm hM hs hz
    · obtain ⟨ad, rfl, _, h0⟩ := hs 0 (by omega)
      unfold maxLen at hm
      by_cases hl : ss.length = 1
      · obtain ⟨x, rfl⟩ := List.length_eq_one_iff.1 hl
        have hx := hz x (by simp)
        have h0' : w.cell? ad = some (.string x) := by simpa [Addr.add] using h0
        have HR := Lib.hid (Tr.root_one x)
        clear h0 hz hs hl hl0 hN ih
        simp only [List.length_singleton] at hc ⊢
        go_enter Tryd.func29, Tryd.ntmps29
        go_wp2_with fail
        refine (rleaf_any x w hx).mono ?_
        rintro e w1 ⟨rfl, hb1⟩
        go_wp2
        go_ret
        exact ⟨by rw [HR.out]; rfl, hb1⟩
      · have l1 := Tr.half_lt (n := ss.length) (by omega)
        have l2 := Tr.half_pos ss.length
        have HR := Lib.hid (Tr.root_two (l := ss) (by omega))
        have hs1 := hs.take (Tr.half ss.length)
        have hs2 := hs.drop (Tr.half ss.length)
        have HF := Lib.hid (fun w => half_any ss.length w (by omega) hM)
        have n1 : (ss.take (Tr.half ss.length)).length = Tr.half ss.length := by rw [List.length_take]; omega
        have n2 : (ss.drop (Tr.half ss.length)).length = ss.length - Tr.half ss.length := List.length_drop
        have ih1 := fun w' (hb : Below w.heap.size w w') => ih (some ad) c (ss.take (Tr.half ss.length)) w' (by omega) (by omega) (by unfold maxLen; omega) (by omega) (hs1.bt hb) (fun s h => hz s (List.mem_of_mem_take h))
        have ih2 := fun w' (hb : Below w.heap.size w w') => ih (some (ad.add (Tr.half ss.length))) (c - Tr.half ss.length) (ss.drop (Tr.half ss.length)) w' (by omega) (by omega) (by unfold maxLen; omega) (by omega) (hs2.bt hb) (fun s h => hz s (List.mem_of_mem_drop h))
        rw [n1] at ih1
        rw [n2] at ih2
        have I1 := Lib.hid ih1
        have I2 := Lib.hid ih2
        have Z1 := Lib.hid (Tr.root_size (ss.take (Tr.half ss.length)))
        have Z2 := Lib.hid (Tr.root_size (ss.drop (Tr.half ss.length)))
        have hne : ss.length ≠ 1 := hl
        clear ih1 ih2 hz ih hs n1 n2 hl h0
        generalize Tr.root (ss.take (Tr.half ss.length)) = r1 at *
        generalize Tr.root (ss.drop (Tr.half ss.length)) = r2 at *
        generalize Tr.root ss = r0 at *
        generalize ss.take (Tr.half ss.length) = s1 at *
        generalize ss.drop (Tr.half ss.length) = s2 at *
        generalize Tr.half ss.length = k at *
        generalize ss.length = n at *
        have k1 : (0 : Int) ≤ (k : Int) := by omega
        have k2 : (k : Int) ≤ (n : Int) := by omega
        have k3 : (k : Int) ≤ (c : Int) := by omega
        have k4 : ¬ c = k := by omega
        have k5 : ¬ c = 0 := by omega
        go_enter Tryd.func29, Tryd.ntmps29
        go_wp2_with (go_at_call 59; refine (HF.out _).mono ?_; rintro e w1 ⟨rfl, rfl⟩)
        go_region_held3 (fun _ => True) (trivial)
          (first
            | (go_at_call 29
               (with_reducible refine (I1.out _ (Bd w)).mono ?_)
               rintro e w1 ⟨rfl, hb1⟩
               have hb1' := Bt (Bd w) hb1)
            | (go_at_call 29
               (with_reducible refine (I2.out _ hb1').mono ?_)
               rintro e w2 ⟨rfl, hb2⟩
               have hb2' := Bt hb1' hb2)
            | (go_at_call 60
               (with_reducible refine (rnode_any r1 r2 _ (by rw [Z1.out]; omega) (by rw [Z2.out]; omega)).mono ?_)
               rintro e w3 ⟨rfl, hb3⟩
               have hb3' := Bt hb2' hb3)
            | fail)
        go_wp2
        go_ret
        exact ⟨by rw [HR.out]; rfl, hb3'⟩
end Go.Proofs.YtdlmbpoihnifiaaDoor
