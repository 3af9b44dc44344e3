/- path and Path of the program. -/
import Derived.Test.YtdlmbpoihnifiaaDoorTrB
import Derived.Test.YtdlmbpoihnifiaaDoorTrO
import Derived.WalkKit
import Derived.Below
import Derived.Outline
import Derived.Lib.Hide
import Derived.Deep.RegionHeld3
import Derived.Deep.DrawnRows
namespace Go.Proofs.YtdlmbpoihnifiaaDoor
open Go.RowKit
set_option maxRecDepth 100000
attribute [local go_sem ↓] Go.wp_at_zero Go.wp_at_succ

set_option maxHeartbeats 1000000 in
theorem path_any (N : Nat) : ∀ (ad : Addr) (c : Nat) (ss : List ByteArray) (i : Nat) (w : World), ss.length ≤ N → i < ss.length → ss.length ≤ c → c ≤ maxLen → ss.length ≤ 1000000 → Strs w w.heap.size (some ad) ss → (∀ s ∈ ss, s.size ≤ 1000000000) → Pow w.heap.size w →
    Calls Tryd.prog 62 #[.slice (some ad) ss.length c, .int .i64 (i : Int)] w (Gives (Tr.path ss i) w) := by
  induction N with
  | zero => intro ad c ss i w h0 h1; omega
  | succ N ih =>
    intro ad c ss i w hN h1 hc hm hM hs hz hp
    by_cases hl : ss.length = 1
    · have HR := Lib.hid (Tr.path_one (l := ss) i (by omega))
      have hl' : (ss.length : Int) = 1 := by omega
      clear hs hz
      rw [hl] at hc ⊢
      clear hl hl' hN h1
      unfold maxLen at hm
      go_enter Tryd.func62, Tryd.ntmps62
      go_wp2_with fail
      go_ret
      exact ⟨_, rfl, by rw [HR.out]; exact OwnS.nil w _, Below.refl _ _⟩
    · have l1 := Tr.half_lt (n := ss.length) (by omega)
      have l2 := Tr.half_pos ss.length
      have hs1 := hs.take (Tr.half ss.length)
      have hs2 := hs.drop (Tr.half ss.length)
      have HF := Lib.hid (fun w => firstSize_any ss.length w (by omega) (by unfold maxLen; omega))
      have n1 : (ss.take (Tr.half ss.length)).length = Tr.half ss.length := by rw [List.length_take]; omega
      have n2 : (ss.drop (Tr.half ss.length)).length = ss.length - Tr.half ss.length := List.length_drop
      have z1 := Tr.root_size (ss.take (Tr.half ss.length))
      have z2 := Tr.root_size (ss.drop (Tr.half ss.length))
      have r1 := fun w' (hb : Below w.heap.size w w') => root_any (some ad) c (ss.take (Tr.half ss.length)) w' (by omega) hm (hs1.bt hb) (fun s h => hz s (List.mem_of_mem_take h)) (hp.bt hb)
      have r2 := fun w' (hb : Below w.heap.size w w') => root_any (some (ad.add (Tr.half ss.length))) (c - Tr.half ss.length) (ss.drop (Tr.half ss.length)) w' (by omega) (by unfold maxLen at hm ⊢; omega) (hs2.bt hb) (fun s h => hz s (List.mem_of_mem_drop h)) (hp.bt hb)
      rw [n1] at r1
      rw [n2] at r2
      by_cases hi : i < Tr.half ss.length
      · have HR := Lib.hid (Tr.path_lo (l := ss) (i := i) (by omega) hi)
        have p1 := fun w' (hb : Below w.heap.size w w') => ih ad c (ss.take (Tr.half ss.length)) i w' (by omega) (by omega) (by omega) hm (by omega) (hs1.bt hb) (fun s h => hz s (List.mem_of_mem_take h)) (hp.bt hb)
        rw [n1] at p1
        have P1 := Lib.hid p1
        have R2 := Lib.hid r2
        have hlen : (Tr.path (ss.take (Tr.half ss.length)) i).length ≤ 1000000 := by
          rw [Tr.path_length _ _ _ (Nat.le_refl _) (by omega)]
          have := Tr.len_lt _ (ss.take (Tr.half ss.length)).length i (Nat.le_refl _) (by omega)
          omega
        have Z2 := Lib.hid z2
        have hne : ss.length ≠ 1 := hl
        clear ih hz hs hs1 hs2 r1 r2 p1 z1 z2 n1 n2 hl
        generalize Tr.root (ss.drop (Tr.half ss.length)) = r at *
        generalize Tr.path (ss.take (Tr.half ss.length)) i = l at *
        generalize Tr.path ss i = l0 at *
        generalize Tr.half ss.length = k at *
        generalize ss.length = n at *
        unfold maxLen at hm
        have k1 : (0 : Int) ≤ (k : Int) := by omega
        have k2 : (k : Int) ≤ (n : Int) := by omega
        have k3 : (k : Int) ≤ (c : Int) := by omega
        have k4 : ¬ c = k := by omega
        have k5 : ¬ c = 0 := by omega
        go_enter Tryd.func62, Tryd.ntmps62
        go_wp2_with (go_at_call 54; refine (HF.out _).mono ?_; rintro e w1 ⟨rfl, rfl⟩)
        go_region_held3 (fun _ => True) (trivial)
          (first
            | (go_at_call 62
               (with_reducible refine (P1.out _ (Bd w)).mono ?_)
               rintro e w1 ⟨v1, rfl, ho1, hb1⟩
               have hb1' := Bt (Bd w) hb1)
            | (go_at_call 27
               (with_reducible refine (R2.out _ hb1').mono ?_)
               rintro e w2 ⟨rfl, hb2⟩
               have hb2' := Bt hb1' hb2
               have ho2 := own_below ho1 hb2
               have ho3 := own_below ho2 ((Below.refl _ _).alloc (Nat.le_refl _) (.cells #[.string r] 9)))
            | ((refine step_append1 (by rfl) (.tmp 19) (.tmp 24) (by rfl) w.heap.size v1 l (by rfl) ho3 w2.heap.size (by rfl) r 9 (heap_alloc_new w2 _) hlen (by have := hb2'.size; simp; omega) ?_)
               intro v3 w3 ho4 hb3)
            | fail)
        obtain ⟨A3, c3, rfl, _⟩ := ho4.form
        go_wp2
        go_ret
        exact ⟨_, rfl, by rw [HR.out]; exact ho4, (hb2'.alloc hb2'.size _).trans hb3⟩
      · have HR := Lib.hid (Tr.path_hi (l := ss) (i := i) (by omega) hi)
        have p2 := fun w' (hb : Below w.heap.size w w') => ih (ad.add (Tr.half ss.length)) (c - Tr.half ss.length) (ss.drop (Tr.half ss.length)) (i - Tr.half ss.length) w' (by omega) (by omega) (by omega) (by unfold maxLen at hm ⊢; omega) (by omega) (hs2.bt hb) (fun s h => hz s (List.mem_of_mem_drop h)) (hp.bt hb)
        rw [n2] at p2
        have P2 := Lib.hid p2
        have R1 := Lib.hid r1
        have hlen : (Tr.path (ss.drop (Tr.half ss.length)) (i - Tr.half ss.length)).length ≤ 1000000 := by
          rw [Tr.path_length _ _ _ (Nat.le_refl _) (by omega)]
          have := Tr.len_lt _ (ss.drop (Tr.half ss.length)).length (i - Tr.half ss.length) (Nat.le_refl _) (by omega)
          omega
        have hne : ss.length ≠ 1 := hl
        clear ih hz hs hs1 hs2 r1 r2 p2 z1 z2 n1 n2 hl
        generalize Tr.root (ss.take (Tr.half ss.length)) = r at *
        generalize Tr.path (ss.drop (Tr.half ss.length)) (i - Tr.half ss.length) = l at *
        generalize Tr.path ss i = l0 at *
        generalize Tr.half ss.length = k at *
        generalize ss.length = n at *
        unfold maxLen at hm
        have k1 : (0 : Int) ≤ (k : Int) := by omega
        have k2 : (k : Int) ≤ (n : Int) := by omega
        have k3 : (k : Int) ≤ (c : Int) := by omega
        have k4 : ¬ c = k := by omega
        have k5 : ¬ c = 0 := by omega
        have k6 : IntKind.i64.wrap ((i : Int) - (k : Int)) = ((i - k : Nat) : Int) := by rw [IntKind.wrap_i64]; omega
        go_enter Tryd.func62, Tryd.ntmps62
        go_wp2_with (go_at_call 54; refine (HF.out _).mono ?_; rintro e w1 ⟨rfl, rfl⟩)
        go_region_held3 (fun _ => True) (trivial)
          (first
            | (go_at_call 62
               (with_reducible refine (P2.out _ (Bd w)).mono ?_)
               rintro e w1 ⟨v1, rfl, ho1, hb1⟩
               have hb1' := Bt (Bd w) hb1)
            | (go_at_call 27
               (with_reducible refine (R1.out _ hb1').mono ?_)
               rintro e w2 ⟨rfl, hb2⟩
               have hb2' := Bt hb1' hb2
               have ho2 := own_below ho1 hb2
               have ho3 := own_below ho2 ((Below.refl _ _).alloc (Nat.le_refl _) (.cells #[.string r] 9)))
            | ((refine step_append1 (by rfl) (.tmp 32) (.tmp 37) (by rfl) w.heap.size v1 l (by rfl) ho3 w2.heap.size (by rfl) r 9 (heap_alloc_new w2 _) hlen (by have := hb2'.size; simp; omega) ?_)
               intro v3 w3 ho4 hb3)
            | fail)
        obtain ⟨A3, c3, rfl, _⟩ := ho4.form
        go_wp2
        go_ret
        exact ⟨_, rfl, by rw [HR.out]; exact ho4, (hb2'.alloc hb2'.size _).trans hb3⟩

/-- What a function that makes a list of strings, and has an error, returns. -/
def GivesE (l : List ByteArray) (err : Int) (w : World) (e : Ending) (w' : World) : Prop := ∃ v, e = .returned (.tuple #[v, .int .i64 err]) ∧ OwnS w' w.heap.size v l ∧ Below w.heap.size w w'

theorem Path_ok (A : Option Addr) (c : Nat) (ss : List ByteArray) (i : Nat) (w : World) (hi : i < ss.length) (hc : ss.length ≤ c) (hm : c ≤ maxLen) (hM : ss.length ≤ 1000000) (hs : Strs w w.heap.size A ss) (hz : ∀ s ∈ ss, s.size ≤ 1000000000) (hp : Pow w.heap.size w) :
    Calls Tryd.prog 31 #[.slice A ss.length c, .int .i64 (i : Int)] w (GivesE (Tr.path ss i) 0 w) := by
  obtain ⟨ad, rfl, _, _⟩ := hs 0 (by omega)
  have HP := Lib.hid (path_any ss.length ad c ss i w (Nat.le_refl _) hi hc hm hM hs hz hp)
  clear hs hz
  generalize ss.length = n at *
  generalize Tr.path ss i = l at *
  go_enter Tryd.func31, Tryd.ntmps31
  go_wp2_with fail
  refine HP.out.mono ?_
  rintro e w1 ⟨v1, rfl, ho1, hb1⟩
  obtain ⟨A3, c3, rfl, _⟩ := ho1.form
  go_wp2
  go_ret2
  exact ⟨_, rfl, ho1, hb1⟩

theorem Path_err (A : Option Addr) (c n : Nat) (i : Int) (w : World) (hi : i < 0 ∨ (n : Int) ≤ i) :
    Calls Tryd.prog 31 #[.slice A n c, .int .i64 i] w (GivesE [] 1 w) := by
  rcases hi with hi | hi
  · go_enter Tryd.func31, Tryd.ntmps31
    go_wp2_with fail
    go_ret2
    exact ⟨_, rfl, OwnS.nil _ _, Below.refl _ _⟩
  · have h0 : 0 ≤ i := by omega
    go_enter Tryd.func31, Tryd.ntmps31
    go_wp2_with fail
    go_ret2
    exact ⟨_, rfl, OwnS.nil _ _, Below.refl _ _⟩
end Go.Proofs.YtdlmbpoihnifiaaDoor
