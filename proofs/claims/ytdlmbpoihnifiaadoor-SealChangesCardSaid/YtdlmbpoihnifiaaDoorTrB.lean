/- Root of the program: a closure that calls itself. -/
import Derived.Test.YtdlmbpoihnifiaaDoorTrA
import Derived.WalkKit
import Derived.Below
import Derived.Outline
import Derived.Lib.Hide
import Derived.Deep.RegionHeld3
import Derived.Deep.DrawnRows
import Derived.Laws.EntriesVeiled
namespace Go.Proofs.YtdlmbpoihnifiaaDoor
open Go.RowKit
set_option maxRecDepth 100000
attribute [local go_sem ↓] Go.wp_at_zero Go.wp_at_succ

set_option maxHeartbeats 1000000 in
theorem root1_any (N : Nat) : ∀ (ad : Addr) (c : Nat) (ss : List ByteArray) (b : Nat) (w : World), ss.length ≤ N → 1 ≤ ss.length → ss.length ≤ c → c ≤ maxLen → Strs w w.heap.size (some ad) ss → (∀ s ∈ ss, s.size ≤ 1000000000) →
    w.cell? ⟨b, 0, none⟩ = some (.func (.func 52) #[] #[.pointer (some ⟨b, 0, none⟩)]) → Pow w.heap.size w →
    Calls Tryd.prog 52 #[.slice (some ad) ss.length c, .pointer (some ⟨b, 0, none⟩)] w fun e w' => e = .returned (.string (Tr.root ss)) ∧ Below w.heap.size w w' := by
  induction N with
  | zero => intro ad c ss b w h0 h1; omega
  | succ N ih =>
    intro ad c ss b w hN h1 hc hm hs hz hcell hp
    unfold maxLen at hm
    by_cases hl : ss.length = 1
    · obtain ⟨x, rfl⟩ := List.length_eq_one_iff.1 hl
      obtain ⟨ad', e, _, h0⟩ := hs 0 (by simp)
      cases e
      have hx := hz x (by simp)
      have h0' : w.cell? ad = some (.string x) := by simpa [Addr.add] using h0
      have HR := Lib.hid (Tr.root_one x)
      clear h0 hz hs hl hcell hN h1
      simp only [List.length_singleton] at hc ⊢
      go_enter Tryd.func52, Tryd.ntmps52
      go_wp2_with fail
      refine (leafRoot_any x w hx hp).mono ?_
      rintro e w1 ⟨rfl, hb1⟩
      go_wp2
      go_ret
      exact ⟨by rw [HR.out]; rfl, hb1⟩
    · have l1 := Tr.half_lt (n := ss.length) (by omega)
      have l2 := Tr.half_pos ss.length
      have HR := Lib.hid (Tr.root_two (l := ss) (by omega))
      have hs1 := hs.take (Tr.half ss.length)
      have hs2 := hs.drop (Tr.half ss.length)
      have HF := Lib.hid (fun w => firstSize_any ss.length w (by omega) (by unfold maxLen; omega))
      have n1 : (ss.take (Tr.half ss.length)).length = Tr.half ss.length := by rw [List.length_take]; omega
      have n2 : (ss.drop (Tr.half ss.length)).length = ss.length - Tr.half ss.length := List.length_drop
      have ih1 := fun w' (hb : Below w.heap.size w w') => ih ad c (ss.take (Tr.half ss.length)) b w' (by omega) (by omega) (by omega) (by unfold maxLen; omega) (hs1.bt hb) (fun s h => hz s (List.mem_of_mem_take h)) (cell_bt hcell hb) (hp.bt hb)
      have ih2 := fun w' (hb : Below w.heap.size w w') => ih (ad.add (Tr.half ss.length)) (c - Tr.half ss.length) (ss.drop (Tr.half ss.length)) b w' (by omega) (by omega) (by omega) (by unfold maxLen; omega) (hs2.bt hb) (fun s h => hz s (List.mem_of_mem_drop h)) (cell_bt hcell hb) (hp.bt hb)
      rw [n1] at ih1
      rw [n2] at ih2
      have I1 := Lib.hid ih1
      have I2 := Lib.hid ih2
      have z1 := Tr.root_size (ss.take (Tr.half ss.length))
      have z2 := Tr.root_size (ss.drop (Tr.half ss.length))
      have hne : ss.length ≠ 1 := hl
      clear ih1 ih2 hz ih hs n1 n2 hl
      generalize Tr.root (ss.take (Tr.half ss.length)) = r1 at *
      generalize Tr.root (ss.drop (Tr.half ss.length)) = r2 at *
      generalize ss.take (Tr.half ss.length) = s1 at *
      generalize ss.drop (Tr.half ss.length) = s2 at *
      generalize Tr.root ss = r0 at *
      generalize Tr.half ss.length = k at *
      generalize ss.length = n at *
      have Z1 := Lib.hid z1
      have Z2 := Lib.hid z2
      clear z1 z2
      go_enter Tryd.func52, Tryd.ntmps52
      go_wp2_with (go_at_call 54; refine (HF.out _).mono ?_; rintro e w1 ⟨rfl, rfl⟩)
      have k1 : (0 : Int) ≤ (k : Int) := by omega
      have k2 : (k : Int) ≤ (n : Int) := by omega
      have k3 : (k : Int) ≤ (c : Int) := by omega
      have k4 : ¬ c = k := by omega
      go_region_held3 (fun w' => w'.cell? ⟨b, 0, none⟩ = some (.func (.func 52) #[] #[.pointer (some ⟨b, 0, none⟩)])) (first | assumption | go_keep)
        (first
          | (go_at_call 52
             (with_reducible refine (I1.out _ (Bd w)).mono ?_)
             rintro e w1 ⟨rfl, hb1⟩
             have hb1' := Bt (Bd w) hb1
             have hc1 := cell_bt hcell hb1')
          | (go_at_call 52
             (with_reducible refine (I2.out _ hb1').mono ?_)
             rintro e w2 ⟨rfl, hb2⟩
             have hb2' := Bt hb1' hb2
             have hc2 := cell_bt hcell hb2')
          | (go_at_call 55
             (with_reducible refine (node_any r1 r2 _ (by rw [Z1.out]; omega) (by rw [Z2.out]; omega) (hp.bt hb2')).mono ?_)
             rintro e w3 ⟨rfl, hb3⟩
             have hb3' := Bt hb2' hb3
             have hc3 := cell_bt hcell hb3')
          | fail)
      go_wp2
      go_ret
      exact ⟨by rw [HR.out]; rfl, hb3'⟩

theorem root_any (A : Option Addr) (c : Nat) (ss : List ByteArray) (w : World) (hc : ss.length ≤ c) (hm : c ≤ maxLen) (hs : Strs w w.heap.size A ss) (hz : ∀ s ∈ ss, s.size ≤ 1000000000) (hp : Pow w.heap.size w) :
    Calls Tryd.prog 27 #[.slice A ss.length c] w fun e w' => e = .returned (.string (Tr.root ss)) ∧ Below w.heap.size w w' := by
  by_cases hl : ss.length = 0
  · obtain rfl : ss = [] := List.eq_nil_of_length_eq_zero hl
    have hn := strs_new w [⟨#[101, 109, 112, 116, 121]⟩] 9
    have hb : Below w.heap.size w (w.alloc (.cells #[.string ⟨#[101, 109, 112, 116, 121]⟩] 9)) := (Below.refl _ _).alloc (Nat.le_refl _) _
    have hl := list_any (some ⟨w.heap.size, 0, none⟩) 1 [⟨#[101, 109, 112, 116, 121]⟩] _ hn (by unfold maxLen; simp) (joined_bound 1000000000 _ (by intro s hs; simp at hs; subst hs; simp [ByteArray.size]) (by omega) (by simp)) (hp.bt hb)
    have HL := Lib.hid hl
    have HR := Lib.hid Tr.root_nil
    clear hl hs hn hz
    simp only [List.length_nil] at hc ⊢
    go_enter Tryd.func27, Tryd.ntmps27
    go_wp2_with fail
    refine HL.out.mono ?_
    rintro e w1 ⟨rfl, hb1⟩
    go_wp2
    go_ret
    exact ⟨by rw [HR.out]; rfl, hb.trans (hb1.mono hb.size)⟩
  · obtain ⟨ad, rfl, _, _⟩ := hs 0 (by omega)
    have hb : Below w.heap.size w (w.alloc (.cells #[.func (.func 52) #[] #[.pointer (some ⟨w.heap.size, 0, none⟩)]] 48)) := (Below.refl _ _).alloc (Nat.le_refl _) _
    have HC := Lib.hid (root1_any ss.length ad c ss w.heap.size (w.alloc (.cells #[.func (.func 52) #[] #[.pointer (some ⟨w.heap.size, 0, none⟩)]] 48)) (Nat.le_refl _) (by omega) hc hm (hs.bt hb) hz (by simp) (hp.bt hb))
    have h0 : ss.length ≠ 0 := hl
    unfold maxLen at hm
    clear hl hs hz
    generalize ss.length = n at *
    go_enter Tryd.func27, Tryd.ntmps27
    go_wp2_with fail

    refine HC.out.mono ?_
    rintro e w1 ⟨rfl, hb1⟩
    go_wp2
    go_ret
    exact ⟨rfl, hb.trans (hb1.mono hb.size)⟩
end Go.Proofs.YtdlmbpoihnifiaaDoor
