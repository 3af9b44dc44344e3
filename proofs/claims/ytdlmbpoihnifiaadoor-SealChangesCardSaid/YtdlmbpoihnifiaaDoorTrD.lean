/- What is left of a proof: take, usedUp, areDigests. -/
import Derived.Test.YtdlmbpoihnifiaaDoorTrB
import Derived.Test.YtdlmbpoihnifiaaDoorTrO
import Derived.Test.YtdlmbpoihnifiaaDoorDgF
import Derived.WalkKit
import Derived.Below
import Derived.LoopTactic
import Derived.Outline
import Derived.Lib.Hide
import Derived.Lib.Builder
namespace Go.Proofs.YtdlmbpoihnifiaaDoor
open Go.RowKit
set_option maxRecDepth 100000

/-- The struct at block b holds what is left of a proof. -/
def RestAt (w : World) (b : Nat) (s : Tr.St) : Prop :=
  ∃ A c, w.heap[b]? = some (.cells #[.slice A s.1.length c, .bool s.2] 75 (0, 0)) ∧ Strs w b A s.1 ∧ s.1.length ≤ c ∧ c ≤ maxLen

theorem RestAt.lt {w : World} {b : Nat} {s : Tr.St} (h : RestAt w b s) : b < w.heap.size := by
  obtain ⟨A, c, h, _⟩ := h
  exact (Array.getElem?_eq_some_iff.1 h).1

theorem RestAt.bt {w w' : World} {b : Nat} {s : Tr.St} (h : RestAt w b s) (hb : Below w.heap.size w w') : RestAt w' b s := by
  have hlt := h.lt
  obtain ⟨A, c, h, hs, h1, h2⟩ := h
  exact ⟨A, c, (hb.block b hlt).trans h, hs.below hb (Nat.le_of_lt hlt), h1, h2⟩

theorem set0 {w : World} {b : Nat} {x y v : Value} {T : TypeId} (h : w.heap[b]? = some (.cells #[x, y] T (0, 0))) : (w.setCell ⟨b, 0, none⟩ v).heap[b]? = some (.cells #[v, y] T (0, 0)) := by
  rw [Go.heap_setCell_same w b 0 _ _ v h]; rfl
theorem set1 {w : World} {b : Nat} {x y v : Value} {T : TypeId} (h : w.heap[b]? = some (.cells #[x, y] T (0, 0))) : (w.setCell ⟨b, 1, none⟩ v).heap[b]? = some (.cells #[x, v] T (0, 0)) := by
  rw [Go.heap_setCell_same w b 1 _ _ v h]; rfl

def Takes (b : Nat) (s : Tr.St) (w : World) (e : Ending) (w' : World) : Prop := e = .returned (.string (Tr.tk s).1) ∧ RestAt w' b (Tr.tk s).2 ∧ Below b w w'

theorem take_any' (b : Nat) (s : Tr.St) (w : World) (h : RestAt w b s) :
    Calls Tryd.prog 82 #[.pointer (some ⟨b, 0, none⟩)] w (Takes b s w) := by
  obtain ⟨l, lk⟩ := s
  obtain ⟨A, c, hh, hs, h1, h2⟩ := h
  cases l with
  | nil =>
    have c0 : w.cell? ⟨b, 0, none⟩ = some (.slice A 0 c) := by rw [Lib.cell_of_heap hh]; rfl
    have c1 : w.cell? ⟨b, 1, none⟩ = some (.bool lk) := by rw [Lib.cell_of_heap hh]; rfl
    have f1 : w.frozen? ⟨b, 1, none⟩ = false := Lib.frozen_of_heap hh 1
    have HH := Lib.hid hh
    clear hh hs
    unfold maxLen at h2
    go_enter Tryd.func82, Tryd.ntmps82
    go_wp2_with fail
    go_ret
    refine ⟨rfl, ⟨A, c, ?_, fun k hk => absurd hk (by simp [Tr.tk]), h1, by unfold maxLen; omega⟩, (Below.refl b w).setCell (p := ⟨b, 1, none⟩) (Nat.le_refl b) _⟩
    exact set1 HH.out
  | cons x r =>
    obtain ⟨ad, rfl, hlt, hx⟩ := hs 0 (by simp)
    have hx' : w.cell? ad = some (.string x) := by simpa [Addr.add] using hx
    have c0 : w.cell? ⟨b, 0, none⟩ = some (.slice (some ad) (r.length + 1) c) := by rw [Lib.cell_of_heap hh]; rfl
    have f0 : w.frozen? ⟨b, 0, none⟩ = false := Lib.frozen_of_heap hh 0
    have HH := Lib.hid hh
    have hs' := hs.drop 1
    clear hh hs hx
    simp only [List.length_cons] at h1
    unfold maxLen at h2
    have HS := Lib.hid hs'
    clear hs'
    have k0 : ¬ c = 0 := by omega
    by_cases hc1 : c = 1
    · have h0 : r = [] := List.eq_nil_of_length_eq_zero (by omega)
      subst h0 hc1
      simp only [List.length_nil] at c0 h1
      go_enter Tryd.func82, Tryd.ntmps82
      go_wp2_with fail
      go_ret
      refine ⟨rfl, ⟨some ad, 0, ?_, fun k hk => absurd hk (by simp [Tr.tk]), by simp [Tr.tk], by simp [maxLen]⟩, (Below.refl b w).setCell (p := ⟨b, 0, none⟩) (Nat.le_refl b) _⟩
      exact set0 HH.out
    · generalize hn : r.length = n at *
      have HN := Lib.hid hn
      clear hn
      have k1 : (1 : Int) ≤ (n : Int) + 1 := by omega
      go_enter Tryd.func82, Tryd.ntmps82
      go_wp2_with fail
      go_ret
      refine ⟨rfl, ⟨some (ad.add 1), c - 1, ?_, ?_, ?_, ?_⟩, (Below.refl b w).setCell (p := ⟨b, 0, none⟩) (Nat.le_refl b) _⟩
      · show _ = some (Obj.cells #[.slice (some (ad.add 1)) r.length (c - 1), .bool lk] _ _)
        rw [HN.out]
        exact set0 HH.out
      · exact HS.out.below ((Below.refl b w).setCell (p := ⟨b, 0, none⟩) (Nat.le_refl b) _) (Nat.le_refl b)
      · show r.length ≤ _
        rw [HN.out]
        omega
      · unfold maxLen
        omega

theorem usedUp_any (b : Nat) (s : Tr.St) (w : World) (h : RestAt w b s) :
    Calls Tryd.prog 71 #[.pointer (some ⟨b, 0, none⟩)] w fun e w' => e = .returned (.bool (Tr.used s)) ∧ w = w' := by
  obtain ⟨l, lk⟩ := s
  obtain ⟨A, c, hh, hs, h1, h2⟩ := h
  have c1 : w.cell? ⟨b, 1, none⟩ = some (.bool lk) := by rw [Lib.cell_of_heap hh]; rfl
  cases l with
  | nil =>
    have c0 : w.cell? ⟨b, 0, none⟩ = some (.slice A 0 c) := by rw [Lib.cell_of_heap hh]; rfl
    clear hh hs
    unfold maxLen at h2
    go_enter Tryd.func71, Tryd.ntmps71
    go_wp2_with fail
    go_ret
    exact ⟨by cases lk <;> rfl, rfl⟩
  | cons x r =>
    have c0 : w.cell? ⟨b, 0, none⟩ = some (.slice A (r.length + 1) c) := by rw [Lib.cell_of_heap hh]; rfl
    clear hh hs
    simp only [List.length_cons] at h1
    unfold maxLen at h2
    have HU : Hid (Tr.used (x :: r, lk) = false) := rfl
    generalize r.length = n at *
    have k1 : ((n : Int) + 1 == 0) = false := by rw [beq_eq_false_iff_ne]; omega
    go_enter Tryd.func71, Tryd.ntmps71
    go_wp2_with fail
    go_ret
    exact ⟨by rw [HU.out]; rfl, rfl⟩

theorem areDigests_any (A : Option Addr) (c : Nat) (ss : List ByteArray) (w : World) (hs : Strs w w.heap.size A ss) (hn : ss.length ≤ maxLen) :
    Calls Tryd.prog 69 #[.slice A ss.length c] w fun e w' => e = .returned (.bool (Tr.digs ss)) ∧ w = w' := by
  unfold maxLen at hn
  go_enter Tryd.func69, Tryd.ntmps69
  go_wp2
  go_loop [7] (fun i => ∃ k : Nat, k ≤ ss.length ∧ i = .int .i64 k ∧ Tr.digs (ss.take k) = true) (fun i => ss.length - (intOf i).toNat)
  case atStart => exact ⟨0, by omega, rfl, rfl⟩
  case round =>
    obtain ⟨k, hk, rfl, hall⟩ := hrel
    have HA := Lib.hid hall
    clear hall
    by_cases hlt : k < ss.length
    · obtain ⟨ad, rfl, _, hc⟩ := hs k hlt
      have ht := Lib.hid (take_snoc ss ByteArray.empty k hlt)
      have hm : ss.getD k ByteArray.empty ∈ ss := by
        rw [List.getD_eq_getElem?_getD, List.getElem?_eq_getElem hlt]
        exact List.getElem_mem _
      have HM := Lib.hid hm
      clear hm hs
      generalize ss.getD k ByteArray.empty = x at *
      by_cases hx : Dg.isDigest x.data.toList = true
      · have HX := Lib.hid hx
        have hi := is_any x w
        rw [hx] at hi
        have HI := Lib.hid hi
        clear hx hi
        go_wp2_with (go_at_call 20; refine HI.out.mono ?_; rintro e w1 ⟨rfl, rfl⟩)
        refine ⟨⟨k + 1, by omega, by go_num, ?_⟩, by simp [intOf]; omega⟩
        have := HA.out
        unfold Tr.digs at this ⊢
        rw [ht.out, List.all_append, this]
        simpa using HX.out
      · have HX := Lib.hid (Bool.eq_false_iff.2 hx)
        have hi := is_any x w
        rw [HX.out] at hi
        have HI := Lib.hid hi
        clear hx hi
        go_wp2_with (go_at_call 20; refine HI.out.mono ?_; rintro e w1 ⟨rfl, rfl⟩)
        go_ret
        refine ⟨?_, rfl⟩
        have : Tr.digs ss = false := by
          unfold Tr.digs
          exact List.all_eq_false.2 ⟨x, HM.out, by simpa using HX.out⟩
        rw [this]
        rfl
    · obtain rfl : k = ss.length := by omega
      have hf : Tr.digs ss = true := by
        have h := HA.out
        rwa [List.take_length] at h
      have HF := Lib.hid hf
      clear hf
      go_wp2_with fail
      go_ret
      exact ⟨by rw [HF.out]; rfl, rfl⟩
end Go.Proofs.YtdlmbpoihnifiaaDoor
