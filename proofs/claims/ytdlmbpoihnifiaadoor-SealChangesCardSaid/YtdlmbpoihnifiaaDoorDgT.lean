/- The reference's Same. -/
import Derived.Test.YtdlmbpoihnifiaaDoorProg
import Derived.Test.YtdlmbpoihnifiaaDoorStrs
import Derived.Test.YtdlmbpoihnifiaaDoorDgS
import Derived.WalkKit
import Derived.Below
import Derived.LoopTactic
import Derived.Outline
import Derived.Lib.Hide
import Derived.BigQuiet
import Derived.Deep.QuietTactic
import Derived.Deep.Draws
namespace Go.Proofs.YtdlmbpoihnifiaaDoor
open Go.RowKit
set_option maxRecDepth 100000

theorem bytes_ne {x y : ByteArray} (h : x ≠ y) : (x.toList == y.toList) = false := by
  rw [beq_eq_false_iff_ne]
  intro e
  rw [ByteArray.toList_eq, ByteArray.toList_eq] at e
  exact h (ByteArray.ext (Array.toList_inj.1 e))

theorem take_eq {α : Type} [DecidableEq α] (ss tt : List α) (d : α) (k : Nat) (hl : ss.length = tt.length) (hk : k < ss.length) (h : ss.take k = tt.take k) : ss.take (k + 1) = tt.take (k + 1) ↔ ss.getD k d = tt.getD k d := by
  rw [take_snoc ss d k hk, take_snoc tt d k (by omega), h]
  simp

theorem same_any (A A' : Option Addr) (c c' : Nat) (ss tt : List ByteArray) (w : World) (hs : Strs w w.heap.size A ss) (ht : Strs w w.heap.size A' tt) (hn : ss.length ≤ maxLen) :
    Calls Tryd.prog 21 #[.slice A ss.length c, .slice A' tt.length c'] w fun e w' => e = .returned (.bool (decide (ss = tt))) ∧ ∃ q, w' = w.drewN q := by
  unfold maxLen at hn
  by_cases hl : ss.length = tt.length
  · have HL := Lib.hid hl
    have hd : ∀ k, k < ss.length → (∀ j, j < k → ss.getD j ByteArray.empty = tt.getD j ByteArray.empty) → True := fun _ _ _ => trivial
    clear hd
    go_enter Tryd.func21, Tryd.ntmps21
    go_wp2
    go_loopw [5] (fun i wr => ∃ k q : Nat, k ≤ ss.length ∧ i = .int .i64 k ∧ ss.take k = tt.take k ∧ wr = w.drewN q) (fun i _ => ss.length - (intOf i).toNat)
    case atStart => exact ⟨0, 0, by omega, rfl, rfl, rfl⟩
    case round =>
      obtain ⟨k, q, hk, rfl, htk, rfl⟩ := hrel
      have HT := Lib.hid htk
      clear htk
      by_cases hlt : k < ss.length
      · obtain ⟨ad, rfl, _, hc⟩ := hs k hlt
        obtain ⟨ad', rfl, _, hc'⟩ := ht k (by omega)
        have hiff := take_eq ss tt ByteArray.empty k HL.out hlt HT.out
        have hlt' : (k : Int) < tt.length := by omega
        generalize ss.getD k ByteArray.empty = x at *
        generalize tt.getD k ByteArray.empty = y at *
        have HI := Lib.hid hiff
        clear hiff hs ht
        clear hl
        by_cases hxy : x = y
        · have h1 := Lib.hid (HI.out.2 hxy)
          clear HI
          subst hxy
          go_wp2
          go_quiet (fail)
          go_wp2
          exact ⟨⟨k + 1, q + nq, by omega, by go_num, h1.out, rfl⟩, by simp [intOf]; omega⟩
        · have h1 : ss ≠ tt := fun e => hxy (HI.out.1 (by rw [e]))
          have H1 := Lib.hid h1
          clear HI h1
          have h2 := bytes_ne hxy
          clear hxy
          go_wp2
          go_quiet (fail)
          go_wp2
          go_ret
          exact ⟨by rw [decide_eq_false H1.out]; rfl, q + nq, by rw [World.drewN_drewN]⟩
      · obtain rfl : k = ss.length := by omega
        have h1 : ss = tt := by
          have := HT.out
          rwa [List.take_length, HL.out, List.take_length] at this
        have H1 := Lib.hid h1
        clear h1
        go_wp2
        go_ret
        exact ⟨by rw [decide_eq_true H1.out]; rfl, q, rfl⟩
  · have h1 : ss ≠ tt := fun e => hl (by rw [e])
    have H1 := Lib.hid h1
    clear h1
    have h2 : (ss.length : Int) ≠ tt.length := by omega
    go_enter Tryd.func21, Tryd.ntmps21
    go_wp2
    go_ret
    exact ⟨by rw [decide_eq_false H1.out]; rfl, 0, rfl⟩
end Go.Proofs.YtdlmbpoihnifiaaDoor
