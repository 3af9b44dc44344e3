/- Layer 8: lists of integers compared. -/
import Derived.Test.YtkbncdcphohmiaaGreatDoorMoM
import Derived.BigQuiet
set_option linter.unusedSimpArgs false
set_option linter.unusedVariables false
namespace Go.Proofs.YtkbncdcphohmiaaGreatDoor
open Go.RowKit
set_option maxRecDepth 100000

theorem Mo.take_eq (ss tt : List Int) (k : Nat) (hl : ss.length = tt.length) (hk : k < ss.length) (h : ss.take k = tt.take k) : ss.take (k + 1) = tt.take (k + 1) ↔ ss.getD k 0 = tt.getD k 0 := by
  rw [List.take_succ_eq_append_getElem hk, List.take_succ_eq_append_getElem (show k < tt.length by omega), h]
  rw [List.getD_eq_getElem?_getD, List.getD_eq_getElem?_getD, List.getElem?_eq_getElem hk, List.getElem?_eq_getElem (by omega : k < tt.length)]
  simp only [List.append_cancel_left_eq, List.cons.injEq, and_true, Option.getD_some]

set_option maxHeartbeats 1000000 in
theorem Mo.ints_any (A A' : Option Addr) (c c' : Nat) (ss tt : List Int) (w : World) (hs : Mo.Zs w w.heap.size A ss) (ht : Mo.Zs w w.heap.size A' tt) (hn : ss.length ≤ maxLen) (hn' : tt.length ≤ maxLen) :
    Calls Tryz.prog 25 #[.slice A ss.length c, .slice A' tt.length c'] w fun e w' => e = .returned (.bool (decide (ss = tt))) ∧ ∃ q, w' = w.drewN q := by
  unfold maxLen at hn hn'
  by_cases hl : ss.length = tt.length
  · have HL := Lib.hid hl
    have HS := Lib.hid hs
    have HT0 := Lib.hid ht
    obtain ⟨n, hn1⟩ : ∃ n, n = ss.length := ⟨_, rfl⟩
    have HN := Lib.hid hn1
    have hle : n ≤ 9223372036854775807 := by omega
    rw [← hl, ← hn1]
    clear hn1 hs ht hl hn hn'
    go_enter Tryz.func25, Tryz.ntmps25
    go_wp2
    go_loopw [5] (fun i wr => ∃ k q : Nat, k ≤ n ∧ i = .int .i64 (k : Int) ∧ Hid (ss.take k = tt.take k) ∧ wr = w.drewN q) (fun i _ => n - (intOf i).toNat)
    case atStart => exact ⟨0, 0, by omega, rfl, Lib.hid rfl, rfl⟩
    case round =>
      obtain ⟨k, q, hk, rfl, HT, rfl⟩ := hrel
      by_cases hlt : k < n
      · have hlti : (k : Int) < (n : Int) := by omega
        obtain ⟨ad, rfl, _, hc⟩ := HS.out k (by rw [← HN.out]; exact hlt)
        obtain ⟨ad', rfl, _, hc'⟩ := HT0.out k (by rw [← HL.out, ← HN.out]; exact hlt)
        have HI := Lib.hid (Mo.take_eq ss tt k HL.out (by rw [← HN.out]; exact hlt) HT.out)
        obtain ⟨x, hx⟩ : ∃ x, x = ss.getD k 0 := ⟨_, rfl⟩
        obtain ⟨y, hy⟩ : ∃ y, y = tt.getD k 0 := ⟨_, rfl⟩
        rw [← hx] at hc HI
        rw [← hy] at hc' HI
        clear hx hy HS HT0
        by_cases hxy : x = y
        · have h1 := Lib.hid (HI.out.2 hxy)
          clear HI
          subst hxy
          go_wp2
          go_quiet (fail)
          go_wp2
          exact ⟨⟨k + 1, q + nq, by omega, by go_num, h1, by first | rfl | rw [World.drewN_drewN]⟩, by simp [intOf]; omega⟩
        · have h1 : ss ≠ tt := fun e => hxy (HI.out.1 (by rw [e]))
          have H1 := Lib.hid h1
          clear HI h1
          have h2 : (x == y) = false := by simp [hxy]
          clear hxy
          go_wp2
          go_quiet (fail)
          go_wp2
          go_ret
          exact ⟨by rw [decide_eq_false H1.out]; rfl, q + nq, by first | rfl | rw [World.drewN_drewN]⟩
      · have hlti : ¬ (k : Int) < (n : Int) := by omega
        have h1 : ss = tt := by
          have := HT.out
          have e1 : k = ss.length := by have := HN.out; omega
          rwa [e1, List.take_length, HL.out, List.take_length] at this
        have H1 := Lib.hid h1
        clear h1
        go_wp2
        go_ret
        exact ⟨by rw [decide_eq_true H1.out]; rfl, q, rfl⟩
  · have h1 : ss ≠ tt := fun e => hl (by rw [e])
    have H1 := Lib.hid h1
    clear h1
    have h2 : ((ss.length : Int) == (tt.length : Int)) = false := by simp; omega
    have h3 : ((ss.length : Int) != (tt.length : Int)) = true := by simp; omega
    clear hs ht
    go_enter Tryz.func25, Tryz.ntmps25
    go_wp2
    go_ret
    exact ⟨by rw [decide_eq_false H1.out]; rfl, 0, rfl⟩
end Go.Proofs.YtkbncdcphohmiaaGreatDoor
