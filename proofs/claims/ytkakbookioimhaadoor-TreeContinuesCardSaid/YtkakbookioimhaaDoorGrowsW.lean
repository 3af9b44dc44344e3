/- P2.5, P2.7: the walk of TreeGrows. -/
import Derived.Test.YtkakbookioimhaaDoorTrM
import Derived.WalkKit
import Derived.LoopTactic
namespace Go.Proofs.YtkakbookioimhaaDoor
open Go.RowKit

theorem Link_length (l : List ByteArray) (m : Nat) (hm : m ≤ l.length) : (Tr.Link l m).length = if m = 0 then 0 else Tr.long l.length m true := by
  unfold Tr.Link
  split
  · rfl
  · exact Tr.link_length _ _ _ _ (Nat.le_refl _) (by omega) hm

theorem Link_zero (l : List ByteArray) (m : Nat) (hm : m ≤ l.length) : (Tr.Link l m).length = 0 ↔ m = 0 ∨ m = l.length := by
  rw [Link_length l m hm]
  split
  · simp_all
  · by_cases h : m = l.length
    · rw [h, Tr.long_all]; simp
    · have := Tr.long_pos true (show m < l.length by omega) (by omega)
      omega

theorem Link_bin (l : List ByteArray) (m : Nat) (hm : m ≤ l.length) : (Tr.Link l m).length ≤ Tr.bin l.length + 1 := by
  rw [Link_length l m hm]
  split
  · omega
  · exact Tr.long_bin _ _ _ (by omega) hm

set_option maxRecDepth 100000 in
set_option maxHeartbeats 1000000 in
theorem grows_walk (A : Option Addr) (c : Nat) (ss : List ByteArray) (r : Int) (W : World) (hp : Pow W.heap.size W) (hs : Strs W W.heap.size A ss) (hc : ss.length ≤ c) (hm : c ≤ maxLen) (hr : (Go.Lit.int .u8 r).wf = true) :
    Calls Tryd.prog 7 #[.slice A ss.length c, .int .u8 r] W fun e w' => e = .returned (.bool true) ∧ Below W.heap.size W w' := by
  by_cases hf : few20 ss = true
  · obtain ⟨h20, hz⟩ := few20_bounds hf
    obtain ⟨r0, r1⟩ : IntKind.u8.min ≤ r ∧ r ≤ IntKind.u8.max := by simpa [Go.Lit.wf] using hr
    change 0 ≤ r at r0
    change r ≤ 255 at r1
    obtain ⟨r, rfl⟩ : ∃ k : Nat, r = k := ⟨r.toNat, by omega⟩
    clear hr
    have E := Lib.hid (show (r : Int) % ((ss.length : Int) + 1) = ((r % (ss.length + 1) : Nat) : Int) by rw [Int.natCast_emod, Int.natCast_add]; rfl)
    have hml : r % (ss.length + 1) ≤ ss.length := by have := Nat.mod_lt r (show 0 < ss.length + 1 by omega); omega
    have FY := fun w' (hb : Below W.heap.size W w') => few20_yes A c ss w' (hs.bt hb) (by unfold maxLen; omega) hf
    have FL := Lib.hid FY
    clear FY hf
    have HS := Lib.hid hs
    have HZ := Lib.hid hz
    clear hs hz
    go_enter Tryd.func7, Tryd.ntmps7
    go_wp2_with fail
    refine (head_any W hp).mono ?_
    rintro e w1 ⟨rfl, hb1⟩
    go_wp2_with fail
    refine (FL.out w1 hb1).mono ?_
    rintro e w1' ⟨rfl, rfl⟩
    go_wp2_with fail
    rw [E.out]
    clear E
    generalize r % (ss.length + 1) = m at *
    refine (Link_ok A c ss m w1 hml hc hm (by omega) (HS.out.bt hb1) HZ.out (hp.bt hb1)).mono ?_
    rintro e w2 ⟨v2, rfl, ho2, hb2⟩
    obtain ⟨Ax, cx, rfl, hsx, hcx, hmx⟩ := ho2.form
    clear ho2
    have hx0 := Lib.hid (Link_zero ss m hml)
    have hxb := Link_bin ss m hml
    have hbin := bin_le_self ss.length ss.length (Nat.le_refl _)
    have HX := Lib.hid (extends_link ss m hml (by omega))
    have HSX := Lib.hid hsx
    have hb2' := Bt hb1 hb2
    clear hsx
    generalize hbn : Tr.bin ss.length = bn at *
    have HBN := Lib.hid hbn
    clear hbn
    go_wp2_with fail
    go_loop [9, 10] (fun i j => ∃ d k : Nat, i = .int .i64 (d : Int) ∧ j = .int .i64 (k : Int) ∧ k ≤ 20 ∧ d ≤ 20 ∧ d + Tr.bin k = bn) (fun _ j => (intOf j).toNat)
    case atStart => exact ⟨0, ss.length, rfl, rfl, h20, by omega, by rw [HBN.out]; omega⟩
    case round =>
      obtain ⟨d, k, rfl, rfl, hk, hd, hdk⟩ := hrel
      by_cases hk0 : 0 < k
      · have hbk := Tr.bin_pos hk0
        have hbl := bin_le_self (k / 2) (k / 2) (Nat.le_refl _)
        have hdk' : d + 1 + Tr.bin (k / 2) = bn := by omega
        have HD := Lib.hid hdk'
        clear hdk hbk hdk'
        go_wp2_with fail
        exact ⟨⟨d + 1, k / 2, by go_num, by go_num, by omega, by have := HD.out; omega, HD.out⟩, by simp [intOf]; omega⟩
      · obtain rfl : k = 0 := by omega
        rw [Tr.bin_zero] at hdk
        obtain rfl : d = bn := by omega
        clear hdk hk0
        have n1 : (ss.take m).length = m := by rw [List.length_take]; omega
        have r1 := fun w' (hb : Below W.heap.size W w') => root_any A c (ss.take m) w' (by omega) hm ((HS.out.take m).bt hb) (fun s h => HZ.out s (List.mem_of_mem_take h)) (hp.bt hb)
        rw [n1] at r1
        have R1 := Lib.hid r1
        have R2 := Lib.hid (fun w' (hb : Below W.heap.size W w') => root_any A c ss w' hc hm (HS.out.bt hb) HZ.out (hp.bt hb))
        have hzl : ∀ s ∈ Tr.Link ss m, s.size ≤ 1000000000 := by
          intro s hs
          by_cases h0 : m = 0
          · rw [show Tr.Link ss m = [] from if_pos h0] at hs
            cases hs
          · rw [show Tr.Link ss m = Tr.link ss m true from if_neg h0] at hs
            have := Tr.digs_link _ ss m true (Nat.le_refl _)
            unfold Tr.digs at this
            rw [digest_size (List.all_eq_true.1 this s hs)]
            omega
        have X1 := Lib.hid (fun w' (hb : Below w2.heap.size w2 w') => extends_ex (Tr.root (ss.take m)) (Tr.root ss) m ss.length Ax cx _ (Tr.Link ss m) rfl true HX.out w' (HSX.out.bt hb) hzl hcx hmx ((hp.bt hb2').bt hb))
        clear r1 n1 hzl HX HSX
        generalize (Tr.Link ss m).length = lx at *
        generalize Tr.root (ss.take m) = q1 at *
        generalize Tr.root ss = q2 at *
        generalize ss.length = n at *
        rcases (show (m = 0 ∧ lx = 0) ∨ (m ≠ 0 ∧ m = n ∧ lx = 0) ∨ (m ≠ 0 ∧ m ≠ n ∧ lx ≠ 0) by have := hx0.out; omega) with ⟨q0, q1'⟩ | ⟨q0, q1', q2'⟩ | ⟨q0, q1', q2'⟩
        case' inl => subst q0 q1'
        case' inr.inl =>
          subst q1' q2'
          have k1 : ((m : Int) == 0) = false := by rw [beq_eq_false_iff_ne]; omega
        case' inr.inr =>
          have k1 : ((m : Int) == 0) = false := by rw [beq_eq_false_iff_ne]; omega
          have k2 : ((m : Int) == (n : Int)) = false := by rw [beq_eq_false_iff_ne]; omega
          have k3 : ((lx : Int) == 0) = false := by rw [beq_eq_false_iff_ne]; omega
        all_goals
          clear hx0
          go_wp2_with fail
          refine (R1.out w2 hb2').mono ?_
          rintro e w3 ⟨rfl, hb3⟩
          have hb3' := Bt hb2' hb3
          go_wp2_with fail
          refine (R2.out w3 hb3').mono ?_
          rintro e w4 ⟨rfl, hb4⟩
          have hb4' := Bt hb3' hb4
          go_wp2_with fail
          refine (X1.out w4 (Bt hb3 hb4)).mono ?_
          rintro e w5 ⟨rfl, hb5⟩
          have hb5' := Bt hb4' hb5
          go_wp2_with fail
          go_ret
          exact ⟨by simp, hb5'⟩
  · have hf' : few20 ss = false := Bool.eq_false_iff.2 hf
    have FN := Lib.hid (fun w' (hb : Below W.heap.size W w') => few20_no A c ss w' (hs.bt hb) (by omega) hf')
    clear hf hf' hs
    go_enter Tryd.func7, Tryd.ntmps7
    go_wp2_with fail
    refine (head_any W hp).mono ?_
    rintro e w1 ⟨rfl, hb1⟩
    go_wp2_with fail
    refine (FN.out w1 hb1).mono ?_
    rintro e w1' ⟨rfl, rfl⟩
    go_wp2_with fail
    go_ret
    exact ⟨rfl, hb1⟩
end Go.Proofs.YtkakbookioimhaaDoor
