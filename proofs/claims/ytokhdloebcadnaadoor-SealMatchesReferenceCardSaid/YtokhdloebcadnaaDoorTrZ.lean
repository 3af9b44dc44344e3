/- The reference's length, digests and Check. -/
import Derived.Test.YtokhdloebcadnaaDoorTrU
import Derived.Test.YtokhdloebcadnaaDoorTrF
import Derived.Test.YtokhdloebcadnaaDoorDgS
import Derived.WalkKit
import Derived.Below
import Derived.LoopTactic
import Derived.Outline
import Derived.Lib.Hide
namespace Go.Proofs.YtokhdloebcadnaaDoor
open Go.RowKit
set_option maxRecDepth 100000

set_option maxHeartbeats 1000000 in
theorem length_any (N : Nat) : ∀ (n i : Nat) (w : World), n ≤ N → i < n → n ≤ 1000000 →
    Calls Tryd.prog 73 #[.int .i64 (n : Int), .int .i64 (i : Int)] w fun e w' => e = .returned (.int .i64 ((Tr.len n i : Nat) : Int)) ∧ w = w' := by
  induction N with
  | zero => intro n i w h0 h1; omega
  | succ N ih =>
    intro n i w hN hi hM
    by_cases hl : n = 1
    · subst hl
      have HR := Lib.hid (Tr.len_one i (Nat.le_refl 1))
      go_enter Tryd.func73, Tryd.ntmps73
      go_wp2_with fail
      go_ret
      exact ⟨by rw [HR.out]; rfl, rfl⟩
    · have l1 := Tr.half_lt (n := n) (by omega)
      have l2 := Tr.half_pos n
      have HF := Lib.hid (fun w => half_any n w (by omega) hM)
      have hne : n ≠ 1 := hl
      by_cases hk : i < Tr.half n
      · have HR := Lib.hid (Tr.len_lo (n := n) (i := i) (by omega) hk)
        have H1 := Lib.hid (ih (Tr.half n) i w (by omega) hk (by omega))
        have hlt := Tr.len_lt _ (Tr.half n) i (Nat.le_refl _) l2
        clear ih hl
        generalize Tr.len (Tr.half n) i = q at *
        generalize Tr.half n = k at *
        go_enter Tryd.func73, Tryd.ntmps73
        go_wp2_with (first
          | (go_at_call 59; (with_reducible refine (HF.out _).mono ?_); rintro e w1 ⟨rfl, rfl⟩)
          | fail)
        refine H1.out.mono ?_
        rintro e w1 ⟨rfl, rfl⟩
        go_wp2
        go_ret
        exact ⟨ret_int (by rw [HR.out]; omega), rfl⟩
      · have HR := Lib.hid (Tr.len_hi (n := n) (i := i) (by omega) hk)
        have H1 := Lib.hid (ih (n - Tr.half n) (i - Tr.half n) w (by omega) (by omega) (by omega))
        have hlt := Tr.len_lt _ (n - Tr.half n) (i - Tr.half n) (Nat.le_refl _) (by omega)
        clear ih hl
        generalize Tr.len (n - Tr.half n) (i - Tr.half n) = q at *
        generalize Tr.half n = k at *
        have E1 := Lib.hid (show (n : Int) - (k : Int) = ((n - k : Nat) : Int) by omega)
        have E2 := Lib.hid (show (i : Int) - (k : Int) = ((i - k : Nat) : Int) by omega)
        go_enter Tryd.func73, Tryd.ntmps73
        go_wp2_with (first
          | (go_at_call 59; (with_reducible refine (HF.out _).mono ?_); rintro e w1 ⟨rfl, rfl⟩)
          | fail)
        rw [E1.out, E2.out]
        refine H1.out.mono ?_
        rintro e w1 ⟨rfl, rfl⟩
        go_wp2
        go_ret
        exact ⟨ret_int (by rw [HR.out]; omega), rfl⟩

theorem digests_any (A : Option Addr) (c : Nat) (ss : List ByteArray) (w : World) (hs : Strs w w.heap.size A ss) (hn : ss.length ≤ maxLen) (hz : ∀ s ∈ ss, s.size ≤ maxLen) :
    Calls Tryd.prog 74 #[.slice A ss.length c] w fun e w' => e = .returned (.bool (Tr.digs ss)) ∧ w = w' := by
  have HZ := Lib.hid hz
  clear hz
  unfold maxLen at hn
  go_enter Tryd.func74, Tryd.ntmps74
  go_wp2
  go_loop [3] (fun i => ∃ k : Nat, k ≤ ss.length ∧ i = .int .i64 k ∧ Tr.digs (ss.take k) = true) (fun i => ss.length - (intOf i).toNat)
  case atStart => exact ⟨0, by omega, rfl, rfl⟩
  case round =>
    obtain ⟨k, hk, rfl, hall⟩ := hrel
    have HA := Lib.hid hall
    clear hall
    by_cases hlt : k < ss.length
    · obtain ⟨ad, rfl, _, hc⟩ := hs k hlt
      have ht := Lib.hid (take_snoc ss ByteArray.empty k hlt)
      have hm : ss.getD k ByteArray.empty ∈ ss := by
        rw [List.getD_eq_getElem?_getD, List.getElem?_eq_getElem hlt]
        exact List.getElem_mem _
      have hi := ris_any (ss.getD k ByteArray.empty) w (HZ.out _ hm)
      have HM := Lib.hid hm
      clear hm hs
      generalize ss.getD k ByteArray.empty = x at *
      by_cases hx : Dg.isDigest x.data.toList = true
      · have HX := Lib.hid hx
        rw [hx] at hi
        have HI := Lib.hid hi
        clear hx hi
        go_wp2_with (go_at_call 42; refine HI.out.mono ?_; rintro e w1 ⟨rfl, rfl⟩)
        refine ⟨⟨k + 1, by omega, by go_num, ?_⟩, by simp [intOf]; omega⟩
        have := HA.out
        unfold Tr.digs at this ⊢
        rw [ht.out, List.all_append, this]
        simpa using HX.out
      · have HX := Lib.hid (Bool.eq_false_iff.2 hx)
        rw [HX.out] at hi
        have HI := Lib.hid hi
        clear hx hi
        go_wp2_with (go_at_call 42; refine HI.out.mono ?_; rintro e w1 ⟨rfl, rfl⟩)
        go_ret
        refine ⟨?_, rfl⟩
        have : Tr.digs ss = false := by
          unfold Tr.digs
          exact List.all_eq_false.2 ⟨x, HM.out, by simpa using HX.out⟩
        rw [this]
        rfl
    · obtain rfl : k = ss.length := by omega
      have hf : Tr.digs ss = true := by
        have h := HA.out
        rwa [List.take_length] at h
      have HF := Lib.hid hf
      clear hf
      go_wp2_with fail
      go_ret
      exact ⟨by rw [HF.out]; rfl, rfl⟩

theorem digests_val (A : Option Addr) (c : Nat) (ss : List ByteArray) (b : Bool) (hb : Tr.digs ss = b) (w : World) (hs : Strs w w.heap.size A ss) (hn : ss.length ≤ maxLen) (hz : ∀ s ∈ ss, s.size ≤ maxLen) :
    Calls Tryd.prog 74 #[.slice A ss.length c] w fun e w' => e = .returned (.bool b) ∧ w = w' := by
  subst hb
  exact digests_any A c ss w hs hn hz

/-- B2 of the reference. -/
theorem rCheck_out (rt : ByteArray) (n i : Int) (lf : ByteArray) (A : Option Addr) (c k : Nat) (w : World) (h : ¬ (0 ≤ i ∧ i < n ∧ n ≤ 1000000)) :
    Calls Tryd.prog 43 #[.string rt, .int .i64 n, .int .i64 i, .string lf, .slice A k c] w fun e w' => e = .returned (.bool false) ∧ Below w.heap.size w w' := by
  by_cases h2 : 1000000 < n
  · clear h
    go_enter Tryd.func43, Tryd.ntmps43
    go_wp2_with fail
    go_ret
    exact ⟨rfl, Below.refl _ _⟩
  · have h2' : n ≤ 1000000 := by omega
    by_cases h0 : i < 0
    · clear h h2
      go_enter Tryd.func43, Tryd.ntmps43
      go_wp2_with fail
      go_ret
      exact ⟨rfl, Below.refl _ _⟩
    · have h3 : 0 ≤ i := by omega
      have h4 : n ≤ i := by omega
      clear h h2 h0
      go_enter Tryd.func43, Tryd.ntmps43
      go_wp2_with fail
      go_ret
      exact ⟨rfl, Below.refl _ _⟩

theorem rcheck_in (rt : ByteArray) (n i : Nat) (lf : ByteArray) (p : List ByteArray) (h1 : i < n) (h2 : n ≤ 1000000) : Tr.check rt n i lf p = (decide (p.length = Tr.len n i) && (Tr.digs p && decide (Tr.up n i (Tr.leaf lf) p = rt))) := by
  unfold Tr.check
  rw [decide_eq_true (show (0 : Int) ≤ (i : Int) ∧ (i : Int) < (n : Int) ∧ (n : Int) ≤ 1000000 by omega)]
  simp only [Int.toNat_natCast, Bool.true_and]
  rw [Bool.and_comm (Tr.digs p), Bool.and_assoc]

set_option maxHeartbeats 1000000 in
theorem rCheck_in (rt : ByteArray) (n i : Nat) (lf : ByteArray) (A : Option Addr) (c : Nat) (p : List ByteArray) (w : World) (hi : i < n) (hn : n ≤ 1000000) (hlf : lf.size ≤ 1000000000) (hs : Strs w w.heap.size A p) (hz : ∀ s ∈ p, s.size ≤ 1000000000) (hc : p.length ≤ c) (hm : c ≤ maxLen) :
    Calls Tryd.prog 43 #[.string rt, .int .i64 (n : Int), .int .i64 (i : Int), .string lf, .slice A p.length c] w fun e w' => e = .returned (.bool (Tr.check rt n i lf p)) ∧ Below w.heap.size w w' := by
  rw [rcheck_in rt n i lf p hi hn]
  have HLn := Lib.hid (length_any n n i w (Nat.le_refl _) hi hn)
  have hlt := Tr.len_lt _ n i (Nat.le_refl _) (by omega)
  have HI := Lib.hid hi
  by_cases hl : p.length = Tr.len n i
  · have HU := Lib.hid (fun w' (hb : Below w.heap.size w w') => up_any n n i (Tr.leaf lf) A c p w' (Nat.le_refl _) hi hn hl hc hm (hs.bt hb) hz (by rw [Tr.leaf, Tr.dg_size]; omega))
    have D1 := fun b hb => Lib.hid (digests_val A c p b hb w hs (by omega) (fun s h => by have := hz s h; unfold maxLen; omega))
    have RL := Lib.hid (rleaf_any lf w hlf)
    rw [decide_eq_true hl]
    have hl1 : ((p.length : Int) == ((Tr.len n i : Nat) : Int)) = true := by rw [hl]; simp
    have hl2 : ¬ ((p.length : Int) ≠ ((Tr.len n i : Nat) : Int)) := by rw [hl]; simp
    unfold maxLen at hm
    clear hl hs hz
    cases hd : Tr.digs p with
    | false =>
      have D1' := D1 _ hd
      clear D1 hd
      generalize Tr.len n i = q at *
      generalize p.length = k at *
      have hkq : k = q := by have e : (k : Int) = (q : Int) := by simpa using hl1
                             omega
      subst hkq
      go_enter Tryd.func43, Tryd.ntmps43
      go_wp2_with fail
      refine HLn.out.mono ?_
      rintro e w1 ⟨rfl, rfl⟩
      go_wp2_with fail
      refine D1'.out.mono ?_
      rintro e w1 ⟨rfl, rfl⟩
      go_wp2_with fail
      go_ret
      exact ⟨by simp, Below.refl _ _⟩
    | true =>
      have D1' := D1 _ hd
      clear D1 hd
      generalize Tr.up n i (Tr.leaf lf) p = u at *
      generalize Tr.leaf lf = d at *
      generalize Tr.len n i = q at *
      generalize p.length = k at *
      have hkq : k = q := by have e : (k : Int) = (q : Int) := by simpa using hl1
                             omega
      subst hkq
      have hbq := bytes_beq' u rt
      have HBQ := Lib.hid hbq
      clear hbq
      go_enter Tryd.func43, Tryd.ntmps43
      go_wp2_with fail
      refine HLn.out.mono ?_
      rintro e w1 ⟨rfl, rfl⟩
      go_wp2_with fail
      refine D1'.out.mono ?_
      rintro e w1 ⟨rfl, rfl⟩
      go_wp2_with fail
      refine RL.out.mono ?_
      rintro e w1 ⟨rfl, hb1⟩
      go_wp2_with fail
      refine (HU.out w1 hb1).mono ?_
      rintro e w2 ⟨rfl, hb2⟩
      go_wp2_with fail
      go_ret
      exact ⟨by rw [← HBQ.out]; simp, Bt hb1 hb2⟩
  · rw [decide_eq_false hl]
    have hl1 : ((p.length : Int) == ((Tr.len n i : Nat) : Int)) = false := by rw [beq_eq_false_iff_ne]; omega
    have hl2 : (p.length : Int) ≠ ((Tr.len n i : Nat) : Int) := by omega
    unfold maxLen at hm
    clear hs hz hl
    generalize Tr.len n i = q at *
    generalize p.length = k at *
    go_enter Tryd.func43, Tryd.ntmps43
    go_wp2_with fail
    refine HLn.out.mono ?_
    rintro e w1 ⟨rfl, rfl⟩
    go_wp2_with fail
    go_ret
    exact ⟨by simp, Below.refl _ _⟩

theorem rCheck_any (rt : ByteArray) (n i : Int) (lf : ByteArray) (A : Option Addr) (c : Nat) (p : List ByteArray) (w : World) (hlf : lf.size ≤ 1000000000) (hs : Strs w w.heap.size A p) (hz : ∀ s ∈ p, s.size ≤ 1000000000) (hc : p.length ≤ c) (hm : c ≤ maxLen) :
    Calls Tryd.prog 43 #[.string rt, .int .i64 n, .int .i64 i, .string lf, .slice A p.length c] w fun e w' => e = .returned (.bool (Tr.check rt n i lf p)) ∧ Below w.heap.size w w' := by
  by_cases h : 0 ≤ i ∧ i < n ∧ n ≤ 1000000
  · obtain ⟨h1, h2, h3⟩ := h
    obtain ⟨i, rfl⟩ : ∃ k : Nat, i = k := ⟨i.toNat, by omega⟩
    obtain ⟨n, rfl⟩ : ∃ k : Nat, n = k := ⟨n.toNat, by omega⟩
    exact rCheck_in rt n i lf A c p w (by omega) (by omega) hlf hs hz hc hm
  · rw [check_out rt n i lf p h]
    exact rCheck_out rt n i lf A c p.length w h
end Go.Proofs.YtokhdloebcadnaaDoor
