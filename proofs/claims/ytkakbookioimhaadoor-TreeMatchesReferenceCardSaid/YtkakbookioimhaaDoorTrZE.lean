/- The reference's Extends. -/
import Derived.Test.YtkakbookioimhaaDoorTrZ
import Derived.WalkKit
import Derived.Below
import Derived.Outline
import Derived.Lib.Hide
namespace Go.Proofs.YtkakbookioimhaaDoor
open Go.RowKit

theorem rExtends_out (old : ByteArray) (m : Int) (rt : ByteArray) (n : Int) (A : Option Addr) (c k : Nat) (w : World) (h : ¬ (0 ≤ m ∧ m ≤ n ∧ n ≤ 1000000)) :
    Calls Tryd.prog 21 #[.string old, .int .i64 m, .string rt, .int .i64 n, .slice A k c] w fun e w' => e = .returned (.bool false) ∧ Below w.heap.size w w' := by
  by_cases h0 : m < 0
  · clear h
    go_enter Tryd.func21, Tryd.ntmps21
    go_wp2_with fail
    go_ret
    exact ⟨rfl, Below.refl _ _⟩
  · by_cases h1 : n < m
    · clear h
      go_enter Tryd.func21, Tryd.ntmps21
      go_wp2_with fail
      go_ret
      exact ⟨rfl, Below.refl _ _⟩
    · have h2 : 1000000 < n := by omega
      have h3 : 0 ≤ m := by omega
      have h4 : m ≤ n := by omega
      clear h h0 h1
      go_enter Tryd.func21, Tryd.ntmps21
      go_wp2_with fail
      go_ret
      exact ⟨rfl, Below.refl _ _⟩

theorem digs_two (a b : ByteArray) : Tr.digs [a, b] = (Dg.isDigest a.data.toList && Dg.isDigest b.data.toList) := by
  unfold Tr.digs
  simp

/-- The digests of both roots. -/
theorem two_val (a b : ByteArray) (v : Bool) (hv : Tr.digs [a, b] = v) (w : World) (ha : a.size ≤ maxLen) (hb : b.size ≤ maxLen) :
    Calls Tryd.prog 44 #[.slice (some ⟨w.heap.size, 0, none⟩) 2 2] (w.alloc (.cells #[.string a, .string b] 9)) fun e w' => e = .returned (.bool v) ∧ w.alloc (.cells #[.string a, .string b] 9) = w' :=
  digests_val (some ⟨w.heap.size, 0, none⟩) 2 [a, b] v hv _ (strs_new w [a, b] 9) (by unfold maxLen; simp) (fun s hs => by simp at hs; rcases hs with rfl | rfl; exact ha; exact hb)

theorem rExtends_bad (old : ByteArray) (m : Int) (rt : ByteArray) (n : Int) (A : Option Addr) (c k : Nat) (w : World) (h0 : 0 ≤ m) (h1 : m ≤ n) (h2 : n ≤ 1000000) (ha : old.size ≤ maxLen) (hb : rt.size ≤ maxLen) (h : Dg.isDigest old.data.toList = false ∨ Dg.isDigest rt.data.toList = false) :
    Calls Tryd.prog 21 #[.string old, .int .i64 m, .string rt, .int .i64 n, .slice A k c] w fun e w' => e = .returned (.bool false) ∧ Below w.heap.size w w' := by
  have TV := Lib.hid (two_val old rt false (by rw [digs_two]; rcases h with h | h <;> rw [h] <;> simp) w ha hb)
  have HB := Lib.hid ((Below.refl w.heap.size w).alloc (Nat.le_refl _) (.cells #[.string old, .string rt] 9))
  clear h ha hb
  go_enter Tryd.func21, Tryd.ntmps21
  go_wp2_with fail
  refine TV.out.mono ?_
  rintro e w1 ⟨rfl, rfl⟩
  go_wp2_with fail
  go_ret
  exact ⟨rfl, HB.out⟩

theorem rextends_zero (old rt : ByteArray) (n : Nat) (p : List ByteArray) (h2 : n ≤ 1000000) (ho : Dg.isDigest old.data.toList = true) (hr : Dg.isDigest rt.data.toList = true) :
    Tr.extends' old 0 rt n p = (decide (p.length = 0) && (decide (old = Tr.empty) && (decide (0 < n) || decide (rt = old)))) := extends_zero old rt n p h2 ho hr

theorem rextends_all (old rt : ByteArray) (n : Nat) (p : List ByteArray) (h0 : 0 < n) (h2 : n ≤ 1000000) (ho : Dg.isDigest old.data.toList = true) (hr : Dg.isDigest rt.data.toList = true) :
    Tr.extends' old n rt n p = (Tr.digs p && (decide (p.length = 0) && decide (old = rt))) := by
  unfold Tr.extends'
  rw [decide_eq_true (show (0 : Int) ≤ (n : Int) ∧ (n : Int) ≤ (n : Int) ∧ (n : Int) ≤ 1000000 by omega), ho, hr, if_neg (by omega)]
  simp [Tr.long_all, Tr.both_all, Bool.and_assoc]

theorem rextends_mid (old rt : ByteArray) (m n : Nat) (p : List ByteArray) (h0 : 0 < m) (h1 : m < n) (h2 : n ≤ 1000000) (ho : Dg.isDigest old.data.toList = true) (hr : Dg.isDigest rt.data.toList = true) :
    Tr.extends' old m rt n p = (Tr.digs p && (decide (p.length = Tr.long n m true) && (decide ((Tr.both n m true old p).1 = old) && decide ((Tr.both n m true old p).2 = rt)))) := by
  unfold Tr.extends'
  rw [decide_eq_true (show (0 : Int) ≤ (m : Int) ∧ (m : Int) ≤ (n : Int) ∧ (n : Int) ≤ 1000000 by omega), ho, hr, if_neg (by omega)]
  simp only [Int.toNat_natCast]
  simp [Bool.and_assoc]

set_option maxHeartbeats 2000000 in
/-- Both roots are digests. -/
theorem rExtends_in (old rt : ByteArray) (m n : Nat) (A : Option Addr) (c : Nat) (p : List ByteArray) (w : World) (h1 : m ≤ n) (h2 : n ≤ 1000000) (ho : Dg.isDigest old.data.toList = true) (hr : Dg.isDigest rt.data.toList = true) (ha : old.size ≤ 1000000000) (hb : rt.size ≤ maxLen)
    (hs : Strs w w.heap.size A p) (hz : ∀ s ∈ p, s.size ≤ 1000000000) (hc : p.length ≤ c) (hm : c ≤ maxLen) :
    Calls Tryd.prog 21 #[.string old, .int .i64 (m : Int), .string rt, .int .i64 (n : Int), .slice A p.length c] w fun e w' => e = .returned (.bool (Tr.extends' old m rt n p)) ∧ Below w.heap.size w w' := by
  have TV := Lib.hid (two_val old rt true (by rw [digs_two, ho, hr]; rfl) w (by unfold maxLen; omega) hb)
  have hba := (Below.refl w.heap.size w).alloc (Nat.le_refl _) (.cells #[.string old, .string rt] 9)
  have D1 := fun v hv => Lib.hid (digests_val A c p v hv (w.alloc (.cells #[.string old, .string rt] 9)) (hs.bt hba) (by omega) (fun s h => by have := hz s h; unfold maxLen; omega))
  have HB := Lib.hid hba
  have HS := Lib.hid hs
  have HZ := Lib.hid hz
  clear hba hs hz
  cases hd : Tr.digs p with
  | false =>
    have D1' := D1 _ hd
    have e : Tr.extends' old m rt n p = false := by
      by_cases h0 : m = 0
      · subst h0
        have : p.length ≠ 0 := fun e => by rw [List.eq_nil_of_length_eq_zero e] at hd; cases hd
        have e2 := rextends_zero old rt n p h2 ho hr
        rw [decide_eq_false this, Bool.false_and] at e2
        exact e2
      · by_cases h3 : m = n
        · subst h3
          rw [rextends_all old rt m p (by omega) h2 ho hr, hd, Bool.false_and]
        · rw [rextends_mid old rt m n p (by omega) (by omega) h2 ho hr, hd, Bool.false_and]
    rw [e]
    clear D1 hd e ho hr
    unfold maxLen at hm
    generalize p.length = k at *
    go_enter Tryd.func21, Tryd.ntmps21
    go_wp2_with fail
    refine TV.out.mono ?_
    rintro e w1 ⟨rfl, rfl⟩
    go_wp2_with fail
    refine D1'.out.mono ?_
    rintro e w1 ⟨rfl, rfl⟩
    go_wp2_with fail
    go_ret
    exact ⟨rfl, HB.out⟩
  | true =>
    have D1' := D1 _ hd
    clear D1
    by_cases h0 : m = 0
    · subst h0
      have e2 := rextends_zero old rt n p h2 ho hr
      have HE : Hid (Tr.extends' old ((0 : Nat) : Int) rt n p = _) := e2
      rw [HE.out]
      have RE := Lib.hid (fun w' => rempty_any w')
      have HO := Lib.hid (bytes_beq' old Tr.empty)
      have HRO := Lib.hid (bytes_beq' rt old)
      clear hd e2 HE ho hr HS HZ
      unfold maxLen at hm
      generalize p.length = k at *
      generalize Tr.empty = em at *
      by_cases hk : k = 0
      · subst hk
        by_cases hx : old = em
        · have hbq : (old.toList == em.toList) = true := by rw [HO.out, decide_eq_true hx]
          rw [decide_eq_true hx]
          clear hx
          by_cases hn : n = 0
          · subst hn
            go_enter Tryd.func21, Tryd.ntmps21
            go_wp2_with fail
            refine TV.out.mono ?_
            rintro e w1 ⟨rfl, rfl⟩
            go_wp2_with fail
            refine D1'.out.mono ?_
            rintro e w1 ⟨rfl, rfl⟩
            go_wp2_with fail
            refine (RE.out _).mono ?_
            rintro e w1 ⟨rfl, hb1⟩
            go_wp2_with fail
            go_ret
            exact ⟨by rw [← HRO.out]; simp, Bt HB.out hb1⟩
          · have hn0 : 0 < n := by omega
            rw [decide_eq_true hn0]
            clear hn
            go_enter Tryd.func21, Tryd.ntmps21
            go_wp2_with fail
            refine TV.out.mono ?_
            rintro e w1 ⟨rfl, rfl⟩
            go_wp2_with fail
            refine D1'.out.mono ?_
            rintro e w1 ⟨rfl, rfl⟩
            go_wp2_with fail
            refine (RE.out _).mono ?_
            rintro e w1 ⟨rfl, hb1⟩
            go_wp2_with fail
            go_ret
            exact ⟨by simp, Bt HB.out hb1⟩
        · have hbq : (old.toList == em.toList) = false := by rw [HO.out, decide_eq_false hx]
          rw [decide_eq_false hx]
          clear hx
          go_enter Tryd.func21, Tryd.ntmps21
          go_wp2_with fail
          refine TV.out.mono ?_
          rintro e w1 ⟨rfl, rfl⟩
          go_wp2_with fail
          refine D1'.out.mono ?_
          rintro e w1 ⟨rfl, rfl⟩
          go_wp2_with fail
          refine (RE.out _).mono ?_
          rintro e w1 ⟨rfl, hb1⟩
          go_wp2_with fail
          go_ret
          exact ⟨by simp, Bt HB.out hb1⟩
      · have k1 : ((k : Int) == 0) = false := by rw [beq_eq_false_iff_ne]; omega
        rw [decide_eq_false hk]
        clear hk
        go_enter Tryd.func21, Tryd.ntmps21
        go_wp2_with fail
        refine TV.out.mono ?_
        rintro e w1 ⟨rfl, rfl⟩
        go_wp2_with fail
        refine D1'.out.mono ?_
        rintro e w1 ⟨rfl, rfl⟩
        go_wp2_with fail
        go_ret
        exact ⟨by simp, HB.out⟩
    · have m0 : ((m : Int) == 0) = false := by rw [beq_eq_false_iff_ne]; omega
      by_cases h3 : m = n
      · subst h3
        rw [rextends_all old rt m p (by omega) h2 ho hr, hd]
        have HO := Lib.hid (bytes_beq' old rt)
        clear hd ho hr HS HZ h0 h1
        unfold maxLen at hm
        generalize p.length = k at *
        by_cases hk : k = 0
        · subst hk
          go_enter Tryd.func21, Tryd.ntmps21
          go_wp2_with fail
          refine TV.out.mono ?_
          rintro e w1 ⟨rfl, rfl⟩
          go_wp2_with fail
          refine D1'.out.mono ?_
          rintro e w1 ⟨rfl, rfl⟩
          go_wp2_with fail
          go_ret
          exact ⟨by rw [← HO.out]; simp, HB.out⟩
        · have k1 : ((k : Int) == 0) = false := by rw [beq_eq_false_iff_ne]; omega
          rw [decide_eq_false hk]
          clear hk
          go_enter Tryd.func21, Tryd.ntmps21
          go_wp2_with fail
          refine TV.out.mono ?_
          rintro e w1 ⟨rfl, rfl⟩
          go_wp2_with fail
          refine D1'.out.mono ?_
          rintro e w1 ⟨rfl, rfl⟩
          go_wp2_with fail
          go_ret
          exact ⟨by simp, HB.out⟩
      · have mn : ((m : Int) == (n : Int)) = false := by rw [beq_eq_false_iff_ne]; omega
        have mn' : m ≠ n := h3
        rw [rextends_mid old rt m n p (by omega) (by omega) h2 ho hr, hd]
        have LG := Lib.hid (fun w' => long_any n n m true w' (Nat.le_refl _) (by omega) h1 h2)
        by_cases hl : p.length = Tr.long n m true
        · have HBO := Lib.hid (both_any n n m true old A c p (w.alloc (.cells #[.string old, .string rt] 9)) (Nat.le_refl _) (by omega) h1 h2 hl hc hm (HS.out.bt HB.out) HZ.out ha)
          rw [decide_eq_true hl]
          rw [← hl] at LG
          have hll : p.length ≤ n := by rw [hl]; exact Tr.long_lt _ n m true (Nat.le_refl _) (by omega) h1
          clear hd hl ho hr HS HZ h0 h3
          unfold Boths at HBO
          unfold maxLen at hm
          generalize Tr.both n m true old p = q at *
          generalize p.length = k at *
          have HQ := Lib.hid (bytes_beq' q.2 rt)
          by_cases hx : q.1 = old
          · have hbq : (q.1.toList == old.toList) = true := by rw [bytes_beq', decide_eq_true hx]
            rw [decide_eq_true hx]
            clear hx
            go_enter Tryd.func21, Tryd.ntmps21
            go_wp2_with fail
            refine TV.out.mono ?_
            rintro e w1 ⟨rfl, rfl⟩
            go_wp2_with fail
            refine D1'.out.mono ?_
            rintro e w1 ⟨rfl, rfl⟩
            go_wp2_with fail
            refine (LG.out _).mono ?_
            rintro e w1 ⟨rfl, rfl⟩
            go_wp2_with fail
            refine HBO.out.mono ?_
            rintro e w1 ⟨rfl, hb1⟩
            go_wp2_with fail
            go_ret
            exact ⟨by rw [← HQ.out]; simp, Bt HB.out hb1⟩
          · have hbq := bytes_ne hx
            rw [decide_eq_false hx]
            clear hx
            go_enter Tryd.func21, Tryd.ntmps21
            go_wp2_with fail
            refine TV.out.mono ?_
            rintro e w1 ⟨rfl, rfl⟩
            go_wp2_with fail
            refine D1'.out.mono ?_
            rintro e w1 ⟨rfl, rfl⟩
            go_wp2_with fail
            refine (LG.out _).mono ?_
            rintro e w1 ⟨rfl, rfl⟩
            go_wp2_with fail
            refine HBO.out.mono ?_
            rintro e w1 ⟨rfl, hb1⟩
            go_wp2_with fail
            go_ret
            exact ⟨by simp, Bt HB.out hb1⟩
        · rw [decide_eq_false hl]
          have hl1 : ((p.length : Int) == ((Tr.long n m true : Nat) : Int)) = false := by rw [beq_eq_false_iff_ne]; omega
          have hl2 : (p.length : Int) ≠ ((Tr.long n m true : Nat) : Int) := by omega
          have hll := Tr.long_lt _ n m true (Nat.le_refl _) (by omega) h1
          clear hd hl ho hr HS HZ h0 h3
          unfold maxLen at hm
          generalize Tr.long n m true = q at *
          generalize p.length = k at *
          go_enter Tryd.func21, Tryd.ntmps21
          go_wp2_with fail
          refine TV.out.mono ?_
          rintro e w1 ⟨rfl, rfl⟩
          go_wp2_with fail
          refine D1'.out.mono ?_
          rintro e w1 ⟨rfl, rfl⟩
          go_wp2_with fail
          refine (LG.out _).mono ?_
          rintro e w1 ⟨rfl, rfl⟩
          go_wp2_with fail
          go_ret
          exact ⟨by simp, HB.out⟩

theorem rExtends_any (old : ByteArray) (m : Int) (rt : ByteArray) (n : Int) (A : Option Addr) (c : Nat) (p : List ByteArray) (w : World) (ha : old.size ≤ 1000000000) (hb : rt.size ≤ 1000000000) (hs : Strs w w.heap.size A p) (hz : ∀ s ∈ p, s.size ≤ 1000000000) (hc : p.length ≤ c) (hm : c ≤ maxLen) :
    Calls Tryd.prog 21 #[.string old, .int .i64 m, .string rt, .int .i64 n, .slice A p.length c] w fun e w' => e = .returned (.bool (Tr.extends' old m rt n p)) ∧ Below w.heap.size w w' := by
  by_cases h : 0 ≤ m ∧ m ≤ n ∧ n ≤ 1000000
  · obtain ⟨h1, h2, h3⟩ := h
    by_cases hd : Dg.isDigest old.data.toList = false ∨ Dg.isDigest rt.data.toList = false
    · rw [extends_bad old m rt n p hd]
      exact rExtends_bad old m rt n A c p.length w h1 h2 h3 (by unfold maxLen; omega) (by unfold maxLen; omega) hd
    · have ho : Dg.isDigest old.data.toList = true := by
        cases e : Dg.isDigest old.data.toList with
        | true => rfl
        | false => exact absurd (.inl e) hd
      have hr : Dg.isDigest rt.data.toList = true := by
        cases e : Dg.isDigest rt.data.toList with
        | true => rfl
        | false => exact absurd (.inr e) hd
      obtain ⟨m, rfl⟩ : ∃ k : Nat, m = k := ⟨m.toNat, by omega⟩
      obtain ⟨n, rfl⟩ : ∃ k : Nat, n = k := ⟨n.toNat, by omega⟩
      exact rExtends_in old rt m n A c p w (by omega) (by omega) ho hr ha (by unfold maxLen; omega) hs hz hc hm
  · rw [extends_out old m rt n p h]
    exact rExtends_out old m rt n A c p.length w h
end Go.Proofs.YtkakbookioimhaaDoor
