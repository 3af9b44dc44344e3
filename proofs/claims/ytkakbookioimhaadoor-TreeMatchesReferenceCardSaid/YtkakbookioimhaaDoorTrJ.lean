/- Extends of the program, in whole. -/
import Derived.Test.YtkakbookioimhaaDoorTrI
import Derived.WalkKit
import Derived.Below
import Derived.Outline
import Derived.Lib.Hide
namespace Go.Proofs.YtkakbookioimhaaDoor
open Go.RowKit

set_option maxHeartbeats 1000000 in
theorem Extends_pos (old rt : ByteArray) (m n : Nat) (A : Option Addr) (c : Nat) (p : List ByteArray) (w : World) (h0 : 0 < m) (h1 : m ≤ n) (h2 : n ≤ 1000000) (ho : Dg.isDigest old.data.toList = true) (hr : Dg.isDigest rt.data.toList = true) (hold : old.size ≤ 1000000000)
    (hs : Strs w w.heap.size A p) (hz : ∀ s ∈ p, s.size ≤ 1000000000) (hc : p.length ≤ c) (hm : c ≤ maxLen) (hp : Pow w.heap.size w) :
    Calls Tryd.prog 20 #[.string old, .int .i64 (m : Int), .string rt, .int .i64 (n : Int), .slice A p.length c] w fun e w' => e = .returned (.bool (Tr.extends' old m rt n p)) ∧ Below w.heap.size w w' := by
  rw [extends_pos old rt m n p h0 h1 h2 ho hr]
  have HO := Lib.hid ho
  have HRT := Lib.hid hr
  have hb : Below w.heap.size w (w.alloc (.cells #[.slice A p.length c, .bool false] 48)) := (Below.refl _ _).alloc (Nat.le_refl _) _
  have hr' : RestAt (w.alloc (.cells #[.slice A p.length c, .bool false] 48)) w.heap.size (p, false) :=
    ⟨A, c, heap_alloc_new w _, hs.below hb (Nat.le_refl _), hc, hm⟩
  have hdig := areDigests_any A c p (w.alloc (.cells #[.slice A p.length c, .bool false] 48)) (hs.bt hb) (by omega)
  have HPR := linkRoots_any n n m old true w.heap.size (p, false) (w.alloc (.cells #[.slice A p.length c, .bool false] 48)) (Nat.le_refl _) h0 h1 h2 hz hold hr' (hp.below hb (Nat.le_refl _))
  have HP := Lib.hid HPR
  clear HPR hz hr' hs ho hr
  unfold LinkRoots at HP
  generalize Tr.lr n m old true (p, false) = q at *
  by_cases hd : Tr.digs p = true
  · rw [hd] at hdig ⊢
    have HD := Lib.hid hdig
    clear hdig hd
    unfold maxLen at hm
    generalize p.length = k at *
    have HB := Lib.hid hb
    clear hb
    by_cases hx : q.1 = old
    · rw [decide_eq_true hx]
      have hbq : (q.1.toList == old.toList) = true := by rw [bytes_beq', decide_eq_true hx]
      clear hx
      by_cases hy : q.2.1 = rt
      · rw [decide_eq_true hy]
        have hbr : (q.2.1.toList == rt.toList) = true := by rw [bytes_beq', decide_eq_true hy]
        clear hy
        go_enter Tryd.func20, Tryd.ntmps20
        go_wp2_with fail
        refine (is_yes old w HO.out).mono ?_
        rintro e w1 ⟨rfl, rfl⟩
        go_wp2_with fail
        refine (is_yes rt w HRT.out).mono ?_
        rintro e w1 ⟨rfl, rfl⟩
        go_wp2_with fail
        refine HD.out.mono ?_
        rintro e w1 ⟨rfl, rfl⟩
        go_wp2_with fail
        refine HP.out.mono ?_
        rintro e w3 ⟨rfl, hr3, hb3⟩
        have hb3' := HB.out.trans hb3
        go_wp2_with fail
        refine (usedUp_any w.heap.size q.2.2 w3 hr3).mono ?_
        rintro e w4 ⟨rfl, rfl⟩
        go_wp2
        go_ret
        exact ⟨by simp, hb3'⟩
      · rw [decide_eq_false hy]
        have hbr := bytes_ne hy
        clear hy
        go_enter Tryd.func20, Tryd.ntmps20
        go_wp2_with fail
        refine (is_yes old w HO.out).mono ?_
        rintro e w1 ⟨rfl, rfl⟩
        go_wp2_with fail
        refine (is_yes rt w HRT.out).mono ?_
        rintro e w1 ⟨rfl, rfl⟩
        go_wp2_with fail
        refine HD.out.mono ?_
        rintro e w1 ⟨rfl, rfl⟩
        go_wp2_with fail
        refine HP.out.mono ?_
        rintro e w3 ⟨rfl, hr3, hb3⟩
        have hb3' := HB.out.trans hb3
        go_wp2_with fail
        go_ret
        exact ⟨by simp, hb3'⟩
    · rw [decide_eq_false hx]
      have hbq := bytes_ne hx
      clear hx
      go_enter Tryd.func20, Tryd.ntmps20
      go_wp2_with fail
      refine (is_yes old w HO.out).mono ?_
      rintro e w1 ⟨rfl, rfl⟩
      go_wp2_with fail
      refine (is_yes rt w HRT.out).mono ?_
      rintro e w1 ⟨rfl, rfl⟩
      go_wp2_with fail
      refine HD.out.mono ?_
      rintro e w1 ⟨rfl, rfl⟩
      go_wp2_with fail
      refine HP.out.mono ?_
      rintro e w3 ⟨rfl, hr3, hb3⟩
      have hb3' := HB.out.trans hb3
      go_wp2_with fail
      go_ret
      exact ⟨by simp, hb3'⟩
  · have hd' := Bool.eq_false_iff.2 hd
    rw [hd'] at hdig ⊢
    have HD := Lib.hid hdig
    clear hdig hd hd'
    unfold maxLen at hm
    generalize p.length = k at *
    have HB := Lib.hid hb
    clear hb
    go_enter Tryd.func20, Tryd.ntmps20
    go_wp2_with fail
    refine (is_yes old w HO.out).mono ?_
    rintro e w1 ⟨rfl, rfl⟩
    go_wp2_with fail
    refine (is_yes rt w HRT.out).mono ?_
    rintro e w1 ⟨rfl, rfl⟩
    go_wp2_with fail
    refine HD.out.mono ?_
    rintro e w1 ⟨rfl, rfl⟩
    go_wp2
    go_ret
    exact ⟨by simp, HB.out⟩

theorem digest_size {s : ByteArray} (h : Dg.isDigest s.data.toList = true) : s.size = 16 := by
  unfold Dg.isDigest at h
  rw [Bool.and_eq_true, beq_iff_eq] at h
  simpa using h.1

theorem Extends_any (old : ByteArray) (m : Int) (rt : ByteArray) (n : Int) (A : Option Addr) (c : Nat) (p : List ByteArray) (w : World) (hs : Strs w w.heap.size A p) (hz : ∀ s ∈ p, s.size ≤ 1000000000) (hc : p.length ≤ c) (hm : c ≤ maxLen) (hp : Pow w.heap.size w) :
    Calls Tryd.prog 20 #[.string old, .int .i64 m, .string rt, .int .i64 n, .slice A p.length c] w fun e w' => e = .returned (.bool (Tr.extends' old m rt n p)) ∧ Below w.heap.size w w' := by
  by_cases h : 0 ≤ m ∧ m ≤ n ∧ n ≤ 1000000
  · obtain ⟨h1, h2, h3⟩ := h
    by_cases hd : Dg.isDigest old.data.toList = false ∨ Dg.isDigest rt.data.toList = false
    · rw [extends_bad old m rt n p hd]
      exact Extends_bad old m rt n A c p.length w h1 h2 h3 hd
    · have ho : Dg.isDigest old.data.toList = true := by
        cases e : Dg.isDigest old.data.toList with
        | true => rfl
        | false => exact absurd (.inl e) hd
      have hr : Dg.isDigest rt.data.toList = true := by
        cases e : Dg.isDigest rt.data.toList with
        | true => rfl
        | false => exact absurd (.inr e) hd
      obtain ⟨m, rfl⟩ : ∃ k : Nat, m = k := ⟨m.toNat, by omega⟩
      obtain ⟨n, rfl⟩ : ∃ k : Nat, n = k := ⟨n.toNat, by omega⟩
      by_cases h0 : m = 0
      · subst h0
        exact Extends_zero old rt n A c p w (by omega) ho hr hc hm hp
      · exact Extends_pos old rt m n A c p w (by omega) (by omega) (by omega) ho hr (by rw [digest_size ho]; omega) hs hz hc hm hp
  · rw [extends_out old m rt n p h]
    exact Extends_out old m rt n A c p.length w h
end Go.Proofs.YtkakbookioimhaaDoor
