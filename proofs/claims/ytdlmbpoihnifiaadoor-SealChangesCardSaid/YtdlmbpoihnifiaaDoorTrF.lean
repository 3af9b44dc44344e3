/- Check of the program. -/
import Derived.Test.YtdlmbpoihnifiaaDoorTrE
import Derived.Test.YtdlmbpoihnifiaaDoorDgT
import Derived.WalkKit
import Derived.Below
import Derived.Outline
import Derived.Lib.Hide
namespace Go.Proofs.YtdlmbpoihnifiaaDoor
open Go.RowKit
set_option maxRecDepth 100000

theorem bytes_beq' (x y : ByteArray) : (x.toList == y.toList) = decide (x = y) := by
  by_cases h : x = y
  · subst h
    simp
  · rw [bytes_ne h, decide_eq_false h]

theorem check_out (rt : ByteArray) (n i : Int) (lf : ByteArray) (p : List ByteArray) (h : ¬ (0 ≤ i ∧ i < n ∧ n ≤ 1000000)) : Tr.check rt n i lf p = false := by
  unfold Tr.check
  rw [decide_eq_false h]
  rfl
theorem check_in (rt : ByteArray) (n i : Nat) (lf : ByteArray) (p : List ByteArray) (h1 : i < n) (h2 : n ≤ 1000000) : Tr.check rt n i lf p = (Tr.digs p && (decide ((Tr.pr n i (Tr.leaf lf) (p, false)).1 = rt) && Tr.used (Tr.pr n i (Tr.leaf lf) (p, false)).2)) := by
  unfold Tr.check
  rw [decide_eq_true (show (0 : Int) ≤ (i : Int) ∧ (i : Int) < (n : Int) ∧ (n : Int) ≤ 1000000 by omega), Tr.check_pr]
  simp [Bool.and_assoc]

theorem Check_out (rt : ByteArray) (n i : Int) (lf : ByteArray) (A : Option Addr) (c k : Nat) (w : World) (h : ¬ (0 ≤ i ∧ i < n ∧ n ≤ 1000000)) :
    Calls Tryd.prog 40 #[.string rt, .int .i64 n, .int .i64 i, .string lf, .slice A k c] w fun e w' => e = .returned (.bool false) ∧ Below w.heap.size w w' := by
  by_cases h0 : i < 0
  · go_enter Tryd.func40, Tryd.ntmps40
    go_wp2_with fail
    go_ret
    exact ⟨rfl, Below.refl _ _⟩
  · by_cases h1 : n ≤ i
    · go_enter Tryd.func40, Tryd.ntmps40
      go_wp2_with fail
      go_ret
      exact ⟨rfl, Below.refl _ _⟩
    · have h2 : 1000000 < n := by omega
      have h3 : 0 ≤ i := by omega
      have h4 : i < n := by omega
      clear h h0 h1
      go_enter Tryd.func40, Tryd.ntmps40
      go_wp2_with fail
      go_ret
      exact ⟨rfl, Below.refl _ _⟩

set_option maxHeartbeats 1000000 in
theorem Check_in (rt : ByteArray) (n i : Nat) (lf : ByteArray) (A : Option Addr) (c : Nat) (p : List ByteArray) (w : World) (hi : i < n) (hn : n ≤ 1000000) (hlf : lf.size ≤ 1000000000) (hs : Strs w w.heap.size A p) (hz : ∀ s ∈ p, s.size ≤ 1000000000) (hc : p.length ≤ c) (hm : c ≤ maxLen) (hp : Pow w.heap.size w) :
    Calls Tryd.prog 40 #[.string rt, .int .i64 (n : Int), .int .i64 (i : Int), .string lf, .slice A p.length c] w fun e w' => e = .returned (.bool (Tr.check rt n i lf p)) ∧ Below w.heap.size w w' := by
  rw [check_in rt n i lf p hi hn]
  have hb : Below w.heap.size w (w.alloc (.cells #[.slice A p.length c, .bool false] 75)) := (Below.refl _ _).alloc (Nat.le_refl _) _
  have hr : RestAt (w.alloc (.cells #[.slice A p.length c, .bool false] 75)) w.heap.size (p, false) :=
    ⟨A, c, heap_alloc_new w _, hs.below hb (Nat.le_refl _), hc, hm⟩
  have hdig := areDigests_any A c p (w.alloc (.cells #[.slice A p.length c, .bool false] 75)) (hs.bt hb) (by omega)
  have sz := Small.pr (M := 1000000000) (by omega) n n i (Tr.leaf lf) (p, false) (Nat.le_refl _) hz (by rw [leaf_size]; omega)
  have HR := Lib.hid hr
  have SZ := Lib.hid sz
  have lf16 := leaf_size lf
  have LF := Lib.hid lf16
  clear hr sz lf16 hs
  have HPR : ∀ w', Below w.heap.size w w' → RestAt w' w.heap.size (p, false) → Calls Tryd.prog 70 #[.pointer (some ⟨w.heap.size, 0, none⟩), .int .i64 (n : Int), .int .i64 (i : Int), .string (Tr.leaf lf)] w' (PathRoots n i (Tr.leaf lf) w.heap.size (p, false) w') := fun w' hb' hr' =>
    pathRoot_any n n i (Tr.leaf lf) w.heap.size (p, false) w' (Nat.le_refl _) hi hn hz (by rw [LF.out]; omega) hr' (hp.below hb' (Nat.le_refl _))
  have HP := Lib.hid HPR
  clear HPR hz
  unfold PathRoots at HP
  generalize Tr.pr n i (Tr.leaf lf) (p, false) = q at *
  by_cases hd : Tr.digs p = true
  · rw [hd] at hdig ⊢
    have HD := Lib.hid hdig
    clear hdig hd
    unfold maxLen at hm
    generalize p.length = m at *
    have HB := Lib.hid hb
    by_cases hx : q.1 = rt
    case' pos =>
      rw [decide_eq_true hx]
      have hbq : (q.1.toList == rt.toList) = true := by rw [bytes_beq', decide_eq_true hx]
    case' neg =>
      rw [decide_eq_false hx]
      have hbq := bytes_ne hx
    all_goals
      clear hx hb
      go_enter Tryd.func40, Tryd.ntmps40
      go_wp2_with fail
      refine HD.out.mono ?_
      rintro e w1 ⟨rfl, rfl⟩
      go_wp2_with fail
      refine (leafRoot_any lf _ hlf (hp.bt HB.out)).mono ?_
      rintro e w2 ⟨rfl, hb2⟩
      have hb2' := Bt HB.out hb2
      go_wp2_with fail
      refine (HP.out w2 hb2' (HR.out.bt hb2)).mono ?_
      rintro e w3 ⟨rfl, hr3, hb3⟩
      have hb3' := hb2'.trans hb3
    · go_wp2
      go_ret
      exact ⟨by simp, hb3'⟩
    · go_wp2_with fail
      refine (usedUp_any w.heap.size q.2 w3 hr3).mono ?_
      rintro e w4 ⟨rfl, rfl⟩
      go_wp2
      go_ret
      exact ⟨by simp, hb3'⟩
  · have hd' := Bool.eq_false_iff.2 hd
    rw [hd'] at hdig ⊢
    have HD := Lib.hid hdig
    clear hdig hd hd'
    unfold maxLen at hm
    generalize p.length = m at *
    have HB := Lib.hid hb
    clear hb
    go_enter Tryd.func40, Tryd.ntmps40
    go_wp2_with fail
    refine HD.out.mono ?_
    rintro e w1 ⟨rfl, rfl⟩
    go_wp2
    go_ret
    exact ⟨by simp, HB.out⟩

theorem Check_any (rt : ByteArray) (n i : Int) (lf : ByteArray) (A : Option Addr) (c : Nat) (p : List ByteArray) (w : World) (hlf : lf.size ≤ 1000000000) (hs : Strs w w.heap.size A p) (hz : ∀ s ∈ p, s.size ≤ 1000000000) (hc : p.length ≤ c) (hm : c ≤ maxLen) (hp : Pow w.heap.size w) :
    Calls Tryd.prog 40 #[.string rt, .int .i64 n, .int .i64 i, .string lf, .slice A p.length c] w fun e w' => e = .returned (.bool (Tr.check rt n i lf p)) ∧ Below w.heap.size w w' := by
  by_cases h : 0 ≤ i ∧ i < n ∧ n ≤ 1000000
  · obtain ⟨h1, h2, h3⟩ := h
    obtain ⟨i, rfl⟩ : ∃ k : Nat, i = k := ⟨i.toNat, by omega⟩
    obtain ⟨n, rfl⟩ : ∃ k : Nat, n = k := ⟨n.toNat, by omega⟩
    exact Check_in rt n i lf A c p w (by omega) (by omega) hlf hs hz hc hm hp
  · rw [check_out rt n i lf p h]
    exact Check_out rt n i lf A c p.length w h
end Go.Proofs.YtdlmbpoihnifiaaDoor
