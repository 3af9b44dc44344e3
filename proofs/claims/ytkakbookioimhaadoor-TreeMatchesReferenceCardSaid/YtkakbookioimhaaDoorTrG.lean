/- link and Link of the program. -/
import Derived.Test.YtkakbookioimhaaDoorTrC
import Derived.Test.YtkakbookioimhaaDoorTrMathL
import Derived.WalkKit
import Derived.Below
import Derived.Outline
import Derived.Lib.Hide
import Derived.Deep.RegionHeld3
import Derived.Deep.DrawnRows
namespace Go.Proofs.YtkakbookioimhaaDoor
open Go.RowKit
attribute [local go_sem ↓] Go.wp_at_zero Go.wp_at_succ

theorem own_new (w : World) (B : Nat) (r : ByteArray) (hB : B ≤ w.heap.size) : OwnS (w.alloc (.cells #[.string r] 9)) B (.slice (some ⟨w.heap.size, 0, none⟩) 1 1) [r] :=
  ⟨rfl, .inr ⟨w.heap.size, 1, #[.string r], rfl, hB, heap_alloc_new w _, Nat.le_refl _, by unfold maxLen; omega, rfl, rfl⟩⟩

theorem link_all_any (first : Bool) (A : Option Addr) (c : Nat) (ss : List ByteArray) (w : World) (_h1 : 1 ≤ ss.length) (hc : ss.length ≤ c) (hm : c ≤ maxLen) (hs : Strs w w.heap.size A ss) (hz : ∀ s ∈ ss, s.size ≤ 1000000000) (hp : Pow w.heap.size w) :
    Calls Tryd.prog 30 #[.slice A ss.length c, .int .i64 (ss.length : Int), .bool first] w (Gives (Tr.link ss ss.length first) w) := by
  rw [Tr.link_all]
  have hR := root_any A c ss w hc hm hs hz hp
  have HR := Lib.hid hR
  clear hR hs hz
  unfold maxLen at hm
  generalize ss.length = n at *
  generalize Tr.root ss = r at *
  cases first with
  | true =>
    go_enter Tryd.func30, Tryd.ntmps30
    go_wp2_with fail
    go_ret
    exact ⟨_, rfl, OwnS.nil w _, Below.refl _ _⟩
  | false =>
    go_enter Tryd.func30, Tryd.ntmps30
    go_wp2_with fail
    refine HR.out.mono ?_
    rintro e w1 ⟨rfl, hb1⟩
    go_wp2
    go_ret
    exact ⟨_, rfl, own_new w1 _ r hb1.size, hb1.alloc hb1.size _⟩

set_option maxHeartbeats 1000000 in
theorem link_any (N : Nat) : ∀ (ad : Addr) (c : Nat) (ss : List ByteArray) (m : Nat) (first : Bool) (w : World), ss.length ≤ N → 0 < m → m ≤ ss.length → ss.length ≤ c → c ≤ maxLen → ss.length ≤ 1000000 → Strs w w.heap.size (some ad) ss → (∀ s ∈ ss, s.size ≤ 1000000000) → Pow w.heap.size w →
    Calls Tryd.prog 30 #[.slice (some ad) ss.length c, .int .i64 (m : Int), .bool first] w (Gives (Tr.link ss m first) w) := by
  induction N with
  | zero => intro ad c ss m first w h0 h1 h2; omega
  | succ N ih =>
    intro ad c ss m first w hN h0 h1 hc hm hM hs hz hp
    by_cases hl : m = ss.length
    · subst hl
      exact link_all_any first (some ad) c ss w h0 hc hm hs hz hp
    · have l1 := Tr.half_lt (n := ss.length) (by omega)
      have l2 := Tr.half_pos ss.length
      have hs1 := hs.take (Tr.half ss.length)
      have hs2 := hs.drop (Tr.half ss.length)
      have HF := Lib.hid (fun w => firstSize_any ss.length w (by omega) (by unfold maxLen; omega))
      have n1 : (ss.take (Tr.half ss.length)).length = Tr.half ss.length := by rw [List.length_take]; omega
      have n2 : (ss.drop (Tr.half ss.length)).length = ss.length - Tr.half ss.length := List.length_drop
      have r1 := fun w' (hb : Below w.heap.size w w') => root_any (some ad) c (ss.take (Tr.half ss.length)) w' (by omega) hm (hs1.bt hb) (fun s h => hz s (List.mem_of_mem_take h)) (hp.bt hb)
      have r2 := fun w' (hb : Below w.heap.size w w') => root_any (some (ad.add (Tr.half ss.length))) (c - Tr.half ss.length) (ss.drop (Tr.half ss.length)) w' (by omega) (by unfold maxLen at hm ⊢; omega) (hs2.bt hb) (fun s h => hz s (List.mem_of_mem_drop h)) (hp.bt hb)
      rw [n1] at r1
      rw [n2] at r2
      by_cases hi : m ≤ Tr.half ss.length
      · have HR := Lib.hid (Tr.link_lo (l := ss) (m := m) first (by omega) (by omega) hi)
        have p1 := fun w' (hb : Below w.heap.size w w') => ih ad c (ss.take (Tr.half ss.length)) m first w' (by omega) h0 (by omega) (by omega) hm (by omega) (hs1.bt hb) (fun s h => hz s (List.mem_of_mem_take h)) (hp.bt hb)
        rw [n1] at p1
        have P1 := Lib.hid p1
        have R2 := Lib.hid r2
        have hlen : (Tr.link (ss.take (Tr.half ss.length)) m first).length ≤ 1000000 := by
          rw [Tr.link_length _ _ _ _ (Nat.le_refl _) h0 (by omega)]
          have := Tr.long_lt _ (ss.take (Tr.half ss.length)).length m first (Nat.le_refl _) h0 (by omega)
          omega
        have hne : m ≠ ss.length := hl
        clear ih hz hs hs1 hs2 r1 r2 p1 n1 n2 hl
        generalize Tr.root (ss.drop (Tr.half ss.length)) = r at *
        generalize Tr.link (ss.take (Tr.half ss.length)) m first = l at *
        generalize Tr.link ss m first = l0 at *
        generalize Tr.half ss.length = k at *
        generalize ss.length = n at *
        unfold maxLen at hm
        have k1 : (0 : Int) ≤ (k : Int) := by omega
        have k2 : (k : Int) ≤ (n : Int) := by omega
        have k3 : (k : Int) ≤ (c : Int) := by omega
        have k4 : ¬ c = k := by omega
        have k5 : ¬ c = 0 := by omega
        go_enter Tryd.func30, Tryd.ntmps30
        go_wp2_with (go_at_call 34; refine (HF.out _).mono ?_; rintro e w1 ⟨rfl, rfl⟩)
        go_region_held3 (fun _ => True) (trivial)
          (first
            | (go_at_call 30
               (with_reducible refine (P1.out _ (Bd w)).mono ?_)
               rintro e w1 ⟨v1, rfl, ho1, hb1⟩
               have hb1' := Bt (Bd w) hb1)
            | (go_at_call 15
               (with_reducible refine (R2.out _ hb1').mono ?_)
               rintro e w2 ⟨rfl, hb2⟩
               have hb2' := Bt hb1' hb2
               have ho2 := own_below ho1 hb2
               have ho3 := own_below ho2 ((Below.refl _ _).alloc (Nat.le_refl _) (.cells #[.string r] 9)))
            | ((refine step_append1 (by rfl) (.tmp 27) (.tmp 32) (by rfl) w.heap.size v1 l (by rfl) ho3 w2.heap.size (by rfl) r 9 (heap_alloc_new w2 _) hlen (by have := hb2'.size; simp; omega) ?_)
               intro v3 w3 ho4 hb3)
            | fail)
        obtain ⟨A3, c3, rfl, _⟩ := ho4.form
        go_wp2
        go_ret
        exact ⟨_, rfl, by rw [HR.out]; exact ho4, (hb2'.alloc hb2'.size _).trans hb3⟩
      · have HR := Lib.hid (Tr.link_hi (l := ss) (m := m) first (by omega) (by omega) hi)
        have p2 := fun w' (hb : Below w.heap.size w w') => ih (ad.add (Tr.half ss.length)) (c - Tr.half ss.length) (ss.drop (Tr.half ss.length)) (m - Tr.half ss.length) false w' (by omega) (by omega) (by omega) (by omega) (by unfold maxLen at hm ⊢; omega) (by omega) (hs2.bt hb) (fun s h => hz s (List.mem_of_mem_drop h)) (hp.bt hb)
        rw [n2] at p2
        have P2 := Lib.hid p2
        have R1 := Lib.hid r1
        have hlen : (Tr.link (ss.drop (Tr.half ss.length)) (m - Tr.half ss.length) false).length ≤ 1000000 := by
          rw [Tr.link_length _ _ _ _ (Nat.le_refl _) (by omega) (by omega)]
          have := Tr.long_lt _ (ss.drop (Tr.half ss.length)).length (m - Tr.half ss.length) false (Nat.le_refl _) (by omega) (by omega)
          omega
        have hne : m ≠ ss.length := hl
        clear ih hz hs hs1 hs2 r1 r2 p2 n1 n2 hl
        generalize Tr.root (ss.take (Tr.half ss.length)) = r at *
        generalize Tr.link (ss.drop (Tr.half ss.length)) (m - Tr.half ss.length) false = l at *
        generalize Tr.link ss m first = l0 at *
        generalize Tr.half ss.length = k at *
        generalize ss.length = n at *
        unfold maxLen at hm
        have k1 : (0 : Int) ≤ (k : Int) := by omega
        have k2 : (k : Int) ≤ (n : Int) := by omega
        have k3 : (k : Int) ≤ (c : Int) := by omega
        have k4 : ¬ c = k := by omega
        have k5 : ¬ c = 0 := by omega
        have k6 : IntKind.i64.wrap ((m : Int) - (k : Int)) = ((m - k : Nat) : Int) := by rw [IntKind.wrap_i64]; omega
        go_enter Tryd.func30, Tryd.ntmps30
        go_wp2_with (go_at_call 34; refine (HF.out _).mono ?_; rintro e w1 ⟨rfl, rfl⟩)
        go_region_held3 (fun _ => True) (trivial)
          (first
            | (go_at_call 30
               (with_reducible refine (P2.out _ (Bd w)).mono ?_)
               rintro e w1 ⟨v1, rfl, ho1, hb1⟩
               have hb1' := Bt (Bd w) hb1)
            | (go_at_call 15
               (with_reducible refine (R1.out _ hb1').mono ?_)
               rintro e w2 ⟨rfl, hb2⟩
               have hb2' := Bt hb1' hb2
               have ho2 := own_below ho1 hb2
               have ho3 := own_below ho2 ((Below.refl _ _).alloc (Nat.le_refl _) (.cells #[.string r] 9)))
            | ((refine step_append1 (by rfl) (.tmp 40) (.tmp 45) (by rfl) w.heap.size v1 l (by rfl) ho3 w2.heap.size (by rfl) r 9 (heap_alloc_new w2 _) hlen (by have := hb2'.size; simp; omega) ?_)
               intro v3 w3 ho4 hb3)
            | fail)
        obtain ⟨A3, c3, rfl, _⟩ := ho4.form
        go_wp2
        go_ret
        exact ⟨_, rfl, by rw [HR.out]; exact ho4, (hb2'.alloc hb2'.size _).trans hb3⟩

/-- What Link returns of m in a list. -/
def Tr.Link (l : List ByteArray) (m : Nat) : List ByteArray := if m = 0 then [] else Tr.link l m true

theorem Link_ok (A : Option Addr) (c : Nat) (ss : List ByteArray) (m : Nat) (w : World) (hi : m ≤ ss.length) (hc : ss.length ≤ c) (hm : c ≤ maxLen) (hM : ss.length ≤ 1000000) (hs : Strs w w.heap.size A ss) (hz : ∀ s ∈ ss, s.size ≤ 1000000000) (hp : Pow w.heap.size w) :
    Calls Tryd.prog 13 #[.slice A ss.length c, .int .i64 (m : Int)] w (GivesE (Tr.Link ss m) 0 w) := by
  by_cases h0 : m = 0
  · subst h0
    have HL : Hid (Tr.Link ss 0 = []) := rfl
    clear hs hz
    generalize ss.length = n at *
    go_enter Tryd.func13, Tryd.ntmps13
    go_wp2_with fail
    go_ret2
    exact ⟨_, rfl, by rw [HL.out]; exact OwnS.nil _ _, Below.refl _ _⟩
  · obtain ⟨ad, rfl, _, _⟩ := hs 0 (by omega)
    have e : Tr.Link ss m = Tr.link ss m true := if_neg h0
    have HP := Lib.hid (link_any ss.length ad c ss m true w (Nat.le_refl _) (by omega) hi hc hm hM hs hz hp)
    rw [e]
    clear hs hz e
    generalize ss.length = n at *
    generalize Tr.link ss m true = l at *
    have h1 : 0 < m := by omega
    go_enter Tryd.func13, Tryd.ntmps13
    go_wp2_with fail
    refine HP.out.mono ?_
    rintro e w1 ⟨v1, rfl, ho1, hb1⟩
    obtain ⟨A3, c3, rfl, _⟩ := ho1.form
    go_wp2
    go_ret2
    exact ⟨_, rfl, ho1, hb1⟩

theorem Link_err (A : Option Addr) (c n : Nat) (m : Int) (w : World) (hi : m < 0 ∨ (n : Int) < m) :
    Calls Tryd.prog 13 #[.slice A n c, .int .i64 m] w (GivesE [] 1 w) := by
  rcases hi with hi | hi
  · go_enter Tryd.func13, Tryd.ntmps13
    go_wp2_with fail
    go_ret2
    exact ⟨_, rfl, OwnS.nil _ _, Below.refl _ _⟩
  · have h0 : 0 ≤ m := by omega
    go_enter Tryd.func13, Tryd.ntmps13
    go_wp2_with fail
    go_ret2
    exact ⟨_, rfl, OwnS.nil _ _, Below.refl _ _⟩
end Go.Proofs.YtkakbookioimhaaDoor
