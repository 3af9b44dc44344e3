/- Layer 8: the sum of parts; the remainder of a part, and how two are compared. -/
import Derived.Test.YtkbncdcphohmiaaGreatDoorMoK
import Derived.Test.YtkbncdcphohmiaaGreatDoorMoJ
import Derived.Test.YtkbncdcphohmiaaGreatDoorMoE
import Derived.Test.YtkbncdcphohmiaaGreatDoorShelf
set_option linter.unusedSimpArgs false
set_option linter.unusedVariables false
namespace Go.Proofs.YtkbncdcphohmiaaGreatDoor
open Go.RowKit
set_option maxRecDepth 100000

/-- The slice at A holds these numbers. -/
def Mo.Zs (w : World) (B : Nat) (A : Option Addr) (l : List Int) : Prop := ∀ k, k < l.length → ∃ ad, A = some ad ∧ ad.block < B ∧ w.cell? (ad.add k) = some (.int .i64 (l.getD k 0))
theorem Mo.Zs.below {w w' : World} {B B' : Nat} {A : Option Addr} {l : List Int} (h : Mo.Zs w B A l) (hb : Below B' w w') (hB : B ≤ B') : Mo.Zs w' B A l := fun k hk => by
  obtain ⟨ad, rfl, hlt, hc⟩ := h k hk
  exact ⟨ad, rfl, hlt, (hb.cell (p := ad.add k) (by rw [Mo.add_block]; omega)).trans hc⟩
theorem Mo.Zs.mono {w : World} {B B' : Nat} {A : Option Addr} {l : List Int} (h : Mo.Zs w B A l) (hB : B ≤ B') : Mo.Zs w B' A l := fun k hk => by
  obtain ⟨ad, rfl, hlt, hc⟩ := h k hk
  exact ⟨ad, rfl, by omega, hc⟩
theorem Mo.Zs.bt {w w' : World} {A : Option Addr} {l : List Int} (h : Mo.Zs w w.heap.size A l) (hb : Below w.heap.size w w') : Mo.Zs w' w'.heap.size A l := (h.below hb (Nat.le_refl _)).mono hb.size

def Mo.pn (l : List Int) (i : Nat) : Nat := (l.getD i 0).toNat
def Mo.inR (x : Int) : Bool := decide (0 ≤ x) && decide (x ≤ 1000000)
def Mo.okP (l : List Int) : Bool := decide (l.length ≤ 400) && (l.all Mo.inR && decide (Mo.sum l.length (Mo.pn l) ≠ 0))
def Mo.totF (l : List Int) : Int × Int := if Mo.okP l then (((Mo.sum l.length (Mo.pn l) : Nat) : Int), 0) else (0, 1)
theorem Mo.inR_at {l : List Int} {k : Nat} (hk : k < l.length) (h : Mo.inR (l.getD k 0) = false) : Mo.okP l = false := by
  cases ho : Mo.okP l with
  | false => rfl
  | true =>
    simp only [Mo.okP, Bool.and_eq_true] at ho
    rw [List.getD_eq_getElem?_getD, List.getElem?_eq_getElem hk, Option.getD_some, List.all_eq_true.1 ho.2.1 _ (List.getElem_mem hk)] at h
    cases h
theorem Mo.all_inR {l : List Int} (h : ∀ i, i < l.length → Mo.inR (l.getD i 0) = true) : l.all Mo.inR = true := List.all_eq_true.2 fun x hx => by
  obtain ⟨i, hi, rfl⟩ := List.getElem_of_mem hx
  have := h i hi
  rwa [List.getD_eq_getElem?_getD, List.getElem?_eq_getElem hi, Option.getD_some] at this
theorem Mo.pn_of {l : List Int} {k : Nat} (h : Mo.inR (l.getD k 0) = true) : l.getD k 0 = (Mo.pn l k : Int) ∧ Mo.pn l k ≤ 1000000 := by
  simp only [Mo.inR, Bool.and_eq_true, decide_eq_true_eq] at h
  unfold Mo.pn
  omega
def Mo.PreR (l : List Int) (k : Nat) : Prop := ∀ i, i < k → Mo.inR (l.getD i 0) = true

set_option maxHeartbeats 1000000 in
theorem Mo.total_any (A : Option Addr) (c : Nat) (l : List Int) (w : World) (hz : Mo.Zs w w.heap.size A l) (hlen : l.length ≤ maxLen) :
    Calls Tryz.prog 53 #[.slice A l.length c] w fun e w' => e = .returned (.tuple #[.int .i64 (Mo.totF l).1, .int .i64 (Mo.totF l).2]) ∧ w = w' := by
  unfold maxLen at hlen
  by_cases h4 : 400 < l.length
  · have h4i : (400 : Int) < (l.length : Int) := by omega
    have hr : Mo.totF l = (0, 1) := by
      unfold Mo.totF
      rw [if_neg (by simp [Mo.okP]; omega)]
    rw [hr]
    clear hr hz
    go_enter Tryz.func53, Tryz.ntmps53
    go_wp2
    go_ret2
    exact ⟨rfl, rfl⟩
  · have h4i : ¬ (400 : Int) < (l.length : Int) := by omega
    have HZ := Lib.hid hz
    have HBD : Hid (Mo.okP l = false → Mo.totF l = (0, 1)) := Lib.hid (fun h => by unfold Mo.totF; rw [h]; rfl)
    have HOK : Hid (Mo.okP l = true → Mo.totF l = (((Mo.sum l.length (Mo.pn l) : Nat) : Int), 0)) := Lib.hid (fun h => by unfold Mo.totF; rw [h]; rfl)
    generalize Mo.totF l = r at *
    clear hz hlen
    go_enter Tryz.func53, Tryz.ntmps53
    go_wp2
    go_loop [4, 12] (fun v i => ∃ k s : Nat, k ≤ l.length ∧ i = .int .i64 (k : Int) ∧ v = .int .i64 (s : Int) ∧ s ≤ 1000000 * k ∧ Hid (s = Mo.sum k (Mo.pn l)) ∧ Hid (Mo.PreR l k)) (fun _ i => l.length - (intOf i).toNat)
    case atStart => exact ⟨0, 0, Nat.zero_le _, rfl, rfl, Nat.le_refl _, Lib.hid rfl, Lib.hid (fun i h => absurd h (by omega))⟩
    case round =>
      obtain ⟨k, s, hk, rfl, rfl, hs, HSU, HP⟩ := hrel
      by_cases hlt : k < l.length
      · have hlti : (k : Int) < (l.length : Int) := by omega
        obtain ⟨ad, rfl, _, hc⟩ := HZ.out k hlt
        have HBK : Hid (Mo.inR (l.getD k 0) = false → Mo.okP l = false) := Lib.hid (Mo.inR_at hlt)
        have HPN : Hid (Mo.inR (l.getD k 0) = true → l.getD k 0 = (Mo.pn l k : Int) ∧ Mo.pn l k ≤ 1000000) := Lib.hid Mo.pn_of
        have HST : Hid (Mo.inR (l.getD k 0) = true → Mo.PreR l (k + 1)) := Lib.hid (fun h i hi => by
          by_cases e : i = k
          · subst e; exact h
          · exact HP.out i (by omega))
        obtain ⟨x, hx⟩ : ∃ x, x = l.getD k 0 := ⟨_, rfl⟩
        have HX := Lib.hid hx
        rw [← hx] at hc HBK HPN HST
        clear hx HP
        by_cases h0 : x < 0
        · have HR : Hid (r = (0, 1)) := Lib.hid (HBD.out (HBK.out (by simp [Mo.inR]; omega)))
          clear HST HPN HBK HBD HOK
          go_wp2
          go_ret2
          exact ⟨by rw [HR.out]; rfl, rfl⟩
        · by_cases h1 : 1000000 < x
          · have HR : Hid (r = (0, 1)) := Lib.hid (HBD.out (HBK.out (by simp [Mo.inR]; omega)))
            clear HST HPN HBK HBD HOK
            go_wp2
            go_ret2
            exact ⟨by rw [HR.out]; rfl, rfl⟩
          · have hin : Mo.inR x = true := by simp [Mo.inR]; omega
            have HIN := Lib.hid hin
            obtain ⟨q, hq⟩ : ∃ q, q = Mo.pn l k := ⟨_, rfl⟩
            obtain ⟨e1, e2⟩ := HPN.out hin
            rw [← hq] at e1 e2
            have HQ := Lib.hid hq
            clear hq hin HPN HBK
            subst e1
            have HS2 : Hid (s + q = Mo.sum (k + 1) (Mo.pn l)) := Lib.hid (by rw [Mo.sum_succ, HSU.out, HQ.out])
            clear HSU
            go_wp2
            go_round
            case rel => exact ⟨k + 1, s + q, by omega, by go_num, by go_num, by omega, HS2, Lib.hid (HST.out HIN.out)⟩
            case measure => simp [intOf]; omega
      · have hlti : ¬ (k : Int) < (l.length : Int) := by omega
        have hkl : k = l.length := by omega
        by_cases h0 : s = 0
        · have HR : Hid (r = (0, 1)) := Lib.hid (HBD.out (by
            have : Mo.sum l.length (Mo.pn l) = 0 := by rw [← hkl, ← HSU.out, h0]
            simp [Mo.okP, this]))
          have h0i : ((s : Int) == 0) = true := by simp [h0]
          clear HBD HOK hkl h0
          go_wp2
          go_ret2
          exact ⟨by rw [HR.out]; rfl, rfl⟩
        · have HR : Hid (r = ((s : Int), 0)) := Lib.hid (by
            have e : s = Mo.sum l.length (Mo.pn l) := by rw [← hkl]; exact HSU.out
            rw [HOK.out ?_, e]
            have h1 : l.all Mo.inR = true := Mo.all_inR fun i hi => HP.out i (by omega)
            have h2 : Mo.sum l.length (Mo.pn l) ≠ 0 := by rw [← e]; exact h0
            simp [Mo.okP, h1, h2]
            omega)
          have h0i : ((s : Int) == 0) = false := by simp; omega
          clear HBD HOK hkl h0
          go_wp2
          go_ret2
          exact ⟨by rw [HR.out]; rfl, rfl⟩

/-- Where the captured variables of the remainder lie: the units, the parts, and the sum. -/
structure Mo.Cap (w : World) (a b c : Nat) (u s : Nat) (A : Option Addr) (cp : Nat) (l : List Int) : Prop where
  u : w.cell? ⟨a, 0, none⟩ = some (.int .i64 (u : Int))
  l : w.cell? ⟨b, 0, none⟩ = some (.slice A l.length cp)
  s : w.cell? ⟨c, 0, none⟩ = some (.int .i64 (s : Int))
theorem Mo.tmod_cast (x s : Nat) : Int.tmod (x : Int) (s : Int) = ((x % s : Nat) : Int) := by
  rw [Int.tmod_eq_emod_of_nonneg (by omega)]
  rfl
set_option maxHeartbeats 1000000 in
theorem Mo.rem_any (a b c : Nat) (u s p : Nat) (A : Option Addr) (cp : Nat) (l : List Int) (i : Nat) (w : World) (hc : Mo.Cap w a b c u s A cp l) (hz : Mo.Zs w w.heap.size A l) (hi : i < l.length) (hl : l.length ≤ 400) (hp : l.getD i 0 = (p : Int)) (hu : u ≤ 1000000000000) (hp2 : p ≤ 1000000) (hs : 0 < s) (hs2 : s ≤ 400000000) :
    Calls Tryz.prog 54 #[.int .i64 (i : Int), .pointer (some ⟨a, 0, none⟩), .pointer (some ⟨b, 0, none⟩), .pointer (some ⟨c, 0, none⟩)] w fun e w' => e = .returned (.int .i64 ((u * p % s : Nat) : Int)) ∧ ∃ n, w' = w.drewN n := by
  obtain ⟨c0, c1, c2⟩ := hc
  obtain ⟨ad, rfl, _, hc3⟩ := hz i hi
  rw [hp] at hc3
  have hm : u * p ≤ 1000000000000 * 1000000 := Nat.mul_le_mul hu hp2
  obtain ⟨m, hm'⟩ : ∃ m, m = u * p := ⟨_, rfl⟩
  rw [← hm'] at hm ⊢
  have e1 : IntKind.i64.wrap ((u : Int) * (p : Int)) = (m : Int) := by rw [hm', IntKind.wrap_i64, ← Int.natCast_mul, ← hm']; omega
  have HT := Lib.hid (Mo.tmod_cast m s)
  have hs0 : ((s : Int) == 0) = false := by simp; omega
  have hs0' : ¬ (s : Int) = 0 := by omega
  clear hm' hz hp
  go_enter Tryz.func54, Tryz.ntmps54
  go_wp2
  go_quiet (fail)
  go_wp2
  go_ret
  exact ⟨by first | rfl | (rw [← HT.out]; rfl), nq, rfl⟩

theorem Mo.Cap.drewN {w : World} {a b c : Nat} {u s : Nat} {A : Option Addr} {cp : Nat} {l : List Int} (h : Mo.Cap w a b c u s A cp l) (n : Nat) : Mo.Cap (w.drewN n) a b c u s A cp l := ⟨h.u, h.l, h.s⟩
set_option maxHeartbeats 1000000 in
theorem Mo.cmp_any (B a b c : Nat) (u s : Nat) (A : Option Addr) (cp : Nat) (l : List Int) (i j : Nat) (w : World) (hB : w.cell? ⟨B, 0, none⟩ = some (.func (.func 54) #[] #[.pointer (some ⟨a, 0, none⟩), .pointer (some ⟨b, 0, none⟩), .pointer (some ⟨c, 0, none⟩)])) (hc : Mo.Cap w a b c u s A cp l) (hz : Mo.Zs w w.heap.size A l)
    (hi : i < l.length) (hj : j < l.length) (hl : l.length ≤ 400) (hp : Mo.PreR l l.length) (hu : u ≤ 1000000000000) (hs : 0 < s) (hs2 : s ≤ 400000000) :
    Calls Tryz.prog 56 #[.int .i64 (i : Int), .int .i64 (j : Int), .pointer (some ⟨B, 0, none⟩)] w fun e w' => e = .returned (.int .i64 (Lib.compareInt ((Mo.rm u s (Mo.pn l) j : Nat) : Int) ((Mo.rm u s (Mo.pn l) i : Nat) : Int))) ∧ ∃ n, w' = w.drewN n := by
  have C1 : Hid (∀ n, Calls Tryz.prog 54 #[.int .i64 (j : Int), .pointer (some ⟨a, 0, none⟩), .pointer (some ⟨b, 0, none⟩), .pointer (some ⟨c, 0, none⟩)] (w.drewN n) fun e w' => e = .returned (.int .i64 ((Mo.rm u s (Mo.pn l) j : Nat) : Int)) ∧ ∃ q, w' = (w.drewN n).drewN q) :=
    Lib.hid (fun n => Mo.rem_any a b c u s (Mo.pn l j) A cp l j (w.drewN n) (hc.drewN n) hz hj hl (Mo.pn_of (hp j hj)).1 hu (Mo.pn_of (hp j hj)).2 hs hs2)
  have C2 : Hid (∀ n, Calls Tryz.prog 54 #[.int .i64 (i : Int), .pointer (some ⟨a, 0, none⟩), .pointer (some ⟨b, 0, none⟩), .pointer (some ⟨c, 0, none⟩)] (w.drewN n) fun e w' => e = .returned (.int .i64 ((Mo.rm u s (Mo.pn l) i : Nat) : Int)) ∧ ∃ q, w' = (w.drewN n).drewN q) :=
    Lib.hid (fun n => Mo.rem_any a b c u s (Mo.pn l i) A cp l i (w.drewN n) (hc.drewN n) hz hi hl (Mo.pn_of (hp i hi)).1 hu (Mo.pn_of (hp i hi)).2 hs hs2)
  have C3 := Lib.hid (fun (x y : Int) v => Tryz.cmp_Compare_int x y v)
  generalize Mo.rm u s (Mo.pn l) j = rj at *
  generalize Mo.rm u s (Mo.pn l) i = ri at *
  clear hc hz hp
  go_enter Tryz.func56, Tryz.ntmps56
  go_wp2
  go_quiet ((first | (go_at_call 54; first | with_reducible exact Calls.quiet_of (C1.out _) | with_reducible exact Calls.quiet_of (C2.out _)) | (go_at_call 57; exact Calls.quiet_of_same (C3.out _ _ _))))
  go_wp2
  go_ret
  exact ⟨rfl, nq, rfl⟩
end Go.Proofs.YtkbncdcphohmiaaGreatDoor
