/- Numbers in limbs as values of the program: trimmed, isZero, above, compare. -/
import Derived.Test.YtmnnaaifebajnaaGreatDoorNaMath
import Derived.Test.YtmnnaaifebajnaaGreatDoorProg
import Derived.WalkKit
import Derived.Below
import Derived.LoopTactic
import Derived.OwnWalk
import Derived.Outline
import Derived.Lib.Hide
import Derived.BigQuiet
set_option linter.unusedSimpArgs false
set_option linter.unusedVariables false
namespace Go.Proofs.YtmnnaaifebajnaaGreatDoor
open Go.RowKit
set_option maxRecDepth 100000

/-- The slice of numbers: its cells. -/
def Ints (w : World) (B : Nat) (A : Option Addr) (l : List Nat) : Prop :=
  ∀ k, k < l.length → ∃ ad, A = some ad ∧ ad.block < B ∧ w.cell? (ad.add k) = some (.int .i64 ((l.getD k 0 : Nat) : Int))

def lenOf : Value → Nat
  | .slice _ n _ => n
  | _ => 0

theorem ret_int {a b : Int} (h : a = b) : Ending.returned (.int .i64 a) = Ending.returned (.int .i64 b) := by rw [h]

theorem trimmed_any (A : Option Addr) (l : List Nat) (c : Nat) (w : World) (hs : Ints w w.heap.size A l) (hl : l.length ≤ 1000000) (hc : l.length ≤ c) (hm : c ≤ maxLen) (hd : ∀ d ∈ l, d < 1000000) :
    Calls Tryz.prog 103 #[.slice A l.length c] w fun e w' => e = .returned (.slice A (Na.lim (Na.lv l)).length c) ∧ w = w' := by
  go_enter Tryz.func103, Tryz.ntmps103
  go_wp2
  go_loop [0] (fun a => ∃ k, a = .slice A k c ∧ k ≤ l.length ∧ Hid (l.drop k = List.replicate (l.length - k) 0)) (fun a => lenOf a)
  case atStart => exact ⟨l.length, rfl, Nat.le_refl _, Lib.hid (by simp)⟩
  case round =>
    obtain ⟨k, rfl, hk, HZ⟩ := hrel
    by_cases h0 : k = 0
    · subst h0
      go_wp2
      go_ret
      refine ⟨?_, rfl⟩
      have := Na.lim_trim l 0 hk hd HZ.out (.inl rfl)
      rw [this]
      simp
    · obtain ⟨j, rfl⟩ : ∃ j, k = j + 1 := ⟨k - 1, by omega⟩
      obtain ⟨ad, rfl, hlt, hcell⟩ := hs j (by omega)
      have hmc : j + 1 ≤ c := by omega
      have HX := Lib.hid (Na.drop_zero_step l j (by omega))
      have HT := Lib.hid (Na.lim_trim l (j + 1) hk hd HZ.out)
      simp only [Nat.add_sub_cancel] at HT
      have HZ' := HZ
      clear hd HZ
      generalize l.getD j 0 = x at *
      by_cases hz : x = 0
      · subst hz
        have hcell : w.cell? (ad.add j) = some (.int .i64 0) := hcell
        go_wp2
        exact ⟨⟨j, rfl, by omega, Lib.hid (HX.out HZ'.out rfl)⟩, by simp [lenOf]⟩
      · have hne : ((x : Int) == 0) = false := by simp; omega
        go_wp2
        go_ret
        refine ⟨?_, rfl⟩
        rw [HT.out (.inr hz), List.length_take, Nat.min_eq_left hk]
        rfl

theorem isZero_any (A : Option Addr) (n c : Nat) (w : World) :
    Calls Tryz.prog 80 #[.slice A n c] w fun e w' => e = .returned (.bool (decide (n = 0))) ∧ w = w' := by
  by_cases h : n = 0
  · subst h
    go_enter Tryz.func80, Tryz.ntmps80
    go_wp2
    go_ret
    exact ⟨rfl, rfl⟩
  · have h2 : ((n : Int) == 0) = false := by simp; omega
    go_enter Tryz.func80, Tryz.ntmps80
    go_wp2
    go_ret
    refine ⟨?_, rfl⟩
    simp [h]

/-- The value of the limbs from a place on, if it fits. -/
theorem above_any (A : Option Addr) (l : List Nat) (c k : Nat) (w : World) (hs : Ints w w.heap.size A l) (hl : l.length ≤ 1000000) (hk : k ≤ l.length) (hd : ∀ d ∈ l, d < 1000000) (hv : Na.lv (l.drop k) < 1000000000000000000) :
    Calls Tryz.prog 120 #[.slice A l.length c, .int .i64 (k : Int)] w fun e w' => e = .returned (.int .i64 ((Na.lv (l.drop k) : Nat) : Int)) ∧ w = w' := by
  go_enter Tryz.func120, Tryz.ntmps120
  go_wp2
  go_loop [5, 6] (fun v i => ∃ j q : Nat, k ≤ j ∧ j ≤ l.length ∧ i = .int .i64 ((j : Int) - 1) ∧ v = .int .i64 (q : Int) ∧ Hid (q = Na.lv (l.drop j))) (fun _ i => (intOf i + 1).toNat)
  case atStart => exact ⟨l.length, 0, hk, Nat.le_refl _, by simp, rfl, Lib.hid (by simp [Na.lv_nil])⟩
  case round =>
    obtain ⟨j, q, hkj, hj, rfl, rfl, HQ⟩ := hrel
    by_cases h0 : j = k
    · subst h0
      have HQ' := Lib.hid HQ.out
      go_wp2
      go_ret
      exact ⟨ret_int (by rw [HQ.out]), rfl⟩
    · obtain ⟨i, rfl⟩ : ∃ i, j = i + 1 := ⟨j - 1, by omega⟩
      obtain ⟨ad, rfl, hlt, hcell⟩ := hs i (by omega)
      have e := Na.lv_drop l i (by omega)
      have hx := Na.getD_lt hd i (by omega)
      have hle : Na.lv (l.drop i) ≤ Na.lv (l.drop k) := by
        have := Na.lv_append ((l.drop k).take (i - k)) ((l.drop k).drop (i - k))
        rw [List.take_append_drop, List.drop_drop, show k + (i - k) = i by omega] at this
        have h1 : 1 * Na.lv (l.drop i) ≤ 1000000 ^ ((l.drop k).take (i - k)).length * Na.lv (l.drop i) := Nat.mul_le_mul_right _ (Nat.pos_of_ne_zero (by simp))
        omega
      rw [← HQ.out] at e
      have hq : q * 1000000 + l.getD i 0 < 1000000000000000000 := by omega
      have HE := Lib.hid e
      clear e hle hd HQ
      generalize l.getD i 0 = x at *
      go_wp2
      exact ⟨⟨i, q * 1000000 + x, by omega, by omega, by go_num, by go_num, Lib.hid (by rw [HE.out]; omega)⟩, by simp [intOf]⟩

theorem above_out (A : Option Addr) (l : List Nat) (c k : Nat) (w : World) (hl : l.length ≤ 1000000) (hk : l.length < k) :
    Calls Tryz.prog 120 #[.slice A l.length c, .int .i64 (k : Int)] w fun e w' => e = .returned (.int .i64 ((Na.lv (l.drop k) : Nat) : Int)) ∧ w = w' := by
  rw [List.drop_eq_nil_of_le (by omega), Na.lv_nil]
  have h1 : ¬ ((k : Int) ≤ (l.length : Int) - 1) := by omega
  go_enter Tryz.func120, Tryz.ntmps120
  go_wp2
  go_loop [5, 6] (fun v i => i = .int .i64 ((l.length : Int) - 1) ∧ v = .int .i64 0) (fun _ _ => 0)
  case atStart => exact ⟨rfl, rfl⟩
  case round =>
    obtain ⟨rfl, rfl⟩ := hrel
    go_wp2
    go_ret
    exact ⟨rfl, rfl⟩

theorem above_all (A : Option Addr) (l : List Nat) (c k : Nat) (w : World) (hs : Ints w w.heap.size A l) (hl : l.length ≤ 1000000) (hd : ∀ d ∈ l, d < 1000000) (hv : Na.lv (l.drop k) < 1000000000000000000) :
    Calls Tryz.prog 120 #[.slice A l.length c, .int .i64 (k : Int)] w fun e w' => e = .returned (.int .i64 ((Na.lv (l.drop k) : Nat) : Int)) ∧ w = w' := by
  rcases Nat.lt_or_ge l.length k with h | h
  · exact above_out A l c k w hl h
  · exact above_any A l c k w hs hl h hd hv

theorem cmpInt_any (a b : Int) (w : World) :
    Calls Tryz.prog 118 #[.int .i64 a, .int .i64 b] w fun e w' => e = .returned (.int .i64 (if a < b then -1 else if b < a then 1 else 0)) ∧ w = w' := by
  rcases Int.lt_trichotomy a b with h | h | h
  · go_enter Tryz.func118, Tryz.ntmps118
    go_wp2
    go_ret
    exact ⟨ret_int (by simp [h]), rfl⟩
  · subst h
    go_enter Tryz.func118, Tryz.ntmps118
    go_wp2
    go_ret
    exact ⟨ret_int (by simp), rfl⟩
  · have h2 : ¬ a < b := by omega
    go_enter Tryz.func118, Tryz.ntmps118
    go_wp2
    go_ret
    exact ⟨ret_int (by simp [h, h2]), rfl⟩

theorem drew_ex2 {w v : World} {q : Nat} (h : ∃ j k, v = ((w.drewN q).drewN j).drewN k) : ∃ k, v = w.drewN k := by
  obtain ⟨j, k, rfl⟩ := h
  exact ⟨q + j + k, by rw [World.drewN_drewN, World.drewN_drewN, Nat.add_assoc]⟩

/-- The order of two numbers. -/
def cmpN (m n : Nat) : Int := if m < n then -1 else if n < m then 1 else 0

theorem compare_any (A A' : Option Addr) (m n c c' : Nat) (w : World) (hs : Ints w w.heap.size A (Na.lim m)) (hs' : Ints w w.heap.size A' (Na.lim n)) (hl : (Na.lim m).length ≤ 1000000) (hl' : (Na.lim n).length ≤ 1000000) :
    Calls Tryz.prog 94 #[.slice A (Na.lim m).length c, .slice A' (Na.lim n).length c'] w fun e w' => e = .returned (.int .i64 (cmpN m n)) ∧ ∃ q, w' = w.drewN q := by
  have HC := Lib.hid (fun a b w => cmpInt_any a b w)
  by_cases hne : (Na.lim m).length = (Na.lim n).length
  · have h2 : (((Na.lim m).length : Int) == ((Na.lim n).length : Int)) = true := by simp [hne]
    have CM := Lib.hid (fun k (hk : k < (Na.lim m).length) he hlt => Na.lv_cmp (Na.lim m) (Na.lim n) (Na.lim_lt m) (Na.lim_lt n) hne k hk he hlt)
    have CN := Lib.hid (fun k (hk : k < (Na.lim n).length) he hlt => Na.lv_cmp (Na.lim n) (Na.lim m) (Na.lim_lt n) (Na.lim_lt m) hne.symm k hk he hlt)
    have hdm := Lib.hid (Na.lv_lim m)
    have hdn := Lib.hid (Na.lv_lim n)
    have DM := Lib.hid (fun k (hk : k < (Na.lim m).length) => Na.drop_cons' (Na.lim m) k hk)
    have DN := Lib.hid (fun k (hk : k < (Na.lim n).length) => Na.drop_cons' (Na.lim n) k hk)
    generalize Na.lim m = a at *
    generalize Na.lim n = b at *
    go_enter Tryz.func94, Tryz.ntmps94
    go_wp2
    go_loopw [5] (fun i wr => ∃ j q : Nat, j ≤ a.length ∧ i = .int .i64 ((j : Int) - 1) ∧ Hid (a.drop j = b.drop j) ∧ wr = w.drewN q) (fun i _ => (intOf i + 1).toNat)
    case atStart => exact ⟨a.length, 0, Nat.le_refl _, by simp [hne], Lib.hid (by rw [List.drop_length, hne, List.drop_length]), rfl⟩
    case round =>
      obtain ⟨j, q, hj, eij, HD, rfl⟩ := hrel
      by_cases h0 : j = 0
      · subst h0
        subst eij
        go_wp2
        go_ret
        refine ⟨?_, q, rfl⟩
        have : m = n := by
          rw [← hdm.out, ← hdn.out]
          have := HD.out
          simpa using congrArg Na.lv this
        exact ret_int (by simp [cmpN, this])
      · obtain ⟨i, rfl⟩ : ∃ i, j = i + 1 := ⟨j - 1, by omega⟩
        obtain rfl := eij.trans (show Value.int .i64 (((i + 1 : Nat) : Int) - 1) = .int .i64 (i : Int) by congr 1; omega)
        clear eij
        obtain ⟨ad, rfl, hlt, hcell⟩ := hs i (by omega)
        obtain ⟨ad', rfl, hlt', hcell'⟩ := hs' i (by omega)
        have CM' := Lib.hid (CM.out i (by omega) HD.out)
        have CN' := Lib.hid (CN.out i (by omega) HD.out.symm)
        rw [hdm.out, hdn.out] at CM' CN'
        have DD := Lib.hid (fun (e : a.getD i 0 = b.getD i 0) => show a.drop i = b.drop i by rw [DM.out i (by omega), DN.out i (by omega), HD.out, e])
        have bl : (i : Int) < (b.length : Int) := by omega
        have bl2 : (i : Int) < (a.length : Int) := by omega
        clear CM CN DM DN hs hs'
        generalize a.getD i 0 = x at *
        generalize b.getD i 0 = y at *
        rcases Nat.lt_trichotomy x y with h | h | h
        · have h1 : ((x : Int) == (y : Int)) = false := by simp; omega
          have hr : (if (x : Int) < (y : Int) then (-1 : Int) else if (y : Int) < (x : Int) then 1 else 0) = cmpN m n := by
            unfold cmpN
            rw [if_pos (by omega), if_pos (CM'.out h)]
          have HC2 := Lib.hid (fun w => HC.out (x : Int) (y : Int) w)
          rw [hr] at HC2
          clear hr HC
          go_wp2_with fail
          go_quiet (fail)
          go_wp2_with fail

          go_quiet ((go_at_call 118; exact (HC2.out _).mono fun _ _ h => ⟨h.1, _, h.2.symm⟩))
          go_wp2_with fail
          go_ret
          exact ⟨rfl, drew_ex2 ⟨_, _, rfl⟩⟩
        · subst h
          have DD' := Lib.hid (DD.out rfl)
          have h1 : ((x : Int) == (x : Int)) = true := by simp
          clear DD
          go_wp2_with fail
          go_quiet (fail)
          go_wp2_with fail
          exact ⟨⟨i, q + nq, by omega, by go_num, DD', rfl⟩, by simp [intOf]⟩
        · have h1 : ((x : Int) == (y : Int)) = false := by simp; omega
          have hr : (if (x : Int) < (y : Int) then (-1 : Int) else if (y : Int) < (x : Int) then 1 else 0) = cmpN m n := by
            unfold cmpN
            rw [if_neg (by omega), if_pos (by omega), if_neg (by have := CN'.out h; omega), if_pos (CN'.out h)]
          have HC2 := Lib.hid (fun w => HC.out (x : Int) (y : Int) w)
          rw [hr] at HC2
          clear hr HC
          go_wp2_with fail
          go_quiet (fail)
          go_wp2_with fail

          go_quiet ((go_at_call 118; exact (HC2.out _).mono fun _ _ h => ⟨h.1, _, h.2.symm⟩))
          go_wp2_with fail
          go_ret
          exact ⟨rfl, drew_ex2 ⟨_, _, rfl⟩⟩
  · have h2 : (((Na.lim m).length : Int) == ((Na.lim n).length : Int)) = false := by simp; omega
    have hgt := Lib.hid (fun h => Na.lim_longer (m := m) (n := n) h)
    have hgt' := Lib.hid (fun h => Na.lim_longer (m := n) (n := m) h)
    generalize (Na.lim m).length = a at *
    generalize (Na.lim n).length = b at *
    go_enter Tryz.func94, Tryz.ntmps94
    have hr : (if (a : Int) < (b : Int) then (-1 : Int) else if (b : Int) < (a : Int) then 1 else 0) = cmpN m n := by
      unfold cmpN
      rcases Nat.lt_or_gt_of_ne hne with h | h
      · have := hgt.out h
        simp [h, this]
      · have := hgt'.out h
        rw [if_neg (by omega), if_pos (by omega), if_neg (by omega), if_pos this]
    have HC2 := Lib.hid (HC.out (a : Int) (b : Int) w)
    rw [hr] at HC2
    clear hr
    go_wp2_with (go_at_call 118; refine HC2.out.mono ?_; rintro e w1 ⟨rfl, rfl⟩)
    go_ret
    exact ⟨rfl, 0, rfl⟩
end Go.Proofs.YtmnnaaifebajnaaGreatDoor
