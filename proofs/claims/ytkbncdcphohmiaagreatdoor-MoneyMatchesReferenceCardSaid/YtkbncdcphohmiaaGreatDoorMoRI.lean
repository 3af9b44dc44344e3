import Derived.Test.YtkbncdcphohmiaaGreatDoorMoV
import Derived.Test.YtkbncdcphohmiaaGreatDoorMoText
/- Layer 8: the reference's Ident, Day, Proper. -/
set_option linter.unusedSimpArgs false
set_option linter.unusedVariables false
namespace Go.Proofs.YtkbncdcphohmiaaGreatDoor
open Go.RowKit
set_option maxRecDepth 100000

def Mo.isL (a : Nat) : Bool := (decide (97 ≤ a) && decide (a ≤ 122)) || (decide (65 ≤ a) && decide (a ≤ 90))
def Mo.isW (a : Nat) : Bool := Mo.isL a || (decide (a = 95) || (decide (48 ≤ a) && decide (a ≤ 57)))
/-- The first k bytes are right. -/
def Mo.idk (s : ByteArray) (k : Nat) : Prop := ∀ i (h : i < s.size), i < k → (if i = 0 then Mo.isL s[i].toNat else Mo.isW s[i].toNat) = true
theorem Mo.isL_eq (c : UInt8) : Mo.isLet c = Mo.isL c.toNat := rfl
theorem Mo.isW_eq (c : UInt8) : Mo.isWd c = Mo.isW c.toNat := by
  unfold Mo.isWd Mo.isW Mo.isL Mo.isLet
  generalize c.toNat = a
  rw [Bool.eq_iff_iff]
  simp only [Bool.or_eq_true, Bool.and_eq_true, decide_eq_true_eq, beq_iff_eq]
  omega
theorem Mo.ident_iff (s : ByteArray) : Mo.ident s.data.toList = true ↔ (0 < s.size ∧ s.size ≤ 24 ∧ Mo.idk s s.size) := by
  obtain ⟨⟨l⟩⟩ := s
  show Mo.ident l = true ↔ (0 < l.length ∧ l.length ≤ 24 ∧ Mo.idk ⟨⟨l⟩⟩ l.length)
  cases l with
  | nil => simp [Mo.ident]
  | cons c r =>
    have hget : ∀ i (h : i < (⟨⟨c :: r⟩⟩ : ByteArray).size), (⟨⟨c :: r⟩⟩ : ByteArray)[i] = (c :: r)[i]'h := fun _ _ => rfl
    simp only [Mo.ident, Bool.and_eq_true, decide_eq_true_eq, List.all_eq_true, List.length_cons]
    constructor
    · rintro ⟨h1, h2, h3⟩
      refine ⟨by omega, by omega, fun i h _ => ?_⟩
      rw [hget]
      cases i with
      | zero => rw [if_pos rfl]; exact h1
      | succ j =>
        rw [if_neg (by omega), ← Mo.isW_eq]
        exact h2 _ (by simp)
    · rintro ⟨_, h2, h3⟩
      refine ⟨?_, fun x hx => ?_, by omega⟩
      · have := h3 0 (by show 0 < (c :: r).length; simp) (by omega)
        rw [hget, if_pos rfl] at this
        exact this
      · obtain ⟨j, hj, rfl⟩ := List.getElem_of_mem hx
        have := h3 (j + 1) (by show j + 1 < (c :: r).length; simpa using hj) (by omega)
        rw [hget, if_neg (by omega), ← Mo.isW_eq] at this
        exact this
theorem Mo.idk_step {s : ByteArray} {k : Nat} (hk : k < s.size) (h : Mo.idk s k) (h1 : (if k = 0 then Mo.isL s[k].toNat else Mo.isW s[k].toNat) = true) : Mo.idk s (k + 1) := fun i hi hik => by
  by_cases e : i = k
  · subst e; exact h1
  · exact h i hi (by omega)

set_option maxHeartbeats 4000000 in
theorem Mo.rid_any (s : ByteArray) (hs : s.size ≤ maxLen) (w : World) : Calls Tryz.prog 36 #[.string s] w fun e w' => e = .returned (.bool (Mo.ident s.data.toList)) ∧ w = w' := by
  unfold maxLen at hs
  have HI := Lib.hid (Mo.ident_iff s)
  obtain ⟨r, hr⟩ : ∃ r, r = Mo.ident s.data.toList := ⟨_, rfl⟩
  rw [← hr] at HI ⊢
  clear hr
  by_cases h0 : s.size < 1
  · have HR : Hid (r = false) := Lib.hid (by
      cases hr : r with
      | false => rfl
      | true => have := HI.out.1 hr; omega)
    have h0i : (s.size : Int) < 1 := by omega
    clear HI h0
    go_enter Tryz.func36, Tryz.ntmps36
    go_wp2
    go_ret
    exact ⟨by rw [HR.out]; rfl, rfl⟩
  by_cases h1 : 24 < s.size
  · have HR : Hid (r = false) := Lib.hid (by
      cases hr : r with
      | false => rfl
      | true => have := HI.out.1 hr; omega)
    have h1i : (24 : Int) < (s.size : Int) := by omega
    have h0i : ¬ (s.size : Int) < 1 := by omega
    clear HI h0 h1
    go_enter Tryz.func36, Tryz.ntmps36
    go_wp2
    go_ret
    exact ⟨by rw [HR.out]; rfl, rfl⟩
  have h1i : ¬ (24 : Int) < (s.size : Int) := by omega
  have h0i : ¬ (s.size : Int) < 1 := by omega
  go_enter Tryz.func36, Tryz.ntmps36
  go_wp2
  go_loop [3] (fun i => ∃ k : Nat, k ≤ s.size ∧ i = .int .i64 (k : Int) ∧ Hid (Mo.idk s k)) (fun i => s.size - (intOf i).toNat)
  case atStart => exact ⟨0, Nat.zero_le _, rfl, Lib.hid (fun i _ h => absurd h (by omega))⟩
  case round =>
    obtain ⟨k, hk, rfl, HK⟩ := hrel
    by_cases hlt : k < s.size
    · have hlti : (k : Int) < (s.size : Int) := by omega
      have HST : Hid ((if k = 0 then Mo.isL s[k].toNat else Mo.isW s[k].toNat) = true → Mo.idk s (k + 1)) := Lib.hid (fun h => Mo.idk_step hlt HK.out h)
      have HBD : Hid ((if k = 0 then Mo.isL s[k].toNat else Mo.isW s[k].toNat) = false → r = false) := Lib.hid (fun h => by
        cases hr : r with
        | false => rfl
        | true =>
          have := (HI.out.1 hr).2.2 k hlt hlt
          rw [h] at this
          cases this)
      have ha := UInt8.toNat_lt s[k]
      obtain ⟨a, haa⟩ : ∃ a, a = s[k].toNat := ⟨_, rfl⟩
      have HA := Lib.hid haa
      rw [← haa] at HST HBD ha
      have hc : (a < 48) ∨ (48 ≤ a ∧ a ≤ 57) ∨ (58 ≤ a ∧ a < 65) ∨ (65 ≤ a ∧ a ≤ 90) ∨ (91 ≤ a ∧ a < 95) ∨ (a = 95) ∨ (a = 96) ∨ (97 ≤ a ∧ a ≤ 122) ∨ (122 < a) := by omega
      have hsa : s[k].toNat = a := haa.symm
      clear haa HK HI HA
      rcases hc with hc | hc | hc | hc | hc | hc | hc | hc | hc
      · -- o1
        have f0 : decide ((97 : Int) ≤ (a : Int)) = false := decide_eq_false (by omega)
        have f1 : decide ((a : Int) ≤ 122) = true := decide_eq_true (by omega)
        have f2 : decide ((65 : Int) ≤ (a : Int)) = false := decide_eq_false (by omega)
        have f3 : decide ((a : Int) ≤ 90) = true := decide_eq_true (by omega)
        have f4 : ((a : Int) != 95) = true := by simp; omega
        have f5 : decide ((a : Int) < 48) = true := decide_eq_true (by omega)
        have f6 : decide ((57 : Int) < (a : Int)) = false := decide_eq_false (by omega)
        by_cases hk0 : k = 0
        · have e0 : ((k : Int) == 0) = true := by simp [hk0]
          have HR : Hid (r = false) := Lib.hid (HBD.out (by rw [if_pos hk0]; (cases hq : Mo.isL a with | false => rfl | true => (simp only [Mo.isL, Bool.or_eq_true, Bool.and_eq_true, decide_eq_true_eq] at hq; omega))))
          clear hc HST HBD hk0
          go_wp2
          go_ret
          exact ⟨by rw [HR.out]; rfl, rfl⟩
        · have e0 : ((k : Int) == 0) = false := by simp [hk0]
          have HR : Hid (r = false) := Lib.hid (HBD.out (by rw [if_neg hk0]; (cases hq : Mo.isW a with | false => rfl | true => (simp only [Mo.isW, Mo.isL, Bool.or_eq_true, Bool.and_eq_true, decide_eq_true_eq] at hq; omega))))
          clear hc HST HBD hk0
          go_wp2
          go_ret
          exact ⟨by rw [HR.out]; rfl, rfl⟩
      · -- dg
        have f0 : decide ((97 : Int) ≤ (a : Int)) = false := decide_eq_false (by omega)
        have f1 : decide ((a : Int) ≤ 122) = true := decide_eq_true (by omega)
        have f2 : decide ((65 : Int) ≤ (a : Int)) = false := decide_eq_false (by omega)
        have f3 : decide ((a : Int) ≤ 90) = true := decide_eq_true (by omega)
        have f4 : ((a : Int) != 95) = true := by simp; omega
        have f5 : decide ((a : Int) < 48) = false := decide_eq_false (by omega)
        have f6 : decide ((57 : Int) < (a : Int)) = false := decide_eq_false (by omega)
        by_cases hk0 : k = 0
        · have e0 : ((k : Int) == 0) = true := by simp [hk0]
          have HR : Hid (r = false) := Lib.hid (HBD.out (by rw [if_pos hk0]; (cases hq : Mo.isL a with | false => rfl | true => (simp only [Mo.isL, Bool.or_eq_true, Bool.and_eq_true, decide_eq_true_eq] at hq; omega))))
          clear hc HST HBD hk0
          go_wp2
          go_ret
          exact ⟨by rw [HR.out]; rfl, rfl⟩
        · have e0 : ((k : Int) == 0) = false := by simp [hk0]
          have HS : Hid (Mo.idk s (k + 1)) := Lib.hid (HST.out (by rw [if_neg hk0]; simp only [Mo.isW, Mo.isL, Bool.or_eq_true, Bool.and_eq_true, decide_eq_true_eq]; omega))
          clear hc HST HBD hk0
          go_wp2
          go_round
          case rel => exact ⟨k + 1, by omega, by go_num, HS⟩
          case measure => simp [intOf]; omega
      · -- o2
        have f0 : decide ((97 : Int) ≤ (a : Int)) = false := decide_eq_false (by omega)
        have f1 : decide ((a : Int) ≤ 122) = true := decide_eq_true (by omega)
        have f2 : decide ((65 : Int) ≤ (a : Int)) = false := decide_eq_false (by omega)
        have f3 : decide ((a : Int) ≤ 90) = true := decide_eq_true (by omega)
        have f4 : ((a : Int) != 95) = true := by simp; omega
        have f5 : decide ((a : Int) < 48) = false := decide_eq_false (by omega)
        have f6 : decide ((57 : Int) < (a : Int)) = true := decide_eq_true (by omega)
        by_cases hk0 : k = 0
        · have e0 : ((k : Int) == 0) = true := by simp [hk0]
          have HR : Hid (r = false) := Lib.hid (HBD.out (by rw [if_pos hk0]; (cases hq : Mo.isL a with | false => rfl | true => (simp only [Mo.isL, Bool.or_eq_true, Bool.and_eq_true, decide_eq_true_eq] at hq; omega))))
          clear hc HST HBD hk0
          go_wp2
          go_ret
          exact ⟨by rw [HR.out]; rfl, rfl⟩
        · have e0 : ((k : Int) == 0) = false := by simp [hk0]
          have HR : Hid (r = false) := Lib.hid (HBD.out (by rw [if_neg hk0]; (cases hq : Mo.isW a with | false => rfl | true => (simp only [Mo.isW, Mo.isL, Bool.or_eq_true, Bool.and_eq_true, decide_eq_true_eq] at hq; omega))))
          clear hc HST HBD hk0
          go_wp2
          go_ret
          exact ⟨by rw [HR.out]; rfl, rfl⟩
      · -- L1
        have f0 : decide ((97 : Int) ≤ (a : Int)) = false := decide_eq_false (by omega)
        have f1 : decide ((a : Int) ≤ 122) = true := decide_eq_true (by omega)
        have f2 : decide ((65 : Int) ≤ (a : Int)) = true := decide_eq_true (by omega)
        have f3 : decide ((a : Int) ≤ 90) = true := decide_eq_true (by omega)
        have f4 : ((a : Int) != 95) = true := by simp; omega
        have f5 : decide ((a : Int) < 48) = false := decide_eq_false (by omega)
        have f6 : decide ((57 : Int) < (a : Int)) = true := decide_eq_true (by omega)
        have HS : Hid (Mo.idk s (k + 1)) := Lib.hid (HST.out (by split <;> simp only [Mo.isL, Mo.isW, Bool.or_eq_true, Bool.and_eq_true, decide_eq_true_eq] <;> omega))
        clear hc HST HBD
        go_wp2
        go_round
        case rel => exact ⟨k + 1, by omega, by go_num, HS⟩
        case measure => simp [intOf]; omega
      · -- o3
        have f0 : decide ((97 : Int) ≤ (a : Int)) = false := decide_eq_false (by omega)
        have f1 : decide ((a : Int) ≤ 122) = true := decide_eq_true (by omega)
        have f2 : decide ((65 : Int) ≤ (a : Int)) = true := decide_eq_true (by omega)
        have f3 : decide ((a : Int) ≤ 90) = false := decide_eq_false (by omega)
        have f4 : ((a : Int) != 95) = true := by simp; omega
        have f5 : decide ((a : Int) < 48) = false := decide_eq_false (by omega)
        have f6 : decide ((57 : Int) < (a : Int)) = true := decide_eq_true (by omega)
        by_cases hk0 : k = 0
        · have e0 : ((k : Int) == 0) = true := by simp [hk0]
          have HR : Hid (r = false) := Lib.hid (HBD.out (by rw [if_pos hk0]; (cases hq : Mo.isL a with | false => rfl | true => (simp only [Mo.isL, Bool.or_eq_true, Bool.and_eq_true, decide_eq_true_eq] at hq; omega))))
          clear hc HST HBD hk0
          go_wp2
          go_ret
          exact ⟨by rw [HR.out]; rfl, rfl⟩
        · have e0 : ((k : Int) == 0) = false := by simp [hk0]
          have HR : Hid (r = false) := Lib.hid (HBD.out (by rw [if_neg hk0]; (cases hq : Mo.isW a with | false => rfl | true => (simp only [Mo.isW, Mo.isL, Bool.or_eq_true, Bool.and_eq_true, decide_eq_true_eq] at hq; omega))))
          clear hc HST HBD hk0
          go_wp2
          go_ret
          exact ⟨by rw [HR.out]; rfl, rfl⟩
      · -- us
        have f0 : decide ((97 : Int) ≤ (a : Int)) = false := decide_eq_false (by omega)
        have f1 : decide ((a : Int) ≤ 122) = true := decide_eq_true (by omega)
        have f2 : decide ((65 : Int) ≤ (a : Int)) = true := decide_eq_true (by omega)
        have f3 : decide ((a : Int) ≤ 90) = false := decide_eq_false (by omega)
        have f4 : ((a : Int) != 95) = false := by simp; omega
        have f5 : decide ((a : Int) < 48) = false := decide_eq_false (by omega)
        have f6 : decide ((57 : Int) < (a : Int)) = true := decide_eq_true (by omega)
        by_cases hk0 : k = 0
        · have e0 : ((k : Int) == 0) = true := by simp [hk0]
          have HR : Hid (r = false) := Lib.hid (HBD.out (by rw [if_pos hk0]; (cases hq : Mo.isL a with | false => rfl | true => (simp only [Mo.isL, Bool.or_eq_true, Bool.and_eq_true, decide_eq_true_eq] at hq; omega))))
          clear hc HST HBD hk0
          go_wp2
          go_ret
          exact ⟨by rw [HR.out]; rfl, rfl⟩
        · have e0 : ((k : Int) == 0) = false := by simp [hk0]
          have HS : Hid (Mo.idk s (k + 1)) := Lib.hid (HST.out (by rw [if_neg hk0]; simp only [Mo.isW, Mo.isL, Bool.or_eq_true, Bool.and_eq_true, decide_eq_true_eq]; omega))
          clear hc HST HBD hk0
          go_wp2
          go_round
          case rel => exact ⟨k + 1, by omega, by go_num, HS⟩
          case measure => simp [intOf]; omega
      · -- o4
        have f0 : decide ((97 : Int) ≤ (a : Int)) = false := decide_eq_false (by omega)
        have f1 : decide ((a : Int) ≤ 122) = true := decide_eq_true (by omega)
        have f2 : decide ((65 : Int) ≤ (a : Int)) = true := decide_eq_true (by omega)
        have f3 : decide ((a : Int) ≤ 90) = false := decide_eq_false (by omega)
        have f4 : ((a : Int) != 95) = true := by simp; omega
        have f5 : decide ((a : Int) < 48) = false := decide_eq_false (by omega)
        have f6 : decide ((57 : Int) < (a : Int)) = true := decide_eq_true (by omega)
        by_cases hk0 : k = 0
        · have e0 : ((k : Int) == 0) = true := by simp [hk0]
          have HR : Hid (r = false) := Lib.hid (HBD.out (by rw [if_pos hk0]; (cases hq : Mo.isL a with | false => rfl | true => (simp only [Mo.isL, Bool.or_eq_true, Bool.and_eq_true, decide_eq_true_eq] at hq; omega))))
          clear hc HST HBD hk0
          go_wp2
          go_ret
          exact ⟨by rw [HR.out]; rfl, rfl⟩
        · have e0 : ((k : Int) == 0) = false := by simp [hk0]
          have HR : Hid (r = false) := Lib.hid (HBD.out (by rw [if_neg hk0]; (cases hq : Mo.isW a with | false => rfl | true => (simp only [Mo.isW, Mo.isL, Bool.or_eq_true, Bool.and_eq_true, decide_eq_true_eq] at hq; omega))))
          clear hc HST HBD hk0
          go_wp2
          go_ret
          exact ⟨by rw [HR.out]; rfl, rfl⟩
      · -- L2
        have f0 : decide ((97 : Int) ≤ (a : Int)) = true := decide_eq_true (by omega)
        have f1 : decide ((a : Int) ≤ 122) = true := decide_eq_true (by omega)
        have f2 : decide ((65 : Int) ≤ (a : Int)) = true := decide_eq_true (by omega)
        have f3 : decide ((a : Int) ≤ 90) = false := decide_eq_false (by omega)
        have f4 : ((a : Int) != 95) = true := by simp; omega
        have f5 : decide ((a : Int) < 48) = false := decide_eq_false (by omega)
        have f6 : decide ((57 : Int) < (a : Int)) = true := decide_eq_true (by omega)
        have HS : Hid (Mo.idk s (k + 1)) := Lib.hid (HST.out (by split <;> simp only [Mo.isL, Mo.isW, Bool.or_eq_true, Bool.and_eq_true, decide_eq_true_eq] <;> omega))
        clear hc HST HBD
        go_wp2
        go_round
        case rel => exact ⟨k + 1, by omega, by go_num, HS⟩
        case measure => simp [intOf]; omega
      · -- o5
        have f0 : decide ((97 : Int) ≤ (a : Int)) = true := decide_eq_true (by omega)
        have f1 : decide ((a : Int) ≤ 122) = false := decide_eq_false (by omega)
        have f2 : decide ((65 : Int) ≤ (a : Int)) = true := decide_eq_true (by omega)
        have f3 : decide ((a : Int) ≤ 90) = false := decide_eq_false (by omega)
        have f4 : ((a : Int) != 95) = true := by simp; omega
        have f5 : decide ((a : Int) < 48) = false := decide_eq_false (by omega)
        have f6 : decide ((57 : Int) < (a : Int)) = true := decide_eq_true (by omega)
        by_cases hk0 : k = 0
        · have e0 : ((k : Int) == 0) = true := by simp [hk0]
          have HR : Hid (r = false) := Lib.hid (HBD.out (by rw [if_pos hk0]; (cases hq : Mo.isL a with | false => rfl | true => (simp only [Mo.isL, Bool.or_eq_true, Bool.and_eq_true, decide_eq_true_eq] at hq; omega))))
          clear hc HST HBD hk0
          go_wp2
          go_ret
          exact ⟨by rw [HR.out]; rfl, rfl⟩
        · have e0 : ((k : Int) == 0) = false := by simp [hk0]
          have HR : Hid (r = false) := Lib.hid (HBD.out (by rw [if_neg hk0]; (cases hq : Mo.isW a with | false => rfl | true => (simp only [Mo.isW, Mo.isL, Bool.or_eq_true, Bool.and_eq_true, decide_eq_true_eq] at hq; omega))))
          clear hc HST HBD hk0
          go_wp2
          go_ret
          exact ⟨by rw [HR.out]; rfl, rfl⟩
    · have hlti : ¬ (k : Int) < (s.size : Int) := by omega
      have HR : Hid (r = true) := Lib.hid (HI.out.2 ⟨by omega, by omega, by have h := HK.out; rwa [show k = s.size by omega] at h⟩)
      clear HI HK
      go_wp2
      go_ret
      exact ⟨by rw [HR.out]; rfl, rfl⟩

theorem Mo.rday_any (n : Int) (w : World) : Calls Tryz.prog 37 #[.int .i64 n] w fun e w' => e = .returned (.bool (Mo.dayOk n)) ∧ w = w' := by
  unfold Mo.dayOk
  by_cases h0 : 0 ≤ n
  · have f0 : decide (0 ≤ n) = true := decide_eq_true h0
    by_cases h1 : n ≤ 100000
    · have f1 : decide (n ≤ 100000) = true := decide_eq_true h1
      have HR : Hid ((decide (0 ≤ n) && decide (n ≤ 100000)) = true) := Lib.hid (by simp [h0, h1])
      rw [HR.out]
      clear h0 h1 HR
      go_enter Tryz.func37, Tryz.ntmps37
      go_wp2
      go_ret
      exact ⟨rfl, rfl⟩
    · have f1 : decide (n ≤ 100000) = false := decide_eq_false h1
      have HR : Hid ((decide (0 ≤ n) && decide (n ≤ 100000)) = false) := Lib.hid (by simp [h1])
      rw [HR.out]
      clear h0 h1 HR
      go_enter Tryz.func37, Tryz.ntmps37
      go_wp2
      go_ret
      exact ⟨rfl, rfl⟩
  · have f0 : decide (0 ≤ n) = false := decide_eq_false h0
    have HR : Hid ((decide (0 ≤ n) && decide (n ≤ 100000)) = false) := Lib.hid (by simp [h0])
    rw [HR.out]
    clear h0 HR
    go_enter Tryz.func37, Tryz.ntmps37
    go_wp2
    go_ret
    exact ⟨rfl, rfl⟩

set_option maxHeartbeats 1000000 in
theorem Mo.rproper_any (c : ByteArray) (u : Int) (hs : c.size ≤ maxLen) (w : World) : Calls Tryz.prog 41 #[.agg #[.string c, .int .i64 u]] w fun e w' => e = .returned (.bool (Mo.proper c.data.toList u)) ∧ Below w.heap.size w w' := by
  unfold Mo.proper
  have C1 := Lib.hid (fun v => Mo.rid_any c hs v)
  have HB := Lib.hid (Mo.al w (.cells #[.string c, .int .i64 u] 24))
  generalize Mo.ident c.data.toList = r1 at *
  clear hs
  cases r1
  · go_enter Tryz.func41, Tryz.ntmps41
    go_wp2_with (first | (go_at_call 36; with_reducible refine (C1.out _).mono ?_; rintro e w1 ⟨rfl, rfl⟩))
    go_ret
    exact ⟨rfl, HB.out⟩
  · by_cases h0 : -1000000000000 ≤ u
    · have f0 : decide (-1000000000000 ≤ u) = true := decide_eq_true h0
      by_cases h1 : u ≤ 1000000000000
      · have f1 : decide (u ≤ 1000000000000) = true := decide_eq_true h1
        have HR : Hid ((true && (decide (-1000000000000 ≤ u) && decide (u ≤ 1000000000000))) = true) := Lib.hid (by rw [f0, f1]; rfl)
        rw [HR.out]
        clear h0 h1 HR
        go_enter Tryz.func41, Tryz.ntmps41
        go_wp2_with (first | (go_at_call 36; with_reducible refine (C1.out _).mono ?_; rintro e w1 ⟨rfl, rfl⟩))
        go_ret
        exact ⟨rfl, HB.out⟩
      · have f1 : decide (u ≤ 1000000000000) = false := decide_eq_false h1
        have HR : Hid ((true && (decide (-1000000000000 ≤ u) && decide (u ≤ 1000000000000))) = false) := Lib.hid (by rw [f0, f1]; rfl)
        rw [HR.out]
        clear h0 h1 HR
        go_enter Tryz.func41, Tryz.ntmps41
        go_wp2_with (first | (go_at_call 36; with_reducible refine (C1.out _).mono ?_; rintro e w1 ⟨rfl, rfl⟩))
        go_ret
        exact ⟨rfl, HB.out⟩
    · have f0 : decide (-1000000000000 ≤ u) = false := decide_eq_false h0
      have HR : Hid ((true && (decide (-1000000000000 ≤ u) && decide (u ≤ 1000000000000))) = false) := Lib.hid (by rw [f0]; rfl)
      rw [HR.out]
      clear h0 HR
      go_enter Tryz.func41, Tryz.ntmps41
      go_wp2_with (first | (go_at_call 36; with_reducible refine (C1.out _).mono ?_; rintro e w1 ⟨rfl, rfl⟩))
      go_ret
      exact ⟨rfl, HB.out⟩
end Go.Proofs.YtkbncdcphohmiaaGreatDoor

/- Layer 8: the reference's Valid. -/
set_option linter.unusedSimpArgs false
set_option linter.unusedVariables false
namespace Go.Proofs.YtkbncdcphohmiaaGreatDoor
open Go.RowKit
set_option maxRecDepth 100000

theorem Mo.Pre.next {l : List Mo.Rt} {base : ByteArray} {k : Nat} (h : Mo.Pre l base k) (hk : k < l.length) (h1 : Mo.okR base l[k] = true) (h2 : ∀ j (h : j < l.length), j < k → ¬ Mo.clash l[j] l[k]) : Mo.Pre l base (k + 1) := by
  refine ⟨?_, ?_⟩
  · rw [Mo.take_snoc l k hk, List.all_append, h.1]
    simp [h1]
  · rw [Mo.take_snoc l k hk]
    refine List.pairwise_append.2 ⟨h.2, by simp, fun x hx y hy hc => ?_⟩
    simp only [List.mem_singleton] at hy
    subst hy
    obtain ⟨i, hi, rfl⟩ := List.getElem_of_mem hx
    rw [List.length_take] at hi
    rw [List.getElem_take] at hc
    exact h2 i (by omega) (by omega) hc
theorem Mo.clash_bad {l : List Mo.Rt} {base : ByteArray} {k j : Nat} (hk : k < l.length) (hj : j < l.length) (hjk : j < k) (hc : Mo.clash l[j] l[k]) : Mo.valid l base = false := by
  cases hv : Mo.valid l base with
  | false => rfl
  | true =>
    simp only [Mo.valid, Bool.and_eq_true, decide_eq_true_eq] at hv
    exact absurd hc (List.pairwise_iff_getElem.1 hv.2.2.2 j k hj hk hjk)

set_option maxHeartbeats 8000000 in
theorem Mo.rvalid8_any (A : Option Addr) (cp : Nat) (l : List Mo.Rt) (base : ByteArray) (w : World) (hl : Mo.Rts w w.heap.size A l) (hg : Mo.AllGood l) (hbs : base.size ≤ maxLen) (hn20 : l.length ≤ 20) :
    Calls Tryz.prog 20 #[.slice A l.length cp, .string base] w fun e w' => e = .returned (.bool (Mo.valid l base)) ∧ Below w.heap.size w w' := by
  have CB := Lib.hid (fun v => Mo.rid_any base hbs v)
  have HL : Hid (∀ v, Below w.heap.size w v → Mo.Rts v v.heap.size A l) := Lib.hid (fun v h => hl.bt h)
  have HG := Lib.hid hg
  cases hi : Mo.ident base.data.toList with
  | false =>
    have HV : Hid (Mo.valid l base = false) := Lib.hid (by simp [Mo.valid, hi])
    rw [hi] at CB
    rw [HV.out]
    clear hi hl hg
    generalize l.length = n at *
    go_enter Tryz.func20, Tryz.ntmps20
    go_wp2_with (first | (go_at_call 36; with_reducible refine (CB.out _).mono ?_; rintro e w1 ⟨rfl, rfl⟩))
    go_ret
    exact ⟨rfl, Below.refl _ _⟩
  | true =>
    rw [hi] at CB
    have HI := Lib.hid hi
    obtain ⟨r, hr⟩ : ∃ r, r = Mo.valid l base := ⟨_, rfl⟩
    have HRV := Lib.hid hr
    rw [← hr]
    obtain ⟨n, hn⟩ : ∃ n, n = l.length := ⟨_, rfl⟩
    have HN := Lib.hid hn
    rw [← hn] at hn20 ⊢
    clear hi hl hg hr hn
    go_enter Tryz.func20, Tryz.ntmps20
    go_wp2_with (first | (go_at_call 36; with_reducible refine (CB.out _).mono ?_; rintro e w1 ⟨rfl, rfl⟩))
    go_loopw [5] (fun i wr => ∃ k : Nat, k ≤ n ∧ i = .int .i64 (k : Int) ∧ Hid (Mo.Pre l base k) ∧ Hid (Below w.heap.size w wr)) (fun i _ => n - (intOf i).toNat)
    case atStart => exact ⟨0, Nat.zero_le _, rfl, Lib.hid ⟨rfl, List.Pairwise.nil⟩, Lib.hid (Below.refl _ _)⟩
    case round =>
      obtain ⟨k, hk, rfl, HP, HB⟩ := hrel
      by_cases hlt : k < n
      · have hlti : (k : Int) < (n : Int) := by omega
        have hkl : k < l.length := by have := HN.out; omega
        obtain ⟨ad, rfl, x0, x1, x2, x3⟩ := (HL.out wr HB.out).at hkl
        have HBD : Hid (Mo.okR base l[k] = false → r = false) := Lib.hid (fun h => by rw [HRV.out]; exact Mo.bad_at hkl h)
        have HST : Hid (Mo.okR base l[k] = true → (∀ j (h : j < l.length), j < k → ¬ Mo.clash l[j] l[k]) → Mo.Pre l base (k + 1)) := Lib.hid (fun h1 h2 => HP.out.next hkl h1 h2)
        have HCL : Hid (∀ j (h : j < l.length), j < k → Mo.clash l[j] l[k] → r = false) := Lib.hid (fun j hj hjk hc => by rw [HRV.out]; exact Mo.clash_bad hkl hj hjk hc)
        have HGx : Hid ((l[k]).cur.size ≤ maxLen) := Lib.hid (HG.out _ (List.getElem_mem hkl)).cur
        generalize l[k] = x at *
        have CI := Lib.hid (fun v => Mo.rid_any x.cur HGx.out v)
        have CD := Lib.hid (fun v => Mo.rday_any x.day v)
        have HB2 : Hid (Below w.heap.size w (wr.alloc (.cells #[.string x.cur, .int .i64 x.day, .int .i64 x.num, .int .i64 x.den] 27))) := Lib.hid (Mo.Nb HB.out (Mo.al _ _))
        have BX := Bk.new wr 27 #[.string x.cur, .int .i64 x.day, .int .i64 x.num, .int .i64 x.den]
        have a0 := BX.cell 0 _ rfl
        have a1 := BX.cell 1 _ rfl
        have a2 := BX.cell 2 _ rfl
        have a3 := BX.cell 3 _ rfl
        clear HP HB HGx BX
        go_upto_region 7 with fail
        generalize hW2 : wr.alloc (.cells #[.string x.cur, .int .i64 x.day, .int .i64 x.num, .int .i64 x.den] 27) = W2 at *
        generalize wr.heap.size = bx at *
        clear hW2
        cases hci : Mo.ident x.cur.data.toList with
        | false =>
          rw [hci] at CI
          have HR : Hid (r = false) := Lib.hid (HBD.out (by simp [Mo.okR, hci]))
          clear HBD HST HCL
          go_wp2_with (first | (go_at_call 36; with_reducible refine (CI.out _).mono ?_; rintro e w1 ⟨rfl, rfl⟩) | (go_at_call 37; with_reducible refine (CD.out _).mono ?_; rintro e w1 ⟨rfl, rfl⟩))
          go_ret
          exact ⟨by rw [HR.out]; rfl, HB2.out⟩
        | true =>
          rw [hci] at CI
          by_cases hcb : x.cur = base
          · have hbq : (x.cur.toList == base.toList) = true := by rw [hcb]; simp
            have HR : Hid (r = false) := Lib.hid (HBD.out (by simp [Mo.okR, hcb]))
            clear HBD HST HCL hcb
            go_wp2_with (first | (go_at_call 36; with_reducible refine (CI.out _).mono ?_; rintro e w1 ⟨rfl, rfl⟩) | (go_at_call 37; with_reducible refine (CD.out _).mono ?_; rintro e w1 ⟨rfl, rfl⟩))
            go_ret
            exact ⟨by rw [HR.out]; rfl, HB2.out⟩
          · have hbq : (x.cur.toList == base.toList) = false := bytes_ne hcb
            cases hcd : Mo.dayOk x.day with
            | false =>
              rw [hcd] at CD
              have HR : Hid (r = false) := Lib.hid (HBD.out (by simp [Mo.okR, hcd]))
              clear HBD HST HCL
              go_wp2_with (first | (go_at_call 36; with_reducible refine (CI.out _).mono ?_; rintro e w1 ⟨rfl, rfl⟩) | (go_at_call 37; with_reducible refine (CD.out _).mono ?_; rintro e w1 ⟨rfl, rfl⟩))
              go_ret
              exact ⟨by rw [HR.out]; rfl, HB2.out⟩
            | true =>
              rw [hcd] at CD
              by_cases n1 : x.num < 1
              · have hq : ¬ 1 ≤ x.num := by omega
                have HR : Hid (r = false) := Lib.hid (HBD.out (by simp [Mo.okR, hq]))
                clear HBD HST HCL
                go_wp2_with (first | (go_at_call 36; with_reducible refine (CI.out _).mono ?_; rintro e w1 ⟨rfl, rfl⟩) | (go_at_call 37; with_reducible refine (CD.out _).mono ?_; rintro e w1 ⟨rfl, rfl⟩))
                go_ret
                exact ⟨by rw [HR.out]; rfl, HB2.out⟩
              · by_cases n2 : 1000000 < x.num
                · have hq : ¬ x.num ≤ 1000000 := by omega
                  have HR : Hid (r = false) := Lib.hid (HBD.out (by simp [Mo.okR, hq]))
                  clear HBD HST HCL
                  go_wp2_with (first | (go_at_call 36; with_reducible refine (CI.out _).mono ?_; rintro e w1 ⟨rfl, rfl⟩) | (go_at_call 37; with_reducible refine (CD.out _).mono ?_; rintro e w1 ⟨rfl, rfl⟩))
                  go_ret
                  exact ⟨by rw [HR.out]; rfl, HB2.out⟩
                · by_cases n3 : x.den < 1
                  · have hq : ¬ 1 ≤ x.den := by omega
                    have HR : Hid (r = false) := Lib.hid (HBD.out (by simp [Mo.okR, hq]))
                    clear HBD HST HCL
                    go_wp2_with (first | (go_at_call 36; with_reducible refine (CI.out _).mono ?_; rintro e w1 ⟨rfl, rfl⟩) | (go_at_call 37; with_reducible refine (CD.out _).mono ?_; rintro e w1 ⟨rfl, rfl⟩))
                    go_ret
                    exact ⟨by rw [HR.out]; rfl, HB2.out⟩
                  · by_cases n4 : 1000000 < x.den
                    · have hq : ¬ x.den ≤ 1000000 := by omega
                      have HR : Hid (r = false) := Lib.hid (HBD.out (by simp [Mo.okR, hq]))
                      clear HBD HST HCL
                      go_wp2_with (first | (go_at_call 36; with_reducible refine (CI.out _).mono ?_; rintro e w1 ⟨rfl, rfl⟩) | (go_at_call 37; with_reducible refine (CD.out _).mono ?_; rintro e w1 ⟨rfl, rfl⟩))
                      go_ret
                      exact ⟨by rw [HR.out]; rfl, HB2.out⟩
                    · have HOK : Hid (Mo.okR base x = true) := Lib.hid (by simp [Mo.okR, hci, hcb, hcd]; omega)
                      clear hcb HBD
                      go_wp2_with (first | (go_at_call 36; with_reducible refine (CI.out _).mono ?_; rintro e w1 ⟨rfl, rfl⟩) | (go_at_call 37; with_reducible refine (CD.out _).mono ?_; rintro e w1 ⟨rfl, rfl⟩))
                      clear x0 x1 x2 x3 a2 a3
                      go_loopw [7] (fun j wi => ∃ m q : Nat, m ≤ k ∧ j = .int .i64 (m : Int) ∧ Hid (∀ j (h : j < l.length), j < m → ¬ Mo.clash l[j] x) ∧ wi = W2.drewN q) (fun j _ => k - (intOf j).toNat)
                      case atStart => exact ⟨0, 0, Nat.zero_le _, rfl, Lib.hid (fun j _ h => absurd h (by omega)), rfl⟩
                      case round =>
                        obtain ⟨m, q, hm, rfl, HNC, rfl⟩ := hrel
                        by_cases hmt : m < k
                        · have hmti : (m : Int) < (k : Int) := by omega
                          have hmn : (m : Int) < (n : Int) := by omega
                          have hml : m < l.length := by have := HN.out; omega
                          obtain ⟨ad', e', y0, y1, y2, y3⟩ := (HL.out W2 HB2.out).at hml
                          cases e'
                          have HN2 : Hid (¬ Mo.clash l[m] x → ∀ j (h : j < l.length), j < m + 1 → ¬ Mo.clash l[j] x) := Lib.hid (fun hc j hj hjm => by
                            by_cases e : j = m
                            · subst e; exact hc
                            · exact HNC.out j hj (by omega))
                          have HC2 : Hid (Mo.clash l[m] x → r = false) := Lib.hid (fun h => HCL.out m hml hmt h)
                          generalize l[m] = z at *
                          clear HNC
                          by_cases hc : z.cur = x.cur
                          · have hcb : (z.cur.toList == x.cur.toList) = true := by rw [hc]; simp
                            by_cases hd : z.day = x.day
                            · have hdb : (z.day == x.day) = true := by simp [hd]
                              have HR : Hid (r = false) := Lib.hid (HC2.out ⟨hc, hd⟩)
                              clear HN2 HC2 HCL HST hc hd
                              go_wp2
                              go_quiet (fail)
                              go_wp2
                              go_ret
                              exact ⟨by rw [HR.out]; rfl, Mo.dn (Mo.dn HB2.out _) _⟩
                            · have hdb : (z.day == x.day) = false := by simp [hd]
                              have HS := Lib.hid (HN2.out (fun h => hd h.2))
                              clear HN2 HC2 hc hd
                              go_wp2
                              go_quiet (fail)
                              go_wp2
                              exact ⟨⟨m + 1, q + nq, by omega, by go_num, HS, by first | rfl | rw [World.drewN_drewN]⟩, by simp [intOf]; omega⟩
                          · have hcb := bytes_ne hc
                            have HS := Lib.hid (HN2.out (fun h => hc h.1))
                            clear HN2 HC2 hc
                            go_wp2
                            go_quiet (fail)
                            go_wp2
                            exact ⟨⟨m + 1, q + nq, by omega, by go_num, HS, by first | rfl | rw [World.drewN_drewN]⟩, by simp [intOf]; omega⟩
                        · have hmti : ¬ (m : Int) < (k : Int) := by omega
                          have hmk : m = k := by omega
                          have HS := Lib.hid (HST.out HOK.out (fun j hj hjk => HNC.out j hj (by omega)))
                          have HB3 : Hid (Below w.heap.size w (W2.drewN q)) := Lib.hid (Mo.dn HB2.out _)
                          clear HNC HST HCL HB2 hmk a0 a1
                          go_wp2
                          exact ⟨⟨k + 1, by omega, by go_num, HS, HB3⟩, by simp [intOf]; omega⟩
      · have hlti : ¬ (k : Int) < (n : Int) := by omega
        have HR : Hid (r = true) := Lib.hid (by
          rw [HRV.out]
          exact HP.out.done (by have := HN.out; omega) HI.out (by have := HN.out; omega))
        clear HP
        go_wp2
        go_ret
        exact ⟨by rw [HR.out]; rfl, HB.out⟩
end Go.Proofs.YtkbncdcphohmiaaGreatDoor

/- Layer 8: the reference's Find. -/
set_option linter.unusedSimpArgs false
set_option linter.unusedVariables false
namespace Go.Proofs.YtkbncdcphohmiaaGreatDoor
open Go.RowKit
set_option maxRecDepth 100000

theorem Mo.best_take (l : List Mo.Rt) (c : ByteArray) (day : Int) (k : Nat) (hk : k < l.length) : Mo.best (l.take (k + 1)) c day = Mo.step c day (Mo.best (l.take k) c day) l[k] := by
  rw [Mo.take_snoc l k hk, Mo.best_snoc]

set_option maxHeartbeats 8000000 in
theorem Mo.rfind_any (A : Option Addr) (cp : Nat) (l : List Mo.Rt) (base c : ByteArray) (day : Int) (w : World) (hl : Mo.Rts w w.heap.size A l) (hg : Mo.AllGood l) (hbs : base.size ≤ maxLen) (hcs : c.size ≤ maxLen) (hn20 : l.length ≤ 20) :
    Calls Tryz.prog 12 #[.slice A l.length cp, .string base, .string c, .int .i64 day] w fun e w' => e = Mo.ret (Mo.find l base c day) ∧ Below w.heap.size w w' := by
  have C1 := Lib.hid (fun v (h : Below w.heap.size w v) => Mo.rvalid8_any A cp l base v (hl.bt h) hg hbs hn20)
  have C2 := Lib.hid (fun v => Mo.rid_any c hcs v)
  have C3 := Lib.hid (fun v => Mo.rday_any day v)
  have HL : Hid (∀ v, Below w.heap.size w v → Mo.Rts v v.heap.size A l) := Lib.hid (fun v h => hl.bt h)
  have HFD : Hid (Mo.find l base c day = if (Mo.valid l base && (Mo.ident c.data.toList && Mo.dayOk day)) = false then (.zero, 1)
  else if c = base then (⟨base, 0, 1, 1⟩, 0)
  else if (Mo.best l c day).day < 0 then (.zero, 11)
  else (Mo.best l c day, 0)) := Lib.hid rfl
  obtain ⟨R, hR⟩ : ∃ R, R = Mo.find l base c day := ⟨_, rfl⟩
  rw [← hR] at HFD ⊢
  have B1 := Lib.hid (Mo.al w (.cells #[.string ⟨#[]⟩, .int .i64 0, .int .i64 0, .int .i64 0] 27))
  have K8 := Lib.hid (Bk.new w 27 #[.string ⟨#[]⟩, .int .i64 0, .int .i64 0, .int .i64 0])
  obtain ⟨n, hn⟩ : ∃ n, n = l.length := ⟨_, rfl⟩
  have HN := Lib.hid hn
  rw [← hn] at C1 hn20 ⊢
  clear hl hg hR hn
  cases hv : Mo.valid l base with
  | false =>
    rw [hv] at C1 HFD
    have HR : Hid (R = (.zero, 1)) := Lib.hid (by rw [HFD.out]; rfl)
    clear HFD hv
    go_enter Tryz.func12, Tryz.ntmps12
    go_wp2_with fail
    refine (C1.out _ B1.out).mono ?_
    rintro e w1 ⟨rfl, g⟩
    have B2 := Lib.hid (Mo.Nb B1.out g)
    have K9 := Lib.hid (K8.out.bt g)
    clear g B1 K8
    go_wp2_with (refine wpList_store_row rfl _ _ _ rfl w.heap.size _ rfl rfl 27 _ K9.out (Mo.info_rate.trans rfl) rfl (by simp [Value.oneCell']) ?_)
    (try simp only [Exit.inBlock, Exit.then])
    exact bodyPost_ret (Mo.results2 (i := 8) (j := 9) rfl _ _ w.heap.size 27 _ rfl (K9.out.set _) Tryz.underlying27 (Mo.info_rate.trans rfl)) rfl ⟨by rw [HR.out]; rfl, below_setRow B2.out (Nat.le_refl _) _⟩
  | true =>
    rw [hv] at C1 HFD
    cases hi : Mo.ident c.data.toList with
    | false =>
      rw [hi] at C2 HFD
      have HR : Hid (R = (.zero, 1)) := Lib.hid (by rw [HFD.out]; rfl)
      clear HFD hv hi
      go_enter Tryz.func12, Tryz.ntmps12
      go_wp2_with fail
      refine (C1.out _ B1.out).mono ?_
      rintro e w1 ⟨rfl, g⟩
      have B2 := Lib.hid (Mo.Nb B1.out g)
      have K9 := Lib.hid (K8.out.bt g)
      clear g B1 K8
      go_wp2_with fail
      refine (C2.out _).mono ?_
      rintro e w2 ⟨rfl, rfl⟩
      go_wp2_with (refine wpList_store_row rfl _ _ _ rfl w.heap.size _ rfl rfl 27 _ K9.out (Mo.info_rate.trans rfl) rfl (by simp [Value.oneCell']) ?_)
      (try simp only [Exit.inBlock, Exit.then])
      exact bodyPost_ret (Mo.results2 (i := 8) (j := 9) rfl _ _ w.heap.size 27 _ rfl (K9.out.set _) Tryz.underlying27 (Mo.info_rate.trans rfl)) rfl ⟨by rw [HR.out]; rfl, below_setRow B2.out (Nat.le_refl _) _⟩
    | true =>
      rw [hi] at C2 HFD
      cases hd : Mo.dayOk day with
      | false =>
        rw [hd] at C3 HFD
        have HR : Hid (R = (.zero, 1)) := Lib.hid (by rw [HFD.out]; rfl)
        clear HFD hv hi hd
        go_enter Tryz.func12, Tryz.ntmps12
        go_wp2_with fail
        refine (C1.out _ B1.out).mono ?_
        rintro e w1 ⟨rfl, g⟩
        have B2 := Lib.hid (Mo.Nb B1.out g)
        have K9 := Lib.hid (K8.out.bt g)
        clear g B1 K8
        go_wp2_with fail
        refine (C2.out _).mono ?_
        rintro e w2 ⟨rfl, rfl⟩
        go_wp2_with fail
        refine (C3.out _).mono ?_
        rintro e w3 ⟨rfl, rfl⟩
        go_wp2_with (refine wpList_store_row rfl _ _ _ rfl w.heap.size _ rfl rfl 27 _ K9.out (Mo.info_rate.trans rfl) rfl (by simp [Value.oneCell']) ?_)
        (try simp only [Exit.inBlock, Exit.then])
        exact bodyPost_ret (Mo.results2 (i := 8) (j := 9) rfl _ _ w.heap.size 27 _ rfl (K9.out.set _) Tryz.underlying27 (Mo.info_rate.trans rfl)) rfl ⟨by rw [HR.out]; rfl, below_setRow B2.out (Nat.le_refl _) _⟩
      | true =>
        rw [hd] at C3 HFD
        have HFD2 : Hid (R = if c = base then (⟨base, 0, 1, 1⟩, 0) else if (Mo.best l c day).day < 0 then (.zero, 11) else (Mo.best l c day, 0)) := Lib.hid (by rw [HFD.out, if_neg (by simp)])
        clear HFD hv hi hd
        by_cases hcb : c = base
        · have HR : Hid (R = (⟨base, 0, 1, 1⟩, 0)) := Lib.hid (by rw [HFD2.out, if_pos hcb])
          have hbq : (c.toList == base.toList) = true := by rw [hcb]; simp
          clear HFD2 hcb
          go_enter Tryz.func12, Tryz.ntmps12
          go_wp2_with fail
          refine (C1.out _ B1.out).mono ?_
          rintro e w1 ⟨rfl, g⟩
          have B2 := Lib.hid (Mo.Nb B1.out g)
          have K9 := Lib.hid (K8.out.bt g)
          clear g B1 K8
          go_wp2_with fail
          refine (C2.out _).mono ?_
          rintro e w2 ⟨rfl, rfl⟩
          go_wp2_with fail
          refine (C3.out _).mono ?_
          rintro e w3 ⟨rfl, rfl⟩
          go_wp2_with (refine wpList_store_row rfl _ _ _ rfl w.heap.size _ rfl rfl 27 _ K9.out (Mo.info_rate.trans rfl) rfl (by simp [Value.oneCell']) ?_)
          (try simp only [Exit.inBlock, Exit.then])
          exact bodyPost_ret (Mo.results2 (i := 8) (j := 9) rfl _ _ w.heap.size 27 _ rfl (K9.out.set _) Tryz.underlying27 (Mo.info_rate.trans rfl)) rfl ⟨by rw [HR.out]; rfl, below_setRow B2.out (Nat.le_refl _) _⟩
        · have HFD3 : Hid (R = if (Mo.best l c day).day < 0 then (.zero, 11) else (Mo.best l c day, 0)) := Lib.hid (by rw [HFD2.out, if_neg hcb])
          have hbq := bytes_ne hcb
          clear HFD2 hcb
          go_enter Tryz.func12, Tryz.ntmps12
          go_wp2_with fail
          refine (C1.out _ B1.out).mono ?_
          rintro e w1 ⟨rfl, g⟩
          have B2 := Mo.Nb B1.out g
          have K9 := K8.out.bt g
          clear g B1 K8
          go_wp2_with fail
          refine (C2.out _).mono ?_
          rintro e w2 ⟨rfl, rfl⟩
          go_wp2_with fail
          refine (C3.out _).mono ?_
          rintro e w3 ⟨rfl, rfl⟩
          have B3 := Lib.hid (Mo.Nb B2 (Mo.al w1 (.cells #[.string ⟨#[]⟩, .int .i64 (-1), .int .i64 0, .int .i64 0] 27)))
          have K10 := Lib.hid (K9.bt (Mo.al w1 (.cells #[.string ⟨#[]⟩, .int .i64 (-1), .int .i64 0, .int .i64 0] 27)))
          have KB := Lib.hid (Bk.new w1 27 #[.string ⟨#[]⟩, .int .i64 (-1), .int .i64 0, .int .i64 0])
          have HW1 : Hid (w.heap.size < w1.heap.size) := Lib.hid K9.lt
          clear B2 K9 C1 C2 C3
          go_wp2
          go_loopw [11] (fun i wr => ∃ k : Nat, k ≤ n ∧ i = .int .i64 (k : Int) ∧ Hid (Bk wr w.heap.size 27 #[.string ⟨#[]⟩, .int .i64 0, .int .i64 0, .int .i64 0]) ∧ Hid (Bk wr w1.heap.size 27 #[.string (Mo.best (l.take k) c day).cur, .int .i64 (Mo.best (l.take k) c day).day, .int .i64 (Mo.best (l.take k) c day).num, .int .i64 (Mo.best (l.take k) c day).den]) ∧ Hid (Below w.heap.size w wr)) (fun i _ => n - (intOf i).toNat)
          case atStart => exact ⟨0, Nat.zero_le _, rfl, K10, KB, B3⟩
          case round =>
            clear K10 KB B3
            obtain ⟨k, hk, rfl, K8, KB, HB⟩ := hrel
            obtain ⟨b, hb⟩ : ∃ b, b = Mo.best (l.take k) c day := ⟨_, rfl⟩
            have HBB := Lib.hid hb
            rw [← hb] at KB
            clear hb
            have b0 := KB.out.cell 0 _ rfl
            have b1 := KB.out.cell 1 _ rfl
            have b2 := KB.out.cell 2 _ rfl
            have b3 := KB.out.cell 3 _ rfl
            by_cases hlt : k < n
            · have hlti : (k : Int) < (n : Int) := by omega
              have hkl : k < l.length := by have := HN.out; omega
              obtain ⟨ad, rfl, x0, x1, x2, x3⟩ := (HL.out wr HB.out).at hkl
              have HST : Hid (Mo.best (l.take (k + 1)) c day = Mo.step c day b l[k]) := Lib.hid (by rw [Mo.best_take l c day k hkl, HBB.out])
              generalize l[k] = x at *
              clear HBB
              by_cases hc : x.cur = c
              · have hcq : (x.cur.toList == c.toList) = true := by rw [hc]; simp
                by_cases hd : x.day ≤ day
                · have HD1 : Hid (decide (x.day ≤ day) = true) := Lib.hid (decide_eq_true hd)
                  by_cases hm : b.day < x.day
                  · have HSX : Hid (Mo.best (l.take (k + 1)) c day = x) := Lib.hid (by rw [HST.out]; unfold Mo.step; rw [if_pos ⟨hc, hd, hm⟩])
                    have HM1 : Hid (decide (b.day < x.day) = true) := Lib.hid (decide_eq_true hm)
                    clear HST hc hd hm
                    go_wp2
                    have h1 := HD1.out
                    have h2 := HM1.out
                    go_quiet (fail)
                    have KB' : Hid (Bk (wr.drewN nq) w1.heap.size 27 #[.string b.cur, .int .i64 b.day, .int .i64 b.num, .int .i64 b.den]) := Lib.hid KB.out
                    have K8' : Hid (Bk (wr.drewN nq) w.heap.size 27 #[.string ⟨#[]⟩, .int .i64 0, .int .i64 0, .int .i64 0]) := Lib.hid K8.out
                    have HB' : Hid (Below w.heap.size w (wr.drewN nq)) := Lib.hid (Mo.dn HB.out _)
                    obtain ⟨ad', e', x0, x1, x2, x3⟩ : ∃ ad', some ad = some ad' ∧ (wr.drewN nq).cell? (ad'.add (k * 4)) = some (.string x.cur) ∧ (wr.drewN nq).cell? { block := (ad'.add (k * 4)).block, off := (ad'.add (k * 4)).off + 1 } = some (.int .i64 x.day) ∧ (wr.drewN nq).cell? { block := (ad'.add (k * 4)).block, off := (ad'.add (k * 4)).off + 2 } = some (.int .i64 x.num) ∧ (wr.drewN nq).cell? { block := (ad'.add (k * 4)).block, off := (ad'.add (k * 4)).off + 3 } = some (.int .i64 x.den) := ⟨ad, rfl, x0, x1, x2, x3⟩
                    cases e'
                    clear KB K8 HB b0 b1 b2 b3 h1 h2
                    generalize wr.drewN nq = wq at *
                    go_wp2_with (refine wpList_store_row rfl _ _ _ rfl w1.heap.size _ rfl rfl 27 _ KB'.out (Mo.info_rate.trans rfl) rfl (by simp [Value.oneCell']) ?_)
                    have KB2 : Hid (Bk (wq.setRow w1.heap.size #[.string x.cur, .int .i64 x.day, .int .i64 x.num, .int .i64 x.den]) w1.heap.size 27 #[.string (Mo.best (l.take (k + 1)) c day).cur, .int .i64 (Mo.best (l.take (k + 1)) c day).day, .int .i64 (Mo.best (l.take (k + 1)) c day).num, .int .i64 (Mo.best (l.take (k + 1)) c day).den]) := Lib.hid (by rw [HSX.out]; exact KB'.out.set _)
                    have K82 : Hid (Bk (wq.setRow w1.heap.size #[.string x.cur, .int .i64 x.day, .int .i64 x.num, .int .i64 x.den]) w.heap.size 27 #[.string ⟨#[]⟩, .int .i64 0, .int .i64 0, .int .i64 0]) := Lib.hid (K8'.out.far _ (by have := HW1.out; omega))
                    have HB3 : Hid (Below w.heap.size w (wq.setRow w1.heap.size #[.string x.cur, .int .i64 x.day, .int .i64 x.num, .int .i64 x.den])) := Lib.hid (below_setRow HB'.out (Nat.le_of_lt HW1.out) _)
                    clear KB' K8' HB' HSX
                    exact ⟨⟨k + 1, by omega, by go_num, K82, KB2, HB3⟩, by simp [intOf]; omega⟩
                  · have HSX : Hid (Mo.best (l.take (k + 1)) c day = b) := Lib.hid (by rw [HST.out]; unfold Mo.step; rw [if_neg (fun h => hm h.2.2)])
                    have HM1 : Hid (decide (b.day < x.day) = false) := Lib.hid (decide_eq_false hm)
                    have HS2 : Hid (Bk wr w1.heap.size 27 #[.string (Mo.best (l.take (k + 1)) c day).cur, .int .i64 (Mo.best (l.take (k + 1)) c day).day, .int .i64 (Mo.best (l.take (k + 1)) c day).num, .int .i64 (Mo.best (l.take (k + 1)) c day).den]) := Lib.hid (by rw [HSX.out]; exact KB.out)
                    clear HSX KB HST hc hd hm
                    go_wp2
                    have h1 := HD1.out
                    have h2 := HM1.out
                    go_quiet (fail)
                    go_wp2
                    exact ⟨⟨k + 1, by omega, by go_num, Lib.hid K8.out, Lib.hid HS2.out, Lib.hid (Mo.dn HB.out _)⟩, by simp [intOf]; omega⟩
                · have HD1 : Hid (decide (x.day ≤ day) = false) := Lib.hid (decide_eq_false hd)
                  have HSX : Hid (Mo.best (l.take (k + 1)) c day = b) := Lib.hid (by rw [HST.out]; unfold Mo.step; rw [if_neg (fun h => hd h.2.1)])
                  have HS2 : Hid (Bk wr w1.heap.size 27 #[.string (Mo.best (l.take (k + 1)) c day).cur, .int .i64 (Mo.best (l.take (k + 1)) c day).day, .int .i64 (Mo.best (l.take (k + 1)) c day).num, .int .i64 (Mo.best (l.take (k + 1)) c day).den]) := Lib.hid (by rw [HSX.out]; exact KB.out)
                  clear HSX KB HST hc hd
                  go_wp2
                  have h1 := HD1.out
                  go_quiet (fail)
                  go_wp2
                  exact ⟨⟨k + 1, by omega, by go_num, Lib.hid K8.out, Lib.hid HS2.out, Lib.hid (Mo.dn HB.out _)⟩, by simp [intOf]; omega⟩
              · have hcq := bytes_ne hc
                have HSX : Hid (Mo.best (l.take (k + 1)) c day = b) := Lib.hid (by rw [HST.out]; unfold Mo.step; rw [if_neg (fun h => hc h.1)])
                have HS2 : Hid (Bk wr w1.heap.size 27 #[.string (Mo.best (l.take (k + 1)) c day).cur, .int .i64 (Mo.best (l.take (k + 1)) c day).day, .int .i64 (Mo.best (l.take (k + 1)) c day).num, .int .i64 (Mo.best (l.take (k + 1)) c day).den]) := Lib.hid (by rw [HSX.out]; exact KB.out)
                clear HSX KB HST hc
                go_wp2
                go_quiet (fail)
                go_wp2
                exact ⟨⟨k + 1, by omega, by go_num, Lib.hid K8.out, Lib.hid HS2.out, Lib.hid (Mo.dn HB.out _)⟩, by simp [intOf]; omega⟩
            · have hlti : ¬ (k : Int) < (n : Int) := by omega
              have HBE : Hid (b = Mo.best l c day) := Lib.hid (by rw [HBB.out, Mo.take_done (by have := HN.out; omega)])
              have HFE : Hid (R = if b.day < 0 then (.zero, 11) else (b, 0)) := Lib.hid (by rw [HFD3.out, HBE.out])
              clear HFD3 HBE HBB
              by_cases hneg : b.day < 0
              · have HR : Hid (R = (.zero, 11)) := Lib.hid (by rw [HFE.out, if_pos hneg])
                clear HFE
                go_wp2_with (refine wpList_store_row rfl _ _ _ rfl w.heap.size _ rfl rfl 27 _ K8.out (Mo.info_rate.trans rfl) rfl (by simp [Value.oneCell']) ?_)
                (try simp only [Exit.inBlock, Exit.then])
                exact bodyPost_ret (Mo.results2 (i := 8) (j := 9) rfl _ _ w.heap.size 27 _ rfl (K8.out.set _) Tryz.underlying27 (Mo.info_rate.trans rfl)) rfl ⟨by rw [HR.out]; rfl, below_setRow HB.out (Nat.le_refl _) _⟩
              · have HR : Hid (R = (b, 0)) := Lib.hid (by rw [HFE.out, if_neg hneg])
                clear HFE
                go_wp2_with (refine wpList_store_row rfl _ _ _ rfl w.heap.size _ rfl rfl 27 _ K8.out (Mo.info_rate.trans rfl) rfl (by simp [Value.oneCell']) ?_)
                (try simp only [Exit.inBlock, Exit.then])
                exact bodyPost_ret (Mo.results2 (i := 8) (j := 9) rfl _ _ w.heap.size 27 _ rfl (K8.out.set _) Tryz.underlying27 (Mo.info_rate.trans rfl)) rfl ⟨by rw [HR.out]; rfl, below_setRow HB.out (Nat.le_refl _) _⟩
end Go.Proofs.YtkbncdcphohmiaaGreatDoor
