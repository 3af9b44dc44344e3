/- Layer 8: letters, currencies, days, factors, rates and amounts, as the program tests them. -/
import Derived.Test.YtkbncdcphohmiaaGreatDoorMoText
import Derived.Test.YtkbncdcphohmiaaGreatDoorNaAD
set_option linter.unusedSimpArgs false
set_option linter.unusedVariables false
namespace Go.Proofs.YtkbncdcphohmiaaGreatDoor
open Go.RowKit
set_option maxRecDepth 100000

theorem Mo.let_any (c : UInt8) (w : World) : Calls Tryz.prog 99 #[.int .u8 (c.toNat : Int)] w fun e w' => e = .returned (.bool (Mo.isLet c)) ∧ w = w' := by
  have hc := UInt8.toNat_lt c
  obtain ⟨r, hr⟩ : ∃ r, r = Mo.isLet c := ⟨_, rfl⟩
  rw [← hr]
  unfold Mo.isLet at hr
  generalize c.toNat = a at *
  by_cases h1 : a < 65
  · have f1 : decide ((97 : Int) ≤ (a : Int)) = false := decide_eq_false (by omega)
    have f2 : decide ((65 : Int) ≤ (a : Int)) = false := decide_eq_false (by omega)
    have HR : Hid (r = false) := Lib.hid (by rw [hr]; simp; omega)
    clear hr h1
    go_enter Tryz.func99, Tryz.ntmps99
    go_wp2
    go_ret
    exact ⟨by rw [HR.out]; rfl, rfl⟩
  by_cases h2 : a ≤ 90
  · have f1 : decide ((97 : Int) ≤ (a : Int)) = false := decide_eq_false (by omega)
    have f2 : decide ((65 : Int) ≤ (a : Int)) = true := decide_eq_true (by omega)
    have f3 : decide ((a : Int) ≤ 90) = true := decide_eq_true (by omega)
    have HR : Hid (r = true) := Lib.hid (by rw [hr]; simp; omega)
    clear hr h1 h2
    go_enter Tryz.func99, Tryz.ntmps99
    go_wp2
    go_ret
    exact ⟨by rw [HR.out]; rfl, rfl⟩
  by_cases h3 : a < 97
  · have f1 : decide ((97 : Int) ≤ (a : Int)) = false := decide_eq_false (by omega)
    have f2 : decide ((65 : Int) ≤ (a : Int)) = true := decide_eq_true (by omega)
    have f3 : decide ((a : Int) ≤ 90) = false := decide_eq_false (by omega)
    have HR : Hid (r = false) := Lib.hid (by rw [hr]; simp; omega)
    clear hr h1 h2 h3
    go_enter Tryz.func99, Tryz.ntmps99
    go_wp2
    go_ret
    exact ⟨by rw [HR.out]; rfl, rfl⟩
  by_cases h4 : a ≤ 122
  · have f1 : decide ((97 : Int) ≤ (a : Int)) = true := decide_eq_true (by omega)
    have f2 : decide ((a : Int) ≤ 122) = true := decide_eq_true (by omega)
    have HR : Hid (r = true) := Lib.hid (by rw [hr]; simp; omega)
    clear hr h1 h2 h3 h4
    go_enter Tryz.func99, Tryz.ntmps99
    go_wp2
    go_ret
    exact ⟨by rw [HR.out]; rfl, rfl⟩
  · have f1 : decide ((97 : Int) ≤ (a : Int)) = true := decide_eq_true (by omega)
    have f2 : decide ((a : Int) ≤ 122) = false := decide_eq_false (by omega)
    have f3 : decide ((65 : Int) ≤ (a : Int)) = true := decide_eq_true (by omega)
    have f4 : decide ((a : Int) ≤ 90) = false := decide_eq_false (by omega)
    have HR : Hid (r = false) := Lib.hid (by rw [hr]; simp; omega)
    clear hr h1 h2 h3 h4
    go_enter Tryz.func99, Tryz.ntmps99
    go_wp2
    go_ret
    exact ⟨by rw [HR.out]; rfl, rfl⟩

theorem Mo.day_any (n : Int) (w : World) : Calls Tryz.prog 67 #[.int .i64 n] w fun e w' => e = .returned (.bool (Mo.dayOk n)) ∧ w = w' := by
  unfold Mo.dayOk
  go_enter Tryz.func67, Tryz.ntmps67
  by_cases h0 : 0 ≤ n
  · by_cases h1 : n ≤ 100000
    · go_wp2
      go_ret
      exact ⟨by simp [h0, h1], rfl⟩
    · go_wp2
      go_ret
      exact ⟨by simp [h0, h1], rfl⟩
  · go_wp2
    go_ret
    exact ⟨by rw [decide_eq_false (Int.not_le.2 (by assumption))]; rfl, rfl⟩
def Mo.facOk (n : Int) : Bool := decide (1 ≤ n) && decide (n ≤ 1000000)
theorem Mo.fac_any (n : Int) (w : World) : Calls Tryz.prog 100 #[.int .i64 n] w fun e w' => e = .returned (.bool (Mo.facOk n)) ∧ w = w' := by
  unfold Mo.facOk
  go_enter Tryz.func100, Tryz.ntmps100
  by_cases h0 : 1 ≤ n
  · by_cases h1 : n ≤ 1000000
    · go_wp2
      go_ret
      exact ⟨by simp [h0, h1], rfl⟩
    · go_wp2
      go_ret
      exact ⟨by simp [h0, h1], rfl⟩
  · go_wp2
    go_ret
    exact ⟨by rw [decide_eq_false (show ¬ 1 ≤ n by omega)]; rfl, rfl⟩

theorem Mo.ident_long {l : List UInt8} (h : 24 < l.length) : Mo.ident l = false := by
  cases l with
  | nil => rfl
  | cons c r =>
    simp only [List.length_cons] at h
    simp [Mo.ident]
    omega
theorem Mo.ident_bad {l : List UInt8} (h : 0 < l.length) (hb : Mo.isLet (l[0]'h) = false) : Mo.ident l = false := by
  cases l with
  | nil => rfl
  | cons c r =>
    simp only [List.getElem_cons_zero] at hb
    simp [Mo.ident, hb]
theorem Mo.let_wd {c : UInt8} (h : Mo.isLet c = true) : Mo.isWd c = true := by simp [Mo.isWd, h]
theorem Mo.ident_wd {l : List UInt8} (k : Nat) (h : k < l.length) (hb : Mo.isWd l[k] = false) : Mo.ident l = false := by
  cases l with
  | nil => rfl
  | cons c r =>
    cases hi : Mo.ident (c :: r) with
    | false => rfl
    | true =>
      simp only [Mo.ident, Bool.and_eq_true] at hi
      cases k with
      | zero =>
        simp only [List.getElem_cons_zero] at hb
        rw [Mo.let_wd hi.1] at hb
        cases hb
      | succ k =>
        simp only [List.getElem_cons_succ] at hb
        rw [List.all_eq_true.1 hi.2.1 _ (List.getElem_mem _)] at hb
        cases hb
theorem Mo.ident_ok {l : List UInt8} (h : 0 < l.length) (h1 : l.length ≤ 24) (h2 : Mo.isLet (l[0]'h) = true) (h3 : ∀ k (hk : k < l.length), Mo.isWd l[k] = true) : Mo.ident l = true := by
  cases l with
  | nil => simp at h
  | cons c r =>
    simp only [List.getElem_cons_zero] at h2
    simp only [List.length_cons] at h1
    simp only [Mo.ident, Bool.and_eq_true, decide_eq_true_eq]
    refine ⟨h2, List.all_eq_true.2 fun x hx => ?_, by omega⟩
    obtain ⟨k, hk, rfl⟩ := List.getElem_of_mem hx
    have := h3 (k + 1) (by simp; omega)
    simpa using this

/-- All the bytes before the place k are those of words. -/
def Mo.Wds (s : ByteArray) (k : Nat) : Prop := ∀ i (h : i < s.size), i < k → Mo.isWd s[i] = true

set_option maxHeartbeats 1000000 in
theorem Mo.cur_any (s : ByteArray) (hs : s.size ≤ maxLen) (w : World) : Calls Tryz.prog 65 #[.string s] w fun e w' => e = .returned (.bool (Mo.ident s.data.toList)) ∧ w = w' := by
  unfold maxLen at hs
  have hlen : s.data.toList.length = s.size := rfl
  by_cases h0 : s.size = 0
  · have e : s = ⟨#[]⟩ := by
      apply ByteArray.ext
      exact Array.eq_empty_of_size_eq_zero h0
    subst e
    go_enter Tryz.func65, Tryz.ntmps65
    go_wp2
    go_ret
    exact ⟨rfl, rfl⟩
  · have f0 : s.toList.isEmpty = false := by
      rw [List.isEmpty_eq_false_iff]
      intro e
      have := congrArg List.length e
      rw [ByteArray.toList_eq] at this
      exact h0 this
    have hpos : 0 < s.size := by omega
    by_cases h24 : 24 < s.size
    · have h24i : (24 : Int) < (s.size : Int) := by omega
      have hr : Mo.ident s.data.toList = false := Mo.ident_long h24
      rw [hr]
      clear hr hlen
      go_enter Tryz.func65, Tryz.ntmps65
      go_wp2
      go_ret
      exact ⟨rfl, rfl⟩
    · have h24i : ¬ (24 : Int) < (s.size : Int) := by omega
      have CL := Lib.hid (fun v => Mo.let_any s[0] v)
      cases hl : Mo.isLet s[0] with
      | false =>
        have hr : Mo.ident s.data.toList = false := Mo.ident_bad (l := s.data.toList) hpos hl
        rw [hl] at CL
        rw [hr]
        clear hr hlen hl
        go_enter Tryz.func65, Tryz.ntmps65
        go_wp2_with (first | (go_at_call 99; with_reducible refine (CL.out _).mono ?_; rintro e w1 ⟨rfl, rfl⟩))
        go_ret
        exact ⟨rfl, rfl⟩
      | true =>
        have HL : Hid (Mo.isLet s[0] = true) := Lib.hid hl
        rw [hl] at CL
        clear hl hlen
        go_enter Tryz.func65, Tryz.ntmps65
        go_wp2_with (first | (go_at_call 99; with_reducible refine (CL.out _).mono ?_; rintro e w1 ⟨rfl, rfl⟩))
        clear CL
        go_loop [20] (fun i => ∃ k : Nat, k ≤ s.size ∧ i = .int .i64 (k : Int) ∧ Hid (Mo.Wds s k)) (fun i => s.size - (intOf i).toNat)
        case atStart => exact ⟨0, Nat.zero_le _, rfl, Lib.hid (fun i _ h => absurd h (by omega))⟩
        case round =>
          obtain ⟨k, hk, rfl, HW⟩ := hrel
          by_cases hlt : k < s.size
          · have hlti : (k : Int) < (s.size : Int) := by omega
            have HG : Hid (Mo.isWd s[k] = true → Mo.Wds s (k + 1)) := Lib.hid (fun h i hi hik => by
              by_cases e : i = k
              · subst e; exact h
              · exact HW.out i hi (by omega))
            have HB : Hid (Mo.isWd s[k] = false → Mo.ident s.data.toList = false) := Lib.hid (fun h => Mo.ident_wd (l := s.data.toList) k hlt h)
            have CL := Lib.hid (fun v => Mo.let_any s[k] v)
            have HD : Hid (Mo.isWd s[k] = (Mo.isLet s[k] || s[k].toNat == 95 || (decide (48 ≤ s[k].toNat) && decide (s[k].toNat ≤ 57)))) := Lib.hid rfl
            generalize Mo.isWd s[k] = r at HG HB HD
            have hc := UInt8.toNat_lt s[k]
            cases hl : Mo.isLet s[k] with
            | true =>
              rw [hl] at CL HD
              have HR : Hid (r = true) := Lib.hid (by rw [HD.out]; rfl)
              clear hl HD HB HW
              go_wp2_with (first | (go_at_call 99; with_reducible refine (CL.out _).mono ?_; rintro e w1 ⟨rfl, rfl⟩))
              go_round
              case rel => exact ⟨k + 1, by omega, by go_num, Lib.hid (HG.out HR.out)⟩
              case measure => simp [intOf]; omega
            | false =>
              rw [hl] at CL HD
              clear hl HW
              by_cases h48 : 48 ≤ s[k].toNat ∧ s[k].toNat ≤ 57
              · have HR : Hid (r = true) := Lib.hid (by rw [HD.out]; simp [h48])
                have a1 : decide ((s[k].toNat : Int) < 48) = false := decide_eq_false (by omega)
                have a2 : decide ((57 : Int) < (s[k].toNat : Int)) = false := decide_eq_false (by omega)
                clear HD HB h48 hc
                go_wp2_with (first | (go_at_call 99; with_reducible refine (CL.out _).mono ?_; rintro e w1 ⟨rfl, rfl⟩))
                go_round
                case rel => exact ⟨k + 1, by omega, by go_num, Lib.hid (HG.out HR.out)⟩
                case measure => simp [intOf]; omega
              · have h48' : (decide (48 ≤ s[k].toNat) && decide (s[k].toNat ≤ 57)) = false := by
                  cases h : (decide (48 ≤ s[k].toNat) && decide (s[k].toNat ≤ 57)) with
                  | false => rfl
                  | true =>
                    simp only [Bool.and_eq_true, decide_eq_true_eq] at h
                    exact absurd h h48
                have a0 : ((s[k].toNat : Int) < 48) ∨ ((57 : Int) < (s[k].toNat : Int)) := by omega
                by_cases h95 : s[k].toNat = 95
                · have HR : Hid (r = true) := Lib.hid (by rw [HD.out, h95]; rfl)
                  have a1 : decide ((s[k].toNat : Int) < 48) = false := decide_eq_false (by omega)
                  have a2 : decide ((57 : Int) < (s[k].toNat : Int)) = true := decide_eq_true (by omega)
                  have a3 : ((s[k].toNat : Int) != 95) = false := by rw [h95]; rfl
                  clear HD HB h48 h48' h95 a0 hc
                  go_wp2_with (first | (go_at_call 99; with_reducible refine (CL.out _).mono ?_; rintro e w1 ⟨rfl, rfl⟩))
                  go_round
                  case rel => exact ⟨k + 1, by omega, by go_num, Lib.hid (HG.out HR.out)⟩
                  case measure => simp [intOf]; omega
                · have h95' : (s[k].toNat == 95) = false := by simp [h95]
                  have HR : Hid (r = false) := Lib.hid (by rw [HD.out, h48', h95']; rfl)
                  have a3 : ((s[k].toNat : Int) != 95) = true := by
                    simp
                    omega
                  have HI : Hid (Mo.ident s.data.toList = false) := Lib.hid (HB.out HR.out)
                  clear HD HB h48 h48' h95 h95' hc HG
                  rcases a0 with a0 | a0
                  · have a1 : decide ((s[k].toNat : Int) < 48) = true := decide_eq_true a0
                    clear a0
                    go_wp2_with (first | (go_at_call 99; with_reducible refine (CL.out _).mono ?_; rintro e w1 ⟨rfl, rfl⟩))
                    go_ret
                    exact ⟨by rw [HI.out]; rfl, rfl⟩
                  · have a1 : decide ((s[k].toNat : Int) < 48) = false := decide_eq_false (by omega)
                    have a2 : decide ((57 : Int) < (s[k].toNat : Int)) = true := decide_eq_true a0
                    clear a0
                    go_wp2_with (first | (go_at_call 99; with_reducible refine (CL.out _).mono ?_; rintro e w1 ⟨rfl, rfl⟩))
                    go_ret
                    exact ⟨by rw [HI.out]; rfl, rfl⟩
          · have HI : Hid (Mo.ident s.data.toList = true) := Lib.hid (Mo.ident_ok (l := s.data.toList) hpos (by show s.size ≤ 24; omega) HL.out (fun i hi => HW.out i hi (by have : i < s.size := hi; omega)))
            have hnot : ¬ (k : Int) < (s.size : Int) := by omega
            clear HW
            go_wp2
            go_ret
            exact ⟨by rw [HI.out]; rfl, rfl⟩
end Go.Proofs.YtkbncdcphohmiaaGreatDoor
