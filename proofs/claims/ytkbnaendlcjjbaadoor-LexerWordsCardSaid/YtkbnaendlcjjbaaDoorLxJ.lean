/- Layer 7: the reference's letter, digit, word. -/
import Derived.Test.YtkbnaendlcjjbaaDoorLxH
set_option linter.unusedSimpArgs false
set_option linter.unusedVariables false
namespace Go.Proofs.YtkbnaendlcjjbaaDoor
open Go.RowKit
set_option maxRecDepth 100000

theorem Lx.let_any (c : UInt8) (w : World) : Calls Tryd.prog 28 #[.int .u8 (c.toNat : Int)] w fun e w' => e = .returned (.bool (Lx.isLet c)) ∧ w = w' := by
  have hc := UInt8.toNat_lt c
  obtain ⟨r, hr⟩ : ∃ r, r = Lx.isLet c := ⟨_, rfl⟩
  rw [← hr]
  unfold Lx.isLet at hr
  generalize c.toNat = a at *
  by_cases h1 : a < 65
  · have f1 : decide ((97 : Int) ≤ (a : Int)) = false := decide_eq_false (by omega)
    have f2 : decide ((65 : Int) ≤ (a : Int)) = false := decide_eq_false (by omega)
    have HR : Hid (r = false) := Lib.hid (by rw [hr]; simp; omega)
    clear hr h1
    go_enter Tryd.func28, Tryd.ntmps28
    go_wp2
    go_ret
    exact ⟨by rw [HR.out]; rfl, rfl⟩
  by_cases h2 : a ≤ 90
  · have f1 : decide ((97 : Int) ≤ (a : Int)) = false := decide_eq_false (by omega)
    have f2 : decide ((65 : Int) ≤ (a : Int)) = true := decide_eq_true (by omega)
    have f3 : decide ((a : Int) ≤ 90) = true := decide_eq_true (by omega)
    have HR : Hid (r = true) := Lib.hid (by rw [hr]; simp; omega)
    clear hr h1 h2
    go_enter Tryd.func28, Tryd.ntmps28
    go_wp2
    go_ret
    exact ⟨by rw [HR.out]; rfl, rfl⟩
  by_cases h3 : a < 97
  · have f1 : decide ((97 : Int) ≤ (a : Int)) = false := decide_eq_false (by omega)
    have f2 : decide ((65 : Int) ≤ (a : Int)) = true := decide_eq_true (by omega)
    have f3 : decide ((a : Int) ≤ 90) = false := decide_eq_false (by omega)
    have HR : Hid (r = false) := Lib.hid (by rw [hr]; simp; omega)
    clear hr h1 h2 h3
    go_enter Tryd.func28, Tryd.ntmps28
    go_wp2
    go_ret
    exact ⟨by rw [HR.out]; rfl, rfl⟩
  by_cases h4 : a ≤ 122
  · have f1 : decide ((97 : Int) ≤ (a : Int)) = true := decide_eq_true (by omega)
    have f2 : decide ((a : Int) ≤ 122) = true := decide_eq_true (by omega)
    have HR : Hid (r = true) := Lib.hid (by rw [hr]; simp; omega)
    clear hr h1 h2 h3 h4
    go_enter Tryd.func28, Tryd.ntmps28
    go_wp2
    go_ret
    exact ⟨by rw [HR.out]; rfl, rfl⟩
  · have f1 : decide ((97 : Int) ≤ (a : Int)) = true := decide_eq_true (by omega)
    have f2 : decide ((a : Int) ≤ 122) = false := decide_eq_false (by omega)
    have f3 : decide ((65 : Int) ≤ (a : Int)) = true := decide_eq_true (by omega)
    have f4 : decide ((a : Int) ≤ 90) = false := decide_eq_false (by omega)
    have HR : Hid (r = false) := Lib.hid (by rw [hr]; simp; omega)
    clear hr h1 h2 h3 h4
    go_enter Tryd.func28, Tryd.ntmps28
    go_wp2
    go_ret
    exact ⟨by rw [HR.out]; rfl, rfl⟩
theorem Lx.dig_any (c : UInt8) (w : World) : Calls Tryd.prog 37 #[.int .u8 (c.toNat : Int)] w fun e w' => e = .returned (.bool (Lx.isDig c)) ∧ w = w' := by
  have hc := UInt8.toNat_lt c
  obtain ⟨r, hr⟩ : ∃ r, r = Lx.isDig c := ⟨_, rfl⟩
  rw [← hr]
  unfold Lx.isDig at hr
  generalize c.toNat = a at *
  by_cases h1 : a < 48
  · have f1 : decide ((48 : Int) ≤ (a : Int)) = false := decide_eq_false (by omega)
    have HR : Hid (r = false) := Lib.hid (by rw [hr]; simp; omega)
    clear hr h1
    go_enter Tryd.func37, Tryd.ntmps37
    go_wp2
    go_ret
    exact ⟨by rw [HR.out]; rfl, rfl⟩
  by_cases h2 : a ≤ 57
  · have f1 : decide ((48 : Int) ≤ (a : Int)) = true := decide_eq_true (by omega)
    have f2 : decide ((a : Int) ≤ 57) = true := decide_eq_true (by omega)
    have HR : Hid (r = true) := Lib.hid (by rw [hr]; simp; omega)
    clear hr h1 h2
    go_enter Tryd.func37, Tryd.ntmps37
    go_wp2
    go_ret
    exact ⟨by rw [HR.out]; rfl, rfl⟩
  · have f1 : decide ((48 : Int) ≤ (a : Int)) = true := decide_eq_true (by omega)
    have f2 : decide ((a : Int) ≤ 57) = false := decide_eq_false (by omega)
    have HR : Hid (r = false) := Lib.hid (by rw [hr]; simp; omega)
    clear hr h1 h2
    go_enter Tryd.func37, Tryd.ntmps37
    go_wp2
    go_ret
    exact ⟨by rw [HR.out]; rfl, rfl⟩
theorem Lx.word_any (c : UInt8) (w : World) : Calls Tryd.prog 27 #[.int .u8 (c.toNat : Int)] w fun e w' => e = .returned (.bool (Lx.isWord c)) ∧ w = w' := by
  have C1 := Lib.hid (fun v => Lx.let_any c v)
  have C2 := Lib.hid (fun v => Lx.dig_any c v)
  have hr : Lx.isWord c = (Lx.isLet c || Lx.isDig c || c.toNat == 95) := rfl
  generalize Lx.isWord c = r at *
  cases h1 : Lx.isLet c
  · rw [h1] at C1 hr
    cases h2 : Lx.isDig c
    · rw [h2] at C2 hr
      have HR : Hid (((c.toNat : Int) == 95) = r) := Lib.hid (by
        rw [hr]
        rw [Bool.eq_iff_iff]
        simp
        omega)
      clear hr h1 h2
      go_enter Tryd.func27, Tryd.ntmps27
      go_wp2_with fail
      refine (C1.out _).mono ?_
      rintro e w1 ⟨rfl, rfl⟩
      go_wp2_with fail
      refine (C2.out _).mono ?_
      rintro e w1 ⟨rfl, rfl⟩
      go_wp2_with fail
      go_ret
      exact ⟨by rw [← HR.out]; rfl, rfl⟩
    · rw [h2] at C2 hr
      have HR : Hid (r = true) := Lib.hid (by rw [hr]; rfl)
      clear hr h1 h2
      go_enter Tryd.func27, Tryd.ntmps27
      go_wp2_with fail
      refine (C1.out _).mono ?_
      rintro e w1 ⟨rfl, rfl⟩
      go_wp2_with fail
      refine (C2.out _).mono ?_
      rintro e w1 ⟨rfl, rfl⟩
      go_wp2_with fail
      go_ret
      exact ⟨by rw [HR.out]; rfl, rfl⟩
  · rw [h1] at C1 hr
    have HR : Hid (r = true) := Lib.hid (by rw [hr]; rfl)
    clear hr h1
    go_enter Tryd.func27, Tryd.ntmps27
    go_wp2_with fail
    refine (C1.out _).mono ?_
    rintro e w1 ⟨rfl, rfl⟩
    go_wp2_with fail
    go_ret
    exact ⟨by rw [HR.out]; rfl, rfl⟩
end Go.Proofs.YtkbnaendlcjjbaaDoor
