/- Layer 8: whether a rate, or an amount, is valid, as the program tests it. -/
import Derived.Test.YtkbncdcphohmiaaGreatDoorMoA
set_option linter.unusedSimpArgs false
set_option linter.unusedVariables false
namespace Go.Proofs.YtkbncdcphohmiaaGreatDoor
open Go.RowKit
set_option maxRecDepth 100000

def Mo.Rt.val (x : Mo.Rt) : Value := .agg #[.string x.cur, .int .i64 x.day, .int .i64 x.num, .int .i64 x.den]
def Mo.rateOk (x : Mo.Rt) : Bool := Mo.ident x.cur.data.toList && (Mo.dayOk x.day && (Mo.facOk x.num && Mo.facOk x.den))
theorem Mo.rate_any (x : Mo.Rt) (hs : x.cur.size ≤ maxLen) (w : World) : Calls Tryz.prog 66 #[x.val] w fun e w' => e = .returned (.bool (Mo.rateOk x)) ∧ Below w.heap.size w w' := by
  obtain ⟨cur, day, num, den⟩ := x
  unfold Mo.Rt.val Mo.rateOk
  simp only at hs ⊢
  have C1 := Lib.hid (fun v => Mo.cur_any cur hs v)
  have C2 := Lib.hid (fun v => Mo.day_any day v)
  have C3 := Lib.hid (fun v => Mo.fac_any num v)
  have C4 := Lib.hid (fun v => Mo.fac_any den v)
  have HB := Lib.hid ((Below.refl w.heap.size w).alloc (Nat.le_refl _) (.cells #[.string cur, .int .i64 day, .int .i64 num, .int .i64 den] 27))
  generalize Mo.ident cur.data.toList = r1 at *
  generalize Mo.dayOk day = r2 at *
  generalize Mo.facOk num = r3 at *
  generalize Mo.facOk den = r4 at *
  clear hs
  cases r1
  · go_enter Tryz.func66, Tryz.ntmps66
    go_wp2_with (first | (go_at_call 65; with_reducible refine (C1.out _).mono ?_; rintro e w1 ⟨rfl, rfl⟩))
    go_ret
    exact ⟨rfl, HB.out⟩
  cases r2
  · go_enter Tryz.func66, Tryz.ntmps66
    go_wp2_with (first | (go_at_call 65; with_reducible refine (C1.out _).mono ?_; rintro e w1 ⟨rfl, rfl⟩) | (go_at_call 67; with_reducible refine (C2.out _).mono ?_; rintro e w1 ⟨rfl, rfl⟩))
    go_ret
    exact ⟨rfl, HB.out⟩
  cases r3
  · go_enter Tryz.func66, Tryz.ntmps66
    go_wp2_with (first | (go_at_call 65; with_reducible refine (C1.out _).mono ?_; rintro e w1 ⟨rfl, rfl⟩) | (go_at_call 67; with_reducible refine (C2.out _).mono ?_; rintro e w1 ⟨rfl, rfl⟩) | (go_at_call 100; with_reducible refine (C3.out _).mono ?_; rintro e w1 ⟨rfl, rfl⟩))
    go_ret
    exact ⟨rfl, HB.out⟩
  · go_enter Tryz.func66, Tryz.ntmps66
    go_wp2_with fail
    refine (C1.out _).mono ?_
    rintro e w1 ⟨rfl, rfl⟩
    go_wp2_with fail
    refine (C2.out _).mono ?_
    rintro e w1 ⟨rfl, rfl⟩
    go_wp2_with fail
    refine (C3.out _).mono ?_
    rintro e w1 ⟨rfl, rfl⟩
    go_wp2_with fail
    refine (C4.out _).mono ?_
    rintro e w1 ⟨rfl, rfl⟩
    go_wp2_with fail
    go_ret
    exact ⟨by cases r4 <;> rfl, HB.out⟩

theorem Mo.amount_any (c : ByteArray) (u : Int) (hs : c.size ≤ maxLen) (w : World) : Calls Tryz.prog 38 #[.agg #[.string c, .int .i64 u]] w fun e w' => e = .returned (.bool (Mo.proper c.data.toList u)) ∧ Below w.heap.size w w' := by
  unfold Mo.proper
  have C1 := Lib.hid (fun v => Mo.cur_any c hs v)
  have HB := Lib.hid ((Below.refl w.heap.size w).alloc (Nat.le_refl _) (.cells #[.string c, .int .i64 u] 24))
  generalize Mo.ident c.data.toList = r1 at *
  clear hs
  cases r1
  · go_enter Tryz.func38, Tryz.ntmps38
    go_wp2_with (first | (go_at_call 65; with_reducible refine (C1.out _).mono ?_; rintro e w1 ⟨rfl, rfl⟩))
    go_ret
    exact ⟨rfl, HB.out⟩
  by_cases h1 : -1000000000000 ≤ u
  · have d1 : decide (-1000000000000 ≤ u) = true := decide_eq_true h1
    by_cases h2 : u ≤ 1000000000000
    · have d2 : decide (u ≤ 1000000000000) = true := decide_eq_true h2
      go_enter Tryz.func38, Tryz.ntmps38
      go_wp2_with (first | (go_at_call 65; with_reducible refine (C1.out _).mono ?_; rintro e w1 ⟨rfl, rfl⟩))
      go_ret
      exact ⟨by rw [d1, d2]; rfl, HB.out⟩
    · have d2 : decide (u ≤ 1000000000000) = false := decide_eq_false h2
      go_enter Tryz.func38, Tryz.ntmps38
      go_wp2_with (first | (go_at_call 65; with_reducible refine (C1.out _).mono ?_; rintro e w1 ⟨rfl, rfl⟩))
      go_ret
      exact ⟨by rw [d1, d2]; rfl, HB.out⟩
  · have d1 : decide (-1000000000000 ≤ u) = false := decide_eq_false h1
    go_enter Tryz.func38, Tryz.ntmps38
    go_wp2_with (first | (go_at_call 65; with_reducible refine (C1.out _).mono ?_; rintro e w1 ⟨rfl, rfl⟩))
    go_ret
    exact ⟨by rw [d1]; rfl, HB.out⟩
end Go.Proofs.YtkbncdcphohmiaaGreatDoor
