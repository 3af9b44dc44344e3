/- P3.3: the walk of SealChanges, in all cases. -/
import Derived.Test.YtdlmbpoihnifiaaDoorChgW
namespace Go.Proofs.YtdlmbpoihnifiaaDoor
open Go.RowKit
set_option maxRecDepth 100000
set_option linter.unusedSimpArgs false
set_option linter.unusedVariables false

set_option maxHeartbeats 4000000 in
/-- The case in which nothing is asked. -/
theorem chg_out (s : ByteArray) (a b t : Nat) (m x : ByteArray) (W : World) (hp : Pow W.heap.size W) (ha : a ≤ 255) (hb : b ≤ 255) (hn : shortL [s, m, x] = false) :
    Calls Tryd.prog 7 #[.string s, .int .u8 (a : Int), .int .u8 (b : Int), .string m, .int .u8 (t : Int), .string x] W fun e w' => e = .returned (.bool true) ∧ Below W.heap.size W w' := by
  have HP := Lib.hid hp
  clear hp
  have E1 := fun h (hh : a % 3 = h) => Lib.hid (show (a : Int) % 3 = (h : Int) by omega)
  have h2 : a % 3 ≤ 2 := by omega
  have E1 := E1 _ rfl
  have WP := Lib.hid (wrap_pow (a % 3) (by omega))
  have hq : 0 < 2 ^ (a % 3) := Nat.pow_pos (by omega)
  generalize 2 ^ (a % 3) = p at *
  generalize a % 3 = h at *
  have E2 := Lib.hid (show (b : Int) % (p : Int) = ((b % p : Nat) : Int) by rw [Int.natCast_emod])
  generalize b % p = i at *
  have q1 : ((p : Int) == 0) = false := by rw [beq_eq_false_iff_ne]; omega
  have q2 : (p : Int) ≠ 0 := by omega
  have SH := Lib.hid (fun w' => short_lit w' [s, m, x] false hn (by simp))
  clear hn
  go_enter Tryd.func7, Tryd.ntmps7
  go_wp2_with fail
  refine (head_any W HP.out).mono ?_
  rintro e w1 ⟨rfl, hb1⟩
  have E1' := E1.out
  have WP' := WP.out
  have E2' := E2.out
  go_wp2_with fail
  clear E1' WP' E2'
  refine (SH.out w1).mono ?_
  rintro e w2 ⟨rfl, hb2⟩
  have hb2' := Bt hb1 hb2
  go_wp2_with fail
  go_ret
  exact ⟨rfl, hb2'⟩

theorem u8_nat {a : Int} (ha : (Go.Lit.int .u8 a).wf = true) : ∃ k : Nat, a = k ∧ k ≤ 255 := by
  obtain ⟨a0, a1⟩ : IntKind.u8.min ≤ a ∧ a ≤ IntKind.u8.max := by simpa [Go.Lit.wf] using ha
  change 0 ≤ a at a0
  change a ≤ 255 at a1
  exact ⟨a.toNat, by omega, by omega⟩

theorem chg_walk (s : ByteArray) (a b : Int) (m : ByteArray) (t : Int) (x : ByteArray) (W : World) (hp : Pow W.heap.size W) (_ : s.size ≤ maxLen) (ha : (Go.Lit.int .u8 a).wf = true) (hb : (Go.Lit.int .u8 b).wf = true) (hm : m.size ≤ maxLen) (ht : (Go.Lit.int .u8 t).wf = true) (hx : x.size ≤ maxLen) :
    Calls Tryd.prog 7 #[.string s, .int .u8 a, .int .u8 b, .string m, .int .u8 t, .string x] W fun e w' => e = .returned (.bool true) ∧ Below W.heap.size W w' := by
  obtain ⟨a, rfl, ha'⟩ := u8_nat ha
  obtain ⟨b, rfl, hb'⟩ := u8_nat hb
  obtain ⟨t, rfl, ht'⟩ := u8_nat ht
  cases h : shortL [s, m, x] with
  | false => exact chg_out s a b t m x W hp ha' hb' h
  | true => exact chg_try s a b t m x W hp ha' hb' ht' h
end Go.Proofs.YtdlmbpoihnifiaaDoor
