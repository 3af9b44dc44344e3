/- The reference's decimal digits, Joined and List. -/
import Derived.Test.YtdlmbpoihnifiaaDoorProg
import Derived.Test.YtdlmbpoihnifiaaDoorDgMath
import Derived.Test.YtdlmbpoihnifiaaDoorDgR
import Derived.Test.YtdlmbpoihnifiaaDoorStrs
import Derived.Test.YtdlmbpoihnifiaaDoorBuild
import Derived.WalkKit
import Derived.Below
import Derived.LoopTactic
import Derived.Outline
import Derived.Lib.Hide
import Derived.Lib.ItoaNum
import Derived.Lib.AppendStr
import Derived.Laws.IdiomStrings
import Derived.OwnWalk
namespace Go.Proofs.YtdlmbpoihnifiaaDoor
open Go.RowKit
set_option maxRecDepth 100000

def dg10 (u : Nat) : UInt8 := UInt8.ofNat (48 + u % 10)
def pre (u : Nat) : List UInt8 := if u = 0 then [] else Lib.decDigits u
theorem dec_pre (u : Nat) : Lib.decDigits u = pre (u / 10) ++ [dg10 u] := by
  rw [Lib.decDigits]
  by_cases h : u < 10
  · rw [dif_pos h]
    unfold pre
    rw [if_pos (by omega)]
    unfold dg10
    rw [Nat.mod_eq_of_lt h]
    rfl
  · rw [dif_neg h]
    unfold pre
    rw [if_neg (by omega)]
    rfl
theorem nd_le : ∀ (k u : Nat), u < 10 ^ (k + 1) → Lib.nDigits u ≤ k + 1
  | 0, u, h => by rw [Lib.nDigits_small (by omega)]; omega
  | k + 1, u, h => by
    by_cases hu : u < 10
    · rw [Lib.nDigits_small hu]; omega
    · rw [Lib.nDigits_big hu]
      have := nd_le k (u / 10) (by rw [Nat.pow_succ] at h; omega)
      omega
theorem dec_length (u : Nat) (h : u < 18446744073709551616) : (Lib.decDigits u).length ≤ 20 := by
  rw [Lib.decDigits_length]
  exact nd_le 19 u (by omega)

def decB : ByteArray := ⟨#[48, 49, 50, 51, 52, 53, 54, 55, 56, 57]⟩
theorem decB_one (d : Nat) (h : d < 10) : decB.extract d (d + 1) = ⟨#[UInt8.ofNat (48 + d)]⟩ := by
  have : ∀ d : Fin 10, decB.extract d.1 (d.1 + 1) = ⟨#[UInt8.ofNat (48 + d.1)]⟩ := by decide +kernel
  exact this ⟨d, h⟩

theorem slice_dec (r : Nat) (w : World) :
    (Instr.slice 9 (.string ⟨#[48, 49, 50, 51, 52, 53, 54, 55, 56, 57]⟩) (some (.int .u64 ((r : Int) % 10))) (some (.int .u64 ((r : Int) % 10 + 1))) none).run Tryd.prog w = .ok (.string ⟨#[dg10 r]⟩) w := by
  have h := run_slice_string (P := Tryd.prog) (w := w) 9 decB .u64 .u64 ((r : Int) % 10) ((r : Int) % 10 + 1) Tryd.underlying9 (by omega) (by omega) (by show _ ≤ (10 : Int); omega)
  have e := decB_one (r % 10) (by omega)
  rw [show ((r : Int) % 10).toNat = r % 10 by omega, show ((r : Int) % 10 + 1).toNat = r % 10 + 1 by omega, e] at h
  exact h

theorem digits_any (n : Nat) (w : World) (hn : n < 18446744073709551616) :
    Calls Tryd.prog 77 #[.int .u64 (n : Int)] w fun e w' => e = .returned (.string ⟨(Lib.decDigits n).toArray⟩) ∧ w = w' := by
  have hlen := dec_length n hn
  have hd := dec_pre n
  generalize hD : Lib.decDigits n = D at *
  clear hD
  have hsl := slice_dec n w
  have HD := Lib.hid hd
  clear hd
  go_enter Tryd.func77, Tryd.ntmps77
  go_wp2
  clear hsl
  go_loop [0, 3] (fun m s => ∃ (u : Nat) (t : List UInt8), u ≤ n ∧ m = .int .u64 (u : Int) ∧ s = .string ⟨t.toArray⟩ ∧ D = pre u ++ t) (fun m _ => (intOf m).toNat)
  case atStart => exact ⟨n / 10, [dg10 n], by omega, by go_num, rfl, HD.out⟩
  case round =>
    obtain ⟨u, t, hu, rfl, rfl, ht⟩ := hrel
    have htl : t.length ≤ 20 := by
      rw [ht, List.length_append] at hlen
      omega
    have HT := Lib.hid ht
    clear ht
    by_cases h0 : 0 < u
    · have hsl := slice_dec u w
      go_wp2
      refine ⟨⟨u / 10, dg10 u :: t, by omega, by go_num, ?_, ?_⟩, by simp [intOf]; omega⟩
      · rw [app_byte]
      · rw [HT.out]
        have e : pre u = Lib.decDigits u := by unfold pre; rw [if_neg (by omega)]
        rw [e, dec_pre u]
        simp
    · obtain rfl : u = 0 := by omega
      have HF : Hid (D = t) := by rw [HT.out]; exact rfl
      clear HT
      go_wp2
      go_ret
      exact ⟨by rw [HF.out]; rfl, rfl⟩

theorem decimal_any (n : Nat) (w : World) (hn : (n : Int) ≤ 9223372036854775807) :
    Calls Tryd.prog 47 #[.int .i64 (n : Int)] w fun e w' => e = .returned (.string ⟨(Lib.decDigits n).toArray⟩) ∧ w = w' := by
  go_enter Tryd.func47, Tryd.ntmps47
  go_wp2_with (first
    | (go_at_call 77; refine (digits_any n _ (by omega)).mono ?_; rintro e w1 ⟨rfl, rfl⟩)
    | fail)
  go_ret
  exact ⟨rfl, rfl⟩
end Go.Proofs.YtdlmbpoihnifiaaDoor
