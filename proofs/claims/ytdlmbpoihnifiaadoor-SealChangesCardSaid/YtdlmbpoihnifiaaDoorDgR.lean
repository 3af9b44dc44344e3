/- The reference's Sum and Chain return Dg.sum and Dg.chain. -/
import Derived.Test.YtdlmbpoihnifiaaDoorProg
import Derived.Test.YtdlmbpoihnifiaaDoorDgMath
import Derived.Test.YtdlmbpoihnifiaaDoorDgA
import Derived.Test.YtdlmbpoihnifiaaDoorStrs
import Derived.WalkKit
import Derived.Below
import Derived.LoopTactic
import Derived.Outline
import Derived.Lib.Hide
import Derived.Laws.BitsAllLaws
namespace Go.Proofs.YtdlmbpoihnifiaaDoor
open Go.RowKit
set_option maxRecDepth 100000

def hexB : ByteArray := ⟨#[48, 49, 50, 51, 52, 53, 54, 55, 56, 57, 97, 98, 99, 100, 101, 102]⟩
theorem hexB_one (d : Nat) (h : d < 16) : hexB.extract d (d + 1) = ⟨#[Dg.dig d]⟩ := by
  have : ∀ d : Fin 16, hexB.extract d.1 (d.1 + 1) = ⟨#[Dg.dig d.1]⟩ := by decide +kernel
  exact this ⟨d, h⟩

theorem app_byte (c : UInt8) (l : List UInt8) : ((⟨#[c]⟩ : ByteArray) ++ ⟨l.toArray⟩) = ⟨(c :: l).toArray⟩ := by
  apply ByteArray.ext
  simp [ByteArray.data_append]

theorem slice_digit (r : Nat) (w : World) :
    (Instr.slice 9 (.string ⟨#[48, 49, 50, 51, 52, 53, 54, 55, 56, 57, 97, 98, 99, 100, 101, 102]⟩) (some (.int .u64 ((r : Int) % 16))) (some (.int .u64 ((r : Int) % 16 + 1))) none).run Tryd.prog w = .ok (.string ⟨#[Dg.dig (r % 16)]⟩) w := by
  have h := run_slice_string (P := Tryd.prog) (w := w) 9 hexB .u64 .u64 ((r : Int) % 16) ((r : Int) % 16 + 1) Tryd.underlying9 (by omega) (by omega) (by show _ ≤ (16 : Int); omega)
  have e := hexB_one (r % 16) (by omega)
  rw [show ((r : Int) % 16).toNat = r % 16 by omega, show ((r : Int) % 16 + 1).toNat = r % 16 + 1 by omega, e] at h
  exact h

set_option maxRecDepth 100000 in
theorem rsum_any (s : ByteArray) (w : World) (hs : s.size ≤ 140737488355328) :
    Calls Tryd.prog 25 #[.string s] w fun e w' => e = .returned (.string ⟨(Dg.sum s.data.toList).toArray⟩) ∧ w = w' := by
  have e1 : bits BinOp.xor IntKind.u64 2611923443488327891 (s.size : Int) = ((2611923443488327891 ^^^ s.size : Nat) : Int) := bits_xor_u64_nat 2611923443488327891 s.size (by decide) (by omega)
  have h64 : 2611923443488327891 ^^^ s.size < 18446744073709551616 := Nat.xor_lt_two_pow (n := 64) (by decide) (by omega)
  have hst : Dg.state s.data.toList = Dg.absorb (2611923443488327891 ^^^ s.size) s.data.toList (s.size / 8 + 1) := by
    have : s.data.toList.length = s.size := by simp
    unfold Dg.state
    rw [this]
  have E1 := Lib.hid e1
  have HS := Lib.hid hst
  clear hst e1
  go_enter Tryd.func25, Tryd.ntmps25
  go_wp2
  rw [E1.out]
  generalize 2611923443488327891 ^^^ s.size = st at *
  go_loop [3, 4] (fun m i => ∃ k q : Nat, 8 * k ≤ s.size + 8 ∧ i = .int .i64 ((8 * k : Nat) : Int) ∧ m = .int .u64 (q : Int) ∧ q = Dg.absorb st s.data.toList k) (fun _ i => s.size + 8 - (intOf i).toNat)
  case atStart => exact ⟨0, st, by omega, rfl, rfl, rfl⟩
  case round =>
    obtain ⟨k, q, hk, rfl, rfl, hq⟩ := hrel
    have hq64 : q < 18446744073709551616 := by rw [hq]; exact Dg.absorb_lt _ h64 _ _
    have HQ := Lib.hid hq
    clear hq
    generalize hf : 8 * k = f at *
    have HF := Lib.hid hf
    clear hf
    by_cases hlt : f ≤ s.size
    · go_wp2
      go_loop [5, 6] (fun b i => ∃ j n : Nat, j ≤ 8 ∧ i = .int .i64 ((f + j : Nat) : Int) ∧ b = .int .u64 (n : Int) ∧ n = Dg.num (s.data.toList.drop f) j) (fun _ i => f + 8 - (intOf i).toNat)
      case atStart => exact ⟨0, 0, by omega, rfl, rfl, rfl⟩
      case round =>
        obtain ⟨j, n, hj, rfl, rfl, hn⟩ := hrel
        have hnl := Dg.num_lt (s.data.toList.drop f) j
        by_cases hj8 : j < 8
        · have hp : 256 ^ j ≤ 256 ^ 7 := Nat.pow_le_pow_right (by omega) (by omega)
          have hn7 : n < 72057594037927936 := by rw [hn]; exact Nat.lt_of_lt_of_le hnl hp
          have hnext : Dg.num (s.data.toList.drop f) (j + 1) = n * 256 + ((s.data.toList.drop f).getD j 0).toNat := by rw [hn]; rfl
          clear hn hnl hp
          by_cases hin : f + j < s.size
          · have hb : (s.data.toList.drop f).getD j 0 = s[f + j] := by
              rw [List.getD_eq_getElem?_getD, List.getElem?_drop, List.getElem?_eq_getElem (by simpa using hin)]
              rfl
            rw [hb] at hnext
            have hlt8 := s[f + j].toNat_lt
            have HN := Lib.hid hnext
            clear hnext hb
            go_wp2
            exact ⟨⟨j + 1, n * 256 + s[f + j].toNat, by omega, by go_num, by go_num, HN.out.symm⟩, by simp [intOf]; omega⟩
          · have hb : (s.data.toList.drop f).getD j 0 = 0 := by
              rw [List.getD_eq_getElem?_getD, List.getElem?_drop, List.getElem?_eq_none (by simp; omega)]
              rfl
            have hnext' : n * 256 = Dg.num (s.data.toList.drop f) (j + 1) := by rw [hnext, hb]; simp
            have HN := Lib.hid hnext'
            clear hnext hnext' hb
            go_wp2
            exact ⟨⟨j + 1, n * 256, by omega, by go_num, by go_num, HN.out⟩, by simp [intOf]; omega⟩
        · obtain rfl : j = 8 := by omega
          have HN := Lib.hid hn
          have hn64 : n < 18446744073709551616 := by rw [hn]; exact hnl
          clear hn hnl
          go_wp2_with (first
            | (go_at_call 50; rw [bits_xor_u64_nat q n hq64 hn64]; refine (rmix_any _ _).mono ?_; rintro e w3 ⟨rfl, rfl⟩)
            | fail)
          refine ⟨⟨k + 1, _, by have := HF.out; omega, ?_, rfl, ?_⟩, by simp [intOf]; omega⟩
          · rw [show 8 * (k + 1) = f + 8 from by have := HF.out; omega]
            go_num
          · show _ = Dg.mix (Dg.absorb st s.data.toList k ^^^ Dg.num (s.data.toList.drop (8 * k)) 8)
            rw [← HQ.out, HF.out, ← HN.out]
    · have hk1 : k = s.size / 8 + 1 := by have := HF.out; omega
      have hfin : q = Dg.state s.data.toList := by rw [HQ.out, HS.out, hk1]
      have HQ' := Lib.hid hfin
      clear hfin hk1 HQ
      go_wp2
      go_loop [3, 7, 8] (fun m t i => ∃ k r : Nat, k ≤ 16 ∧ r ≤ q ∧ i = .int .i64 k ∧ m = .int .u64 (r : Int) ∧ t = .string ⟨(Dg.low q k).toArray⟩ ∧ r = q / 16 ^ k) (fun _ _ i => 16 - (intOf i).toNat)
      case atStart => exact ⟨0, q, by omega, Nat.le_refl _, rfl, rfl, rfl, by simp⟩
      case round =>
        obtain ⟨k, r, hk, hrq, rfl, rfl, rfl, hr⟩ := hrel
        have HR := Lib.hid hr
        clear hr
        by_cases hlt : k < 16
        · have hsl := slice_digit r w
          have hlen : (Dg.low q k).length ≤ 16 := by rw [Dg.low_length]; omega
          go_wp2
          refine ⟨⟨k + 1, r / 16, by omega, by omega, by go_num, by go_num, ?_, ?_⟩, by simp [intOf]; omega⟩
          · rw [app_byte, HR.out]
            rfl
          · rw [HR.out, Nat.pow_succ, Nat.div_div_eq_div_mul]
        · obtain rfl : k = 16 := by omega
          go_wp2
          go_ret
          refine ⟨?_, rfl⟩
          unfold Dg.sum
          rw [← HQ'.out]
          rfl

end Go.Proofs.YtdlmbpoihnifiaaDoor
