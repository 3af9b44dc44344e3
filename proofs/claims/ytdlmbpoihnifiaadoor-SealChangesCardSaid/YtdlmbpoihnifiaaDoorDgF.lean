/- Is of the program and of the reference return Dg.isDigest. -/
import Derived.Test.YtdlmbpoihnifiaaDoorProg
import Derived.Test.YtdlmbpoihnifiaaDoorDgMath
import Derived.Test.YtdlmbpoihnifiaaDoorStrs
import Derived.Test.YtdlmbpoihnifiaaDoorShelf
import Derived.WalkKit
import Derived.Below
import Derived.LoopTactic
import Derived.Outline
import Derived.Lib.Hide
import Derived.BigQuiet
import Derived.Deep.QuietTactic
namespace Go.Proofs.YtdlmbpoihnifiaaDoor
open Go.RowKit
set_option maxRecDepth 100000

theorem idx_digit (c : UInt8) : (Lib.indexByte [48, 49, 50, 51, 52, 53, 54, 55, 56, 57, 97, 98, 99, 100, 101, 102] c < 0) = (Dg.isDig c = false) := by
  have : ∀ n : Fin 256, (Lib.indexByte [48, 49, 50, 51, 52, 53, 54, 55, 56, 57, 97, 98, 99, 100, 101, 102] (UInt8.ofNat n.1) < 0) ↔ (Dg.isDig (UInt8.ofNat n.1) = false) := by decide +kernel
  have h := this ⟨c.toNat, c.toNat_lt⟩
  simp only [UInt8.ofNat_toNat] at h
  exact propext h

/-- The byte c, as a walk has it, looked for among the digits. -/
theorem idx_at (c : UInt8) (w : World) :
    Calls Tryd.prog 45 #[.string ⟨#[48, 49, 50, 51, 52, 53, 54, 55, 56, 57, 97, 98, 99, 100, 101, 102]⟩, .int .u8 (c.toNat : Int)] w fun e w' => ∃ r : Int, e = .returned (.int .i64 r) ∧ (r < 0 ↔ Dg.isDig c = false) ∧ w = w' := by
  refine (Tryd.strings_IndexByte _ _ w).mono ?_
  rintro e w' ⟨rfl, rfl⟩
  refine ⟨_, rfl, ?_, rfl⟩
  have e1 : ((c.toNat : Int)).toNat.toUInt8 = c := by simp
  rw [e1]
  exact iff_of_eq (idx_digit c)

theorem take_byte (s : ByteArray) (k : Nat) (h : k < s.size) : s.data.toList.take (k + 1) = s.data.toList.take k ++ [s[k]] := by
  rw [List.take_succ_eq_append_getElem (by simpa using h)]; rfl

theorem is_any (s : ByteArray) (w : World) :
    Calls Tryd.prog 20 #[.string s] w fun e w' => e = .returned (.bool (Dg.isDigest s.data.toList)) ∧ w = w' := by
  by_cases h16 : s.size = 16
  · have hl : s.data.toList.length = 16 := by simpa using h16
    have HL := Lib.hid hl
    clear hl
    go_enter Tryd.func20, Tryd.ntmps20
    go_wp2
    go_loop [7] (fun i => ∃ k : Nat, k ≤ 16 ∧ i = .int .i64 k ∧ (s.data.toList.take k).all Dg.isDig = true) (fun i => 16 - (intOf i).toNat)
    case atStart => exact ⟨0, by omega, rfl, rfl⟩
    case round =>
      obtain ⟨k, hk, rfl, hall⟩ := hrel
      have HA := Lib.hid hall
      clear hall
      by_cases hlt : k < 16
      · have ht := Lib.hid (take_byte s k (by omega))
        go_wp2_with fail
        refine (idx_at s[k] w).mono ?_
        rintro e w1 ⟨r, rfl, hr, rfl⟩
        by_cases hd : r < 0
        · have hbad := Lib.hid (hr.1 hd)
          clear hr
          go_wp2
          go_ret
          refine ⟨?_, rfl⟩
          have : Dg.isDigest s.data.toList = false := by
            have hm : s[k] ∈ s.data.toList := by
              have : s[k] = s.data.toList[k]'(by simpa using (show k < s.size by omega)) := rfl
              rw [this]
              exact List.getElem_mem _
            unfold Dg.isDigest
            have : s.data.toList.all Dg.isDig = false := List.all_eq_false.2 ⟨_, hm, by rw [hbad.out]; decide⟩
            rw [this, Bool.and_false]
          rw [this]
          rfl
        · have hgood : Dg.isDig s[k] = true := by
            cases h : Dg.isDig s[k] with
            | true => rfl
            | false => exact absurd (hr.2 h) hd
          have HG := Lib.hid hgood
          clear hr hgood
          go_wp2
          refine ⟨⟨k + 1, by omega, by go_num, ?_⟩, by simp [intOf]; omega⟩
          rw [ht.out, List.all_append, HA.out]
          simpa using HG.out
      · obtain rfl : k = 16 := by omega
        go_wp2
        go_ret
        refine ⟨?_, rfl⟩
        have : Dg.isDigest s.data.toList = true := by
          have h := HA.out
          rw [List.take_of_length_le (by rw [HL.out]; omega)] at h
          unfold Dg.isDigest
          rw [h, HL.out]
          rfl
        rw [this]
        rfl
  · have : Dg.isDigest s.data.toList = false := by
      unfold Dg.isDigest
      have : (s.data.toList.length == 16) = false := by simpa using h16
      rw [this, Bool.false_and]
    have HF := Lib.hid this
    clear this
    have hne : (s.size : Int) ≠ 16 := by omega
    go_enter Tryd.func20, Tryd.ntmps20
    go_wp2
    go_ret
    exact ⟨by rw [HF.out]; rfl, rfl⟩
end Go.Proofs.YtdlmbpoihnifiaaDoor
