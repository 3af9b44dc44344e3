/- Layer 7: what the laws use of the reference: has, gap, Gaps, Width, Same, Alike; written, all. -/
import Derived.Test.YtkbnaendlcjjbaaDoorLxG
set_option linter.unusedSimpArgs false
set_option linter.unusedVariables false
namespace Go.Proofs.YtkbnaendlcjjbaaDoor
open Go.RowKit
set_option maxRecDepth 100000

theorem Lx.hasR_any (s : ByteArray) (c : UInt8) (w : World) (hs : s.size ≤ 1000) (r : Bool) (hrr : s.data.toList.contains c = r) : Calls Tryd.prog 36 #[.string s, .int .u8 (c.toNat : Int)] w fun e w' => e = .returned (.bool r) ∧ w = w' := by
  have HRR := Lib.hid hrr
  clear hrr
  have hle : s.data.toList.length = s.size := by simp
  have HLE := Lib.hid hle
  clear hle
  go_enter Tryd.func36, Tryd.ntmps36
  go_wp2
  go_loop [5] (fun i => ∃ k : Nat, k ≤ s.size ∧ i = .int .i64 k ∧ Hid (∀ x ∈ s.data.toList.take k, x ≠ c)) (fun i => s.size - (intOf i).toNat)
  case atStart => exact ⟨0, by omega, rfl, Lib.hid (by simp)⟩
  case round =>
    obtain ⟨k, hk, rfl, hq⟩ := hrel
    by_cases hlt : k < s.size
    · have hlt' : (k : Int) < (s.size : Int) := by omega
      obtain ⟨x, hx⟩ : ∃ x : UInt8, s[k]'hlt = x := ⟨_, rfl⟩
      have hxl : s.data.toList[k]? = some x := by rw [← hx]; exact Lib.data_getElem? s k hlt
      have HX := Lib.hid hxl
      clear hxl
      by_cases he : x = c
      · have hr : Hid (r = true) := Lib.hid (by
          rw [← HRR.out]
          rw [← he]
          exact List.contains_iff_mem.2 (List.mem_of_getElem? HX.out))
        subst he
        go_wp2
        go_ret
        exact ⟨by rw [hr.out]; rfl, rfl⟩
      · have hne : ¬ (x.toNat : Int) = (c.toNat : Int) := fun e => he (UInt8.toNat_inj.1 (by omega))
        have hne2 : ((x.toNat : Int) == (c.toNat : Int)) = false := by simp; omega
        have hne3 : ¬ x.toNat = c.toNat := fun e => hne (by omega)
        have hq' : Hid (∀ x ∈ s.data.toList.take (k + 1), x ≠ c) := Lib.hid (by
          intro y hy
          rw [List.take_add_one, HX.out] at hy
          rcases List.mem_append.1 hy with hy | hy
          · exact hq.out y hy
          · simp at hy
            rw [hy]
            exact he)
        go_wp2
        exact ⟨⟨k + 1, by omega, by go_num, hq'⟩, by simp [intOf]; omega⟩
    · obtain rfl : k = s.size := by omega
      have hr : Hid (r = false) := Lib.hid (by
        rw [← HRR.out]
        have := hq.out
        rw [← HLE.out, List.take_length] at this
        cases hcc : s.data.toList.contains c with
        | false => rfl
        | true => exact absurd rfl (this c (List.contains_iff_mem.1 hcc)))
      go_wp2
      go_ret
      exact ⟨by rw [hr.out]; rfl, rfl⟩
theorem Lx.bl_any (c : UInt8) (w : World) : Calls Tryd.prog 36 #[.string ⟨#[32, 9, 10]⟩, .int .u8 (c.toNat : Int)] w fun e w' => e = .returned (.bool (Lx.isBl c)) ∧ w = w' := by
  have e : ([32, 9, 10] : List UInt8).contains c = Lx.isBl c := by
    have : ∀ n : Fin 256, ([32, 9, 10] : List UInt8).contains (UInt8.ofNat n.val) = (n.val == 32 || n.val == 9 || n.val == 10) := by decide +kernel
    have h := this ⟨c.toNat, UInt8.toNat_lt c⟩
    rwa [UInt8.ofNat_toNat] at h
  exact Lx.hasR_any ⟨#[32, 9, 10]⟩ c w (by decide) _ e

set_option maxHeartbeats 1000000 in
theorem Lx.gapR_any (t : ByteArray) (k : Nat) (w : World) (hk : k ≤ t.size) (hm : t.size < 2 ^ 40) (r : Nat) (hr : r = k + Lx.gapN false (t.data.toList.drop k)) :
    Calls Tryd.prog 25 #[.string t, .int .i64 (k : Int)] w fun e w' => e = .returned (.int .i64 (r : Int)) ∧ w = w' := by
  have hle : t.data.toList.length = t.size := by simp
  have HLE := Lib.hid hle
  have HR := Lib.hid hr
  clear hle hr
  go_enter Tryd.func25, Tryd.ntmps25
  go_wp2
  go_loop [1] (fun i => ∃ j : Nat, j ≤ t.size ∧ i = .int .i64 j ∧ Hid (r = j + Lx.gapN false (t.data.toList.drop j))) (fun i => t.size - (intOf i).toNat)
  case atStart => exact ⟨k, hk, rfl, HR⟩
  case round =>
    clear HR
    obtain ⟨j, hj, rfl, hq⟩ := hrel
    by_cases hlt : j < t.size
    · have hlt' : (j : Int) < (t.size : Int) := by omega
      obtain ⟨x, hx⟩ : ∃ x : UInt8, t[j]'hlt = x := ⟨_, rfl⟩
      have hdr := Lx.drop_at t j hlt
      rw [hx] at hdr
      have CB := Lib.hid (fun v => Lx.bl_any x v)
      cases hb : Lx.isBl x
      · rw [hb] at CB
        by_cases hh : x.toNat = 35
        · have hhash : Lx.hd Lx.isHash (t.data.toList.drop j) = true := by rw [hdr]; simp [Lx.hd, Lx.isHash, hh]
          have hq2 : Hid (r = j + Lx.gapN true (t.data.toList.drop j)) := Lib.hid (by rw [hq.out, Lx.gap_hash hhash, Lx.gap_com])
          have hnl : Hid (x.toNat ≠ 10) := Lib.hid (by omega)
          have hhb : ((x.toNat : Int) == 35) = true := by simp; omega
          clear hhash hb hdr hq hh
          go_wp2_with fail
          refine (CB.out _).mono ?_
          rintro e w1 ⟨rfl, rfl⟩
          clear CB
          go_wp2_with fail
          go_loop [1] (fun i => ∃ i' : Nat, i' ≤ t.size ∧ j ≤ i' ∧ i = .int .i64 i' ∧ Hid (r = i' + Lx.gapN true (t.data.toList.drop i'))) (fun i => t.size - (intOf i).toNat)
          case atStart => exact ⟨j, hj, Nat.le_refl _, rfl, hq2⟩
          case round =>
            clear hq2
            obtain ⟨i, hi, hji, rfl, hq⟩ := hrel
            by_cases hil : i < t.size
            · have hil' : (i : Int) < (t.size : Int) := by omega
              obtain ⟨y, hy⟩ : ∃ y : UInt8, t[i]'hil = y := ⟨_, rfl⟩
              have hdr := Lx.drop_at t i hil
              rw [hy] at hdr
              by_cases hnl2 : y.toNat = 10
              · have hyb : ((y.toNat : Int) != 10) = false := by simp; omega
                have hij : i ≠ j := fun e => by
                  subst e
                  have : y = x := hy.symm.trans hx
                  subst this
                  exact hnl.out hnl2
                have hq3 : Hid (r = i + Lx.gapN false (t.data.toList.drop i)) := Lib.hid (by
                  rw [hq.out, hdr]
                  simp [Lx.gapN, Lx.isBl, hnl2])
                clear hdr hnl hq hnl2
                go_wp2_with fail
                exact ⟨⟨i, hi, rfl, hq3⟩, by simp [intOf]; omega⟩
              · have hyl : ¬ (y.toNat : Int) = 10 := by omega
                have hyb : ((y.toNat : Int) != 10) = true := by simp; omega
                have hq3 : Hid (r = (i + 1) + Lx.gapN true (t.data.toList.drop (i + 1))) := Lib.hid (by
                  rw [hq.out, hdr]
                  simp only [Lx.gapN]
                  rw [if_neg (by simp; exact hnl2)]
                  omega)
                clear hdr hq
                go_wp2_with fail
                exact ⟨⟨i + 1, by omega, by omega, by go_num, hq3⟩, by simp [intOf]; omega⟩
            · obtain rfl : i = t.size := by omega
              have hq3 : Hid (r = t.size + Lx.gapN false (t.data.toList.drop t.size)) := Lib.hid (by
                rw [hq.out, List.drop_eq_nil_of_le (by rw [HLE.out]; exact Nat.le_refl _)]
                rfl)
              clear hq hnl
              go_wp2_with fail
              exact ⟨⟨t.size, Nat.le_refl _, rfl, hq3⟩, by simp [intOf]; omega⟩
        · have hh' : ¬ (x.toNat : Int) = 35 := by omega
          have hhb : ((x.toNat : Int) == 35) = false := by simp; omega
          have HE : Hid (j = r) := Lib.hid (by
            rw [hq.out, hdr]
            simp [Lx.gapN, hb, hh])
          clear hb hdr hq
          go_wp2_with fail
          refine (CB.out _).mono ?_
          rintro e w1 ⟨rfl, rfl⟩
          go_wp2_with fail
          go_ret
          exact ⟨by have hee := HE.out; subst hee; rfl, rfl⟩
      · rw [hb] at CB
        have hq2 : Hid (r = (j + 1) + Lx.gapN false (t.data.toList.drop (j + 1))) := Lib.hid (by
          rw [hq.out, hdr]
          simp only [Lx.gapN]
          rw [if_pos hb]
          omega)
        clear hb hdr hq
        go_wp2_with fail
        refine (CB.out _).mono ?_
        rintro e w1 ⟨rfl, rfl⟩
        go_wp2_with fail
        exact ⟨⟨j + 1, by omega, by go_num, hq2⟩, by simp [intOf]; omega⟩
    · obtain rfl : j = t.size := by omega
      have HE : Hid (t.size = r) := Lib.hid (by
        rw [hq.out, List.drop_eq_nil_of_le (by rw [HLE.out]; exact Nat.le_refl _)]
        rfl)
      clear hq
      go_wp2_with fail
      go_ret
      exact ⟨by rw [← HE.out]; rfl, rfl⟩
theorem Lx.gapsR_any (t : ByteArray) (w : World) (hm : t.size < 2 ^ 40) :
    Calls Tryd.prog 17 #[.string t] w fun e w' => e = .returned (.bool (decide (Lx.gapN false t.data.toList = t.size))) ∧ w = w' := by
  have C := Lib.hid (fun v => Lx.gapR_any t 0 v (by omega) hm (Lx.gapN false t.data.toList) (by rw [List.drop_zero, Nat.zero_add]))
  have hd : ((Lx.gapN false t.data.toList : Int) == (t.size : Int)) = decide (Lx.gapN false t.data.toList = t.size) := by
    rw [Bool.eq_iff_iff]
    simp
    omega
  generalize Lx.gapN false t.data.toList = g at *
  generalize decide (g = t.size) = bb at *
  go_enter Tryd.func17, Tryd.ntmps17
  go_wp2_with fail
  refine (C.out _).mono ?_
  rintro e w1 ⟨rfl, rfl⟩
  go_wp2_with fail
  go_ret
  exact ⟨rfl, rfl⟩
end Go.Proofs.YtkbnaendlcjjbaaDoor
