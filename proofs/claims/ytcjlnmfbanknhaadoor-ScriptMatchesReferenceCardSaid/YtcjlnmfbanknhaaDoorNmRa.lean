/- Layer 9, the reference: among. -/
import Derived.Test.YtcjlnmfbanknhaaDoorNmTu
import Derived.BigQuiet
set_option linter.unusedSimpArgs false
set_option linter.unusedVariables false
namespace Go.Proofs.YtcjlnmfbanknhaaDoor
open Go.RowKit Go.Shelf
set_option maxRecDepth 100000
set_option maxHeartbeats 1000000
/-- Has a text a byte at an index that is one of some bytes? -/
def Nm.am (s : Nm.T) (i : Nat) (b : Nm.T) : Bool := match s[i]? with
  | some c => b.contains c
  | none => false
theorem Nm.take_con (t : ByteArray) (c : UInt8) (i : Nat) (h : i < t.size) : (t.data.toList.take (i + 1)).contains c = ((t.data.toList.take i).contains c || (c == t[i]'h)) := by
  rw [List.take_add_one, Lib.data_getElem? t i h]
  simp
  rfl
theorem Nm.among_any (s : ByteArray) (i : Nat) (b : ByteArray) (w : World) (hs : s.size ≤ 1000000) (hb : b.size ≤ 1000) :
    Calls Tryd.prog 33 #[.string s, .int .i64 (i : Int), .string b] w fun e w' => e = .returned (.bool (Nm.am s.data.toList i b.data.toList)) ∧ Below w.heap.size w w' := by
  by_cases hi : i < s.size
  · have HA : Hid (Nm.am s.data.toList i b.data.toList = b.data.toList.contains (s[i]'hi)) := Lib.hid (by unfold Nm.am; rw [Lib.data_getElem? s i hi])
    obtain ⟨c, hc⟩ : ∃ c : UInt8, s[i]'hi = c := ⟨_, rfl⟩
    rw [hc] at HA
    have hi' : (i : Int) < (s.size : Int) := by omega
    have hi0 : (0 : Int) ≤ (i : Int) := by omega
    have hd : decide ((s.size : Int) ≤ (i : Int)) = false := decide_eq_false (by omega)
    go_enter Tryd.func33, Tryd.ntmps33
    go_wp2
    go_loopw [7] (fun s7 wr => ∃ j : Nat, j ≤ b.size ∧ s7 = .int .i64 (j : Int) ∧ Hid ((b.data.toList.take j).contains c = false) ∧ Hid (Below w.heap.size w wr)) (fun s7 _ => b.size - (intOf s7).toNat)
    case atStart => exact ⟨0, by omega, rfl, Lib.hid rfl, Lib.hid (Below.refl _ _)⟩
    case round =>
      obtain ⟨j, hj, rfl, HE, HW⟩ := hrel
      by_cases hlt : j < b.size
      · have hj' : (j : Int) < (b.size : Int) := by omega
        have hj0 : (0 : Int) ≤ (j : Int) := by omega
        have hT := Nm.take_con b c j hlt
        rw [HE.out, Bool.false_or] at hT
        obtain ⟨x, hx⟩ : ∃ x : UInt8, b[j]'hlt = x := ⟨_, rfl⟩
        rw [hx] at hT
        by_cases hxc : x = c
        · subst hxc
          have HF : Hid (Nm.am s.data.toList i b.data.toList = true) := Lib.hid (by
            rw [HA.out]
            have h1 : x ∈ b.data.toList.take (j + 1) := List.contains_iff_mem.1 (by rw [hT]; simp)
            exact List.contains_iff_mem.2 (List.mem_of_mem_take h1))
          clear hT
          have hq : ((x.toNat : Int) == (x.toNat : Int)) = true := by simp
          go_wp2
          go_quiet (fail)
          go_wp2
          go_ret
          exact ⟨congrArg (fun z => Ending.returned (.bool z)) HF.out.symm, Nm.drewB HW.out _⟩
        · have hne : ((x.toNat : Int) == (c.toNat : Int)) = false := by
            have : x.toNat ≠ c.toNat := fun e => hxc (UInt8.toNat_inj.1 e)
            simp; omega
          have hne2 : ¬ (x.toNat = c.toNat) := fun e => hxc (UInt8.toNat_inj.1 e)
          have HT : Hid ((b.data.toList.take (j + 1)).contains c = false) := Lib.hid (by rw [hT]; simpa using fun e => hxc e.symm)
          clear hT
          go_wp2
          go_quiet (fail)
          go_wp2
          exact ⟨⟨j + 1, by omega, by go_num, HT, Lib.hid (Nm.drewB HW.out _)⟩, by simp [intOf]; omega⟩
      · obtain rfl : j = b.size := by omega
        have HF : Hid (Nm.am s.data.toList i b.data.toList = false) := Lib.hid (by
          rw [HA.out]
          have h1 := HE.out
          rwa [List.take_of_length_le (by rw [← Lib.size_eq]; exact Nat.le_refl _)] at h1)
        go_wp2
        go_ret
        exact ⟨congrArg (fun z => Ending.returned (.bool z)) HF.out.symm, HW.out⟩
  · have HA : Hid (Nm.am s.data.toList i b.data.toList = false) := Lib.hid (by unfold Nm.am; rw [List.getElem?_eq_none (by rw [← Lib.size_eq]; omega)])
    have hd : decide ((s.size : Int) ≤ (i : Int)) = true := decide_eq_true (by omega)
    go_enter Tryd.func33, Tryd.ntmps33
    go_wp2
    go_ret
    exact ⟨congrArg (fun z => Ending.returned (.bool z)) HA.out.symm, Below.refl _ _⟩
end Go.Proofs.YtcjlnmfbanknhaaDoor
