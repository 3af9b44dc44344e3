/- Is, Of and Int of the program. -/
import Derived.Test.YtmnnaaifebajnaaGreatDoorNaI
import Derived.Test.YtmnnaaifebajnaaGreatDoorNaJ
set_option linter.unusedSimpArgs false
set_option linter.unusedVariables false
namespace Go.Proofs.YtmnnaaifebajnaaGreatDoor
open Go.RowKit
set_option maxRecDepth 100000

theorem bytes_ne {x y : ByteArray} (h : x ≠ y) : (x.toList == y.toList) = false := by
  rw [beq_eq_false_iff_ne]
  intro e
  rw [ByteArray.toList_eq, ByteArray.toList_eq] at e
  exact h (ByteArray.ext (Array.toList_inj.1 e))

/-- A text is a natural number of at most 300 digits. -/
def isB (s : ByteArray) : Bool := Na.isN s.data.toList && decide (s.size ≤ 300)

def noD (r : Nat) : Bool := decide (r < 48) || decide (57 < r)

theorem decode_low (s : ByteArray) (i : Nat) (h : (s.get! i).toNat < 128) : Utf8.decode s i = ((s.get! i).toNat, 1) := by
  unfold Utf8.decode
  simp [h]

theorem decode_high (s : ByteArray) (i : Nat) (h : ¬ (s.get! i).toNat < 128) : 128 ≤ (Utf8.decode s i).1 := by
  unfold Utf8.decode
  simp only [Nat.add_zero]
  rw [if_neg h]
  split
  · split <;> simp [Utf8.runeError] <;> omega
  · split
    · split <;> rename_i h2 <;> simp [Utf8.runeError] <;> simp at h2 <;> omega
    · split
      · split <;> rename_i h2 <;> simp [Utf8.runeError] <;> simp at h2 <;> omega
      · simp [Utf8.runeError]

theorem idx_from (s : ByteArray) : ∀ f pos, s.size ≤ pos + f → (Lib.idxFuncFrom noD true s f pos = -1 ↔ ∀ i, pos ≤ i → i < s.size → Na.isD (s.get! i) = true)
  | 0, pos, h => by
    simp only [Lib.idxFuncFrom, true_iff]
    intro i h1 h2
    omega
  | f + 1, pos, h => by
    unfold Lib.idxFuncFrom
    by_cases hp : pos < s.size
    · rw [if_pos hp]
      by_cases hd : Na.isD (s.get! pos) = true
      · have h1 := (Na.isD_iff _).1 hd
        have h2 := decode_low s pos (by omega)
        rw [h2]
        have h3 : ¬ (noD (s.get! pos).toNat = true) := by simp [noD]; omega
        rw [if_neg h3, idx_from s f (pos + 1) (by omega)]
        constructor
        · intro hh i h4 h5
          rcases Nat.eq_or_lt_of_le h4 with rfl | h6
          · exact hd
          · exact hh i (by omega) h5
        · intro hh i h4 h5
          exact hh i (by omega) h5
      · have h3 : noD (Utf8.decode s pos).1 = true := by
          by_cases hl : (s.get! pos).toNat < 128
          · rw [decode_low s pos hl]
            have := mt (Na.isD_iff _).2 hd
            simp [noD]
            omega
          · have := decode_high s pos hl
            simp [noD]
            omega
        rw [if_pos h3]
        constructor
        · intro e; omega
        · intro hh
          exact absurd (hh pos (Nat.le_refl _) hp) hd
    · rw [if_neg hp]
      simp only [true_iff]
      intro i h1 h2
      omega

theorem get_bang (s : ByteArray) (i : Nat) (h : i < s.size) : s.get! i = s.data.toList[i]'(by simpa using h) := by
  have h2 : i < s.data.size := h
  simp only [ByteArray.get!, Array.getElem_toList]
  exact getElem!_pos s.data i h2

theorem idx_all (s : ByteArray) : decide (0 ≤ Lib.idxFunc noD true s) = !(s.data.toList.all Na.isD) := by
  have h1 := idx_from s s.size 0 (by omega)
  have h2 : (∀ i, 0 ≤ i → i < s.size → Na.isD (s.get! i) = true) ↔ s.data.toList.all Na.isD = true := by
    rw [List.all_eq_true]
    constructor
    · intro hh c hc
      obtain ⟨i, hi, rfl⟩ := List.getElem_of_mem hc
      have hi' : i < s.size := by simpa using hi
      rw [← get_bang s i hi']
      exact hh i (by omega) hi'
    · intro hh i _ hi
      rw [get_bang s i hi]
      exact hh _ (List.getElem_mem _)
  rw [h2] at h1
  have h3 := Lib.idxFunc_range noD true s
  unfold Lib.idxFunc at *
  cases hb : s.data.toList.all Na.isD
  · rw [hb] at h1
    have : ¬ Lib.idxFuncFrom noD true s s.size 0 = -1 := fun e => by simpa using h1.1 e
    simp
    omega
  · rw [hb] at h1
    have := h1.2 rfl
    rw [this]
    decide

theorem noDigit_any (x : Nat) (w : World) :
    Calls Tryz.prog 108 #[.int .i32 (x : Int)] w fun e w' => e = .returned (.bool (noD x)) ∧ w = w' := by
  by_cases h1 : x < 48
  · have h2 : (x : Int) < 48 := by omega
    go_enter Tryz.func108, Tryz.ntmps108
    go_wp2
    go_ret
    exact ⟨by simp [noD, h1], rfl⟩
  · have h2 : ¬ (x : Int) < 48 := by omega
    by_cases h3 : 57 < x
    · have h4 : (57 : Int) < (x : Int) := by omega
      go_enter Tryz.func108, Tryz.ntmps108
      go_wp2
      go_ret
      exact ⟨by simp [noD, h1, h3], rfl⟩
    · have h4 : ¬ (57 : Int) < (x : Int) := by omega
      go_enter Tryz.func108, Tryz.ntmps108
      go_wp2
      go_ret
      exact ⟨by simp [noD, h1, h3], rfl⟩

theorem contains_any (s : ByteArray) (w : World) :
    Calls Tryz.prog 107 #[.string s, .func (.func 108) #[] #[]] w fun e w' => e = .returned (.bool (!(s.data.toList.all Na.isD))) ∧ Below w.heap.size w w' := by
  have := Tryz.strings_ContainsFunc 108 #[] (enters_of Tryz.func108 (by kernel_rfl) rfl) noD s w (fun W x _ => (noDigit_any x W).mono fun e w' h => ⟨h.1, 0, h.2.symm⟩)
  rwa [idx_all] at this

set_option maxHeartbeats 1000000 in
theorem is_any (s : ByteArray) (w : World) (hz : s.size ≤ maxLen) :
    Calls Tryz.prog 83 #[.string s] w fun e w' => e = .returned (.bool (isB s)) ∧ Below w.heap.size w w' := by
  unfold maxLen at hz
  have CI := Lib.hid (contains_any s w)
  have hlen : s.data.toList.length = s.size := by simp
  by_cases h0 : s.size = 0
  · have hs : s = ⟨#[]⟩ := ByteArray.ext (Array.eq_empty_of_size_eq_zero h0)
    have hr : isB s = false := by subst hs; decide
    rw [hr]
    subst hs
    go_enter Tryz.func83, Tryz.ntmps83
    go_wp2_with fail
    go_ret
    exact ⟨rfl, Below.refl _ _⟩
  · have hne : s ≠ ⟨#[]⟩ := fun e => h0 (by rw [e]; rfl)
    have hb : s.toList ≠ [] := by
      rw [ByteArray.toList_eq]
      intro e
      rw [e] at hlen
      simp at hlen
      omega
    have hem : s.toList.isEmpty = false := by rw [List.isEmpty_eq_false_iff]; exact hb
    clear hne
    by_cases h3 : 300 < s.size
    · have hr : isB s = false := by unfold isB; simp; omega
      have h3i : (300 : Int) < (s.size : Int) := by omega
      rw [hr]
      go_enter Tryz.func83, Tryz.ntmps83
      go_wp2_with fail
      go_ret
      exact ⟨rfl, Below.refl _ _⟩
    · have h3i : ¬ (300 : Int) < (s.size : Int) := by omega
      have hpos : 0 < s.size := by omega
      have e0 : s.data.toList.head? = some s[0] := by
        rw [List.head?_eq_getElem?, List.getElem?_eq_getElem (by rw [hlen]; exact hpos)]
        rfl
      have HB : Hid (isB s = (s.data.toList.all Na.isD && (decide (s.size = 1) || (decide (1 < s.size) && decide (s[0].toNat ≠ 48))))) := by
        refine Lib.hid ?_
        unfold isB Na.isN
        rw [e0, hlen, decide_eq_true (show s.size ≤ 300 by omega), Bool.and_true]
        congr 3
        have : (some s[0] ≠ some (48 : UInt8)) ↔ s[0].toNat ≠ 48 := by
          rw [ne_eq, ne_eq, Option.some.injEq, ← UInt8.toNat_inj]
          rfl
        exact decide_eq_decide.2 this
      clear hlen e0
      by_cases h48 : s[0].toNat = 48
      · have h48i : ((s[0].toNat : Int) == 48) = true := by rw [h48]; rfl
        by_cases h1 : 1 < s.size
        · have hr : isB s = false := by rw [HB.out, decide_eq_true h1, h48]; simp; omega
          have h1i : (1 : Int) < (s.size : Int) := by omega
          rw [hr]
          clear HB hr
          go_enter Tryz.func83, Tryz.ntmps83
          go_wp2_with fail
          go_ret
          exact ⟨rfl, Below.refl _ _⟩
        · have hr : isB s = s.data.toList.all Na.isD := by rw [HB.out, decide_eq_true (show s.size = 1 by omega)]; simp
          have h1i : ¬ (1 : Int) < (s.size : Int) := by omega
          rw [hr]
          clear HB hr
          go_enter Tryz.func83, Tryz.ntmps83
          go_wp2_with fail
          refine CI.out.mono ?_
          rintro e w1 ⟨rfl, hb1⟩
          go_wp2_with fail
          go_ret
          exact ⟨by simp, hb1⟩
      · have h48i : ((s[0].toNat : Int) == 48) = false := by simp; omega
        have hr : isB s = s.data.toList.all Na.isD := by
          rw [HB.out, decide_eq_true (show s[0].toNat ≠ 48 from h48)]
          rcases Nat.lt_or_ge 1 s.size with h | h
          · rw [decide_eq_true h]; simp
          · rw [decide_eq_true (show s.size = 1 by omega)]; simp
        rw [hr]
        clear HB hr
        go_enter Tryz.func83, Tryz.ntmps83
        go_wp2_with fail
        refine CI.out.mono ?_
        rintro e w1 ⟨rfl, hb1⟩
        go_wp2_with fail
        go_ret
        exact ⟨by simp, hb1⟩
end Go.Proofs.YtmnnaaifebajnaaGreatDoor
