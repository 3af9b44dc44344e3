/- The reference of layer 4: digits of a number, number, Is, value, digit, trim, Order. -/
import Derived.Test.YtmnnaaifebajnaaDoorNaK
import Derived.Test.YtmnnaaifebajnaaDoorNrMath
import Derived.Laws.IdiomStrings
import Derived.Lib.AppendStr
set_option linter.unusedSimpArgs false
set_option linter.unusedVariables false
namespace Go.Proofs.YtmnnaaifebajnaaDoor
open Go.RowKit
set_option maxRecDepth 100000

/- Decimal digits. -/
theorem app_byte (c : UInt8) (l : List UInt8) : ((⟨#[c]⟩ : ByteArray) ++ ⟨l.toArray⟩) = ⟨(c :: l).toArray⟩ := by
  apply ByteArray.ext
  simp [ByteArray.data_append]
def dg10 (u : Nat) : UInt8 := UInt8.ofNat (48 + u % 10)
def pre (u : Nat) : List UInt8 := if u = 0 then [] else Lib.decDigits u
theorem dec_pre (u : Nat) : Lib.decDigits u = pre (u / 10) ++ [dg10 u] := by
  rw [Lib.decDigits]
  by_cases h : u < 10
  · rw [dif_pos h]
    unfold pre
    rw [if_pos (by omega)]
    unfold dg10
    rw [Nat.mod_eq_of_lt h]
    rfl
  · rw [dif_neg h]
    unfold pre
    rw [if_neg (by omega)]
    rfl
theorem dec_length20 (u : Nat) (h : u < 18446744073709551616) : (Lib.decDigits u).length ≤ 20 := (Na.dec_len (by omega)).2 (by omega)
def decB : ByteArray := ⟨#[48, 49, 50, 51, 52, 53, 54, 55, 56, 57]⟩
theorem decB_one (d : Nat) (h : d < 10) : decB.extract d (d + 1) = ⟨#[UInt8.ofNat (48 + d)]⟩ := by
  have : ∀ d : Fin 10, decB.extract d.1 (d.1 + 1) = ⟨#[UInt8.ofNat (48 + d.1)]⟩ := by decide +kernel
  exact this ⟨d, h⟩
theorem slice_dec (r : Nat) (w : World) :
    (Instr.slice 9 (.string ⟨#[48, 49, 50, 51, 52, 53, 54, 55, 56, 57]⟩) (some (.int .u64 ((r : Int) % 10))) (some (.int .u64 ((r : Int) % 10 + 1))) none).run Tryd.prog w = .ok (.string ⟨#[dg10 r]⟩) w := by
  have h := run_slice_string (P := Tryd.prog) (w := w) 9 decB .u64 .u64 ((r : Int) % 10) ((r : Int) % 10 + 1) Tryd.underlying9 (by omega) (by omega) (by show _ ≤ (10 : Int); omega)
  have e := decB_one (r % 10) (by omega)
  rw [show ((r : Int) % 10).toNat = r % 10 by omega, show ((r : Int) % 10 + 1).toNat = r % 10 + 1 by omega, e] at h
  exact h
theorem rdigits_any (n : Nat) (w : World) (hn : n < 18446744073709551616) :
    Calls Tryd.prog 53 #[.int .u64 (n : Int)] w fun e w' => e = .returned (.string ⟨(Lib.decDigits n).toArray⟩) ∧ w = w' := by
  have hlen := dec_length20 n hn
  have hd := dec_pre n
  generalize hD : Lib.decDigits n = D at *
  clear hD
  have hsl := slice_dec n w
  have HD := Lib.hid hd
  clear hd
  go_enter Tryd.func53, Tryd.ntmps53
  go_wp2
  clear hsl
  go_loop [0, 3] (fun m s => ∃ (u : Nat) (t : List UInt8), u ≤ n ∧ m = .int .u64 (u : Int) ∧ s = .string ⟨t.toArray⟩ ∧ D = pre u ++ t) (fun m _ => (intOf m).toNat)
  case atStart => exact ⟨n / 10, [dg10 n], by omega, by go_num, rfl, HD.out⟩
  case round =>
    obtain ⟨u, t, hu, rfl, rfl, ht⟩ := hrel
    have htl : t.length ≤ 20 := by
      rw [ht, List.length_append] at hlen
      omega
    have HT := Lib.hid ht
    clear ht
    by_cases h0 : 0 < u
    · have hsl := slice_dec u w
      go_wp2
      refine ⟨⟨u / 10, dg10 u :: t, by omega, by go_num, ?_, ?_⟩, by simp [intOf]; omega⟩
      · rw [app_byte]
      · rw [HT.out]
        have e : pre u = Lib.decDigits u := by unfold pre; rw [if_neg (by omega)]
        rw [e, dec_pre u]
        simp
    · obtain rfl : u = 0 := by omega
      have HF : Hid (D = t) := by rw [HT.out]; exact rfl
      clear HT
      go_wp2
      go_ret
      exact ⟨by rw [HF.out]; rfl, rfl⟩
theorem rdecimal_any (n : Nat) (w : World) (hn : (n : Int) ≤ 9223372036854775807) :
    Calls Tryd.prog 32 #[.int .i64 (n : Int)] w fun e w' => e = .returned (.string (tx n)) ∧ w = w' := by
  go_enter Tryd.func32, Tryd.ntmps32
  go_wp2_with (first
    | (go_at_call 53; refine (rdigits_any n _ (by omega)).mono ?_; rintro e w1 ⟨rfl, rfl⟩)
    | fail)
  go_ret
  exact ⟨rfl, rfl⟩

/- Is it a number? -/
theorem isD_at (s : ByteArray) (k : Nat) (h : k < s.size) : Na.isD (s.data.toList.getD k 0) = (decide (48 ≤ s[k].toNat) && decide (s[k].toNat ≤ 57)) := by
  have hl : k < s.data.toList.length := by simpa using h
  rw [List.getD_eq_getElem?_getD, List.getElem?_eq_getElem hl]
  rfl
theorem all_iff (l : List UInt8) : l.all Na.isD = true ↔ ∀ j, j < l.length → Na.isD (l.getD j 0) = true := by
  rw [List.all_eq_true]
  constructor
  · intro h j hj
    rw [List.getD_eq_getElem?_getD, List.getElem?_eq_getElem hj]
    exact h _ (List.getElem_mem _)
  · intro h c hc
    obtain ⟨j, hj, rfl⟩ := List.getElem_of_mem hc
    have := h j hj
    rw [List.getD_eq_getElem?_getD, List.getElem?_eq_getElem hj] at this
    exact this
set_option maxHeartbeats 1000000 in
theorem number_any (s : ByteArray) (w : World) (hs : s.size ≤ 1000) :
    Calls Tryd.prog 30 #[.string s] w fun e w' => e = .returned (.bool (Na.isN s.data.toList)) ∧ w = w' := by
  have hlen : s.data.toList.length = s.size := by simp
  have HA := Lib.hid (all_iff s.data.toList)
  have HD := Lib.hid (isD_at s)
  have HN := Lib.hid (show Na.isN s.data.toList = (s.data.toList.all Na.isD && (decide (s.size = 1) || (decide (1 < s.size) && decide (s.data.toList.head? ≠ some 48)))) by unfold Na.isN; rw [hlen])
  have HH : Hid (∀ h : 0 < s.size, s.data.toList.head? = some s[0]) := Lib.hid (fun h => by
    rw [List.head?_eq_getElem?, List.getElem?_eq_getElem (by omega)]
    rfl)
  rw [hlen] at HA
  obtain ⟨b, hb⟩ : ∃ b, b = Na.isN s.data.toList := ⟨_, rfl⟩
  rw [← hb]
  rw [← hb] at HN
  clear hb hlen
  generalize s.data.toList = l at *
  go_enter Tryd.func30, Tryd.ntmps30
  go_wp2
  go_loop [3] (fun i => ∃ k : Nat, i = .int .i64 (k : Int) ∧ k ≤ s.size ∧ Hid (∀ j, j < k → Na.isD (l.getD j 0) = true)) (fun i => s.size - (intOf i).toNat)
  case atStart => exact ⟨0, by first | rfl | (congr 1), by omega, Lib.hid (fun j hj => absurd hj (by omega))⟩
  case round =>
    obtain ⟨k, rfl, hk, HK⟩ := hrel
    by_cases hlt : k < s.size
    · have hd := HD.out k hlt
      by_cases h1 : s[k].toNat < 48
      · have HF : Hid (l.all Na.isD = false) := Lib.hid (by
          rw [← Bool.not_eq_true]
          intro hh
          have := HA.out.1 hh k hlt
          rw [hd] at this
          simp at this
          omega)
        clear hd
        go_wp2
        go_ret
        exact ⟨by rw [show b = false by rw [HN.out, HF.out]; rfl]; rfl, rfl⟩
      · by_cases h2 : 57 < s[k].toNat
        · have HF : Hid (l.all Na.isD = false) := Lib.hid (by
            rw [← Bool.not_eq_true]
            intro hh
            have := HA.out.1 hh k hlt
            rw [hd] at this
            simp at this
            omega)
          clear hd
          go_wp2
          go_ret
          exact ⟨by rw [show b = false by rw [HN.out, HF.out]; rfl]; rfl, rfl⟩
        · have HK2 : Hid (∀ j, j < k + 1 → Na.isD (l.getD j 0) = true) := Lib.hid (fun j hj => by
            by_cases hjk : j < k
            · exact HK.out j hjk
            · obtain rfl : j = k := by omega
              rw [hd]
              simp
              omega)
          clear hd HK
          go_wp2
          exact ⟨⟨k + 1, by go_num, by omega, HK2⟩, by simp [intOf]; omega⟩
    · obtain rfl : k = s.size := by omega
      have HF := Lib.hid (HA.out.2 HK.out)
      clear HK
      by_cases e0 : s.size = 0
      · have hb : b = false := by rw [HN.out, HF.out]; simp [e0]
        subst hb
        go_wp2
        go_ret
        exact ⟨rfl, rfl⟩
      · by_cases e1 : s.size = 1
        · have hb : b = true := by rw [HN.out, HF.out]; simp [e1]
          subst hb
          go_wp2
          go_ret
          exact ⟨rfl, rfl⟩
        · have e2 : 1 < s.size := by omega
          have e2' : (1 : Int) < s.size := by omega
          have e3 : ¬ (s.size : Int) = 1 := by omega
          have e3b : ((s.size : Int) == 1) = false := by simpa using e3
          have hh := HH.out (by omega)
          have HZ := Lib.hid hh
          have h0s : 0 < s.size := by omega
          clear hh
          by_cases h4 : s[0].toNat = 48
          · have HZ2 : Hid (l.head? = some 48) := Lib.hid (by rw [HZ.out]; congr 1; exact UInt8.toNat_inj.1 h4)
            clear HZ
            have hb : b = false := by rw [HN.out, HF.out, HZ2.out]; simp [e1]
            subst hb
            go_wp2
            go_ret
            exact ⟨rfl, rfl⟩
          · have HZ2 : Hid (l.head? ≠ some 48) := Lib.hid (by
              rw [HZ.out]
              intro e
              simp only [Option.some.injEq] at e
              rw [e] at h4
              exact h4 rfl)
            clear HZ
            have hb : b = true := by rw [HN.out, HF.out]; simp [e1, e2, HZ2.out]
            have h4b : (((s[0].toNat : Nat) : Int) != 48) = true := by simp; omega
            subst hb
            go_wp2
            go_ret
            exact ⟨rfl, rfl⟩
end Go.Proofs.YtmnnaaifebajnaaDoor
