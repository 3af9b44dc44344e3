import Derived.Test.YtkbncdcphohmiaaGreatDoorNaIM
import Derived.Test.YtkbncdcphohmiaaGreatDoorNrMath
import Derived.Laws.IdiomStrings
import Derived.Lib.AppendStr
/- The reference of layer 4: digits of a number, number, Is, value, digit, trim, Order. -/
set_option linter.unusedSimpArgs false
set_option linter.unusedVariables false
namespace Go.Proofs.YtkbncdcphohmiaaGreatDoor
open Go.RowKit
set_option maxRecDepth 100000

/- Decimal digits. -/
theorem app_byte (c : UInt8) (l : List UInt8) : ((⟨#[c]⟩ : ByteArray) ++ ⟨l.toArray⟩) = ⟨(c :: l).toArray⟩ := by
  apply ByteArray.ext
  simp [ByteArray.data_append]
def dg10 (u : Nat) : UInt8 := UInt8.ofNat (48 + u % 10)
def pre (u : Nat) : List UInt8 := if u = 0 then [] else Lib.decDigits u
theorem dec_pre (u : Nat) : Lib.decDigits u = pre (u / 10) ++ [dg10 u] := by
  rw [Lib.decDigits]
  by_cases h : u < 10
  · rw [dif_pos h]
    unfold pre
    rw [if_pos (by omega)]
    unfold dg10
    rw [Nat.mod_eq_of_lt h]
    rfl
  · rw [dif_neg h]
    unfold pre
    rw [if_neg (by omega)]
    rfl
theorem dec_length20 (u : Nat) (h : u < 18446744073709551616) : (Lib.decDigits u).length ≤ 20 := (Na.dec_len (by omega)).2 (by omega)
def decB : ByteArray := ⟨#[48, 49, 50, 51, 52, 53, 54, 55, 56, 57]⟩
theorem decB_one (d : Nat) (h : d < 10) : decB.extract d (d + 1) = ⟨#[UInt8.ofNat (48 + d)]⟩ := by
  have : ∀ d : Fin 10, decB.extract d.1 (d.1 + 1) = ⟨#[UInt8.ofNat (48 + d.1)]⟩ := by decide +kernel
  exact this ⟨d, h⟩
theorem slice_dec (r : Nat) (w : World) :
    (Instr.slice 9 (.string ⟨#[48, 49, 50, 51, 52, 53, 54, 55, 56, 57]⟩) (some (.int .u64 ((r : Int) % 10))) (some (.int .u64 ((r : Int) % 10 + 1))) none).run Tryz.prog w = .ok (.string ⟨#[dg10 r]⟩) w := by
  have h := run_slice_string (P := Tryz.prog) (w := w) 9 decB .u64 .u64 ((r : Int) % 10) ((r : Int) % 10 + 1) Tryz.underlying9 (by omega) (by omega) (by show _ ≤ (10 : Int); omega)
  have e := decB_one (r % 10) (by omega)
  rw [show ((r : Int) % 10).toNat = r % 10 by omega, show ((r : Int) % 10 + 1).toNat = r % 10 + 1 by omega, e] at h
  exact h
theorem rdigits_any (n : Nat) (w : World) (hn : n < 18446744073709551616) :
    Calls Tryz.prog 162 #[.int .u64 (n : Int)] w fun e w' => e = .returned (.string ⟨(Lib.decDigits n).toArray⟩) ∧ w = w' := by
  have hlen := dec_length20 n hn
  have hd := dec_pre n
  generalize hD : Lib.decDigits n = D at *
  clear hD
  have hsl := slice_dec n w
  have HD := Lib.hid hd
  clear hd
  go_enter Tryz.func162, Tryz.ntmps162
  go_wp2
  clear hsl
  go_loop [0, 3] (fun m s => ∃ (u : Nat) (t : List UInt8), u ≤ n ∧ m = .int .u64 (u : Int) ∧ s = .string ⟨t.toArray⟩ ∧ D = pre u ++ t) (fun m _ => (intOf m).toNat)
  case atStart => exact ⟨n / 10, [dg10 n], by omega, by go_num, rfl, HD.out⟩
  case round =>
    obtain ⟨u, t, hu, rfl, rfl, ht⟩ := hrel
    have htl : t.length ≤ 20 := by
      rw [ht, List.length_append] at hlen
      omega
    have HT := Lib.hid ht
    clear ht
    by_cases h0 : 0 < u
    · have hsl := slice_dec u w
      go_wp2
      refine ⟨⟨u / 10, dg10 u :: t, by omega, by go_num, ?_, ?_⟩, by simp [intOf]; omega⟩
      · rw [app_byte]
      · rw [HT.out]
        have e : pre u = Lib.decDigits u := by unfold pre; rw [if_neg (by omega)]
        rw [e, dec_pre u]
        simp
    · obtain rfl : u = 0 := by omega
      have HF : Hid (D = t) := by rw [HT.out]; exact rfl
      clear HT
      go_wp2
      go_ret
      exact ⟨by rw [HF.out]; rfl, rfl⟩
theorem rdecimal_any (n : Nat) (w : World) (hn : (n : Int) ≤ 9223372036854775807) :
    Calls Tryz.prog 135 #[.int .i64 (n : Int)] w fun e w' => e = .returned (.string (tx n)) ∧ w = w' := by
  go_enter Tryz.func135, Tryz.ntmps135
  go_wp2_with (first
    | (go_at_call 162; refine (rdigits_any n _ (by omega)).mono ?_; rintro e w1 ⟨rfl, rfl⟩)
    | fail)
  go_ret
  exact ⟨rfl, rfl⟩

/- Is it a number? -/
theorem isD_at (s : ByteArray) (k : Nat) (h : k < s.size) : Na.isD (s.data.toList.getD k 0) = (decide (48 ≤ s[k].toNat) && decide (s[k].toNat ≤ 57)) := by
  have hl : k < s.data.toList.length := by simpa using h
  rw [List.getD_eq_getElem?_getD, List.getElem?_eq_getElem hl]
  rfl
theorem all_iff (l : List UInt8) : l.all Na.isD = true ↔ ∀ j, j < l.length → Na.isD (l.getD j 0) = true := by
  rw [List.all_eq_true]
  constructor
  · intro h j hj
    rw [List.getD_eq_getElem?_getD, List.getElem?_eq_getElem hj]
    exact h _ (List.getElem_mem _)
  · intro h c hc
    obtain ⟨j, hj, rfl⟩ := List.getElem_of_mem hc
    have := h j hj
    rw [List.getD_eq_getElem?_getD, List.getElem?_eq_getElem hj] at this
    exact this
set_option maxHeartbeats 1000000 in
theorem number_any (s : ByteArray) (w : World) (hs : s.size ≤ 1000) :
    Calls Tryz.prog 119 #[.string s] w fun e w' => e = .returned (.bool (Na.isN s.data.toList)) ∧ w = w' := by
  have hlen : s.data.toList.length = s.size := by simp
  have HA := Lib.hid (all_iff s.data.toList)
  have HD := Lib.hid (isD_at s)
  have HN := Lib.hid (show Na.isN s.data.toList = (s.data.toList.all Na.isD && (decide (s.size = 1) || (decide (1 < s.size) && decide (s.data.toList.head? ≠ some 48)))) by unfold Na.isN; rw [hlen])
  have HH : Hid (∀ h : 0 < s.size, s.data.toList.head? = some s[0]) := Lib.hid (fun h => by
    rw [List.head?_eq_getElem?, List.getElem?_eq_getElem (by omega)]
    rfl)
  rw [hlen] at HA
  obtain ⟨b, hb⟩ : ∃ b, b = Na.isN s.data.toList := ⟨_, rfl⟩
  rw [← hb]
  rw [← hb] at HN
  clear hb hlen
  generalize s.data.toList = l at *
  go_enter Tryz.func119, Tryz.ntmps119
  go_wp2
  go_loop [3] (fun i => ∃ k : Nat, i = .int .i64 (k : Int) ∧ k ≤ s.size ∧ Hid (∀ j, j < k → Na.isD (l.getD j 0) = true)) (fun i => s.size - (intOf i).toNat)
  case atStart => exact ⟨0, by first | rfl | (congr 1), by omega, Lib.hid (fun j hj => absurd hj (by omega))⟩
  case round =>
    obtain ⟨k, rfl, hk, HK⟩ := hrel
    by_cases hlt : k < s.size
    · have hd := HD.out k hlt
      by_cases h1 : s[k].toNat < 48
      · have HF : Hid (l.all Na.isD = false) := Lib.hid (by
          rw [← Bool.not_eq_true]
          intro hh
          have := HA.out.1 hh k hlt
          rw [hd] at this
          simp at this
          omega)
        clear hd
        go_wp2
        go_ret
        exact ⟨by rw [show b = false by rw [HN.out, HF.out]; rfl]; rfl, rfl⟩
      · by_cases h2 : 57 < s[k].toNat
        · have HF : Hid (l.all Na.isD = false) := Lib.hid (by
            rw [← Bool.not_eq_true]
            intro hh
            have := HA.out.1 hh k hlt
            rw [hd] at this
            simp at this
            omega)
          clear hd
          go_wp2
          go_ret
          exact ⟨by rw [show b = false by rw [HN.out, HF.out]; rfl]; rfl, rfl⟩
        · have HK2 : Hid (∀ j, j < k + 1 → Na.isD (l.getD j 0) = true) := Lib.hid (fun j hj => by
            by_cases hjk : j < k
            · exact HK.out j hjk
            · obtain rfl : j = k := by omega
              rw [hd]
              simp
              omega)
          clear hd HK
          go_wp2
          exact ⟨⟨k + 1, by go_num, by omega, HK2⟩, by simp [intOf]; omega⟩
    · obtain rfl : k = s.size := by omega
      have HF := Lib.hid (HA.out.2 HK.out)
      clear HK
      by_cases e0 : s.size = 0
      · have hb : b = false := by rw [HN.out, HF.out]; simp [e0]
        subst hb
        go_wp2
        go_ret
        exact ⟨rfl, rfl⟩
      · by_cases e1 : s.size = 1
        · have hb : b = true := by rw [HN.out, HF.out]; simp [e1]
          subst hb
          go_wp2
          go_ret
          exact ⟨rfl, rfl⟩
        · have e2 : 1 < s.size := by omega
          have e2' : (1 : Int) < s.size := by omega
          have e3 : ¬ (s.size : Int) = 1 := by omega
          have e3b : ((s.size : Int) == 1) = false := by simpa using e3
          have hh := HH.out (by omega)
          have HZ := Lib.hid hh
          have h0s : 0 < s.size := by omega
          clear hh
          by_cases h4 : s[0].toNat = 48
          · have HZ2 : Hid (l.head? = some 48) := Lib.hid (by rw [HZ.out]; congr 1; exact UInt8.toNat_inj.1 h4)
            clear HZ
            have hb : b = false := by rw [HN.out, HF.out, HZ2.out]; simp [e1]
            subst hb
            go_wp2
            go_ret
            exact ⟨rfl, rfl⟩
          · have HZ2 : Hid (l.head? ≠ some 48) := Lib.hid (by
              rw [HZ.out]
              intro e
              simp only [Option.some.injEq] at e
              rw [e] at h4
              exact h4 rfl)
            clear HZ
            have hb : b = true := by rw [HN.out, HF.out]; simp [e1, e2, HZ2.out]
            have h4b : (((s[0].toNat : Nat) : Int) != 48) = true := by simp; omega
            subst hb
            go_wp2
            go_ret
            exact ⟨rfl, rfl⟩
end Go.Proofs.YtkbncdcphohmiaaGreatDoor

/- The reference of layer 4: Is, value, digit, trim, Order. -/
set_option linter.unusedSimpArgs false
set_option linter.unusedVariables false
namespace Go.Proofs.YtkbncdcphohmiaaGreatDoor
open Go.RowKit
set_option maxRecDepth 100000

theorem ris_any (s : ByteArray) (w : World) (hs : s.size ≤ 1000) :
    Calls Tryz.prog 83 #[.string s] w fun e w' => e = .returned (.bool (isB s)) ∧ w = w' := by
  have NU := Lib.hid (number_any s w hs)
  unfold isB
  generalize Na.isN s.data.toList = b at *
  by_cases h : s.size ≤ 300
  · have h1 : (s.size : Int) ≤ 300 := by omega
    rw [decide_eq_true h, Bool.and_true]
    go_enter Tryz.func83, Tryz.ntmps83
    go_wp2_with fail
    refine NU.out.mono ?_
    rintro e w1 ⟨rfl, rfl⟩
    go_wp2_with fail
    go_ret
    exact ⟨rfl, rfl⟩
  · have h1 : ¬ (s.size : Int) ≤ 300 := by omega
    rw [decide_eq_false h, Bool.and_false]
    go_enter Tryz.func83, Tryz.ntmps83
    go_wp2_with fail
    go_ret
    exact ⟨rfl, rfl⟩

/- A text of digits: what stands at a place. -/
theorem dig_at (s : ByteArray) (k : Nat) (h : k < s.size) (hall : s.data.toList.all Na.isD = true) : ∃ d : Nat, d < 10 ∧ s[k].toNat = 48 + d ∧ d = Na.dv (s.data.toList.getD k 0) := by
  have hl : k < s.data.toList.length := by simpa using h
  have h1 : Na.isD (s.data.toList[k]) = true := List.all_eq_true.1 hall _ (List.getElem_mem _)
  have e : s[k] = s.data.toList[k] := rfl
  have h2 := (Na.isD_iff _).1 h1
  refine ⟨Na.dv (s.data.toList[k]), Na.dv_lt h1, ?_, ?_⟩
  · rw [e]
    unfold Na.dv
    omega
  · rw [List.getD_eq_getElem?_getD, List.getElem?_eq_getElem hl]
    rfl
theorem val_take1 (l : List UInt8) (k : Nat) (h : k < l.length) : Na.val (l.take (k + 1)) = Na.val (l.take k) * 10 + Na.dv (l.getD k 0) := by
  have e : l.take (k + 1) = l.take k ++ [l.getD k 0] := by
    rw [List.take_add_one, List.getElem?_eq_getElem h, List.getD_eq_getElem?_getD, List.getElem?_eq_getElem h]
    rfl
  rw [e, Na.val_snoc]
theorem val_take18 (l : List UInt8) (k : Nat) (hall : l.all Na.isD = true) (hk : k ≤ 18) : Na.val (l.take k) < 10 ^ 18 := by
  have h1 := Na.val_lt (l.take k) (List.all_eq_true.2 fun c hc => List.all_eq_true.1 hall c (List.mem_of_mem_take hc))
  have h2 : 10 ^ (l.take k).length ≤ 10 ^ 18 := Nat.pow_le_pow_right (by omega) (by rw [List.length_take]; omega)
  omega

set_option maxHeartbeats 1000000 in
theorem value_any (s : ByteArray) (w : World) (hs : s.size ≤ 18) (hall : s.data.toList.all Na.isD = true) :
    Calls Tryz.prog 136 #[.string s] w fun e w' => e = .returned (.int .i64 (Na.val s.data.toList : Int)) ∧ w = w' := by
  have hlen : s.data.toList.length = s.size := by simp
  have HD := Lib.hid (fun k h => dig_at s k h hall)
  have HT := Lib.hid (val_take1 s.data.toList)
  have HB := Lib.hid (fun k hk => val_take18 s.data.toList k hall hk)
  have HE := Lib.hid (show s.data.toList.take s.size = s.data.toList by rw [← hlen, List.take_length])
  rw [hlen] at HT
  generalize s.data.toList = l at *
  clear hall hlen
  go_enter Tryz.func136, Tryz.ntmps136
  go_wp2
  go_loop [3, 4] (fun v i => ∃ k x : Nat, i = .int .i64 (k : Int) ∧ v = .int .i64 (x : Int) ∧ k ≤ s.size ∧ x < 1000000000000000000 ∧ Hid (x = Na.val (l.take k))) (fun _ i => s.size - (intOf i).toNat)
  case atStart => exact ⟨0, 0, by first | rfl | (congr 1), by first | rfl | (congr 1), by omega, by omega, Lib.hid (by simp [Na.val_nil])⟩
  case round =>
    obtain ⟨k, x, rfl, rfl, hk, hx, HX⟩ := hrel
    by_cases hlt : k < s.size
    · obtain ⟨d, hd, hsd, hdv⟩ := HD.out k hlt
      have e1 := HT.out k hlt
      have e2 := HB.out (k + 1) (by omega)
      rw [e1, ← HX.out, ← hdv] at e2
      have HX2 : Hid (x * 10 + d = Na.val (l.take (k + 1))) := Lib.hid (by rw [e1, ← HX.out, ← hdv])
      have e3 : x * 10 + d < 1000000000000000000 := by omega
      clear e1 e2 HX hdv
      go_wp2
      exact ⟨⟨k + 1, x * 10 + d, by go_num, by go_num, by omega, e3, HX2⟩, by simp [intOf]; omega⟩
    · obtain rfl : k = s.size := by omega
      have HX2 : Hid (x = Na.val l) := Lib.hid (by rw [HX.out, HE.out])
      clear HX
      go_wp2
      go_ret
      rw [HX2.out]
      exact ⟨rfl, rfl⟩

theorem tx_all (m : Nat) : (tx m).data.toList.all Na.isD = true := by
  show (Lib.decDigits m).all Na.isD = true
  exact Na.dec_all m
theorem tx_val (m : Nat) : Na.val (tx m).data.toList = m := Na.val_dec m
theorem value_tx (m : Nat) (w : World) (hs : (tx m).size ≤ 18) :
    Calls Tryz.prog 136 #[.string (tx m)] w fun e w' => e = .returned (.int .i64 (m : Int)) ∧ w = w' := by
  have := value_any (tx m) w hs (tx_all m)
  rw [tx_val] at this
  exact this

theorem digit_tx (m i : Nat) (w : World) (hm : (tx m).size ≤ 1000) (hi : i ≤ 1000) :
    Calls Tryz.prog 137 #[.string (tx m), .int .i64 (i : Int)] w fun e w' => e = .returned (.int .i64 (Na.dgt m i : Int)) ∧ w = w' := by
  have hz : (tx m).size = (Lib.decDigits m).length := tx_size m
  by_cases h : i < (tx m).size
  · have hd := Na.dec_dgt m i (by omega)
    obtain ⟨j, hjj⟩ : ∃ j, j = (tx m).size - 1 - i := ⟨_, rfl⟩
    have hj : j < (tx m).size := by omega
    obtain ⟨d, hd10, hsd, hdv⟩ := dig_at (tx m) j hj (tx_all m)
    have e : d = Na.dgt m i := by
      rw [hdv, ← hd, ← hz, ← hjj]
      rfl
    have h1 : ¬ ((tx m).size : Int) ≤ (i : Int) := by omega
    have hw1 : IntKind.i64.wrap (((tx m).size : Int) - 1) = (((tx m).size - 1 : Nat) : Int) := by rw [IntKind.wrap_i64]; omega
    have hw2 : IntKind.i64.wrap ((((tx m).size - 1 : Nat) : Int) - (i : Int)) = (j : Int) := by rw [IntKind.wrap_i64]; omega
    rw [← e]
    clear hd hz hdv e hjj
    generalize tx m = s at *
    generalize s.size - 1 = q at *
    go_enter Tryz.func137, Tryz.ntmps137
    go_wp2
    go_ret
    exact ⟨by show Ending.returned (Value.int .i64 (48 + (d : Int) - 48)) = _; rw [show 48 + (d : Int) - 48 = (d : Int) by omega], rfl⟩
  · have h1 : ((tx m).size : Int) ≤ (i : Int) := by omega
    rw [Na.dgt_zero m i (by omega)]
    clear hz
    generalize tx m = s at *
    go_enter Tryz.func137, Tryz.ntmps137
    go_wp2
    go_ret
    exact ⟨rfl, rfl⟩

/- Leading zeros are cut. -/
theorem trim_step (l : List UInt8) (k : Nat) (h : k + 1 < l.length) (h0 : l.getD k 0 = 48) : Na.trimL (l.drop k) = Na.trimL (l.drop (k + 1)) := by
  have e1 : l.drop k = l.getD k 0 :: l.drop (k + 1) := by
    rw [List.getD_eq_getElem?_getD, List.getElem?_eq_getElem (by omega)]
    exact List.drop_eq_getElem_cons (by omega)
  have e2 : l.drop (k + 1) = l.getD (k + 1) 0 :: l.drop (k + 2) := by
    rw [List.getD_eq_getElem?_getD, List.getElem?_eq_getElem (by omega)]
    exact List.drop_eq_getElem_cons (by omega)
  rw [e1, h0, e2]
  conv => lhs; unfold Na.trimL
  rw [if_pos rfl]
theorem trim_stop (l : List UInt8) (k : Nat) (h : k + 1 < l.length) (h0 : l.getD k 0 ≠ 48) : Na.trimL (l.drop k) = l.drop k := by
  have e1 : l.drop k = l.getD k 0 :: l.drop (k + 1) := by
    rw [List.getD_eq_getElem?_getD, List.getElem?_eq_getElem (by omega)]
    exact List.drop_eq_getElem_cons (by omega)
  have e2 : l.drop (k + 1) = l.getD (k + 1) 0 :: l.drop (k + 2) := by
    rw [List.getD_eq_getElem?_getD, List.getElem?_eq_getElem (by omega)]
    exact List.drop_eq_getElem_cons (by omega)
  rw [e1, e2]
  unfold Na.trimL
  rw [if_neg h0]
theorem trim_one (l : List UInt8) (k : Nat) (h : k + 1 = l.length) : Na.trimL (l.drop k) = l.drop k := by
  have e1 : l.drop k = l.getD k 0 :: l.drop (k + 1) := by
    rw [List.getD_eq_getElem?_getD, List.getElem?_eq_getElem (by omega)]
    exact List.drop_eq_getElem_cons (by omega)
  rw [e1, show l.drop (k + 1) = [] by rw [h]; simp]
  rfl
theorem drop_bytes (s : ByteArray) (k : Nat) (h : k ≤ s.size) : s.extract k s.size = ⟨(s.data.toList.drop k).toArray⟩ := by
  apply ByteArray.ext
  apply Array.toList_inj.1
  rw [ByteArray.data_extract, Array.toList_extract]
  simp only [List.extract_eq_take_drop]
  have hl : s.data.toList.length = s.size := by simp
  exact List.take_of_length_le (by rw [List.length_drop, hl]; omega)

set_option maxHeartbeats 1000000 in
theorem trim_any (s : ByteArray) (w : World) (h0 : 0 < s.size) (hs : s.size ≤ 10000) :
    Calls Tryz.prog 160 #[.string s] w fun e w' => e = .returned (.string ⟨(Na.trimL s.data.toList).toArray⟩) ∧ w = w' := by
  have hlen : s.data.toList.length = s.size := by simp
  have HG : Hid (∀ k (h : k < s.size), s.data.toList.getD k 0 = s[k]) := Lib.hid (fun k h => by
    rw [List.getD_eq_getElem?_getD, List.getElem?_eq_getElem (by omega)]
    rfl)
  have HS := Lib.hid (trim_step s.data.toList)
  have HP := Lib.hid (trim_stop s.data.toList)
  have HO := Lib.hid (trim_one s.data.toList)
  have HB := Lib.hid (drop_bytes s)
  have H0 : Hid (Na.trimL (s.data.toList.drop 0) = Na.trimL s.data.toList) := Lib.hid rfl
  rw [hlen] at HS HP HO
  generalize Na.trimL s.data.toList = R at *
  generalize s.data.toList = l at *
  clear hlen
  obtain ⟨q, hq⟩ : ∃ q, q = s.size - 1 := ⟨_, rfl⟩
  have hw1 : IntKind.i64.wrap ((s.size : Int) - 1) = (q : Int) := by rw [IntKind.wrap_i64]; omega
  have HQ := Lib.hid hq
  have hqs : q < s.size := by omega
  clear hq
  go_enter Tryz.func160, Tryz.ntmps160
  go_wp2
  go_loop [3] (fun i => ∃ k : Nat, i = .int .i64 (k : Int) ∧ k ≤ q ∧ Hid (Na.trimL (l.drop k) = R)) (fun i => q - (intOf i).toNat)
  case atStart => exact ⟨0, by first | rfl | (congr 1), by omega, H0⟩
  case round =>
    obtain ⟨k, rfl, hk, HK⟩ := hrel
    have hks : k < s.size := by omega
    have hsl : (k : Int) ≤ (s.size : Int) := by omega
    by_cases hlt : k < q
    · have hlt2 : (k : Int) < (q : Int) := by omega
      by_cases h48 : s[k].toNat = 48
      · have HK2 : Hid (Na.trimL (l.drop (k + 1)) = R) := Lib.hid (by
          rw [← HK.out]
          exact (HS.out k (by have := HQ.out; omega) (by rw [HG.out k hks]; exact UInt8.toNat_inj.1 h48)).symm)
        clear HK
        go_wp2
        exact ⟨⟨k + 1, by go_num, by omega, HK2⟩, by simp [intOf]; omega⟩
      · have HF : Hid (s.extract k s.size = ⟨R.toArray⟩) := Lib.hid (by
          rw [HB.out k (by omega), ← HK.out, HP.out k (by have := HQ.out; omega) (by
            rw [HG.out k hks]
            intro e
            rw [e] at h48
            exact h48 rfl)])
        have h4b : (((s[k].toNat : Nat) : Int) == 48) = false := by simp; omega
        clear HK
        go_wp2
        go_ret
        rw [HF.out]
        exact ⟨rfl, rfl⟩
    · obtain rfl : k = q := by omega
      have HF : Hid (s.extract k s.size = ⟨R.toArray⟩) := Lib.hid (by
        rw [HB.out k (by omega), ← HK.out, HO.out k (by have := HQ.out; omega)])
      clear HK
      go_wp2
      go_ret
      rw [HF.out]
      exact ⟨rfl, rfl⟩

theorem trim_digits (l : List UInt8) (w : World) (h0 : l ≠ []) (hs : l.length ≤ 10000) (hall : l.all Na.isD = true) :
    Calls Tryz.prog 160 #[.string ⟨l.toArray⟩] w fun e w' => e = .returned (.string (tx (Na.val l))) ∧ w = w' := by
  have hz : (⟨l.toArray⟩ : ByteArray).size = l.length := bsizeN _
  have := trim_any ⟨l.toArray⟩ w (by rw [hz]; exact List.length_pos_iff.2 h0) (by omega)
  rw [show (⟨l.toArray⟩ : ByteArray).data.toList = l from rfl, Na.trimL_dec l h0 hall] at this
  exact this

/- The order of two numbers. -/
theorem order_tx (m n : Nat) (w : World) (hm : (tx m).size ≤ 10000) (hn : (tx n).size ≤ 10000) :
    Calls Tryz.prog 122 #[.string (tx m), .string (tx n)] w fun e w' => e = .returned (.int .i64 (cmpN m n)) ∧ w = w' := by
  have hzm : (tx m).size = (Lib.decDigits m).length := tx_size m
  have hzn : (tx n).size = (Lib.decDigits n).length := tx_size n
  by_cases h1 : (tx m).size < (tx n).size
  · have hlt := Na.len_lt m n (by omega)
    have e : cmpN m n = -1 := by unfold cmpN; rw [if_pos hlt]
    have h1' : ((tx m).size : Int) < ((tx n).size : Int) := by omega
    rw [e]
    clear hzm hzn hlt e
    generalize tx m = s at *
    generalize tx n = t at *
    go_enter Tryz.func122, Tryz.ntmps122
    go_wp2
    go_ret
    exact ⟨rfl, rfl⟩
  · by_cases h2 : (tx m).size = (tx n).size
    · have hless : Op.bytesLess (tx m).toList (tx n).toList = decide (m < n) := by
        rw [ByteArray.toList_eq, ByteArray.toList_eq, Na.less_val _ _ (tx_all m) (tx_all n) (by simpa using h2), tx_val, tx_val]
      have heq : ((tx m).toList == (tx n).toList) = decide (m = n) := by
        by_cases e : m = n
        · rw [e]; simp
        · rw [decide_eq_false e]
          exact bytes_ne (fun k => e (tx_inj k))
      have h1' : ¬ ((tx m).size : Int) < ((tx n).size : Int) := by omega
      have h2' : (((tx m).size : Int) == ((tx n).size : Int)) = true := by simp; omega
      have h2'' : ((tx m).size : Int) = ((tx n).size : Int) := by omega
      by_cases hlt : m < n
      · have e : cmpN m n = -1 := by unfold cmpN; rw [if_pos hlt]
        rw [decide_eq_true hlt] at hless
        rw [e]
        clear hzm hzn e heq
        generalize tx m = s at *
        generalize tx n = t at *
        go_enter Tryz.func122, Tryz.ntmps122
        go_wp2
        go_ret
        exact ⟨rfl, rfl⟩
      · rw [decide_eq_false hlt] at hless
        by_cases he : m = n
        · have e : cmpN m n = 0 := by unfold cmpN; rw [if_neg hlt, if_neg (by omega)]
          rw [decide_eq_true he] at heq
          rw [e]
          clear hzm hzn e he
          generalize tx m = s at *
          generalize tx n = t at *
          go_enter Tryz.func122, Tryz.ntmps122
          go_wp2
          go_ret
          exact ⟨rfl, rfl⟩
        · have e : cmpN m n = 1 := by unfold cmpN; rw [if_neg hlt, if_pos (by omega)]
          rw [decide_eq_false he] at heq
          rw [e]
          clear hzm hzn e he
          generalize tx m = s at *
          generalize tx n = t at *
          go_enter Tryz.func122, Tryz.ntmps122
          go_wp2
          go_ret
          exact ⟨rfl, rfl⟩
    · have hlt := Na.len_lt n m (by omega)
      have e : cmpN m n = 1 := by unfold cmpN; rw [if_neg (by omega), if_pos hlt]
      have h1' : ¬ ((tx m).size : Int) < ((tx n).size : Int) := by omega
      have h2' : (((tx m).size : Int) == ((tx n).size : Int)) = false := by simp; omega
      have h2'' : ¬ ((tx m).size : Int) = ((tx n).size : Int) := by omega
      have heq : ((tx m).toList == (tx n).toList) = false := bytes_ne (fun k => h2 (by rw [k]))
      rw [e]
      clear hzm hzn hlt e
      generalize tx m = s at *
      generalize tx n = t at *
      go_enter Tryz.func122, Tryz.ntmps122
      go_wp2
      go_ret
      exact ⟨rfl, rfl⟩
end Go.Proofs.YtkbncdcphohmiaaGreatDoor

/- The reference of layer 4: text. -/
set_option linter.unusedSimpArgs false
set_option linter.unusedVariables false
namespace Go.Proofs.YtkbncdcphohmiaaGreatDoor
open Go.RowKit
set_option maxRecDepth 100000

theorem info8 : (Tryz.prog.info? 5).map (fun i => (i.zero, i.size, i.bytes)) = some (some (.int .u8 0), 1, 1) := by kernel_rfl

/-- 'make([]byte, n)'. -/
theorem list_make8 {w : World} {ops : Array Oper} {rest : List Oper} {o : Oper} {a : Act} {Q : Exit → Act → World → Prop} (hg : o.guard = none) (l c : Operand) (t : TypeId) (hop : o.op = Op.makeSlice t l c) (ht : Tryz.prog.underlying t = some (.slice 5))
    (n : Nat) (hn : n ≤ 1000000) (hl : a.eval l = .int .i64 (n : Int)) (hc : a.eval c = .int .i64 (n : Int))
    (h : ∀ w', w'.heap[w.heap.size]? = some (.cells (((List.replicate n (0 : UInt8)).map fun b : UInt8 => Value.int .u8 b.toNat).toArray) 5 (0, 0)) → Below w.heap.size w w' → wpList Tryz.prog ops Q rest (a.put o.dst (.slice (some ⟨w.heap.size, 0, none⟩) n n)) w') :
    wpList Tryz.prog ops Q (o :: rest) a w := by
  obtain ⟨i0, hi, hz0, hz1, hz2⟩ := info_parts info8
  refine wpList_plain hg fun K hK' => ?_
  have hrun := run_make_row (P := Tryz.prog) t 5 i0 (.int .u8 0) ht hi hz0 hz1 rfl .i64 .i64 n (by rw [hz2]; omega) (by omega) w
  unfold Oper.wp
  simp [execOp, hop, hl, hc, hrun, Result.andThen]
  refine hK' _ _ (h _ ?_ ((Below.refl _ _).alloc (Nat.le_refl _) _))
  rw [heap_alloc_new]
  have e : madeCells #[Value.int .u8 0] n = (((List.replicate n (0 : UInt8)).map fun b : UInt8 => Value.int .u8 b.toNat).toArray) := by
    apply Array.ext'
    rw [toList_madeCells_one]
    simp
  rw [e]

/- A row of characters at a block. -/
def Row8 (w : World) (g : Nat) (L : List UInt8) : Prop := w.heap[g]? = some (.cells ((L.map fun b : UInt8 => Value.int .u8 b.toNat).toArray) 5 (0, 0))
theorem Row8.cell {w : World} {g : Nat} {L : List UInt8} (h : Row8 w g L) (k : Nat) (hk : k < L.length) : w.cell? ⟨g, k, none⟩ = some (.int .u8 (L[k].toNat : Int)) := by
  unfold Row8 at h
  rw [cell_of_row w g k _ _ _ h]
  simp [List.getElem?_eq_getElem hk]
theorem Row8.frozen {w : World} {g : Nat} {L : List UInt8} (h : Row8 w g L) (k : Nat) : w.frozen? ⟨g, k, none⟩ = false := Lib.frozen_of_heap h k
theorem Row8.stored {w : World} {g : Nat} {L : List UInt8} (h : Row8 w g L) (k : Nat) (c : UInt8) : Row8 (w.setCell ⟨g, k, none⟩ (.int .u8 (c.toNat : Int))) g (L.set k c) := by
  unfold Row8 at h ⊢
  simp [World.setCell, Array.getElem?_modify, h, List.map_set]
theorem Row8.string {w : World} {g : Nat} {L : List UInt8} (h : Row8 w g L) (c : Nat) : (convert 109 9 (.slice (some ⟨g, 0, none⟩) L.length c)).run Tryz.prog w = .ok (.string ⟨L.toArray⟩) w := by
  refine run_convert_bytes_back (P := Tryz.prog) w 109 9 5 ⟨g, 0, none⟩ c L Tryz.underlying109 Tryz.underlying5 Tryz.underlying9 (fun j hj => ?_)
  have e : (⟨g, 0, none⟩ : Addr).add j = ⟨g, j, none⟩ := by unfold Addr.add; split <;> simp_all
  rw [e]
  exact h.cell j hj

theorem chars_step (ds : List Nat) (n i : Nat) (hn : n = ds.length) (hi : i < n) :
    (List.replicate (n - i) 0 ++ Na.chars (ds.take i)).set (n - 1 - i) (UInt8.ofNat (48 + ds.getD i 0)) = List.replicate (n - (i + 1)) 0 ++ Na.chars (ds.take (i + 1)) := by
  have e1 : Na.chars (ds.take (i + 1)) = UInt8.ofNat (48 + ds.getD i 0) :: Na.chars (ds.take i) := by
    have e : ds.take (i + 1) = ds.take i ++ [ds.getD i 0] := by
      rw [List.take_add_one, List.getElem?_eq_getElem (by omega), List.getD_eq_getElem?_getD, List.getElem?_eq_getElem (by omega)]
      rfl
    unfold Na.chars
    rw [e, List.map_append, List.reverse_append]
    rfl
  have e2 : List.replicate (n - i) (0 : UInt8) = List.replicate (n - (i + 1)) 0 ++ [0] := by
    rw [show n - i = (n - (i + 1)) + 1 by omega, List.replicate_succ']
  rw [e1, e2, List.append_assoc, List.set_append_right _ _ (by simp; omega)]
  simp
  rw [show n - 1 - i - (n - (i + 1)) = 0 by omega]
  rfl

set_option maxHeartbeats 1000000 in
theorem text_digits (A : Option Addr) (ds : List Nat) (c : Nat) (w : World) (hs : Ints w w.heap.size A ds) (hl : ds.length ≤ 5000) (h0 : ds ≠ []) (hd : ∀ d ∈ ds, d < 10) :
    Calls Tryz.prog 138 #[.slice A ds.length c] w fun e w' => e = .returned (.string (tx (Na.lt10 ds))) ∧ Below w.heap.size w w' := by
  have HS := Lib.hid hs
  have TR := Lib.hid (fun w' => trim_digits (Na.chars ds) w' (fun e => h0 (by have := congrArg List.length e; rw [Na.chars_len] at this; exact List.eq_nil_of_length_eq_zero this)) (by rw [Na.chars_len]; omega) (Na.chars_all ds hd))
  rw [Na.val_chars ds hd] at TR
  have HD := Lib.hid hd
  obtain ⟨n, hn⟩ : ∃ n, n = ds.length := ⟨_, rfl⟩
  have hn0 : 0 < n := by rw [hn]; exact List.length_pos_iff.2 h0
  rw [← hn] at hl ⊢
  have HN := Lib.hid hn
  have HCS := Lib.hid (fun i => chars_step ds n i hn)
  have HC0 : Hid (List.replicate (n - 0) 0 ++ Na.chars (ds.take 0) = List.replicate n (0 : UInt8)) := Lib.hid (by simp [Na.chars])
  have HCN : Hid (List.replicate (n - n) 0 ++ Na.chars (ds.take n) = Na.chars ds) := Lib.hid (by rw [hn]; simp)
  have HLE : Hid (∀ i, i ≤ n → (List.replicate (n - i) 0 ++ Na.chars (ds.take i)).length = n) := Lib.hid (fun i hi => by rw [List.length_append, List.length_replicate, Na.chars_len, List.length_take]; omega)
  obtain ⟨q, hq⟩ : ∃ q, q = n - 1 := ⟨_, rfl⟩
  have hw1 : IntKind.i64.wrap ((n : Int) - 1) = (q : Int) := by rw [IntKind.wrap_i64]; omega
  have HQ := Lib.hid hq
  clear hs h0 hd hn hq
  go_enter Tryz.func138, Tryz.ntmps138
  go_wp2_with (first
    | (at_make
       refine list_make8 rfl (.tmp 6) (.tmp 6) 109 rfl rfl n (by omega) rfl rfl ?_
       intro w1 hh1 hb1
       have HH1 : Hid (Row8 w1 w.heap.size (List.replicate n 0)) := Lib.hid hh1
       clear hh1)
    | fail)
  go_loopw [4] (fun i wr => ∃ k : Nat, k ≤ n ∧ i = .int .i64 (k : Int) ∧ Hid (Row8 wr w.heap.size (List.replicate (n - k) 0 ++ Na.chars (ds.take k))) ∧ Below w.heap.size w wr) (fun i _ => n - (intOf i).toNat)
  case atStart => exact ⟨0, by omega, by first | rfl | (congr 1), Lib.hid (by rw [HC0.out]; exact HH1.out), hb1⟩
  case round =>
    clear HH1 hb1
    obtain ⟨k, hk, rfl, HR, hb⟩ := hrel
    by_cases hlt : k < n
    · obtain ⟨ad, rfl, _, hca⟩ := (HS.out.bt hb) k (by rw [← HN.out]; exact hlt)
      have hx : ds.getD k 0 < 10 := by
        have := HD.out (ds.getD k 0)
        rw [List.getD_eq_getElem?_getD, List.getElem?_eq_getElem (by rw [← HN.out]; exact hlt)] at this ⊢
        exact this (List.getElem_mem _)
      have HST := Lib.hid (HCS.out k hlt)
      generalize ds.getD k 0 = d at *
      obtain ⟨j, hj⟩ : ∃ j, j = n - 1 - k := ⟨_, rfl⟩
      have hw2 : IntKind.i64.wrap ((q : Int) - (k : Int)) = (j : Int) := by rw [IntKind.wrap_i64]; have := HQ.out; omega
      have hjn : j < n := by omega
      obtain ⟨vv, hcell⟩ : ∃ v, wr.cell? ⟨w.heap.size, j, none⟩ = some v := ⟨_, HR.out.cell j (by rw [HLE.out k hk]; exact hjn)⟩
      have hfr := HR.out.frozen j
      have HR2 := Lib.hid (HR.out.stored j (UInt8.ofNat (48 + d)))
      have hb2 := hb.setCell (p := ⟨w.heap.size, j, none⟩) (Nat.le_refl _) (.int .u8 ((UInt8.ofNat (48 + d)).toNat : Int))
      rw [← hj] at HST
      have HT : Hid ((((UInt8.ofNat (48 + d)).toNat : Nat) : Int) = 48 + (d : Int)) := Lib.hid (by
        have : d < 10 := hx
        rw [UInt8.toNat_ofNat']
        omega)
      rw [HT.out] at HR2 hb2
      clear HS HLE hj
      have HRX := Lib.hid HR2.out
      go_wp2
      refine ⟨⟨k + 1, by omega, by go_num, Lib.hid ?_, hb2⟩, by simp [intOf]; omega⟩
      rw [← HST.out]
      exact HRX.out
    · obtain rfl : k = n := by omega
      rw [HCN.out] at HR
      have hcv := HR.out.string k
      rw [show (Na.chars ds).length = k by rw [Na.chars_len]; exact HN.out.symm] at hcv
      clear HS HLE HCS HC0 HCN HR
      go_wp2_with fail
      refine (TR.out wr).mono ?_
      rintro e w1 ⟨rfl, rfl⟩
      go_wp2_with fail
      go_ret
      exact ⟨rfl, hb⟩
end Go.Proofs.YtkbncdcphohmiaaGreatDoor

/- The reference of layer 4: Plus, Minus. -/
set_option linter.unusedSimpArgs false
set_option linter.unusedVariables false
namespace Go.Proofs.YtkbncdcphohmiaaGreatDoor
open Go.RowKit
set_option maxRecDepth 100000

theorem tx_lt (m : Nat) : m < 10 ^ (tx m).size := by
  rw [tx_size]
  exact Na.lt_dec m
theorem tx_pos (m : Nat) : 0 < (tx m).size := by
  rw [tx_size]
  exact Na.dec_len1 m

/- A list that grew by one digit. -/
theorem own_snoc {w : World} {B g c d : Nat} {ds : List Nat} (h : OwnZ w B g c ((ds.map fun d : Nat => (d : Int)) ++ [(d : Int)])) : OwnV w B (.slice (some ⟨g, 0, none⟩) (ds.length + 1) c) ((ds ++ [d]).map fun d : Nat => (d : Int)) := by
  unfold OwnZ at h
  unfold OwnV
  rw [List.map_append]
  simpa using h

set_option maxHeartbeats 2000000 in
theorem rplus_tx (m n : Nat) (w : World) (hm : (tx m).size ≤ 1000) (hn : (tx n).size ≤ 1000) :
    Calls Tryz.prog 123 #[.string (tx m), .string (tx n)] w fun e w' => e = .returned (.string (tx (m + n))) ∧ Below w.heap.size w w' := by
  have lm := tx_lt m
  have ln := tx_lt n
  by_cases hsh : (tx m).size ≤ 18 ∧ (tx n).size ≤ 18
  · have b1 : m < 10 ^ 18 := Nat.lt_of_lt_of_le lm (Nat.pow_le_pow_right (by omega) hsh.1)
    have b2 : n < 10 ^ 18 := Nat.lt_of_lt_of_le ln (Nat.pow_le_pow_right (by omega) hsh.2)
    have V1 := Lib.hid (fun w' => value_tx m w' hsh.1)
    have V2 := Lib.hid (fun w' => value_tx n w' hsh.2)
    have DC := Lib.hid (fun w' => rdecimal_any (m + n) w' (by omega))
    have hw : IntKind.i64.wrap ((m : Int) + (n : Int)) = ((m + n : Nat) : Int) := by rw [IntKind.wrap_i64]; omega
    have h1 : ((tx m).size : Int) ≤ 18 := by omega
    have h2 : ((tx n).size : Int) ≤ 18 := by omega
    have HW := Lib.hid hw
    generalize tx (m + n) = R at *
    generalize m + n = q at *
    generalize tx m = s at *
    generalize tx n = t at *
    clear lm ln hsh
    go_enter Tryz.func123, Tryz.ntmps123
    go_wp2_with fail
    refine (V1.out _).mono ?_
    rintro e w1 ⟨rfl, rfl⟩
    go_wp2_with fail
    refine (V2.out _).mono ?_
    rintro e w1 ⟨rfl, rfl⟩
    go_wp2_with fail
    refine (DC.out _).mono ?_
    rintro e w1 ⟨rfl, rfl⟩
    go_wp2_with fail
    go_ret
    exact ⟨rfl, Below.refl _ _⟩
  · obtain ⟨M, hM, hM1, hM2, hMi⟩ : ∃ M : Nat, M ≤ 1000 ∧ (tx m).size ≤ M ∧ (tx n).size ≤ M ∧ max ((tx m).size : Int) ((tx n).size : Int) = (M : Int) := by
      refine ⟨max (tx m).size (tx n).size, by omega, by omega, by omega, by omega⟩
    have b1 : m < 10 ^ M := Nat.lt_of_lt_of_le lm (Nat.pow_le_pow_right (by omega) hM1)
    have b2 : n < 10 ^ M := Nat.lt_of_lt_of_le ln (Nat.pow_le_pow_right (by omega) hM2)
    have HEND := Lib.hid (fun ds cy h => Na.plus_end ds m n M cy h b1 b2)
    have DM := Lib.hid (fun i (hi : i ≤ 1000) w' => digit_tx m i w' hm hi)
    have DN := Lib.hid (fun i (hi : i ≤ 1000) w' => digit_tx n i w' hn hi)
    have HST := Lib.hid (fun ds k cy t h1 h2 h3 => Na.plus_step ds m n k cy t h1 h2 h3)
    have HDM := Lib.hid (fun i => Na.dgt_lt m i)
    have HDN := Lib.hid (fun i => Na.dgt_lt n i)
    have TD := Lib.hid (fun A ds c w' h1 h2 h3 h4 => text_digits A ds c w' h1 h2 h3 h4)
    have hns : ¬ ((tx m).size : Int) ≤ 18 ∨ (((tx m).size : Int) ≤ 18 ∧ ¬ ((tx n).size : Int) ≤ 18) := by omega
    generalize hR : tx (m + n) = R at *
    have HR := Lib.hid hR
    generalize Na.dgt m = fm at *
    generalize Na.dgt n = fn at *
    have H0 : Hid (Na.lt10 [] + 10 ^ 0 * 0 = m % 10 ^ 0 + n % 10 ^ 0) := Lib.hid (by simp [Na.lt10_nil, Nat.mod_one])
    generalize tx m = s at *
    generalize tx n = t at *
    clear lm ln hsh b1 b2 hR
    have key : ∀ (_ : True), Calls Tryz.prog 123 #[.string s, .string t] w fun e w' => e = .returned (.string R) ∧ Below w.heap.size w w' := by
      intro _
      rcases hns with h1 | ⟨h1, h2⟩
      all_goals
        go_enter Tryz.func123, Tryz.ntmps123
        go_wp2_with fail
        go_loopw [5, 6, 7] (fun v cr i wr => ∃ (k cy : Nat) (ds : List Nat), i = .int .i64 (k : Int) ∧ cr = .int .i64 (cy : Int) ∧ cy ≤ 1 ∧ k ≤ M + 1 ∧ Hid (ds.length = k) ∧ Hid (∀ d ∈ ds, d < 10) ∧ Hid (OwnV wr w.heap.size v (ds.map fun d : Nat => (d : Int))) ∧ Hid (Na.lt10 ds + 10 ^ k * cy = m % 10 ^ k + n % 10 ^ k) ∧ Below w.heap.size w wr) (fun _ _ i _ => M + 1 - (intOf i).toNat)
        case atStart => exact ⟨0, 0, [], by first | rfl | (congr 1), by first | rfl | (congr 1), by omega, by omega, Lib.hid rfl, Lib.hid (by simp), Lib.hid (World.ownsRow_nil w _ _ _), H0, Below.refl _ _⟩
        case round =>
          obtain ⟨k, cy, ds, rfl, rfl, hcy, hk, HL, HD, HO, HV, hb⟩ := hrel
          by_cases hlt : k < M + 1
          · have hlt2 : (k : Int) < (M : Int) + 1 := by omega
            have D1 := Lib.hid (DM.out k (by omega) wr)
            have D2 := Lib.hid (DN.out k (by omega) wr)
            have l1 := HDM.out k
            have l2 := HDN.out k
            have HS2 := Lib.hid (HST.out ds k cy _ HL.out HV.out rfl)
            generalize fm k = dm at *
            generalize fn k = dn at *
            obtain ⟨u, hu⟩ : ∃ u, u = dm + dn + cy := ⟨_, rfl⟩
            rw [← hu] at HS2
            have hw1 : IntKind.i64.wrap ((dm : Int) + (dn : Int)) = ((dm + dn : Nat) : Int) := by rw [IntKind.wrap_i64]; omega
            have hw2 : IntKind.i64.wrap (((dm + dn : Nat) : Int) + (cy : Int)) = (u : Int) := by rw [IntKind.wrap_i64]; omega
            have hu20 : u < 20 := by omega
            have hnl : (ds.map fun d : Nat => (d : Int)).length + 1 ≤ 1000000 := by rw [List.length_map, HL.out]; omega
            have hmd : (((dm : Int) + (dn : Int) + (cy : Int)) % 10) = ((u % 10 : Nat) : Int) := by omega
            have hdv : (((dm : Int) + (dn : Int) + (cy : Int)) / 10) = ((u / 10 : Nat) : Int) := by omega
            have hu1 : u / 10 ≤ 1 := by omega
            have hu9 : u % 10 < 10 := by omega
            have hbx : Below wr.heap.size wr (wr.alloc (.cells #[.int .i64 (((dm : Int) + (dn : Int) + (cy : Int)) % 10)] 3)) := (Below.refl _ _).alloc (Nat.le_refl _) _
            have HO2 := Lib.hid (HO.out.below hbx)
            have hbw2 := Nb hb hbx
            have HX : Hid (Ints (wr.alloc (.cells #[.int .i64 (((dm : Int) + (dn : Int) + (cy : Int)) % 10)] 3)) (wr.alloc (.cells #[.int .i64 (((dm : Int) + (dn : Int) + (cy : Int)) % 10)] 3)).heap.size (some ⟨wr.heap.size, 0, none⟩) [u % 10]) := Lib.hid (by rw [hmd]; exact box_ints (heap_alloc_new _ _))
            have HDV := Lib.hid hdv
            clear hmd hdv hu hbx HO HV hw1 hw2
            go_wp2_with fail
            refine D1.out.mono ?_
            rintro e w1 ⟨rfl, rfl⟩
            go_wp2_with fail
            refine D2.out.mono ?_
            rintro e w1 ⟨rfl, rfl⟩
            go_wp2_with (first
              | (at_builtin
                 refine list_appendZ rfl (.tmp 42) (.tmp 45) 41 rfl rfl w.heap.size _ (ds.map fun d : Nat => (d : Int)) rfl HO2.out ⟨wr.heap.size, 0, none⟩ 1 1 [((u % 10 : Nat) : Int)] rfl rfl (ints_src HX.out (Below.refl _ _)) (by omega) hnl hbw2.size ?_
                 intro g2 c2 w2 ho2 hb2
                 have HO3 := Lib.hid ho2
                 have hbw3 := hbw2.trans hb2
                 clear ho2 hb2)
              | fail)
            refine ⟨⟨k + 1, u / 10, ds ++ [u % 10], by go_num, by rw [HDV.out], hu1, by omega, Lib.hid (by rw [List.length_append, HL.out]; rfl), Lib.hid ?_, Lib.hid ?_, HS2, hbw3⟩, by simp [intOf]; omega⟩
            · intro d hd
              rcases List.mem_append.1 hd with h | h
              · exact HD.out d h
              · rw [show d = u % 10 by simpa using h]; exact hu9
            · have := HO3.out
              unfold OwnZ at this
              unfold OwnV
              rw [List.map_append]
              simpa using this
          · obtain rfl : k = M + 1 := by omega
            have hne : ds ≠ [] := fun e => by
              have := HL.out
              rw [e] at this
              simp at this
            have hml : (ds.map fun d : Nat => (d : Int)).length = ds.length := by simp
            obtain ⟨g, c, rfl, ho⟩ := HO.out.form (fun e => hne (List.map_eq_nil_iff.1 e))
            have TX := Lib.hid (TD.out (some ⟨g, 0, none⟩) ds c wr (ho.ints rfl) (by rw [HL.out]; omega) hne HD.out)
            rw [HEND.out ds cy HV.out, HR.out] at TX
            rw [hml]
            have hlt2 : ¬ ((M + 1 : Nat) : Int) < (M : Int) + 1 := by omega
            clear HO HV ho hne hml
            go_wp2_with fail
            refine TX.out.mono ?_
            rintro e w1 ⟨rfl, hb1⟩
            go_wp2_with fail
            go_ret
            exact ⟨rfl, Nb hb hb1⟩
    exact key trivial

set_option maxHeartbeats 2000000 in
theorem rminus_tx (m n : Nat) (w : World) (hm : (tx m).size ≤ 1000) (hn : (tx n).size ≤ 1000) (hnm : n ≤ m) :
    Calls Tryz.prog 124 #[.string (tx m), .string (tx n)] w fun e w' => e = .returned (.string (tx (m - n))) ∧ Below w.heap.size w w' := by
  have lm := tx_lt m
  have lp := tx_pos m
  obtain ⟨L, hL⟩ : ∃ L, L = (tx m).size := ⟨_, rfl⟩
  have HEND := Lib.hid (fun ds bo h1 h2 h3 => Na.minus_end ds m n L bo h1 h2 h3 (by rw [hL]; exact lm) hnm)
  have DM := Lib.hid (fun i (hi : i ≤ 1000) w' => digit_tx m i w' hm hi)
  have DN := Lib.hid (fun i (hi : i ≤ 1000) w' => digit_tx n i w' hn hi)
  have HS1 := Lib.hid (fun ds k bo t h1 h2 h3 => Na.minus_pos ds m n k bo t h1 h2 h3)
  have HS2 := Lib.hid (fun ds k bo t h1 h2 h3 => Na.minus_neg ds m n k bo t h1 h2 h3)
  have HDM := Lib.hid (fun i => Na.dgt_lt m i)
  have HDN := Lib.hid (fun i => Na.dgt_lt n i)
  have TD := Lib.hid (fun A ds c w' h1 h2 h3 h4 => text_digits A ds c w' h1 h2 h3 h4)
  generalize hR : tx (m - n) = R at *
  have HR := Lib.hid hR
  generalize Na.dgt m = fm at *
  generalize Na.dgt n = fn at *
  have H0 : Hid (Na.lt10 [] + n % 10 ^ 0 = m % 10 ^ 0 + 10 ^ 0 * 0) := Lib.hid (by simp [Na.lt10_nil, Nat.mod_one])
  have hLi : ((tx m).size : Int) = (L : Int) := by omega
  generalize tx m = s at *
  generalize tx n = t at *
  clear lm hR
  go_enter Tryz.func124, Tryz.ntmps124
  go_wp2_with fail
  go_loopw [5, 6, 7] (fun v cr i wr => ∃ (k bo : Nat) (ds : List Nat), i = .int .i64 (k : Int) ∧ cr = .int .i64 (bo : Int) ∧ bo ≤ 1 ∧ k ≤ L ∧ Hid (ds.length = k) ∧ Hid (∀ d ∈ ds, d < 10) ∧ Hid (OwnV wr w.heap.size v (ds.map fun d : Nat => (d : Int))) ∧ Hid (Na.lt10 ds + n % 10 ^ k = m % 10 ^ k + 10 ^ k * bo) ∧ Below w.heap.size w wr) (fun _ _ i _ => L - (intOf i).toNat)
  case atStart => exact ⟨0, 0, [], by first | rfl | (congr 1), by first | rfl | (congr 1), by omega, by omega, Lib.hid rfl, Lib.hid (by simp), Lib.hid (World.ownsRow_nil w _ _ _), H0, Below.refl _ _⟩
  case round =>
    obtain ⟨k, bo, ds, rfl, rfl, hbo, hk, HL, HD, HO, HV, hb⟩ := hrel
    by_cases hlt : k < L
    · have hlt2 : (k : Int) < (L : Int) := by omega
      have D1 := Lib.hid (DM.out k (by omega) wr)
      have D2 := Lib.hid (DN.out k (by omega) wr)
      have l1 := HDM.out k
      have l2 := HDN.out k
      have hnl : (ds.map fun d : Nat => (d : Int)).length + 1 ≤ 1000000 := by rw [List.length_map, HL.out]; omega
      have HP := Lib.hid (fun t h => HS1.out ds k bo t HL.out HV.out h)
      have HQ := Lib.hid (fun t h => HS2.out ds k bo t HL.out HV.out h)
      generalize fm k = dm at *
      generalize fn k = dn at *
      have hw1 : IntKind.i64.wrap ((dm : Int) - (dn : Int)) = (dm : Int) - (dn : Int) := by rw [IntKind.wrap_i64]; omega
      by_cases hneg : (dm : Int) - (dn : Int) - (bo : Int) < 0
      · obtain ⟨u, hu⟩ : ∃ u, u + dn + bo = dm + 10 := ⟨dm + 10 - dn - bo, by omega⟩
        have HU := Lib.hid (HQ.out u hu)
        have hu9 : u < 10 := by omega
        have hue : (dm : Int) - (dn : Int) - (bo : Int) + 10 = (u : Int) := by omega
        have hbx : Below wr.heap.size wr (wr.alloc (.cells #[.int .i64 ((dm : Int) - (dn : Int) - (bo : Int) + 10)] 3)) := (Below.refl _ _).alloc (Nat.le_refl _) _
        have HO2 := Lib.hid (HO.out.below hbx)
        have hbw2 := Nb hb hbx
        have HX : Hid (Ints (wr.alloc (.cells #[.int .i64 ((dm : Int) - (dn : Int) - (bo : Int) + 10)] 3)) (wr.alloc (.cells #[.int .i64 ((dm : Int) - (dn : Int) - (bo : Int) + 10)] 3)).heap.size (some ⟨wr.heap.size, 0, none⟩) [u]) := Lib.hid (by rw [hue]; exact box_ints (heap_alloc_new _ _))
        clear hu hue hbx HO HV HP HQ
        go_wp2_with fail
        refine D1.out.mono ?_
        rintro e w1 ⟨rfl, rfl⟩
        go_wp2_with fail
        refine D2.out.mono ?_
        rintro e w1 ⟨rfl, rfl⟩
        go_wp2_with (first
          | (at_builtin
             refine list_appendZ rfl (.tmp 28) (.tmp 30) 41 rfl rfl w.heap.size _ (ds.map fun d : Nat => (d : Int)) rfl HO2.out ⟨wr.heap.size, 0, none⟩ 1 1 [(u : Int)] rfl rfl (ints_src HX.out (Below.refl _ _)) (by omega) hnl hbw2.size ?_
             intro g2 c2 w2 ho2 hb2
             have HO3 := Lib.hid ho2
             have hbw3 := hbw2.trans hb2
             clear ho2 hb2)
          | fail)
        refine ⟨⟨k + 1, 1, ds ++ [u], by go_num, by first | rfl | (congr 1), by omega, by omega, Lib.hid (by rw [List.length_append, HL.out]; rfl), Lib.hid ?_, Lib.hid ?_, HU, hbw3⟩, by simp [intOf]; omega⟩
        · intro d hd
          rcases List.mem_append.1 hd with h | h
          · exact HD.out d h
          · rw [show d = u by simpa using h]; exact hu9
        · have := HO3.out
          unfold OwnZ at this
          unfold OwnV
          rw [List.map_append]
          simpa using this
      · obtain ⟨u, hu⟩ : ∃ u, u + dn + bo = dm := ⟨dm - dn - bo, by omega⟩
        have HU := Lib.hid (HP.out u hu)
        have hu9 : u < 10 := by omega
        have hue : (dm : Int) - (dn : Int) - (bo : Int) = (u : Int) := by omega
        have hbx : Below wr.heap.size wr (wr.alloc (.cells #[.int .i64 ((dm : Int) - (dn : Int) - (bo : Int))] 3)) := (Below.refl _ _).alloc (Nat.le_refl _) _
        have HO2 := Lib.hid (HO.out.below hbx)
        have hbw2 := Nb hb hbx
        have HX : Hid (Ints (wr.alloc (.cells #[.int .i64 ((dm : Int) - (dn : Int) - (bo : Int))] 3)) (wr.alloc (.cells #[.int .i64 ((dm : Int) - (dn : Int) - (bo : Int))] 3)).heap.size (some ⟨wr.heap.size, 0, none⟩) [u]) := Lib.hid (by rw [hue]; exact box_ints (heap_alloc_new _ _))
        clear hu hue hbx HO HV HP HQ
        go_wp2_with fail
        refine D1.out.mono ?_
        rintro e w1 ⟨rfl, rfl⟩
        go_wp2_with fail
        refine D2.out.mono ?_
        rintro e w1 ⟨rfl, rfl⟩
        go_wp2_with (first
          | (at_builtin
             refine list_appendZ rfl (.tmp 28) (.tmp 30) 41 rfl rfl w.heap.size _ (ds.map fun d : Nat => (d : Int)) rfl HO2.out ⟨wr.heap.size, 0, none⟩ 1 1 [(u : Int)] rfl rfl (ints_src HX.out (Below.refl _ _)) (by omega) hnl hbw2.size ?_
             intro g2 c2 w2 ho2 hb2
             have HO3 := Lib.hid ho2
             have hbw3 := hbw2.trans hb2
             clear ho2 hb2)
          | fail)
        refine ⟨⟨k + 1, 0, ds ++ [u], by go_num, by first | rfl | (congr 1), by omega, by omega, Lib.hid (by rw [List.length_append, HL.out]; rfl), Lib.hid ?_, Lib.hid ?_, HU, hbw3⟩, by simp [intOf]; omega⟩
        · intro d hd
          rcases List.mem_append.1 hd with h | h
          · exact HD.out d h
          · rw [show d = u by simpa using h]; exact hu9
        · have := HO3.out
          unfold OwnZ at this
          unfold OwnV
          rw [List.map_append]
          simpa using this
    · obtain rfl : k = L := by omega
      have hne : ds ≠ [] := fun e => by
        have := HL.out
        rw [e] at this
        simp at this
        omega
      have hml : (ds.map fun d : Nat => (d : Int)).length = ds.length := by simp
      obtain ⟨g, c, rfl, ho⟩ := HO.out.form (fun e => hne (List.map_eq_nil_iff.1 e))
      have TX := Lib.hid (TD.out (some ⟨g, 0, none⟩) ds c wr (ho.ints rfl) (by rw [HL.out]; omega) hne HD.out)
      rw [HEND.out ds bo HL.out HD.out HV.out, HR.out] at TX
      rw [hml]
      clear HO HV ho hne hml
      go_wp2_with fail
      refine TX.out.mono ?_
      rintro e w1 ⟨rfl, hb1⟩
      go_wp2_with fail
      go_ret
      exact ⟨rfl, Nb hb hb1⟩
end Go.Proofs.YtkbncdcphohmiaaGreatDoor
