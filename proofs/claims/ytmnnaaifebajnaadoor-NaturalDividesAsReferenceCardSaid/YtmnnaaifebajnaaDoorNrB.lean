/- The reference of layer 4: Is, value, digit, trim, Order. -/
import Derived.Test.YtmnnaaifebajnaaDoorNrA
import Derived.Test.YtmnnaaifebajnaaDoorNaO
set_option linter.unusedSimpArgs false
set_option linter.unusedVariables false
namespace Go.Proofs.YtmnnaaifebajnaaDoor
open Go.RowKit
set_option maxRecDepth 100000

theorem ris_any (s : ByteArray) (w : World) (hs : s.size ≤ 1000) :
    Calls Tryd.prog 11 #[.string s] w fun e w' => e = .returned (.bool (isB s)) ∧ w = w' := by
  have NU := Lib.hid (number_any s w hs)
  unfold isB
  generalize Na.isN s.data.toList = b at *
  by_cases h : s.size ≤ 300
  · have h1 : (s.size : Int) ≤ 300 := by omega
    rw [decide_eq_true h, Bool.and_true]
    go_enter Tryd.func11, Tryd.ntmps11
    go_wp2_with fail
    refine NU.out.mono ?_
    rintro e w1 ⟨rfl, rfl⟩
    go_wp2_with fail
    go_ret
    exact ⟨rfl, rfl⟩
  · have h1 : ¬ (s.size : Int) ≤ 300 := by omega
    rw [decide_eq_false h, Bool.and_false]
    go_enter Tryd.func11, Tryd.ntmps11
    go_wp2_with fail
    go_ret
    exact ⟨rfl, rfl⟩

/- A text of digits: what stands at a place. -/
theorem dig_at (s : ByteArray) (k : Nat) (h : k < s.size) (hall : s.data.toList.all Na.isD = true) : ∃ d : Nat, d < 10 ∧ s[k].toNat = 48 + d ∧ d = Na.dv (s.data.toList.getD k 0) := by
  have hl : k < s.data.toList.length := by simpa using h
  have h1 : Na.isD (s.data.toList[k]) = true := List.all_eq_true.1 hall _ (List.getElem_mem _)
  have e : s[k] = s.data.toList[k] := rfl
  have h2 := (Na.isD_iff _).1 h1
  refine ⟨Na.dv (s.data.toList[k]), Na.dv_lt h1, ?_, ?_⟩
  · rw [e]
    unfold Na.dv
    omega
  · rw [List.getD_eq_getElem?_getD, List.getElem?_eq_getElem hl]
    rfl
theorem val_take1 (l : List UInt8) (k : Nat) (h : k < l.length) : Na.val (l.take (k + 1)) = Na.val (l.take k) * 10 + Na.dv (l.getD k 0) := by
  have e : l.take (k + 1) = l.take k ++ [l.getD k 0] := by
    rw [List.take_add_one, List.getElem?_eq_getElem h, List.getD_eq_getElem?_getD, List.getElem?_eq_getElem h]
    rfl
  rw [e, Na.val_snoc]
theorem val_take18 (l : List UInt8) (k : Nat) (hall : l.all Na.isD = true) (hk : k ≤ 18) : Na.val (l.take k) < 10 ^ 18 := by
  have h1 := Na.val_lt (l.take k) (List.all_eq_true.2 fun c hc => List.all_eq_true.1 hall c (List.mem_of_mem_take hc))
  have h2 : 10 ^ (l.take k).length ≤ 10 ^ 18 := Nat.pow_le_pow_right (by omega) (by rw [List.length_take]; omega)
  omega

set_option maxHeartbeats 1000000 in
theorem value_any (s : ByteArray) (w : World) (hs : s.size ≤ 18) (hall : s.data.toList.all Na.isD = true) :
    Calls Tryd.prog 55 #[.string s] w fun e w' => e = .returned (.int .i64 (Na.val s.data.toList : Int)) ∧ w = w' := by
  have hlen : s.data.toList.length = s.size := by simp
  have HD := Lib.hid (fun k h => dig_at s k h hall)
  have HT := Lib.hid (val_take1 s.data.toList)
  have HB := Lib.hid (fun k hk => val_take18 s.data.toList k hall hk)
  have HE := Lib.hid (show s.data.toList.take s.size = s.data.toList by rw [← hlen, List.take_length])
  rw [hlen] at HT
  generalize s.data.toList = l at *
  clear hall hlen
  go_enter Tryd.func55, Tryd.ntmps55
  go_wp2
  go_loop [3, 4] (fun v i => ∃ k x : Nat, i = .int .i64 (k : Int) ∧ v = .int .i64 (x : Int) ∧ k ≤ s.size ∧ x < 1000000000000000000 ∧ Hid (x = Na.val (l.take k))) (fun _ i => s.size - (intOf i).toNat)
  case atStart => exact ⟨0, 0, by first | rfl | (congr 1), by first | rfl | (congr 1), by omega, by omega, Lib.hid (by simp [Na.val_nil])⟩
  case round =>
    obtain ⟨k, x, rfl, rfl, hk, hx, HX⟩ := hrel
    by_cases hlt : k < s.size
    · obtain ⟨d, hd, hsd, hdv⟩ := HD.out k hlt
      have e1 := HT.out k hlt
      have e2 := HB.out (k + 1) (by omega)
      rw [e1, ← HX.out, ← hdv] at e2
      have HX2 : Hid (x * 10 + d = Na.val (l.take (k + 1))) := Lib.hid (by rw [e1, ← HX.out, ← hdv])
      have e3 : x * 10 + d < 1000000000000000000 := by omega
      clear e1 e2 HX hdv
      go_wp2
      exact ⟨⟨k + 1, x * 10 + d, by go_num, by go_num, by omega, e3, HX2⟩, by simp [intOf]; omega⟩
    · obtain rfl : k = s.size := by omega
      have HX2 : Hid (x = Na.val l) := Lib.hid (by rw [HX.out, HE.out])
      clear HX
      go_wp2
      go_ret
      rw [HX2.out]
      exact ⟨rfl, rfl⟩

theorem tx_all (m : Nat) : (tx m).data.toList.all Na.isD = true := by
  show (Lib.decDigits m).all Na.isD = true
  exact Na.dec_all m
theorem tx_val (m : Nat) : Na.val (tx m).data.toList = m := Na.val_dec m
theorem value_tx (m : Nat) (w : World) (hs : (tx m).size ≤ 18) :
    Calls Tryd.prog 55 #[.string (tx m)] w fun e w' => e = .returned (.int .i64 (m : Int)) ∧ w = w' := by
  have := value_any (tx m) w hs (tx_all m)
  rw [tx_val] at this
  exact this

theorem digit_tx (m i : Nat) (w : World) (hm : (tx m).size ≤ 1000) (hi : i ≤ 1000) :
    Calls Tryd.prog 56 #[.string (tx m), .int .i64 (i : Int)] w fun e w' => e = .returned (.int .i64 (Na.dgt m i : Int)) ∧ w = w' := by
  have hz : (tx m).size = (Lib.decDigits m).length := tx_size m
  by_cases h : i < (tx m).size
  · have hd := Na.dec_dgt m i (by omega)
    obtain ⟨j, hjj⟩ : ∃ j, j = (tx m).size - 1 - i := ⟨_, rfl⟩
    have hj : j < (tx m).size := by omega
    obtain ⟨d, hd10, hsd, hdv⟩ := dig_at (tx m) j hj (tx_all m)
    have e : d = Na.dgt m i := by
      rw [hdv, ← hd, ← hz, ← hjj]
      rfl
    have h1 : ¬ ((tx m).size : Int) ≤ (i : Int) := by omega
    have hw1 : IntKind.i64.wrap (((tx m).size : Int) - 1) = (((tx m).size - 1 : Nat) : Int) := by rw [IntKind.wrap_i64]; omega
    have hw2 : IntKind.i64.wrap ((((tx m).size - 1 : Nat) : Int) - (i : Int)) = (j : Int) := by rw [IntKind.wrap_i64]; omega
    rw [← e]
    clear hd hz hdv e hjj
    generalize tx m = s at *
    generalize s.size - 1 = q at *
    go_enter Tryd.func56, Tryd.ntmps56
    go_wp2
    go_ret
    exact ⟨by show Ending.returned (Value.int .i64 (48 + (d : Int) - 48)) = _; rw [show 48 + (d : Int) - 48 = (d : Int) by omega], rfl⟩
  · have h1 : ((tx m).size : Int) ≤ (i : Int) := by omega
    rw [Na.dgt_zero m i (by omega)]
    clear hz
    generalize tx m = s at *
    go_enter Tryd.func56, Tryd.ntmps56
    go_wp2
    go_ret
    exact ⟨rfl, rfl⟩

/- Leading zeros are cut. -/
theorem trim_step (l : List UInt8) (k : Nat) (h : k + 1 < l.length) (h0 : l.getD k 0 = 48) : Na.trimL (l.drop k) = Na.trimL (l.drop (k + 1)) := by
  have e1 : l.drop k = l.getD k 0 :: l.drop (k + 1) := by
    rw [List.getD_eq_getElem?_getD, List.getElem?_eq_getElem (by omega)]
    exact List.drop_eq_getElem_cons (by omega)
  have e2 : l.drop (k + 1) = l.getD (k + 1) 0 :: l.drop (k + 2) := by
    rw [List.getD_eq_getElem?_getD, List.getElem?_eq_getElem (by omega)]
    exact List.drop_eq_getElem_cons (by omega)
  rw [e1, h0, e2]
  conv => lhs; unfold Na.trimL
  rw [if_pos rfl]
theorem trim_stop (l : List UInt8) (k : Nat) (h : k + 1 < l.length) (h0 : l.getD k 0 ≠ 48) : Na.trimL (l.drop k) = l.drop k := by
  have e1 : l.drop k = l.getD k 0 :: l.drop (k + 1) := by
    rw [List.getD_eq_getElem?_getD, List.getElem?_eq_getElem (by omega)]
    exact List.drop_eq_getElem_cons (by omega)
  have e2 : l.drop (k + 1) = l.getD (k + 1) 0 :: l.drop (k + 2) := by
    rw [List.getD_eq_getElem?_getD, List.getElem?_eq_getElem (by omega)]
    exact List.drop_eq_getElem_cons (by omega)
  rw [e1, e2]
  unfold Na.trimL
  rw [if_neg h0]
theorem trim_one (l : List UInt8) (k : Nat) (h : k + 1 = l.length) : Na.trimL (l.drop k) = l.drop k := by
  have e1 : l.drop k = l.getD k 0 :: l.drop (k + 1) := by
    rw [List.getD_eq_getElem?_getD, List.getElem?_eq_getElem (by omega)]
    exact List.drop_eq_getElem_cons (by omega)
  rw [e1, show l.drop (k + 1) = [] by rw [h]; simp]
  rfl
theorem drop_bytes (s : ByteArray) (k : Nat) (h : k ≤ s.size) : s.extract k s.size = ⟨(s.data.toList.drop k).toArray⟩ := by
  apply ByteArray.ext
  apply Array.toList_inj.1
  rw [ByteArray.data_extract, Array.toList_extract]
  simp only [List.extract_eq_take_drop]
  have hl : s.data.toList.length = s.size := by simp
  exact List.take_of_length_le (by rw [List.length_drop, hl]; omega)

set_option maxHeartbeats 1000000 in
theorem trim_any (s : ByteArray) (w : World) (h0 : 0 < s.size) (hs : s.size ≤ 10000) :
    Calls Tryd.prog 64 #[.string s] w fun e w' => e = .returned (.string ⟨(Na.trimL s.data.toList).toArray⟩) ∧ w = w' := by
  have hlen : s.data.toList.length = s.size := by simp
  have HG : Hid (∀ k (h : k < s.size), s.data.toList.getD k 0 = s[k]) := Lib.hid (fun k h => by
    rw [List.getD_eq_getElem?_getD, List.getElem?_eq_getElem (by omega)]
    rfl)
  have HS := Lib.hid (trim_step s.data.toList)
  have HP := Lib.hid (trim_stop s.data.toList)
  have HO := Lib.hid (trim_one s.data.toList)
  have HB := Lib.hid (drop_bytes s)
  have H0 : Hid (Na.trimL (s.data.toList.drop 0) = Na.trimL s.data.toList) := Lib.hid rfl
  rw [hlen] at HS HP HO
  generalize Na.trimL s.data.toList = R at *
  generalize s.data.toList = l at *
  clear hlen
  obtain ⟨q, hq⟩ : ∃ q, q = s.size - 1 := ⟨_, rfl⟩
  have hw1 : IntKind.i64.wrap ((s.size : Int) - 1) = (q : Int) := by rw [IntKind.wrap_i64]; omega
  have HQ := Lib.hid hq
  have hqs : q < s.size := by omega
  clear hq
  go_enter Tryd.func64, Tryd.ntmps64
  go_wp2
  go_loop [3] (fun i => ∃ k : Nat, i = .int .i64 (k : Int) ∧ k ≤ q ∧ Hid (Na.trimL (l.drop k) = R)) (fun i => q - (intOf i).toNat)
  case atStart => exact ⟨0, by first | rfl | (congr 1), by omega, H0⟩
  case round =>
    obtain ⟨k, rfl, hk, HK⟩ := hrel
    have hks : k < s.size := by omega
    have hsl : (k : Int) ≤ (s.size : Int) := by omega
    by_cases hlt : k < q
    · have hlt2 : (k : Int) < (q : Int) := by omega
      by_cases h48 : s[k].toNat = 48
      · have HK2 : Hid (Na.trimL (l.drop (k + 1)) = R) := Lib.hid (by
          rw [← HK.out]
          exact (HS.out k (by have := HQ.out; omega) (by rw [HG.out k hks]; exact UInt8.toNat_inj.1 h48)).symm)
        clear HK
        go_wp2
        exact ⟨⟨k + 1, by go_num, by omega, HK2⟩, by simp [intOf]; omega⟩
      · have HF : Hid (s.extract k s.size = ⟨R.toArray⟩) := Lib.hid (by
          rw [HB.out k (by omega), ← HK.out, HP.out k (by have := HQ.out; omega) (by
            rw [HG.out k hks]
            intro e
            rw [e] at h48
            exact h48 rfl)])
        have h4b : (((s[k].toNat : Nat) : Int) == 48) = false := by simp; omega
        clear HK
        go_wp2
        go_ret
        rw [HF.out]
        exact ⟨rfl, rfl⟩
    · obtain rfl : k = q := by omega
      have HF : Hid (s.extract k s.size = ⟨R.toArray⟩) := Lib.hid (by
        rw [HB.out k (by omega), ← HK.out, HO.out k (by have := HQ.out; omega)])
      clear HK
      go_wp2
      go_ret
      rw [HF.out]
      exact ⟨rfl, rfl⟩

theorem trim_digits (l : List UInt8) (w : World) (h0 : l ≠ []) (hs : l.length ≤ 10000) (hall : l.all Na.isD = true) :
    Calls Tryd.prog 64 #[.string ⟨l.toArray⟩] w fun e w' => e = .returned (.string (tx (Na.val l))) ∧ w = w' := by
  have hz : (⟨l.toArray⟩ : ByteArray).size = l.length := bsizeN _
  have := trim_any ⟨l.toArray⟩ w (by rw [hz]; exact List.length_pos_iff.2 h0) (by omega)
  rw [show (⟨l.toArray⟩ : ByteArray).data.toList = l from rfl, Na.trimL_dec l h0 hall] at this
  exact this

/- The order of two numbers. -/
theorem order_tx (m n : Nat) (w : World) (hm : (tx m).size ≤ 10000) (hn : (tx n).size ≤ 10000) :
    Calls Tryd.prog 25 #[.string (tx m), .string (tx n)] w fun e w' => e = .returned (.int .i64 (cmpN m n)) ∧ w = w' := by
  have hzm : (tx m).size = (Lib.decDigits m).length := tx_size m
  have hzn : (tx n).size = (Lib.decDigits n).length := tx_size n
  by_cases h1 : (tx m).size < (tx n).size
  · have hlt := Na.len_lt m n (by omega)
    have e : cmpN m n = -1 := by unfold cmpN; rw [if_pos hlt]
    have h1' : ((tx m).size : Int) < ((tx n).size : Int) := by omega
    rw [e]
    clear hzm hzn hlt e
    generalize tx m = s at *
    generalize tx n = t at *
    go_enter Tryd.func25, Tryd.ntmps25
    go_wp2
    go_ret
    exact ⟨rfl, rfl⟩
  · by_cases h2 : (tx m).size = (tx n).size
    · have hless : Op.bytesLess (tx m).toList (tx n).toList = decide (m < n) := by
        rw [ByteArray.toList_eq, ByteArray.toList_eq, Na.less_val _ _ (tx_all m) (tx_all n) (by simpa using h2), tx_val, tx_val]
      have heq : ((tx m).toList == (tx n).toList) = decide (m = n) := by
        by_cases e : m = n
        · rw [e]; simp
        · rw [decide_eq_false e]
          exact bytes_ne (fun k => e (tx_inj k))
      have h1' : ¬ ((tx m).size : Int) < ((tx n).size : Int) := by omega
      have h2' : (((tx m).size : Int) == ((tx n).size : Int)) = true := by simp; omega
      have h2'' : ((tx m).size : Int) = ((tx n).size : Int) := by omega
      by_cases hlt : m < n
      · have e : cmpN m n = -1 := by unfold cmpN; rw [if_pos hlt]
        rw [decide_eq_true hlt] at hless
        rw [e]
        clear hzm hzn e heq
        generalize tx m = s at *
        generalize tx n = t at *
        go_enter Tryd.func25, Tryd.ntmps25
        go_wp2
        go_ret
        exact ⟨rfl, rfl⟩
      · rw [decide_eq_false hlt] at hless
        by_cases he : m = n
        · have e : cmpN m n = 0 := by unfold cmpN; rw [if_neg hlt, if_neg (by omega)]
          rw [decide_eq_true he] at heq
          rw [e]
          clear hzm hzn e he
          generalize tx m = s at *
          generalize tx n = t at *
          go_enter Tryd.func25, Tryd.ntmps25
          go_wp2
          go_ret
          exact ⟨rfl, rfl⟩
        · have e : cmpN m n = 1 := by unfold cmpN; rw [if_neg hlt, if_pos (by omega)]
          rw [decide_eq_false he] at heq
          rw [e]
          clear hzm hzn e he
          generalize tx m = s at *
          generalize tx n = t at *
          go_enter Tryd.func25, Tryd.ntmps25
          go_wp2
          go_ret
          exact ⟨rfl, rfl⟩
    · have hlt := Na.len_lt n m (by omega)
      have e : cmpN m n = 1 := by unfold cmpN; rw [if_neg (by omega), if_pos hlt]
      have h1' : ¬ ((tx m).size : Int) < ((tx n).size : Int) := by omega
      have h2' : (((tx m).size : Int) == ((tx n).size : Int)) = false := by simp; omega
      have h2'' : ¬ ((tx m).size : Int) = ((tx n).size : Int) := by omega
      have heq : ((tx m).toList == (tx n).toList) = false := bytes_ne (fun k => h2 (by rw [k]))
      rw [e]
      clear hzm hzn hlt e
      generalize tx m = s at *
      generalize tx n = t at *
      go_enter Tryd.func25, Tryd.ntmps25
      go_wp2
      go_ret
      exact ⟨rfl, rfl⟩
end Go.Proofs.YtmnnaaifebajnaaDoor
