/- The reference's Parse (layer 6). -/
import Derived.Test.YtkkgefefbamcpaaDoorClRc
import Derived.Test.YtkkgefefbamcpaaDoorClTxW
import Derived.Deep.QuietTactic
import Derived.BigQuiet
set_option linter.unusedSimpArgs false
set_option linter.unusedVariables false
namespace Go.Proofs.YtkkgefefbamcpaaDoor
open Go.RowKit
set_option maxRecDepth 100000

/-- The byte of a text at a place, as a number. -/
def Cl.ch (s : ByteArray) (i : Nat) : Nat := (s.data.toList.getD i 0).toNat
theorem Cl.ch_eq {s : ByteArray} {i : Nat} (h : i < s.size) : s[i].toNat = Cl.ch s i := by
  have hl : s.data.toList.length = s.size := Array.length_toList
  have e : s[i] = s.data.toList[i]'(by rw [hl]; exact h) := rfl
  unfold Cl.ch
  rw [e, List.getD_eq_getElem?_getD, List.getElem?_eq_getElem (by rw [hl]; exact h)]
  rfl
/-- The form of a text of an instant. -/
theorem Cl.txt_form {t : Nat} (h : t ≤ 144001439) : ∃ k, 1 ≤ k ∧ k ≤ 6 ∧ (Cl.txt t).size = k + 6 ∧ (Cl.txt t).data.toList.take k = Lib.decDigits (t / 1440) ∧
    (∀ j, j < k → 48 ≤ Cl.ch (Cl.txt t) j ∧ Cl.ch (Cl.txt t) j ≤ 57) ∧
    Cl.ch (Cl.txt t) (k + 1) = 48 + t % 1440 / 60 / 10 ∧ Cl.ch (Cl.txt t) (k + 2) = 48 + t % 1440 / 60 % 10 ∧ Cl.ch (Cl.txt t) (k + 4) = 48 + t % 1440 % 60 / 10 ∧ Cl.ch (Cl.txt t) (k + 5) = 48 + t % 1440 % 60 % 10 := by
  obtain ⟨h1, h2⟩ := Cl.txl_len h
  have hpos : 1 ≤ (Lib.decDigits (t / 1440)).length := by
    have := Na.dec_ne (t / 1440)
    cases hd : Lib.decDigits (t / 1440) with
    | nil => exact absurd hd this
    | cons c r => simp
  refine ⟨(Lib.decDigits (t / 1440)).length, hpos, h2, ?_, ?_, ?_, ?_⟩
  · unfold Cl.txt
    rw [Cl.bsize]
    exact h1
  · rw [Cl.txt_list]
    unfold Cl.txl
    simp
  · intro j hj
    unfold Cl.ch
    rw [Cl.txt_list]
    unfold Cl.txl
    rw [List.getD_eq_getElem?_getD, List.getElem?_append_left hj, List.getElem?_eq_getElem hj]
    have := (Na.isD_iff _).1 (List.all_eq_true.1 (Na.dec_all (t / 1440)) _ (List.getElem_mem hj))
    simpa using this
  · have hg : ∀ i, (Cl.txl t).getD ((Lib.decDigits (t / 1440)).length + i) 0 = (47 :: (Cl.tw (t % 1440 / 60) ++ 58 :: Cl.tw (t % 1440 % 60))).getD i 0 := fun i => by
      unfold Cl.txl
      rw [List.getD_eq_getElem?_getD, List.getElem?_append_right (by omega), Nat.add_sub_cancel_left, List.getD_eq_getElem?_getD]
    unfold Cl.ch
    rw [Cl.txt_list, hg, hg, hg, hg, Cl.tw_lt (by omega), Cl.tw_lt (by omega)]
    have hv : ∀ n, n < 10 → (UInt8.ofNat (48 + n)).toNat = 48 + n := fun n hn => by rw [UInt8.toNat_ofNat']; omega
    refine ⟨hv _ (by omega), hv _ (by omega), hv _ (by omega), hv _ (by omega)⟩

/-- A text that has not the form of a text of an instant is none. -/
theorem Cl.parse_bad {s : ByteArray} (h : ∀ k, 1 ≤ k → k ≤ 6 → s.size = k + 6 → (∃ j, (j < k ∨ j = k + 1 ∨ j = k + 2 ∨ j = k + 4 ∨ j = k + 5) ∧ ¬ (48 ≤ Cl.ch s j ∧ Cl.ch s j ≤ 57))) : Cl.parseF s = (0, 5) := by
  refine Cl.parseF_not fun t ht he => ?_
  obtain ⟨k, k1, k2, k3, k4, k5, k6, k7, k8, k9⟩ := Cl.txt_form ht
  rw [he] at k3 k5 k6 k7 k8 k9
  obtain ⟨j, hj, hn⟩ := h k k1 k2 k3
  rcases hj with hj | rfl | rfl | rfl | rfl
  · exact hn (k5 j hj)
  · exact hn (by omega)
  · exact hn (by omega)
  · exact hn (by omega)
  · exact hn (by omega)
/-- A text of this form: the instant that is read from it, if its text is this one. -/
theorem Cl.parse_form {s : ByteArray} {k d1 d2 d4 d5 : Nat} (hs : s.size = k + 6) (h1 : Cl.ch s (k + 1) = 48 + d1) (h2 : Cl.ch s (k + 2) = 48 + d2) (h4 : Cl.ch s (k + 4) = 48 + d4) (h5 : Cl.ch s (k + 5) = 48 + d5) (t : Nat)
    (ht : t = Na.val (s.data.toList.take k) * 1440 + 60 * (10 * d1 + d2) + 10 * d4 + d5) :
    (t ≤ 144001439 ∧ Cl.txt t = s ∧ Cl.parseF s = ((t : Int), 0)) ∨ ((¬ t ≤ 144001439 ∨ Cl.txt t ≠ s) ∧ Cl.parseF s = (0, 5)) := by
  by_cases hx : ∃ u : Nat, u ≤ 144001439 ∧ Cl.txt u = s
  · obtain ⟨u, hu, rfl⟩ := hx
    obtain ⟨k', k1, k2, k3, k4, k5, k6, k7, k8, k9⟩ := Cl.txt_form hu
    obtain rfl : k' = k := by omega
    rw [k4, Na.val_dec] at ht
    obtain rfl : t = u := by omega
    exact .inl ⟨hu, rfl, Cl.parseF_txt hu⟩
  · refine .inr ⟨?_, Cl.parseF_not fun u h1 h2 => hx ⟨u, h1, h2⟩⟩
    by_cases hle : t ≤ 144001439
    · exact .inr fun he => hx ⟨t, hle, he⟩
    · exact .inl hle
theorem Cl.val_step {s : ByteArray} {j d : Nat} (hj : j < s.size) (h : Cl.ch s j = 48 + d) : Na.val (s.data.toList.take (j + 1)) = Na.val (s.data.toList.take j) * 10 + d := by
  have hl : s.data.toList.length = s.size := Array.length_toList
  have e : s.data.toList.take (j + 1) = s.data.toList.take j ++ [s.data.toList.getD j 0] := by
    rw [List.take_add_one, List.getD_eq_getElem?_getD, List.getElem?_eq_getElem (by rw [hl]; exact hj)]
    rfl
  rw [e, Na.val_snoc]
  unfold Cl.ch at h
  unfold Na.dv
  omega

theorem Cl.index_str (s : ByteArray) (i : Nat) (h : i < s.size) (x : Int) (hx : x = (i : Int)) (c : Int) (hc : (Cl.ch s i : Int) = c) (w : World) : Sem.run Tryd.prog (Instr.index 9 (.string s) (.int .i64 x)) w = .ok (.int .u8 c) w := by
  have hu : Tryd.prog.underlying 9 = some .string := Tryd.underlying9
  have hg : s[i]? = some s[i] := getElem?_pos s i h
  have he := Cl.ch_eq h
  subst hx
  unfold Instr.index
  simp [go_sem, hu, hg, he, hc]

theorem Cl.wrap8 {d : Nat} (h : d < 10) : IntKind.u8.wrap (48 + (d : Int) - 48) = (d : Int) := by
  rw [show 48 + (d : Int) - 48 = (d : Int) by omega]
  unfold IntKind.wrap
  simp [IntKind.signed, IntKind.bits, IntKind.min, IntKind.max]
  omega
theorem Cl.arith (n d1 d2 d4 d5 : Nat) (hn : n < 1000000) (b1 : d1 < 10) (b2 : d2 < 10) (b4 : d4 < 10) (b5 : d5 < 10) :
    IntKind.i64.wrap (IntKind.i64.wrap (IntKind.i64.wrap (IntKind.i64.wrap (↑n * 1440) + IntKind.i64.wrap (60 * IntKind.i64.wrap (IntKind.i64.wrap (10 * IntKind.i64.wrap (IntKind.u8.wrap (48 + ↑d1 - 48))) + IntKind.i64.wrap (IntKind.u8.wrap (48 + ↑d2 - 48))))) + IntKind.i64.wrap (10 * IntKind.i64.wrap (IntKind.u8.wrap (48 + ↑d4 - 48)))) + IntKind.i64.wrap (IntKind.u8.wrap (48 + ↑d5 - 48))) = ↑n * 1440 + 60 * (10 * (48 + ↑d1 - 48) + (48 + ↑d2 - 48)) + 10 * (48 + ↑d4 - 48) + (48 + ↑d5 - 48) := by
  rw [Cl.wrap8 b1, Cl.wrap8 b2, Cl.wrap8 b4, Cl.wrap8 b5]
  have w : ∀ x : Int, -100000000000 ≤ x → x ≤ 100000000000 → IntKind.i64.wrap x = x := fun x h1 h2 => Cl.wrapK (by omega)
  rw [w (d1 : Int) (by omega) (by omega), w (d2 : Int) (by omega) (by omega), w (d4 : Int) (by omega) (by omega), w (d5 : Int) (by omega) (by omega), w (10 * (d1 : Int)) (by omega) (by omega), w (10 * (d4 : Int)) (by omega) (by omega), w (10 * (d1 : Int) + (d2 : Int)) (by omega) (by omega), w (60 * (10 * (d1 : Int) + (d2 : Int))) (by omega) (by omega), w ((n : Int) * 1440) (by omega) (by omega), w ((n : Int) * 1440 + 60 * (10 * (d1 : Int) + (d2 : Int))) (by omega) (by omega), w ((n : Int) * 1440 + 60 * (10 * (d1 : Int) + (d2 : Int)) + 10 * (d4 : Int)) (by omega) (by omega), w ((n : Int) * 1440 + 60 * (10 * (d1 : Int) + (d2 : Int)) + 10 * (d4 : Int) + (d5 : Int)) (by omega) (by omega)]
  omega
theorem rparse_size (s : ByteArray) (w : World) (hm : s.size ≤ maxLen) (h : s.size < 7 ∨ 12 < s.size) :
    Calls Tryd.prog 21 #[.string s] w fun e w' => e = .returned (.tuple #[.int .i64 (Cl.parseF s).1, .int .i64 (Cl.parseF s).2]) ∧ Below w.heap.size w w' := by
  rw [Cl.parse_bad (s := s) (fun k k1 k2 k3 => absurd k3 (by omega))]
  unfold maxLen at hm
  rcases h with h | h
  · go_enter Tryd.func21, Tryd.ntmps21
    go_wp2
    go_ret2
    exact ⟨rfl, Below.refl _ _⟩
  · have g : decide ((s.size : Int) - 6 < 1) = false := decide_eq_false (by omega)
    go_enter Tryd.func21, Tryd.ntmps21
    go_wp2
    go_ret2
    exact ⟨rfl, Below.refl _ _⟩

set_option maxHeartbeats 8000000 in
theorem rparse_form (s : ByteArray) (k : Nat) (w : World) (hs : s.size = k + 6) (k1 : 1 ≤ k) (k2 : k ≤ 6) :
    Calls Tryd.prog 21 #[.string s] w fun e w' => e = .returned (.tuple #[.int .i64 (Cl.parseF s).1, .int .i64 (Cl.parseF s).2]) ∧ Below w.heap.size w w' := by
  have CH := Lib.hid (fun i (h : i < s.size) => Cl.ch_eq h)
  have BAD := Lib.hid (fun j (hj : j < k ∨ j = k + 1 ∨ j = k + 2 ∨ j = k + 4 ∨ j = k + 5) (hn : ¬ (48 ≤ Cl.ch s j ∧ Cl.ch s j ≤ 57)) => Cl.parse_bad (s := s) (fun k' _ _ h3 => ⟨j, by rw [show k' = k by omega]; exact hj, hn⟩))
  have FORM := Lib.hid (fun d1 d2 d4 d5 h1 h2 h4 h5 t ht => Cl.parse_form (s := s) (k := k) (d1 := d1) (d2 := d2) (d4 := d4) (d5 := d5) hs h1 h2 h4 h5 t ht)
  have STEP := Lib.hid (fun j d (hj : j < s.size) h => Cl.val_step (s := s) (j := j) (d := d) hj h)
  have hsI : (s.size : Int) - 6 = (k : Int) := by omega
  have HS := Lib.hid hs
  have TX := Lib.hid (fun t v => rtext_any t v)
  have hlt : k + 5 < s.size := by omega
  clear hs
  generalize Cl.parseF s = res at *
  go_enter Tryd.func21, Tryd.ntmps21
  go_wp2_with fail
  go_loopw [5, 6] (fun v i wr => wr = w ∧ ∃ (j n : Nat), j ≤ k ∧ i = .int .i64 (j : Int) ∧ v = .int .i64 (n : Int) ∧ n < 10 ^ j ∧ Hid (Na.val (s.data.toList.take j) = n)) (fun _ i _ => k - (intOf i).toNat)
  case atStart => exact ⟨rfl, 0, 0, by omega, rfl, rfl, by decide, Lib.hid rfl⟩
  case round =>
    obtain ⟨rfl, j, n, hj, rfl, rfl, hn, HV⟩ := hrel
    have hnB : n < 1000000 := Nat.lt_of_lt_of_le hn (Nat.le_trans (Nat.pow_le_pow_right (by omega) (show j ≤ 6 by omega)) (by decide))
    by_cases hlt : j < k
    · have hjs : j < s.size := by omega
      have hch := CH.out j hjs
      obtain ⟨cc, hcc⟩ : ∃ cc, cc = Cl.ch s j := ⟨_, rfl⟩
      rw [← hcc] at hch
      have HC := Lib.hid hcc
      clear hcc
      by_cases h0 : cc < 48
      · have HP := Lib.hid (BAD.out j (.inl hlt) (by rw [← HC.out]; omega))
        clear hn hnB
        go_wp2_with fail
        go_ret2
        exact ⟨by rw [HP.out]; rfl, Below.refl _ _⟩
      · by_cases h9 : 57 < cc
        · have HP := Lib.hid (BAD.out j (.inl hlt) (by rw [← HC.out]; omega))
          clear hn hnB
          go_wp2_with fail
          go_ret2
          exact ⟨by rw [HP.out]; rfl, Below.refl _ _⟩
        · obtain ⟨dd, rfl⟩ : ∃ dd, cc = 48 + dd := ⟨cc - 48, by omega⟩
          have hdd : dd < 10 := by omega
          have HN := Lib.hid (show Na.val (s.data.toList.take (j + 1)) = 10 * n + dd by rw [STEP.out j dd hjs HC.out.symm, HV.out]; omega)
          have HB := Lib.hid (show 10 * n + dd < 10 ^ (j + 1) by rw [Nat.pow_succ]; omega)
          clear hn h0 h9
          go_wp2_with fail
          go_roundw
          case rel => exact ⟨by first | rfl | trivial, j + 1, 10 * n + dd, by omega, by go_num, by go_num, HB.out, HN⟩
          case measure => simp [intOf]; omega
    · obtain rfl : j = k := by omega
      clear hlt hn
      go_wp2_with fail
      go_loopw [7] (fun i wv => wv = wr ∧ ∃ m : Nat, 1 ≤ m ∧ m ≤ 6 ∧ i = .int .i64 (m : Int) ∧ Hid (∀ a, 1 ≤ a → a < m → a ≠ 3 → 48 ≤ Cl.ch s (j + a) ∧ Cl.ch s (j + a) ≤ 57)) (fun i _ => 6 - (intOf i).toNat)
      case atStart => exact ⟨rfl, 1, by omega, by omega, rfl, Lib.hid (fun a h1 h2 => absurd h1 (by omega))⟩
      case round =>
        obtain ⟨rfl, m, m1, m2, rfl, HM⟩ := hrel
        by_cases hm6 : m < 6
        · by_cases hm3 : m = 3
          · subst hm3
            have HN := Lib.hid (fun a h1 (h2 : a < 4) h3 => HM.out a h1 (by omega) h3)
            rw [show ((3 : Nat) : Int) = 3 from rfl]
            go_wp2_with fail
            go_roundw
            case rel => exact ⟨by first | rfl | trivial, 4, by omega, by omega, by rfl, HN⟩
            case measure => simp [intOf]
          · have hjs : j + m < s.size := by omega
            have hch := CH.out (j + m) hjs
            have hm3' : ((m : Int) != 3) = true := by simp; omega
            obtain ⟨cc, hcc⟩ : ∃ cc, cc = Cl.ch s (j + m) := ⟨_, rfl⟩
            rw [← hcc] at hch
            have HC := Lib.hid hcc
            have hmm : j + m < j ∨ j + m = j + 1 ∨ j + m = j + 2 ∨ j + m = j + 4 ∨ j + m = j + 5 := by omega
            have HMM := Lib.hid hmm
            clear hcc hmm
            by_cases h0 : cc < 48
            · have HP := Lib.hid (BAD.out (j + m) HMM.out (by rw [← HC.out]; omega))
              clear hm3
              go_wp2_with fail
              go_ret2
              exact ⟨by rw [HP.out]; rfl, Below.refl _ _⟩
            · by_cases h9 : 57 < cc
              · have HP := Lib.hid (BAD.out (j + m) HMM.out (by rw [← HC.out]; omega))
                clear hm3
                go_wp2_with fail
                go_ret2
                exact ⟨by rw [HP.out]; rfl, Below.refl _ _⟩
              · have HN := Lib.hid (fun a h1 (h2 : a < m + 1) h3 => (by
                  rcases Nat.lt_or_ge a m with h | h
                  · exact HM.out a h1 h h3
                  · obtain rfl : a = m := by omega
                    rw [← HC.out]
                    omega : 48 ≤ Cl.ch s (j + a) ∧ Cl.ch s (j + a) ≤ 57))
                clear hm3
                go_wp2_with fail
                go_roundw
                case rel => exact ⟨by first | rfl | trivial, m + 1, by omega, by omega, by go_num, HN⟩
                case measure => simp [intOf]; omega
        · obtain rfl : m = 6 := by omega
          have a1 := HM.out 1 (by omega) (by omega) (by omega)
          have a2 := HM.out 2 (by omega) (by omega) (by omega)
          have a4 := HM.out 4 (by omega) (by omega) (by omega)
          have a5 := HM.out 5 (by omega) (by omega) (by omega)
          obtain ⟨d1, e1⟩ : ∃ d, Cl.ch s (j + 1) = 48 + d := ⟨Cl.ch s (j + 1) - 48, by omega⟩
          obtain ⟨d2, e2⟩ : ∃ d, Cl.ch s (j + 2) = 48 + d := ⟨Cl.ch s (j + 2) - 48, by omega⟩
          obtain ⟨d4, e4⟩ : ∃ d, Cl.ch s (j + 4) = 48 + d := ⟨Cl.ch s (j + 4) - 48, by omega⟩
          obtain ⟨d5, e5⟩ : ∃ d, Cl.ch s (j + 5) = 48 + d := ⟨Cl.ch s (j + 5) - 48, by omega⟩
          have b1 : d1 < 10 := by omega
          have b2 : d2 < 10 := by omega
          have b4 : d4 < 10 := by omega
          have b5 : d5 < 10 := by omega
          have HF := Lib.hid (FORM.out d1 d2 d4 d5 e1 e2 e4 e5 (n * 1440 + 60 * (10 * d1 + d2) + 10 * d4 + d5) (by rw [HV.out]))
          have x1 := fun w => Cl.index_str s (j + 1) (by omega) (IntKind.i64.wrap ((j : Int) + 1)) (by rw [IntKind.wrap_i64]; omega) (48 + (d1 : Int)) (by omega) w
          have x2 := fun w => Cl.index_str s (j + 2) (by omega) (IntKind.i64.wrap ((j : Int) + 2)) (by rw [IntKind.wrap_i64]; omega) (48 + (d2 : Int)) (by omega) w
          have x4 := fun w => Cl.index_str s (j + 4) (by omega) (IntKind.i64.wrap ((j : Int) + 4)) (by rw [IntKind.wrap_i64]; omega) (48 + (d4 : Int)) (by omega) w
          have x5 := fun w => Cl.index_str s (j + 5) (by omega) (IntKind.i64.wrap ((j : Int) + 5)) (by rw [IntKind.wrap_i64]; omega) (48 + (d5 : Int)) (by omega) w
          clear a1 a2 a4 a5 e1 e2 e4 e5 hm6 m1 m2 HM
          rw [show ((6 : Nat) : Int) = 6 from rfl]
          go_wp2_with fail
          go_quiet (fail)
          go_wp2_with fail
          rw [show (↑n * 1440 + 60 * (10 * (48 + ↑d1 - 48) + (48 + ↑d2 - 48)) + 10 * (48 + ↑d4 - 48) + (48 + ↑d5 - 48) : Int) = ((n * 1440 + 60 * (10 * d1 + d2) + 10 * d4 + d5 : Nat) : Int) by omega]
          have hbq := Cl.drewN_below wr nq
          have hte : ((n * 1440 + 60 * (10 * d1 + d2) + 10 * d4 + d5 : Nat) : Int) = ↑n * 1440 + 60 * (10 * (48 + ↑d1 - 48) + (48 + ↑d2 - 48)) + 10 * (48 + ↑d4 - 48) + (48 + ↑d5 - 48) := by omega
          generalize n * 1440 + 60 * (10 * d1 + d2) + 10 * d4 + d5 = t at *
          have HTE := Lib.hid hte
          clear hte
          refine (TX.out (t : Int) _).mono ?_
          rintro e w3 ⟨rfl, hb3⟩
          have hb := Cl.Nb hbq hb3
          clear hb3 hbq
          rcases HF.out with ⟨h1, h2, h3⟩ | ⟨h1 | h2, h3⟩
          · have HP := Lib.hid h3
            rw [Cl.textF_ok h1, h2]
            clear h1 h2 h3 x1 x2 x4 x5
            go_wp2_with fail
            go_ret2
            refine ⟨?_, hb⟩
            rw [HP.out]
            exact congrArg (fun z : Int => Ending.returned (.tuple #[.int .i64 z, .int .i64 0])) ((Cl.arith n d1 d2 d4 d5 hnB b1 b2 b4 b5).trans HTE.out.symm)
          · have HP := Lib.hid h3
            rw [Cl.textF_bad (by omega)]
            clear h1 h3 x1 x2 x4 x5
            go_wp2_with fail
            go_ret2
            exact ⟨by rw [HP.out]; rfl, hb⟩
          · by_cases h1 : t ≤ 144001439
            · have HP := Lib.hid h3
              rw [Cl.textF_ok h1]
              have hne := Cl.bytes_ne h2
              clear h1 h2 h3 x1 x2 x4 x5
              generalize Cl.txt t = own at *
              go_wp2_with fail
              go_ret2
              exact ⟨by rw [HP.out]; rfl, hb⟩
            · have HP := Lib.hid h3
              rw [Cl.textF_bad (by omega)]
              clear h1 h2 h3 x1 x2 x4 x5
              go_wp2_with fail
              go_ret2
              exact ⟨by rw [HP.out]; rfl, hb⟩

/-- The reference's Parse at every text. -/
theorem rparse_any (s : ByteArray) (w : World) (hm : s.size ≤ maxLen) :
    Calls Tryd.prog 21 #[.string s] w fun e w' => e = .returned (.tuple #[.int .i64 (Cl.parseF s).1, .int .i64 (Cl.parseF s).2]) ∧ Below w.heap.size w w' := by
  by_cases h : s.size < 7 ∨ 12 < s.size
  · exact rparse_size s w hm h
  · exact rparse_form s (s.size - 6) w (by omega) (by omega) (by omega)
end Go.Proofs.YtkkgefefbamcpaaDoor
