/- Layer 9: the program's Fold and Valid. -/
import Derived.Test.YtcjlnmfbanknhaaDoorNmI
import Derived.Test.YtcjlnmfbanknhaaDoorNmH
set_option linter.unusedSimpArgs false
set_option linter.unusedVariables false
namespace Go.Proofs.YtcjlnmfbanknhaaDoor
open Go.RowKit Go.Shelf
set_option maxRecDepth 100000
set_option maxHeartbeats 1000000

theorem Nm.flat_le (s : Nat) : ∀ l, (Nm.rd s l).1.flatten.length ≤ 2 * (Nm.rd s l).1.length := by
  refine Nm.ind s (fun l h => by rw [Nm.rd_stop h]; simp) (fun l h ih => ?_)
  have := Nm.ln_two s l
  rw [Nm.rd_step h, List.flatten_cons, List.length_append, List.length_cons, List.length_take]
  omega
theorem Nm.isW_len {s : Nat} {w : Nm.T} (h : Nm.isW s w = true) : w.length ≤ 24 := by
  have h1 := Nm.flat_le s w
  have h2 := Nm.ls_sum h
  have h3 := (Nm.isW_iff.1 h).2.2
  unfold Nm.ls at h2 h3
  rw [h2] at h1
  omega

theorem Nm.fold_ok (k : Int) (word : ByteArray) (w : World) (hw : Nm.isW (Nm.sc k) word.data.toList = true) (hm : word.size ≤ maxLen) (h : Nm.Tb w.heap.size w) :
    Calls Tryd.prog 9 #[.int .i64 k, .string word] w fun e w' => e = .returned (.tuple #[.string (Nm.bt (word.data.toList.map Nm.low)), .int .i64 0]) ∧ Below w.heap.size w w' := by
  have hl := Nm.isW_len hw
  rw [← Lib.size_eq] at hl
  have L1 := Lib.hid (Nm.letters_ok k word w hw hm h)
  have L2 := Lib.hid (fun v => Nm.lower_any word v (by omega) (Nm.word_ascii hw))
  obtain ⟨r, hr⟩ : ∃ r, Nm.bt (word.data.toList.map Nm.low) = r := ⟨_, rfl⟩
  rw [hr] at L2 ⊢
  clear hr
  go_enter Tryd.func9, Tryd.ntmps9
  go_wp2_with fail
  refine L1.out.mono ?_
  rintro e w1 ⟨v, rfl, _, hb1⟩
  go_wp2_with fail
  refine (L2.out w1).mono ?_
  rintro e w2 ⟨rfl, hb2⟩
  go_wp2
  go_ret2
  exact ⟨rfl, Nm.Nb hb1 hb2⟩
theorem Nm.fold_bad (k : Int) (word : ByteArray) (w : World) (hw : Nm.isW (Nm.sc k) word.data.toList = false) (hm : word.size ≤ maxLen) (h : Nm.Tb w.heap.size w) :
    Calls Tryd.prog 9 #[.int .i64 k, .string word] w fun e w' => e = .returned (.tuple #[.string ⟨#[]⟩, .int .i64 1]) ∧ Below w.heap.size w w' := by
  have L1 := Lib.hid (Nm.letters_bad k word w hw hm h)
  go_enter Tryd.func9, Tryd.ntmps9
  go_wp2_with fail
  refine L1.out.mono ?_
  rintro e w1 ⟨rfl, hb1⟩
  go_wp2
  go_ret2
  exact ⟨rfl, hb1⟩

theorem Nm.sbt {w w' : World} {A : Option Addr} {ss : List ByteArray} (h : Strs w w.heap.size A ss) (hb : Below w.heap.size w w') : Strs w' w'.heap.size A ss := fun k hk => by
  obtain ⟨ad, rfl, hlt, hc⟩ := h k hk
  exact ⟨ad, rfl, Nat.lt_of_lt_of_le hlt hb.size, (hb.cell (p := ad.add k) (by rw [add_block]; exact hlt)).trans hc⟩
/-! ### Valid -/
def Nm.NmBox (W : World) (b : Nat) (k : Int) (v : Value) : Prop := W.heap[b]? = some (.cells #[.int .i64 k, v] 24 (0, 0))
theorem Nm.valid1 (k : Int) (x : ByteArray) (v : Value) (b : Nat) (w : World) (hb : Nm.NmBox w b k v) (hm : x.size ≤ maxLen) (h : Nm.Tb w.heap.size w) :
    Calls Tryd.prog 30 #[.string x, .pointer (some ⟨b, 0, none⟩)] w fun e w' => e = .returned (.bool (!Nm.isW (Nm.sc k) x.data.toList)) ∧ Below w.heap.size w w' := by
  have hc : w.cell? ⟨b, 0, none⟩ = some (.int .i64 k) := by unfold Nm.NmBox at hb; simp [World.cell?, hb]
  clear hb
  cases hw : Nm.isW (Nm.sc k) x.data.toList with
  | true =>
    have L1 := Lib.hid (Nm.letters_ok k x w hw hm h)
    clear hw
    go_enter Tryd.func30, Tryd.ntmps30
    go_wp2_with fail
    refine L1.out.mono ?_
    rintro e w1 ⟨v, rfl, _, hb1⟩
    go_wp2
    go_ret
    exact ⟨rfl, hb1⟩
  | false =>
    have L1 := Lib.hid (Nm.letters_bad k x w hw hm h)
    clear hw
    go_enter Tryd.func30, Tryd.ntmps30
    go_wp2_with fail
    refine L1.out.mono ?_
    rintro e w1 ⟨rfl, hb1⟩
    go_wp2
    go_ret
    exact ⟨rfl, hb1⟩
def Nm.badN (s : Nat) (ss : List ByteArray) : Bool := ss.any fun x => !Nm.isW s x.data.toList
theorem Nm.indexFunc (k : Int) (v : Value) (b : Nat) (A : Option Addr) (c : Nat) (ss : List ByteArray) (w : World) (hb : Nm.NmBox w b k v) (hs : Strs w w.heap.size A ss) (hl : ss.length ≤ 6) (hm : ∀ x ∈ ss, x.size ≤ maxLen) (h : Nm.Tb w.heap.size w) :
    Calls Tryd.prog 42 #[.slice A ss.length c, .func (.func 30) #[] #[.pointer (some ⟨b, 0, none⟩)]] w fun e w' => (∃ z : Int, e = .returned (.int .i64 z) ∧ decide (0 ≤ z) = Nm.badN (Nm.sc k) ss) ∧ Below w.heap.size w w' := by
  have HB := Lib.hid hb
  have HS := Lib.hid hs
  have HM := Lib.hid hm
  have HT := Lib.hid h
  have hbl : b < w.heap.size := by unfold Nm.NmBox at hb; exact (Array.getElem?_eq_some_iff.1 hb).1
  obtain ⟨m, hmm⟩ : ∃ m, ss.length = m := ⟨_, rfl⟩
  rw [hmm] at hl ⊢
  have HMM := Lib.hid hmm
  clear hb hs hm h hmm
  go_enter Tryd.func42, Tryd.ntmps42
  go_wp2
  go_loopw [5, 8] (fun _ s8 wr => ∃ i : Nat, s8 = .int .i64 (i : Int) ∧ i ≤ m ∧ Hid (Nm.badN (Nm.sc k) (ss.take i) = false) ∧ Below w.heap.size w wr) (fun _ s8 _ => m - (intOf s8).toNat)
  case atStart => exact ⟨0, rfl, by omega, Lib.hid rfl, Below.refl _ _⟩
  case round =>
    obtain ⟨i, rfl, hi, HN, hbw⟩ := hrel
    by_cases hlt : i < m
    · obtain ⟨ad, rfl, had, hck⟩ := HS.out i (by rw [HMM.out]; exact hlt)
      obtain ⟨x, hx⟩ : ∃ x, ss.getD i ByteArray.empty = x := ⟨_, rfl⟩
      rw [hx] at hck
      have hxi : ss[i]'(by rw [HMM.out]; exact hlt) = x := by
        rw [← hx, List.getD_eq_getElem?_getD, List.getElem?_eq_getElem (by rw [HMM.out]; exact hlt)]
        rfl
      have hcr := (hbw.cell (p := ad.add i) (by rw [add_block]; exact had)).trans hck
      have hnb : Nm.NmBox wr b k v := (hbw.block b hbl).trans HB.out
      have V1 := Lib.hid (Nm.valid1 k x v b wr hnb (HM.out x (by rw [← hxi]; exact List.getElem_mem _)) (HT.out.bt hbw))
      have htk : ss.take (i + 1) = ss.take i ++ [x] := by rw [List.take_add_one, List.getElem?_eq_getElem (by rw [HMM.out]; exact hlt), hxi]; rfl
      have hbad : Nm.badN (Nm.sc k) (ss.take (i + 1)) = !Nm.isW (Nm.sc k) x.data.toList := by
        rw [htk, Nm.badN, List.any_append]
        have := HN.out
        unfold Nm.badN at this
        rw [this]
        simp
      have HBAD := Lib.hid hbad
      have HTK := Lib.hid htk
      clear hx hck hxi htk hbad hnb
      cases hw : Nm.isW (Nm.sc k) x.data.toList with
      | true =>
        rw [hw] at V1 HBAD
        clear hw
        go_wp2_with fail
        refine V1.out.mono ?_
        rintro e w1 ⟨rfl, hb1⟩
        have hbw1 := Nm.Nb hbw hb1
        go_wp2
        exact ⟨⟨i + 1, by go_num, by omega, Lib.hid (by rw [HBAD.out]; rfl), hbw1⟩, by simp [intOf]; omega⟩
      | false =>
        rw [hw] at V1 HBAD
        clear hw
        have hAny : Nm.badN (Nm.sc k) ss = true := by
          have h1 := HBAD.out
          unfold Nm.badN at h1 ⊢
          rw [← List.take_append_drop (i + 1) ss, List.any_append, h1]
          rfl
        have HAN := Lib.hid hAny
        clear hAny
        go_wp2_with fail
        refine V1.out.mono ?_
        rintro e w1 ⟨rfl, hb1⟩
        have hbw1 := Nm.Nb hbw hb1
        go_wp2
        go_ret
        exact ⟨⟨_, rfl, by rw [HAN.out]; exact decide_eq_true (by omega)⟩, hbw1⟩
    · obtain rfl : i = m := by omega
      have hAny : Nm.badN (Nm.sc k) ss = false := by
        have := HN.out
        rwa [List.take_of_length_le (by rw [HMM.out]; exact Nat.le_refl _)] at this
      have HAN := Lib.hid hAny
      clear hAny
      go_wp2
      go_ret
      exact ⟨⟨_, rfl, by rw [HAN.out]; rfl⟩, hbw⟩
theorem Nm.containsFunc (k : Int) (v : Value) (b : Nat) (A : Option Addr) (c : Nat) (ss : List ByteArray) (w : World) (hb : Nm.NmBox w b k v) (hs : Strs w w.heap.size A ss) (hl : ss.length ≤ 6) (hm : ∀ x ∈ ss, x.size ≤ maxLen) (h : Nm.Tb w.heap.size w) :
    Calls Tryd.prog 29 #[.slice A ss.length c, .func (.func 30) #[] #[.pointer (some ⟨b, 0, none⟩)]] w fun e w' => e = .returned (.bool (Nm.badN (Nm.sc k) ss)) ∧ Below w.heap.size w w' := by
  have C1 := Lib.hid (Nm.indexFunc k v b A c ss w hb hs hl hm h)
  obtain ⟨r, hr⟩ : ∃ r, Nm.badN (Nm.sc k) ss = r := ⟨_, rfl⟩
  rw [hr] at C1 ⊢
  clear hr hb hs hl hm h
  go_enter Tryd.func29, Tryd.ntmps29
  go_wp2_with fail
  refine C1.out.mono ?_
  rintro e w1 ⟨⟨z, rfl, hz⟩, hb1⟩
  go_wp2
  go_ret
  exact ⟨by first | rfl | rw [hz], hb1⟩
theorem Nm.valid_any (k : Int) (A : Option Addr) (c : Nat) (ss : List ByteArray) (w : World) (hs : Strs w w.heap.size A ss) (hl : ss.length ≤ maxLen) (hm : ∀ x ∈ ss, x.size ≤ maxLen) (h : Nm.Tb w.heap.size w) :
    Calls Tryd.prog 15 #[.agg #[.int .i64 k, .slice A ss.length c]] w fun e w' => e = .returned (.bool (Nm.okN (Nm.sc k) (ss.map fun x => x.data.toList))) ∧ Below w.heap.size w w' := by
  have hB := Nm.al w (.cells #[.int .i64 k, .slice A ss.length c] 24)
  have hok : Nm.okN (Nm.sc k) (ss.map fun x => x.data.toList) = (!Nm.badN (Nm.sc k) ss && (decide (1 ≤ ss.length) && decide (ss.length ≤ 6))) := by
    unfold Nm.okN Nm.badN
    rw [List.length_map, List.all_map, List.not_any_eq_all_not]
    simp [Function.comp_def]
  rw [hok]
  by_cases h0 : ss.length = 0
  · rw [h0]
    have e : (!Nm.badN (Nm.sc k) ss && (decide (1 ≤ 0) && decide (0 ≤ 6))) = false := by simp
    rw [e]
    clear hs hm h hok e
    go_enter Tryd.func15, Tryd.ntmps15
    go_wp2
    go_ret
    rw [h0] at hB
    exact ⟨rfl, hB⟩
  · by_cases h6 : ss.length ≤ 6
    · have C1 := Lib.hid (Nm.containsFunc k (.slice A ss.length c) w.heap.size A c ss (w.alloc (.cells #[.int .i64 k, .slice A ss.length c] 24)) (heap_alloc_new w _) (Nm.sbt hs hB) h6 hm (h.bt hB))
      have e : (decide (1 ≤ ss.length) && decide (ss.length ≤ 6)) = true := by simp [h6]; omega
      rw [e, Bool.and_true]
      obtain ⟨r, hr⟩ : ∃ r, Nm.badN (Nm.sc k) ss = r := ⟨_, rfl⟩
      rw [hr] at C1 ⊢
      have g0 : ((ss.length : Int) == 0) = false := by simp; intro e; rw [e] at h0; simp at h0
      have g6 : decide ((6 : Int) < (ss.length : Int)) = false := decide_eq_false (by omega)
      clear hs hm h hok e hr h6 h0
      go_enter Tryd.func15, Tryd.ntmps15
      go_wp2_with fail
      refine C1.out.mono ?_
      rintro e w1 ⟨rfl, hb1⟩
      go_wp2
      go_ret
      exact ⟨rfl, Nm.Nb hB hb1⟩
    · have e : (!Nm.badN (Nm.sc k) ss && (decide (1 ≤ ss.length) && decide (ss.length ≤ 6))) = false := by simp [h6]
      rw [e]
      have g0 : ((ss.length : Int) == 0) = false := by simp; intro e; rw [e] at h0; simp at h0
      have g6 : decide ((6 : Int) < (ss.length : Int)) = true := decide_eq_true (by omega)
      clear hs hm h hok e h6 h0
      go_enter Tryd.func15, Tryd.ntmps15
      go_wp2
      go_ret
      exact ⟨rfl, hB⟩
end Go.Proofs.YtcjlnmfbanknhaaDoor
