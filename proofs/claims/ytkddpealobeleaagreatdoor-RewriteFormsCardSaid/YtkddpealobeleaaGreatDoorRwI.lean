/- Layer 10: Variants. -/
import Derived.Test.YtkddpealobeleaaGreatDoorRwH
set_option linter.unusedSimpArgs false
set_option linter.unusedVariables false
namespace Go.Proofs.YtkddpealobeleaaGreatDoor
open Go.RowKit Go.Shelf
set_option maxRecDepth 100000
set_option maxHeartbeats 4000000
def Rw.endsF (L : List Nm.T) (k : Int) : Nat → List Rw.Dp → List Rw.Vr
  | _, [] => []
  | i, x :: E => if x.k = k ∧ Rw.stem L (Nm.ls (Nm.sc k) x.word.data.toList) ≠ [] then ⟨Nm.bt (Rw.stem L (Nm.ls (Nm.sc k) x.word.data.toList)), (i : Int), x.cost⟩ :: Rw.endsF L k (i + 1) E else Rw.endsF L k (i + 1) E
def Rw.varsV (t : Rw.TV) (k : Int) (x : ByteArray) : List Rw.Vr := if Rw.isL t k x = true then ⟨Rw.fd x, -1, 0⟩ :: Rw.endsF (Rw.lts k x) k 0 t.E else []
theorem Rw.endsF_len (L : List Nm.T) (k : Int) : ∀ (E : List Rw.Dp) (i : Nat), (Rw.endsF L k i E).length ≤ E.length
  | [], _ => Nat.zero_le _
  | x :: E, i => by
    have := Rw.endsF_len L k E (i + 1)
    unfold Rw.endsF
    split <;> simp only [List.length_cons] <;> omega
theorem Rw.end_word {t : Rw.TV} (h : Rw.okT t = true) {j : Nat} (hj : j < t.E.length) : Nm.isW (Nm.sc t.E[j].k) t.E[j].word.data.toList = true ∧ t.E.length ≤ 40 := by
  unfold Rw.okT Rw.okL at h
  simp only [Bool.and_eq_true, decide_eq_true_eq] at h
  obtain ⟨h0, _, _, _, _, _, h6⟩ := h
  have := (of_decide_eq_true h6 j hj).1
  unfold Rw.okDp Rw.okF at this
  simp only [Bool.and_eq_true] at this
  exact ⟨this.1.1.1, h0.2.2.2⟩
def Rw.VPost (t : Rw.TV) (k : Int) (x : ByteArray) (w : World) (e : Ending) (w' : World) : Prop :=
  ∃ u, e = .returned (.tuple #[u, .int .i64 (Rw.err t k x)]) ∧ Rw.OwnK Rw.KV w' w.heap.size u (Rw.varsV t k x) ∧ Below w.heap.size w w'
theorem Rw.bt_empty {l : Nm.T} (h : l ≠ []) : Nm.bt l ≠ ⟨#[]⟩ ∧ (Nm.bt l).toList ≠ [] ∧ (Nm.bt l).toList.isEmpty = false := by
  have e : (Nm.bt l).toList = l := by rw [ByteArray.toList_eq, Nm.bt_list]
  refine ⟨fun hc => h ?_, by rw [e]; exact h, by rw [e]; simpa using h⟩
  have := congrArg (fun b => b.data.toList) hc
  rw [Nm.bt_list] at this
  simpa using this
theorem Rw.variants_any (t : Rw.TV) (k : Int) (x : ByteArray) (w : World) (h : t.In w) (hT : Nm.Tb w.heap.size w) (hm : x.size ≤ maxLen) :
    Calls Tryz.prog 16 #[t.val, .int .i64 k, .string x] w (Rw.VPost t k x w) := by
  have LO := Lib.hid (fun v (hv : Below w.heap.size w v) => Rw.lettersOf_any t k x v (h.bt hv) (hT.bt hv) hm)
  unfold Rw.LoPost at LO
  unfold Rw.VPost Rw.varsV Rw.err
  cases hL : Rw.isL t k x with
  | false =>
    rw [hL] at LO
    rw [if_neg (by decide), if_neg (by decide)]
    obtain ⟨A, a, B, b, C, c, R, D, E, d, o, i⟩ := t
    unfold Rw.TV.val
    simp only
    have hb := Nm.al w (.cells #[.slice A R.length a, .slice B D.length b, .slice C E.length c, .int .i64 d, .int .i64 o, .int .i64 i] 25)
    clear h hT hm hL
    go_enter Tryz.func16, Tryz.ntmps16
    go_wp2_with fail
    refine (LO.out _ hb).mono ?_
    rintro e v ⟨g, ⟨hf, _⟩ | ⟨_, rfl⟩⟩
    · cases hf
    have HB := Lib.hid (Rw.Nb hb g)
    clear hb g
    go_wp2
    go_ret2
    exact ⟨_, rfl, Rw.OwnK.nil _ _, HB.out⟩
  | true =>
    rw [hL] at LO
    rw [if_pos rfl, if_pos rfl]
    obtain ⟨hokT, hwd⟩ := Rw.isL_word hL
    obtain ⟨hl1, hl12⟩ := Rw.isW_lts hwd
    have CA := Lib.hid (fun A c n hn v s1 hc hc2 => Rw.cat_lts hL A c n hn v s1 hc hc2)
    have HEW := Lib.hid (fun j hj => (Rw.end_word hokT (j := j) hj).1)
    have hE40 : t.E.length ≤ 40 := by
      unfold Rw.okT Rw.okL at hokT
      simp only [Bool.and_eq_true, decide_eq_true_eq] at hokT
      exact hokT.1.2.2.2
    obtain ⟨r, hr⟩ : ∃ r, Rw.fd x = r := ⟨_, rfl⟩
    rw [hr] at CA ⊢
    have HLT := Lib.hid (Rw.lts_fits (k := k) (x := x))
    obtain ⟨L, hLL⟩ : ∃ L, Rw.lts k x = L := ⟨_, rfl⟩
    rw [hLL] at LO CA hl1 hl12 HLT ⊢
    obtain ⟨n, hn⟩ : ∃ n, L.length = n := ⟨_, rfl⟩
    rw [hn] at hl1 hl12
    have hmn : (L.map Nm.bt).length = n := by rw [List.length_map, hn]
    have HN := Lib.hid (And.intro hn hmn)
    have HD := Lib.hid h.e
    have HG := Lib.hid h.ge
    have HTb := Lib.hid hT
    obtain ⟨A, a, B, b, C, c, R, D, E, d, o, i⟩ := t
    unfold Rw.TV.val
    simp only at HD HEW hE40 HG ⊢
    obtain ⟨q, hq⟩ : ∃ q, E.length = q := ⟨_, rfl⟩
    have HQ := Lib.hid hq
    have hb := Nm.al w (.cells #[.slice A R.length a, .slice B D.length b, .slice C E.length c, .int .i64 d, .int .i64 o, .int .i64 i] 25)
    have BX := Lib.hid (Rw.box6 w #[.slice A R.length a, .slice B D.length b, .slice C E.length c, .int .i64 d, .int .i64 o, .int .i64 i])
    rw [hq] at hE40
    clear h hT hm hL hn hr hq hmn hLL hokT hwd
    go_enter Tryz.func16, Tryz.ntmps16
    go_wp2_with fail
    refine (LO.out _ hb).mono ?_
    rintro e v ⟨g, ⟨_, u, rfl, ou⟩ | ⟨hf, _⟩⟩
    rotate_left
    · cases hf
    have HB := Lib.hid (Rw.Nb hb g)
    have BX1 := Lib.hid (BX.out.bt g)
    obtain ⟨A1, c1, rfl, s1, hc1, hc2⟩ := ou.form
    rw [HN.out.2] at hc1 ⊢
    have C1 := Lib.hid (CA.out A1 c1 n HN.out.2 v s1 hc1 hc2)
    have S1 := Lib.hid s1
    unfold maxLen at hc2
    clear hb g BX ou s1 CA LO
    go_wp2_with fail
    refine C1.out.mono ?_
    rintro e V ⟨rfl, g⟩
    have HB2 := Lib.hid (Rw.Nb HB.out g)
    have BX2 := Lib.hid (BX1.out.bt g)
    have S2 := Lib.hid (Nm.sbt S1.out g)
    rw [HQ.out] at BX2 ⊢
    have hal := Nm.al V (.cells #[.string r, .int .i64 (-1), .int .i64 0] 59)
    have x1 := (BX2.out.bt hal).c 2 _ rfl
    have HO0 : Hid (Rw.OwnK Rw.KV (V.alloc (.cells #[.string r, .int .i64 (-1), .int .i64 0] 59)) V.heap.size (.slice (some ⟨V.heap.size, 0, none⟩) 1 1) [⟨r, -1, 0⟩]) := Lib.hid (Rw.OwnK.one Rw.okV V ⟨r, -1, 0⟩)
    have HA0 := Lib.hid hal
    clear g BX1 HB S1 C1 hal
    go_wp2_with fail
    clear x1
    go_loopw [31, 10] (fun s31 s10 wr => ∃ (j : Nat) (acc : List Rw.Vr), j ≤ q ∧ acc.length ≤ j + 1 ∧ s31 = .int .i64 (j : Int) ∧ Hid (Rw.OwnK Rw.KV wr V.heap.size s10 acc) ∧ Hid (⟨r, -1, 0⟩ :: Rw.endsF L k 0 E = acc ++ Rw.endsF L k j (E.drop j)) ∧ Hid (Below V.heap.size V wr)) (fun s31 _ _ => q - (intOf s31).toNat)
    case atStart => exact ⟨0, [⟨r, -1, 0⟩], Nat.zero_le _, by simp, rfl, HO0, Lib.hid rfl, HA0⟩
    case round =>
      clear HO0 HA0
      obtain ⟨j, acc, hj, hacc, rfl, HO, HF, HW⟩ := hrel
      have HBw := Lib.hid (Rw.Nb HB2.out HW.out)
      by_cases hlt : j < q
      · have hjl : j < E.length := by rw [HQ.out]; exact hlt
        have hlti : (j : Int) < (q : Int) := by omega
        have hj0 : (0 : Int) ≤ (j : Int) := by omega
        obtain ⟨ad, rfl, had, c0, c1', c2'⟩ := (HD.out.below HBw.out (Nat.le_refl _)).at hjl
        have HDR := Lib.hid (Rw.drop_get E j hjl)
        have hw := HEW.out j hjl
        have hgy := HG.out _ (List.getElem_mem hjl)
        obtain ⟨y, hy⟩ : ∃ y, E[j] = y := ⟨_, rfl⟩
        rw [hy] at HDR c0 c1' c2' hw hgy
        have HW0 := Lib.hid hw
        have hyw := hgy.word
        have hst : Rw.endsF L k j (E.drop j) = if y.k = k ∧ Rw.stem L (Nm.ls (Nm.sc k) y.word.data.toList) ≠ [] then ⟨Nm.bt (Rw.stem L (Nm.ls (Nm.sc k) y.word.data.toList)), (j : Int), y.cost⟩ :: Rw.endsF L k (j + 1) (E.drop (j + 1)) else Rw.endsF L k (j + 1) (E.drop (j + 1)) := by rw [HDR.out]; rfl
        have HST := Lib.hid hst
        have hA := Nm.al wr (.cells #[.int .i64 y.k, .string y.word, .int .i64 y.cost] 63)
        have HA := Lib.hid hA
        have BY : Hid (Rw.Bx (wr.alloc (.cells #[.int .i64 y.k, .string y.word, .int .i64 y.cost] 63)) wr.heap.size #[.int .i64 y.k, .string y.word, .int .i64 y.cost] 63) := Lib.hid (heap_alloc_new _ _)
        have HO1 := Lib.hid (HO.out.bt hA)
        clear hy hjl had hst hw hgy hA
        by_cases hk : y.k = k
        · have hk1 : (y.k != k) = false := by simp [hk]
          have SO := Lib.hid (fun v2 (hv2 : Below V.heap.size V v2) => Rw.stemOf_any A1 c1 L n HN.out.1 k y.word v2 (Nm.sbt S2.out hv2) hl1 hl12 hc1 (by unfold maxLen; omega) HLT.out (by rw [← hk]; exact HW0.out) hyw (HTb.out.bt (Rw.Nb HB2.out hv2)))
          obtain ⟨st, hst⟩ : ∃ st, Rw.stem L (Nm.ls (Nm.sc k) y.word.data.toList) = st := ⟨_, rfl⟩
          rw [hst] at SO HST
          have SO1 := Lib.hid (SO.out _ (Rw.Nb HW.out HA.out))
          by_cases hse : st = []
          · subst hse
            have HE : Hid (⟨r, -1, 0⟩ :: Rw.endsF L k 0 E = acc ++ Rw.endsF L k (j + 1) (E.drop (j + 1))) := Lib.hid (by rw [HF.out, HST.out, if_neg (fun h => h.2 rfl)])
            have hbe : Nm.bt [] = ⟨#[]⟩ := rfl
            rw [hbe] at SO1
            clear hk hst hbe SO
            go_wp2_with fail
            refine SO1.out.mono ?_
            rintro e v3 ⟨rfl, g3⟩
            have HB3 := Lib.hid (Rw.Nb (Rw.Nb HW.out HA.out) g3)
            have HO3 := Lib.hid (HO1.out.bt g3)
            clear g3 c0 c1' c2'
            go_wp2
            exact ⟨⟨j + 1, acc, by omega, by omega, by go_num, HO3, HE, HB3⟩, by simp [intOf]; omega⟩
          · have HE : Hid (⟨r, -1, 0⟩ :: Rw.endsF L k 0 E = (acc ++ [⟨Nm.bt st, (j : Int), y.cost⟩]) ++ Rw.endsF L k (j + 1) (E.drop (j + 1))) := Lib.hid (by rw [HF.out, HST.out, if_pos ⟨hk, hse⟩]; simp)
            obtain ⟨e1, e2, e3⟩ := Rw.bt_empty hse
            obtain ⟨sb, hsb⟩ : ∃ sb, Nm.bt st = sb := ⟨_, rfl⟩
            rw [hsb] at SO1 HE e1 e2 e3
            have e4 : (sb.toList == []) = false := by simpa using e2
            have hacc2 : acc.length ≤ 1000000 := by omega
            clear hk hst hsb SO hse
            go_wp2_with fail
            refine SO1.out.mono ?_
            rintro e v3 ⟨rfl, g3⟩
            have HB3 := Lib.hid (Rw.Nb (Rw.Nb HW.out HA.out) g3)
            have z2 := (BY.out.bt g3).c 2 _ rfl
            have g4 := Nm.al v3 (.cells #[.string sb, .int .i64 (j : Int), .int .i64 y.cost] 59)
            have HO4 := (HO1.out.bt g3).bt g4
            have HB4 := Lib.hid (Rw.Nb HB3.out g4)
            have hnew : (v3.alloc (.cells #[.string sb, .int .i64 (j : Int), .int .i64 y.cost] 59)).heap[v3.heap.size]? = some (.cells (Rw.KV.cs ⟨sb, (j : Int), y.cost⟩).toArray 59 (0, 0)) := heap_alloc_new _ _
            have HNW := Lib.hid hnew
            have HO5 := Lib.hid HO4
            clear g3 g4 c0 c1' c2' HO4 hnew
            go_wp2_with (first
              | (at_builtin
                 refine Rw.list_appendK Rw.okV rfl (.tmp 47) (.tmp 53) rfl V.heap.size _ acc rfl HO5.out v3.heap.size rfl ⟨sb, (j : Int), y.cost⟩ _ HNW.out hacc2 HB4.out.size ?_
                 intro v2 w2 o2 g2)
              | fail)
            exact ⟨⟨j + 1, _, by omega, by simp; omega, by go_num, Lib.hid o2, HE, Lib.hid (HB4.out.trans g2)⟩, by simp [intOf]; omega⟩
        · have hk1 : (y.k != k) = true := by simp [hk]
          have HE : Hid (⟨r, -1, 0⟩ :: Rw.endsF L k 0 E = acc ++ Rw.endsF L k (j + 1) (E.drop (j + 1))) := Lib.hid (by rw [HF.out, HST.out, if_neg (fun h => hk h.1)])
          go_wp2
          exact ⟨⟨j + 1, acc, by omega, by omega, by go_num, HO1, HE, Lib.hid (Rw.Nb HW.out HA.out)⟩, by simp [intOf]; omega⟩
      · obtain rfl : j = q := by omega
        have HE : Hid (⟨r, -1, 0⟩ :: Rw.endsF L k 0 E = acc) := Lib.hid (by rw [HF.out, List.drop_eq_nil_of_le (by rw [HQ.out]; exact Nat.le_refl _)]; simp [Rw.endsF])
        go_wp2
        go_ret2
        exact ⟨_, rfl, by rw [HE.out]; exact Rw.OwnK.mono HO.out HB2.out.size, HBw.out⟩
end Go.Proofs.YtkddpealobeleaaGreatDoor
