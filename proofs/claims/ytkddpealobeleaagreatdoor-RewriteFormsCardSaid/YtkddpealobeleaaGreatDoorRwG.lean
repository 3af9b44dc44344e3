/- Layer 10: the letters of a word; what is before an ending. -/
import Derived.Test.YtkddpealobeleaaGreatDoorRwF
set_option linter.unusedSimpArgs false
set_option linter.unusedVariables false
namespace Go.Proofs.YtkddpealobeleaaGreatDoor
open Go.RowKit Go.Shelf
set_option maxRecDepth 100000
set_option maxHeartbeats 2000000
/-- The letters of the folded word. -/
def Rw.lts (k : Int) (x : ByteArray) : List Nm.T := Nm.ls (Nm.sc k) (x.data.toList.map Nm.low)
def Rw.isL (t : Rw.TV) (k : Int) (x : ByteArray) : Bool := Rw.okT t && Nm.isW (Nm.sc k) x.data.toList
def Rw.LoPost (t : Rw.TV) (k : Int) (x : ByteArray) (w : World) (e : Ending) (w' : World) : Prop :=
  Below w.heap.size w w' ∧ ((Rw.isL t k x = true ∧ ∃ v, e = .returned (.tuple #[v, .int .i64 0]) ∧ OwnS w' w.heap.size v ((Rw.lts k x).map Nm.bt)) ∨ (Rw.isL t k x = false ∧ e = .returned (.tuple #[.slice none 0 0, .int .i64 1])))
theorem Rw.isW_lts {k : Int} {x : ByteArray} (h : Nm.isW (Nm.sc k) x.data.toList = true) : 1 ≤ (Rw.lts k x).length ∧ (Rw.lts k x).length ≤ 12 := (Nm.isW_iff.1 (Nm.fold_word h).1).2
theorem Rw.box6 (w : World) (cs : Array Value) : Rw.Bx (w.alloc (.cells cs 25)) w.heap.size cs 25 := heap_alloc_new _ _
theorem Rw.lettersOf_any (t : Rw.TV) (k : Int) (x : ByteArray) (w : World) (h : t.In w) (hT : Nm.Tb w.heap.size w) (hm : x.size ≤ maxLen) :
    Calls Tryz.prog 36 #[t.val, .int .i64 k, .string x] w (Rw.LoPost t k x w) := by
  have VT := Lib.hid (fun v (hv : Below w.heap.size w v) => Rw.validT_any t v (h.bt hv) (hT.bt hv))
  have HTb := Lib.hid hT
  have HM := Lib.hid hm
  unfold Rw.LoPost Rw.isL
  cases hw : Nm.isW (Nm.sc k) x.data.toList with
  | false =>
    rw [Bool.and_false]
    have F1 := Lib.hid (fun v (hv : Below w.heap.size w v) => Nm.fold_bad k x v hw hm (hT.bt hv))
    obtain ⟨A, a, B, b, C, c, R, D, E, d, o, i⟩ := t
    unfold Rw.TV.val
    simp only
    have hb := Nm.al w (.cells #[.slice A R.length a, .slice B D.length b, .slice C E.length c, .int .i64 d, .int .i64 o, .int .i64 i] 25)
    clear hw h hT hm VT
    go_enter Tryz.func36, Tryz.ntmps36
    go_wp2_with fail
    refine (F1.out _ hb).mono ?_
    rintro e v ⟨rfl, g⟩
    have HB := Lib.hid (Rw.Nb hb g)
    clear hb g
    go_wp2
    go_ret2
    exact ⟨HB.out, .inr ⟨trivial, rfl⟩⟩
  | true =>
    rw [Bool.and_true]
    have F1 := Lib.hid (fun v (hv : Below w.heap.size w v) => Nm.fold_ok k x v hw hm (hT.bt hv))
    obtain ⟨fw1, fw2, _⟩ := Nm.fold_word hw
    have hxl := Nm.isW_len hw
    obtain ⟨r, hr⟩ : ∃ r, Nm.bt (x.data.toList.map Nm.low) = r := ⟨_, rfl⟩
    have hrl : r.data.toList = x.data.toList.map Nm.low := by rw [← hr, Nm.bt_list]
    have hrs : r.size ≤ maxLen := by
      rw [Lib.size_eq, hrl, List.length_map]
      unfold maxLen
      omega
    have L1 := Lib.hid (fun v (hv : Below w.heap.size w v) => Nm.letters_ok k r v (by rw [hrl]; exact fw1) hrs (hT.bt hv))
    have HLL : Hid (Nm.ls (Nm.sc k) r.data.toList = Rw.lts k x) := Lib.hid (by rw [hrl]; rfl)
    rw [HLL.out] at L1
    rw [hr] at F1
    obtain ⟨ll, hll⟩ : ∃ ll, (Rw.lts k x).map Nm.bt = ll := ⟨_, rfl⟩
    rw [hll] at L1
    rw [hll]
    cases hok : Rw.okT t with
    | false =>
      rw [hok] at VT
      obtain ⟨A, a, B, b, C, c, R, D, E, d, o, i⟩ := t
      unfold Rw.TV.val
      simp only
      have hb := Nm.al w (.cells #[.slice A R.length a, .slice B D.length b, .slice C E.length c, .int .i64 d, .int .i64 o, .int .i64 i] 25)
      have BX := Lib.hid (Rw.box6 w #[.slice A R.length a, .slice B D.length b, .slice C E.length c, .int .i64 d, .int .i64 o, .int .i64 i])
      clear hw h hT hm hok hll HLL L1 hrs hrl hr hxl fw1 fw2
      go_enter Tryz.func36, Tryz.ntmps36
      go_wp2_with fail
      refine (F1.out _ hb).mono ?_
      rintro e v ⟨rfl, g⟩
      have HB := Lib.hid (Rw.Nb hb g)
      have B2 := BX.out.bt g
      have x0 := B2.c 0 _ rfl
      have x1 := B2.c 1 _ rfl
      have x2 := B2.c 2 _ rfl
      have x3 := B2.c 3 _ rfl
      have x4 := B2.c 4 _ rfl
      have x5 := B2.c 5 _ rfl
      clear hb g BX B2
      go_wp2_with fail
      refine (VT.out v HB.out).mono ?_
      rintro e v2 ⟨rfl, g⟩
      have HB2 := Lib.hid (Rw.Nb HB.out g)
      clear g x0 x1 x2 x3 x4 x5
      go_wp2
      go_ret2
      exact ⟨HB2.out, .inr ⟨trivial, rfl⟩⟩
    | true =>
      rw [hok] at VT
      obtain ⟨A, a, B, b, C, c, R, D, E, d, o, i⟩ := t
      unfold Rw.TV.val
      simp only
      have hb := Nm.al w (.cells #[.slice A R.length a, .slice B D.length b, .slice C E.length c, .int .i64 d, .int .i64 o, .int .i64 i] 25)
      have BX := Lib.hid (Rw.box6 w #[.slice A R.length a, .slice B D.length b, .slice C E.length c, .int .i64 d, .int .i64 o, .int .i64 i])
      clear hw h hT hm hok hll HLL hrs hrl hr hxl fw1 fw2
      go_enter Tryz.func36, Tryz.ntmps36
      go_wp2_with fail
      refine (F1.out _ hb).mono ?_
      rintro e v ⟨rfl, g⟩
      have HB := Lib.hid (Rw.Nb hb g)
      have B2 := BX.out.bt g
      have x0 := B2.c 0 _ rfl
      have x1 := B2.c 1 _ rfl
      have x2 := B2.c 2 _ rfl
      have x3 := B2.c 3 _ rfl
      have x4 := B2.c 4 _ rfl
      have x5 := B2.c 5 _ rfl
      clear hb g BX B2
      go_wp2_with fail
      refine (VT.out v HB.out).mono ?_
      rintro e v2 ⟨rfl, g⟩
      have HB2 := Lib.hid (Rw.Nb HB.out g)
      clear g x0 x1 x2 x3 x4 x5
      go_wp2_with fail
      refine (L1.out v2 HB2.out).mono ?_
      rintro e v3 ⟨u, rfl, o3, g⟩
      have HB3 := Lib.hid (Rw.Nb HB2.out g)
      have HO := Lib.hid (OwnS.mono o3 HB2.out.size)
      clear g o3
      go_wp2
      go_ret2
      exact ⟨HB3.out, .inl ⟨trivial, u, rfl, HO.out⟩⟩
/-! ### what is before an ending -/
theorem Rw.add_add (ad : Addr) (k j : Nat) : (ad.add k).add j = ad.add (k + j) := by
  unfold Addr.add
  by_cases hk : k = 0
  · subst hk
    simp
  · by_cases hj : j = 0
    · subst hj
      simp
    · rw [if_neg hj, if_neg hk, if_neg (by omega)]
      simp [Nat.add_assoc]
theorem Rw.strs_drop {w : World} {B : Nat} {ad : Addr} {l : List ByteArray} (h : Strs w B (some ad) l) (k : Nat) : Strs w B (some (ad.add k)) (l.drop k) := fun j hj => by
  rw [List.length_drop] at hj
  obtain ⟨ad', e, hlt, hc⟩ := h (k + j) (by omega)
  cases e
  refine ⟨_, rfl, by rw [add_block]; exact hlt, ?_⟩
  rw [List.getD_eq_getElem?_getD, List.getElem?_drop, ← List.getD_eq_getElem?_getD]
  rw [Rw.add_add]
  exact hc
theorem Rw.strs_take {w : World} {B : Nat} {A : Option Addr} {l : List ByteArray} (h : Strs w B A l) (k : Nat) : Strs w B A (l.take k) := fun j hj => by
  rw [List.length_take] at hj
  obtain ⟨ad, e, hlt, hc⟩ := h j (by omega)
  refine ⟨ad, e, hlt, ?_⟩
  rw [List.getD_eq_getElem?_getD, List.getElem?_take, if_pos (by omega), ← List.getD_eq_getElem?_getD]
  exact hc
theorem Rw.cat_any (ss : List ByteArray) (A : Option Addr) (c : Nat) (n : Nat) (hn : ss.length = n) (w : World) (hs : Strs w w.heap.size A ss) (h1 : 1 ≤ n) (h12 : n ≤ 12) (hc : n ≤ c) (hc2 : c ≤ maxLen) (hl : ∀ x ∈ ss, x.size ≤ 24) :
    Calls Tryz.prog 43 #[.slice A n c, .string ⟨#[]⟩] w fun e w' => e = .returned (.string (Nm.bt (ss.map fun x => x.data.toList).flatten)) ∧ Below w.heap.size w w' := by
  by_cases h : n = 1
  · match ss, hn with
    | [s], _ =>
      subst h
      refine (Rw.cat_one s A c w hs).mono ?_
      rintro e w' ⟨rfl, hb⟩
      refine ⟨?_, hb⟩
      simp [Nm.bt]
    | [], hn => simp at hn; omega
    | a :: b :: t, hn => simp at hn; omega
  · rw [← hn]
    exact Rw.cat_many ss A c w hs (by omega) (by omega) (by omega) hc2 hl
/-- What is before an ending; nothing where there is none. -/
def Rw.stem (L M : List Nm.T) : Nm.T := if M.length < L.length ∧ L.drop (L.length - M.length) = M then (L.take (L.length - M.length)).flatten else []
theorem Rw.map_bt (L : List Nm.T) : (L.map Nm.bt).map (fun x => x.data.toList) = L := by
  rw [List.map_map]
  conv => rhs; rw [← List.map_id L]
  exact List.map_congr_left fun x _ => Nm.bt_list x
theorem Rw.bt_inj {L M : List Nm.T} : L.map Nm.bt = M.map Nm.bt ↔ L = M := ⟨fun h => by rw [← Rw.map_bt L, h, Rw.map_bt], fun h => by rw [h]⟩
theorem Rw.stemOf_any (A : Option Addr) (c : Nat) (L : List Nm.T) (n : Nat) (hn : L.length = n) (k : Int) (y : ByteArray) (w : World) (hs : Strs w w.heap.size A (L.map Nm.bt)) (h1 : 1 ≤ n) (h12 : n ≤ 12) (hc : n ≤ c) (hc2 : c ≤ maxLen) (hl : ∀ x ∈ L, x.length ≤ 24)
    (hy : Nm.isW (Nm.sc k) y.data.toList = true) (hm : y.size ≤ maxLen) (hT : Nm.Tb w.heap.size w) :
    Calls Tryz.prog 44 #[.slice A n c, .int .i64 k, .string y] w fun e w' => e = .returned (.string (Nm.bt (Rw.stem L (Nm.ls (Nm.sc k) y.data.toList)))) ∧ Below w.heap.size w w' := by
  obtain ⟨_, hm1, hm12⟩ := Nm.isW_iff.1 hy
  have L1 := Lib.hid (Nm.letters_ok k y w hy hm hT)
  obtain ⟨M, hM⟩ : ∃ M, Nm.ls (Nm.sc k) y.data.toList = M := ⟨_, rfl⟩
  rw [hM] at L1 hm1 hm12 ⊢
  obtain ⟨m, hmm⟩ : ∃ m, M.length = m := ⟨_, rfl⟩
  rw [hmm] at hm1 hm12
  have hbl : (M.map Nm.bt).length = m := by rw [List.length_map, hmm]
  have HS := Lib.hid hs
  have HN := Lib.hid (And.intro hn (And.intro hmm hbl))
  have HL := Lib.hid hl
  obtain ⟨ad, rfl, had, _⟩ := hs 0 (by rw [List.length_map]; omega)
  unfold maxLen at hc2
  clear hs hn hmm hM hy hm hT hl
  by_cases hnm : n ≤ m
  · have HF : Hid (Rw.stem L M = []) := Lib.hid (by unfold Rw.stem; rw [if_neg (by rw [HN.out.1, HN.out.2.1]; omega)])
    have hd : (n : Int) - (m : Int) < 1 := by omega
    go_enter Tryz.func44, Tryz.ntmps44
    go_wp2_with fail
    refine L1.out.mono ?_
    rintro e v ⟨u, rfl, o, g⟩
    obtain ⟨A2, c2, rfl, _, _, _⟩ := o.form
    rw [HN.out.2.2]
    clear o
    go_wp2
    go_ret
    exact ⟨by rw [HF.out]; rfl, g⟩
  obtain ⟨st, rfl⟩ : ∃ st, n = m + st := ⟨n - m, by omega⟩
  have hst : 1 ≤ st := by omega
  have hdr : ((L.map Nm.bt).drop st).length = m := by rw [List.length_drop, List.length_map, HN.out.1]; omega
  have hdr2 : ((L.map Nm.bt).take st).length = st := by rw [List.length_take, List.length_map, HN.out.1]; omega
  have HD := Lib.hid (And.intro hdr hdr2)
  have hd : ¬ ((m : Int) + (st : Int) - (m : Int) < 1) := by omega
  have hsub : (m : Int) + (st : Int) - (m : Int) = (st : Int) := by omega
  have hst0 : ¬ ((st : Int) < 1) := by omega
  have hst1 : (0 : Int) ≤ (st : Int) := by omega
  have hst2 : (st : Int) ≤ (m : Int) + (st : Int) := by omega
  have hst3 : (st : Int) ≤ (c : Int) := by omega
  have hncst : ¬ (c = st) := by omega
  clear hdr hdr2
  go_enter Tryz.func44, Tryz.ntmps44
  go_wp2_with fail
  refine L1.out.mono ?_
  rintro e v ⟨u, rfl, o, g⟩
  obtain ⟨A2, c2, rfl, s2, _, _⟩ := o.form
  rw [HN.out.2.2]
  have HB := Lib.hid g
  have S2 := Lib.hid s2
  have SV := Lib.hid (Nm.sbt HS.out g)
  clear o g s2
  have EQ := Rw.equal_any (some (ad.add st)) (c - st) ((L.map Nm.bt).drop st) A2 c2 (M.map Nm.bt) v (Rw.strs_drop SV.out st) S2.out (by rw [HD.out.1]; unfold maxLen; omega) (by rw [HN.out.2.2]; unfold maxLen; omega)
  rw [HD.out.1, HN.out.2.2] at EQ
  have HMS : Hid (decide ((L.map Nm.bt).drop st = M.map Nm.bt) = decide (L.drop (L.length - M.length) = M)) := Lib.hid (by
    rw [← List.map_drop, HN.out.1, HN.out.2.1, show m + st - m = st from by omega]
    exact decide_eq_decide.2 Rw.bt_inj)
  rw [HMS.out] at EQ
  by_cases hq : L.drop (L.length - M.length) = M
  · have HF : Hid (Rw.stem L M = (L.take st).flatten) := Lib.hid (by unfold Rw.stem; rw [if_pos ⟨by rw [HN.out.1, HN.out.2.1]; omega, hq⟩, HN.out.1, HN.out.2.1, show m + st - m = st from by omega])
    rw [decide_eq_true hq] at EQ
    have EQH := Lib.hid EQ
    have CA := Lib.hid (fun v2 (hv2 : Below v.heap.size v v2) => Rw.cat_any ((L.map Nm.bt).take st) (some ad) c st HD.out.2 v2 (Rw.strs_take (Nm.sbt SV.out hv2) st) hst (by omega) (by omega) (by unfold maxLen; omega) (fun x hx => by
      obtain ⟨z, hz, rfl⟩ := List.mem_map.1 (List.mem_of_mem_take hx)
      rw [Lib.size_eq, Nm.bt_list]
      exact HL.out z hz))
    rw [← List.map_take, Rw.map_bt] at CA
    clear hq EQ
    go_wp2_with fail
    refine EQH.out.mono ?_
    rintro e v2 ⟨rfl, g2⟩
    have HB2 := Lib.hid (Rw.Nb HB.out g2)
    have C2 := Lib.hid (CA.out v2 g2)
    clear g2 CA
    go_wp2_with fail
    refine C2.out.mono ?_
    rintro e v3 ⟨rfl, g3⟩
    have HB3 := Lib.hid (Rw.Nb HB2.out g3)
    clear g3
    go_wp2
    go_ret
    exact ⟨by rw [HF.out]; rfl, HB3.out⟩
  · have HF : Hid (Rw.stem L M = []) := Lib.hid (by unfold Rw.stem; rw [if_neg (fun h => hq h.2)])
    rw [decide_eq_false hq] at EQ
    have EQH := Lib.hid EQ
    clear hq EQ
    go_wp2_with fail
    refine EQH.out.mono ?_
    rintro e v2 ⟨rfl, g2⟩
    have HB2 := Lib.hid (Rw.Nb HB.out g2)
    clear g2
    go_wp2
    go_ret
    exact ⟨by rw [HF.out]; rfl, HB2.out⟩
end Go.Proofs.YtkddpealobeleaaGreatDoor
