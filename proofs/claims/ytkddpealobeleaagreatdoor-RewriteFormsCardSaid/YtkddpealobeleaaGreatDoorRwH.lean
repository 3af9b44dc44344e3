/- Layer 10: Dropping. -/
import Derived.Test.YtkddpealobeleaaGreatDoorRwO
set_option linter.unusedSimpArgs false
set_option linter.unusedVariables false
namespace Go.Proofs.YtkddpealobeleaaGreatDoor
open Go.RowKit Go.Shelf
set_option maxRecDepth 100000
set_option maxHeartbeats 4000000
def Rw.fd (x : ByteArray) : ByteArray := Nm.bt (x.data.toList.map Nm.low)
def Rw.err (t : Rw.TV) (k : Int) (x : ByteArray) : Int := if Rw.isL t k x = true then 0 else 1
def Rw.dropF (k : Int) (r : ByteArray) (z : Int) : List Rw.Dp → Int
  | [] => z
  | x :: l => if x.k = k ∧ x.word = r then x.cost else Rw.dropF k r z l
def Rw.dropV (t : Rw.TV) (k : Int) (x : ByteArray) : Int := if Rw.isL t k x = true then Rw.dropF k (Rw.fd x) t.d t.D else 0
theorem Rw.lts_fits {k : Int} {x : ByteArray} : ∀ z ∈ Rw.lts k x, z.length ≤ 24 := fun z hz => Nm.isW_len (Nm.ls_own hz).1
theorem Rw.lts_flat {k : Int} {x : ByteArray} (h : Nm.isW (Nm.sc k) x.data.toList = true) : (Rw.lts k x).flatten = x.data.toList.map Nm.low := Nm.ls_sum (Nm.fold_word h).1
theorem Rw.isL_word {t : Rw.TV} {k : Int} {x : ByteArray} (h : Rw.isL t k x = true) : Rw.okT t = true ∧ Nm.isW (Nm.sc k) x.data.toList = true := by
  unfold Rw.isL at h
  simpa using h
theorem Rw.drop_get {α : Type} (l : List α) (i : Nat) (h : i < l.length) : l.drop i = l[i] :: l.drop (i + 1) := List.drop_eq_getElem_cons h
/-- The letters' list, joined. -/
theorem Rw.cat_lts {t : Rw.TV} {k : Int} {x : ByteArray} (h : Rw.isL t k x = true) (A : Option Addr) (c n : Nat) (hn : ((Rw.lts k x).map Nm.bt).length = n) (w : World) (hs : Strs w w.heap.size A ((Rw.lts k x).map Nm.bt)) (hc : n ≤ c) (hc2 : c ≤ maxLen) :
    Calls Tryz.prog 43 #[.slice A n c, .string ⟨#[]⟩] w fun e w' => e = .returned (.string (Rw.fd x)) ∧ Below w.heap.size w w' := by
  obtain ⟨_, hw⟩ := Rw.isL_word h
  obtain ⟨h1, h12⟩ := Rw.isW_lts hw
  have hn' := hn
  rw [List.length_map] at hn'
  have := Rw.cat_any ((Rw.lts k x).map Nm.bt) A c n hn w hs (by omega) (by omega) hc hc2 (fun z hz => by
    obtain ⟨y, hy, rfl⟩ := List.mem_map.1 hz
    rw [Lib.size_eq, Nm.bt_list]
    exact Rw.lts_fits y hy)
  rw [Rw.map_bt, Rw.lts_flat hw] at this
  exact this
theorem Rw.drop_any (t : Rw.TV) (k : Int) (x : ByteArray) (w : World) (h : t.In w) (hT : Nm.Tb w.heap.size w) (hm : x.size ≤ maxLen) :
    Calls Tryz.prog 18 #[t.val, .int .i64 k, .string x] w fun e w' => e = .returned (.tuple #[.int .i64 (Rw.dropV t k x), .int .i64 (Rw.err t k x)]) ∧ Below w.heap.size w w' := by
  have LO := Lib.hid (fun v (hv : Below w.heap.size w v) => Rw.lettersOf_any t k x v (h.bt hv) (hT.bt hv) hm)
  unfold Rw.LoPost at LO
  unfold Rw.dropV Rw.err
  cases hL : Rw.isL t k x with
  | false =>
    rw [hL] at LO
    rw [if_neg (by decide), if_neg (by decide)]
    obtain ⟨A, a, B, b, C, c, R, D, E, d, o, i⟩ := t
    unfold Rw.TV.val
    simp only
    have hb := Nm.al w (.cells #[.slice A R.length a, .slice B D.length b, .slice C E.length c, .int .i64 d, .int .i64 o, .int .i64 i] 25)
    clear h hT hm hL
    go_enter Tryz.func18, Tryz.ntmps18
    go_wp2_with fail
    refine (LO.out _ hb).mono ?_
    rintro e v ⟨g, ⟨hf, _⟩ | ⟨_, rfl⟩⟩
    · cases hf
    have HB := Lib.hid (Rw.Nb hb g)
    clear hb g
    go_wp2
    go_ret2
    exact ⟨rfl, HB.out⟩
  | true =>
    rw [hL] at LO
    rw [if_pos rfl, if_pos rfl]
    have CA := Lib.hid (fun A c n hn v s1 hc hc2 => Rw.cat_lts hL A c n hn v s1 hc hc2)
    obtain ⟨r, hr⟩ : ∃ r, Rw.fd x = r := ⟨_, rfl⟩
    rw [hr] at CA ⊢
    obtain ⟨ll, hll⟩ : ∃ ll, (Rw.lts k x).map Nm.bt = ll := ⟨_, rfl⟩
    rw [hll] at LO CA
    obtain ⟨n, hn⟩ : ∃ n, ll.length = n := ⟨_, rfl⟩
    have HN := Lib.hid hn
    have HD := Lib.hid h.d
    have hnD : t.D.length ≤ maxLen := Nat.le_trans h.lb h.mb
    obtain ⟨A, a, B, b, C, c, R, D, E, d, o, i⟩ := t
    unfold Rw.TV.val
    simp only at HD hnD ⊢
    unfold maxLen at hnD
    obtain ⟨q, hq⟩ : ∃ q, D.length = q := ⟨_, rfl⟩
    have HQ := Lib.hid hq
    have hb := Nm.al w (.cells #[.slice A R.length a, .slice B q b, .slice C E.length c, .int .i64 d, .int .i64 o, .int .i64 i] 25)
    have BX := Lib.hid (Rw.box6 w #[.slice A R.length a, .slice B q b, .slice C E.length c, .int .i64 d, .int .i64 o, .int .i64 i])
    rw [← hq] at hb BX
    rw [hq] at hnD
    clear h hT hm hL hll hn hr hq
    go_enter Tryz.func18, Tryz.ntmps18
    go_wp2_with fail
    refine (LO.out _ hb).mono ?_
    rintro e v ⟨g, ⟨_, u, rfl, ou⟩ | ⟨hf, _⟩⟩
    rotate_left
    · cases hf
    have HB := Lib.hid (Rw.Nb hb g)
    have BX1 := Lib.hid (BX.out.bt g)
    obtain ⟨A1, c1, rfl, s1, hc1, hc2⟩ := ou.form
    rw [HN.out] at hc1 ⊢
    have C1 := Lib.hid (CA.out A1 c1 n HN.out v s1 hc1 hc2)
    clear hb g BX ou s1 CA LO hc1 hc2
    go_wp2_with fail
    refine C1.out.mono ?_
    rintro e V ⟨rfl, g⟩
    have HB2 := Lib.hid (Rw.Nb HB.out g)
    have BX2 := Lib.hid (BX1.out.bt g)
    rw [HQ.out] at BX2 ⊢
    have x1 := BX2.out.c 1 _ rfl
    clear g BX1 HB
    go_wp2_with fail
    clear x1
    go_loopw [28] (fun s28 wr => ∃ j : Nat, j ≤ q ∧ s28 = .int .i64 (j : Int) ∧ Hid (Rw.dropF k r d D = Rw.dropF k r d (D.drop j)) ∧ Hid (Below V.heap.size V wr)) (fun s28 _ => q - (intOf s28).toNat)
    case atStart => exact ⟨0, Nat.zero_le _, rfl, Lib.hid rfl, Lib.hid (Below.refl _ _)⟩
    case round =>
      obtain ⟨j, hj, rfl, HF, HW⟩ := hrel
      have HBw := Lib.hid (Rw.Nb HB2.out HW.out)
      by_cases hlt : j < q
      · have hjl : j < D.length := by rw [HQ.out]; exact hlt
        have hlti : (j : Int) < (q : Int) := by omega
        have hj0 : (0 : Int) ≤ (j : Int) := by omega
        obtain ⟨ad, rfl, had, c0, c1', c2⟩ := (HD.out.below HBw.out (Nat.le_refl _)).at hjl
        have HDR := Lib.hid (Rw.drop_get D j hjl)
        obtain ⟨y, hy⟩ : ∃ y, D[j] = y := ⟨_, rfl⟩
        rw [hy] at HDR c0 c1' c2
        have hst : Rw.dropF k r d (D.drop j) = if y.k = k ∧ y.word = r then y.cost else Rw.dropF k r d (D.drop (j + 1)) := by rw [HDR.out]; rfl
        have HST := Lib.hid hst
        have HA := Lib.hid (Nm.al wr (.cells #[.int .i64 y.k, .string y.word, .int .i64 y.cost] 63))
        clear hy hjl had hst
        by_cases hk : y.k = k
        · have hk1 : (y.k == k) = true := by simp [hk]
          by_cases hw : y.word = r
          · have hw1 : (y.word.toList == r.toList) = true := by simp [hw]
            have HE : Hid (Rw.dropF k r d D = y.cost) := Lib.hid (by rw [HF.out, HST.out, if_pos ⟨hk, hw⟩])
            clear hk hw
            go_wp2
            go_ret2
            exact ⟨by rw [HE.out]; rfl, Rw.Nb HBw.out HA.out⟩
          · have hw1 := Rw.bytes_ne hw
            have HE : Hid (Rw.dropF k r d D = Rw.dropF k r d (D.drop (j + 1))) := Lib.hid (by rw [HF.out, HST.out, if_neg (fun h => hw h.2)])
            clear hk hw
            go_wp2
            exact ⟨⟨j + 1, by omega, by go_num, HE, Lib.hid (Rw.Nb HW.out HA.out)⟩, by simp [intOf]; omega⟩
        · have hk1 : (y.k == k) = false := by simp [hk]
          have HE : Hid (Rw.dropF k r d D = Rw.dropF k r d (D.drop (j + 1))) := Lib.hid (by rw [HF.out, HST.out, if_neg (fun h => hk h.1)])
          go_wp2
          exact ⟨⟨j + 1, by omega, by go_num, HE, Lib.hid (Rw.Nb HW.out HA.out)⟩, by simp [intOf]; omega⟩
      · obtain rfl : j = q := by omega
        have HE : Hid (Rw.dropF k r d D = d) := Lib.hid (by rw [HF.out, List.drop_eq_nil_of_le (by rw [HQ.out]; exact Nat.le_refl _)]; rfl)
        have x3 := (BX2.out.bt HW.out).c 3 _ rfl
        go_wp2
        go_ret2
        exact ⟨by rw [HE.out]; rfl, HBw.out⟩
end Go.Proofs.YtkddpealobeleaaGreatDoor
