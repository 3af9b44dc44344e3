/- RatioTextsMatch: the walk. -/
import Derived.Test.YtmnnaaifebajnaaGreatDoorRaHd
import Derived.Test.YtmnnaaifebajnaaGreatDoorRaSh
import Derived.Test.YtmnnaaifebajnaaGreatDoorRaLw
import Derived.Test.YtmnnaaifebajnaaGreatDoorRrT
import Derived.Test.YtmnnaaifebajnaaGreatDoorRrP
import Derived.Deep.DeepCutAuto
set_option linter.unusedSimpArgs false
set_option linter.unusedVariables false
namespace Go.Proofs.YtmnnaaifebajnaaGreatDoor
open Go.RowKit
open Ra (Fit)
set_option maxRecDepth 100000

theorem cutAt_join : ∀ l : List UInt8, ((cutAt l).2.2 = true → l = (cutAt l).1 ++ 47 :: (cutAt l).2.1) ∧ ((cutAt l).2.2 = false → (cutAt l).1 = l)
  | [] => ⟨fun h => (by cases h), fun _ => rfl⟩
  | c :: l => by
    obtain ⟨h1, h2⟩ := cutAt_join l
    unfold cutAt
    by_cases hc : c = 47
    · rw [if_pos hc]
      exact ⟨fun _ => (by rw [hc]; rfl), fun h => (by cases h)⟩
    · rw [if_neg hc]
      exact ⟨fun h => (by rw [List.cons_append, ← h1 h]), fun h => (by rw [h2 h])⟩
theorem mk_list (b : ByteArray) : (⟨b.data.toList.toArray⟩ : ByteArray) = b := by
  apply ByteArray.ext
  simp
theorem cutS_hit (u : ByteArray) (h : (cutS u).2.2 = true) : u = (cutS u).1 ++ ((⟨#[47]⟩ : ByteArray) ++ (cutS u).2.1) := by
  unfold cutS at h ⊢
  rw [cut_at] at h ⊢
  have e := (cutAt_join u.data.toList).1 h
  apply ByteArray.ext
  apply Array.toList_inj.1
  simp only [ByteArray.data_append, Array.toList_append]
  exact e
theorem cutS_miss (u : ByteArray) (h : (cutS u).2.2 = false) : (cutS u).1 = u := by
  unfold cutS at h ⊢
  rw [cut_at] at h ⊢
  have e := (cutAt_join u.data.toList).2 h
  show (⟨(cutAt u.data.toList).1.toArray⟩ : ByteArray) = u
  rw [e]
  try exact mk_list u
theorem cutM_neg (t : ByteArray) (h0 : 0 < t.size) (h1 : t[0].toNat = 45) : cutM t = (t.extract 1 t.size, true) ∧ t = (⟨#[45]⟩ : ByteArray) ++ t.extract 1 t.size := by
  have hl : 0 < t.data.toList.length := by simpa using h0
  have hh : t.data.toList[0] = 45 := UInt8.toNat_inj.1 h1
  have hd := List.drop_eq_getElem_cons hl
  rw [List.drop_zero, hh] at hd
  have ee : (t.extract 1 t.size).data.toList = t.data.toList.drop 1 := by
    rw [ByteArray.data_extract, Array.toList_extract, List.extract_eq_take_drop, List.take_of_length_le]
    rw [List.length_drop, Array.length_toList]
    exact Nat.le_refl _
  have := cutM_list t.data.toList
  rw [mk_list, if_pos (by rw [hd]; rfl)] at this
  refine ⟨?_, ?_⟩
  · rw [this]
    congr 1
    rw [← ee]
    try exact mk_list _
  · apply ByteArray.ext
    apply Array.toList_inj.1
    rw [ByteArray.data_append, Array.toList_append, ee]
    exact hd
theorem cutM_pos (t : ByteArray) (h0 : 0 < t.size) (h1 : ¬ t[0].toNat = 45) : cutM t = (t, false) := by
  have hl : 0 < t.data.toList.length := by simpa using h0
  have hd := List.drop_eq_getElem_cons hl
  rw [List.drop_zero] at hd
  have := cutM_list t.data.toList
  rw [mk_list, if_neg (by
    rw [hd]
    intro e
    apply h1
    have e2 : t.data.toList[0] = 45 := Option.some.inj e
    have e3 : t[0] = 45 := e2
    rw [e3]
    rfl)] at this
  exact this
theorem cutM_nil (t : ByteArray) (h0 : ¬ 0 < t.size) : cutM t = (t, false) := by
  have hl : t.data.toList = [] := by
    apply List.eq_nil_of_length_eq_zero
    rw [Array.length_toList]
    show t.size = 0
    omega
  have := cutM_list t.data.toList
  rw [mk_list, if_neg (by rw [hl]; simp)] at this
  exact this
theorem pOut_parse (t : ByteArray) (neg : Bool) (u : ByteArray) (h : cutM t = (u, neg)) (ht : t = (if neg then (⟨#[45]⟩ : ByteArray) else ⟨#[]⟩) ++ u) : pOut neg u = parseF t := by
  unfold parseF spl
  rw [h]
  cases hc : (cutS u).2.2
  · rw [p_miss _ _ hc]
    dsimp only
    rw [cutS_miss u hc]
    simp only [Bool.false_eq_true, if_false]
    rw [show tR (neg, u, ⟨#[49]⟩) = t by
      unfold tR
      dsimp only
      rw [if_pos rfl, app_nil]
      exact ht.symm]
    rw [decide_eq_true rfl, Bool.and_true]
  · have hu := cutS_hit u hc
    rw [p_hit neg u (cutS u).1 (cutS u).2.1 (by rw [← hc])]
    simp only [if_true]
    generalize (cutS u).1 = n at *
    generalize (cutS u).2.1 = d at *
    by_cases h1 : d = ⟨#[49]⟩
    · subst h1
      rw [if_pos (by rw [ByteArray.toList_eq]; rfl)]
      have hne : tR (neg, n, ⟨#[49]⟩) ≠ t := by
        intro e
        have e2 := congrArg ByteArray.size e
        unfold tR at e2
        dsimp only at e2
        rw [if_pos rfl, app_nil, ht, hu] at e2
        simp only [ByteArray.size_append] at e2
        have e3 : (⟨#[47]⟩ : ByteArray).size = 1 := rfl
        omega
      rw [decide_eq_false hne, Bool.and_false]
      rfl
    · have hz := ne49 h1
      rw [hz, if_neg (by simp)]
      have he : tR (neg, n, d) = t := by
        unfold tR
        dsimp only
        rw [if_neg h1, ht, hu, ByteArray.append_assoc]
      rw [he, decide_eq_true rfl, Bool.and_true]
theorem rparse_q (t : ByteArray) (w : World) (ht : t.size ≤ 1000) :
    Calls Tryz.prog 33 #[.string t] w fun e w' => e = .returned (.tuple #[rV (parseF t).1, .int .i64 (parseF t).2]) ∧ Below w.heap.size w w' := by
  by_cases h0 : 0 < t.size
  · by_cases h1 : t[0].toNat = 45
    · obtain ⟨k1, k2⟩ := cutM_neg t h0 h1
      rw [← pOut_parse t true _ k1 (by rw [if_pos rfl]; exact k2)]
      exact rparse_neg t w ht h0 h1
    · rw [← pOut_parse t false _ (cutM_pos t h0 h1) (by rw [if_neg (by simp), nil_app])]
      exact rparse_pos t w ht h0 h1
  · rw [← pOut_parse t false _ (cutM_nil t h0) (by rw [if_neg (by simp), nil_app])]
    exact rparse_nil t w ht h0

set_option maxHeartbeats 1000000 in
theorem txm_early0 (sa : Bool) (na da : ByteArray) (ng : Bool) (qn qd qt : ByteArray) (zna : na.size ≤ 9223372036854775807) (zda : da.size ≤ 9223372036854775807) (hns : ¬ ∀ x ∈ [na, da], x.size ≤ 320) (w : World)
    (H : Hid (∀ v, Below w.heap.size w v → Calls Tryz.prog 10 #[] v fun e w' => e = .returned (.bool true) ∧ Below v.heap.size v w')) :
    Calls Tryz.prog 4 #[rV (sa, na, da), .bool ng, .string qn, .string qd, .string qt] w fun e w' => e = .returned (.bool true) ∧ Below w.heap.size w w' := by
  obtain ⟨hb0, A0⟩ := start1 w (sa, na, da) _ rfl
  unfold ob at hb0 A0
  unfold rV at  ⊢
  simp only at hb0 A0  ⊢
  go_enter Tryz.func4, Tryz.ntmps4
  go_wp2_with fail
  refine (H.out _ hb0).mono ?_
  rintro e w1 ⟨rfl, g⟩
  have hb1 := Nb hb0 (g)
  have A1 := A0.bt (g)
  clear hb0 A0 g
  obtain ⟨Ac0, Ac1, Ac2, _, _, _⟩ := A1.cells
  go_wp2_with fail
  have hX : (w1.alloc (.cells #[.bool sa, .string na, .string da] 23)).heap[w1.heap.size]? = some (.cells #[.bool sa, .string na, .string da] 23 (0, 0)) := heap_alloc_new _ _
  have SH := Lib.hid (lshort1 320 (by omega) w1.heap.size na da (w1.alloc (.cells #[.bool sa, .string na, .string da] 23)) (by rw [Lib.cell_of_heap hX]; rfl) (by rw [Lib.cell_of_heap hX]; rfl) zna zda)
  rw [show ((320 : Nat) : Int) = 320 from rfl] at SH
  refine SH.out.mono ?_
  rintro e wS ⟨r, rfl, hr, rfl⟩
  clear Ac0 Ac1 Ac2
  clear SH hX
  have hb1s := Nb hb1 (al w1 (.cells #[.bool sa, .string na, .string da] 23))
  have A1s := A1.bt (al w1 (.cells #[.bool sa, .string na, .string da] 23))
  clear hb1 A1 
  obtain rfl : r = false := by
    cases r
    · rfl
    · exact absurd (hr rfl) hns
  go_wp2_with fail
  go_ret
  exact ⟨rfl, hb1s⟩

set_option maxHeartbeats 1000000 in
theorem txm_early1 (sa : Bool) (na da : ByteArray) (ng : Bool) (qn qd qt : ByteArray) (zna : na.size ≤ 9223372036854775807) (zda : da.size ≤ 9223372036854775807) (l0 : (320 : Int) < (qn.size : Int)) (w : World)
    (H : Hid (∀ v, Below w.heap.size w v → Calls Tryz.prog 10 #[] v fun e w' => e = .returned (.bool true) ∧ Below v.heap.size v w')) :
    Calls Tryz.prog 4 #[rV (sa, na, da), .bool ng, .string qn, .string qd, .string qt] w fun e w' => e = .returned (.bool true) ∧ Below w.heap.size w w' := by
  obtain ⟨hb0, A0⟩ := start1 w (sa, na, da) _ rfl
  unfold ob at hb0 A0
  unfold rV at  ⊢
  simp only at hb0 A0  ⊢
  go_enter Tryz.func4, Tryz.ntmps4
  go_wp2_with fail
  refine (H.out _ hb0).mono ?_
  rintro e w1 ⟨rfl, g⟩
  have hb1 := Nb hb0 (g)
  have A1 := A0.bt (g)
  clear hb0 A0 g
  obtain ⟨Ac0, Ac1, Ac2, _, _, _⟩ := A1.cells
  go_wp2_with fail
  have hX : (w1.alloc (.cells #[.bool sa, .string na, .string da] 23)).heap[w1.heap.size]? = some (.cells #[.bool sa, .string na, .string da] 23 (0, 0)) := heap_alloc_new _ _
  have SH := Lib.hid (lshort1 320 (by omega) w1.heap.size na da (w1.alloc (.cells #[.bool sa, .string na, .string da] 23)) (by rw [Lib.cell_of_heap hX]; rfl) (by rw [Lib.cell_of_heap hX]; rfl) zna zda)
  rw [show ((320 : Nat) : Int) = 320 from rfl] at SH
  refine SH.out.mono ?_
  rintro e wS ⟨r, rfl, hr, rfl⟩
  clear Ac0 Ac1 Ac2
  clear SH hX
  have hb1s := Nb hb1 (al w1 (.cells #[.bool sa, .string na, .string da] 23))
  have A1s := A1.bt (al w1 (.cells #[.bool sa, .string na, .string da] 23))
  clear hb1 A1 
  clear hr
  cases r
  · go_wp2_with fail
    go_ret
    exact ⟨rfl, hb1s⟩
  · go_wp2_with fail
    go_ret
    exact ⟨rfl, hb1s⟩

set_option maxHeartbeats 1000000 in
theorem txm_early2 (sa : Bool) (na da : ByteArray) (ng : Bool) (qn qd qt : ByteArray) (zna : na.size ≤ 9223372036854775807) (zda : da.size ≤ 9223372036854775807) (l0 : ¬ (320 : Int) < (qn.size : Int)) (l1 : (320 : Int) < (qd.size : Int)) (w : World)
    (H : Hid (∀ v, Below w.heap.size w v → Calls Tryz.prog 10 #[] v fun e w' => e = .returned (.bool true) ∧ Below v.heap.size v w')) :
    Calls Tryz.prog 4 #[rV (sa, na, da), .bool ng, .string qn, .string qd, .string qt] w fun e w' => e = .returned (.bool true) ∧ Below w.heap.size w w' := by
  obtain ⟨hb0, A0⟩ := start1 w (sa, na, da) _ rfl
  unfold ob at hb0 A0
  unfold rV at  ⊢
  simp only at hb0 A0  ⊢
  go_enter Tryz.func4, Tryz.ntmps4
  go_wp2_with fail
  refine (H.out _ hb0).mono ?_
  rintro e w1 ⟨rfl, g⟩
  have hb1 := Nb hb0 (g)
  have A1 := A0.bt (g)
  clear hb0 A0 g
  obtain ⟨Ac0, Ac1, Ac2, _, _, _⟩ := A1.cells
  go_wp2_with fail
  have hX : (w1.alloc (.cells #[.bool sa, .string na, .string da] 23)).heap[w1.heap.size]? = some (.cells #[.bool sa, .string na, .string da] 23 (0, 0)) := heap_alloc_new _ _
  have SH := Lib.hid (lshort1 320 (by omega) w1.heap.size na da (w1.alloc (.cells #[.bool sa, .string na, .string da] 23)) (by rw [Lib.cell_of_heap hX]; rfl) (by rw [Lib.cell_of_heap hX]; rfl) zna zda)
  rw [show ((320 : Nat) : Int) = 320 from rfl] at SH
  refine SH.out.mono ?_
  rintro e wS ⟨r, rfl, hr, rfl⟩
  clear Ac0 Ac1 Ac2
  clear SH hX
  have hb1s := Nb hb1 (al w1 (.cells #[.bool sa, .string na, .string da] 23))
  have A1s := A1.bt (al w1 (.cells #[.bool sa, .string na, .string da] 23))
  clear hb1 A1 
  clear hr
  cases r
  · go_wp2_with fail
    go_ret
    exact ⟨rfl, hb1s⟩
  · go_wp2_with fail
    go_ret
    exact ⟨rfl, hb1s⟩

set_option maxHeartbeats 1000000 in
theorem txm_early3 (sa : Bool) (na da : ByteArray) (ng : Bool) (qn qd qt : ByteArray) (zna : na.size ≤ 9223372036854775807) (zda : da.size ≤ 9223372036854775807) (l0 : ¬ (320 : Int) < (qn.size : Int)) (l1 : ¬ (320 : Int) < (qd.size : Int)) (l2 : (620 : Int) < (qt.size : Int)) (w : World)
    (H : Hid (∀ v, Below w.heap.size w v → Calls Tryz.prog 10 #[] v fun e w' => e = .returned (.bool true) ∧ Below v.heap.size v w')) :
    Calls Tryz.prog 4 #[rV (sa, na, da), .bool ng, .string qn, .string qd, .string qt] w fun e w' => e = .returned (.bool true) ∧ Below w.heap.size w w' := by
  obtain ⟨hb0, A0⟩ := start1 w (sa, na, da) _ rfl
  unfold ob at hb0 A0
  unfold rV at  ⊢
  simp only at hb0 A0  ⊢
  go_enter Tryz.func4, Tryz.ntmps4
  go_wp2_with fail
  refine (H.out _ hb0).mono ?_
  rintro e w1 ⟨rfl, g⟩
  have hb1 := Nb hb0 (g)
  have A1 := A0.bt (g)
  clear hb0 A0 g
  obtain ⟨Ac0, Ac1, Ac2, _, _, _⟩ := A1.cells
  go_wp2_with fail
  have hX : (w1.alloc (.cells #[.bool sa, .string na, .string da] 23)).heap[w1.heap.size]? = some (.cells #[.bool sa, .string na, .string da] 23 (0, 0)) := heap_alloc_new _ _
  have SH := Lib.hid (lshort1 320 (by omega) w1.heap.size na da (w1.alloc (.cells #[.bool sa, .string na, .string da] 23)) (by rw [Lib.cell_of_heap hX]; rfl) (by rw [Lib.cell_of_heap hX]; rfl) zna zda)
  rw [show ((320 : Nat) : Int) = 320 from rfl] at SH
  refine SH.out.mono ?_
  rintro e wS ⟨r, rfl, hr, rfl⟩
  clear Ac0 Ac1 Ac2
  clear SH hX
  have hb1s := Nb hb1 (al w1 (.cells #[.bool sa, .string na, .string da] 23))
  have A1s := A1.bt (al w1 (.cells #[.bool sa, .string na, .string da] 23))
  clear hb1 A1 
  clear hr
  cases r
  · go_wp2_with fail
    go_ret
    exact ⟨rfl, hb1s⟩
  · go_wp2_with fail
    go_ret
    exact ⟨rfl, hb1s⟩

set_option maxHeartbeats 4000000 in
theorem txm_good (sa sm sp : Bool) (na da nm dm np dp : ByteArray) (ng : Bool) (qn qd qt : ByteArray) (zna : na.size ≤ 9223372036854775807) (zda : da.size ≤ 9223372036854775807) (st : ByteArray) (e1 e2 e3 : Int) (l0 : ¬ (320 : Int) < (qn.size : Int)) (l1 : ¬ (320 : Int) < (qd.size : Int)) (l2 : ¬ (620 : Int) < (qt.size : Int)) (w : World)
    (H : Hid (∀ v, Below w.heap.size w v → Calls Tryz.prog 10 #[] v fun e w' => e = .returned (.bool true) ∧ Below v.heap.size v w'))
    (MK : Hid (∀ v, Below w.heap.size w v → Calls Tryz.prog 28 #[.bool ng, .string qn, .string qd] v fun e w' => e = .returned (.tuple #[rV (sm, nm, dm), .int .i64 e1]) ∧ Below v.heap.size v w'))
    (RMK : Hid (∀ v, Below w.heap.size w v → Calls Tryz.prog 29 #[.bool ng, .string qn, .string qd] v fun e w' => e = .returned (.tuple #[rV (sm, nm, dm), .int .i64 e1]) ∧ Below v.heap.size v w'))
    (TX : Hid (∀ v, Below w.heap.size w v → Calls Tryz.prog 30 #[rV (sa, na, da)] v fun e w' => e = .returned (.tuple #[.string st, .int .i64 e2]) ∧ Below v.heap.size v w'))
    (RTX : Hid (∀ v, Below w.heap.size w v → Calls Tryz.prog 31 #[rV (sa, na, da)] v fun e w' => e = .returned (.tuple #[.string st, .int .i64 e2]) ∧ Below v.heap.size v w'))
    (PA : Hid (∀ v, Below w.heap.size w v → Calls Tryz.prog 32 #[.string qt] v fun e w' => e = .returned (.tuple #[rV (sp, np, dp), .int .i64 e3]) ∧ Below v.heap.size v w'))
    (RPA : Hid (∀ v, Below w.heap.size w v → Calls Tryz.prog 33 #[.string qt] v fun e w' => e = .returned (.tuple #[rV (sp, np, dp), .int .i64 e3]) ∧ Below v.heap.size v w')) :
    Calls Tryz.prog 4 #[rV (sa, na, da), .bool ng, .string qn, .string qd, .string qt] w fun e w' => e = .returned (.bool true) ∧ Below w.heap.size w w' := by
  obtain ⟨hb0, A0⟩ := start1 w (sa, na, da) _ rfl
  unfold ob at hb0 A0
  unfold rV at MK RMK TX RTX PA RPA ⊢
  simp only at hb0 A0 MK RMK TX RTX PA RPA ⊢
  go_enter Tryz.func4, Tryz.ntmps4
  go_wp2_with fail
  refine (H.out _ hb0).mono ?_
  rintro e w1 ⟨rfl, g⟩
  have hb1 := Nb hb0 (g)
  have A1 := A0.bt (g)
  clear hb0 A0 g
  obtain ⟨Ac0, Ac1, Ac2, _, _, _⟩ := A1.cells
  go_wp2_with fail
  have hX : (w1.alloc (.cells #[.bool sa, .string na, .string da] 23)).heap[w1.heap.size]? = some (.cells #[.bool sa, .string na, .string da] 23 (0, 0)) := heap_alloc_new _ _
  have SH := Lib.hid (lshort1 320 (by omega) w1.heap.size na da (w1.alloc (.cells #[.bool sa, .string na, .string da] 23)) (by rw [Lib.cell_of_heap hX]; rfl) (by rw [Lib.cell_of_heap hX]; rfl) zna zda)
  rw [show ((320 : Nat) : Int) = 320 from rfl] at SH
  refine SH.out.mono ?_
  rintro e wS ⟨r, rfl, hr, rfl⟩
  clear Ac0 Ac1 Ac2
  clear SH hX
  have hb1s := Nb hb1 (al w1 (.cells #[.bool sa, .string na, .string da] 23))
  have A1s := A1.bt (al w1 (.cells #[.bool sa, .string na, .string da] 23))
  clear hb1 A1 
  clear hr
  cases r
  · go_wp2_with fail
    go_ret
    exact ⟨rfl, hb1s⟩
  · go_wp2_with fail
    refine (MK.out _ hb1s).mono ?_
    rintro e w2 ⟨rfl, g⟩
    have hb2 := Nb hb1s (g)
    have A2 := A1s.bt (g)
    clear hb1s A1s g
    have hb2x := Nb hb2 (al w2 (.cells #[.bool sm, .string nm, .string dm] 23))
    have A2x := A2.bt (al w2 (.cells #[.bool sm, .string nm, .string dm] 23))
    clear hb2 A2 
    have Xa2x := At.new w2 sm nm dm
    go_wp2_with fail
    refine (RMK.out _ hb2x).mono ?_
    rintro e w3 ⟨rfl, g⟩
    have hb3 := Nb hb2x (g)
    have A3 := A2x.bt (g)
    have Xa3 := Xa2x.bt (g)
    clear hb2x A2x Xa2x g
    have hb3x := Nb hb3 (al w3 (.cells #[.bool sm, .string nm, .string dm] 23))
    have A3x := A3.bt (al w3 (.cells #[.bool sm, .string nm, .string dm] 23))
    have Xa3x := Xa3.bt (al w3 (.cells #[.bool sm, .string nm, .string dm] 23))
    clear hb3 A3 Xa3 
    have Xb3x := At.new w3 sm nm dm
    obtain ⟨Ac0, Ac1, Ac2, _, _, _⟩ := A3x.cells
    go_wp2_with fail
    refine (TX.out _ hb3x).mono ?_
    rintro e w4 ⟨rfl, g⟩
    clear Ac0 Ac1 Ac2
    have hb4 := Nb hb3x (g)
    have A4 := A3x.bt (g)
    have Xa4 := Xa3x.bt (g)
    have Xb4 := Xb3x.bt (g)
    clear hb3x A3x Xa3x Xb3x g
    obtain ⟨Ac0, Ac1, Ac2, _, _, _⟩ := A4.cells
    go_wp2_with fail
    refine (RTX.out _ hb4).mono ?_
    rintro e w5 ⟨rfl, g⟩
    clear Ac0 Ac1 Ac2
    have hb5 := Nb hb4 (g)
    have A5 := A4.bt (g)
    have Xa5 := Xa4.bt (g)
    have Xb5 := Xb4.bt (g)
    clear hb4 A4 Xa4 Xb4 g
    go_wp2_with fail
    refine (PA.out _ hb5).mono ?_
    rintro e w6 ⟨rfl, g⟩
    have hb6 := Nb hb5 (g)
    have A6 := A5.bt (g)
    have Xa6 := Xa5.bt (g)
    have Xb6 := Xb5.bt (g)
    clear hb5 A5 Xa5 Xb5 g
    have hb6x := Nb hb6 (al w6 (.cells #[.bool sp, .string np, .string dp] 23))
    have A6x := A6.bt (al w6 (.cells #[.bool sp, .string np, .string dp] 23))
    have Xa6x := Xa6.bt (al w6 (.cells #[.bool sp, .string np, .string dp] 23))
    have Xb6x := Xb6.bt (al w6 (.cells #[.bool sp, .string np, .string dp] 23))
    clear hb6 A6 Xa6 Xb6 
    have Xx6x := At.new w6 sp np dp
    go_wp2_with fail
    refine (RPA.out _ hb6x).mono ?_
    rintro e w7 ⟨rfl, g⟩
    have hb7 := Nb hb6x (g)
    have A7 := A6x.bt (g)
    have Xa7 := Xa6x.bt (g)
    have Xb7 := Xb6x.bt (g)
    have Xx7 := Xx6x.bt (g)
    clear hb6x A6x Xa6x Xb6x Xx6x g
    have hb7x := Nb hb7 (al w7 (.cells #[.bool sp, .string np, .string dp] 23))
    have A7x := A7.bt (al w7 (.cells #[.bool sp, .string np, .string dp] 23))
    have Xa7x := Xa7.bt (al w7 (.cells #[.bool sp, .string np, .string dp] 23))
    have Xb7x := Xb7.bt (al w7 (.cells #[.bool sp, .string np, .string dp] 23))
    have Xx7x := Xx7.bt (al w7 (.cells #[.bool sp, .string np, .string dp] 23))
    clear hb7 A7 Xa7 Xb7 Xx7 
    have Xy7x := At.new w7 sp np dp
    obtain ⟨Xac0, Xac1, Xac2, _, _, _⟩ := Xa7x.cells
    obtain ⟨Xbc0, Xbc1, Xbc2, _, _, _⟩ := Xb7x.cells
    obtain ⟨Xxc0, Xxc1, Xxc2, _, _, _⟩ := Xx7x.cells
    obtain ⟨Xyc0, Xyc1, Xyc2, _, _, _⟩ := Xy7x.cells
    go_wp2_with fail
    go_ret
    exact ⟨rfl, hb7x⟩

theorem txm_walk (r : R3) (ng : Bool) (qn qd qt : ByteArray) (w : World) (hP : Px w.heap.size w) (ha : r.2.1.size ≤ maxLen ∧ r.2.2.size ≤ maxLen) (z1 : qn.size ≤ maxLen) (z2 : qd.size ≤ maxLen) (z3 : qt.size ≤ maxLen) :
    Calls Tryz.prog 4 #[rV r, .bool ng, .string qn, .string qd, .string qt] w fun e w' => e = .returned (.bool true) ∧ Below w.heap.size w w' := by
  have H := Lib.hid (fun v (h : Below w.heap.size w v) => head_any v (hP.bt h))
  have P := fun v (h : Below w.heap.size w v) => (hP.bt h).1
  by_cases hs : ∀ x ∈ [r.2.1, r.2.2], x.size ≤ 320
  · simp only [List.mem_cons, List.not_mem_nil, or_false, forall_eq_or_imp, forall_eq] at hs
    by_cases l0 : (320 : Int) < (qn.size : Int)
    · exact txm_early1 (sa := r.1) (ng := ng) (qn := qn) (qd := qd) (qt := qt) (zna := ha.1) (zda := ha.2) (l0 := l0) (w := w) (H := H)
    by_cases l1 : (320 : Int) < (qd.size : Int)
    · exact txm_early2 (sa := r.1) (ng := ng) (qn := qn) (qd := qd) (qt := qt) (zna := ha.1) (zda := ha.2) (l0 := l0) (l1 := l1) (w := w) (H := H)
    by_cases l2 : (620 : Int) < (qt.size : Int)
    · exact txm_early3 (sa := r.1) (ng := ng) (qn := qn) (qd := qd) (qt := qt) (zna := ha.1) (zda := ha.2) (l0 := l0) (l1 := l1) (l2 := l2) (w := w) (H := H)
    exact txm_good (sa := r.1) (ng := ng) (qn := qn) (qd := qd) (qt := qt) (zna := ha.1) (zda := ha.2) (l0 := l0) (l1 := l1) (l2 := l2) (w := w) (H := H)
      (MK := Lib.hid (fun v h => makeF_any (ng, qn, qd) v (P v h) z1 z2)) (RMK := Lib.hid (fun v _ => rmake ng qn qd v (by omega) (by omega)))
      (TX := Lib.hid (fun v h => textR_any r v (P v h) (by omega) (by omega))) (RTX := Lib.hid (fun v _ => rtext_q r v (by omega) (by omega)))
      (PA := Lib.hid (fun v h => parseR_any qt v (hP.bt h) (by omega))) (RPA := Lib.hid (fun v _ => rparse_q qt v (by omega)))
  · exact txm_early0 (sa := r.1) (ng := ng) (qn := qn) (qd := qd) (qt := qt) (zna := ha.1) (zda := ha.2) (hns := hs) (w := w) (H := H)
end Go.Proofs.YtmnnaaifebajnaaGreatDoor
