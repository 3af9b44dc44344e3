/- The reference of layer 5: Parse. Printed by gen/rr_p.py. -/
import Derived.Test.YtmnnaaifebajnaaGreatDoorRrAB
import Derived.Test.YtmnnaaifebajnaaGreatDoorRaPa
import Derived.Test.YtmnnaaifebajnaaGreatDoorRaQ
import Derived.StillTailTactics
set_option linter.unusedSimpArgs false
set_option linter.unusedVariables false
namespace Go.Proofs.YtmnnaaifebajnaaGreatDoor
open Go.RowKit
open Ra (Fit)
set_option maxRecDepth 100000

/- What stands before and behind the first stroke; what the reference's Parse answers. -/
def pOut (neg : Bool) (u : ByteArray) : R3 × Int :=
  if (cutS u).2.2 then (if ((cutS u).2.1.toList == [49]) = true then (zeroR, 5) else if vR (neg, (cutS u).1, (cutS u).2.1) then ((neg, (cutS u).1, (cutS u).2.1), 0) else (zeroR, 5))
  else if vR (neg, u, ⟨#[49]⟩) then ((neg, u, ⟨#[49]⟩), 0) else (zeroR, 5)

theorem getD_byte (s : ByteArray) (k : Nat) (h : k < s.size) : s.data.toList.getD k 0 = s[k] := by
  have hl : k < s.data.toList.length := by simpa using h
  rw [List.getD_eq_getElem?_getD, List.getElem?_eq_getElem hl]
  rfl
theorem cut_hit (u : ByteArray) (k : Nat) (h : k < u.size) (h1 : u[k].toNat = 47) (hn : ∀ j, j < k → u.data.toList.getD j 0 ≠ 47) : cutS u = (u.extract 0 k, u.extract (k + 1) u.size, true) := by
  have hl : k < u.data.toList.length := by simpa using h
  have e : u.data.toList = u.data.toList.take k ++ 47 :: u.data.toList.drop (k + 1) := by
    have h2 : u.data.toList[k] = 47 := by
      apply UInt8.toNat_inj.1
      exact h1
    have h3 := List.drop_eq_getElem_cons hl
    rw [h2] at h3
    rw [← h3, List.take_append_drop]
  have hno : (47 : UInt8) ∉ u.data.toList.take k := by
    intro hm
    obtain ⟨j, hj, he⟩ := List.getElem_of_mem hm
    have hj2 : j < k := by rw [List.length_take] at hj; omega
    apply hn j hj2
    rw [List.getD_eq_getElem?_getD, List.getElem?_eq_getElem (by omega)]
    rw [List.getElem_take] at he
    exact he
  unfold cutS
  rw [cut_at, show cutAt u.data.toList = (u.data.toList.take k, u.data.toList.drop (k + 1), true) from (congrArg cutAt e).trans (cutAt_app _ _ hno)]
  refine Prod.ext ?_ (Prod.ext ?_ rfl)
  · apply ByteArray.ext
    apply Array.toList_inj.1
    simp [ByteArray.data_extract, Array.toList_extract, List.extract_eq_take_drop]
  · apply ByteArray.ext
    apply Array.toList_inj.1
    simp [ByteArray.data_extract, Array.toList_extract, List.extract_eq_take_drop]
    rw [List.take_of_length_le]
    rw [List.length_drop, Array.length_toList]
    exact Nat.le_refl _
theorem cut_miss (u : ByteArray) (hn : ∀ j, j < u.size → u.data.toList.getD j 0 ≠ 47) : (cutS u).2.2 = false := by
  have hno : (47 : UInt8) ∉ u.data.toList := by
    intro hm
    obtain ⟨j, hj, he⟩ := List.getElem_of_mem hm
    have hj2 : j < u.size := by simpa using hj
    apply hn j hj2
    rw [List.getD_eq_getElem?_getD, List.getElem?_eq_getElem hj]
    exact he
  unfold cutS
  rw [cut_at, cutAt_no _ hno]
theorem At.mid {w : World} {b : Nat} {s : Bool} {n d : ByteArray} (h : At w b (s, n, d)) (n' d' : ByteArray) : At ((w.setCell ⟨b, 1, none⟩ (.string n')).setCell ⟨b, 2, none⟩ (.string d')) b (s, n', d') := by
  unfold At at h ⊢
  exact heap_setCell_same _ b 2 _ _ _ (heap_setCell_same _ b 1 _ _ _ h)

theorem At.midfar {w : World} {k b : Nat} {r : R3} (h : At w k r) (hn : k ≠ b) (x y : Value) : At ((w.setCell ⟨b, 1, none⟩ x).setCell ⟨b, 2, none⟩ y) k r := by
  unfold At at h ⊢
  rw [Below.heap_setCell _ _ _ _ hn, Below.heap_setCell _ _ _ _ hn]
  exact h
theorem Bmid {w v : World} {B b : Nat} (h : Below B w v) (hb : B ≤ b) (x y : Value) : Below B w ((v.setCell ⟨b, 1, none⟩ x).setCell ⟨b, 2, none⟩ y) :=
  (h.setCell (p := ⟨b, 1, none⟩) hb _).setCell (p := ⟨b, 2, none⟩) hb _
theorem p_miss (neg : Bool) (u : ByteArray) (h : (cutS u).2.2 = false) : pOut neg u = if vR (neg, u, ⟨#[49]⟩) then ((neg, u, ⟨#[49]⟩), 0) else (zeroR, 5) := by
  unfold pOut
  rw [h, if_neg (by simp)]
theorem p_hit (neg : Bool) (u n d : ByteArray) (h : cutS u = (n, d, true)) : pOut neg u = if (d.toList == [49]) = true then (zeroR, 5) else if vR (neg, n, d) then ((neg, n, d), 0) else (zeroR, 5) := by
  unfold pOut
  rw [h, if_pos rfl]

set_option maxHeartbeats 2000000 in
theorem rparse_neg (t : ByteArray) (w : World) (ht : t.size ≤ 1000) (h0 : 0 < t.size) (h1 : t[0].toNat = 45) :
    Calls Tryz.prog 33 #[.string t] w fun e w' => e = .returned (.tuple #[rV (pOut true (t.extract 1 t.size)).1, .int .i64 (pOut true (t.extract 1 t.size)).2]) ∧ Below w.heap.size w w' := by
  have h0' : (0 : Int) < (t.size : Int) := by omega
  have h1' : (t[0].toNat : Int) = 45 := by omega
  have hu : (t.extract 1 t.size).size ≤ 1000 := by rw [ByteArray.size_extract]; omega
  generalize hu0 : t.extract 1 t.size = u at *
  have HU := Lib.hid hu0
  clear hu0
  go_enter Tryz.func33, Tryz.ntmps33
  go_wp2_with fail
  rw [HU.out]
  obtain ⟨hb0, R0, X0⟩ := startB w (false, ⟨#[]⟩, ⟨#[]⟩) (true, u, ⟨#[49]⟩) _ rfl
  unfold ob at hb0 R0 X0
  simp only at hb0 R0 X0
  generalize (w.alloc (.cells #[.bool false, .string ⟨#[]⟩, .string ⟨#[]⟩] 23)).alloc (.cells #[.bool true, .string u, .string ⟨#[49]⟩] 23) = v0 at *
  obtain ⟨x0, x1, x2, g0, g1, g2⟩ := X0.cells
  obtain ⟨r0, r1, r2, f0, f1, f2⟩ := R0.cells
  go_loop [5] (fun i => ∃ k : Nat, i = .int .i64 (k : Int) ∧ k ≤ u.size ∧ Hid (∀ j, j < k → u.data.toList.getD j 0 ≠ 47)) (fun i => u.size - (intOf i).toNat)
  case atStart => exact ⟨0, by first | rfl | (congr 1), by omega, Lib.hid (fun j h => absurd h (by omega))⟩
  case round =>
    obtain ⟨k, rfl, hk, HN⟩ := hrel
    by_cases hlt : k < u.size
    · by_cases hc : u[k].toNat = 47
      · have HC := Lib.hid (cut_hit u k hlt hc HN.out)
        have hc' : (u[k].toNat : Int) = 47 := by omega
        have hn1 : (u.extract 0 k).size ≤ 1000 := by rw [ByteArray.size_extract]; omega
        have hn2 : (u.extract (k + 1) u.size).size ≤ 1000 := by rw [ByteArray.size_extract]; omega
        obtain ⟨q, hq⟩ : ∃ q, q = k + 1 := ⟨_, rfl⟩
        have hw0 : IntKind.i64.wrap ((k : Int) + 1) = (q : Int) := by rw [IntKind.wrap_i64]; omega
        have i1 : (0 : Int) ≤ (k : Int) := by omega
        have i2 : (k : Int) ≤ (u.size : Int) := by omega
        have i3 : (0 : Int) ≤ (q : Int) := by omega
        have i4 : (q : Int) ≤ (u.size : Int) := by omega
        have Xd : At v0.drew (w.heap.size + 1) (true, u, ⟨#[49]⟩) := X0.bt (Bd v0)
        obtain ⟨y0, y1, y2, k0, k1, k2⟩ := Xd.cells
        rw [← hq] at HC hn2
        have HP0 := Lib.hid (p_hit true u _ _ HC.out)
        have V := Lib.hid (fun v => rvalid_any (true, u.extract 0 k, u.extract q u.size) v hn1 hn2)
        clear hq
        cases hz : ((u.extract q u.size).toList == [49])
        · rw [hz, if_neg (by simp)] at HP0
          go_upto_region 9 with fail
          go_region
          go_wp2_with fail
          have hbm := Nb (Bmid hb0 (show w.heap.size ≤ w.heap.size + 1 by omega) (.string (u.extract 0 k)) (.string (u.extract q u.size))) (Bd _)
          have Xm := (X0.mid (u.extract 0 k) (u.extract q u.size)).bt (Bd _)
          have Rm := (R0.midfar (show w.heap.size ≠ w.heap.size + 1 by omega) (.string (u.extract 0 k)) (.string (u.extract q u.size))).bt (Bd _)
          clear x0 x1 x2 g0 g1 g2 r0 r1 r2 f0 f1 f2 y0 y1 y2 k0 k1 k2 Xd X0 R0 hb0
          cases hv : vR (true, u.extract 0 k, u.extract q u.size)
          all_goals
            rw [hv] at V HP0
            have HP := HP0
            refine (V.out _).mono ?_
            rintro e w2 ⟨rfl, h2⟩
            have hb2 := Nb hbm h2
            have X2 := Xm.bt h2
            have R2 := Rm.bt h2
            obtain ⟨x0, x1, x2, _, _, _⟩ := X2.cells
            obtain ⟨r0, r1, r2, f0, f1, f2⟩ := R2.cells
            go_wp2_with fail
            exact bodyPost_ret (out2 Tryz.results33 _ _ _ _ _ rfl rfl (R2.set _ _ _)) rfl ⟨by rw [HP.out]; rfl, Bset2 hb2 (by omega) _ _ _⟩
        · rw [hz, if_pos rfl] at HP0
          have HP := HP0
          have hb2 := Bmid hb0 (show w.heap.size ≤ w.heap.size + 1 by omega) (.string (u.extract 0 k)) (.string (u.extract q u.size))
          have R2 := R0.midfar (show w.heap.size ≠ w.heap.size + 1 by omega) (.string (u.extract 0 k)) (.string (u.extract q u.size))
          go_upto_region 9 with fail
          go_region
          go_wp2_with fail
          exact bodyPost_ret (out2 Tryz.results33 _ _ _ _ _ rfl rfl ((R2.set _ _ _).bt (Bd _))) rfl ⟨by rw [HP.out]; rfl, Nb (Bset2 hb2 (by omega) _ _ _) (Bd _)⟩
      · have hc' : ¬ (u[k].toNat : Int) = 47 := by omega
        have HN2 : Hid (∀ j, j < k + 1 → u.data.toList.getD j 0 ≠ 47) := Lib.hid (by
          intro j hj
          by_cases hjk : j < k
          · exact HN.out j hjk
          · obtain rfl : j = k := by omega
            rw [getD_byte u j hlt]
            intro e
            apply hc
            rw [e]
            rfl)
        clear HN
        go_wp2_with fail
        exact ⟨⟨k + 1, by go_num, by omega, HN2⟩, by simp [intOf]; omega⟩
    · have HC := Lib.hid (cut_miss u (fun j hj => HN.out j (by omega)))
      have HP0 := Lib.hid (p_miss true u HC.out)
      have V := Lib.hid (fun v => rvalid_any (true, u, ⟨#[49]⟩) v (by simp only; omega) (by show (⟨#[49]⟩ : ByteArray).size ≤ 1000; decide))
      obtain rfl : k = u.size := by omega
      cases hv : vR (true, u, ⟨#[49]⟩)
      all_goals
        rw [hv] at V HP0
        have HP := HP0
        go_wp2_with fail
        refine (V.out _).mono ?_
        rintro e w2 ⟨rfl, h2⟩
        have hb2 := Nb hb0 h2
        have X2 := X0.bt h2
        have R2 := R0.bt h2
        clear x0 x1 x2 g0 g1 g2 r0 r1 r2 f0 f1 f2
        obtain ⟨x0, x1, x2, _, _, _⟩ := X2.cells
        obtain ⟨r0, r1, r2, f0, f1, f2⟩ := R2.cells
        go_wp2_with fail
        exact bodyPost_ret (out2 Tryz.results33 _ _ _ _ _ rfl rfl (R2.set _ _ _)) rfl ⟨by rw [HP.out]; rfl, Bset2 hb2 (by omega) _ _ _⟩
set_option maxHeartbeats 2000000 in
theorem rparse_pos (u : ByteArray) (w : World) (hu : u.size ≤ 1000) (h0 : 0 < u.size) (h1 : ¬ u[0].toNat = 45) :
    Calls Tryz.prog 33 #[.string u] w fun e w' => e = .returned (.tuple #[rV (pOut false u).1, .int .i64 (pOut false u).2]) ∧ Below w.heap.size w w' := by
  have h0' : (0 : Int) < (u.size : Int) := by omega
  have h1' : ¬ (u[0].toNat : Int) = 45 := by omega
  have h1'' : ((u[0].toNat : Int) == 45) = false := by simpa using h1'
  go_enter Tryz.func33, Tryz.ntmps33
  go_wp2_with fail
  obtain ⟨hb0, R0, X0⟩ := startB w (false, ⟨#[]⟩, ⟨#[]⟩) (false, u, ⟨#[49]⟩) _ rfl
  unfold ob at hb0 R0 X0
  simp only at hb0 R0 X0
  generalize (w.alloc (.cells #[.bool false, .string ⟨#[]⟩, .string ⟨#[]⟩] 23)).alloc (.cells #[.bool false, .string u, .string ⟨#[49]⟩] 23) = v0 at *
  obtain ⟨x0, x1, x2, g0, g1, g2⟩ := X0.cells
  obtain ⟨r0, r1, r2, f0, f1, f2⟩ := R0.cells
  go_loop [5] (fun i => ∃ k : Nat, i = .int .i64 (k : Int) ∧ k ≤ u.size ∧ Hid (∀ j, j < k → u.data.toList.getD j 0 ≠ 47)) (fun i => u.size - (intOf i).toNat)
  case atStart => exact ⟨0, by first | rfl | (congr 1), by omega, Lib.hid (fun j h => absurd h (by omega))⟩
  case round =>
    obtain ⟨k, rfl, hk, HN⟩ := hrel
    by_cases hlt : k < u.size
    · by_cases hc : u[k].toNat = 47
      · have HC := Lib.hid (cut_hit u k hlt hc HN.out)
        have hc' : (u[k].toNat : Int) = 47 := by omega
        have hn1 : (u.extract 0 k).size ≤ 1000 := by rw [ByteArray.size_extract]; omega
        have hn2 : (u.extract (k + 1) u.size).size ≤ 1000 := by rw [ByteArray.size_extract]; omega
        obtain ⟨q, hq⟩ : ∃ q, q = k + 1 := ⟨_, rfl⟩
        have hw0 : IntKind.i64.wrap ((k : Int) + 1) = (q : Int) := by rw [IntKind.wrap_i64]; omega
        have i1 : (0 : Int) ≤ (k : Int) := by omega
        have i2 : (k : Int) ≤ (u.size : Int) := by omega
        have i3 : (0 : Int) ≤ (q : Int) := by omega
        have i4 : (q : Int) ≤ (u.size : Int) := by omega
        have Xd : At v0.drew (w.heap.size + 1) (false, u, ⟨#[49]⟩) := X0.bt (Bd v0)
        obtain ⟨y0, y1, y2, k0, k1, k2⟩ := Xd.cells
        rw [← hq] at HC hn2
        have HP0 := Lib.hid (p_hit false u _ _ HC.out)
        have V := Lib.hid (fun v => rvalid_any (false, u.extract 0 k, u.extract q u.size) v hn1 hn2)
        clear hq
        cases hz : ((u.extract q u.size).toList == [49])
        · rw [hz, if_neg (by simp)] at HP0
          go_upto_region 9 with fail
          go_region
          go_wp2_with fail
          have hbm := Nb (Bmid hb0 (show w.heap.size ≤ w.heap.size + 1 by omega) (.string (u.extract 0 k)) (.string (u.extract q u.size))) (Bd _)
          have Xm := (X0.mid (u.extract 0 k) (u.extract q u.size)).bt (Bd _)
          have Rm := (R0.midfar (show w.heap.size ≠ w.heap.size + 1 by omega) (.string (u.extract 0 k)) (.string (u.extract q u.size))).bt (Bd _)
          clear x0 x1 x2 g0 g1 g2 r0 r1 r2 f0 f1 f2 y0 y1 y2 k0 k1 k2 Xd X0 R0 hb0
          cases hv : vR (false, u.extract 0 k, u.extract q u.size)
          all_goals
            rw [hv] at V HP0
            have HP := HP0
            refine (V.out _).mono ?_
            rintro e w2 ⟨rfl, h2⟩
            have hb2 := Nb hbm h2
            have X2 := Xm.bt h2
            have R2 := Rm.bt h2
            obtain ⟨x0, x1, x2, _, _, _⟩ := X2.cells
            obtain ⟨r0, r1, r2, f0, f1, f2⟩ := R2.cells
            go_wp2_with fail
            exact bodyPost_ret (out2 Tryz.results33 _ _ _ _ _ rfl rfl (R2.set _ _ _)) rfl ⟨by rw [HP.out]; rfl, Bset2 hb2 (by omega) _ _ _⟩
        · rw [hz, if_pos rfl] at HP0
          have HP := HP0
          have hb2 := Bmid hb0 (show w.heap.size ≤ w.heap.size + 1 by omega) (.string (u.extract 0 k)) (.string (u.extract q u.size))
          have R2 := R0.midfar (show w.heap.size ≠ w.heap.size + 1 by omega) (.string (u.extract 0 k)) (.string (u.extract q u.size))
          go_upto_region 9 with fail
          go_region
          go_wp2_with fail
          exact bodyPost_ret (out2 Tryz.results33 _ _ _ _ _ rfl rfl ((R2.set _ _ _).bt (Bd _))) rfl ⟨by rw [HP.out]; rfl, Nb (Bset2 hb2 (by omega) _ _ _) (Bd _)⟩
      · have hc' : ¬ (u[k].toNat : Int) = 47 := by omega
        have HN2 : Hid (∀ j, j < k + 1 → u.data.toList.getD j 0 ≠ 47) := Lib.hid (by
          intro j hj
          by_cases hjk : j < k
          · exact HN.out j hjk
          · obtain rfl : j = k := by omega
            rw [getD_byte u j hlt]
            intro e
            apply hc
            rw [e]
            rfl)
        clear HN
        go_wp2_with fail
        exact ⟨⟨k + 1, by go_num, by omega, HN2⟩, by simp [intOf]; omega⟩
    · have HC := Lib.hid (cut_miss u (fun j hj => HN.out j (by omega)))
      have HP0 := Lib.hid (p_miss false u HC.out)
      have V := Lib.hid (fun v => rvalid_any (false, u, ⟨#[49]⟩) v (by simp only; omega) (by show (⟨#[49]⟩ : ByteArray).size ≤ 1000; decide))
      obtain rfl : k = u.size := by omega
      cases hv : vR (false, u, ⟨#[49]⟩)
      all_goals
        rw [hv] at V HP0
        have HP := HP0
        go_wp2_with fail
        refine (V.out _).mono ?_
        rintro e w2 ⟨rfl, h2⟩
        have hb2 := Nb hb0 h2
        have X2 := X0.bt h2
        have R2 := R0.bt h2
        clear x0 x1 x2 g0 g1 g2 r0 r1 r2 f0 f1 f2
        obtain ⟨x0, x1, x2, _, _, _⟩ := X2.cells
        obtain ⟨r0, r1, r2, f0, f1, f2⟩ := R2.cells
        go_wp2_with fail
        exact bodyPost_ret (out2 Tryz.results33 _ _ _ _ _ rfl rfl (R2.set _ _ _)) rfl ⟨by rw [HP.out]; rfl, Bset2 hb2 (by omega) _ _ _⟩
set_option maxHeartbeats 2000000 in
theorem rparse_nil (u : ByteArray) (w : World) (hu : u.size ≤ 1000) (h0 : ¬ 0 < u.size) :
    Calls Tryz.prog 33 #[.string u] w fun e w' => e = .returned (.tuple #[rV (pOut false u).1, .int .i64 (pOut false u).2]) ∧ Below w.heap.size w w' := by
  have h0' : ¬ (0 : Int) < (u.size : Int) := by omega
  go_enter Tryz.func33, Tryz.ntmps33
  go_wp2_with fail
  obtain ⟨hb0, R0, X0⟩ := startB w (false, ⟨#[]⟩, ⟨#[]⟩) (false, u, ⟨#[49]⟩) _ rfl
  unfold ob at hb0 R0 X0
  simp only at hb0 R0 X0
  generalize (w.alloc (.cells #[.bool false, .string ⟨#[]⟩, .string ⟨#[]⟩] 23)).alloc (.cells #[.bool false, .string u, .string ⟨#[49]⟩] 23) = v0 at *
  obtain ⟨x0, x1, x2, g0, g1, g2⟩ := X0.cells
  obtain ⟨r0, r1, r2, f0, f1, f2⟩ := R0.cells
  go_loop [5] (fun i => ∃ k : Nat, i = .int .i64 (k : Int) ∧ k ≤ u.size ∧ Hid (∀ j, j < k → u.data.toList.getD j 0 ≠ 47)) (fun i => u.size - (intOf i).toNat)
  case atStart => exact ⟨0, by first | rfl | (congr 1), by omega, Lib.hid (fun j h => absurd h (by omega))⟩
  case round =>
    obtain ⟨k, rfl, hk, HN⟩ := hrel
    by_cases hlt : k < u.size
    · exact absurd hlt (by omega)
    · have HC := Lib.hid (cut_miss u (fun j hj => HN.out j (by omega)))
      have HP0 := Lib.hid (p_miss false u HC.out)
      have V := Lib.hid (fun v => rvalid_any (false, u, ⟨#[49]⟩) v (by simp only; omega) (by show (⟨#[49]⟩ : ByteArray).size ≤ 1000; decide))
      obtain rfl : k = u.size := by omega
      cases hv : vR (false, u, ⟨#[49]⟩)
      all_goals
        rw [hv] at V HP0
        have HP := HP0
        go_wp2_with fail
        refine (V.out _).mono ?_
        rintro e w2 ⟨rfl, h2⟩
        have hb2 := Nb hb0 h2
        have X2 := X0.bt h2
        have R2 := R0.bt h2
        clear x0 x1 x2 g0 g1 g2 r0 r1 r2 f0 f1 f2
        obtain ⟨x0, x1, x2, _, _, _⟩ := X2.cells
        obtain ⟨r0, r1, r2, f0, f1, f2⟩ := R2.cells
        go_wp2_with fail
        exact bodyPost_ret (out2 Tryz.results33 _ _ _ _ _ rfl rfl (R2.set _ _ _)) rfl ⟨by rw [HP.out]; rfl, Bset2 hb2 (by omega) _ _ _⟩
end Go.Proofs.YtmnnaaifebajnaaGreatDoor
