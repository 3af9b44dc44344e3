/- The reference of layer 4: Plus, Minus. -/
import Derived.Test.YtmnnaaifebajnaaDoorNrC
set_option linter.unusedSimpArgs false
set_option linter.unusedVariables false
namespace Go.Proofs.YtmnnaaifebajnaaDoor
open Go.RowKit
set_option maxRecDepth 100000

theorem tx_lt (m : Nat) : m < 10 ^ (tx m).size := by
  rw [tx_size]
  exact Na.lt_dec m
theorem tx_pos (m : Nat) : 0 < (tx m).size := by
  rw [tx_size]
  exact Na.dec_len1 m

/- A list that grew by one digit. -/
theorem own_snoc {w : World} {B g c d : Nat} {ds : List Nat} (h : OwnZ w B g c ((ds.map fun d : Nat => (d : Int)) ++ [(d : Int)])) : OwnV w B (.slice (some ⟨g, 0, none⟩) (ds.length + 1) c) ((ds ++ [d]).map fun d : Nat => (d : Int)) := by
  unfold OwnZ at h
  unfold OwnV
  rw [List.map_append]
  simpa using h

set_option maxHeartbeats 2000000 in
theorem rplus_tx (m n : Nat) (w : World) (hm : (tx m).size ≤ 1000) (hn : (tx n).size ≤ 1000) :
    Calls Tryd.prog 36 #[.string (tx m), .string (tx n)] w fun e w' => e = .returned (.string (tx (m + n))) ∧ Below w.heap.size w w' := by
  have lm := tx_lt m
  have ln := tx_lt n
  by_cases hsh : (tx m).size ≤ 18 ∧ (tx n).size ≤ 18
  · have b1 : m < 10 ^ 18 := Nat.lt_of_lt_of_le lm (Nat.pow_le_pow_right (by omega) hsh.1)
    have b2 : n < 10 ^ 18 := Nat.lt_of_lt_of_le ln (Nat.pow_le_pow_right (by omega) hsh.2)
    have V1 := Lib.hid (fun w' => value_tx m w' hsh.1)
    have V2 := Lib.hid (fun w' => value_tx n w' hsh.2)
    have DC := Lib.hid (fun w' => rdecimal_any (m + n) w' (by omega))
    have hw : IntKind.i64.wrap ((m : Int) + (n : Int)) = ((m + n : Nat) : Int) := by rw [IntKind.wrap_i64]; omega
    have h1 : ((tx m).size : Int) ≤ 18 := by omega
    have h2 : ((tx n).size : Int) ≤ 18 := by omega
    have HW := Lib.hid hw
    generalize tx (m + n) = R at *
    generalize m + n = q at *
    generalize tx m = s at *
    generalize tx n = t at *
    clear lm ln hsh
    go_enter Tryd.func36, Tryd.ntmps36
    go_wp2_with fail
    refine (V1.out _).mono ?_
    rintro e w1 ⟨rfl, rfl⟩
    go_wp2_with fail
    refine (V2.out _).mono ?_
    rintro e w1 ⟨rfl, rfl⟩
    go_wp2_with fail
    refine (DC.out _).mono ?_
    rintro e w1 ⟨rfl, rfl⟩
    go_wp2_with fail
    go_ret
    exact ⟨rfl, Below.refl _ _⟩
  · obtain ⟨M, hM, hM1, hM2, hMi⟩ : ∃ M : Nat, M ≤ 1000 ∧ (tx m).size ≤ M ∧ (tx n).size ≤ M ∧ max ((tx m).size : Int) ((tx n).size : Int) = (M : Int) := by
      refine ⟨max (tx m).size (tx n).size, by omega, by omega, by omega, by omega⟩
    have b1 : m < 10 ^ M := Nat.lt_of_lt_of_le lm (Nat.pow_le_pow_right (by omega) hM1)
    have b2 : n < 10 ^ M := Nat.lt_of_lt_of_le ln (Nat.pow_le_pow_right (by omega) hM2)
    have HEND := Lib.hid (fun ds cy h => Na.plus_end ds m n M cy h b1 b2)
    have DM := Lib.hid (fun i (hi : i ≤ 1000) w' => digit_tx m i w' hm hi)
    have DN := Lib.hid (fun i (hi : i ≤ 1000) w' => digit_tx n i w' hn hi)
    have HST := Lib.hid (fun ds k cy t h1 h2 h3 => Na.plus_step ds m n k cy t h1 h2 h3)
    have HDM := Lib.hid (fun i => Na.dgt_lt m i)
    have HDN := Lib.hid (fun i => Na.dgt_lt n i)
    have TD := Lib.hid (fun A ds c w' h1 h2 h3 h4 => text_digits A ds c w' h1 h2 h3 h4)
    have hns : ¬ ((tx m).size : Int) ≤ 18 ∨ (((tx m).size : Int) ≤ 18 ∧ ¬ ((tx n).size : Int) ≤ 18) := by omega
    generalize hR : tx (m + n) = R at *
    have HR := Lib.hid hR
    generalize Na.dgt m = fm at *
    generalize Na.dgt n = fn at *
    have H0 : Hid (Na.lt10 [] + 10 ^ 0 * 0 = m % 10 ^ 0 + n % 10 ^ 0) := Lib.hid (by simp [Na.lt10_nil, Nat.mod_one])
    generalize tx m = s at *
    generalize tx n = t at *
    clear lm ln hsh b1 b2 hR
    have key : ∀ (_ : True), Calls Tryd.prog 36 #[.string s, .string t] w fun e w' => e = .returned (.string R) ∧ Below w.heap.size w w' := by
      intro _
      rcases hns with h1 | ⟨h1, h2⟩
      all_goals
        go_enter Tryd.func36, Tryd.ntmps36
        go_wp2_with fail
        go_loopw [5, 6, 7] (fun v cr i wr => ∃ (k cy : Nat) (ds : List Nat), i = .int .i64 (k : Int) ∧ cr = .int .i64 (cy : Int) ∧ cy ≤ 1 ∧ k ≤ M + 1 ∧ Hid (ds.length = k) ∧ Hid (∀ d ∈ ds, d < 10) ∧ Hid (OwnV wr w.heap.size v (ds.map fun d : Nat => (d : Int))) ∧ Hid (Na.lt10 ds + 10 ^ k * cy = m % 10 ^ k + n % 10 ^ k) ∧ Below w.heap.size w wr) (fun _ _ i _ => M + 1 - (intOf i).toNat)
        case atStart => exact ⟨0, 0, [], by first | rfl | (congr 1), by first | rfl | (congr 1), by omega, by omega, Lib.hid rfl, Lib.hid (by simp), Lib.hid (World.ownsRow_nil w _ _ _), H0, Below.refl _ _⟩
        case round =>
          obtain ⟨k, cy, ds, rfl, rfl, hcy, hk, HL, HD, HO, HV, hb⟩ := hrel
          by_cases hlt : k < M + 1
          · have hlt2 : (k : Int) < (M : Int) + 1 := by omega
            have D1 := Lib.hid (DM.out k (by omega) wr)
            have D2 := Lib.hid (DN.out k (by omega) wr)
            have l1 := HDM.out k
            have l2 := HDN.out k
            have HS2 := Lib.hid (HST.out ds k cy _ HL.out HV.out rfl)
            generalize fm k = dm at *
            generalize fn k = dn at *
            obtain ⟨u, hu⟩ : ∃ u, u = dm + dn + cy := ⟨_, rfl⟩
            rw [← hu] at HS2
            have hw1 : IntKind.i64.wrap ((dm : Int) + (dn : Int)) = ((dm + dn : Nat) : Int) := by rw [IntKind.wrap_i64]; omega
            have hw2 : IntKind.i64.wrap (((dm + dn : Nat) : Int) + (cy : Int)) = (u : Int) := by rw [IntKind.wrap_i64]; omega
            have hu20 : u < 20 := by omega
            have hnl : (ds.map fun d : Nat => (d : Int)).length + 1 ≤ 1000000 := by rw [List.length_map, HL.out]; omega
            have hmd : (((dm : Int) + (dn : Int) + (cy : Int)) % 10) = ((u % 10 : Nat) : Int) := by omega
            have hdv : (((dm : Int) + (dn : Int) + (cy : Int)) / 10) = ((u / 10 : Nat) : Int) := by omega
            have hu1 : u / 10 ≤ 1 := by omega
            have hu9 : u % 10 < 10 := by omega
            have hbx : Below wr.heap.size wr (wr.alloc (.cells #[.int .i64 (((dm : Int) + (dn : Int) + (cy : Int)) % 10)] 3)) := (Below.refl _ _).alloc (Nat.le_refl _) _
            have HO2 := Lib.hid (HO.out.below hbx)
            have hbw2 := Nb hb hbx
            have HX : Hid (Ints (wr.alloc (.cells #[.int .i64 (((dm : Int) + (dn : Int) + (cy : Int)) % 10)] 3)) (wr.alloc (.cells #[.int .i64 (((dm : Int) + (dn : Int) + (cy : Int)) % 10)] 3)).heap.size (some ⟨wr.heap.size, 0, none⟩) [u % 10]) := Lib.hid (by rw [hmd]; exact box_ints (heap_alloc_new _ _))
            have HDV := Lib.hid hdv
            clear hmd hdv hu hbx HO HV hw1 hw2
            go_wp2_with fail
            refine D1.out.mono ?_
            rintro e w1 ⟨rfl, rfl⟩
            go_wp2_with fail
            refine D2.out.mono ?_
            rintro e w1 ⟨rfl, rfl⟩
            go_wp2_with (first
              | (at_builtin
                 refine list_appendZ rfl (.tmp 42) (.tmp 45) 40 rfl rfl w.heap.size _ (ds.map fun d : Nat => (d : Int)) rfl HO2.out ⟨wr.heap.size, 0, none⟩ 1 1 [((u % 10 : Nat) : Int)] rfl rfl (ints_src HX.out (Below.refl _ _)) (by omega) hnl hbw2.size ?_
                 intro g2 c2 w2 ho2 hb2
                 have HO3 := Lib.hid ho2
                 have hbw3 := hbw2.trans hb2
                 clear ho2 hb2)
              | fail)
            refine ⟨⟨k + 1, u / 10, ds ++ [u % 10], by go_num, by rw [HDV.out], hu1, by omega, Lib.hid (by rw [List.length_append, HL.out]; rfl), Lib.hid ?_, Lib.hid ?_, HS2, hbw3⟩, by simp [intOf]; omega⟩
            · intro d hd
              rcases List.mem_append.1 hd with h | h
              · exact HD.out d h
              · rw [show d = u % 10 by simpa using h]; exact hu9
            · have := HO3.out
              unfold OwnZ at this
              unfold OwnV
              rw [List.map_append]
              simpa using this
          · obtain rfl : k = M + 1 := by omega
            have hne : ds ≠ [] := fun e => by
              have := HL.out
              rw [e] at this
              simp at this
            have hml : (ds.map fun d : Nat => (d : Int)).length = ds.length := by simp
            obtain ⟨g, c, rfl, ho⟩ := HO.out.form (fun e => hne (List.map_eq_nil_iff.1 e))
            have TX := Lib.hid (TD.out (some ⟨g, 0, none⟩) ds c wr (ho.ints rfl) (by rw [HL.out]; omega) hne HD.out)
            rw [HEND.out ds cy HV.out, HR.out] at TX
            rw [hml]
            have hlt2 : ¬ ((M + 1 : Nat) : Int) < (M : Int) + 1 := by omega
            clear HO HV ho hne hml
            go_wp2_with fail
            refine TX.out.mono ?_
            rintro e w1 ⟨rfl, hb1⟩
            go_wp2_with fail
            go_ret
            exact ⟨rfl, Nb hb hb1⟩
    exact key trivial

set_option maxHeartbeats 2000000 in
theorem rminus_tx (m n : Nat) (w : World) (hm : (tx m).size ≤ 1000) (hn : (tx n).size ≤ 1000) (hnm : n ≤ m) :
    Calls Tryd.prog 38 #[.string (tx m), .string (tx n)] w fun e w' => e = .returned (.string (tx (m - n))) ∧ Below w.heap.size w w' := by
  have lm := tx_lt m
  have lp := tx_pos m
  obtain ⟨L, hL⟩ : ∃ L, L = (tx m).size := ⟨_, rfl⟩
  have HEND := Lib.hid (fun ds bo h1 h2 h3 => Na.minus_end ds m n L bo h1 h2 h3 (by rw [hL]; exact lm) hnm)
  have DM := Lib.hid (fun i (hi : i ≤ 1000) w' => digit_tx m i w' hm hi)
  have DN := Lib.hid (fun i (hi : i ≤ 1000) w' => digit_tx n i w' hn hi)
  have HS1 := Lib.hid (fun ds k bo t h1 h2 h3 => Na.minus_pos ds m n k bo t h1 h2 h3)
  have HS2 := Lib.hid (fun ds k bo t h1 h2 h3 => Na.minus_neg ds m n k bo t h1 h2 h3)
  have HDM := Lib.hid (fun i => Na.dgt_lt m i)
  have HDN := Lib.hid (fun i => Na.dgt_lt n i)
  have TD := Lib.hid (fun A ds c w' h1 h2 h3 h4 => text_digits A ds c w' h1 h2 h3 h4)
  generalize hR : tx (m - n) = R at *
  have HR := Lib.hid hR
  generalize Na.dgt m = fm at *
  generalize Na.dgt n = fn at *
  have H0 : Hid (Na.lt10 [] + n % 10 ^ 0 = m % 10 ^ 0 + 10 ^ 0 * 0) := Lib.hid (by simp [Na.lt10_nil, Nat.mod_one])
  have hLi : ((tx m).size : Int) = (L : Int) := by omega
  generalize tx m = s at *
  generalize tx n = t at *
  clear lm hR
  go_enter Tryd.func38, Tryd.ntmps38
  go_wp2_with fail
  go_loopw [5, 6, 7] (fun v cr i wr => ∃ (k bo : Nat) (ds : List Nat), i = .int .i64 (k : Int) ∧ cr = .int .i64 (bo : Int) ∧ bo ≤ 1 ∧ k ≤ L ∧ Hid (ds.length = k) ∧ Hid (∀ d ∈ ds, d < 10) ∧ Hid (OwnV wr w.heap.size v (ds.map fun d : Nat => (d : Int))) ∧ Hid (Na.lt10 ds + n % 10 ^ k = m % 10 ^ k + 10 ^ k * bo) ∧ Below w.heap.size w wr) (fun _ _ i _ => L - (intOf i).toNat)
  case atStart => exact ⟨0, 0, [], by first | rfl | (congr 1), by first | rfl | (congr 1), by omega, by omega, Lib.hid rfl, Lib.hid (by simp), Lib.hid (World.ownsRow_nil w _ _ _), H0, Below.refl _ _⟩
  case round =>
    obtain ⟨k, bo, ds, rfl, rfl, hbo, hk, HL, HD, HO, HV, hb⟩ := hrel
    by_cases hlt : k < L
    · have hlt2 : (k : Int) < (L : Int) := by omega
      have D1 := Lib.hid (DM.out k (by omega) wr)
      have D2 := Lib.hid (DN.out k (by omega) wr)
      have l1 := HDM.out k
      have l2 := HDN.out k
      have hnl : (ds.map fun d : Nat => (d : Int)).length + 1 ≤ 1000000 := by rw [List.length_map, HL.out]; omega
      have HP := Lib.hid (fun t h => HS1.out ds k bo t HL.out HV.out h)
      have HQ := Lib.hid (fun t h => HS2.out ds k bo t HL.out HV.out h)
      generalize fm k = dm at *
      generalize fn k = dn at *
      have hw1 : IntKind.i64.wrap ((dm : Int) - (dn : Int)) = (dm : Int) - (dn : Int) := by rw [IntKind.wrap_i64]; omega
      by_cases hneg : (dm : Int) - (dn : Int) - (bo : Int) < 0
      · obtain ⟨u, hu⟩ : ∃ u, u + dn + bo = dm + 10 := ⟨dm + 10 - dn - bo, by omega⟩
        have HU := Lib.hid (HQ.out u hu)
        have hu9 : u < 10 := by omega
        have hue : (dm : Int) - (dn : Int) - (bo : Int) + 10 = (u : Int) := by omega
        have hbx : Below wr.heap.size wr (wr.alloc (.cells #[.int .i64 ((dm : Int) - (dn : Int) - (bo : Int) + 10)] 3)) := (Below.refl _ _).alloc (Nat.le_refl _) _
        have HO2 := Lib.hid (HO.out.below hbx)
        have hbw2 := Nb hb hbx
        have HX : Hid (Ints (wr.alloc (.cells #[.int .i64 ((dm : Int) - (dn : Int) - (bo : Int) + 10)] 3)) (wr.alloc (.cells #[.int .i64 ((dm : Int) - (dn : Int) - (bo : Int) + 10)] 3)).heap.size (some ⟨wr.heap.size, 0, none⟩) [u]) := Lib.hid (by rw [hue]; exact box_ints (heap_alloc_new _ _))
        clear hu hue hbx HO HV HP HQ
        go_wp2_with fail
        refine D1.out.mono ?_
        rintro e w1 ⟨rfl, rfl⟩
        go_wp2_with fail
        refine D2.out.mono ?_
        rintro e w1 ⟨rfl, rfl⟩
        go_wp2_with (first
          | (at_builtin
             refine list_appendZ rfl (.tmp 28) (.tmp 30) 40 rfl rfl w.heap.size _ (ds.map fun d : Nat => (d : Int)) rfl HO2.out ⟨wr.heap.size, 0, none⟩ 1 1 [(u : Int)] rfl rfl (ints_src HX.out (Below.refl _ _)) (by omega) hnl hbw2.size ?_
             intro g2 c2 w2 ho2 hb2
             have HO3 := Lib.hid ho2
             have hbw3 := hbw2.trans hb2
             clear ho2 hb2)
          | fail)
        refine ⟨⟨k + 1, 1, ds ++ [u], by go_num, by first | rfl | (congr 1), by omega, by omega, Lib.hid (by rw [List.length_append, HL.out]; rfl), Lib.hid ?_, Lib.hid ?_, HU, hbw3⟩, by simp [intOf]; omega⟩
        · intro d hd
          rcases List.mem_append.1 hd with h | h
          · exact HD.out d h
          · rw [show d = u by simpa using h]; exact hu9
        · have := HO3.out
          unfold OwnZ at this
          unfold OwnV
          rw [List.map_append]
          simpa using this
      · obtain ⟨u, hu⟩ : ∃ u, u + dn + bo = dm := ⟨dm - dn - bo, by omega⟩
        have HU := Lib.hid (HP.out u hu)
        have hu9 : u < 10 := by omega
        have hue : (dm : Int) - (dn : Int) - (bo : Int) = (u : Int) := by omega
        have hbx : Below wr.heap.size wr (wr.alloc (.cells #[.int .i64 ((dm : Int) - (dn : Int) - (bo : Int))] 3)) := (Below.refl _ _).alloc (Nat.le_refl _) _
        have HO2 := Lib.hid (HO.out.below hbx)
        have hbw2 := Nb hb hbx
        have HX : Hid (Ints (wr.alloc (.cells #[.int .i64 ((dm : Int) - (dn : Int) - (bo : Int))] 3)) (wr.alloc (.cells #[.int .i64 ((dm : Int) - (dn : Int) - (bo : Int))] 3)).heap.size (some ⟨wr.heap.size, 0, none⟩) [u]) := Lib.hid (by rw [hue]; exact box_ints (heap_alloc_new _ _))
        clear hu hue hbx HO HV HP HQ
        go_wp2_with fail
        refine D1.out.mono ?_
        rintro e w1 ⟨rfl, rfl⟩
        go_wp2_with fail
        refine D2.out.mono ?_
        rintro e w1 ⟨rfl, rfl⟩
        go_wp2_with (first
          | (at_builtin
             refine list_appendZ rfl (.tmp 28) (.tmp 30) 40 rfl rfl w.heap.size _ (ds.map fun d : Nat => (d : Int)) rfl HO2.out ⟨wr.heap.size, 0, none⟩ 1 1 [(u : Int)] rfl rfl (ints_src HX.out (Below.refl _ _)) (by omega) hnl hbw2.size ?_
             intro g2 c2 w2 ho2 hb2
             have HO3 := Lib.hid ho2
             have hbw3 := hbw2.trans hb2
             clear ho2 hb2)
          | fail)
        refine ⟨⟨k + 1, 0, ds ++ [u], by go_num, by first | rfl | (congr 1), by omega, by omega, Lib.hid (by rw [List.length_append, HL.out]; rfl), Lib.hid ?_, Lib.hid ?_, HU, hbw3⟩, by simp [intOf]; omega⟩
        · intro d hd
          rcases List.mem_append.1 hd with h | h
          · exact HD.out d h
          · rw [show d = u by simpa using h]; exact hu9
        · have := HO3.out
          unfold OwnZ at this
          unfold OwnV
          rw [List.map_append]
          simpa using this
    · obtain rfl : k = L := by omega
      have hne : ds ≠ [] := fun e => by
        have := HL.out
        rw [e] at this
        simp at this
        omega
      have hml : (ds.map fun d : Nat => (d : Int)).length = ds.length := by simp
      obtain ⟨g, c, rfl, ho⟩ := HO.out.form (fun e => hne (List.map_eq_nil_iff.1 e))
      have TX := Lib.hid (TD.out (some ⟨g, 0, none⟩) ds c wr (ho.ints rfl) (by rw [HL.out]; omega) hne HD.out)
      rw [HEND.out ds bo HL.out HD.out HV.out, HR.out] at TX
      rw [hml]
      clear HO HV ho hne hml
      go_wp2_with fail
      refine TX.out.mono ?_
      rintro e w1 ⟨rfl, hb1⟩
      go_wp2_with fail
      go_ret
      exact ⟨rfl, Nb hb hb1⟩
end Go.Proofs.YtmnnaaifebajnaaDoor
