/- The reference's Public and Sign (layer 3). The reference's Same and Few for seals, and short (layer 3). -/
import Derived.Test.YtdlmbpoihnifiaaDoorSeE
import Derived.Test.YtdlmbpoihnifiaaDoorSeL
import Derived.Test.YtdlmbpoihnifiaaDoorTrY
import Derived.Test.YtdlmbpoihnifiaaDoorTrN
import Derived.Deep.QuietTactic
namespace Go.Proofs.YtdlmbpoihnifiaaDoor
open Go.RowKit
set_option maxRecDepth 100000
set_option linter.unusedSimpArgs false
set_option linter.unusedVariables false

theorem rPublic_ok (s : ByteArray) (h : Nat) (w : World) (hs : s.size ≤ 1000000000) (hh : h ≤ 8) :
    Calls Tryd.prog 14 #[.string s, .int .i64 (h : Int)] w fun e w' => e = .returned (.tuple #[.string (pub s h), .int .i64 0]) ∧ Below w.heap.size w w' := by
  have KS := Lib.hid (keys_any s h w hs (by omega))
  have h9 : 2 ^ h ≤ 256 := Nat.pow_le_pow_right (n := 2) (by omega) hh
  have hkl : (Se.keys s h).length ≤ 1000000 := by rw [Se.keys_length]; omega
  have RT := Lib.hid (fun (w' : World) (A : Option Addr) (c : Nat) (hst : Strs w' w'.heap.size A (Se.keys s h)) (hc : (Se.keys s h).length ≤ c) (hm : c ≤ maxLen) =>
    rroot_cap A c (Se.keys s h) w' hc hm hst (keys_small s h) hkl)
  unfold pub
  clear h9 hkl
  generalize Tr.root (Se.keys s h) = rt at *
  go_enter Tryd.func14, Tryd.ntmps14
  go_wp2_with fail
  refine KS.out.mono ?_
  rintro e w1 ⟨v, rfl, hown, hb⟩
  obtain ⟨A, c, rfl, hst, hc, hm⟩ := hown.form
  have R1 := Lib.hid (RT.out w1 A c hst hc hm)
  clear hown hst
  generalize (Se.keys s h).length = n at *
  go_wp2_with fail
  refine R1.out.mono ?_
  rintro e w2 ⟨rfl, hb2⟩
  go_wp2
  go_ret2
  exact ⟨rfl, Bt hb hb2⟩

theorem rPublic_err (s : ByteArray) (h : Int) (w : World) (hh : h < 0 ∨ 8 < h) :
    Calls Tryd.prog 14 #[.string s, .int .i64 h] w fun e w' => e = .returned (.tuple #[.string ⟨#[]⟩, .int .i64 1]) ∧ w = w' := by
  rcases hh with hh | hh
  · go_enter Tryd.func14, Tryd.ntmps14
    go_wp2
    go_ret2
    exact ⟨rfl, rfl⟩
  · have h0 : 0 ≤ h := by omega
    go_enter Tryd.func14, Tryd.ntmps14
    go_wp2
    go_ret2
    exact ⟨rfl, rfl⟩

theorem rSign_err1 (s m : ByteArray) (h i : Int) (w : World) (hh : h < 0 ∨ 8 < h) :
    Calls Tryd.prog 16 #[.string s, .int .i64 h, .int .i64 i, .string m] w (GivesSeal 0 [] [] 1 w) := by
  rcases hh with hh | hh
  case' inr => have h0 : 0 ≤ h := by omega
  all_goals
    go_enter Tryd.func16, Tryd.ntmps16
    go_wp2
    refine bodyPost_ret (v := .tuple #[.agg #[.int .i64 0, .slice none 0 0, .slice none 0 0], .int .i64 1]) ?_ rfl ?_
    · simp [results, Tryd.f16, go_sem]
    · exact ⟨_, _, rfl, OwnS.nil _ _, OwnS.nil _ _, (Below.refl _ _).alloc (Nat.le_refl _) _⟩

theorem rSign_err2 (s m : ByteArray) (h : Nat) (i : Int) (w : World) (hh : h ≤ 8) (hi : i < 0 ∨ ((2 ^ h : Nat) : Int) ≤ i) :
    Calls Tryd.prog 16 #[.string s, .int .i64 (h : Int), .int .i64 i, .string m] w (GivesSeal 0 [] [] 1 w) := by
  have PW := Lib.hid (fun w' => power_any h w' (by omega))
  generalize 2 ^ h = p at *
  rcases hi with hi | hi
  case' inr => have h0 : 0 ≤ i := by omega
  all_goals
    go_enter Tryd.func16, Tryd.ntmps16
    go_wp2_with (go_at_call 33; refine (PW.out _).mono ?_; rintro e w1 ⟨rfl, rfl⟩)
    refine bodyPost_ret (v := .tuple #[.agg #[.int .i64 0, .slice none 0 0, .slice none 0 0], .int .i64 1]) ?_ rfl ?_
    · simp [results, Tryd.f16, go_sem]
    · exact ⟨_, _, rfl, OwnS.nil _ _, OwnS.nil _ _, (Below.refl _ _).alloc (Nat.le_refl _) _⟩

theorem Boxed3.set1 {w : World} {b : Nat} {x y z : Value} (y' : Value) (h : Boxed3 w b x y z) : Boxed3 (w.setCell ⟨b, 1, none⟩ y') b x y' z := Go.heap_setCell_same w b 1 _ _ y' h
theorem Boxed3.set2 {w : World} {b : Nat} {x y z : Value} (z' : Value) (h : Boxed3 w b x y z) : Boxed3 (w.setCell ⟨b, 2, none⟩ z') b x y z' := Go.heap_setCell_same w b 2 _ _ z' h
theorem Boxed3.keep {w w' : World} {B b : Nat} {x y z : Value} (h : Boxed3 w b x y z) (hb : Below B w w') (hlt : b < B) : Boxed3 w' b x y z := (hb.block b hlt).trans h
theorem Boxed3.other {w : World} {b b' o : Nat} {x y z v : Value} (h : Boxed3 w b x y z) (hne : b ≠ b') : Boxed3 (w.setCell ⟨b', o, none⟩ v) b x y z := (Below.heap_setCell w ⟨b', o, none⟩ v b hne).trans h

theorem cell_set_at {w : World} {a : Addr} {v : Value} (h : w.cell? a = some v) (b o : Nat) (hne : a.block ≠ b) (u : Value) : (w.setCell ⟨b, o, none⟩ u).cell? a = some v :=
  (World.cell?_of_block (Below.heap_setCell w ⟨b, o, none⟩ u a.block hne)).trans h

set_option maxHeartbeats 4000000 in
theorem rSign_ok (s m : ByteArray) (h i : Nat) (w : World) (hs : s.size ≤ 1000000000) (hm : m.size ≤ 140737488355328) (hh : h ≤ 8) (hi : i < 2 ^ h) :
    Calls Tryd.prog 16 #[.string s, .int .i64 (h : Int), .int .i64 (i : Int), .string m] w (GivesSeal i (Se.sig s i m) (Tr.path (Se.keys s h) i) 0 w) := by
  have PW := Lib.hid (fun w' => power_any h w' (by omega))
  have KS := Lib.hid (fun (w' : World) => keys_any s h w' hs (by omega))
  have DG := Lib.hid (fun w' => rDigits_any m w' hm)
  have hdl := Se.ds_length m
  have hdd := Lib.hid (Se.ds_getD_le m)
  have hl := Se.keys_length s h
  have h8 : 2 ^ h ≤ 256 := Nat.pow_le_pow_right (n := 2) (by omega) hh
  have PO := Lib.hid (fun (w' : World) (A : Option Addr) (c : Nat) (hc : (Se.keys s h).length ≤ c) (hcm : c ≤ maxLen) (hst : Strs w' w'.heap.size A (Se.keys s h)) =>
    rPath_ok A c (Se.keys s h) i w' (by omega) hc hcm (by omega) hst (keys_small s h))
  have hsig : ∀ k, (List.range k).map (fun k => Se.ch (Se.start s i k) ((Se.ds m).getD k 0)) = (List.range k).map (fun k => Se.ch (Se.start s i k) ((Se.ds m).getD k 0)) := fun _ => rfl
  clear hl hsig
  have hb1 := (Below.refl w.heap.size w).alloc (Nat.le_refl _) (.cells #[.int .i64 0, .slice none 0 0, .slice none 0 0] 24)
  have c0 := Boxed3.new w (.int .i64 0) (.slice none 0 0) (.slice none 0 0)
  have hb2 := hb1.alloc hb1.size (.cells #[.int .i64 (i : Int), .slice none 0 0, .slice none 0 0] 24)
  have c1 := Boxed3.new (w.alloc (.cells #[.int .i64 0, .slice none 0 0, .slice none 0 0] 24)) (.int .i64 (i : Int)) (.slice none 0 0) (.slice none 0 0)
  have c0' := c0.bt ((Below.refl _ _).alloc (Nat.le_refl _) (.cells #[.int .i64 (i : Int), .slice none 0 0, .slice none 0 0] 24))
  rw [World.size_alloc] at c1
  have hi256 : i < 256 := by omega
  generalize 2 ^ h = p at *
  go_enter Tryd.func16, Tryd.ntmps16
  go_wp2_with (go_at_call 33; refine (PW.out _).mono ?_; rintro e w1 ⟨rfl, rfl⟩)
  refine (DG.out _).mono ?_
  rintro e w2 ⟨vd, rfl, hod, hbd⟩
  have hodl := hod.lt
  obtain ⟨A3, c3, hvd, hint, hc3, hm3⟩ := hod.form
  rw [hdl] at hvd hc3
  subst hvd
  obtain ⟨ad3, rfl, had3, _⟩ := hint 0 (by omega)
  have hadb := (hodl ad3.block rfl).1
  simp only [World.size_alloc] at hadb
  have hm3' : c3 ≤ 9223372036854775807 := hm3
  have hsz2 : w.heap.size + 2 ≤ w2.heap.size := by
    have := hbd.size
    simp at this
    omega
  have B1 := Lib.hid (c1.bt hbd)
  have B0 := Lib.hid (c0'.bt hbd)
  have HB2 := Lib.hid (Bt hb2 hbd)
  have HD : Hid (∀ k, k < 18 → w2.cell? (ad3.add k) = some (.int .i64 (((Se.ds m).getD k 0 : Nat) : Int))) := Lib.hid (fun k hk => by
    obtain ⟨ad, e, _, hc⟩ := hint k (by rw [hdl]; exact hk)
    cases e
    exact hc)
  clear hod hodl hint hbd c0 c0' c1 hb1 hb2 hdl DG
  go_wp2_with fail
  go_loopw [12] (fun j wr => ∃ k : Nat, k ≤ 18 ∧ j = .int .i64 (k : Int) ∧ Below w.heap.size w wr ∧ w2.heap.size ≤ wr.heap.size ∧ Boxed3 wr w.heap.size (.int .i64 0) (.slice none 0 0) (.slice none 0 0) ∧
      (∃ v, Boxed3 wr (w.heap.size + 1) (.int .i64 (i : Int)) v (.slice none 0 0) ∧ OwnS wr w2.heap.size v ((List.range k).map (fun k => Se.ch (Se.start s i k) ((Se.ds m).getD k 0)))) ∧
      Hid (∀ k, k < 18 → wr.cell? (ad3.add k) = some (.int .i64 (((Se.ds m).getD k 0 : Nat) : Int)))) (fun j _ => 18 - (intOf j).toNat)
  case atStart => exact ⟨0, by omega, rfl, HB2.out, Nat.le_refl _, B0.out, ⟨_, B1.out, OwnS.nil _ _⟩, HD⟩
  case round =>
    obtain ⟨k, hk, rfl, hb, hsz, hx0, ⟨v, hbx, hown⟩, hdc⟩ := hrel
    by_cases hlt : k < 18
    · have hdk := hdc.out k hlt
      have hd15 := hdd.out k
      have HDC : Hid (∀ W : World, (∀ q, q < 18 → wr.cell? (ad3.add q) = W.cell? (ad3.add q)) → Hid (∀ k, k < 18 → W.cell? (ad3.add k) = some (.int .i64 (((Se.ds m).getD k 0 : Nat) : Int)))) := Lib.hid (fun W h => Lib.hid (fun q hq => (h q hq).symm.trans (hdc.out q hq)))
      have MS := Lib.hid (map_range_snoc' (fun k => Se.ch (Se.start s i k) ((Se.ds m).getD k 0)) k)
      have ST := Lib.hid (fun w' => start_any s i k w' hs (by omega) (by omega))
      have CV := Lib.hid (fun w' => chain_val (Se.start s i k) ((Se.ds m).getD k 0) (by omega) w' (by rw [Se.start, Tr.dg_size]; omega))
      have hll : Hid (((List.range k).map (fun k => Se.ch (Se.start s i k) ((Se.ds m).getD k 0))).length ≤ 18) := Lib.hid (by simp; omega)
      have q1 := hbx.cells.2.1
      have HX := Lib.hid hbx
      have HX0 := Lib.hid hx0
      have HB := Lib.hid hb
      have HO := Lib.hid hown
      have HSZ := Lib.hid hsz
      clear hbx hx0 hb hown hdc
      generalize Se.ch (Se.start s i k) ((Se.ds m).getD k 0) = ce at *
      generalize ((List.range k).map (fun k => Se.ch (Se.start s i k) ((Se.ds m).getD k 0))) = sl at *
      generalize hde : (Se.ds m).getD k 0 = d at *
      clear hde
      generalize Se.start s i k = st at *
      go_wp2_with fail
      refine wp_region_noPanic ?_
      refine wp_region_held_drew (S := fun w' => w'.cell? (ad3.add k) = some (.int .i64 (d : Int))) (by kernel_rfl) hdk (fun hH => ?_)
      refine wpAnyH_take (i := 0) (v := ?v0) rfl (by kernel_rfl) (by kernel_rfl) (by kernel_rfl) (fun _ _ _ h => h) (Or.inl ⟨by rfl, ?hy0⟩) hH ?rest0
      case hy0 =>
        intro w' hSw
        try dsimp only at hSw
        go_simp
        try with_reducible rfl
      try simp only [Act.put, List.setIfInBounds_toArray, List.set_cons_zero, List.set_cons_succ]
      refine wpAnyH_take (i := 2) (v := ?v2) rfl (by kernel_rfl) (by kernel_rfl) (by kernel_rfl) (fun _ _ _ h => h) (Or.inl ⟨by rfl, ?hy2⟩) hH ?rest2
      case hy2 =>
        intro w' hSw
        try dsimp only at hSw
        go_simp
        try with_reducible rfl
      try simp only [Act.put, List.setIfInBounds_toArray, List.set_cons_zero, List.set_cons_succ]
      refine wpAnyH_take (i := 3) (v := ?v3) rfl (by kernel_rfl) (by kernel_rfl) (by kernel_rfl) (fun _ _ _ h => h) (Or.inl ⟨by rfl, ?hy3⟩) hH ?rest3
      case hy3 =>
        intro w' hSw
        try dsimp only at hSw
        go_simp
        try with_reducible rfl
      try simp only [Act.put, List.setIfInBounds_toArray, List.set_cons_zero, List.set_cons_succ]
      refine wpAnyH_take (i := 4) (v := ?v4) rfl (by kernel_rfl) (by kernel_rfl) (by kernel_rfl) (fun _ _ _ h => h) (Or.inl ⟨by rfl, ?hy4⟩) hH ?rest4
      case hy4 =>
        intro w' hSw
        try dsimp only at hSw
        go_simp
        try with_reducible rfl
      try simp only [Act.put, List.setIfInBounds_toArray, List.set_cons_zero, List.set_cons_succ]
      refine wpAnyH_take (i := 6) (v := ?v6) rfl (by kernel_rfl) (by kernel_rfl) (by kernel_rfl) (fun _ _ _ h => h) (Or.inl ⟨by rfl, ?hy6⟩) hH ?rest6
      case hy6 =>
        intro w' hSw
        try dsimp only at hSw
        go_simp
        try with_reducible rfl
      try simp only [Act.put, List.setIfInBounds_toArray, List.set_cons_zero, List.set_cons_succ]
      refine wpAnyH_take (i := 7) (v := ?v7) rfl (by kernel_rfl) (by kernel_rfl) (by kernel_rfl) (fun _ _ _ h => h) (Or.inl ⟨by rfl, ?hy7⟩) hH ?rest7
      case hy7 =>
        intro w' hSw
        try dsimp only at hSw
        go_simp
        try with_reducible rfl
      try simp only [Act.put, List.setIfInBounds_toArray, List.set_cons_zero, List.set_cons_succ]
      refine wpAnyH_take (i := 8) (v := ?v8) rfl (by kernel_rfl) (by kernel_rfl) (by kernel_rfl) (fun _ _ _ h => h) (Or.inl ⟨by rfl, ?hy8⟩) hH ?rest8
      case hy8 =>
        intro w' hSw
        try dsimp only at hSw
        go_simp
        try with_reducible rfl
      try simp only [Act.put, List.setIfInBounds_toArray, List.set_cons_zero, List.set_cons_succ]
      refine wpAnyH_take (i := 9) (v := ?v9) rfl (by kernel_rfl) (by kernel_rfl) (by kernel_rfl) (fun _ _ _ h => h) (Or.inl ⟨by rfl, ?hy9⟩) hH ?rest9
      case hy9 =>
        intro w' hSw
        try dsimp only at hSw
        go_simp
        try with_reducible rfl
      try simp only [Act.put, List.setIfInBounds_toArray, List.set_cons_zero, List.set_cons_succ]
      refine wpAnyH_ready (rs := [1, 5]) (by kernel_rfl) (by simp) ?_
      refine AllReadyH.cons (i := 1) rfl (fun K hK => ?_) (AllReadyH.cons (i := 5) rfl (fun K hK => ?_) (AllReadyH.nil))
      · go_simp
        refine hK.out _ _ hH (fun hH => ?_)
        try simp only [Act.put, List.setIfInBounds_toArray, List.set_cons_zero, List.set_cons_succ]
        refine wpAnyH_ready (rs := [5]) (by kernel_rfl) (by simp) ?_
        refine AllReadyH.cons (i := 5) rfl (fun K hK => ?_) (AllReadyH.nil)
        go_simp
        go_at_call 36
        refine (ST.out _).mono ?_
        rintro e w3 ⟨rfl, hb3⟩
        have hb3' := Bt (Bd wr) hb3
        have x3 := HX.out.bt hb3'
        have q3 := x3.cells.2.1
        have r3 := cell_bt hdk hb3'
        try dsimp only
        refine hK.out _ _ r3 (fun hH => ?_)
        try simp only [Act.put, List.setIfInBounds_toArray, List.set_cons_zero, List.set_cons_succ]
        refine wpAnyH_ready (rs := [10]) (by kernel_rfl) (by simp) ?_
        refine AllReadyH.cons (i := 10) rfl (fun K hK => ?_) (AllReadyH.nil)
        go_simp
        go_at_call 35
        refine (CV.out _).mono ?_
        rintro e w4 ⟨rfl, rfl⟩
        have ha4 := (Below.refl w3.heap.size w3).alloc (Nat.le_refl _) (.cells #[.string ce] 9)
        have hb4 := Bt hb3' ha4
        have x4 := HX.out.bt hb4
        have q4 := x4.cells.2.1
        have r4 := cell_bt hdk hb4
        have o4 := own_below HO.out hb4
        have sz3 : w2.heap.size ≤ w3.heap.size := Nat.le_trans HSZ.out hb3'.size
        have sz4 := Nat.le_trans HSZ.out hb4.size
        try dsimp only
        refine hK.out _ _ r3 (fun hH => ?_)
        try simp only [Act.put, List.setIfInBounds_toArray, List.set_cons_zero, List.set_cons_succ]
        refine wpAnyH_ready (rs := [11]) (by kernel_rfl) (by simp) ?_
        refine AllReadyH.cons (i := 11) rfl (fun K hK => ?_) (AllReadyH.nil)
        go_simp
        refine hK.out _ _ r4 (fun hH => ?_)
        try simp only [Act.put, List.setIfInBounds_toArray, List.set_cons_zero, List.set_cons_succ]
        refine wpAnyH_ready (rs := [12]) (by kernel_rfl) (by simp) ?_
        refine AllReadyH.cons (i := 12) rfl (fun K hK => ?_) (AllReadyH.nil)
        refine step_append4 (by rfl) (.tmp 41) (.tmp 51) (by rfl) w2.heap.size _ sl (by rfl) o4 _ w2.heap.size [ce] (by rfl) (own_one w3 w2.heap.size ce sz3) (by have := hll.out; simp; omega) sz4 ?_
        intro v5 w5 p5
        have hp5 : w5.ownsRow w2.heap.size 9 1 v5 (sl.length + 1) ((sl ++ [ce]).map Value.string) := by
          have h5 := p5.own
          unfold OwnS at h5
          rwa [List.length_append] at h5
        obtain ⟨g5, c5, rfl⟩ := ownsRow_succ hp5
        have x5 := x4.keep p5.below (by omega)
        obtain ⟨_, q5, _, _, f5, _⟩ := x5.cells
        have r5 := (p5.below.cell (p := ad3.add k) (by rw [add_block]; exact had3)).trans r4
        have r6 := cell_set_at r5 (w.heap.size + 1) 1 (by rw [add_block]; omega) (.slice (some ⟨g5, 0, none⟩) (sl.length + 1) c5)
        refine hK.out _ _ r5 (fun hH => ?_)
        try simp only [Act.put, List.setIfInBounds_toArray, List.set_cons_zero, List.set_cons_succ]
        refine wpAnyH_ready (rs := [13]) (by kernel_rfl) (by simp) ?_
        refine AllReadyH.cons (i := 13) rfl (fun K hK => ?_) (AllReadyH.nil)
        go_simp
        refine hK.out _ _ r5 (fun hH => ?_)
        try simp only [Act.put, List.setIfInBounds_toArray, List.set_cons_zero, List.set_cons_succ]
        refine wpAnyH_ready (rs := [14]) (by kernel_rfl) (by simp) ?_
        refine AllReadyH.cons (i := 14) rfl (fun K hK => ?_) (AllReadyH.nil)
        go_simp
        refine hK.out _ _ r6 (fun hH => ?_)
        try simp only [Act.put, List.setIfInBounds_toArray, List.set_cons_zero, List.set_cons_succ]
        refine wpAnyH_done (by kernel_rfl) ?_ _
        refine NoPanic.normal ?_
        have hb5 := (hb4.mono HB.out.size).trans (p5.below.mono (show w.heap.size ≤ w2.heap.size by omega))
        have hbw := (HB.out.trans hb5).setCell (p := ⟨w.heap.size + 1, 1, none⟩) (by show w.heap.size ≤ w.heap.size + 1; omega) (.slice (some ⟨g5, 0, none⟩) (sl.length + 1) c5)
        have hx5 := ((HX0.out.bt hb4).keep p5.below (show w.heap.size < w2.heap.size by omega)).other (b' := w.heap.size + 1) (o := 1) (v := .slice (some ⟨g5, 0, none⟩) (sl.length + 1) c5) (by omega)
        have hz5 : w2.heap.size ≤ (w5.setCell ⟨w.heap.size + 1, 1, none⟩ (.slice (some ⟨g5, 0, none⟩) (sl.length + 1) c5)).heap.size := Nat.le_trans sz4 (Nat.le_trans p5.below.size (grownBy_setAt w5 (w.heap.size + 1) 1 (.slice (some ⟨g5, 0, none⟩) (sl.length + 1) c5)).size)
        have hxs := x5.set1 (.slice (some ⟨g5, 0, none⟩) (sl.length + 1) c5)
        have hos := own_setAt (o := 1) (u := .slice (some ⟨g5, 0, none⟩) (sl.length + 1) c5) p5.own (show w.heap.size + 1 < w2.heap.size by omega)
        have hds := HDC.out (w5.setCell ⟨w.heap.size + 1, 1, none⟩ (.slice (some ⟨g5, 0, none⟩) (sl.length + 1) c5)) (fun q hq => by
          have e1 := World.cell?_of_block (w := wr) (w' := w3.alloc (.cells #[.string ce] 9)) (a := ad3.add q) (hb4.block (ad3.add q).block (by rw [add_block]; exact Nat.lt_of_lt_of_le had3 HSZ.out))
          have e2 := World.cell?_of_block (w := w3.alloc (.cells #[.string ce] 9)) (w' := w5) (a := ad3.add q) (p5.below.block (ad3.add q).block (by rw [add_block]; exact had3))
          have e3 := World.cell?_of_block (w := w5) (w' := w5.setCell ⟨w.heap.size + 1, 1, none⟩ (.slice (some ⟨g5, 0, none⟩) (sl.length + 1) c5)) (a := ad3.add q) (Below.heap_setCell w5 ⟨w.heap.size + 1, 1, none⟩ _ (ad3.add q).block (by rw [add_block]; show ad3.block ≠ w.heap.size + 1; omega))
          rw [e3, e2, e1])
        rw [← MS.out] at hos
        clear q1 q3 q4 r3 r4 r5 r6 x3 x4 x5 q5 f5 p5 hp5 o4
        go_wp2_with fail
        exact ⟨⟨k + 1, by omega, by go_num, hbw, hz5, hx5, ⟨_, hxs, hos⟩, hds⟩, by simp [intOf]; omega⟩
      · go_simp
        go_at_call 36
        refine (ST.out _).mono ?_
        rintro e w3 ⟨rfl, hb3⟩
        have hb3' := Bt (Bd wr) hb3
        have x3 := HX.out.bt hb3'
        have q3 := x3.cells.2.1
        have r3 := cell_bt hdk hb3'
        try dsimp only
        refine hK.out _ _ r3 (fun hH => ?_)
        try simp only [Act.put, List.setIfInBounds_toArray, List.set_cons_zero, List.set_cons_succ]
        refine wpAnyH_ready (rs := [1, 10]) (by kernel_rfl) (by simp) ?_
        refine AllReadyH.cons (i := 1) rfl (fun K hK => ?_) (AllReadyH.cons (i := 10) rfl (fun K hK => ?_) (AllReadyH.nil))
        · go_simp
          refine hK.out _ _ hH (fun hH => ?_)
          try simp only [Act.put, List.setIfInBounds_toArray, List.set_cons_zero, List.set_cons_succ]
          refine wpAnyH_ready (rs := [10]) (by kernel_rfl) (by simp) ?_
          refine AllReadyH.cons (i := 10) rfl (fun K hK => ?_) (AllReadyH.nil)
          go_simp
          go_at_call 35
          refine (CV.out _).mono ?_
          rintro e w4 ⟨rfl, rfl⟩
          have ha4 := (Below.refl w3.heap.size w3).alloc (Nat.le_refl _) (.cells #[.string ce] 9)
          have hb4 := Bt hb3' ha4
          have x4 := HX.out.bt hb4
          have q4 := x4.cells.2.1
          have r4 := cell_bt hdk hb4
          have o4 := own_below HO.out hb4
          have sz3 : w2.heap.size ≤ w3.heap.size := Nat.le_trans HSZ.out hb3'.size
          have sz4 := Nat.le_trans HSZ.out hb4.size
          try dsimp only
          refine hK.out _ _ r3 (fun hH => ?_)
          try simp only [Act.put, List.setIfInBounds_toArray, List.set_cons_zero, List.set_cons_succ]
          refine wpAnyH_ready (rs := [11]) (by kernel_rfl) (by simp) ?_
          refine AllReadyH.cons (i := 11) rfl (fun K hK => ?_) (AllReadyH.nil)
          go_simp
          refine hK.out _ _ r4 (fun hH => ?_)
          try simp only [Act.put, List.setIfInBounds_toArray, List.set_cons_zero, List.set_cons_succ]
          refine wpAnyH_ready (rs := [12]) (by kernel_rfl) (by simp) ?_
          refine AllReadyH.cons (i := 12) rfl (fun K hK => ?_) (AllReadyH.nil)
          refine step_append4 (by rfl) (.tmp 41) (.tmp 51) (by rfl) w2.heap.size _ sl (by rfl) o4 _ w2.heap.size [ce] (by rfl) (own_one w3 w2.heap.size ce sz3) (by have := hll.out; simp; omega) sz4 ?_
          intro v5 w5 p5
          have hp5 : w5.ownsRow w2.heap.size 9 1 v5 (sl.length + 1) ((sl ++ [ce]).map Value.string) := by
            have h5 := p5.own
            unfold OwnS at h5
            rwa [List.length_append] at h5
          obtain ⟨g5, c5, rfl⟩ := ownsRow_succ hp5
          have x5 := x4.keep p5.below (by omega)
          obtain ⟨_, q5, _, _, f5, _⟩ := x5.cells
          have r5 := (p5.below.cell (p := ad3.add k) (by rw [add_block]; exact had3)).trans r4
          have r6 := cell_set_at r5 (w.heap.size + 1) 1 (by rw [add_block]; omega) (.slice (some ⟨g5, 0, none⟩) (sl.length + 1) c5)
          refine hK.out _ _ r5 (fun hH => ?_)
          try simp only [Act.put, List.setIfInBounds_toArray, List.set_cons_zero, List.set_cons_succ]
          refine wpAnyH_ready (rs := [13]) (by kernel_rfl) (by simp) ?_
          refine AllReadyH.cons (i := 13) rfl (fun K hK => ?_) (AllReadyH.nil)
          go_simp
          refine hK.out _ _ r5 (fun hH => ?_)
          try simp only [Act.put, List.setIfInBounds_toArray, List.set_cons_zero, List.set_cons_succ]
          refine wpAnyH_ready (rs := [14]) (by kernel_rfl) (by simp) ?_
          refine AllReadyH.cons (i := 14) rfl (fun K hK => ?_) (AllReadyH.nil)
          go_simp
          refine hK.out _ _ r6 (fun hH => ?_)
          try simp only [Act.put, List.setIfInBounds_toArray, List.set_cons_zero, List.set_cons_succ]
          refine wpAnyH_done (by kernel_rfl) ?_ _
          refine NoPanic.normal ?_
          have hb5 := (hb4.mono HB.out.size).trans (p5.below.mono (show w.heap.size ≤ w2.heap.size by omega))
          have hbw := (HB.out.trans hb5).setCell (p := ⟨w.heap.size + 1, 1, none⟩) (by show w.heap.size ≤ w.heap.size + 1; omega) (.slice (some ⟨g5, 0, none⟩) (sl.length + 1) c5)
          have hx5 := ((HX0.out.bt hb4).keep p5.below (show w.heap.size < w2.heap.size by omega)).other (b' := w.heap.size + 1) (o := 1) (v := .slice (some ⟨g5, 0, none⟩) (sl.length + 1) c5) (by omega)
          have hz5 : w2.heap.size ≤ (w5.setCell ⟨w.heap.size + 1, 1, none⟩ (.slice (some ⟨g5, 0, none⟩) (sl.length + 1) c5)).heap.size := Nat.le_trans sz4 (Nat.le_trans p5.below.size (grownBy_setAt w5 (w.heap.size + 1) 1 (.slice (some ⟨g5, 0, none⟩) (sl.length + 1) c5)).size)
          have hxs := x5.set1 (.slice (some ⟨g5, 0, none⟩) (sl.length + 1) c5)
          have hos := own_setAt (o := 1) (u := .slice (some ⟨g5, 0, none⟩) (sl.length + 1) c5) p5.own (show w.heap.size + 1 < w2.heap.size by omega)
          have hds := HDC.out (w5.setCell ⟨w.heap.size + 1, 1, none⟩ (.slice (some ⟨g5, 0, none⟩) (sl.length + 1) c5)) (fun q hq => by
            have e1 := World.cell?_of_block (w := wr) (w' := w3.alloc (.cells #[.string ce] 9)) (a := ad3.add q) (hb4.block (ad3.add q).block (by rw [add_block]; exact Nat.lt_of_lt_of_le had3 HSZ.out))
            have e2 := World.cell?_of_block (w := w3.alloc (.cells #[.string ce] 9)) (w' := w5) (a := ad3.add q) (p5.below.block (ad3.add q).block (by rw [add_block]; exact had3))
            have e3 := World.cell?_of_block (w := w5) (w' := w5.setCell ⟨w.heap.size + 1, 1, none⟩ (.slice (some ⟨g5, 0, none⟩) (sl.length + 1) c5)) (a := ad3.add q) (Below.heap_setCell w5 ⟨w.heap.size + 1, 1, none⟩ _ (ad3.add q).block (by rw [add_block]; show ad3.block ≠ w.heap.size + 1; omega))
            rw [e3, e2, e1])
          rw [← MS.out] at hos
          clear q1 q3 q4 r3 r4 r5 r6 x3 x4 x5 q5 f5 p5 hp5 o4
          go_wp2_with fail
          exact ⟨⟨k + 1, by omega, by go_num, hbw, hz5, hx5, ⟨_, hxs, hos⟩, hds⟩, by simp [intOf]; omega⟩
        · go_simp
          go_at_call 35
          refine (CV.out _).mono ?_
          rintro e w4 ⟨rfl, rfl⟩
          have ha4 := (Below.refl w3.heap.size w3).alloc (Nat.le_refl _) (.cells #[.string ce] 9)
          have hb4 := Bt hb3' ha4
          have x4 := HX.out.bt hb4
          have q4 := x4.cells.2.1
          have r4 := cell_bt hdk hb4
          have o4 := own_below HO.out hb4
          have sz3 : w2.heap.size ≤ w3.heap.size := Nat.le_trans HSZ.out hb3'.size
          have sz4 := Nat.le_trans HSZ.out hb4.size
          try dsimp only
          refine hK.out _ _ r3 (fun hH => ?_)
          try simp only [Act.put, List.setIfInBounds_toArray, List.set_cons_zero, List.set_cons_succ]
          refine wpAnyH_ready (rs := [1, 11]) (by kernel_rfl) (by simp) ?_
          refine AllReadyH.cons (i := 1) rfl (fun K hK => ?_) (AllReadyH.cons (i := 11) rfl (fun K hK => ?_) (AllReadyH.nil))
          · go_simp
            refine hK.out _ _ hH (fun hH => ?_)
            try simp only [Act.put, List.setIfInBounds_toArray, List.set_cons_zero, List.set_cons_succ]
            refine wpAnyH_ready (rs := [11]) (by kernel_rfl) (by simp) ?_
            refine AllReadyH.cons (i := 11) rfl (fun K hK => ?_) (AllReadyH.nil)
            go_simp
            refine hK.out _ _ r4 (fun hH => ?_)
            try simp only [Act.put, List.setIfInBounds_toArray, List.set_cons_zero, List.set_cons_succ]
            refine wpAnyH_ready (rs := [12]) (by kernel_rfl) (by simp) ?_
            refine AllReadyH.cons (i := 12) rfl (fun K hK => ?_) (AllReadyH.nil)
            refine step_append4 (by rfl) (.tmp 41) (.tmp 51) (by rfl) w2.heap.size _ sl (by rfl) o4 _ w2.heap.size [ce] (by rfl) (own_one w3 w2.heap.size ce sz3) (by have := hll.out; simp; omega) sz4 ?_
            intro v5 w5 p5
            have hp5 : w5.ownsRow w2.heap.size 9 1 v5 (sl.length + 1) ((sl ++ [ce]).map Value.string) := by
              have h5 := p5.own
              unfold OwnS at h5
              rwa [List.length_append] at h5
            obtain ⟨g5, c5, rfl⟩ := ownsRow_succ hp5
            have x5 := x4.keep p5.below (by omega)
            obtain ⟨_, q5, _, _, f5, _⟩ := x5.cells
            have r5 := (p5.below.cell (p := ad3.add k) (by rw [add_block]; exact had3)).trans r4
            have r6 := cell_set_at r5 (w.heap.size + 1) 1 (by rw [add_block]; omega) (.slice (some ⟨g5, 0, none⟩) (sl.length + 1) c5)
            refine hK.out _ _ r5 (fun hH => ?_)
            try simp only [Act.put, List.setIfInBounds_toArray, List.set_cons_zero, List.set_cons_succ]
            refine wpAnyH_ready (rs := [13]) (by kernel_rfl) (by simp) ?_
            refine AllReadyH.cons (i := 13) rfl (fun K hK => ?_) (AllReadyH.nil)
            go_simp
            refine hK.out _ _ r5 (fun hH => ?_)
            try simp only [Act.put, List.setIfInBounds_toArray, List.set_cons_zero, List.set_cons_succ]
            refine wpAnyH_ready (rs := [14]) (by kernel_rfl) (by simp) ?_
            refine AllReadyH.cons (i := 14) rfl (fun K hK => ?_) (AllReadyH.nil)
            go_simp
            refine hK.out _ _ r6 (fun hH => ?_)
            try simp only [Act.put, List.setIfInBounds_toArray, List.set_cons_zero, List.set_cons_succ]
            refine wpAnyH_done (by kernel_rfl) ?_ _
            refine NoPanic.normal ?_
            have hb5 := (hb4.mono HB.out.size).trans (p5.below.mono (show w.heap.size ≤ w2.heap.size by omega))
            have hbw := (HB.out.trans hb5).setCell (p := ⟨w.heap.size + 1, 1, none⟩) (by show w.heap.size ≤ w.heap.size + 1; omega) (.slice (some ⟨g5, 0, none⟩) (sl.length + 1) c5)
            have hx5 := ((HX0.out.bt hb4).keep p5.below (show w.heap.size < w2.heap.size by omega)).other (b' := w.heap.size + 1) (o := 1) (v := .slice (some ⟨g5, 0, none⟩) (sl.length + 1) c5) (by omega)
            have hz5 : w2.heap.size ≤ (w5.setCell ⟨w.heap.size + 1, 1, none⟩ (.slice (some ⟨g5, 0, none⟩) (sl.length + 1) c5)).heap.size := Nat.le_trans sz4 (Nat.le_trans p5.below.size (grownBy_setAt w5 (w.heap.size + 1) 1 (.slice (some ⟨g5, 0, none⟩) (sl.length + 1) c5)).size)
            have hxs := x5.set1 (.slice (some ⟨g5, 0, none⟩) (sl.length + 1) c5)
            have hos := own_setAt (o := 1) (u := .slice (some ⟨g5, 0, none⟩) (sl.length + 1) c5) p5.own (show w.heap.size + 1 < w2.heap.size by omega)
            have hds := HDC.out (w5.setCell ⟨w.heap.size + 1, 1, none⟩ (.slice (some ⟨g5, 0, none⟩) (sl.length + 1) c5)) (fun q hq => by
              have e1 := World.cell?_of_block (w := wr) (w' := w3.alloc (.cells #[.string ce] 9)) (a := ad3.add q) (hb4.block (ad3.add q).block (by rw [add_block]; exact Nat.lt_of_lt_of_le had3 HSZ.out))
              have e2 := World.cell?_of_block (w := w3.alloc (.cells #[.string ce] 9)) (w' := w5) (a := ad3.add q) (p5.below.block (ad3.add q).block (by rw [add_block]; exact had3))
              have e3 := World.cell?_of_block (w := w5) (w' := w5.setCell ⟨w.heap.size + 1, 1, none⟩ (.slice (some ⟨g5, 0, none⟩) (sl.length + 1) c5)) (a := ad3.add q) (Below.heap_setCell w5 ⟨w.heap.size + 1, 1, none⟩ _ (ad3.add q).block (by rw [add_block]; show ad3.block ≠ w.heap.size + 1; omega))
              rw [e3, e2, e1])
            rw [← MS.out] at hos
            clear q1 q3 q4 r3 r4 r5 r6 x3 x4 x5 q5 f5 p5 hp5 o4
            go_wp2_with fail
            exact ⟨⟨k + 1, by omega, by go_num, hbw, hz5, hx5, ⟨_, hxs, hos⟩, hds⟩, by simp [intOf]; omega⟩
          · go_simp
            refine hK.out _ _ r4 (fun hH => ?_)
            try simp only [Act.put, List.setIfInBounds_toArray, List.set_cons_zero, List.set_cons_succ]
            refine wpAnyH_ready (rs := [1]) (by kernel_rfl) (by simp) ?_
            refine AllReadyH.cons (i := 1) rfl (fun K hK => ?_) (AllReadyH.nil)
            go_simp
            refine hK.out _ _ hH (fun hH => ?_)
            try simp only [Act.put, List.setIfInBounds_toArray, List.set_cons_zero, List.set_cons_succ]
            refine wpAnyH_ready (rs := [12]) (by kernel_rfl) (by simp) ?_
            refine AllReadyH.cons (i := 12) rfl (fun K hK => ?_) (AllReadyH.nil)
            refine step_append4 (by rfl) (.tmp 41) (.tmp 51) (by rfl) w2.heap.size _ sl (by rfl) o4 _ w2.heap.size [ce] (by rfl) (own_one w3 w2.heap.size ce sz3) (by have := hll.out; simp; omega) sz4 ?_
            intro v5 w5 p5
            have hp5 : w5.ownsRow w2.heap.size 9 1 v5 (sl.length + 1) ((sl ++ [ce]).map Value.string) := by
              have h5 := p5.own
              unfold OwnS at h5
              rwa [List.length_append] at h5
            obtain ⟨g5, c5, rfl⟩ := ownsRow_succ hp5
            have x5 := x4.keep p5.below (by omega)
            obtain ⟨_, q5, _, _, f5, _⟩ := x5.cells
            have r5 := (p5.below.cell (p := ad3.add k) (by rw [add_block]; exact had3)).trans r4
            have r6 := cell_set_at r5 (w.heap.size + 1) 1 (by rw [add_block]; omega) (.slice (some ⟨g5, 0, none⟩) (sl.length + 1) c5)
            refine hK.out _ _ r5 (fun hH => ?_)
            try simp only [Act.put, List.setIfInBounds_toArray, List.set_cons_zero, List.set_cons_succ]
            refine wpAnyH_ready (rs := [13]) (by kernel_rfl) (by simp) ?_
            refine AllReadyH.cons (i := 13) rfl (fun K hK => ?_) (AllReadyH.nil)
            go_simp
            refine hK.out _ _ r5 (fun hH => ?_)
            try simp only [Act.put, List.setIfInBounds_toArray, List.set_cons_zero, List.set_cons_succ]
            refine wpAnyH_ready (rs := [14]) (by kernel_rfl) (by simp) ?_
            refine AllReadyH.cons (i := 14) rfl (fun K hK => ?_) (AllReadyH.nil)
            go_simp
            refine hK.out _ _ r6 (fun hH => ?_)
            try simp only [Act.put, List.setIfInBounds_toArray, List.set_cons_zero, List.set_cons_succ]
            refine wpAnyH_done (by kernel_rfl) ?_ _
            refine NoPanic.normal ?_
            have hb5 := (hb4.mono HB.out.size).trans (p5.below.mono (show w.heap.size ≤ w2.heap.size by omega))
            have hbw := (HB.out.trans hb5).setCell (p := ⟨w.heap.size + 1, 1, none⟩) (by show w.heap.size ≤ w.heap.size + 1; omega) (.slice (some ⟨g5, 0, none⟩) (sl.length + 1) c5)
            have hx5 := ((HX0.out.bt hb4).keep p5.below (show w.heap.size < w2.heap.size by omega)).other (b' := w.heap.size + 1) (o := 1) (v := .slice (some ⟨g5, 0, none⟩) (sl.length + 1) c5) (by omega)
            have hz5 : w2.heap.size ≤ (w5.setCell ⟨w.heap.size + 1, 1, none⟩ (.slice (some ⟨g5, 0, none⟩) (sl.length + 1) c5)).heap.size := Nat.le_trans sz4 (Nat.le_trans p5.below.size (grownBy_setAt w5 (w.heap.size + 1) 1 (.slice (some ⟨g5, 0, none⟩) (sl.length + 1) c5)).size)
            have hxs := x5.set1 (.slice (some ⟨g5, 0, none⟩) (sl.length + 1) c5)
            have hos := own_setAt (o := 1) (u := .slice (some ⟨g5, 0, none⟩) (sl.length + 1) c5) p5.own (show w.heap.size + 1 < w2.heap.size by omega)
            have hds := HDC.out (w5.setCell ⟨w.heap.size + 1, 1, none⟩ (.slice (some ⟨g5, 0, none⟩) (sl.length + 1) c5)) (fun q hq => by
              have e1 := World.cell?_of_block (w := wr) (w' := w3.alloc (.cells #[.string ce] 9)) (a := ad3.add q) (hb4.block (ad3.add q).block (by rw [add_block]; exact Nat.lt_of_lt_of_le had3 HSZ.out))
              have e2 := World.cell?_of_block (w := w3.alloc (.cells #[.string ce] 9)) (w' := w5) (a := ad3.add q) (p5.below.block (ad3.add q).block (by rw [add_block]; exact had3))
              have e3 := World.cell?_of_block (w := w5) (w' := w5.setCell ⟨w.heap.size + 1, 1, none⟩ (.slice (some ⟨g5, 0, none⟩) (sl.length + 1) c5)) (a := ad3.add q) (Below.heap_setCell w5 ⟨w.heap.size + 1, 1, none⟩ _ (ad3.add q).block (by rw [add_block]; show ad3.block ≠ w.heap.size + 1; omega))
              rw [e3, e2, e1])
            rw [← MS.out] at hos
            clear q1 q3 q4 r3 r4 r5 r6 x3 x4 x5 q5 f5 p5 hp5 o4
            go_wp2_with fail
            exact ⟨⟨k + 1, by omega, by go_num, hbw, hz5, hx5, ⟨_, hxs, hos⟩, hds⟩, by simp [intOf]; omega⟩
    · obtain rfl : k = 18 := by omega
      have hfe : (List.range 18).map (fun k => Se.ch (Se.start s i k) ((Se.ds m).getD k 0)) = Se.sig s i m := rfl
      rw [hfe] at hown
      obtain ⟨A4, c4, hv4, hst4, _, _⟩ := hown.form
      subst hv4
      have hsl : (Se.sig s i m).length = 18 := Se.sig_length s i m
      rw [hsl] at hbx hown
      have HX := Lib.hid hbx
      have HX0 := Lib.hid hx0
      have HB := Lib.hid hb
      have HO := Lib.hid hown
      clear hbx hx0 hb hown hdc hst4 hsl hfe
      generalize Tr.path (Se.keys s h) i = pl at *
      generalize Se.sig s i m = sl at *
      go_wp2_with fail
      refine (KS.out _).mono ?_
      rintro e w3 ⟨v3, rfl, ho3, hb3⟩
      obtain ⟨A5, c5, hv5, hst5, hc5, hm5⟩ := ho3.form
      subst hv5
      have P1 := Lib.hid (PO.out w3 A5 c5 hc5 hm5 hst5)
      clear ho3 hst5 PO
      generalize (Se.keys s h).length = kn at *
      go_wp2_with fail
      refine P1.out.mono ?_
      rintro e w4 ⟨v4, rfl, ho4, hb4⟩
      have hb34 := Bt hb3 hb4
      have x4 := HX.out.bt hb34
      have x0 := HX0.out.bt hb34
      have o4 := own_below HO.out hb34
      obtain ⟨A6, c6, hv6, _, _, _⟩ := ho4.form
      subst hv6
      have hlt3 : w.heap.size + 1 < w3.heap.size := Nat.lt_of_lt_of_le (show w.heap.size + 1 < w2.heap.size by omega) (Nat.le_trans hsz hb3.size)
      have BW := Lib.hid (HB.out.trans (hb34.mono HB.out.size))
      have OS := Lib.hid o4
      have OP := Lib.hid ho4
      clear ho4 o4 hb3 hb4 hb34
      generalize pl.length = pn at *
      have y1 := x4.set2 (.slice A6 pn c6)
      have y0 := x0.other (b' := w.heap.size + 1) (o := 2) (v := .slice A6 pn c6) (by omega)
      obtain ⟨_, _, _, _, _, f2⟩ := x4.cells
      obtain ⟨_, _, z2, _, _, _⟩ := x4.cells
      obtain ⟨g0, g1, g2, _, _, _⟩ := y1.cells
      obtain ⟨j0, j1, j2, l0, l1, l2⟩ := y0.cells
      have yr := y0.set (.int .i64 (i : Int)) (.slice A4 18 c4) (.slice A6 pn c6)
      clear x4 x0
      go_wp2_with fail
      obtain ⟨r0, r1, r2, _, _, _⟩ := yr.cells
      refine bodyPost_ret (v := .tuple #[.agg #[.int .i64 (i : Int), .slice A4 18 c4, .slice A6 pn c6], .int .i64 0]) ?_ rfl ?_
      · simp [results, Tryd.f16, go_sem, r0, r1, r2]
      · refine ⟨_, _, rfl, (own_set3 (own_setAt OS.out (show w.heap.size + 1 < w2.heap.size by omega)) (show w.heap.size < w2.heap.size by omega)).mono (by omega), (own_set3 (own_setAt OP.out hlt3) (show w.heap.size < w3.heap.size by omega)).mono (by omega), below_set3 (BW.out.setCell (p := ⟨w.heap.size + 1, 2, none⟩) (by show w.heap.size ≤ w.heap.size + 1; omega) _) (Nat.le_refl _)⟩
end Go.Proofs.YtdlmbpoihnifiaaDoor

namespace Go.Proofs.YtdlmbpoihnifiaaDoor
open Go.RowKit
set_option maxRecDepth 100000
set_option linter.unusedSimpArgs false
set_option linter.unusedVariables false

set_option maxHeartbeats 1000000 in
theorem rSame_any (i j : Int) (A1 A2 A3 A4 : Option Addr) (c1 c2 c3 c4 : Nat) (sg pt sg' pt' : List ByteArray) (w : World)
    (h1 : Strs w w.heap.size A1 sg) (h2 : Strs w w.heap.size A2 pt) (h3 : Strs w w.heap.size A3 sg') (h4 : Strs w w.heap.size A4 pt') (n1 : sg.length ≤ maxLen) (n2 : pt.length ≤ maxLen) :
    Calls Tryd.prog 17 #[.agg #[.int .i64 i, .slice A1 sg.length c1, .slice A2 pt.length c2], .agg #[.int .i64 j, .slice A3 sg'.length c3, .slice A4 pt'.length c4]] w fun e w' => e = .returned (.bool (decide (i = j ∧ sg = sg' ∧ pt = pt'))) ∧ Below w.heap.size w w' := by
  have hbA := ((Below.refl w.heap.size w).alloc (Nat.le_refl _) (.cells #[.int .i64 i, .slice A1 sg.length c1, .slice A2 pt.length c2] 24)).alloc (by simp) (.cells #[.int .i64 j, .slice A3 sg'.length c3, .slice A4 pt'.length c4] 24)
  have S1 := Lib.hid (fun (b : Bool) (hb : decide (sg = sg') = b) (w' : World) (hb' : Below w.heap.size w w') => same_val A1 A3 c1 c3 sg.length sg'.length sg sg' rfl rfl b hb w' (h1.bt hb') (h3.bt hb') n1)
  have S2 := Lib.hid (fun (b : Bool) (hb : decide (pt = pt') = b) (w' : World) (hb' : Below w.heap.size w w') => same_val A2 A4 c2 c4 pt.length pt'.length pt pt' rfl rfl b hb w' (h2.bt hb') (h4.bt hb') n2)
  have b1 := (Boxed3.new w (.int .i64 i) (.slice A1 sg.length c1) (.slice A2 pt.length c2)).bt ((Below.refl _ _).alloc (Nat.le_refl _) (.cells #[.int .i64 j, .slice A3 sg'.length c3, .slice A4 pt'.length c4] 24))
  have b2 := Boxed3.new (w.alloc (.cells #[.int .i64 i, .slice A1 sg.length c1, .slice A2 pt.length c2] 24)) (.int .i64 j) (.slice A3 sg'.length c3) (.slice A4 pt'.length c4)
  rw [World.size_alloc] at b2
  have HB1 := Lib.hid b1
  have HB2 := Lib.hid b2
  clear h1 h2 h3 h4 b1 b2
  by_cases hij : i = j
  · by_cases hsg : sg = sg'
    · have T1 := Lib.hid (S1.out true (decide_eq_true hsg))
      by_cases hpt : pt = pt'
      case' pos =>
        have T2 := Lib.hid (S2.out true (decide_eq_true hpt))
        rw [decide_eq_true ⟨hij, hsg, hpt⟩]
      case' neg =>
        have T2 := Lib.hid (S2.out false (decide_eq_false hpt))
        rw [decide_eq_false (fun h => hpt h.2.2)]
      all_goals
        clear hsg hpt S1 S2
        generalize sg.length = m1 at *
        generalize pt.length = m2 at *
        generalize sg'.length = m3 at *
        generalize pt'.length = m4 at *
        subst hij
        go_enter Tryd.func17, Tryd.ntmps17
        go_wp2_with fail
        refine (T1.out _ hbA).mono ?_
        rintro e w1 ⟨rfl, hb1⟩
        have hb1' := Bt hbA hb1
        obtain ⟨k0, k1, k2, _, _, _⟩ := (HB1.out.bt hb1).cells
        obtain ⟨l0, l1, l2, _, _, _⟩ := (HB2.out.bt hb1).cells
        go_wp2_with fail
        refine (T2.out _ hb1').mono ?_
        rintro e w2 ⟨rfl, hb2⟩
        go_wp2
        go_ret
        exact ⟨rfl, Bt hb1' hb2⟩
    · have T1 := Lib.hid (S1.out false (decide_eq_false hsg))
      rw [decide_eq_false (fun h => hsg h.2.1)]
      clear hsg S1 S2
      generalize sg.length = m1 at *
      generalize pt.length = m2 at *
      generalize sg'.length = m3 at *
      generalize pt'.length = m4 at *
      subst hij
      go_enter Tryd.func17, Tryd.ntmps17
      go_wp2_with fail
      refine (T1.out _ hbA).mono ?_
      rintro e w1 ⟨rfl, hb1⟩
      go_wp2
      go_ret
      exact ⟨rfl, Bt hbA hb1⟩
  · rw [decide_eq_false (fun h => hij h.1)]
    have hne : (i == j) = false := by rw [beq_eq_false_iff_ne]; exact hij
    generalize sg.length = m1 at *
    generalize pt.length = m2 at *
    generalize sg'.length = m3 at *
    generalize pt'.length = m4 at *
    go_enter Tryd.func17, Tryd.ntmps17
    go_wp2_with fail
    go_ret
    exact ⟨rfl, hbA⟩

def fw1 (ss : List ByteArray) : Bool := (ss.take 30).all fun s => decide (s.size ≤ 100)
def fw (sg pt : List ByteArray) : Bool := fw1 sg && (fw1 pt && (decide (sg.length ≤ 30) && decide (pt.length ≤ 30)))
theorem fw_bounds {sg pt : List ByteArray} (h : fw sg pt = true) : sg.length ≤ 30 ∧ pt.length ≤ 30 ∧ (∀ s ∈ sg, s.size ≤ 100) ∧ (∀ s ∈ pt, s.size ≤ 100) := by
  unfold fw fw1 at h
  simp only [Bool.and_eq_true, decide_eq_true_eq] at h
  obtain ⟨h1, h2, h3, h4⟩ := h
  rw [List.take_of_length_le h3] at h1
  rw [List.take_of_length_le h4] at h2
  exact ⟨h3, h4, fun s hs => by simpa using List.all_eq_true.1 h1 s hs, fun s hs => by simpa using List.all_eq_true.1 h2 s hs⟩

set_option maxHeartbeats 1000000 in
theorem rFew_any (i : Int) (A1 A2 : Option Addr) (c1 c2 : Nat) (sg pt : List ByteArray) (w : World) (h1 : Strs w w.heap.size A1 sg) (h2 : Strs w w.heap.size A2 pt) (n1 : sg.length ≤ maxLen) (n2 : pt.length ≤ maxLen) :
    Calls Tryd.prog 12 #[.agg #[.int .i64 i, .slice A1 sg.length c1, .slice A2 pt.length c2]] w fun e w' => e = .returned (.bool (fw sg pt)) ∧ Below w.heap.size w w' := by
  have hbA := (Below.refl w.heap.size w).alloc (Nat.le_refl _) (.cells #[.int .i64 i, .slice A1 sg.length c1, .slice A2 pt.length c2] 24)
  have b1 := Boxed3.new w (.int .i64 i) (.slice A1 sg.length c1) (.slice A2 pt.length c2)
  have hs1 := h1.bt hbA
  have hs2 := h2.bt hbA
  obtain ⟨k0, k1, k2, _, _, _⟩ := b1.cells
  have HBA := Lib.hid hbA
  clear h1 h2 b1
  unfold maxLen at n1 n2
  generalize hW : w.alloc (.cells #[.int .i64 i, .slice A1 sg.length c1, .slice A2 pt.length c2] 24) = W at *
  go_enter Tryd.func12, Tryd.ntmps12
  go_wp2
  have HW := Lib.hid hW
  clear hW hbA
  go_loop [3] (fun j => ∃ k : Nat, k ≤ sg.length ∧ k ≤ 30 ∧ j = .int .i64 (k : Int) ∧ Hid ((sg.take k).all (fun s => decide (s.size ≤ 100)) = true)) (fun j => 30 - (intOf j).toNat)
  case atStart => exact ⟨0, by omega, by omega, rfl, Lib.hid rfl⟩
  case round =>
    obtain ⟨k, hk, hk30, rfl, HA⟩ := hrel
    by_cases hlt : k < sg.length ∧ k < 30
    · obtain ⟨hlt, hlt3⟩ := hlt
      obtain ⟨ad, rfl, _, hc⟩ := hs1 k hlt
      have ht := Lib.hid (take_snoc sg ByteArray.empty k hlt)
      have hm : sg.getD k ByteArray.empty ∈ sg.take 30 := by
        rw [List.getD_eq_getElem?_getD, List.getElem?_eq_getElem hlt]
        exact List.mem_take_iff_getElem.2 ⟨k, by omega, rfl⟩
      have HM := Lib.hid hm
      clear hm
      generalize sg.getD k ByteArray.empty = x at *
      by_cases hx : x.size ≤ 100
      · have hxi : ¬ (100 : Int) < (x.size : Int) := by omega
        go_wp2_with fail
        exact ⟨⟨k + 1, by omega, by omega, by go_num, Lib.hid (by rw [ht.out, List.all_append, HA.out]; simpa using hx)⟩, by simp [intOf]; omega⟩
      · have hxi : (100 : Int) < (x.size : Int) := by omega
        have hf : fw sg pt = false := by
          unfold fw fw1
          rw [List.all_eq_false.2 ⟨x, HM.out, by simpa using hx⟩, Bool.false_and]
        have HF := Lib.hid hf
        clear hf
        go_wp2_with fail
        go_ret
        exact ⟨by rw [HF.out]; rfl, HBA.out⟩
    · have hf1 : fw1 sg = true := by
        have h := HA.out
        unfold fw1
        by_cases h30 : k = 30
        · rw [← h30]; exact h
        · have : k = sg.length := by omega
          rw [this, List.take_length] at h
          rw [List.all_eq_true] at h ⊢
          exact fun s hs => h s (List.mem_of_mem_take hs)
      have hnl : ¬ ((k : Int) < (sg.length : Int)) ∨ ¬ ((k : Int) < 30) := by omega
      have HF1 := Lib.hid hf1
      clear hf1 HA hs1
      have hcase : ((k : Int) < (sg.length : Int) ∧ ¬ ((k : Int) < 30)) ∨ ¬ ((k : Int) < (sg.length : Int)) := by omega
      clear hlt hnl
      rcases hcase with ⟨ha, hb⟩ | ha
      all_goals
        have hloop := k
        clear hloop
        go_wp2_with fail
        go_loop [4] (fun j => ∃ q : Nat, q ≤ pt.length ∧ q ≤ 30 ∧ j = .int .i64 (q : Int) ∧ Hid ((pt.take q).all (fun s => decide (s.size ≤ 100)) = true)) (fun j => 30 - (intOf j).toNat)
        case atStart => exact ⟨0, by omega, by omega, rfl, Lib.hid rfl⟩
        case round =>
          obtain ⟨q, hq, hq30, rfl, HA⟩ := hrel
          by_cases hlt : q < pt.length ∧ q < 30
          · obtain ⟨hlt, hlt3⟩ := hlt
            obtain ⟨ad, rfl, _, hc⟩ := hs2 q hlt
            have ht := Lib.hid (take_snoc pt ByteArray.empty q hlt)
            have hm : pt.getD q ByteArray.empty ∈ pt.take 30 := by
              rw [List.getD_eq_getElem?_getD, List.getElem?_eq_getElem hlt]
              exact List.mem_take_iff_getElem.2 ⟨q, by omega, rfl⟩
            have HM := Lib.hid hm
            clear hm
            generalize pt.getD q ByteArray.empty = x at *
            by_cases hx : x.size ≤ 100
            · have hxi : ¬ (100 : Int) < (x.size : Int) := by omega
              go_wp2_with fail
              exact ⟨⟨q + 1, by omega, by omega, by go_num, Lib.hid (by rw [ht.out, List.all_append, HA.out]; simpa using hx)⟩, by simp [intOf]; omega⟩
            · have hxi : (100 : Int) < (x.size : Int) := by omega
              have hf : fw sg pt = false := by
                unfold fw
                rw [HF1.out]
                unfold fw1
                rw [List.all_eq_false.2 ⟨x, HM.out, by simpa using hx⟩]
                simp
              have HF := Lib.hid hf
              clear hf
              go_wp2_with fail
              go_ret
              exact ⟨by rw [HF.out]; rfl, HBA.out⟩
          · have hf2 : fw1 pt = true := by
              have h := HA.out
              unfold fw1
              by_cases h30 : q = 30
              · rw [← h30]; exact h
              · have : q = pt.length := by omega
                rw [this, List.take_length] at h
                rw [List.all_eq_true] at h ⊢
                exact fun s hs => h s (List.mem_of_mem_take hs)
            have hfw : fw sg pt = (decide (sg.length ≤ 30) && decide (pt.length ≤ 30)) := by
              unfold fw
              rw [HF1.out, hf2]
              rfl
            have HFW := Lib.hid hfw
            clear hf2 HA hs2 hfw
            have hcase2 : ((q : Int) < (pt.length : Int) ∧ ¬ ((q : Int) < 30)) ∨ ¬ ((q : Int) < (pt.length : Int)) := by omega
            clear hlt
            have hV : ((sg.length : Int) ≤ 30 ∧ (pt.length : Int) ≤ 30 ∧ Hid (fw sg pt = true)) ∨ ((sg.length : Int) ≤ 30 ∧ ¬ (pt.length : Int) ≤ 30 ∧ Hid (fw sg pt = false)) ∨ (¬ (sg.length : Int) ≤ 30 ∧ True ∧ Hid (fw sg pt = false)) := by
              by_cases hm1 : sg.length ≤ 30
              · by_cases hm2 : pt.length ≤ 30
                · exact .inl ⟨by omega, by omega, Lib.hid (by rw [HFW.out, decide_eq_true hm1, decide_eq_true hm2]; rfl)⟩
                · exact .inr (.inl ⟨by omega, by omega, Lib.hid (by rw [HFW.out, decide_eq_false hm2, Bool.and_false])⟩)
              · exact .inr (.inr ⟨by omega, trivial, Lib.hid (by rw [HFW.out, decide_eq_false hm1, Bool.false_and])⟩)
            generalize sg.length = m1 at *
            generalize pt.length = m2 at *
            rcases hV with ⟨ga, gb, HV⟩ | ⟨ga, gb, HV⟩ | ⟨ga, gb, HV⟩
            all_goals
              rcases hcase2 with ⟨hc1, hc2⟩ | hc1
              case' inr =>
                obtain rfl : q = m2 := by omega
                clear hc1 hq
              all_goals first
                | (exfalso; omega)
                | (go_wp2_with fail
                   go_ret
                   exact ⟨by rw [HV.out]; rfl, HBA.out⟩)
end Go.Proofs.YtdlmbpoihnifiaaDoor
