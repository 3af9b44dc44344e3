/- RatioValid: the walk. -/
import Derived.Test.YtmnnaaifebajnaaGreatDoorRaVdH
import Derived.Deep.DeepCutAuto
set_option linter.unusedSimpArgs false
set_option linter.unusedVariables false
namespace Go.Proofs.YtmnnaaifebajnaaGreatDoor
open Go.RowKit
open Ra (Fit)
set_option maxRecDepth 100000

set_option maxHeartbeats 4000000 in
theorem valid_op1 (sa sb sr : Bool) (na da nb db nr dr : ByteArray) (raw : Nat) (hraw : raw ≤ 255) (ee : Int) (zna : na.size ≤ 9223372036854775807) (zda : da.size ≤ 9223372036854775807) (znb : nb.size ≤ 9223372036854775807) (zdb : db.size ≤ 9223372036854775807) (E1 : Hid ((raw : Int) % 4 = 1)) (w : World)
    (H : Hid (∀ v, Below w.heap.size w v → Calls Tryz.prog 10 #[] v fun e w' => e = .returned (.bool true) ∧ Below v.heap.size v w'))
    (O : Hid (∀ v, Below w.heap.size w v → Calls Tryz.prog 18 #[rV (sa, na, da), rV (sb, nb, db)] v fun e w' => e = .returned (.tuple #[rV (sr, nr, dr), .int .i64 ee]) ∧ Below v.heap.size v w'))
    (HV : Hid ((Hid (∀ v, Below w.heap.size w v → Calls Tryz.prog 16 #[rV (sa, na, da)] v fun e w' => e = .returned (.bool false) ∧ Below v.heap.size v w') ∧ ee = 1 ∧ sr = false ∧ nr = ⟨#[]⟩ ∧ dr = ⟨#[]⟩) ∨ (Hid (∀ v, Below w.heap.size w v → Calls Tryz.prog 16 #[rV (sa, na, da)] v fun e w' => e = .returned (.bool true) ∧ Below v.heap.size v w') ∧ Hid (∀ v, Below w.heap.size w v → Calls Tryz.prog 16 #[rV (sb, nb, db)] v fun e w' => e = .returned (.bool false) ∧ Below v.heap.size v w') ∧ ee = 1 ∧ sr = false ∧ nr = ⟨#[]⟩ ∧ dr = ⟨#[]⟩) ∨ (Hid (∀ v, Below w.heap.size w v → Calls Tryz.prog 16 #[rV (sa, na, da)] v fun e w' => e = .returned (.bool true) ∧ Below v.heap.size v w') ∧ Hid (∀ v, Below w.heap.size w v → Calls Tryz.prog 16 #[rV (sb, nb, db)] v fun e w' => e = .returned (.bool true) ∧ Below v.heap.size v w') ∧ ee = 0 ∧ Hid (∀ v, Below w.heap.size w v → Calls Tryz.prog 16 #[rV (sr, nr, dr)] v fun e w' => e = .returned (.bool true) ∧ Below v.heap.size v w')) ∨ (Hid (∀ v, Below w.heap.size w v → Calls Tryz.prog 16 #[rV (sa, na, da)] v fun e w' => e = .returned (.bool true) ∧ Below v.heap.size v w') ∧ Hid (∀ v, Below w.heap.size w v → Calls Tryz.prog 16 #[rV (sb, nb, db)] v fun e w' => e = .returned (.bool true) ∧ Below v.heap.size v w') ∧ ¬ ee = 0 ∧ sr = false ∧ nr = ⟨#[]⟩ ∧ dr = ⟨#[]⟩ ∧ Hid (∀ v, Below w.heap.size w v → Calls Tryz.prog 16 #[rV (false, ⟨#[]⟩, ⟨#[]⟩)] v fun e w' => e = .returned (.bool false) ∧ Below v.heap.size v w')))) :
    Calls Tryz.prog 9 #[rV (sa, na, da), rV (sb, nb, db), .int .u8 (raw : Int)] w fun e w' => e = .returned (.bool true) ∧ Below w.heap.size w w' := by
  obtain ⟨hb0, A0, B0⟩ := startB w (sa, na, da) (sb, nb, db) _ rfl
  unfold ob at hb0 A0 B0
  unfold rV at O ⊢
  simp only at hb0 A0 B0 O ⊢
  go_enter Tryz.func9, Tryz.ntmps9
  go_wp2_with fail
  refine (H.out _ hb0).mono ?_
  rintro e w1 ⟨rfl, g⟩
  have hb1 := Nb hb0 (g)
  have A1 := A0.bt (g)
  have B1 := B0.bt (g)
  clear hb0 A0 B0 g
  obtain ⟨Ac0, Ac1, Ac2, _, _, _⟩ := A1.cells
  obtain ⟨Bc0, Bc1, Bc2, _, _, _⟩ := B1.cells
  go_wp2_with fail
  have hX : (w1.alloc (.cells #[.bool sa, .string na, .string da, .bool sb, .string nb, .string db] 23)).heap[w1.heap.size]? = some (.cells #[.bool sa, .string na, .string da, .bool sb, .string nb, .string db] 23 (0, 0)) := heap_alloc_new _ _
  have SH := Lib.hid (lshort2 160 (by omega) w1.heap.size na da nb db (w1.alloc (.cells #[.bool sa, .string na, .string da, .bool sb, .string nb, .string db] 23)) (by rw [Lib.cell_of_heap hX]; rfl) (by rw [Lib.cell_of_heap hX]; rfl) (by rw [Lib.cell_of_heap hX]; rfl) (by rw [Lib.cell_of_heap hX]; rfl) zna zda znb zdb)
  rw [show ((160 : Nat) : Int) = 160 from rfl] at SH
  refine SH.out.mono ?_
  rintro e wS ⟨r, rfl, hr, rfl⟩
  clear Ac0 Ac1 Ac2 Bc0 Bc1 Bc2
  clear SH hX
  have hb1s := Nb hb1 (al w1 (.cells #[.bool sa, .string na, .string da, .bool sb, .string nb, .string db] 23))
  have A1s := A1.bt (al w1 (.cells #[.bool sa, .string na, .string da, .bool sb, .string nb, .string db] 23))
  have B1s := B1.bt (al w1 (.cells #[.bool sa, .string na, .string da, .bool sb, .string nb, .string db] 23))
  clear hb1 A1 B1 
  clear hr
  cases r
  · go_wp2_with fail
    go_ret
    exact ⟨rfl, hb1s⟩
  · go_upto_region 5 with fail
    obtain ⟨V, hV⟩ : ∃ V, V = (w1.alloc (.cells #[.bool sa, .string na, .string da, .bool sb, .string nb, .string db] 23)).alloc (.cells #[.func (.func 14) #[] #[], .func (.func 18) #[] #[], .func (.func 20) #[] #[], .func (.func 22) #[] #[]] 29) := ⟨_, rfl⟩
    have hbV : Below w.heap.size w V := by rw [hV]; exact Nb hb1s (al _ _)
    have AV : At V w.heap.size (sa, na, da) := by rw [hV]; exact A1s.bt (al _ _)
    have BV : At V (w.heap.size + 1) (sb, nb, db) := by rw [hV]; exact B1s.bt (al _ _)
    have FV : AtF V (w1.heap.size + 1) := by
      have := heap_alloc_new (w1.alloc (.cells #[.bool sa, .string na, .string da, .bool sb, .string nb, .string db] 23)) (.cells #[.func (.func 14) #[] #[], .func (.func 18) #[] #[], .func (.func 20) #[] #[], .func (.func 22) #[] #[]] 29)
      rw [size_al] at this
      rw [hV]
      exact this
    have nV : w1.heap.size + 1 < V.heap.size := by rw [hV, size_al, size_al]; omega
    have nW : w.heap.size + 1 < w1.heap.size + 1 := by have := (Array.getElem?_eq_some_iff.1 B1s).1; have h2 := size_al w1 (.cells #[.bool sa, .string na, .string da, .bool sb, .string nb, .string db] 23); omega
    have HV2 := Lib.hid hV
    clear hV
    rw [← HV2.out]
    clear HV2
    generalize w1.heap.size + 1 = fb at *
    have S0 := Lib.hid (ten AV BV FV)
    have S1 := Lib.hid (ten (AV.bt (Bd V)) (BV.bt (Bd V)) (FV.bt (Bd V)))
    have S2 := Lib.hid (ten ((AV.bt (al V (.cells #[.bool false, .string ⟨#[]⟩, .string ⟨#[]⟩] 23))).bt (Bd _)) ((BV.bt (al V (.cells #[.bool false, .string ⟨#[]⟩, .string ⟨#[]⟩] 23))).bt (Bd _)) ((FV.bt (al V (.cells #[.bool false, .string ⟨#[]⟩, .string ⟨#[]⟩] 23))).bt (Bd _)))
    go_cut [9, 10] (fun s9 s10 wx => ∃ k, s9 = .pointer (some ⟨k, 0, none⟩) ∧ s10 = .int .i64 ee ∧ Below w.heap.size w wx ∧ At wx w.heap.size (sa, na, da) ∧ At wx (w.heap.size + 1) (sb, nb, db) ∧ At wx k (sr, nr, dr))
    case first =>
      have E1o := E1.out
      have W1 : IntKind.i64.wrap (raw : Int) = (raw : Int) := by rw [IntKind.wrap_i64]; omega
      have T1 : Int.tmod (raw : Int) 4 = 1 := by rw [Int.tmod_eq_emod_of_nonneg (by omega)]; exact E1o
      go_region_held3 (fun w' => w'.cell? ⟨w.heap.size, 0, none⟩ = some (.bool sa) ∧ w'.cell? ⟨w.heap.size, 1, none⟩ = some (.string na) ∧ w'.cell? ⟨w.heap.size, 2, none⟩ = some (.string da) ∧ w'.cell? ⟨w.heap.size + 1, 0, none⟩ = some (.bool sb) ∧ w'.cell? ⟨w.heap.size + 1, 1, none⟩ = some (.string nb) ∧ w'.cell? ⟨w.heap.size + 1, 2, none⟩ = some (.string db) ∧ w'.cell? ⟨fb, 0, none⟩ = some (.func (.func 14) #[] #[]) ∧ w'.cell? ⟨fb, 1, none⟩ = some (.func (.func 18) #[] #[]) ∧ w'.cell? ⟨fb, 2, none⟩ = some (.func (.func 20) #[] #[]) ∧ w'.cell? ⟨fb, 3, none⟩ = some (.func (.func 22) #[] #[])) (first | (with_reducible exact SS.out) | (with_reducible exact S7.out) | (with_reducible exact S6.out) | (with_reducible exact S2.out) | (with_reducible exact S1.out) | (with_reducible exact S0.out) | go_keep)
        (first
          | (go_at_call 18
             (with_reducible refine (O.out _ (Nb hbV (Bd V))).mono ?_)
             rintro e6 w6 ⟨rfl, g6⟩
             have hb6 := Nb (Nb hbV (Bd V)) g6
             have A6 := (AV.bt (Bd V)).bt g6
             have B6 := (BV.bt (Bd V)).bt g6
             have F6 := (FV.bt (Bd V)).bt g6
             have S6 := Lib.hid (ten A6 B6 F6)
             have S7 := Lib.hid (ten (A6.bt (al w6 (.cells #[.bool false, .string ⟨#[]⟩, .string ⟨#[]⟩] 23))) (B6.bt (al w6 (.cells #[.bool false, .string ⟨#[]⟩, .string ⟨#[]⟩] 23))) (F6.bt (al w6 (.cells #[.bool false, .string ⟨#[]⟩, .string ⟨#[]⟩] 23))))
             have SS := Lib.hid (ten (A6.bt (al w6 (.cells #[.bool sr, .string nr, .string dr] 23))) (B6.bt (al w6 (.cells #[.bool sr, .string nr, .string dr] 23))) (F6.bt (al w6 (.cells #[.bool sr, .string nr, .string dr] 23)))))
          | (go_at_call 18
             (with_reducible refine (O.out _ (Nb hbV (Nb (al V (.cells #[.bool false, .string ⟨#[]⟩, .string ⟨#[]⟩] 23)) (Bd _)))).mono ?_)
             rintro e6 w6 ⟨rfl, g6⟩
             have hb6 := Nb (Nb hbV (Nb (al V (.cells #[.bool false, .string ⟨#[]⟩, .string ⟨#[]⟩] 23)) (Bd _))) g6
             have A6 := (AV.bt (Nb (al V (.cells #[.bool false, .string ⟨#[]⟩, .string ⟨#[]⟩] 23)) (Bd _))).bt g6
             have B6 := (BV.bt (Nb (al V (.cells #[.bool false, .string ⟨#[]⟩, .string ⟨#[]⟩] 23)) (Bd _))).bt g6
             have F6 := (FV.bt (Nb (al V (.cells #[.bool false, .string ⟨#[]⟩, .string ⟨#[]⟩] 23)) (Bd _))).bt g6
             have S6 := Lib.hid (ten A6 B6 F6)
             have Y6 := (At.new V false ⟨#[]⟩ ⟨#[]⟩).bt (Nb (Bd _) g6)
             obtain ⟨y0, y1, y2, y3, y4, y5⟩ := Y6.cells
             have SS := Lib.hid (ten (A6.far (show w.heap.size ≠ V.heap.size by omega) (sr, nr, dr)) (B6.far (show w.heap.size + 1 ≠ V.heap.size by omega) (sr, nr, dr)) (((F6.off (show fb ≠ V.heap.size by omega) 0 (.bool sr)).off (show fb ≠ V.heap.size by omega) 1 (.string nr)).off (show fb ≠ V.heap.size by omega) 2 (.string dr))))
          | fail)
      clear E1o W1 T1
      all_goals go_wp2_with fail
      all_goals go_meet
      all_goals first
        | exact ⟨_, rfl, rfl, Nb hb6 (al _ _), A6.bt (al _ _), B6.bt (al _ _), At.new _ _ _ _⟩
        | exact ⟨_, rfl, rfl, Bset2 hb6 (by omega) _ _ _, A6.far (show w.heap.size ≠ V.heap.size by omega) (sr, nr, dr), B6.far (show w.heap.size + 1 ≠ V.heap.size by omega) (sr, nr, dr), Y6.set _ _ _⟩
    case rest =>
      clear S0 S1 S2 AV BV FV hbV
      obtain ⟨kx, rfl, rfl, hbR, AR, BR, XR⟩ := hcut
      rcases HV.out with ⟨VA, rfl, rfl, rfl, rfl⟩ | ⟨VA, VB, rfl, rfl, rfl, rfl⟩ | ⟨VA, VB, rfl, VX⟩ | ⟨VA, VB, h0, rfl, rfl, rfl, VX⟩
      · unfold rV at VA
        simp only at VA
        obtain ⟨Ac0, Ac1, Ac2, _, _, _⟩ := AR.cells
        obtain ⟨Bc0, Bc1, Bc2, _, _, _⟩ := BR.cells
        obtain ⟨Xc0, Xc1, Xc2, _, _, _⟩ := XR.cells
        go_wp2_with fail
        refine (VA.out _ hbR).mono ?_
        rintro e w2 ⟨rfl, g⟩
        clear Ac0 Ac1 Ac2 Bc0 Bc1 Bc2 Xc0 Xc1 Xc2
        have hb2 := Nb hbR (g)
        have A2 := AR.bt (g)
        have B2 := BR.bt (g)
        have X2 := XR.bt (g)
        clear hbR AR BR XR g
        obtain ⟨Ac0, Ac1, Ac2, _, _, _⟩ := A2.cells
        obtain ⟨Bc0, Bc1, Bc2, _, _, _⟩ := B2.cells
        obtain ⟨Xc0, Xc1, Xc2, _, _, _⟩ := X2.cells
        go_wp2_with fail
        go_ret
        exact ⟨rfl, hb2⟩
      · unfold rV at VA
        simp only at VA
        unfold rV at VB
        simp only at VB
        obtain ⟨Ac0, Ac1, Ac2, _, _, _⟩ := AR.cells
        obtain ⟨Bc0, Bc1, Bc2, _, _, _⟩ := BR.cells
        obtain ⟨Xc0, Xc1, Xc2, _, _, _⟩ := XR.cells
        go_wp2_with fail
        refine (VA.out _ hbR).mono ?_
        rintro e w2 ⟨rfl, g⟩
        clear Ac0 Ac1 Ac2 Bc0 Bc1 Bc2 Xc0 Xc1 Xc2
        have hb2 := Nb hbR (g)
        have A2 := AR.bt (g)
        have B2 := BR.bt (g)
        have X2 := XR.bt (g)
        clear hbR AR BR XR g
        obtain ⟨Ac0, Ac1, Ac2, _, _, _⟩ := A2.cells
        obtain ⟨Bc0, Bc1, Bc2, _, _, _⟩ := B2.cells
        obtain ⟨Xc0, Xc1, Xc2, _, _, _⟩ := X2.cells
        go_wp2_with fail
        refine (VB.out _ hb2).mono ?_
        rintro e w3 ⟨rfl, g⟩
        clear Ac0 Ac1 Ac2 Bc0 Bc1 Bc2 Xc0 Xc1 Xc2
        have hb3 := Nb hb2 (g)
        have A3 := A2.bt (g)
        have B3 := B2.bt (g)
        have X3 := X2.bt (g)
        clear hb2 A2 B2 X2 g
        obtain ⟨Ac0, Ac1, Ac2, _, _, _⟩ := A3.cells
        obtain ⟨Bc0, Bc1, Bc2, _, _, _⟩ := B3.cells
        obtain ⟨Xc0, Xc1, Xc2, _, _, _⟩ := X3.cells
        go_wp2_with fail
        go_ret
        exact ⟨rfl, hb3⟩
      · unfold rV at VA
        simp only at VA
        unfold rV at VB
        simp only at VB
        unfold rV at VX
        simp only at VX
        obtain ⟨Ac0, Ac1, Ac2, _, _, _⟩ := AR.cells
        obtain ⟨Bc0, Bc1, Bc2, _, _, _⟩ := BR.cells
        obtain ⟨Xc0, Xc1, Xc2, _, _, _⟩ := XR.cells
        go_wp2_with fail
        refine (VA.out _ hbR).mono ?_
        rintro e w2 ⟨rfl, g⟩
        clear Ac0 Ac1 Ac2 Bc0 Bc1 Bc2 Xc0 Xc1 Xc2
        have hb2 := Nb hbR (g)
        have A2 := AR.bt (g)
        have B2 := BR.bt (g)
        have X2 := XR.bt (g)
        clear hbR AR BR XR g
        obtain ⟨Ac0, Ac1, Ac2, _, _, _⟩ := A2.cells
        obtain ⟨Bc0, Bc1, Bc2, _, _, _⟩ := B2.cells
        obtain ⟨Xc0, Xc1, Xc2, _, _, _⟩ := X2.cells
        go_wp2_with fail
        refine (VB.out _ hb2).mono ?_
        rintro e w3 ⟨rfl, g⟩
        clear Ac0 Ac1 Ac2 Bc0 Bc1 Bc2 Xc0 Xc1 Xc2
        have hb3 := Nb hb2 (g)
        have A3 := A2.bt (g)
        have B3 := B2.bt (g)
        have X3 := X2.bt (g)
        clear hb2 A2 B2 X2 g
        obtain ⟨Ac0, Ac1, Ac2, _, _, _⟩ := A3.cells
        obtain ⟨Bc0, Bc1, Bc2, _, _, _⟩ := B3.cells
        obtain ⟨Xc0, Xc1, Xc2, _, _, _⟩ := X3.cells
        go_wp2_with fail
        refine (VX.out _ hb3).mono ?_
        rintro e w4 ⟨rfl, g⟩
        clear Ac0 Ac1 Ac2 Bc0 Bc1 Bc2 Xc0 Xc1 Xc2
        have hb4 := Nb hb3 (g)
        have A4 := A3.bt (g)
        have B4 := B3.bt (g)
        have X4 := X3.bt (g)
        clear hb3 A3 B3 X3 g
        obtain ⟨Ac0, Ac1, Ac2, _, _, _⟩ := A4.cells
        obtain ⟨Bc0, Bc1, Bc2, _, _, _⟩ := B4.cells
        obtain ⟨Xc0, Xc1, Xc2, _, _, _⟩ := X4.cells
        go_wp2_with fail
        go_ret
        exact ⟨rfl, hb4⟩
      · unfold rV at VA
        simp only at VA
        unfold rV at VB
        simp only at VB
        unfold rV at VX
        simp only at VX
        obtain ⟨Ac0, Ac1, Ac2, _, _, _⟩ := AR.cells
        obtain ⟨Bc0, Bc1, Bc2, _, _, _⟩ := BR.cells
        obtain ⟨Xc0, Xc1, Xc2, _, _, _⟩ := XR.cells
        have h1 := (nez h0).1
        go_wp2_with fail
        refine (VA.out _ hbR).mono ?_
        rintro e w2 ⟨rfl, g⟩
        clear Ac0 Ac1 Ac2 Bc0 Bc1 Bc2 Xc0 Xc1 Xc2
        have hb2 := Nb hbR (g)
        have A2 := AR.bt (g)
        have B2 := BR.bt (g)
        have X2 := XR.bt (g)
        clear hbR AR BR XR g
        obtain ⟨Ac0, Ac1, Ac2, _, _, _⟩ := A2.cells
        obtain ⟨Bc0, Bc1, Bc2, _, _, _⟩ := B2.cells
        obtain ⟨Xc0, Xc1, Xc2, _, _, _⟩ := X2.cells
        go_wp2_with fail
        refine (VB.out _ hb2).mono ?_
        rintro e w3 ⟨rfl, g⟩
        clear Ac0 Ac1 Ac2 Bc0 Bc1 Bc2 Xc0 Xc1 Xc2
        have hb3 := Nb hb2 (g)
        have A3 := A2.bt (g)
        have B3 := B2.bt (g)
        have X3 := X2.bt (g)
        clear hb2 A2 B2 X2 g
        obtain ⟨Ac0, Ac1, Ac2, _, _, _⟩ := A3.cells
        obtain ⟨Bc0, Bc1, Bc2, _, _, _⟩ := B3.cells
        obtain ⟨Xc0, Xc1, Xc2, _, _, _⟩ := X3.cells
        go_wp2_with fail
        refine (VX.out _ hb3).mono ?_
        rintro e w4 ⟨rfl, g⟩
        clear Ac0 Ac1 Ac2 Bc0 Bc1 Bc2 Xc0 Xc1 Xc2
        have hb4 := Nb hb3 (g)
        have A4 := A3.bt (g)
        have B4 := B3.bt (g)
        have X4 := X3.bt (g)
        clear hb3 A3 B3 X3 g
        obtain ⟨Ac0, Ac1, Ac2, _, _, _⟩ := A4.cells
        obtain ⟨Bc0, Bc1, Bc2, _, _, _⟩ := B4.cells
        obtain ⟨Xc0, Xc1, Xc2, _, _, _⟩ := X4.cells
        go_wp2_with fail
        go_ret
        exact ⟨rfl, hb4⟩

end Go.Proofs.YtmnnaaifebajnaaGreatDoor
