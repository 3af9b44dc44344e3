/- Layer 8: the head. -/
import Derived.Test.YtkbncdcphohmiaaGreatDoorMoT
set_option linter.unusedSimpArgs false
set_option linter.unusedVariables false
namespace Go.Proofs.YtkbncdcphohmiaaGreatDoor
open Go.RowKit
set_option maxRecDepth 100000

deriving instance DecidableEq for Mo.Rt
theorem Mo.add_k (g k : Nat) : Addr.add ⟨g, 0, none⟩ k = ⟨g, k, none⟩ := by
  unfold Addr.add
  by_cases h : k = 0
  · subst h; rfl
  · simp [h]
theorem Mo.own_zs {w : World} {B g c : Nat} {l : List Int} (h : OwnZ w B g c l) : Mo.Zs w w.heap.size (some ⟨g, 0, none⟩) l := fun k hk => by
  have hc := h.cell k hk
  refine ⟨_, rfl, ?_, by rw [Mo.add_k]; exact hc⟩
  have := Go.block_lt_of_cell hc
  exact this
theorem Mo.new_zs (w : World) (t : TypeId) (l : List Int) : Mo.Zs (w.alloc (.cells (l.map (Value.int .i64)).toArray t)) (w.alloc (.cells (l.map (Value.int .i64)).toArray t)).heap.size (some ⟨w.heap.size, 0, none⟩) l := fun k hk => by
  have hb := Bk.new w t (l.map (Value.int .i64)).toArray
  exact ⟨_, rfl, by simp, by rw [Mo.add_k]; exact hb.cell k (.int .i64 (l.getD k 0)) (by simp [List.getD_eq_getElem?_getD, List.getElem?_eq_getElem hk])⟩
theorem Mo.split_ex (u : Nat) (l r : List Int) (hl : l.length < 40) (hok : Mo.okP l = true) (hu : u ≤ 1000000000000) (hr : Mo.row l.length (Mo.out u (Mo.sum l.length (Mo.pn l)) (Mo.pn l) l.length) = r) (w : World) :
    Calls Tryz.prog 23 #[.int .i64 (u : Int), .slice (some ⟨w.heap.size, 0, none⟩) l.length l.length] (w.alloc (.cells (l.map (Value.int .i64)).toArray 3)) fun e w' => ∃ g, e = .returned (.tuple #[.slice (some ⟨g, 0, none⟩) l.length l.length, .int .i64 0]) ∧ Mo.Zs w' w'.heap.size (some ⟨g, 0, none⟩) r ∧ Below w.heap.size w w' := by
  refine (Mo.split_ok u _ l.length l _ (Mo.new_zs w _ l) hl hok hu).mono ?_
  rintro e w' ⟨g, rfl, h1, h2⟩
  rw [hr] at h1
  exact ⟨g, rfl, Mo.own_zs h1, Mo.Nb (Mo.al w _) h2⟩
theorem Mo.conv_ok {l : List Mo.Rt} {base c : ByteArray} {u : Int} {tc : ByteArray} {day : Int} {x y : Mo.Rt} (q : Rat) (h1 : Mo.valid l base = true) (h2 : Mo.proper c.data.toList u = true) (hx : Mo.find l base c day = (x, 0)) (hy : Mo.find l base tc day = (y, 0)) (hq : Mo.cv u x y = q) : Mo.conv l base c u tc day = (rf q, 0) := by
  rw [Mo.conv_of h1 h2, hx, hy]
  simp [hq]
theorem Mo.of_q (m n : Int) (hn : n ≠ 0) : (ofF5 m n).1 = rf ((m : Rat) / (n : Rat)) := by
  unfold ofF5
  rw [if_neg hn]

/-- The examples' world: the rates, and the variable that holds them. -/
def Mo.exW (w : World) : World := (w.alloc (.cells Mo.exCells 27)).alloc (.cells #[.slice (some ⟨w.heap.size, 0, none⟩) 3 3] 22)
theorem Mo.exW_below (w : World) : Below w.heap.size w (Mo.exW w) := Mo.Nb (Mo.al w _) (Mo.al _ _)
theorem Mo.exW_rts (w : World) : Mo.Rts (Mo.exW w) (Mo.exW w).heap.size (some ⟨w.heap.size, 0, none⟩) Mo.ex := (Mo.ex_rts (Bk.new w _ _)).bt (Mo.al _ _)
theorem Mo.exW_cell (w : World) : Bk (Mo.exW w) (w.heap.size + 1) 22 #[.slice (some ⟨w.heap.size, 0, none⟩) 3 3] := by
  have := Bk.new (w.alloc (.cells Mo.exCells 27)) 22 #[.slice (some ⟨w.heap.size, 0, none⟩) 3 3]
  simp only [World.size_alloc] at this
  exact this
theorem Mo.f1 : Mo.find Mo.ex Mo.eur Mo.gbp 5 = (.zero, 11) := by decide +kernel
theorem Mo.c1 : Mo.conv Mo.ex Mo.eur Mo.usd 100 Mo.eur 9 = (rf 90, 0) := Mo.conv_ok (x := ⟨Mo.usd, 0, 9, 10⟩) (y := ⟨Mo.eur, 0, 1, 1⟩) 90 (by decide +kernel) (by decide +kernel) (by decide +kernel) (by decide +kernel) (by decide +kernel)
theorem Mo.c2 : Mo.conv Mo.ex Mo.eur Mo.usd 100 Mo.eur 10 = (rf 80, 0) := Mo.conv_ok (x := ⟨Mo.usd, 10, 4, 5⟩) (y := ⟨Mo.eur, 0, 1, 1⟩) 80 (by decide +kernel) (by decide +kernel) (by decide +kernel) (by decide +kernel) (by decide +kernel)
theorem Mo.c3 : Mo.conv Mo.ex Mo.eur Mo.eur 10 Mo.usd 10 = (rf (25 / 2), 0) := Mo.conv_ok (x := ⟨Mo.eur, 0, 1, 1⟩) (y := ⟨Mo.usd, 10, 4, 5⟩) (25 / 2) (by decide +kernel) (by decide +kernel) (by decide +kernel) (by decide +kernel) (by decide +kernel)
theorem Mo.c4 : Mo.conv Mo.ex Mo.eur Mo.chf 9 Mo.usd 0 = (rf 10, 0) := Mo.conv_ok (x := ⟨Mo.chf, 0, 1, 1⟩) (y := ⟨Mo.usd, 0, 9, 10⟩) 10 (by decide +kernel) (by decide +kernel) (by decide +kernel) (by decide +kernel) (by decide +kernel)
theorem Mo.rnd_of (m n k : Int) (hn : n ≠ 0) (h1 : m.natAbs < 10 ^ 20) (h2 : n.natAbs < 10 ^ 20) (hr : Mo.rnd ((m : Rat) / (n : Rat)) = k) (hf : -9223372036854775808 ≤ ((m : Rat) / (n : Rat)).floor ∧ ((m : Rat) / (n : Rat)).floor < 9223372036854775807) : Mo.roundF (ofF5 m n).1 = (k, 0) := by
  rw [Mo.of_q m n hn, Mo.round_rf (Mo.fit_q m n hn h1 h2) hf, hr]
theorem Mo.r1 : Mo.roundF (ofF5 5 2).1 = (2, 0) := Mo.rnd_of 5 2 2 (by decide) (by decide) (by decide) (by decide +kernel) (by decide +kernel)
theorem Mo.r2 : Mo.roundF (ofF5 7 2).1 = (4, 0) := Mo.rnd_of 7 2 4 (by decide) (by decide) (by decide) (by decide +kernel) (by decide +kernel)
theorem Mo.r3 : Mo.roundF (ofF5 (-5) 2).1 = (-2, 0) := Mo.rnd_of (-5) 2 (-2) (by decide) (by decide) (by decide) (by decide +kernel) (by decide +kernel)
theorem Mo.rf_size {q : Rat} (hq : Ra.Fit L140 q) : (rf q).2.1.size ≤ maxLen ∧ (rf q).2.2.size ≤ maxLen := rf_len (fit140 hq)

set_option maxHeartbeats 4000000 in
theorem Mo.head_any (w : World) (hP : Pm w.heap.size w) :
    Calls Tryz.prog 10 #[] w fun e w' => e = .returned (.bool true) ∧ Below w.heap.size w w' := by
  have HP : Hid (∀ v, Below (Mo.exW w).heap.size (Mo.exW w) v → Pm v.heap.size v) := Lib.hid (fun v h => hP.bt (Mo.Nb (Mo.exW_below w) h))
  have HR : Hid (∀ v, Below (Mo.exW w).heap.size (Mo.exW w) v → Mo.Rts v v.heap.size (some ⟨w.heap.size, 0, none⟩) Mo.ex) := Lib.hid (fun v h => (Mo.exW_rts w).bt h)
  have HK : Hid (∀ v, Below (Mo.exW w).heap.size (Mo.exW w) v → v.cell? ⟨w.heap.size + 1, 0, none⟩ = some (.slice (some ⟨w.heap.size, 0, none⟩) 3 3)) := Lib.hid (fun v h => ((Mo.exW_cell w).bt h).cell 0 _ rfl)
  have C0 := Lib.hid (Mo.rates_any w)
  have CF : Hid (∀ v, Below (Mo.exW w).heap.size (Mo.exW w) v → Calls Tryz.prog 11 #[.slice (some ⟨w.heap.size, 0, none⟩) 3 3, .string ⟨#[69, 85, 82]⟩, .string ⟨#[71, 66, 80]⟩, .int .i64 5] v fun e w' => e = .returned (.tuple #[.agg #[.string ⟨#[]⟩, .int .i64 0, .int .i64 0, .int .i64 0], .int .i64 11]) ∧ Below v.heap.size v w') := Lib.hid (fun v h => by
    have := Mo.Find_any (some ⟨w.heap.size, 0, none⟩) 3 Mo.ex Mo.eur Mo.gbp 5 v (HR.out v h) Mo.ex_good (by unfold maxLen; decide) (by unfold maxLen; decide) (by unfold maxLen; decide)
    rw [Mo.f1] at this
    exact this)
  have CO : Hid (∀ (m n : Int), -9223372036854775808 ≤ m ∧ m ≤ 9223372036854775807 → -9223372036854775808 ≤ n ∧ n ≤ 9223372036854775807 → ∀ v, Below (Mo.exW w).heap.size (Mo.exW w) v → Calls Tryz.prog 26 #[.int .i64 m, .int .i64 n] v fun e w' => e = .returned (rV (ofF5 m n).1) ∧ Below v.heap.size v w') := Lib.hid (fun m n hm hn v h => Mo.of_any m n v (HP.out v h).1 hm hn)
  have CR : Hid (∀ (m n k : Int), n ≠ 0 → m.natAbs < 10 ^ 20 → n.natAbs < 10 ^ 20 → Mo.roundF (ofF5 m n).1 = (k, 0) → ∀ v, Below (Mo.exW w).heap.size (Mo.exW w) v → Calls Tryz.prog 21 #[rV (ofF5 m n).1] v fun e w' => e = .returned (.tuple #[.int .i64 k, .int .i64 0]) ∧ Below v.heap.size v w') := Lib.hid (fun m n k hn h1 h2 hk v h => by
    have := Mo.round_any (ofF5 m n).1 v (HP.out v h) (by rw [Mo.of_q m n hn]; exact Mo.rf_size (Mo.fit_q m n hn h1 h2))
    rw [hk] at this
    exact this)
  have S1 : Hid (∀ v : World, Calls Tryz.prog 23 #[.int .i64 10, .slice (some ⟨v.heap.size, 0, none⟩) 3 3] (v.alloc (.cells #[.int .i64 1, .int .i64 1, .int .i64 1] 3)) fun e w' => ∃ g, e = .returned (.tuple #[.slice (some ⟨g, 0, none⟩) 3 3, .int .i64 0]) ∧ Mo.Zs w' w'.heap.size (some ⟨g, 0, none⟩) [4, 3, 3] ∧ Below v.heap.size v w') := Lib.hid (fun v => Mo.split_ex 10 [1, 1, 1] [4, 3, 3] (by decide) (by decide +kernel) (by decide) (by decide +kernel) v)
  have S2 : Hid (∀ v : World, Calls Tryz.prog 23 #[.int .i64 7, .slice (some ⟨v.heap.size, 0, none⟩) 3 3] (v.alloc (.cells #[.int .i64 0, .int .i64 2, .int .i64 1] 3)) fun e w' => ∃ g, e = .returned (.tuple #[.slice (some ⟨g, 0, none⟩) 3 3, .int .i64 0]) ∧ Mo.Zs w' w'.heap.size (some ⟨g, 0, none⟩) [0, 5, 2] ∧ Below v.heap.size v w') := Lib.hid (fun v => Mo.split_ex 7 [0, 2, 1] [0, 5, 2] (by decide) (by decide +kernel) (by decide) (by decide +kernel) v)
  have CH : Hid (∀ (c tc : ByteArray) (u day m n : Int) (q : Rat), Mo.conv Mo.ex Mo.eur c u tc day = (rf q, 0) → (ofF5 m n).1 = rf q → c.size ≤ maxLen → tc.size ≤ maxLen → -9223372036854775808 ≤ m ∧ m ≤ 9223372036854775807 → -9223372036854775808 ≤ n ∧ n ≤ 9223372036854775807 → ∀ v, Below (Mo.exW w).heap.size (Mo.exW w) v → Calls Tryz.prog 33 #[.string c, .int .i64 u, .string tc, .int .i64 day, .int .i64 m, .int .i64 n, .pointer (some ⟨w.heap.size + 1, 0, none⟩)] v fun e w' => e = .returned (.bool true) ∧ Below v.heap.size v w') :=
    Lib.hid (fun c tc u day m n q h1 h2 h3 h4 h5 h6 v h => Mo.hd1_any (w.heap.size + 1) (some ⟨w.heap.size, 0, none⟩) 3 c tc u day m n v (HP.out v h).1 (HK.out v h) (HR.out v h) q h1 h2 h3 h4 h5 h6)
  have A1 := Lib.hid (CO.out 5 2 (by decide) (by decide))
  have A2 := Lib.hid (CO.out 7 2 (by decide) (by decide))
  have A3 := Lib.hid (CO.out (-5) 2 (by decide) (by decide))
  have R1 := Lib.hid (CR.out 5 2 2 (by decide) (by decide) (by decide) Mo.r1)
  have R2 := Lib.hid (CR.out 7 2 4 (by decide) (by decide) (by decide) Mo.r2)
  have R3 := Lib.hid (CR.out (-5) 2 (-2) (by decide) (by decide) (by decide) Mo.r3)
  have D1 := Lib.hid (CH.out ⟨#[85, 83, 68]⟩ ⟨#[69, 85, 82]⟩ 100 9 90 1 90 Mo.c1 (by rw [Mo.of_q _ _ (by decide)]; first | rfl | (congr 1 <;> decide +kernel)) (by unfold maxLen; decide) (by unfold maxLen; decide) (by decide) (by decide))
  have D2 := Lib.hid (CH.out ⟨#[85, 83, 68]⟩ ⟨#[69, 85, 82]⟩ 100 10 80 1 80 Mo.c2 (by rw [Mo.of_q _ _ (by decide)]; first | rfl | (congr 1 <;> decide +kernel)) (by unfold maxLen; decide) (by unfold maxLen; decide) (by decide) (by decide))
  have D3 := Lib.hid (CH.out ⟨#[69, 85, 82]⟩ ⟨#[85, 83, 68]⟩ 10 10 25 2 (25 / 2) Mo.c3 (by rw [Mo.of_q _ _ (by decide)]; first | rfl | (congr 1 <;> decide +kernel)) (by unfold maxLen; decide) (by unfold maxLen; decide) (by decide) (by decide))
  have D4 := Lib.hid (CH.out ⟨#[67, 72, 70]⟩ ⟨#[85, 83, 68]⟩ 9 0 10 1 10 Mo.c4 (by rw [Mo.of_q _ _ (by decide)]; first | rfl | (congr 1 <;> decide +kernel)) (by unfold maxLen; decide) (by unfold maxLen; decide) (by decide) (by decide))
  have I1 : Hid (∀ (g : Nat) (v : World), Mo.Zs v v.heap.size (some ⟨g, 0, none⟩) [4, 3, 3] → Calls Tryz.prog 25 #[.slice (some ⟨g, 0, none⟩) 3 3, .slice (some ⟨v.heap.size, 0, none⟩) 3 3] (v.alloc (.cells #[.int .i64 4, .int .i64 3, .int .i64 3] 3)) fun e w' => e = .returned (.bool true) ∧ Below v.heap.size v w') := Lib.hid (fun g v h => by
    refine (Mo.ints_any (some ⟨g, 0, none⟩) (some ⟨v.heap.size, 0, none⟩) 3 3 [4, 3, 3] [4, 3, 3] _ (h.bt (Mo.al v _)) (Mo.new_zs v 3 [4, 3, 3]) (by unfold maxLen; decide) (by unfold maxLen; decide)).mono ?_
    rintro e w' ⟨rfl, q, rfl⟩
    exact ⟨by simp, Mo.dn (Mo.al v _) q⟩)
  have I2 : Hid (∀ (g : Nat) (v : World), Mo.Zs v v.heap.size (some ⟨g, 0, none⟩) [0, 5, 2] → Calls Tryz.prog 25 #[.slice (some ⟨g, 0, none⟩) 3 3, .slice (some ⟨v.heap.size, 0, none⟩) 3 3] (v.alloc (.cells #[.int .i64 0, .int .i64 5, .int .i64 2] 3)) fun e w' => e = .returned (.bool true) ∧ Below v.heap.size v w') := Lib.hid (fun g v h => by
    refine (Mo.ints_any (some ⟨g, 0, none⟩) (some ⟨v.heap.size, 0, none⟩) 3 3 [0, 5, 2] [0, 5, 2] _ (h.bt (Mo.al v _)) (Mo.new_zs v 3 [0, 5, 2]) (by unfold maxLen; decide) (by unfold maxLen; decide)).mono ?_
    rintro e w' ⟨rfl, q, rfl⟩
    exact ⟨by simp, Mo.dn (Mo.al v _) q⟩)
  generalize (ofF5 5 2).1 = n1 at *
  generalize (ofF5 7 2).1 = n2 at *
  generalize (ofF5 (-5) 2).1 = n3 at *
  obtain ⟨n1s, n1x, n1y⟩ := n1
  obtain ⟨n2s, n2x, n2y⟩ := n2
  obtain ⟨n3s, n3x, n3y⟩ := n3
  unfold rV at A1 A2 A3 R1 R2 R3
  simp only at A1 A2 A3 R1 R2 R3
  have hB := Mo.exW_below w
  have hWE : Hid (Mo.exW w = (w.alloc (.cells Mo.exCells 27)).alloc (.cells #[.slice (some ⟨w.heap.size, 0, none⟩) 3 3] 22)) := Lib.hid rfl
  have hb := Below.refl (Mo.exW w).heap.size (Mo.exW w)
  generalize Mo.exW w = W at *
  clear hP HP HR CO CR CH
  go_enter Tryz.func10, Tryz.ntmps10
  go_wp2_with fail
  refine C0.out.mono ?_
  rintro e w1 ⟨rfl, rfl⟩
  go_wp2_with fail
  rw [← hWE.out]
  refine (CF.out _ hb).mono ?_
  rintro e v1 ⟨rfl, g⟩
  have hb' := Mo.Nb hb g
  clear hb 
  have hb := hb'
  clear g hb' 
  have hb' := Mo.Nb hb (al v1 (.cells #[.string ⟨#[]⟩, .int .i64 0, .int .i64 0, .int .i64 0] 27))
  clear hb
  have hb := hb'
  clear hb'
  go_wp2_with fail
  refine (A1.out _ hb).mono ?_
  rintro e v2 ⟨rfl, g⟩
  have hb' := Mo.Nb hb g
  clear hb 
  have hb := hb'
  clear g hb' 
  go_wp2_with fail
  refine (R1.out _ hb).mono ?_
  rintro e v3 ⟨rfl, g⟩
  have hb' := Mo.Nb hb g
  clear hb 
  have hb := hb'
  clear g hb' 
  go_wp2_with fail
  refine (A2.out _ hb).mono ?_
  rintro e v4 ⟨rfl, g⟩
  have hb' := Mo.Nb hb g
  clear hb 
  have hb := hb'
  clear g hb' 
  go_wp2_with fail
  refine (R2.out _ hb).mono ?_
  rintro e v5 ⟨rfl, g⟩
  have hb' := Mo.Nb hb g
  clear hb 
  have hb := hb'
  clear g hb' 
  go_wp2_with fail
  refine (A3.out _ hb).mono ?_
  rintro e v6 ⟨rfl, g⟩
  have hb' := Mo.Nb hb g
  clear hb 
  have hb := hb'
  clear g hb' 
  go_wp2_with fail
  refine (R3.out _ hb).mono ?_
  rintro e v7 ⟨rfl, g⟩
  have hb' := Mo.Nb hb g
  clear hb 
  have hb := hb'
  clear g hb' 
  go_wp2_with fail
  refine (S1.out _).mono ?_
  rintro e v8 ⟨g1, rfl, z1, g⟩
  have hb' := Mo.Nb hb g
  clear hb 
  have hb := hb'
  clear g hb' 
  go_wp2_with fail
  refine (S2.out _).mono ?_
  rintro e v9 ⟨g2, rfl, z2, g⟩
  have hb' := Mo.Nb hb g
  have z1' := z1.bt g
  clear hb z1
  have hb := hb'
  have z1 := z1'
  clear g hb' z1'
  go_wp2_with fail
  refine (D1.out _ hb).mono ?_
  rintro e v10 ⟨rfl, g⟩
  have hb' := Mo.Nb hb g
  have z1' := z1.bt g
  have z2' := z2.bt g
  clear hb z1 z2
  have hb := hb'
  have z1 := z1'
  have z2 := z2'
  clear g hb' z1' z2'
  go_wp2_with fail
  refine (D2.out _ hb).mono ?_
  rintro e v11 ⟨rfl, g⟩
  have hb' := Mo.Nb hb g
  have z1' := z1.bt g
  have z2' := z2.bt g
  clear hb z1 z2
  have hb := hb'
  have z1 := z1'
  have z2 := z2'
  clear g hb' z1' z2'
  go_wp2_with fail
  refine (D3.out _ hb).mono ?_
  rintro e v12 ⟨rfl, g⟩
  have hb' := Mo.Nb hb g
  have z1' := z1.bt g
  have z2' := z2.bt g
  clear hb z1 z2
  have hb := hb'
  have z1 := z1'
  have z2 := z2'
  clear g hb' z1' z2'
  go_wp2_with fail
  refine (D4.out _ hb).mono ?_
  rintro e v13 ⟨rfl, g⟩
  have hb' := Mo.Nb hb g
  have z1' := z1.bt g
  have z2' := z2.bt g
  clear hb z1 z2
  have hb := hb'
  have z1 := z1'
  have z2 := z2'
  clear g hb' z1' z2'
  go_wp2_with fail
  refine (I1.out g1 _ z1).mono ?_
  rintro e v14 ⟨rfl, g⟩
  have hb' := Mo.Nb hb g
  have z1' := z1.bt g
  have z2' := z2.bt g
  clear hb z1 z2
  have hb := hb'
  have z1 := z1'
  have z2 := z2'
  clear g hb' z1' z2'
  go_wp2_with fail
  refine (I2.out g2 _ z2).mono ?_
  rintro e v15 ⟨rfl, g⟩
  have hb' := Mo.Nb hb g
  have z1' := z1.bt g
  have z2' := z2.bt g
  clear hb z1 z2
  have hb := hb'
  have z1 := z1'
  have z2 := z2'
  clear g hb' z1' z2'
  go_wp2_with fail
  go_ret
  exact ⟨rfl, Mo.Nb hB hb⟩
end Go.Proofs.YtkbncdcphohmiaaGreatDoor
