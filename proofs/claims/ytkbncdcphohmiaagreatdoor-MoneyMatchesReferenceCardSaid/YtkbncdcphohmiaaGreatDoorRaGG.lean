import Derived.Test.YtkbncdcphohmiaaGreatDoorRaAF
/- Package ratio: operation.of. -/
set_option linter.unusedSimpArgs false
set_option linter.unusedVariables false
namespace Go.Proofs.YtkbncdcphohmiaaGreatDoor
open Go.RowKit
open Ra (Fit)
set_option maxRecDepth 100000

def oV (ft fj : Nat) : Value := .agg #[.func (.func ft) #[] #[], .func (.func fj) #[] #[]]
abbrev OF : Nat := 61
def oo (ft fj : Nat) : Obj := .cells #[.func (.func ft) #[] #[], .func (.func fj) #[] #[]] 82

/- The world behind the four blocks of of. -/
theorem start4 (w : World) (o : Obj) (r1 r2 r3 : R3) (w4 : World) (h : w4 = (((w.alloc o).alloc (ob r1)).alloc (ob r2)).alloc (ob r3)) :
    Below w.heap.size w w4 ∧ At w4 (w.heap.size + 1) r1 ∧ At w4 (w.heap.size + 1 + 1) r2 ∧ At w4 (w.heap.size + 1 + 1 + 1) r3 ∧ ((w.alloc o).heap[w.heap.size]? = w4.heap[w.heap.size]?) := by
  obtain ⟨w1, e1⟩ : ∃ v, v = w.alloc o := ⟨_, rfl⟩
  obtain ⟨w2, e2⟩ : ∃ v, v = w1.alloc (ob r1) := ⟨_, rfl⟩
  obtain ⟨w3, e3⟩ : ∃ v, v = w2.alloc (ob r2) := ⟨_, rfl⟩
  rw [← e1, ← e2, ← e3] at h
  have s1 : w1.heap.size = w.heap.size + 1 := by rw [e1]; exact size_al _ _
  have s2 : w2.heap.size = w.heap.size + 1 + 1 := by rw [e2, size_al, s1]
  have s3 : w3.heap.size = w.heap.size + 1 + 1 + 1 := by rw [e3, size_al, s2]
  have b1 : Below w.heap.size w w1 := by rw [e1]; exact al _ _
  have b2 : Below w1.heap.size w1 w2 := by rw [e2]; exact al _ _
  have b3 : Below w2.heap.size w2 w3 := by rw [e3]; exact al _ _
  have b4 : Below w3.heap.size w3 w4 := by rw [h]; exact al _ _
  have a2 : At w2 (w.heap.size + 1) r1 := by rw [e2, ← s1]; exact At.ob _ _
  have a3 : At w3 (w.heap.size + 1 + 1) r2 := by rw [e3, ← s2]; exact At.ob _ _
  have a4 : At w4 (w.heap.size + 1 + 1 + 1) r3 := by rw [h, ← s3]; exact At.ob _ _
  refine ⟨Nb (Nb (Nb b1 b2) b3) b4, (a2.bt b3).bt b4, a3.bt b4, a4, ?_⟩
  rw [← e1]
  exact ((Nb (Nb b2 b3) b4).block _ (by omega)).symm
def AtO (w : World) (b ft fj : Nat) : Prop := w.heap[b]? = some (.cells #[.func (.func ft) #[] #[], .func (.func fj) #[] #[]] 82 (0, 0))
theorem AtO.bt {w w' : World} {b ft fj : Nat} (h : AtO w b ft fj) (hb : Below w.heap.size w w') : AtO w' b ft fj := (hb.block b (Array.getElem?_eq_some_iff.1 h).1).trans h
theorem AtO.cells {w : World} {b ft fj : Nat} (h : AtO w b ft fj) : w.cell? ⟨b, 0, none⟩ = some (.func (.func ft) #[] #[]) ∧ w.cell? ⟨b, 1, none⟩ = some (.func (.func fj) #[] #[]) := by
  unfold AtO at h
  exact ⟨by rw [Lib.cell_of_heap h]; rfl, by rw [Lib.cell_of_heap h]; rfl⟩
theorem AtO.keeps {w w' : World} {b k ft fj : Nat} (h : AtO w k ft fj) (hk : Keeps b w w') (hn : k ≠ b) : AtO w' k ft fj := (hk k (Array.getElem?_eq_some_iff.1 h).1 hn).trans h
theorem AtO.far {w : World} {k b ft fj : Nat} (h : AtO w k ft fj) (hn : k ≠ b) (q : R3) : AtO (((w.setCell ⟨b, 0, none⟩ (.bool q.1)).setCell ⟨b, 1, none⟩ (.string q.2.1)).setCell ⟨b, 2, none⟩ (.string q.2.2)) k ft fj := by
  unfold AtO at h ⊢
  rw [Below.heap_setCell _ _ _ _ hn, Below.heap_setCell _ _ _ _ hn, Below.heap_setCell _ _ _ _ hn]
  exact h
theorem start4o (w : World) (ft fj : Nat) (r1 r2 r3 : R3) (w4 : World) (h : w4 = (((w.alloc (oo ft fj)).alloc (ob r1)).alloc (ob r2)).alloc (ob r3)) :
    Below w.heap.size w w4 ∧ At w4 (w.heap.size + 1) r1 ∧ At w4 (w.heap.size + 1 + 1) r2 ∧ At w4 (w.heap.size + 1 + 1 + 1) r3 ∧ AtO w4 w.heap.size ft fj := by
  obtain ⟨h1, h2, h3, h4, h5⟩ := start4 w _ r1 r2 r3 w4 h
  exact ⟨h1, h2, h3, h4, h5.symm.trans (heap_alloc_new _ _)⟩

set_option maxHeartbeats 1000000 in
set_option maxHeartbeats 1000000 in
theorem of_bad1 (ft fj : Nat) (s t : Bool) (x z y u : ByteArray) (w : World)
    (VA : Hid (∀ v, Below w.heap.size w v → Calls Tryz.prog 29 #[rV (s, x, z)] v fun e w' => e = .returned (.bool false) ∧ Below v.heap.size v w')) :
    Calls Tryz.prog 61 #[oV ft fj, rV (s, x, z), rV (t, y, u)] w fun e w' => e = .returned (.tuple #[rV zeroR, .int .i64 1]) ∧ Below w.heap.size w w' := by
  obtain ⟨hb0, A0, B0, R0, O0⟩ := start4o w ft fj (s, x, z) (t, y, u) (false, nil', nil') _ rfl
  unfold oo ob nil' at hb0 A0 B0 R0 O0
  unfold rV at *
  unfold oV
  simp only at *
  obtain ⟨a0, a1, a2, _, _, _⟩ := A0.cells
  obtain ⟨b0, b1, b2, f0, f1, f2⟩ := B0.cells
  obtain ⟨o0, o1⟩ := O0.cells
  obtain ⟨r0, r1, r2, g0, g1, g2⟩ := R0.cells
  go_enter Tryz.func61, Tryz.ntmps61
  go_wp2_with fail
  refine (VA.out _ hb0).mono ?_
  rintro e w1 ⟨rfl, h1⟩
  have hb1 := Nb hb0 h1
  have A1 := A0.bt h1
  have B1 := B0.bt h1
  have R1 := R0.bt h1
  have O1 := O0.bt h1
  clear hb0 A0 B0 R0 O0 h1 a0 a1 a2 b0 b1 b2 f0 f1 f2 o0 o1 r0 r1 r2 g0 g1 g2
  obtain ⟨a0, a1, a2, _, _, _⟩ := A1.cells
  obtain ⟨b0, b1, b2, f0, f1, f2⟩ := B1.cells
  obtain ⟨o0, o1⟩ := O1.cells
  obtain ⟨r0, r1, r2, g0, g1, g2⟩ := R1.cells
  go_wp2_with fail
  exact bodyPost_ret (out2 Tryz.results61 _ _ _ _ _ rfl rfl (R1.set _ _ _)) rfl ⟨rfl, Bset2 hb1 (by omega) _ _ _⟩

set_option maxHeartbeats 1000000 in
theorem of_bad2 (ft fj : Nat) (s t : Bool) (x z y u : ByteArray) (w : World)
    (VA : Hid (∀ v, Below w.heap.size w v → Calls Tryz.prog 29 #[rV (s, x, z)] v fun e w' => e = .returned (.bool true) ∧ Below v.heap.size v w'))
    (VB : Hid (∀ v, Below w.heap.size w v → Calls Tryz.prog 29 #[rV (t, y, u)] v fun e w' => e = .returned (.bool false) ∧ Below v.heap.size v w')) :
    Calls Tryz.prog 61 #[oV ft fj, rV (s, x, z), rV (t, y, u)] w fun e w' => e = .returned (.tuple #[rV zeroR, .int .i64 1]) ∧ Below w.heap.size w w' := by
  obtain ⟨hb0, A0, B0, R0, O0⟩ := start4o w ft fj (s, x, z) (t, y, u) (false, nil', nil') _ rfl
  unfold oo ob nil' at hb0 A0 B0 R0 O0
  unfold rV at *
  unfold oV
  simp only at *
  obtain ⟨a0, a1, a2, _, _, _⟩ := A0.cells
  obtain ⟨b0, b1, b2, f0, f1, f2⟩ := B0.cells
  obtain ⟨o0, o1⟩ := O0.cells
  obtain ⟨r0, r1, r2, g0, g1, g2⟩ := R0.cells
  go_enter Tryz.func61, Tryz.ntmps61
  go_wp2_with fail
  refine (VA.out _ hb0).mono ?_
  rintro e w1 ⟨rfl, h1⟩
  have hb1 := Nb hb0 h1
  have A1 := A0.bt h1
  have B1 := B0.bt h1
  have R1 := R0.bt h1
  have O1 := O0.bt h1
  clear hb0 A0 B0 R0 O0 h1 a0 a1 a2 b0 b1 b2 f0 f1 f2 o0 o1 r0 r1 r2 g0 g1 g2
  obtain ⟨a0, a1, a2, _, _, _⟩ := A1.cells
  obtain ⟨b0, b1, b2, f0, f1, f2⟩ := B1.cells
  obtain ⟨o0, o1⟩ := O1.cells
  obtain ⟨r0, r1, r2, g0, g1, g2⟩ := R1.cells
  go_wp2_with fail
  refine (VB.out _ hb1).mono ?_
  rintro e w2 ⟨rfl, h2⟩
  have hb2 := Nb hb1 h2
  have A2 := A1.bt h2
  have B2 := B1.bt h2
  have R2 := R1.bt h2
  have O2 := O1.bt h2
  clear hb1 A1 B1 R1 O1 h2 a0 a1 a2 b0 b1 b2 f0 f1 f2 o0 o1 r0 r1 r2 g0 g1 g2
  obtain ⟨a0, a1, a2, _, _, _⟩ := A2.cells
  obtain ⟨b0, b1, b2, f0, f1, f2⟩ := B2.cells
  obtain ⟨o0, o1⟩ := O2.cells
  obtain ⟨r0, r1, r2, g0, g1, g2⟩ := R2.cells
  go_wp2_with fail
  exact bodyPost_ret (out2 Tryz.results61 _ _ _ _ _ rfl rfl (R2.set _ _ _)) rfl ⟨rfl, Bset2 hb2 (by omega) _ _ _⟩
end Go.Proofs.YtkbncdcphohmiaaGreatDoor

/- Package ratio: operation.of with same and sum. -/
set_option linter.unusedSimpArgs false
set_option linter.unusedVariables false
namespace Go.Proofs.YtkbncdcphohmiaaGreatDoor
open Go.RowKit
open Ra (Fit)
set_option maxRecDepth 100000

set_option maxHeartbeats 1000000 in
theorem of_long1_add (s t : Bool) (x z y u : ByteArray) (t2 : Bool) (y2 u2 : ByteArray) (w : World)
    (VA : Hid (∀ v, Below w.heap.size w v → Calls Tryz.prog 29 #[rV (s, x, z)] v fun e w' => e = .returned (.bool true) ∧ Below v.heap.size v w'))
    (VB : Hid (∀ v, Below w.heap.size w v → Calls Tryz.prog 29 #[rV (t, y, u)] v fun e w' => e = .returned (.bool true) ∧ Below v.heap.size v w'))
    (TN : Hid (∀ v, Below w.heap.size w v → Calls Tryz.prog 59 #[rV (t, y, u)] v fun e w' => e = .returned (rV (t2, y2, u2)) ∧ Below v.heap.size v w'))
    (hu : u2.toList ≠ [48])
    (LA : Hid (∀ v, Below w.heap.size w v → Calls Tryz.prog 95 #[rV (s, x, z)] v fun e w' => e = .returned (.bool true) ∧ Below v.heap.size v w')) :
    Calls Tryz.prog 61 #[oV 59 62, rV (s, x, z), rV (t, y, u)] w fun e w' => e = .returned (.tuple #[rV zeroR, .int .i64 2]) ∧ Below w.heap.size w w' := by
  obtain ⟨hb0, A0, B0, R0, O0⟩ := start4o w 59 62 (s, x, z) (t, y, u) (false, nil', nil') _ rfl
  unfold oo ob nil' at hb0 A0 B0 R0 O0
  unfold rV at *
  unfold oV
  simp only at *
  obtain ⟨a0, a1, a2, _, _, _⟩ := A0.cells
  obtain ⟨b0, b1, b2, f0, f1, f2⟩ := B0.cells
  obtain ⟨o0, o1⟩ := O0.cells
  obtain ⟨r0, r1, r2, g0, g1, g2⟩ := R0.cells
  have hu2 : (u2.toList == [48]) = false := by simpa using hu
  go_enter Tryz.func61, Tryz.ntmps61
  go_wp2_with fail
  refine (VA.out _ hb0).mono ?_
  rintro e w1 ⟨rfl, h1⟩
  have hb1 := Nb hb0 h1
  have A1 := A0.bt h1
  have B1 := B0.bt h1
  have R1 := R0.bt h1
  have O1 := O0.bt h1
  clear hb0 A0 B0 R0 O0 h1 a0 a1 a2 b0 b1 b2 f0 f1 f2 o0 o1 r0 r1 r2 g0 g1 g2
  obtain ⟨a0, a1, a2, _, _, _⟩ := A1.cells
  obtain ⟨b0, b1, b2, f0, f1, f2⟩ := B1.cells
  obtain ⟨o0, o1⟩ := O1.cells
  obtain ⟨r0, r1, r2, g0, g1, g2⟩ := R1.cells
  go_wp2_with fail
  refine (VB.out _ hb1).mono ?_
  rintro e w2 ⟨rfl, h2⟩
  have hb2 := Nb hb1 h2
  have A2 := A1.bt h2
  have B2 := B1.bt h2
  have R2 := R1.bt h2
  have O2 := O1.bt h2
  clear hb1 A1 B1 R1 O1 h2 a0 a1 a2 b0 b1 b2 f0 f1 f2 o0 o1 r0 r1 r2 g0 g1 g2
  obtain ⟨a0, a1, a2, _, _, _⟩ := A2.cells
  obtain ⟨b0, b1, b2, f0, f1, f2⟩ := B2.cells
  obtain ⟨o0, o1⟩ := O2.cells
  obtain ⟨r0, r1, r2, g0, g1, g2⟩ := R2.cells
  go_wp2_with fail
  refine (TN.out _ hb2).mono ?_
  rintro e w3 ⟨rfl, h3⟩
  have hb3 := Nb hb2 h3
  have A3 := A2.bt h3
  have B3 := B2.bt h3
  have R3 := R2.bt h3
  have O3 := O2.bt h3
  clear hb2 A2 B2 R2 O2 h3 a0 a1 a2 b0 b1 b2 f0 f1 f2 o0 o1 r0 r1 r2 g0 g1 g2
  obtain ⟨a0, a1, a2, _, _, _⟩ := A3.cells
  obtain ⟨b0, b1, b2, f0, f1, f2⟩ := B3.cells
  obtain ⟨o0, o1⟩ := O3.cells
  obtain ⟨r0, r1, r2, g0, g1, g2⟩ := R3.cells
  have hb4 := Bset2 hb3 (b := w.heap.size + 1 + 1) (by omega) (.bool t2) (.string y2) (.string u2)
  have A4 := A3.far (b := w.heap.size + 1 + 1) (by omega) (t2, y2, u2)
  have B4 := B3.set t2 y2 u2
  have R4 := R3.far (b := w.heap.size + 1 + 1) (by omega) (t2, y2, u2)
  have O4 := O3.far (b := w.heap.size + 1 + 1) (by omega) (t2, y2, u2)
  obtain ⟨a0, a1, a2, _, _, _⟩ := A4.cells
  obtain ⟨b0, b1, b2, f0, f1, f2⟩ := B4.cells
  obtain ⟨o0, o1⟩ := O4.cells
  obtain ⟨r0, r1, r2, g0, g1, g2⟩ := R4.cells
  go_wp2_with fail
  refine (LA.out _ hb4).mono ?_
  rintro e w5 ⟨rfl, h5⟩
  have hb5 := Nb hb4 h5
  have A5 := A4.bt h5
  have B5 := B4.bt h5
  have R5 := R4.bt h5
  have O5 := O4.bt h5
  clear hb4 A4 B4 R4 O4 h5 a0 a1 a2 b0 b1 b2 f0 f1 f2 o0 o1 r0 r1 r2 g0 g1 g2
  obtain ⟨a0, a1, a2, _, _, _⟩ := A5.cells
  obtain ⟨b0, b1, b2, f0, f1, f2⟩ := B5.cells
  obtain ⟨o0, o1⟩ := O5.cells
  obtain ⟨r0, r1, r2, g0, g1, g2⟩ := R5.cells
  go_wp2_with fail
  exact bodyPost_ret (out2 Tryz.results61 _ _ _ _ _ rfl rfl (R5.set _ _ _)) rfl ⟨rfl, Bset2 hb5 (by omega) _ _ _⟩

set_option maxHeartbeats 1000000 in
theorem of_long2_add (s t : Bool) (x z y u : ByteArray) (t2 : Bool) (y2 u2 : ByteArray) (w : World)
    (VA : Hid (∀ v, Below w.heap.size w v → Calls Tryz.prog 29 #[rV (s, x, z)] v fun e w' => e = .returned (.bool true) ∧ Below v.heap.size v w'))
    (VB : Hid (∀ v, Below w.heap.size w v → Calls Tryz.prog 29 #[rV (t, y, u)] v fun e w' => e = .returned (.bool true) ∧ Below v.heap.size v w'))
    (TN : Hid (∀ v, Below w.heap.size w v → Calls Tryz.prog 59 #[rV (t, y, u)] v fun e w' => e = .returned (rV (t2, y2, u2)) ∧ Below v.heap.size v w'))
    (hu : u2.toList ≠ [48])
    (LA : Hid (∀ v, Below w.heap.size w v → Calls Tryz.prog 95 #[rV (s, x, z)] v fun e w' => e = .returned (.bool false) ∧ Below v.heap.size v w'))
    (LB : Hid (∀ v, Below w.heap.size w v → Calls Tryz.prog 95 #[rV (t2, y2, u2)] v fun e w' => e = .returned (.bool true) ∧ Below v.heap.size v w')) :
    Calls Tryz.prog 61 #[oV 59 62, rV (s, x, z), rV (t, y, u)] w fun e w' => e = .returned (.tuple #[rV zeroR, .int .i64 2]) ∧ Below w.heap.size w w' := by
  obtain ⟨hb0, A0, B0, R0, O0⟩ := start4o w 59 62 (s, x, z) (t, y, u) (false, nil', nil') _ rfl
  unfold oo ob nil' at hb0 A0 B0 R0 O0
  unfold rV at *
  unfold oV
  simp only at *
  obtain ⟨a0, a1, a2, _, _, _⟩ := A0.cells
  obtain ⟨b0, b1, b2, f0, f1, f2⟩ := B0.cells
  obtain ⟨o0, o1⟩ := O0.cells
  obtain ⟨r0, r1, r2, g0, g1, g2⟩ := R0.cells
  have hu2 : (u2.toList == [48]) = false := by simpa using hu
  go_enter Tryz.func61, Tryz.ntmps61
  go_wp2_with fail
  refine (VA.out _ hb0).mono ?_
  rintro e w1 ⟨rfl, h1⟩
  have hb1 := Nb hb0 h1
  have A1 := A0.bt h1
  have B1 := B0.bt h1
  have R1 := R0.bt h1
  have O1 := O0.bt h1
  clear hb0 A0 B0 R0 O0 h1 a0 a1 a2 b0 b1 b2 f0 f1 f2 o0 o1 r0 r1 r2 g0 g1 g2
  obtain ⟨a0, a1, a2, _, _, _⟩ := A1.cells
  obtain ⟨b0, b1, b2, f0, f1, f2⟩ := B1.cells
  obtain ⟨o0, o1⟩ := O1.cells
  obtain ⟨r0, r1, r2, g0, g1, g2⟩ := R1.cells
  go_wp2_with fail
  refine (VB.out _ hb1).mono ?_
  rintro e w2 ⟨rfl, h2⟩
  have hb2 := Nb hb1 h2
  have A2 := A1.bt h2
  have B2 := B1.bt h2
  have R2 := R1.bt h2
  have O2 := O1.bt h2
  clear hb1 A1 B1 R1 O1 h2 a0 a1 a2 b0 b1 b2 f0 f1 f2 o0 o1 r0 r1 r2 g0 g1 g2
  obtain ⟨a0, a1, a2, _, _, _⟩ := A2.cells
  obtain ⟨b0, b1, b2, f0, f1, f2⟩ := B2.cells
  obtain ⟨o0, o1⟩ := O2.cells
  obtain ⟨r0, r1, r2, g0, g1, g2⟩ := R2.cells
  go_wp2_with fail
  refine (TN.out _ hb2).mono ?_
  rintro e w3 ⟨rfl, h3⟩
  have hb3 := Nb hb2 h3
  have A3 := A2.bt h3
  have B3 := B2.bt h3
  have R3 := R2.bt h3
  have O3 := O2.bt h3
  clear hb2 A2 B2 R2 O2 h3 a0 a1 a2 b0 b1 b2 f0 f1 f2 o0 o1 r0 r1 r2 g0 g1 g2
  obtain ⟨a0, a1, a2, _, _, _⟩ := A3.cells
  obtain ⟨b0, b1, b2, f0, f1, f2⟩ := B3.cells
  obtain ⟨o0, o1⟩ := O3.cells
  obtain ⟨r0, r1, r2, g0, g1, g2⟩ := R3.cells
  have hb4 := Bset2 hb3 (b := w.heap.size + 1 + 1) (by omega) (.bool t2) (.string y2) (.string u2)
  have A4 := A3.far (b := w.heap.size + 1 + 1) (by omega) (t2, y2, u2)
  have B4 := B3.set t2 y2 u2
  have R4 := R3.far (b := w.heap.size + 1 + 1) (by omega) (t2, y2, u2)
  have O4 := O3.far (b := w.heap.size + 1 + 1) (by omega) (t2, y2, u2)
  obtain ⟨a0, a1, a2, _, _, _⟩ := A4.cells
  obtain ⟨b0, b1, b2, f0, f1, f2⟩ := B4.cells
  obtain ⟨o0, o1⟩ := O4.cells
  obtain ⟨r0, r1, r2, g0, g1, g2⟩ := R4.cells
  go_wp2_with fail
  refine (LA.out _ hb4).mono ?_
  rintro e w5 ⟨rfl, h5⟩
  have hb5 := Nb hb4 h5
  have A5 := A4.bt h5
  have B5 := B4.bt h5
  have R5 := R4.bt h5
  have O5 := O4.bt h5
  clear hb4 A4 B4 R4 O4 h5 a0 a1 a2 b0 b1 b2 f0 f1 f2 o0 o1 r0 r1 r2 g0 g1 g2
  obtain ⟨a0, a1, a2, _, _, _⟩ := A5.cells
  obtain ⟨b0, b1, b2, f0, f1, f2⟩ := B5.cells
  obtain ⟨o0, o1⟩ := O5.cells
  obtain ⟨r0, r1, r2, g0, g1, g2⟩ := R5.cells
  go_wp2_with fail
  refine (LB.out _ hb5).mono ?_
  rintro e w6 ⟨rfl, h6⟩
  have hb6 := Nb hb5 h6
  have A6 := A5.bt h6
  have B6 := B5.bt h6
  have R6 := R5.bt h6
  have O6 := O5.bt h6
  clear hb5 A5 B5 R5 O5 h6 a0 a1 a2 b0 b1 b2 f0 f1 f2 o0 o1 r0 r1 r2 g0 g1 g2
  obtain ⟨a0, a1, a2, _, _, _⟩ := A6.cells
  obtain ⟨b0, b1, b2, f0, f1, f2⟩ := B6.cells
  obtain ⟨o0, o1⟩ := O6.cells
  obtain ⟨r0, r1, r2, g0, g1, g2⟩ := R6.cells
  go_wp2_with fail
  exact bodyPost_ret (out2 Tryz.results61 _ _ _ _ _ rfl rfl (R6.set _ _ _)) rfl ⟨rfl, Bset2 hb6 (by omega) _ _ _⟩

set_option maxHeartbeats 1000000 in
theorem of_ok_add (s t : Bool) (x z y u : ByteArray) (t2 : Bool) (y2 u2 : ByteArray) (s3 : Bool) (x3 y3 : ByteArray) (w : World)
    (VA : Hid (∀ v, Below w.heap.size w v → Calls Tryz.prog 29 #[rV (s, x, z)] v fun e w' => e = .returned (.bool true) ∧ Below v.heap.size v w'))
    (VB : Hid (∀ v, Below w.heap.size w v → Calls Tryz.prog 29 #[rV (t, y, u)] v fun e w' => e = .returned (.bool true) ∧ Below v.heap.size v w'))
    (TN : Hid (∀ v, Below w.heap.size w v → Calls Tryz.prog 59 #[rV (t, y, u)] v fun e w' => e = .returned (rV (t2, y2, u2)) ∧ Below v.heap.size v w'))
    (hu : u2.toList ≠ [48])
    (LA : Hid (∀ v, Below w.heap.size w v → Calls Tryz.prog 95 #[rV (s, x, z)] v fun e w' => e = .returned (.bool false) ∧ Below v.heap.size v w'))
    (LB : Hid (∀ v, Below w.heap.size w v → Calls Tryz.prog 95 #[rV (t2, y2, u2)] v fun e w' => e = .returned (.bool false) ∧ Below v.heap.size v w'))
    (JN : Hid (∀ v, Below w.heap.size w v → Calls Tryz.prog 62 #[rV (s, x, z), rV (t2, y2, u2)] v fun e w' => e = .returned (.tuple #[rV (s3, x3, y3), .int .i64 0]) ∧ Below v.heap.size v w')) :
    Calls Tryz.prog 61 #[oV 59 62, rV (s, x, z), rV (t, y, u)] w fun e w' => e = .returned (.tuple #[rV (s3, x3, y3), .int .i64 0]) ∧ Below w.heap.size w w' := by
  obtain ⟨hb0, A0, B0, R0, O0⟩ := start4o w 59 62 (s, x, z) (t, y, u) (false, nil', nil') _ rfl
  unfold oo ob nil' at hb0 A0 B0 R0 O0
  unfold rV at *
  unfold oV
  simp only at *
  obtain ⟨a0, a1, a2, _, _, _⟩ := A0.cells
  obtain ⟨b0, b1, b2, f0, f1, f2⟩ := B0.cells
  obtain ⟨o0, o1⟩ := O0.cells
  obtain ⟨r0, r1, r2, g0, g1, g2⟩ := R0.cells
  have hu2 : (u2.toList == [48]) = false := by simpa using hu
  go_enter Tryz.func61, Tryz.ntmps61
  go_wp2_with fail
  refine (VA.out _ hb0).mono ?_
  rintro e w1 ⟨rfl, h1⟩
  have hb1 := Nb hb0 h1
  have A1 := A0.bt h1
  have B1 := B0.bt h1
  have R1 := R0.bt h1
  have O1 := O0.bt h1
  clear hb0 A0 B0 R0 O0 h1 a0 a1 a2 b0 b1 b2 f0 f1 f2 o0 o1 r0 r1 r2 g0 g1 g2
  obtain ⟨a0, a1, a2, _, _, _⟩ := A1.cells
  obtain ⟨b0, b1, b2, f0, f1, f2⟩ := B1.cells
  obtain ⟨o0, o1⟩ := O1.cells
  obtain ⟨r0, r1, r2, g0, g1, g2⟩ := R1.cells
  go_wp2_with fail
  refine (VB.out _ hb1).mono ?_
  rintro e w2 ⟨rfl, h2⟩
  have hb2 := Nb hb1 h2
  have A2 := A1.bt h2
  have B2 := B1.bt h2
  have R2 := R1.bt h2
  have O2 := O1.bt h2
  clear hb1 A1 B1 R1 O1 h2 a0 a1 a2 b0 b1 b2 f0 f1 f2 o0 o1 r0 r1 r2 g0 g1 g2
  obtain ⟨a0, a1, a2, _, _, _⟩ := A2.cells
  obtain ⟨b0, b1, b2, f0, f1, f2⟩ := B2.cells
  obtain ⟨o0, o1⟩ := O2.cells
  obtain ⟨r0, r1, r2, g0, g1, g2⟩ := R2.cells
  go_wp2_with fail
  refine (TN.out _ hb2).mono ?_
  rintro e w3 ⟨rfl, h3⟩
  have hb3 := Nb hb2 h3
  have A3 := A2.bt h3
  have B3 := B2.bt h3
  have R3 := R2.bt h3
  have O3 := O2.bt h3
  clear hb2 A2 B2 R2 O2 h3 a0 a1 a2 b0 b1 b2 f0 f1 f2 o0 o1 r0 r1 r2 g0 g1 g2
  obtain ⟨a0, a1, a2, _, _, _⟩ := A3.cells
  obtain ⟨b0, b1, b2, f0, f1, f2⟩ := B3.cells
  obtain ⟨o0, o1⟩ := O3.cells
  obtain ⟨r0, r1, r2, g0, g1, g2⟩ := R3.cells
  have hb4 := Bset2 hb3 (b := w.heap.size + 1 + 1) (by omega) (.bool t2) (.string y2) (.string u2)
  have A4 := A3.far (b := w.heap.size + 1 + 1) (by omega) (t2, y2, u2)
  have B4 := B3.set t2 y2 u2
  have R4 := R3.far (b := w.heap.size + 1 + 1) (by omega) (t2, y2, u2)
  have O4 := O3.far (b := w.heap.size + 1 + 1) (by omega) (t2, y2, u2)
  obtain ⟨a0, a1, a2, _, _, _⟩ := A4.cells
  obtain ⟨b0, b1, b2, f0, f1, f2⟩ := B4.cells
  obtain ⟨o0, o1⟩ := O4.cells
  obtain ⟨r0, r1, r2, g0, g1, g2⟩ := R4.cells
  go_wp2_with fail
  refine (LA.out _ hb4).mono ?_
  rintro e w5 ⟨rfl, h5⟩
  have hb5 := Nb hb4 h5
  have A5 := A4.bt h5
  have B5 := B4.bt h5
  have R5 := R4.bt h5
  have O5 := O4.bt h5
  clear hb4 A4 B4 R4 O4 h5 a0 a1 a2 b0 b1 b2 f0 f1 f2 o0 o1 r0 r1 r2 g0 g1 g2
  obtain ⟨a0, a1, a2, _, _, _⟩ := A5.cells
  obtain ⟨b0, b1, b2, f0, f1, f2⟩ := B5.cells
  obtain ⟨o0, o1⟩ := O5.cells
  obtain ⟨r0, r1, r2, g0, g1, g2⟩ := R5.cells
  go_wp2_with fail
  refine (LB.out _ hb5).mono ?_
  rintro e w6 ⟨rfl, h6⟩
  have hb6 := Nb hb5 h6
  have A6 := A5.bt h6
  have B6 := B5.bt h6
  have R6 := R5.bt h6
  have O6 := O5.bt h6
  clear hb5 A5 B5 R5 O5 h6 a0 a1 a2 b0 b1 b2 f0 f1 f2 o0 o1 r0 r1 r2 g0 g1 g2
  obtain ⟨a0, a1, a2, _, _, _⟩ := A6.cells
  obtain ⟨b0, b1, b2, f0, f1, f2⟩ := B6.cells
  obtain ⟨o0, o1⟩ := O6.cells
  obtain ⟨r0, r1, r2, g0, g1, g2⟩ := R6.cells
  go_wp2_with fail
  refine (JN.out _ hb6).mono ?_
  rintro e w7 ⟨rfl, h7⟩
  have hb7 := Nb hb6 h7
  have A7 := A6.bt h7
  have B7 := B6.bt h7
  have R7 := R6.bt h7
  have O7 := O6.bt h7
  clear hb6 A6 B6 R6 O6 h7 a0 a1 a2 b0 b1 b2 f0 f1 f2 o0 o1 r0 r1 r2 g0 g1 g2
  obtain ⟨a0, a1, a2, _, _, _⟩ := A7.cells
  obtain ⟨b0, b1, b2, f0, f1, f2⟩ := B7.cells
  obtain ⟨o0, o1⟩ := O7.cells
  obtain ⟨r0, r1, r2, g0, g1, g2⟩ := R7.cells
  go_wp2_with fail
  exact bodyPost_ret (out2 Tryz.results61 _ _ _ _ _ rfl rfl (R7.set _ _ _)) rfl ⟨rfl, Bset2 hb7 (by omega) _ _ _⟩
end Go.Proofs.YtkbncdcphohmiaaGreatDoor

/- Package ratio: operation.of with opposite and sum. -/
set_option linter.unusedSimpArgs false
set_option linter.unusedVariables false
namespace Go.Proofs.YtkbncdcphohmiaaGreatDoor
open Go.RowKit
open Ra (Fit)
set_option maxRecDepth 100000

set_option maxHeartbeats 1000000 in
theorem of_long1_sub (s t : Bool) (x z y u : ByteArray) (t2 : Bool) (y2 u2 : ByteArray) (w : World)
    (VA : Hid (∀ v, Below w.heap.size w v → Calls Tryz.prog 29 #[rV (s, x, z)] v fun e w' => e = .returned (.bool true) ∧ Below v.heap.size v w'))
    (VB : Hid (∀ v, Below w.heap.size w v → Calls Tryz.prog 29 #[rV (t, y, u)] v fun e w' => e = .returned (.bool true) ∧ Below v.heap.size v w'))
    (TN : Hid (∀ v, Below w.heap.size w v → Calls Tryz.prog 64 #[rV (t, y, u)] v fun e w' => e = .returned (rV (t2, y2, u2)) ∧ Below v.heap.size v w'))
    (hu : u2.toList ≠ [48])
    (LA : Hid (∀ v, Below w.heap.size w v → Calls Tryz.prog 95 #[rV (s, x, z)] v fun e w' => e = .returned (.bool true) ∧ Below v.heap.size v w')) :
    Calls Tryz.prog 61 #[oV 64 62, rV (s, x, z), rV (t, y, u)] w fun e w' => e = .returned (.tuple #[rV zeroR, .int .i64 2]) ∧ Below w.heap.size w w' := by
  obtain ⟨hb0, A0, B0, R0, O0⟩ := start4o w 64 62 (s, x, z) (t, y, u) (false, nil', nil') _ rfl
  unfold oo ob nil' at hb0 A0 B0 R0 O0
  unfold rV at *
  unfold oV
  simp only at *
  obtain ⟨a0, a1, a2, _, _, _⟩ := A0.cells
  obtain ⟨b0, b1, b2, f0, f1, f2⟩ := B0.cells
  obtain ⟨o0, o1⟩ := O0.cells
  obtain ⟨r0, r1, r2, g0, g1, g2⟩ := R0.cells
  have hu2 : (u2.toList == [48]) = false := by simpa using hu
  go_enter Tryz.func61, Tryz.ntmps61
  go_wp2_with fail
  refine (VA.out _ hb0).mono ?_
  rintro e w1 ⟨rfl, h1⟩
  have hb1 := Nb hb0 h1
  have A1 := A0.bt h1
  have B1 := B0.bt h1
  have R1 := R0.bt h1
  have O1 := O0.bt h1
  clear hb0 A0 B0 R0 O0 h1 a0 a1 a2 b0 b1 b2 f0 f1 f2 o0 o1 r0 r1 r2 g0 g1 g2
  obtain ⟨a0, a1, a2, _, _, _⟩ := A1.cells
  obtain ⟨b0, b1, b2, f0, f1, f2⟩ := B1.cells
  obtain ⟨o0, o1⟩ := O1.cells
  obtain ⟨r0, r1, r2, g0, g1, g2⟩ := R1.cells
  go_wp2_with fail
  refine (VB.out _ hb1).mono ?_
  rintro e w2 ⟨rfl, h2⟩
  have hb2 := Nb hb1 h2
  have A2 := A1.bt h2
  have B2 := B1.bt h2
  have R2 := R1.bt h2
  have O2 := O1.bt h2
  clear hb1 A1 B1 R1 O1 h2 a0 a1 a2 b0 b1 b2 f0 f1 f2 o0 o1 r0 r1 r2 g0 g1 g2
  obtain ⟨a0, a1, a2, _, _, _⟩ := A2.cells
  obtain ⟨b0, b1, b2, f0, f1, f2⟩ := B2.cells
  obtain ⟨o0, o1⟩ := O2.cells
  obtain ⟨r0, r1, r2, g0, g1, g2⟩ := R2.cells
  go_wp2_with fail
  refine (TN.out _ hb2).mono ?_
  rintro e w3 ⟨rfl, h3⟩
  have hb3 := Nb hb2 h3
  have A3 := A2.bt h3
  have B3 := B2.bt h3
  have R3 := R2.bt h3
  have O3 := O2.bt h3
  clear hb2 A2 B2 R2 O2 h3 a0 a1 a2 b0 b1 b2 f0 f1 f2 o0 o1 r0 r1 r2 g0 g1 g2
  obtain ⟨a0, a1, a2, _, _, _⟩ := A3.cells
  obtain ⟨b0, b1, b2, f0, f1, f2⟩ := B3.cells
  obtain ⟨o0, o1⟩ := O3.cells
  obtain ⟨r0, r1, r2, g0, g1, g2⟩ := R3.cells
  have hb4 := Bset2 hb3 (b := w.heap.size + 1 + 1) (by omega) (.bool t2) (.string y2) (.string u2)
  have A4 := A3.far (b := w.heap.size + 1 + 1) (by omega) (t2, y2, u2)
  have B4 := B3.set t2 y2 u2
  have R4 := R3.far (b := w.heap.size + 1 + 1) (by omega) (t2, y2, u2)
  have O4 := O3.far (b := w.heap.size + 1 + 1) (by omega) (t2, y2, u2)
  obtain ⟨a0, a1, a2, _, _, _⟩ := A4.cells
  obtain ⟨b0, b1, b2, f0, f1, f2⟩ := B4.cells
  obtain ⟨o0, o1⟩ := O4.cells
  obtain ⟨r0, r1, r2, g0, g1, g2⟩ := R4.cells
  go_wp2_with fail
  refine (LA.out _ hb4).mono ?_
  rintro e w5 ⟨rfl, h5⟩
  have hb5 := Nb hb4 h5
  have A5 := A4.bt h5
  have B5 := B4.bt h5
  have R5 := R4.bt h5
  have O5 := O4.bt h5
  clear hb4 A4 B4 R4 O4 h5 a0 a1 a2 b0 b1 b2 f0 f1 f2 o0 o1 r0 r1 r2 g0 g1 g2
  obtain ⟨a0, a1, a2, _, _, _⟩ := A5.cells
  obtain ⟨b0, b1, b2, f0, f1, f2⟩ := B5.cells
  obtain ⟨o0, o1⟩ := O5.cells
  obtain ⟨r0, r1, r2, g0, g1, g2⟩ := R5.cells
  go_wp2_with fail
  exact bodyPost_ret (out2 Tryz.results61 _ _ _ _ _ rfl rfl (R5.set _ _ _)) rfl ⟨rfl, Bset2 hb5 (by omega) _ _ _⟩

set_option maxHeartbeats 1000000 in
theorem of_long2_sub (s t : Bool) (x z y u : ByteArray) (t2 : Bool) (y2 u2 : ByteArray) (w : World)
    (VA : Hid (∀ v, Below w.heap.size w v → Calls Tryz.prog 29 #[rV (s, x, z)] v fun e w' => e = .returned (.bool true) ∧ Below v.heap.size v w'))
    (VB : Hid (∀ v, Below w.heap.size w v → Calls Tryz.prog 29 #[rV (t, y, u)] v fun e w' => e = .returned (.bool true) ∧ Below v.heap.size v w'))
    (TN : Hid (∀ v, Below w.heap.size w v → Calls Tryz.prog 64 #[rV (t, y, u)] v fun e w' => e = .returned (rV (t2, y2, u2)) ∧ Below v.heap.size v w'))
    (hu : u2.toList ≠ [48])
    (LA : Hid (∀ v, Below w.heap.size w v → Calls Tryz.prog 95 #[rV (s, x, z)] v fun e w' => e = .returned (.bool false) ∧ Below v.heap.size v w'))
    (LB : Hid (∀ v, Below w.heap.size w v → Calls Tryz.prog 95 #[rV (t2, y2, u2)] v fun e w' => e = .returned (.bool true) ∧ Below v.heap.size v w')) :
    Calls Tryz.prog 61 #[oV 64 62, rV (s, x, z), rV (t, y, u)] w fun e w' => e = .returned (.tuple #[rV zeroR, .int .i64 2]) ∧ Below w.heap.size w w' := by
  obtain ⟨hb0, A0, B0, R0, O0⟩ := start4o w 64 62 (s, x, z) (t, y, u) (false, nil', nil') _ rfl
  unfold oo ob nil' at hb0 A0 B0 R0 O0
  unfold rV at *
  unfold oV
  simp only at *
  obtain ⟨a0, a1, a2, _, _, _⟩ := A0.cells
  obtain ⟨b0, b1, b2, f0, f1, f2⟩ := B0.cells
  obtain ⟨o0, o1⟩ := O0.cells
  obtain ⟨r0, r1, r2, g0, g1, g2⟩ := R0.cells
  have hu2 : (u2.toList == [48]) = false := by simpa using hu
  go_enter Tryz.func61, Tryz.ntmps61
  go_wp2_with fail
  refine (VA.out _ hb0).mono ?_
  rintro e w1 ⟨rfl, h1⟩
  have hb1 := Nb hb0 h1
  have A1 := A0.bt h1
  have B1 := B0.bt h1
  have R1 := R0.bt h1
  have O1 := O0.bt h1
  clear hb0 A0 B0 R0 O0 h1 a0 a1 a2 b0 b1 b2 f0 f1 f2 o0 o1 r0 r1 r2 g0 g1 g2
  obtain ⟨a0, a1, a2, _, _, _⟩ := A1.cells
  obtain ⟨b0, b1, b2, f0, f1, f2⟩ := B1.cells
  obtain ⟨o0, o1⟩ := O1.cells
  obtain ⟨r0, r1, r2, g0, g1, g2⟩ := R1.cells
  go_wp2_with fail
  refine (VB.out _ hb1).mono ?_
  rintro e w2 ⟨rfl, h2⟩
  have hb2 := Nb hb1 h2
  have A2 := A1.bt h2
  have B2 := B1.bt h2
  have R2 := R1.bt h2
  have O2 := O1.bt h2
  clear hb1 A1 B1 R1 O1 h2 a0 a1 a2 b0 b1 b2 f0 f1 f2 o0 o1 r0 r1 r2 g0 g1 g2
  obtain ⟨a0, a1, a2, _, _, _⟩ := A2.cells
  obtain ⟨b0, b1, b2, f0, f1, f2⟩ := B2.cells
  obtain ⟨o0, o1⟩ := O2.cells
  obtain ⟨r0, r1, r2, g0, g1, g2⟩ := R2.cells
  go_wp2_with fail
  refine (TN.out _ hb2).mono ?_
  rintro e w3 ⟨rfl, h3⟩
  have hb3 := Nb hb2 h3
  have A3 := A2.bt h3
  have B3 := B2.bt h3
  have R3 := R2.bt h3
  have O3 := O2.bt h3
  clear hb2 A2 B2 R2 O2 h3 a0 a1 a2 b0 b1 b2 f0 f1 f2 o0 o1 r0 r1 r2 g0 g1 g2
  obtain ⟨a0, a1, a2, _, _, _⟩ := A3.cells
  obtain ⟨b0, b1, b2, f0, f1, f2⟩ := B3.cells
  obtain ⟨o0, o1⟩ := O3.cells
  obtain ⟨r0, r1, r2, g0, g1, g2⟩ := R3.cells
  have hb4 := Bset2 hb3 (b := w.heap.size + 1 + 1) (by omega) (.bool t2) (.string y2) (.string u2)
  have A4 := A3.far (b := w.heap.size + 1 + 1) (by omega) (t2, y2, u2)
  have B4 := B3.set t2 y2 u2
  have R4 := R3.far (b := w.heap.size + 1 + 1) (by omega) (t2, y2, u2)
  have O4 := O3.far (b := w.heap.size + 1 + 1) (by omega) (t2, y2, u2)
  obtain ⟨a0, a1, a2, _, _, _⟩ := A4.cells
  obtain ⟨b0, b1, b2, f0, f1, f2⟩ := B4.cells
  obtain ⟨o0, o1⟩ := O4.cells
  obtain ⟨r0, r1, r2, g0, g1, g2⟩ := R4.cells
  go_wp2_with fail
  refine (LA.out _ hb4).mono ?_
  rintro e w5 ⟨rfl, h5⟩
  have hb5 := Nb hb4 h5
  have A5 := A4.bt h5
  have B5 := B4.bt h5
  have R5 := R4.bt h5
  have O5 := O4.bt h5
  clear hb4 A4 B4 R4 O4 h5 a0 a1 a2 b0 b1 b2 f0 f1 f2 o0 o1 r0 r1 r2 g0 g1 g2
  obtain ⟨a0, a1, a2, _, _, _⟩ := A5.cells
  obtain ⟨b0, b1, b2, f0, f1, f2⟩ := B5.cells
  obtain ⟨o0, o1⟩ := O5.cells
  obtain ⟨r0, r1, r2, g0, g1, g2⟩ := R5.cells
  go_wp2_with fail
  refine (LB.out _ hb5).mono ?_
  rintro e w6 ⟨rfl, h6⟩
  have hb6 := Nb hb5 h6
  have A6 := A5.bt h6
  have B6 := B5.bt h6
  have R6 := R5.bt h6
  have O6 := O5.bt h6
  clear hb5 A5 B5 R5 O5 h6 a0 a1 a2 b0 b1 b2 f0 f1 f2 o0 o1 r0 r1 r2 g0 g1 g2
  obtain ⟨a0, a1, a2, _, _, _⟩ := A6.cells
  obtain ⟨b0, b1, b2, f0, f1, f2⟩ := B6.cells
  obtain ⟨o0, o1⟩ := O6.cells
  obtain ⟨r0, r1, r2, g0, g1, g2⟩ := R6.cells
  go_wp2_with fail
  exact bodyPost_ret (out2 Tryz.results61 _ _ _ _ _ rfl rfl (R6.set _ _ _)) rfl ⟨rfl, Bset2 hb6 (by omega) _ _ _⟩

set_option maxHeartbeats 1000000 in
theorem of_ok_sub (s t : Bool) (x z y u : ByteArray) (t2 : Bool) (y2 u2 : ByteArray) (s3 : Bool) (x3 y3 : ByteArray) (w : World)
    (VA : Hid (∀ v, Below w.heap.size w v → Calls Tryz.prog 29 #[rV (s, x, z)] v fun e w' => e = .returned (.bool true) ∧ Below v.heap.size v w'))
    (VB : Hid (∀ v, Below w.heap.size w v → Calls Tryz.prog 29 #[rV (t, y, u)] v fun e w' => e = .returned (.bool true) ∧ Below v.heap.size v w'))
    (TN : Hid (∀ v, Below w.heap.size w v → Calls Tryz.prog 64 #[rV (t, y, u)] v fun e w' => e = .returned (rV (t2, y2, u2)) ∧ Below v.heap.size v w'))
    (hu : u2.toList ≠ [48])
    (LA : Hid (∀ v, Below w.heap.size w v → Calls Tryz.prog 95 #[rV (s, x, z)] v fun e w' => e = .returned (.bool false) ∧ Below v.heap.size v w'))
    (LB : Hid (∀ v, Below w.heap.size w v → Calls Tryz.prog 95 #[rV (t2, y2, u2)] v fun e w' => e = .returned (.bool false) ∧ Below v.heap.size v w'))
    (JN : Hid (∀ v, Below w.heap.size w v → Calls Tryz.prog 62 #[rV (s, x, z), rV (t2, y2, u2)] v fun e w' => e = .returned (.tuple #[rV (s3, x3, y3), .int .i64 0]) ∧ Below v.heap.size v w')) :
    Calls Tryz.prog 61 #[oV 64 62, rV (s, x, z), rV (t, y, u)] w fun e w' => e = .returned (.tuple #[rV (s3, x3, y3), .int .i64 0]) ∧ Below w.heap.size w w' := by
  obtain ⟨hb0, A0, B0, R0, O0⟩ := start4o w 64 62 (s, x, z) (t, y, u) (false, nil', nil') _ rfl
  unfold oo ob nil' at hb0 A0 B0 R0 O0
  unfold rV at *
  unfold oV
  simp only at *
  obtain ⟨a0, a1, a2, _, _, _⟩ := A0.cells
  obtain ⟨b0, b1, b2, f0, f1, f2⟩ := B0.cells
  obtain ⟨o0, o1⟩ := O0.cells
  obtain ⟨r0, r1, r2, g0, g1, g2⟩ := R0.cells
  have hu2 : (u2.toList == [48]) = false := by simpa using hu
  go_enter Tryz.func61, Tryz.ntmps61
  go_wp2_with fail
  refine (VA.out _ hb0).mono ?_
  rintro e w1 ⟨rfl, h1⟩
  have hb1 := Nb hb0 h1
  have A1 := A0.bt h1
  have B1 := B0.bt h1
  have R1 := R0.bt h1
  have O1 := O0.bt h1
  clear hb0 A0 B0 R0 O0 h1 a0 a1 a2 b0 b1 b2 f0 f1 f2 o0 o1 r0 r1 r2 g0 g1 g2
  obtain ⟨a0, a1, a2, _, _, _⟩ := A1.cells
  obtain ⟨b0, b1, b2, f0, f1, f2⟩ := B1.cells
  obtain ⟨o0, o1⟩ := O1.cells
  obtain ⟨r0, r1, r2, g0, g1, g2⟩ := R1.cells
  go_wp2_with fail
  refine (VB.out _ hb1).mono ?_
  rintro e w2 ⟨rfl, h2⟩
  have hb2 := Nb hb1 h2
  have A2 := A1.bt h2
  have B2 := B1.bt h2
  have R2 := R1.bt h2
  have O2 := O1.bt h2
  clear hb1 A1 B1 R1 O1 h2 a0 a1 a2 b0 b1 b2 f0 f1 f2 o0 o1 r0 r1 r2 g0 g1 g2
  obtain ⟨a0, a1, a2, _, _, _⟩ := A2.cells
  obtain ⟨b0, b1, b2, f0, f1, f2⟩ := B2.cells
  obtain ⟨o0, o1⟩ := O2.cells
  obtain ⟨r0, r1, r2, g0, g1, g2⟩ := R2.cells
  go_wp2_with fail
  refine (TN.out _ hb2).mono ?_
  rintro e w3 ⟨rfl, h3⟩
  have hb3 := Nb hb2 h3
  have A3 := A2.bt h3
  have B3 := B2.bt h3
  have R3 := R2.bt h3
  have O3 := O2.bt h3
  clear hb2 A2 B2 R2 O2 h3 a0 a1 a2 b0 b1 b2 f0 f1 f2 o0 o1 r0 r1 r2 g0 g1 g2
  obtain ⟨a0, a1, a2, _, _, _⟩ := A3.cells
  obtain ⟨b0, b1, b2, f0, f1, f2⟩ := B3.cells
  obtain ⟨o0, o1⟩ := O3.cells
  obtain ⟨r0, r1, r2, g0, g1, g2⟩ := R3.cells
  have hb4 := Bset2 hb3 (b := w.heap.size + 1 + 1) (by omega) (.bool t2) (.string y2) (.string u2)
  have A4 := A3.far (b := w.heap.size + 1 + 1) (by omega) (t2, y2, u2)
  have B4 := B3.set t2 y2 u2
  have R4 := R3.far (b := w.heap.size + 1 + 1) (by omega) (t2, y2, u2)
  have O4 := O3.far (b := w.heap.size + 1 + 1) (by omega) (t2, y2, u2)
  obtain ⟨a0, a1, a2, _, _, _⟩ := A4.cells
  obtain ⟨b0, b1, b2, f0, f1, f2⟩ := B4.cells
  obtain ⟨o0, o1⟩ := O4.cells
  obtain ⟨r0, r1, r2, g0, g1, g2⟩ := R4.cells
  go_wp2_with fail
  refine (LA.out _ hb4).mono ?_
  rintro e w5 ⟨rfl, h5⟩
  have hb5 := Nb hb4 h5
  have A5 := A4.bt h5
  have B5 := B4.bt h5
  have R5 := R4.bt h5
  have O5 := O4.bt h5
  clear hb4 A4 B4 R4 O4 h5 a0 a1 a2 b0 b1 b2 f0 f1 f2 o0 o1 r0 r1 r2 g0 g1 g2
  obtain ⟨a0, a1, a2, _, _, _⟩ := A5.cells
  obtain ⟨b0, b1, b2, f0, f1, f2⟩ := B5.cells
  obtain ⟨o0, o1⟩ := O5.cells
  obtain ⟨r0, r1, r2, g0, g1, g2⟩ := R5.cells
  go_wp2_with fail
  refine (LB.out _ hb5).mono ?_
  rintro e w6 ⟨rfl, h6⟩
  have hb6 := Nb hb5 h6
  have A6 := A5.bt h6
  have B6 := B5.bt h6
  have R6 := R5.bt h6
  have O6 := O5.bt h6
  clear hb5 A5 B5 R5 O5 h6 a0 a1 a2 b0 b1 b2 f0 f1 f2 o0 o1 r0 r1 r2 g0 g1 g2
  obtain ⟨a0, a1, a2, _, _, _⟩ := A6.cells
  obtain ⟨b0, b1, b2, f0, f1, f2⟩ := B6.cells
  obtain ⟨o0, o1⟩ := O6.cells
  obtain ⟨r0, r1, r2, g0, g1, g2⟩ := R6.cells
  go_wp2_with fail
  refine (JN.out _ hb6).mono ?_
  rintro e w7 ⟨rfl, h7⟩
  have hb7 := Nb hb6 h7
  have A7 := A6.bt h7
  have B7 := B6.bt h7
  have R7 := R6.bt h7
  have O7 := O6.bt h7
  clear hb6 A6 B6 R6 O6 h7 a0 a1 a2 b0 b1 b2 f0 f1 f2 o0 o1 r0 r1 r2 g0 g1 g2
  obtain ⟨a0, a1, a2, _, _, _⟩ := A7.cells
  obtain ⟨b0, b1, b2, f0, f1, f2⟩ := B7.cells
  obtain ⟨o0, o1⟩ := O7.cells
  obtain ⟨r0, r1, r2, g0, g1, g2⟩ := R7.cells
  go_wp2_with fail
  exact bodyPost_ret (out2 Tryz.results61 _ _ _ _ _ rfl rfl (R7.set _ _ _)) rfl ⟨rfl, Bset2 hb7 (by omega) _ _ _⟩
end Go.Proofs.YtkbncdcphohmiaaGreatDoor

/- Package ratio: operation.of with same and product. -/
set_option linter.unusedSimpArgs false
set_option linter.unusedVariables false
namespace Go.Proofs.YtkbncdcphohmiaaGreatDoor
open Go.RowKit
open Ra (Fit)
set_option maxRecDepth 100000

set_option maxHeartbeats 1000000 in
theorem of_long1_mul (s t : Bool) (x z y u : ByteArray) (t2 : Bool) (y2 u2 : ByteArray) (w : World)
    (VA : Hid (∀ v, Below w.heap.size w v → Calls Tryz.prog 29 #[rV (s, x, z)] v fun e w' => e = .returned (.bool true) ∧ Below v.heap.size v w'))
    (VB : Hid (∀ v, Below w.heap.size w v → Calls Tryz.prog 29 #[rV (t, y, u)] v fun e w' => e = .returned (.bool true) ∧ Below v.heap.size v w'))
    (TN : Hid (∀ v, Below w.heap.size w v → Calls Tryz.prog 59 #[rV (t, y, u)] v fun e w' => e = .returned (rV (t2, y2, u2)) ∧ Below v.heap.size v w'))
    (hu : u2.toList ≠ [48])
    (LA : Hid (∀ v, Below w.heap.size w v → Calls Tryz.prog 95 #[rV (s, x, z)] v fun e w' => e = .returned (.bool true) ∧ Below v.heap.size v w')) :
    Calls Tryz.prog 61 #[oV 59 60, rV (s, x, z), rV (t, y, u)] w fun e w' => e = .returned (.tuple #[rV zeroR, .int .i64 2]) ∧ Below w.heap.size w w' := by
  obtain ⟨hb0, A0, B0, R0, O0⟩ := start4o w 59 60 (s, x, z) (t, y, u) (false, nil', nil') _ rfl
  unfold oo ob nil' at hb0 A0 B0 R0 O0
  unfold rV at *
  unfold oV
  simp only at *
  obtain ⟨a0, a1, a2, _, _, _⟩ := A0.cells
  obtain ⟨b0, b1, b2, f0, f1, f2⟩ := B0.cells
  obtain ⟨o0, o1⟩ := O0.cells
  obtain ⟨r0, r1, r2, g0, g1, g2⟩ := R0.cells
  have hu2 : (u2.toList == [48]) = false := by simpa using hu
  go_enter Tryz.func61, Tryz.ntmps61
  go_wp2_with fail
  refine (VA.out _ hb0).mono ?_
  rintro e w1 ⟨rfl, h1⟩
  have hb1 := Nb hb0 h1
  have A1 := A0.bt h1
  have B1 := B0.bt h1
  have R1 := R0.bt h1
  have O1 := O0.bt h1
  clear hb0 A0 B0 R0 O0 h1 a0 a1 a2 b0 b1 b2 f0 f1 f2 o0 o1 r0 r1 r2 g0 g1 g2
  obtain ⟨a0, a1, a2, _, _, _⟩ := A1.cells
  obtain ⟨b0, b1, b2, f0, f1, f2⟩ := B1.cells
  obtain ⟨o0, o1⟩ := O1.cells
  obtain ⟨r0, r1, r2, g0, g1, g2⟩ := R1.cells
  go_wp2_with fail
  refine (VB.out _ hb1).mono ?_
  rintro e w2 ⟨rfl, h2⟩
  have hb2 := Nb hb1 h2
  have A2 := A1.bt h2
  have B2 := B1.bt h2
  have R2 := R1.bt h2
  have O2 := O1.bt h2
  clear hb1 A1 B1 R1 O1 h2 a0 a1 a2 b0 b1 b2 f0 f1 f2 o0 o1 r0 r1 r2 g0 g1 g2
  obtain ⟨a0, a1, a2, _, _, _⟩ := A2.cells
  obtain ⟨b0, b1, b2, f0, f1, f2⟩ := B2.cells
  obtain ⟨o0, o1⟩ := O2.cells
  obtain ⟨r0, r1, r2, g0, g1, g2⟩ := R2.cells
  go_wp2_with fail
  refine (TN.out _ hb2).mono ?_
  rintro e w3 ⟨rfl, h3⟩
  have hb3 := Nb hb2 h3
  have A3 := A2.bt h3
  have B3 := B2.bt h3
  have R3 := R2.bt h3
  have O3 := O2.bt h3
  clear hb2 A2 B2 R2 O2 h3 a0 a1 a2 b0 b1 b2 f0 f1 f2 o0 o1 r0 r1 r2 g0 g1 g2
  obtain ⟨a0, a1, a2, _, _, _⟩ := A3.cells
  obtain ⟨b0, b1, b2, f0, f1, f2⟩ := B3.cells
  obtain ⟨o0, o1⟩ := O3.cells
  obtain ⟨r0, r1, r2, g0, g1, g2⟩ := R3.cells
  have hb4 := Bset2 hb3 (b := w.heap.size + 1 + 1) (by omega) (.bool t2) (.string y2) (.string u2)
  have A4 := A3.far (b := w.heap.size + 1 + 1) (by omega) (t2, y2, u2)
  have B4 := B3.set t2 y2 u2
  have R4 := R3.far (b := w.heap.size + 1 + 1) (by omega) (t2, y2, u2)
  have O4 := O3.far (b := w.heap.size + 1 + 1) (by omega) (t2, y2, u2)
  obtain ⟨a0, a1, a2, _, _, _⟩ := A4.cells
  obtain ⟨b0, b1, b2, f0, f1, f2⟩ := B4.cells
  obtain ⟨o0, o1⟩ := O4.cells
  obtain ⟨r0, r1, r2, g0, g1, g2⟩ := R4.cells
  go_wp2_with fail
  refine (LA.out _ hb4).mono ?_
  rintro e w5 ⟨rfl, h5⟩
  have hb5 := Nb hb4 h5
  have A5 := A4.bt h5
  have B5 := B4.bt h5
  have R5 := R4.bt h5
  have O5 := O4.bt h5
  clear hb4 A4 B4 R4 O4 h5 a0 a1 a2 b0 b1 b2 f0 f1 f2 o0 o1 r0 r1 r2 g0 g1 g2
  obtain ⟨a0, a1, a2, _, _, _⟩ := A5.cells
  obtain ⟨b0, b1, b2, f0, f1, f2⟩ := B5.cells
  obtain ⟨o0, o1⟩ := O5.cells
  obtain ⟨r0, r1, r2, g0, g1, g2⟩ := R5.cells
  go_wp2_with fail
  exact bodyPost_ret (out2 Tryz.results61 _ _ _ _ _ rfl rfl (R5.set _ _ _)) rfl ⟨rfl, Bset2 hb5 (by omega) _ _ _⟩

set_option maxHeartbeats 1000000 in
theorem of_long2_mul (s t : Bool) (x z y u : ByteArray) (t2 : Bool) (y2 u2 : ByteArray) (w : World)
    (VA : Hid (∀ v, Below w.heap.size w v → Calls Tryz.prog 29 #[rV (s, x, z)] v fun e w' => e = .returned (.bool true) ∧ Below v.heap.size v w'))
    (VB : Hid (∀ v, Below w.heap.size w v → Calls Tryz.prog 29 #[rV (t, y, u)] v fun e w' => e = .returned (.bool true) ∧ Below v.heap.size v w'))
    (TN : Hid (∀ v, Below w.heap.size w v → Calls Tryz.prog 59 #[rV (t, y, u)] v fun e w' => e = .returned (rV (t2, y2, u2)) ∧ Below v.heap.size v w'))
    (hu : u2.toList ≠ [48])
    (LA : Hid (∀ v, Below w.heap.size w v → Calls Tryz.prog 95 #[rV (s, x, z)] v fun e w' => e = .returned (.bool false) ∧ Below v.heap.size v w'))
    (LB : Hid (∀ v, Below w.heap.size w v → Calls Tryz.prog 95 #[rV (t2, y2, u2)] v fun e w' => e = .returned (.bool true) ∧ Below v.heap.size v w')) :
    Calls Tryz.prog 61 #[oV 59 60, rV (s, x, z), rV (t, y, u)] w fun e w' => e = .returned (.tuple #[rV zeroR, .int .i64 2]) ∧ Below w.heap.size w w' := by
  obtain ⟨hb0, A0, B0, R0, O0⟩ := start4o w 59 60 (s, x, z) (t, y, u) (false, nil', nil') _ rfl
  unfold oo ob nil' at hb0 A0 B0 R0 O0
  unfold rV at *
  unfold oV
  simp only at *
  obtain ⟨a0, a1, a2, _, _, _⟩ := A0.cells
  obtain ⟨b0, b1, b2, f0, f1, f2⟩ := B0.cells
  obtain ⟨o0, o1⟩ := O0.cells
  obtain ⟨r0, r1, r2, g0, g1, g2⟩ := R0.cells
  have hu2 : (u2.toList == [48]) = false := by simpa using hu
  go_enter Tryz.func61, Tryz.ntmps61
  go_wp2_with fail
  refine (VA.out _ hb0).mono ?_
  rintro e w1 ⟨rfl, h1⟩
  have hb1 := Nb hb0 h1
  have A1 := A0.bt h1
  have B1 := B0.bt h1
  have R1 := R0.bt h1
  have O1 := O0.bt h1
  clear hb0 A0 B0 R0 O0 h1 a0 a1 a2 b0 b1 b2 f0 f1 f2 o0 o1 r0 r1 r2 g0 g1 g2
  obtain ⟨a0, a1, a2, _, _, _⟩ := A1.cells
  obtain ⟨b0, b1, b2, f0, f1, f2⟩ := B1.cells
  obtain ⟨o0, o1⟩ := O1.cells
  obtain ⟨r0, r1, r2, g0, g1, g2⟩ := R1.cells
  go_wp2_with fail
  refine (VB.out _ hb1).mono ?_
  rintro e w2 ⟨rfl, h2⟩
  have hb2 := Nb hb1 h2
  have A2 := A1.bt h2
  have B2 := B1.bt h2
  have R2 := R1.bt h2
  have O2 := O1.bt h2
  clear hb1 A1 B1 R1 O1 h2 a0 a1 a2 b0 b1 b2 f0 f1 f2 o0 o1 r0 r1 r2 g0 g1 g2
  obtain ⟨a0, a1, a2, _, _, _⟩ := A2.cells
  obtain ⟨b0, b1, b2, f0, f1, f2⟩ := B2.cells
  obtain ⟨o0, o1⟩ := O2.cells
  obtain ⟨r0, r1, r2, g0, g1, g2⟩ := R2.cells
  go_wp2_with fail
  refine (TN.out _ hb2).mono ?_
  rintro e w3 ⟨rfl, h3⟩
  have hb3 := Nb hb2 h3
  have A3 := A2.bt h3
  have B3 := B2.bt h3
  have R3 := R2.bt h3
  have O3 := O2.bt h3
  clear hb2 A2 B2 R2 O2 h3 a0 a1 a2 b0 b1 b2 f0 f1 f2 o0 o1 r0 r1 r2 g0 g1 g2
  obtain ⟨a0, a1, a2, _, _, _⟩ := A3.cells
  obtain ⟨b0, b1, b2, f0, f1, f2⟩ := B3.cells
  obtain ⟨o0, o1⟩ := O3.cells
  obtain ⟨r0, r1, r2, g0, g1, g2⟩ := R3.cells
  have hb4 := Bset2 hb3 (b := w.heap.size + 1 + 1) (by omega) (.bool t2) (.string y2) (.string u2)
  have A4 := A3.far (b := w.heap.size + 1 + 1) (by omega) (t2, y2, u2)
  have B4 := B3.set t2 y2 u2
  have R4 := R3.far (b := w.heap.size + 1 + 1) (by omega) (t2, y2, u2)
  have O4 := O3.far (b := w.heap.size + 1 + 1) (by omega) (t2, y2, u2)
  obtain ⟨a0, a1, a2, _, _, _⟩ := A4.cells
  obtain ⟨b0, b1, b2, f0, f1, f2⟩ := B4.cells
  obtain ⟨o0, o1⟩ := O4.cells
  obtain ⟨r0, r1, r2, g0, g1, g2⟩ := R4.cells
  go_wp2_with fail
  refine (LA.out _ hb4).mono ?_
  rintro e w5 ⟨rfl, h5⟩
  have hb5 := Nb hb4 h5
  have A5 := A4.bt h5
  have B5 := B4.bt h5
  have R5 := R4.bt h5
  have O5 := O4.bt h5
  clear hb4 A4 B4 R4 O4 h5 a0 a1 a2 b0 b1 b2 f0 f1 f2 o0 o1 r0 r1 r2 g0 g1 g2
  obtain ⟨a0, a1, a2, _, _, _⟩ := A5.cells
  obtain ⟨b0, b1, b2, f0, f1, f2⟩ := B5.cells
  obtain ⟨o0, o1⟩ := O5.cells
  obtain ⟨r0, r1, r2, g0, g1, g2⟩ := R5.cells
  go_wp2_with fail
  refine (LB.out _ hb5).mono ?_
  rintro e w6 ⟨rfl, h6⟩
  have hb6 := Nb hb5 h6
  have A6 := A5.bt h6
  have B6 := B5.bt h6
  have R6 := R5.bt h6
  have O6 := O5.bt h6
  clear hb5 A5 B5 R5 O5 h6 a0 a1 a2 b0 b1 b2 f0 f1 f2 o0 o1 r0 r1 r2 g0 g1 g2
  obtain ⟨a0, a1, a2, _, _, _⟩ := A6.cells
  obtain ⟨b0, b1, b2, f0, f1, f2⟩ := B6.cells
  obtain ⟨o0, o1⟩ := O6.cells
  obtain ⟨r0, r1, r2, g0, g1, g2⟩ := R6.cells
  go_wp2_with fail
  exact bodyPost_ret (out2 Tryz.results61 _ _ _ _ _ rfl rfl (R6.set _ _ _)) rfl ⟨rfl, Bset2 hb6 (by omega) _ _ _⟩

set_option maxHeartbeats 1000000 in
theorem of_ok_mul (s t : Bool) (x z y u : ByteArray) (t2 : Bool) (y2 u2 : ByteArray) (s3 : Bool) (x3 y3 : ByteArray) (w : World)
    (VA : Hid (∀ v, Below w.heap.size w v → Calls Tryz.prog 29 #[rV (s, x, z)] v fun e w' => e = .returned (.bool true) ∧ Below v.heap.size v w'))
    (VB : Hid (∀ v, Below w.heap.size w v → Calls Tryz.prog 29 #[rV (t, y, u)] v fun e w' => e = .returned (.bool true) ∧ Below v.heap.size v w'))
    (TN : Hid (∀ v, Below w.heap.size w v → Calls Tryz.prog 59 #[rV (t, y, u)] v fun e w' => e = .returned (rV (t2, y2, u2)) ∧ Below v.heap.size v w'))
    (hu : u2.toList ≠ [48])
    (LA : Hid (∀ v, Below w.heap.size w v → Calls Tryz.prog 95 #[rV (s, x, z)] v fun e w' => e = .returned (.bool false) ∧ Below v.heap.size v w'))
    (LB : Hid (∀ v, Below w.heap.size w v → Calls Tryz.prog 95 #[rV (t2, y2, u2)] v fun e w' => e = .returned (.bool false) ∧ Below v.heap.size v w'))
    (JN : Hid (∀ v, Below w.heap.size w v → Calls Tryz.prog 60 #[rV (s, x, z), rV (t2, y2, u2)] v fun e w' => e = .returned (.tuple #[rV (s3, x3, y3), .int .i64 0]) ∧ Below v.heap.size v w')) :
    Calls Tryz.prog 61 #[oV 59 60, rV (s, x, z), rV (t, y, u)] w fun e w' => e = .returned (.tuple #[rV (s3, x3, y3), .int .i64 0]) ∧ Below w.heap.size w w' := by
  obtain ⟨hb0, A0, B0, R0, O0⟩ := start4o w 59 60 (s, x, z) (t, y, u) (false, nil', nil') _ rfl
  unfold oo ob nil' at hb0 A0 B0 R0 O0
  unfold rV at *
  unfold oV
  simp only at *
  obtain ⟨a0, a1, a2, _, _, _⟩ := A0.cells
  obtain ⟨b0, b1, b2, f0, f1, f2⟩ := B0.cells
  obtain ⟨o0, o1⟩ := O0.cells
  obtain ⟨r0, r1, r2, g0, g1, g2⟩ := R0.cells
  have hu2 : (u2.toList == [48]) = false := by simpa using hu
  go_enter Tryz.func61, Tryz.ntmps61
  go_wp2_with fail
  refine (VA.out _ hb0).mono ?_
  rintro e w1 ⟨rfl, h1⟩
  have hb1 := Nb hb0 h1
  have A1 := A0.bt h1
  have B1 := B0.bt h1
  have R1 := R0.bt h1
  have O1 := O0.bt h1
  clear hb0 A0 B0 R0 O0 h1 a0 a1 a2 b0 b1 b2 f0 f1 f2 o0 o1 r0 r1 r2 g0 g1 g2
  obtain ⟨a0, a1, a2, _, _, _⟩ := A1.cells
  obtain ⟨b0, b1, b2, f0, f1, f2⟩ := B1.cells
  obtain ⟨o0, o1⟩ := O1.cells
  obtain ⟨r0, r1, r2, g0, g1, g2⟩ := R1.cells
  go_wp2_with fail
  refine (VB.out _ hb1).mono ?_
  rintro e w2 ⟨rfl, h2⟩
  have hb2 := Nb hb1 h2
  have A2 := A1.bt h2
  have B2 := B1.bt h2
  have R2 := R1.bt h2
  have O2 := O1.bt h2
  clear hb1 A1 B1 R1 O1 h2 a0 a1 a2 b0 b1 b2 f0 f1 f2 o0 o1 r0 r1 r2 g0 g1 g2
  obtain ⟨a0, a1, a2, _, _, _⟩ := A2.cells
  obtain ⟨b0, b1, b2, f0, f1, f2⟩ := B2.cells
  obtain ⟨o0, o1⟩ := O2.cells
  obtain ⟨r0, r1, r2, g0, g1, g2⟩ := R2.cells
  go_wp2_with fail
  refine (TN.out _ hb2).mono ?_
  rintro e w3 ⟨rfl, h3⟩
  have hb3 := Nb hb2 h3
  have A3 := A2.bt h3
  have B3 := B2.bt h3
  have R3 := R2.bt h3
  have O3 := O2.bt h3
  clear hb2 A2 B2 R2 O2 h3 a0 a1 a2 b0 b1 b2 f0 f1 f2 o0 o1 r0 r1 r2 g0 g1 g2
  obtain ⟨a0, a1, a2, _, _, _⟩ := A3.cells
  obtain ⟨b0, b1, b2, f0, f1, f2⟩ := B3.cells
  obtain ⟨o0, o1⟩ := O3.cells
  obtain ⟨r0, r1, r2, g0, g1, g2⟩ := R3.cells
  have hb4 := Bset2 hb3 (b := w.heap.size + 1 + 1) (by omega) (.bool t2) (.string y2) (.string u2)
  have A4 := A3.far (b := w.heap.size + 1 + 1) (by omega) (t2, y2, u2)
  have B4 := B3.set t2 y2 u2
  have R4 := R3.far (b := w.heap.size + 1 + 1) (by omega) (t2, y2, u2)
  have O4 := O3.far (b := w.heap.size + 1 + 1) (by omega) (t2, y2, u2)
  obtain ⟨a0, a1, a2, _, _, _⟩ := A4.cells
  obtain ⟨b0, b1, b2, f0, f1, f2⟩ := B4.cells
  obtain ⟨o0, o1⟩ := O4.cells
  obtain ⟨r0, r1, r2, g0, g1, g2⟩ := R4.cells
  go_wp2_with fail
  refine (LA.out _ hb4).mono ?_
  rintro e w5 ⟨rfl, h5⟩
  have hb5 := Nb hb4 h5
  have A5 := A4.bt h5
  have B5 := B4.bt h5
  have R5 := R4.bt h5
  have O5 := O4.bt h5
  clear hb4 A4 B4 R4 O4 h5 a0 a1 a2 b0 b1 b2 f0 f1 f2 o0 o1 r0 r1 r2 g0 g1 g2
  obtain ⟨a0, a1, a2, _, _, _⟩ := A5.cells
  obtain ⟨b0, b1, b2, f0, f1, f2⟩ := B5.cells
  obtain ⟨o0, o1⟩ := O5.cells
  obtain ⟨r0, r1, r2, g0, g1, g2⟩ := R5.cells
  go_wp2_with fail
  refine (LB.out _ hb5).mono ?_
  rintro e w6 ⟨rfl, h6⟩
  have hb6 := Nb hb5 h6
  have A6 := A5.bt h6
  have B6 := B5.bt h6
  have R6 := R5.bt h6
  have O6 := O5.bt h6
  clear hb5 A5 B5 R5 O5 h6 a0 a1 a2 b0 b1 b2 f0 f1 f2 o0 o1 r0 r1 r2 g0 g1 g2
  obtain ⟨a0, a1, a2, _, _, _⟩ := A6.cells
  obtain ⟨b0, b1, b2, f0, f1, f2⟩ := B6.cells
  obtain ⟨o0, o1⟩ := O6.cells
  obtain ⟨r0, r1, r2, g0, g1, g2⟩ := R6.cells
  go_wp2_with fail
  refine (JN.out _ hb6).mono ?_
  rintro e w7 ⟨rfl, h7⟩
  have hb7 := Nb hb6 h7
  have A7 := A6.bt h7
  have B7 := B6.bt h7
  have R7 := R6.bt h7
  have O7 := O6.bt h7
  clear hb6 A6 B6 R6 O6 h7 a0 a1 a2 b0 b1 b2 f0 f1 f2 o0 o1 r0 r1 r2 g0 g1 g2
  obtain ⟨a0, a1, a2, _, _, _⟩ := A7.cells
  obtain ⟨b0, b1, b2, f0, f1, f2⟩ := B7.cells
  obtain ⟨o0, o1⟩ := O7.cells
  obtain ⟨r0, r1, r2, g0, g1, g2⟩ := R7.cells
  go_wp2_with fail
  exact bodyPost_ret (out2 Tryz.results61 _ _ _ _ _ rfl rfl (R7.set _ _ _)) rfl ⟨rfl, Bset2 hb7 (by omega) _ _ _⟩
end Go.Proofs.YtkbncdcphohmiaaGreatDoor

/- Package ratio: operation.of with reciprocal and product. -/
set_option linter.unusedSimpArgs false
set_option linter.unusedVariables false
namespace Go.Proofs.YtkbncdcphohmiaaGreatDoor
open Go.RowKit
open Ra (Fit)
set_option maxRecDepth 100000

set_option maxHeartbeats 1000000 in
theorem of_zero (s t : Bool) (x z y u : ByteArray) (t2 : Bool) (y2 : ByteArray) (w : World)
    (VA : Hid (∀ v, Below w.heap.size w v → Calls Tryz.prog 29 #[rV (s, x, z)] v fun e w' => e = .returned (.bool true) ∧ Below v.heap.size v w'))
    (VB : Hid (∀ v, Below w.heap.size w v → Calls Tryz.prog 29 #[rV (t, y, u)] v fun e w' => e = .returned (.bool true) ∧ Below v.heap.size v w'))
    (TN : Hid (∀ v, Below w.heap.size w v → Calls Tryz.prog 71 #[rV (t, y, u)] v fun e w' => e = .returned (rV (t2, y2, ⟨#[48]⟩)) ∧ Below v.heap.size v w')) :
    Calls Tryz.prog 61 #[oV 71 60, rV (s, x, z), rV (t, y, u)] w fun e w' => e = .returned (.tuple #[rV zeroR, .int .i64 15]) ∧ Below w.heap.size w w' := by
  obtain ⟨hb0, A0, B0, R0, O0⟩ := start4o w 71 60 (s, x, z) (t, y, u) (false, nil', nil') _ rfl
  unfold oo ob nil' at hb0 A0 B0 R0 O0
  unfold rV at *
  unfold oV
  simp only at *
  obtain ⟨a0, a1, a2, _, _, _⟩ := A0.cells
  obtain ⟨b0, b1, b2, f0, f1, f2⟩ := B0.cells
  obtain ⟨o0, o1⟩ := O0.cells
  obtain ⟨r0, r1, r2, g0, g1, g2⟩ := R0.cells
  go_enter Tryz.func61, Tryz.ntmps61
  go_wp2_with fail
  refine (VA.out _ hb0).mono ?_
  rintro e w1 ⟨rfl, h1⟩
  have hb1 := Nb hb0 h1
  have A1 := A0.bt h1
  have B1 := B0.bt h1
  have R1 := R0.bt h1
  have O1 := O0.bt h1
  clear hb0 A0 B0 R0 O0 h1 a0 a1 a2 b0 b1 b2 f0 f1 f2 o0 o1 r0 r1 r2 g0 g1 g2
  obtain ⟨a0, a1, a2, _, _, _⟩ := A1.cells
  obtain ⟨b0, b1, b2, f0, f1, f2⟩ := B1.cells
  obtain ⟨o0, o1⟩ := O1.cells
  obtain ⟨r0, r1, r2, g0, g1, g2⟩ := R1.cells
  go_wp2_with fail
  refine (VB.out _ hb1).mono ?_
  rintro e w2 ⟨rfl, h2⟩
  have hb2 := Nb hb1 h2
  have A2 := A1.bt h2
  have B2 := B1.bt h2
  have R2 := R1.bt h2
  have O2 := O1.bt h2
  clear hb1 A1 B1 R1 O1 h2 a0 a1 a2 b0 b1 b2 f0 f1 f2 o0 o1 r0 r1 r2 g0 g1 g2
  obtain ⟨a0, a1, a2, _, _, _⟩ := A2.cells
  obtain ⟨b0, b1, b2, f0, f1, f2⟩ := B2.cells
  obtain ⟨o0, o1⟩ := O2.cells
  obtain ⟨r0, r1, r2, g0, g1, g2⟩ := R2.cells
  go_wp2_with fail
  refine (TN.out _ hb2).mono ?_
  rintro e w3 ⟨rfl, h3⟩
  have hb3 := Nb hb2 h3
  have A3 := A2.bt h3
  have B3 := B2.bt h3
  have R3 := R2.bt h3
  have O3 := O2.bt h3
  clear hb2 A2 B2 R2 O2 h3 a0 a1 a2 b0 b1 b2 f0 f1 f2 o0 o1 r0 r1 r2 g0 g1 g2
  obtain ⟨a0, a1, a2, _, _, _⟩ := A3.cells
  obtain ⟨b0, b1, b2, f0, f1, f2⟩ := B3.cells
  obtain ⟨o0, o1⟩ := O3.cells
  obtain ⟨r0, r1, r2, g0, g1, g2⟩ := R3.cells
  have hb4 := Bset2 hb3 (b := w.heap.size + 1 + 1) (by omega) (.bool t2) (.string y2) (.string ⟨#[48]⟩)
  have A4 := A3.far (b := w.heap.size + 1 + 1) (by omega) (t2, y2, ⟨#[48]⟩)
  have B4 := B3.set t2 y2 ⟨#[48]⟩
  have R4 := R3.far (b := w.heap.size + 1 + 1) (by omega) (t2, y2, ⟨#[48]⟩)
  have O4 := O3.far (b := w.heap.size + 1 + 1) (by omega) (t2, y2, ⟨#[48]⟩)
  obtain ⟨a0, a1, a2, _, _, _⟩ := A4.cells
  obtain ⟨b0, b1, b2, f0, f1, f2⟩ := B4.cells
  obtain ⟨o0, o1⟩ := O4.cells
  obtain ⟨r0, r1, r2, g0, g1, g2⟩ := R4.cells
  go_wp2_with fail
  exact bodyPost_ret (out2 Tryz.results61 _ _ _ _ _ rfl rfl (R4.set _ _ _)) rfl ⟨rfl, Bset2 hb4 (by omega) _ _ _⟩

set_option maxHeartbeats 1000000 in
theorem of_long1_div (s t : Bool) (x z y u : ByteArray) (t2 : Bool) (y2 u2 : ByteArray) (w : World)
    (VA : Hid (∀ v, Below w.heap.size w v → Calls Tryz.prog 29 #[rV (s, x, z)] v fun e w' => e = .returned (.bool true) ∧ Below v.heap.size v w'))
    (VB : Hid (∀ v, Below w.heap.size w v → Calls Tryz.prog 29 #[rV (t, y, u)] v fun e w' => e = .returned (.bool true) ∧ Below v.heap.size v w'))
    (TN : Hid (∀ v, Below w.heap.size w v → Calls Tryz.prog 71 #[rV (t, y, u)] v fun e w' => e = .returned (rV (t2, y2, u2)) ∧ Below v.heap.size v w'))
    (hu : u2.toList ≠ [48])
    (LA : Hid (∀ v, Below w.heap.size w v → Calls Tryz.prog 95 #[rV (s, x, z)] v fun e w' => e = .returned (.bool true) ∧ Below v.heap.size v w')) :
    Calls Tryz.prog 61 #[oV 71 60, rV (s, x, z), rV (t, y, u)] w fun e w' => e = .returned (.tuple #[rV zeroR, .int .i64 2]) ∧ Below w.heap.size w w' := by
  obtain ⟨hb0, A0, B0, R0, O0⟩ := start4o w 71 60 (s, x, z) (t, y, u) (false, nil', nil') _ rfl
  unfold oo ob nil' at hb0 A0 B0 R0 O0
  unfold rV at *
  unfold oV
  simp only at *
  obtain ⟨a0, a1, a2, _, _, _⟩ := A0.cells
  obtain ⟨b0, b1, b2, f0, f1, f2⟩ := B0.cells
  obtain ⟨o0, o1⟩ := O0.cells
  obtain ⟨r0, r1, r2, g0, g1, g2⟩ := R0.cells
  have hu2 : (u2.toList == [48]) = false := by simpa using hu
  go_enter Tryz.func61, Tryz.ntmps61
  go_wp2_with fail
  refine (VA.out _ hb0).mono ?_
  rintro e w1 ⟨rfl, h1⟩
  have hb1 := Nb hb0 h1
  have A1 := A0.bt h1
  have B1 := B0.bt h1
  have R1 := R0.bt h1
  have O1 := O0.bt h1
  clear hb0 A0 B0 R0 O0 h1 a0 a1 a2 b0 b1 b2 f0 f1 f2 o0 o1 r0 r1 r2 g0 g1 g2
  obtain ⟨a0, a1, a2, _, _, _⟩ := A1.cells
  obtain ⟨b0, b1, b2, f0, f1, f2⟩ := B1.cells
  obtain ⟨o0, o1⟩ := O1.cells
  obtain ⟨r0, r1, r2, g0, g1, g2⟩ := R1.cells
  go_wp2_with fail
  refine (VB.out _ hb1).mono ?_
  rintro e w2 ⟨rfl, h2⟩
  have hb2 := Nb hb1 h2
  have A2 := A1.bt h2
  have B2 := B1.bt h2
  have R2 := R1.bt h2
  have O2 := O1.bt h2
  clear hb1 A1 B1 R1 O1 h2 a0 a1 a2 b0 b1 b2 f0 f1 f2 o0 o1 r0 r1 r2 g0 g1 g2
  obtain ⟨a0, a1, a2, _, _, _⟩ := A2.cells
  obtain ⟨b0, b1, b2, f0, f1, f2⟩ := B2.cells
  obtain ⟨o0, o1⟩ := O2.cells
  obtain ⟨r0, r1, r2, g0, g1, g2⟩ := R2.cells
  go_wp2_with fail
  refine (TN.out _ hb2).mono ?_
  rintro e w3 ⟨rfl, h3⟩
  have hb3 := Nb hb2 h3
  have A3 := A2.bt h3
  have B3 := B2.bt h3
  have R3 := R2.bt h3
  have O3 := O2.bt h3
  clear hb2 A2 B2 R2 O2 h3 a0 a1 a2 b0 b1 b2 f0 f1 f2 o0 o1 r0 r1 r2 g0 g1 g2
  obtain ⟨a0, a1, a2, _, _, _⟩ := A3.cells
  obtain ⟨b0, b1, b2, f0, f1, f2⟩ := B3.cells
  obtain ⟨o0, o1⟩ := O3.cells
  obtain ⟨r0, r1, r2, g0, g1, g2⟩ := R3.cells
  have hb4 := Bset2 hb3 (b := w.heap.size + 1 + 1) (by omega) (.bool t2) (.string y2) (.string u2)
  have A4 := A3.far (b := w.heap.size + 1 + 1) (by omega) (t2, y2, u2)
  have B4 := B3.set t2 y2 u2
  have R4 := R3.far (b := w.heap.size + 1 + 1) (by omega) (t2, y2, u2)
  have O4 := O3.far (b := w.heap.size + 1 + 1) (by omega) (t2, y2, u2)
  obtain ⟨a0, a1, a2, _, _, _⟩ := A4.cells
  obtain ⟨b0, b1, b2, f0, f1, f2⟩ := B4.cells
  obtain ⟨o0, o1⟩ := O4.cells
  obtain ⟨r0, r1, r2, g0, g1, g2⟩ := R4.cells
  go_wp2_with fail
  refine (LA.out _ hb4).mono ?_
  rintro e w5 ⟨rfl, h5⟩
  have hb5 := Nb hb4 h5
  have A5 := A4.bt h5
  have B5 := B4.bt h5
  have R5 := R4.bt h5
  have O5 := O4.bt h5
  clear hb4 A4 B4 R4 O4 h5 a0 a1 a2 b0 b1 b2 f0 f1 f2 o0 o1 r0 r1 r2 g0 g1 g2
  obtain ⟨a0, a1, a2, _, _, _⟩ := A5.cells
  obtain ⟨b0, b1, b2, f0, f1, f2⟩ := B5.cells
  obtain ⟨o0, o1⟩ := O5.cells
  obtain ⟨r0, r1, r2, g0, g1, g2⟩ := R5.cells
  go_wp2_with fail
  exact bodyPost_ret (out2 Tryz.results61 _ _ _ _ _ rfl rfl (R5.set _ _ _)) rfl ⟨rfl, Bset2 hb5 (by omega) _ _ _⟩

set_option maxHeartbeats 1000000 in
theorem of_long2_div (s t : Bool) (x z y u : ByteArray) (t2 : Bool) (y2 u2 : ByteArray) (w : World)
    (VA : Hid (∀ v, Below w.heap.size w v → Calls Tryz.prog 29 #[rV (s, x, z)] v fun e w' => e = .returned (.bool true) ∧ Below v.heap.size v w'))
    (VB : Hid (∀ v, Below w.heap.size w v → Calls Tryz.prog 29 #[rV (t, y, u)] v fun e w' => e = .returned (.bool true) ∧ Below v.heap.size v w'))
    (TN : Hid (∀ v, Below w.heap.size w v → Calls Tryz.prog 71 #[rV (t, y, u)] v fun e w' => e = .returned (rV (t2, y2, u2)) ∧ Below v.heap.size v w'))
    (hu : u2.toList ≠ [48])
    (LA : Hid (∀ v, Below w.heap.size w v → Calls Tryz.prog 95 #[rV (s, x, z)] v fun e w' => e = .returned (.bool false) ∧ Below v.heap.size v w'))
    (LB : Hid (∀ v, Below w.heap.size w v → Calls Tryz.prog 95 #[rV (t2, y2, u2)] v fun e w' => e = .returned (.bool true) ∧ Below v.heap.size v w')) :
    Calls Tryz.prog 61 #[oV 71 60, rV (s, x, z), rV (t, y, u)] w fun e w' => e = .returned (.tuple #[rV zeroR, .int .i64 2]) ∧ Below w.heap.size w w' := by
  obtain ⟨hb0, A0, B0, R0, O0⟩ := start4o w 71 60 (s, x, z) (t, y, u) (false, nil', nil') _ rfl
  unfold oo ob nil' at hb0 A0 B0 R0 O0
  unfold rV at *
  unfold oV
  simp only at *
  obtain ⟨a0, a1, a2, _, _, _⟩ := A0.cells
  obtain ⟨b0, b1, b2, f0, f1, f2⟩ := B0.cells
  obtain ⟨o0, o1⟩ := O0.cells
  obtain ⟨r0, r1, r2, g0, g1, g2⟩ := R0.cells
  have hu2 : (u2.toList == [48]) = false := by simpa using hu
  go_enter Tryz.func61, Tryz.ntmps61
  go_wp2_with fail
  refine (VA.out _ hb0).mono ?_
  rintro e w1 ⟨rfl, h1⟩
  have hb1 := Nb hb0 h1
  have A1 := A0.bt h1
  have B1 := B0.bt h1
  have R1 := R0.bt h1
  have O1 := O0.bt h1
  clear hb0 A0 B0 R0 O0 h1 a0 a1 a2 b0 b1 b2 f0 f1 f2 o0 o1 r0 r1 r2 g0 g1 g2
  obtain ⟨a0, a1, a2, _, _, _⟩ := A1.cells
  obtain ⟨b0, b1, b2, f0, f1, f2⟩ := B1.cells
  obtain ⟨o0, o1⟩ := O1.cells
  obtain ⟨r0, r1, r2, g0, g1, g2⟩ := R1.cells
  go_wp2_with fail
  refine (VB.out _ hb1).mono ?_
  rintro e w2 ⟨rfl, h2⟩
  have hb2 := Nb hb1 h2
  have A2 := A1.bt h2
  have B2 := B1.bt h2
  have R2 := R1.bt h2
  have O2 := O1.bt h2
  clear hb1 A1 B1 R1 O1 h2 a0 a1 a2 b0 b1 b2 f0 f1 f2 o0 o1 r0 r1 r2 g0 g1 g2
  obtain ⟨a0, a1, a2, _, _, _⟩ := A2.cells
  obtain ⟨b0, b1, b2, f0, f1, f2⟩ := B2.cells
  obtain ⟨o0, o1⟩ := O2.cells
  obtain ⟨r0, r1, r2, g0, g1, g2⟩ := R2.cells
  go_wp2_with fail
  refine (TN.out _ hb2).mono ?_
  rintro e w3 ⟨rfl, h3⟩
  have hb3 := Nb hb2 h3
  have A3 := A2.bt h3
  have B3 := B2.bt h3
  have R3 := R2.bt h3
  have O3 := O2.bt h3
  clear hb2 A2 B2 R2 O2 h3 a0 a1 a2 b0 b1 b2 f0 f1 f2 o0 o1 r0 r1 r2 g0 g1 g2
  obtain ⟨a0, a1, a2, _, _, _⟩ := A3.cells
  obtain ⟨b0, b1, b2, f0, f1, f2⟩ := B3.cells
  obtain ⟨o0, o1⟩ := O3.cells
  obtain ⟨r0, r1, r2, g0, g1, g2⟩ := R3.cells
  have hb4 := Bset2 hb3 (b := w.heap.size + 1 + 1) (by omega) (.bool t2) (.string y2) (.string u2)
  have A4 := A3.far (b := w.heap.size + 1 + 1) (by omega) (t2, y2, u2)
  have B4 := B3.set t2 y2 u2
  have R4 := R3.far (b := w.heap.size + 1 + 1) (by omega) (t2, y2, u2)
  have O4 := O3.far (b := w.heap.size + 1 + 1) (by omega) (t2, y2, u2)
  obtain ⟨a0, a1, a2, _, _, _⟩ := A4.cells
  obtain ⟨b0, b1, b2, f0, f1, f2⟩ := B4.cells
  obtain ⟨o0, o1⟩ := O4.cells
  obtain ⟨r0, r1, r2, g0, g1, g2⟩ := R4.cells
  go_wp2_with fail
  refine (LA.out _ hb4).mono ?_
  rintro e w5 ⟨rfl, h5⟩
  have hb5 := Nb hb4 h5
  have A5 := A4.bt h5
  have B5 := B4.bt h5
  have R5 := R4.bt h5
  have O5 := O4.bt h5
  clear hb4 A4 B4 R4 O4 h5 a0 a1 a2 b0 b1 b2 f0 f1 f2 o0 o1 r0 r1 r2 g0 g1 g2
  obtain ⟨a0, a1, a2, _, _, _⟩ := A5.cells
  obtain ⟨b0, b1, b2, f0, f1, f2⟩ := B5.cells
  obtain ⟨o0, o1⟩ := O5.cells
  obtain ⟨r0, r1, r2, g0, g1, g2⟩ := R5.cells
  go_wp2_with fail
  refine (LB.out _ hb5).mono ?_
  rintro e w6 ⟨rfl, h6⟩
  have hb6 := Nb hb5 h6
  have A6 := A5.bt h6
  have B6 := B5.bt h6
  have R6 := R5.bt h6
  have O6 := O5.bt h6
  clear hb5 A5 B5 R5 O5 h6 a0 a1 a2 b0 b1 b2 f0 f1 f2 o0 o1 r0 r1 r2 g0 g1 g2
  obtain ⟨a0, a1, a2, _, _, _⟩ := A6.cells
  obtain ⟨b0, b1, b2, f0, f1, f2⟩ := B6.cells
  obtain ⟨o0, o1⟩ := O6.cells
  obtain ⟨r0, r1, r2, g0, g1, g2⟩ := R6.cells
  go_wp2_with fail
  exact bodyPost_ret (out2 Tryz.results61 _ _ _ _ _ rfl rfl (R6.set _ _ _)) rfl ⟨rfl, Bset2 hb6 (by omega) _ _ _⟩

set_option maxHeartbeats 1000000 in
theorem of_ok_div (s t : Bool) (x z y u : ByteArray) (t2 : Bool) (y2 u2 : ByteArray) (s3 : Bool) (x3 y3 : ByteArray) (w : World)
    (VA : Hid (∀ v, Below w.heap.size w v → Calls Tryz.prog 29 #[rV (s, x, z)] v fun e w' => e = .returned (.bool true) ∧ Below v.heap.size v w'))
    (VB : Hid (∀ v, Below w.heap.size w v → Calls Tryz.prog 29 #[rV (t, y, u)] v fun e w' => e = .returned (.bool true) ∧ Below v.heap.size v w'))
    (TN : Hid (∀ v, Below w.heap.size w v → Calls Tryz.prog 71 #[rV (t, y, u)] v fun e w' => e = .returned (rV (t2, y2, u2)) ∧ Below v.heap.size v w'))
    (hu : u2.toList ≠ [48])
    (LA : Hid (∀ v, Below w.heap.size w v → Calls Tryz.prog 95 #[rV (s, x, z)] v fun e w' => e = .returned (.bool false) ∧ Below v.heap.size v w'))
    (LB : Hid (∀ v, Below w.heap.size w v → Calls Tryz.prog 95 #[rV (t2, y2, u2)] v fun e w' => e = .returned (.bool false) ∧ Below v.heap.size v w'))
    (JN : Hid (∀ v, Below w.heap.size w v → Calls Tryz.prog 60 #[rV (s, x, z), rV (t2, y2, u2)] v fun e w' => e = .returned (.tuple #[rV (s3, x3, y3), .int .i64 0]) ∧ Below v.heap.size v w')) :
    Calls Tryz.prog 61 #[oV 71 60, rV (s, x, z), rV (t, y, u)] w fun e w' => e = .returned (.tuple #[rV (s3, x3, y3), .int .i64 0]) ∧ Below w.heap.size w w' := by
  obtain ⟨hb0, A0, B0, R0, O0⟩ := start4o w 71 60 (s, x, z) (t, y, u) (false, nil', nil') _ rfl
  unfold oo ob nil' at hb0 A0 B0 R0 O0
  unfold rV at *
  unfold oV
  simp only at *
  obtain ⟨a0, a1, a2, _, _, _⟩ := A0.cells
  obtain ⟨b0, b1, b2, f0, f1, f2⟩ := B0.cells
  obtain ⟨o0, o1⟩ := O0.cells
  obtain ⟨r0, r1, r2, g0, g1, g2⟩ := R0.cells
  have hu2 : (u2.toList == [48]) = false := by simpa using hu
  go_enter Tryz.func61, Tryz.ntmps61
  go_wp2_with fail
  refine (VA.out _ hb0).mono ?_
  rintro e w1 ⟨rfl, h1⟩
  have hb1 := Nb hb0 h1
  have A1 := A0.bt h1
  have B1 := B0.bt h1
  have R1 := R0.bt h1
  have O1 := O0.bt h1
  clear hb0 A0 B0 R0 O0 h1 a0 a1 a2 b0 b1 b2 f0 f1 f2 o0 o1 r0 r1 r2 g0 g1 g2
  obtain ⟨a0, a1, a2, _, _, _⟩ := A1.cells
  obtain ⟨b0, b1, b2, f0, f1, f2⟩ := B1.cells
  obtain ⟨o0, o1⟩ := O1.cells
  obtain ⟨r0, r1, r2, g0, g1, g2⟩ := R1.cells
  go_wp2_with fail
  refine (VB.out _ hb1).mono ?_
  rintro e w2 ⟨rfl, h2⟩
  have hb2 := Nb hb1 h2
  have A2 := A1.bt h2
  have B2 := B1.bt h2
  have R2 := R1.bt h2
  have O2 := O1.bt h2
  clear hb1 A1 B1 R1 O1 h2 a0 a1 a2 b0 b1 b2 f0 f1 f2 o0 o1 r0 r1 r2 g0 g1 g2
  obtain ⟨a0, a1, a2, _, _, _⟩ := A2.cells
  obtain ⟨b0, b1, b2, f0, f1, f2⟩ := B2.cells
  obtain ⟨o0, o1⟩ := O2.cells
  obtain ⟨r0, r1, r2, g0, g1, g2⟩ := R2.cells
  go_wp2_with fail
  refine (TN.out _ hb2).mono ?_
  rintro e w3 ⟨rfl, h3⟩
  have hb3 := Nb hb2 h3
  have A3 := A2.bt h3
  have B3 := B2.bt h3
  have R3 := R2.bt h3
  have O3 := O2.bt h3
  clear hb2 A2 B2 R2 O2 h3 a0 a1 a2 b0 b1 b2 f0 f1 f2 o0 o1 r0 r1 r2 g0 g1 g2
  obtain ⟨a0, a1, a2, _, _, _⟩ := A3.cells
  obtain ⟨b0, b1, b2, f0, f1, f2⟩ := B3.cells
  obtain ⟨o0, o1⟩ := O3.cells
  obtain ⟨r0, r1, r2, g0, g1, g2⟩ := R3.cells
  have hb4 := Bset2 hb3 (b := w.heap.size + 1 + 1) (by omega) (.bool t2) (.string y2) (.string u2)
  have A4 := A3.far (b := w.heap.size + 1 + 1) (by omega) (t2, y2, u2)
  have B4 := B3.set t2 y2 u2
  have R4 := R3.far (b := w.heap.size + 1 + 1) (by omega) (t2, y2, u2)
  have O4 := O3.far (b := w.heap.size + 1 + 1) (by omega) (t2, y2, u2)
  obtain ⟨a0, a1, a2, _, _, _⟩ := A4.cells
  obtain ⟨b0, b1, b2, f0, f1, f2⟩ := B4.cells
  obtain ⟨o0, o1⟩ := O4.cells
  obtain ⟨r0, r1, r2, g0, g1, g2⟩ := R4.cells
  go_wp2_with fail
  refine (LA.out _ hb4).mono ?_
  rintro e w5 ⟨rfl, h5⟩
  have hb5 := Nb hb4 h5
  have A5 := A4.bt h5
  have B5 := B4.bt h5
  have R5 := R4.bt h5
  have O5 := O4.bt h5
  clear hb4 A4 B4 R4 O4 h5 a0 a1 a2 b0 b1 b2 f0 f1 f2 o0 o1 r0 r1 r2 g0 g1 g2
  obtain ⟨a0, a1, a2, _, _, _⟩ := A5.cells
  obtain ⟨b0, b1, b2, f0, f1, f2⟩ := B5.cells
  obtain ⟨o0, o1⟩ := O5.cells
  obtain ⟨r0, r1, r2, g0, g1, g2⟩ := R5.cells
  go_wp2_with fail
  refine (LB.out _ hb5).mono ?_
  rintro e w6 ⟨rfl, h6⟩
  have hb6 := Nb hb5 h6
  have A6 := A5.bt h6
  have B6 := B5.bt h6
  have R6 := R5.bt h6
  have O6 := O5.bt h6
  clear hb5 A5 B5 R5 O5 h6 a0 a1 a2 b0 b1 b2 f0 f1 f2 o0 o1 r0 r1 r2 g0 g1 g2
  obtain ⟨a0, a1, a2, _, _, _⟩ := A6.cells
  obtain ⟨b0, b1, b2, f0, f1, f2⟩ := B6.cells
  obtain ⟨o0, o1⟩ := O6.cells
  obtain ⟨r0, r1, r2, g0, g1, g2⟩ := R6.cells
  go_wp2_with fail
  refine (JN.out _ hb6).mono ?_
  rintro e w7 ⟨rfl, h7⟩
  have hb7 := Nb hb6 h7
  have A7 := A6.bt h7
  have B7 := B6.bt h7
  have R7 := R6.bt h7
  have O7 := O6.bt h7
  clear hb6 A6 B6 R6 O6 h7 a0 a1 a2 b0 b1 b2 f0 f1 f2 o0 o1 r0 r1 r2 g0 g1 g2
  obtain ⟨a0, a1, a2, _, _, _⟩ := A7.cells
  obtain ⟨b0, b1, b2, f0, f1, f2⟩ := B7.cells
  obtain ⟨o0, o1⟩ := O7.cells
  obtain ⟨r0, r1, r2, g0, g1, g2⟩ := R7.cells
  go_wp2_with fail
  exact bodyPost_ret (out2 Tryz.results61 _ _ _ _ _ rfl rfl (R7.set _ _ _)) rfl ⟨rfl, Bset2 hb7 (by omega) _ _ _⟩
end Go.Proofs.YtkbncdcphohmiaaGreatDoor
