/- RatioValid: the walk. -/
import Derived.Test.YtmnnaaifebajnaaGreatDoorRaHd
import Derived.Test.YtmnnaaifebajnaaGreatDoorRaSh
import Derived.Test.YtmnnaaifebajnaaGreatDoorRaLw
import Derived.Deep.DeepCutAuto
set_option linter.unusedSimpArgs false
set_option linter.unusedVariables false
namespace Go.Proofs.YtmnnaaifebajnaaGreatDoor
open Go.RowKit
open Ra (Fit)
set_option maxRecDepth 100000


def AtF (w : World) (b : Nat) : Prop := w.heap[b]? = some (.cells #[.func (.func 14) #[] #[], .func (.func 18) #[] #[], .func (.func 20) #[] #[], .func (.func 22) #[] #[]] 29 (0, 0))
theorem AtF.bt {w w' : World} {b : Nat} (h : AtF w b) (hb : Below w.heap.size w w') : AtF w' b := (hb.block b (Array.getElem?_eq_some_iff.1 h).1).trans h
theorem AtF.cell {w : World} {b : Nat} (h : AtF w b) : w.cell? ⟨b, 0, none⟩ = some (.func (.func 14) #[] #[]) ∧ w.cell? ⟨b, 1, none⟩ = some (.func (.func 18) #[] #[]) ∧ w.cell? ⟨b, 2, none⟩ = some (.func (.func 20) #[] #[]) ∧ w.cell? ⟨b, 3, none⟩ = some (.func (.func 22) #[] #[]) := by
  unfold AtF at h
  exact ⟨by rw [Lib.cell_of_heap h]; rfl, by rw [Lib.cell_of_heap h]; rfl, by rw [Lib.cell_of_heap h]; rfl, by rw [Lib.cell_of_heap h]; rfl⟩
theorem AtF.off {w : World} {k b : Nat} (h : AtF w k) (hn : k ≠ b) (i : Nat) (v : Value) : AtF (w.setCell ⟨b, i, none⟩ v) k := by
  unfold AtF at h ⊢
  rw [Below.heap_setCell _ _ _ _ hn]
  exact h
theorem ten {w : World} {p q f : Nat} {s t : Bool} {x y z u : ByteArray} (h : At w p (s, x, y)) (k : At w q (t, z, u)) (l : AtF w f) :
    w.cell? ⟨p, 0, none⟩ = some (.bool s) ∧ w.cell? ⟨p, 1, none⟩ = some (.string x) ∧ w.cell? ⟨p, 2, none⟩ = some (.string y) ∧ w.cell? ⟨q, 0, none⟩ = some (.bool t) ∧ w.cell? ⟨q, 1, none⟩ = some (.string z) ∧ w.cell? ⟨q, 2, none⟩ = some (.string u) ∧ w.cell? ⟨f, 0, none⟩ = some (.func (.func 14) #[] #[]) ∧ w.cell? ⟨f, 1, none⟩ = some (.func (.func 18) #[] #[]) ∧ w.cell? ⟨f, 2, none⟩ = some (.func (.func 20) #[] #[]) ∧ w.cell? ⟨f, 3, none⟩ = some (.func (.func 22) #[] #[]) :=
  ⟨h.cells.1, h.cells.2.1, h.cells.2.2.1, k.cells.1, k.cells.2.1, k.cells.2.2.1, l.cell⟩

set_option maxHeartbeats 1000000 in
theorem valid_early (sa sb : Bool) (na da nb db : ByteArray) (raw : Nat) (zna : na.size ≤ 9223372036854775807) (zda : da.size ≤ 9223372036854775807) (znb : nb.size ≤ 9223372036854775807) (zdb : db.size ≤ 9223372036854775807) (hns : ¬ ∀ x ∈ [na, da, nb, db], x.size ≤ 160) (w : World)
    (H : Hid (∀ v, Below w.heap.size w v → Calls Tryz.prog 10 #[] v fun e w' => e = .returned (.bool true) ∧ Below v.heap.size v w')) :
    Calls Tryz.prog 9 #[rV (sa, na, da), rV (sb, nb, db), .int .u8 (raw : Int)] w fun e w' => e = .returned (.bool true) ∧ Below w.heap.size w w' := by
  obtain ⟨hb0, A0, B0⟩ := startB w (sa, na, da) (sb, nb, db) _ rfl
  unfold ob at hb0 A0 B0
  unfold rV at  ⊢
  simp only at hb0 A0 B0  ⊢
  go_enter Tryz.func9, Tryz.ntmps9
  go_wp2_with fail
  refine (H.out _ hb0).mono ?_
  rintro e w1 ⟨rfl, g⟩
  have hb1 := Nb hb0 (g)
  have A1 := A0.bt (g)
  have B1 := B0.bt (g)
  clear hb0 A0 B0 g
  obtain ⟨Ac0, Ac1, Ac2, _, _, _⟩ := A1.cells
  obtain ⟨Bc0, Bc1, Bc2, _, _, _⟩ := B1.cells
  go_wp2_with fail
  have hX : (w1.alloc (.cells #[.bool sa, .string na, .string da, .bool sb, .string nb, .string db] 23)).heap[w1.heap.size]? = some (.cells #[.bool sa, .string na, .string da, .bool sb, .string nb, .string db] 23 (0, 0)) := heap_alloc_new _ _
  have SH := Lib.hid (lshort2 160 (by omega) w1.heap.size na da nb db (w1.alloc (.cells #[.bool sa, .string na, .string da, .bool sb, .string nb, .string db] 23)) (by rw [Lib.cell_of_heap hX]; rfl) (by rw [Lib.cell_of_heap hX]; rfl) (by rw [Lib.cell_of_heap hX]; rfl) (by rw [Lib.cell_of_heap hX]; rfl) zna zda znb zdb)
  rw [show ((160 : Nat) : Int) = 160 from rfl] at SH
  refine SH.out.mono ?_
  rintro e wS ⟨r, rfl, hr, rfl⟩
  clear Ac0 Ac1 Ac2 Bc0 Bc1 Bc2
  clear SH hX
  have hb1s := Nb hb1 (al w1 (.cells #[.bool sa, .string na, .string da, .bool sb, .string nb, .string db] 23))
  have A1s := A1.bt (al w1 (.cells #[.bool sa, .string na, .string da, .bool sb, .string nb, .string db] 23))
  have B1s := B1.bt (al w1 (.cells #[.bool sa, .string na, .string da, .bool sb, .string nb, .string db] 23))
  clear hb1 A1 B1 
  obtain rfl : r = false := by
    cases r
    · rfl
    · exact absurd (hr rfl) hns
  go_wp2_with fail
  go_ret
  exact ⟨rfl, hb1s⟩

end Go.Proofs.YtmnnaaifebajnaaGreatDoor
