/- Package ratio: reduced numbers. -/
import Derived.Test.YtmnnaaifebajnaaGreatDoorRaC
set_option linter.unusedSimpArgs false
set_option linter.unusedVariables false
namespace Go.Proofs.YtmnnaaifebajnaaGreatDoor
open Go.RowKit
open Ra (Fit)
set_option maxRecDepth 100000

theorem reduced_bad (s : Bool) (n d : ByteArray) (e0 : Int) (w : World) (he : e0 ≠ 0) :
    Calls Tryz.prog 40 #[rV (s, n, d), .int .i64 e0] w fun e w' => e = .returned (.tuple #[rV zeroR, .int .i64 e0]) ∧ Below w.heap.size w w' := by
  have h2 := (nez he).1
  have HA := Lib.hid ((At.new (w.alloc (.cells #[.bool s, .string n, .string d] 23)) false nil' nil'))
  rw [size_al] at HA
  have hb0 := al2 w (.cells #[.bool s, .string n, .string d] 23) (.cells #[.bool false, .string nil', .string nil'] 23)
  unfold nil' at HA hb0
  unfold rV
  simp only
  go_enter Tryz.func40, Tryz.ntmps40
  go_wp2_with fail
  exact bodyPost_ret (out2 Tryz.results40 _ _ _ _ _ rfl rfl HA.out) rfl ⟨rfl, hb0⟩

theorem reduced_ok (s : Bool) (N D : Nat) (w : World) (hp : Pw w.heap.size w) (hN : N < LIM) (hD : D < LIM) (h0 : D ≠ 0) :
    Calls Tryz.prog 40 #[rV (s, tx N, tx D), .int .i64 0] w fun e w' => e = .returned (.tuple #[rV (rf (Ra.mk s N D)), .int .i64 0]) ∧ Below w.heap.size w w' := by
  have M := Lib.hid (fun v (hb : Below w.heap.size w v) => make_ok s N D v (hp.bt hb) hN hD h0)
  generalize rf (Ra.mk s N D) = r at *
  obtain ⟨s1, n1, d1⟩ := r
  generalize tx N = n at *
  generalize tx D = d at *
  clear hp
  have HA := Lib.hid ((At.new (w.alloc (.cells #[.bool s, .string n, .string d] 23)) false nil' nil'))
  rw [size_al] at HA
  have hb0 := al2 w (.cells #[.bool s, .string n, .string d] 23) (.cells #[.bool false, .string nil', .string nil'] 23)
  unfold nil' at HA hb0
  unfold rV at M ⊢
  simp only at M ⊢
  go_enter Tryz.func40, Tryz.ntmps40
  go_wp2_with fail
  refine (M.out _ hb0).mono ?_
  rintro e w1 ⟨rfl, hb1⟩
  have hb1' := Nb hb0 hb1
  have A1 := HA.out.bt hb1
  obtain ⟨c0, c1, c2, f0, f1, f2⟩ := A1.cells
  go_wp2_with fail
  exact bodyPost_ret (out2 Tryz.results40 _ _ _ _ _ rfl rfl (A1.set _ _ _)) rfl ⟨rfl, Bset2 hb1' (by omega) _ _ _⟩
end Go.Proofs.YtmnnaaifebajnaaGreatDoor
