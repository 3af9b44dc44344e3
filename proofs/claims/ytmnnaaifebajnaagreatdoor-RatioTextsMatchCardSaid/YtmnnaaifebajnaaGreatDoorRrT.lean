/- The reference of layer 5: Text. Printed by gen/rr_t.py. -/
import Derived.Test.YtmnnaaifebajnaaGreatDoorRrAB
import Derived.Test.YtmnnaaifebajnaaGreatDoorRaQ
set_option linter.unusedSimpArgs false
set_option linter.unusedVariables false
namespace Go.Proofs.YtmnnaaifebajnaaGreatDoor
open Go.RowKit
open Ra (Fit)
set_option maxRecDepth 100000

theorem app_assoc (x y z : ByteArray) : (x ++ y) ++ z = x ++ (y ++ z) := by
  apply ByteArray.ext
  simp only [ByteArray.data_append, Array.append_assoc]

set_option maxHeartbeats 1000000 in
theorem rtext_no (n d : ByteArray) (s : Bool) (w : World) (hn : n.size ≤ 1000) (hd : d.size ≤ 1000) 
    (V : Hid (∀ v, Calls Tryz.prog 17 #[rV (s, n, d)] v fun e w' => e = .returned (.bool false) ∧ Below v.heap.size v w')) :
    Calls Tryz.prog 31 #[rV (s, n, d)] w fun e w' => e = .returned (.tuple #[.string ⟨#[]⟩, .int .i64 1]) ∧ Below w.heap.size w w' := by
  have hb0 := al w (.cells #[.bool s, .string n, .string d] 23)
  have A0 := At.new w s n d
  unfold rV at V ⊢
  simp only at V ⊢
  obtain ⟨a0, a1, a2, _, _, _⟩ := A0.cells
  go_enter Tryz.func31, Tryz.ntmps31
  go_wp2_with fail
  refine (V.out _).mono ?_
  rintro e w1 ⟨rfl, h1⟩
  have hb1 := Nb hb0 h1
  have A1 := A0.bt h1
  clear a0 a1 a2 A0 hb0
  obtain ⟨a0, a1, a2, _, _, _⟩ := A1.cells
  go_wp2_with fail
  go_ret2
  exact ⟨rfl, hb1⟩

set_option maxHeartbeats 1000000 in
theorem rtext_00 (n d : ByteArray) (s : Bool) (w : World) (hn : n.size ≤ 1000) (hd : d.size ≤ 1000) (z : (d.toList == [49]) = false)
    (V : Hid (∀ v, Calls Tryz.prog 17 #[rV (false, n, d)] v fun e w' => e = .returned (.bool true) ∧ Below v.heap.size v w')) :
    Calls Tryz.prog 31 #[rV (false, n, d)] w fun e w' => e = .returned (.tuple #[.string (n ++ ⟨#[47]⟩ ++ d), .int .i64 0]) ∧ Below w.heap.size w w' := by
  have hb0 := al w (.cells #[.bool false, .string n, .string d] 23)
  have A0 := At.new w false n d
  unfold rV at V ⊢
  simp only at V ⊢
  obtain ⟨a0, a1, a2, _, _, _⟩ := A0.cells
  go_enter Tryz.func31, Tryz.ntmps31
  go_wp2_with fail
  refine (V.out _).mono ?_
  rintro e w1 ⟨rfl, h1⟩
  have hb1 := Nb hb0 h1
  have A1 := A0.bt h1
  clear a0 a1 a2 A0 hb0
  obtain ⟨a0, a1, a2, _, _, _⟩ := A1.cells
  go_wp2_with fail
  go_ret2
  exact ⟨rfl, hb1⟩

set_option maxHeartbeats 1000000 in
theorem rtext_01 (n d : ByteArray) (s : Bool) (w : World) (hn : n.size ≤ 1000) (hd : d.size ≤ 1000) 
    (V : Hid (∀ v, Calls Tryz.prog 17 #[rV (false, n, ⟨#[49]⟩)] v fun e w' => e = .returned (.bool true) ∧ Below v.heap.size v w')) :
    Calls Tryz.prog 31 #[rV (false, n, ⟨#[49]⟩)] w fun e w' => e = .returned (.tuple #[.string n, .int .i64 0]) ∧ Below w.heap.size w w' := by
  have hb0 := al w (.cells #[.bool false, .string n, .string ⟨#[49]⟩] 23)
  have A0 := At.new w false n ⟨#[49]⟩
  unfold rV at V ⊢
  simp only at V ⊢
  obtain ⟨a0, a1, a2, _, _, _⟩ := A0.cells
  go_enter Tryz.func31, Tryz.ntmps31
  go_wp2_with fail
  refine (V.out _).mono ?_
  rintro e w1 ⟨rfl, h1⟩
  have hb1 := Nb hb0 h1
  have A1 := A0.bt h1
  clear a0 a1 a2 A0 hb0
  obtain ⟨a0, a1, a2, _, _, _⟩ := A1.cells
  go_wp2_with fail
  go_ret2
  exact ⟨rfl, hb1⟩

set_option maxHeartbeats 1000000 in
theorem rtext_10 (n d : ByteArray) (s : Bool) (w : World) (hn : n.size ≤ 1000) (hd : d.size ≤ 1000) (z : (d.toList == [49]) = false)
    (V : Hid (∀ v, Calls Tryz.prog 17 #[rV (true, n, d)] v fun e w' => e = .returned (.bool true) ∧ Below v.heap.size v w')) :
    Calls Tryz.prog 31 #[rV (true, n, d)] w fun e w' => e = .returned (.tuple #[.string (⟨#[45]⟩ ++ n ++ ⟨#[47]⟩ ++ d), .int .i64 0]) ∧ Below w.heap.size w w' := by
  have hb0 := al w (.cells #[.bool true, .string n, .string d] 23)
  have A0 := At.new w true n d
  unfold rV at V ⊢
  simp only at V ⊢
  obtain ⟨a0, a1, a2, _, _, _⟩ := A0.cells
  go_enter Tryz.func31, Tryz.ntmps31
  go_wp2_with fail
  refine (V.out _).mono ?_
  rintro e w1 ⟨rfl, h1⟩
  have hb1 := Nb hb0 h1
  have A1 := A0.bt h1
  clear a0 a1 a2 A0 hb0
  obtain ⟨a0, a1, a2, _, _, _⟩ := A1.cells
  go_wp2_with fail
  go_ret2
  exact ⟨rfl, hb1⟩

set_option maxHeartbeats 1000000 in
theorem rtext_11 (n d : ByteArray) (s : Bool) (w : World) (hn : n.size ≤ 1000) (hd : d.size ≤ 1000) 
    (V : Hid (∀ v, Calls Tryz.prog 17 #[rV (true, n, ⟨#[49]⟩)] v fun e w' => e = .returned (.bool true) ∧ Below v.heap.size v w')) :
    Calls Tryz.prog 31 #[rV (true, n, ⟨#[49]⟩)] w fun e w' => e = .returned (.tuple #[.string (⟨#[45]⟩ ++ n), .int .i64 0]) ∧ Below w.heap.size w w' := by
  have hb0 := al w (.cells #[.bool true, .string n, .string ⟨#[49]⟩] 23)
  have A0 := At.new w true n ⟨#[49]⟩
  unfold rV at V ⊢
  simp only at V ⊢
  obtain ⟨a0, a1, a2, _, _, _⟩ := A0.cells
  go_enter Tryz.func31, Tryz.ntmps31
  go_wp2_with fail
  refine (V.out _).mono ?_
  rintro e w1 ⟨rfl, h1⟩
  have hb1 := Nb hb0 h1
  have A1 := A0.bt h1
  clear a0 a1 a2 A0 hb0
  obtain ⟨a0, a1, a2, _, _, _⟩ := A1.cells
  go_wp2_with fail
  go_ret2
  exact ⟨rfl, hb1⟩

theorem rtext_q (r : R3) (w : World) (hn : r.2.1.size ≤ 1000) (hd : r.2.2.size ≤ 1000) :
    Calls Tryz.prog 31 #[rV r] w fun e w' => e = .returned (.tuple #[.string (textF r).1, .int .i64 (textF r).2]) ∧ Below w.heap.size w w' := by
  have V := Lib.hid (fun v => rvalid_any r v hn hd)
  unfold textF
  obtain ⟨s, n, d⟩ := r
  simp only at hn hd
  cases hv : vR (s, n, d)
  · rw [hv] at V
    rw [if_neg (by simp)]
    exact rtext_no n d s w hn hd V
  · rw [hv] at V
    rw [if_pos rfl]
    unfold tR
    simp only
    by_cases hd1 : d = ⟨#[49]⟩
    · rw [if_pos hd1]
      subst hd1
      cases s
      · rw [if_neg (by simp), nil_app, app_nil]
        exact rtext_01 n ⟨#[49]⟩ false w hn hd V
      · rw [if_pos rfl, app_nil]
        exact rtext_11 n ⟨#[49]⟩ true w hn hd V
    · rw [if_neg hd1]
      have z := ne49 hd1
      cases s
      · rw [if_neg (by simp), nil_app, ← app_assoc]
        exact rtext_00 n d false w hn hd z V
      · rw [if_pos rfl, ← app_assoc]
        exact rtext_10 n d true w hn hd z V
end Go.Proofs.YtmnnaaifebajnaaGreatDoor
