/- Package ratio: texts: a leading minus sign is cut; Text; Parse. -/
import Derived.Test.YtmnnaaifebajnaaGreatDoorRaC
set_option linter.unusedSimpArgs false
set_option linter.unusedVariables false
namespace Go.Proofs.YtmnnaaifebajnaaGreatDoor
open Go.RowKit
open Ra (Fit)
set_option maxRecDepth 100000

def hp (s : ByteArray) : Bool := decide (1 ≤ s.size) && ((s.extract 0 1).toList == [45])

theorem hasp_any (s : ByteArray) (w : World) (hs : s.size ≤ maxLen) :
    Calls Tryz.prog 88 #[.string s, .string ⟨#[45]⟩] w fun e w' => e = .returned (.bool (hp s)) ∧ w = w' := by
  unfold maxLen at hs
  unfold hp
  by_cases h : 1 ≤ s.size
  · rw [decide_eq_true h, Bool.true_and]
    have h1 : (1 : Int) ≤ s.size := by omega
    have h2 : ¬ (s.size : Int) < 1 := by omega
    go_enter Tryz.func88, Tryz.ntmps88
    go_wp2_with fail
    go_ret
    exact ⟨rfl, rfl⟩
  · rw [decide_eq_false h, Bool.false_and]
    have h1 : ¬ (1 : Int) ≤ s.size := by omega
    have h2 : (s.size : Int) < 1 := by omega
    go_enter Tryz.func88, Tryz.ntmps88
    go_wp2_with fail
    go_ret
    exact ⟨rfl, rfl⟩

def cutM (s : ByteArray) : ByteArray × Bool := if hp s then (s.extract 1 s.size, true) else (s, false)

theorem cutp_any (s : ByteArray) (w : World) (hs : s.size ≤ maxLen) :
    Calls Tryz.prog 62 #[.string s, .string ⟨#[45]⟩] w fun e w' => e = .returned (.tuple #[.string (cutM s).1, .bool (cutM s).2]) ∧ w = w' := by
  have HP := Lib.hid (hasp_any s w hs)
  unfold cutM
  cases h : hp s
  · rw [h] at HP
    rw [if_neg (by simp)]
    go_enter Tryz.func62, Tryz.ntmps62
    go_wp2_with fail
    refine HP.out.mono ?_
    rintro e w1 ⟨rfl, rfl⟩
    go_wp2_with fail
    go_ret2
    exact ⟨rfl, rfl⟩
  · rw [h] at HP
    rw [if_pos rfl]
    have h1 : (1 : Int) ≤ s.size := by
      unfold hp at h
      rw [Bool.and_eq_true, decide_eq_true_eq] at h
      omega
    have h2 : (s.size : Int) ≤ 9223372036854775807 := by unfold maxLen at hs; omega
    go_enter Tryz.func62, Tryz.ntmps62
    go_wp2_with fail
    refine HP.out.mono ?_
    rintro e w1 ⟨rfl, rfl⟩
    go_wp2_with fail
    go_ret2
    exact ⟨rfl, rfl⟩

theorem cutpre_any (s : ByteArray) (w : World) (hs : s.size ≤ maxLen) :
    Calls Tryz.prog 36 #[.string s, .string ⟨#[45]⟩] w fun e w' => e = .returned (.tuple #[.string (cutM s).1, .bool (cutM s).2]) ∧ w = w' := by
  have HP := Lib.hid (cutp_any s w hs)
  go_enter Tryz.func36, Tryz.ntmps36
  go_wp2_with fail
  refine HP.out.mono ?_
  rintro e w1 ⟨rfl, rfl⟩
  go_wp2_with fail
  go_ret2
  exact ⟨rfl, rfl⟩

/- The text of three parts. -/
def tR (r : R3) : ByteArray := (if r.1 then (⟨#[45]⟩ : ByteArray) else ⟨#[]⟩) ++ r.2.1 ++ (if r.2.2 = ⟨#[49]⟩ then ⟨#[]⟩ else (⟨#[47]⟩ : ByteArray) ++ r.2.2)
def textF (r : R3) : ByteArray × Int := if vR r then (tR r, 0) else (nil', 1)

set_option maxHeartbeats 1000000 in
theorem text_00 (n d : ByteArray) (w : World) (hn : n.size ≤ 1000) (hd : d.size ≤ 1000) (h1 : (d.toList == [49]) = false) 
    (V : Hid (∀ v, Below w.heap.size w v → Calls Tryz.prog 16 #[rV (false, n, d)] v fun e w' => e = .returned (.bool true) ∧ Below v.heap.size v w')) :
    Calls Tryz.prog 30 #[rV (false, n, d)] w fun e w' => e = .returned (.tuple #[.string (n ++ (⟨#[47]⟩ ++ d)), .int .i64 0]) ∧ Below w.heap.size w w' := by
  have hb0 := al w (.cells #[.bool false, .string n, .string d] 23)
  have A0 := At.new w false n d
  unfold rV at V ⊢
  simp only at V ⊢
  obtain ⟨a0, a1, a2, _, _, _⟩ := A0.cells
  go_enter Tryz.func30, Tryz.ntmps30
  go_wp2_with fail
  refine (V.out _ hb0).mono ?_
  rintro e w1 ⟨rfl, h1⟩
  have hb1 := Nb hb0 h1
  have A1 := A0.bt h1
  clear a0 a1 a2 A0 hb0
  obtain ⟨a0, a1, a2, _, _, _⟩ := A1.cells
  go_wp2_with fail
  go_ret2
  exact ⟨rfl, hb1⟩

set_option maxHeartbeats 1000000 in
theorem text_01 (n : ByteArray) (w : World) (hn : n.size ≤ 1000) 
    (V : Hid (∀ v, Below w.heap.size w v → Calls Tryz.prog 16 #[rV (false, n, ⟨#[49]⟩)] v fun e w' => e = .returned (.bool true) ∧ Below v.heap.size v w')) :
    Calls Tryz.prog 30 #[rV (false, n, ⟨#[49]⟩)] w fun e w' => e = .returned (.tuple #[.string (n), .int .i64 0]) ∧ Below w.heap.size w w' := by
  have hb0 := al w (.cells #[.bool false, .string n, .string ⟨#[49]⟩] 23)
  have A0 := At.new w false n ⟨#[49]⟩
  unfold rV at V ⊢
  simp only at V ⊢
  obtain ⟨a0, a1, a2, _, _, _⟩ := A0.cells
  go_enter Tryz.func30, Tryz.ntmps30
  go_wp2_with fail
  refine (V.out _ hb0).mono ?_
  rintro e w1 ⟨rfl, h1⟩
  have hb1 := Nb hb0 h1
  have A1 := A0.bt h1
  clear a0 a1 a2 A0 hb0
  obtain ⟨a0, a1, a2, _, _, _⟩ := A1.cells
  go_wp2_with fail
  go_ret2
  exact ⟨rfl, hb1⟩

set_option maxHeartbeats 1000000 in
theorem text_10 (n d : ByteArray) (w : World) (hn : n.size ≤ 1000) (hd : d.size ≤ 1000) (h1 : (d.toList == [49]) = false) 
    (V : Hid (∀ v, Below w.heap.size w v → Calls Tryz.prog 16 #[rV (true, n, d)] v fun e w' => e = .returned (.bool true) ∧ Below v.heap.size v w')) :
    Calls Tryz.prog 30 #[rV (true, n, d)] w fun e w' => e = .returned (.tuple #[.string (⟨#[45]⟩ ++ n ++ (⟨#[47]⟩ ++ d)), .int .i64 0]) ∧ Below w.heap.size w w' := by
  have hb0 := al w (.cells #[.bool true, .string n, .string d] 23)
  have A0 := At.new w true n d
  unfold rV at V ⊢
  simp only at V ⊢
  obtain ⟨a0, a1, a2, _, _, _⟩ := A0.cells
  go_enter Tryz.func30, Tryz.ntmps30
  go_wp2_with fail
  refine (V.out _ hb0).mono ?_
  rintro e w1 ⟨rfl, h1⟩
  have hb1 := Nb hb0 h1
  have A1 := A0.bt h1
  clear a0 a1 a2 A0 hb0
  obtain ⟨a0, a1, a2, _, _, _⟩ := A1.cells
  go_wp2_with fail
  go_ret2
  exact ⟨rfl, hb1⟩

set_option maxHeartbeats 1000000 in
theorem text_11 (n : ByteArray) (w : World) (hn : n.size ≤ 1000) 
    (V : Hid (∀ v, Below w.heap.size w v → Calls Tryz.prog 16 #[rV (true, n, ⟨#[49]⟩)] v fun e w' => e = .returned (.bool true) ∧ Below v.heap.size v w')) :
    Calls Tryz.prog 30 #[rV (true, n, ⟨#[49]⟩)] w fun e w' => e = .returned (.tuple #[.string (⟨#[45]⟩ ++ n), .int .i64 0]) ∧ Below w.heap.size w w' := by
  have hb0 := al w (.cells #[.bool true, .string n, .string ⟨#[49]⟩] 23)
  have A0 := At.new w true n ⟨#[49]⟩
  unfold rV at V ⊢
  simp only at V ⊢
  obtain ⟨a0, a1, a2, _, _, _⟩ := A0.cells
  go_enter Tryz.func30, Tryz.ntmps30
  go_wp2_with fail
  refine (V.out _ hb0).mono ?_
  rintro e w1 ⟨rfl, h1⟩
  have hb1 := Nb hb0 h1
  have A1 := A0.bt h1
  clear a0 a1 a2 A0 hb0
  obtain ⟨a0, a1, a2, _, _, _⟩ := A1.cells
  go_wp2_with fail
  go_ret2
  exact ⟨rfl, hb1⟩

theorem text_no (r : R3) (w : World)
    (V : Hid (∀ v, Below w.heap.size w v → Calls Tryz.prog 16 #[rV r] v fun e w' => e = .returned (.bool false) ∧ Below v.heap.size v w')) :
    Calls Tryz.prog 30 #[rV r] w fun e w' => e = .returned (.tuple #[.string nil', .int .i64 1]) ∧ Below w.heap.size w w' := by
  obtain ⟨s, n, d⟩ := r
  have hb0 := al w (.cells #[.bool s, .string n, .string d] 23)
  have A0 := At.new w s n d
  unfold rV at V ⊢
  simp only at V ⊢
  obtain ⟨a0, a1, a2, _, _, _⟩ := A0.cells
  go_enter Tryz.func30, Tryz.ntmps30
  go_wp2_with fail
  refine (V.out _ hb0).mono ?_
  rintro e w1 ⟨rfl, h1⟩
  go_wp2_with fail
  go_ret2
  exact ⟨rfl, Nb hb0 h1⟩

theorem ne49 {b : ByteArray} (h : b ≠ ⟨#[49]⟩) : (b.toList == [49]) = false := by
  have := bytes_ne h
  rwa [show (⟨#[49]⟩ : ByteArray).toList = [49] by rw [ByteArray.toList_eq]] at this
theorem nil_app (x : ByteArray) : (⟨#[]⟩ : ByteArray) ++ x = x := by
  apply ByteArray.ext
  rw [ByteArray.data_append]
  simp
theorem app_nil (x : ByteArray) : x ++ (⟨#[]⟩ : ByteArray) = x := by
  apply ByteArray.ext
  rw [ByteArray.data_append]
  simp
theorem textR_any (r : R3) (w : World) (hP : Pw w.heap.size w) (hn : r.2.1.size ≤ 1000) (hd : r.2.2.size ≤ 1000) :
    Calls Tryz.prog 30 #[rV r] w fun e w' => e = .returned (.tuple #[.string (textF r).1, .int .i64 (textF r).2]) ∧ Below w.heap.size w w' := by
  have V := Lib.hid (fun v (h : Below w.heap.size w v) => valid_any r v (hP.bt h) (by unfold maxLen; omega) (by unfold maxLen; omega))
  unfold textF
  obtain ⟨s, n, d⟩ := r
  simp only at hn hd
  cases hv : vR (s, n, d)
  · rw [hv] at V
    rw [if_neg (by simp)]
    exact text_no _ w V
  · rw [hv] at V
    rw [if_pos rfl]
    unfold tR
    simp only
    by_cases hd1 : d = ⟨#[49]⟩
    · rw [if_pos hd1]
      subst hd1
      cases s
      · rw [if_neg (by simp), nil_app, app_nil]
        exact text_01 n w hn V
      · rw [if_pos rfl, app_nil]
        exact text_11 n w hn V
    · rw [if_neg hd1]
      have h1 := ne49 hd1
      cases s
      · rw [if_neg (by simp), nil_app]
        exact text_00 n d w hn hd h1 V
      · rw [if_pos rfl]
        exact text_10 n d w hn hd h1 V
end Go.Proofs.YtmnnaaifebajnaaGreatDoor
