/- Layer 9, the reference: Length. (printed by gen/nm_rc.py) -/
import Derived.Test.YtcjlnmfbanknhaaDoorNmRb
set_option linter.unusedSimpArgs false
set_option linter.unusedVariables false
namespace Go.Proofs.YtcjlnmfbanknhaaDoor
open Go.RowKit Go.Shelf
set_option maxRecDepth 100000
set_option maxHeartbeats 4000000

theorem Nm.rlength_any (k : Int) (s : ByteArray) (i : Nat) (w : World) (hs : s.size ≤ 1000000) (hi : i ≤ 1000000) :
    Calls Tryd.prog 21 #[.int .i64 k, .string s, .int .i64 (i : Int)] w fun e w' => e = .returned (.int .i64 (Nm.ln (Nm.sc k) (s.data.toList.drop i) : Int)) ∧ Below w.heap.size w w' := by
  by_cases hk1 : k = 1
  · subst hk1
    have A1 : Hid (∀ v, Calls Tryd.prog 33 #[.string s, .int .i64 (i : Int), .string ⟨#[97, 98, 99, 100, 101, 102, 103, 104, 105, 106, 107, 108, 109, 110, 111, 112, 113, 114, 115, 116, 117, 118, 119, 120, 121, 122]⟩] v fun e w' => e = .returned (.bool (Nm.am (s.data.toList.drop i) 0 Nm.small)) ∧ Below v.heap.size v w') := Lib.hid (fun v => by
      have h9 := Nm.among_any s i ⟨#[97, 98, 99, 100, 101, 102, 103, 104, 105, 106, 107, 108, 109, 110, 111, 112, 113, 114, 115, 116, 117, 118, 119, 120, 121, 122]⟩ v hs (by decide)
      have h8 := Nm.am_drop s.data.toList i 0 Nm.small
      rw [← h8]
      exact h9)
    rw [show Nm.sc 1 = 1 from rfl, Nm.ln_1]
    generalize Nm.am (s.data.toList.drop i) 0 Nm.small = a1 at *
    cases a1 with
    | false =>
      go_enter Tryd.func21, Tryd.ntmps21
      go_wp2_with fail
      refine (A1.out w).mono ?_
      rintro e w1 ⟨rfl, g1⟩
      go_wp2
      go_ret
      exact ⟨by simp, g1⟩
    | true =>
      go_enter Tryd.func21, Tryd.ntmps21
      go_wp2_with fail
      refine (A1.out w).mono ?_
      rintro e w1 ⟨rfl, g1⟩
      go_wp2
      go_ret
      exact ⟨by simp, g1⟩
  by_cases hk2 : k = 2
  · subst hk2
    have A1 : Hid (∀ v, Calls Tryd.prog 33 #[.string s, .int .i64 (i : Int), .string ⟨#[97, 98, 99, 100, 101, 102, 103, 104, 105, 106, 107, 108, 109, 110, 111, 112, 113, 114, 115, 116, 117, 118, 119, 120, 121, 122, 65, 66, 67, 68, 69, 70, 71, 72, 73, 74, 75, 76, 77, 78, 79, 80, 81, 82, 83, 84, 85, 86, 87, 88, 89, 90]⟩] v fun e w' => e = .returned (.bool (Nm.am (s.data.toList.drop i) 0 (Nm.small ++ Nm.caps))) ∧ Below v.heap.size v w') := Lib.hid (fun v => by
      have h9 := Nm.among_any s i ⟨#[97, 98, 99, 100, 101, 102, 103, 104, 105, 106, 107, 108, 109, 110, 111, 112, 113, 114, 115, 116, 117, 118, 119, 120, 121, 122, 65, 66, 67, 68, 69, 70, 71, 72, 73, 74, 75, 76, 77, 78, 79, 80, 81, 82, 83, 84, 85, 86, 87, 88, 89, 90]⟩ v hs (by decide)
      have h8 := Nm.am_drop s.data.toList i 0 (Nm.small ++ Nm.caps)
      rw [← h8]
      exact h9)
    have A2 : Hid (∀ v, Calls Tryd.prog 33 #[.string s, .int .i64 ((i : Int) + 1), .string ⟨#[39, 96, 94]⟩] v fun e w' => e = .returned (.bool (Nm.am (s.data.toList.drop i) 1 Nm.acc)) ∧ Below v.heap.size v w') := Lib.hid (fun v => by
      have h9 := Nm.among_any s (i + 1) ⟨#[39, 96, 94]⟩ v hs (by decide)
      have h8 := Nm.am_drop s.data.toList i 1 Nm.acc
      rw [← h8]
      exact h9)
    rw [show Nm.sc 2 = 2 from rfl, Nm.ln_2]
    generalize Nm.am (s.data.toList.drop i) 0 (Nm.small ++ Nm.caps) = a1 at *
    generalize Nm.am (s.data.toList.drop i) 1 Nm.acc = a2 at *
    cases a1 with
    | false =>
      go_enter Tryd.func21, Tryd.ntmps21
      go_wp2_with fail
      refine (A1.out w).mono ?_
      rintro e w1 ⟨rfl, g1⟩
      go_wp2
      go_ret
      exact ⟨by simp, g1⟩
    | true =>
      cases a2 with
      | false =>
        go_enter Tryd.func21, Tryd.ntmps21
        go_wp2_with fail
        refine (A1.out w).mono ?_
        rintro e w1 ⟨rfl, g1⟩
        go_wp2_with fail
        refine (A2.out w1).mono ?_
        rintro e w2 ⟨rfl, g2⟩
        go_wp2
        go_ret
        exact ⟨by simp, Nm.Nb g1 g2⟩
      | true =>
        go_enter Tryd.func21, Tryd.ntmps21
        go_wp2_with fail
        refine (A1.out w).mono ?_
        rintro e w1 ⟨rfl, g1⟩
        go_wp2_with fail
        refine (A2.out w1).mono ?_
        rintro e w2 ⟨rfl, g2⟩
        go_wp2
        go_ret
        exact ⟨by simp, Nm.Nb g1 g2⟩
  by_cases hk3 : k = 3
  · subst hk3
    have A1 : Hid (∀ v, Calls Tryd.prog 33 #[.string s, .int .i64 (i : Int), .string ⟨#[98, 100, 102, 103, 104, 106, 107, 108, 109, 110, 112, 113, 114, 115, 116, 119, 120, 121, 122, 39]⟩] v fun e w' => e = .returned (.bool (Nm.am (s.data.toList.drop i) 0 Nm.abj)) ∧ Below v.heap.size v w') := Lib.hid (fun v => by
      have h9 := Nm.among_any s i ⟨#[98, 100, 102, 103, 104, 106, 107, 108, 109, 110, 112, 113, 114, 115, 116, 119, 120, 121, 122, 39]⟩ v hs (by decide)
      have h8 := Nm.am_drop s.data.toList i 0 Nm.abj
      rw [← h8]
      exact h9)
    rw [show Nm.sc 3 = 3 from rfl, Nm.ln_3]
    generalize Nm.am (s.data.toList.drop i) 0 Nm.abj = a1 at *
    cases a1 with
    | false =>
      go_enter Tryd.func21, Tryd.ntmps21
      go_wp2_with fail
      refine (A1.out w).mono ?_
      rintro e w1 ⟨rfl, g1⟩
      go_wp2
      go_ret
      exact ⟨by simp, g1⟩
    | true =>
      go_enter Tryd.func21, Tryd.ntmps21
      go_wp2_with fail
      refine (A1.out w).mono ?_
      rintro e w1 ⟨rfl, g1⟩
      go_wp2
      go_ret
      exact ⟨by simp, g1⟩
  by_cases hk4 : k = 4
  · subst hk4
    have A1 : Hid (∀ v, Calls Tryd.prog 33 #[.string s, .int .i64 (i : Int), .string ⟨#[97, 105, 117, 101, 111]⟩] v fun e w' => e = .returned (.bool (Nm.am (s.data.toList.drop i) 0 Nm.vow)) ∧ Below v.heap.size v w') := Lib.hid (fun v => by
      have h9 := Nm.among_any s i ⟨#[97, 105, 117, 101, 111]⟩ v hs (by decide)
      have h8 := Nm.am_drop s.data.toList i 0 Nm.vow
      rw [← h8]
      exact h9)
    have A2 : Hid (∀ v, Calls Tryd.prog 33 #[.string s, .int .i64 (i : Int), .string ⟨#[107, 115, 116, 110, 104, 109, 121, 114, 119, 103, 122, 100, 98, 112]⟩] v fun e w' => e = .returned (.bool (Nm.am (s.data.toList.drop i) 0 Nm.ons)) ∧ Below v.heap.size v w') := Lib.hid (fun v => by
      have h9 := Nm.among_any s i ⟨#[107, 115, 116, 110, 104, 109, 121, 114, 119, 103, 122, 100, 98, 112]⟩ v hs (by decide)
      have h8 := Nm.am_drop s.data.toList i 0 Nm.ons
      rw [← h8]
      exact h9)
    have A3 : Hid (∀ v, Calls Tryd.prog 33 #[.string s, .int .i64 ((i : Int) + 1), .string ⟨#[97, 105, 117, 101, 111]⟩] v fun e w' => e = .returned (.bool (Nm.am (s.data.toList.drop i) 1 Nm.vow)) ∧ Below v.heap.size v w') := Lib.hid (fun v => by
      have h9 := Nm.among_any s (i + 1) ⟨#[97, 105, 117, 101, 111]⟩ v hs (by decide)
      have h8 := Nm.am_drop s.data.toList i 1 Nm.vow
      rw [← h8]
      exact h9)
    have A4 : Hid (∀ v, Calls Tryd.prog 33 #[.string s, .int .i64 (i : Int), .string ⟨#[110]⟩] v fun e w' => e = .returned (.bool (Nm.am (s.data.toList.drop i) 0 [110])) ∧ Below v.heap.size v w') := Lib.hid (fun v => by
      have h9 := Nm.among_any s i ⟨#[110]⟩ v hs (by decide)
      have h8 := Nm.am_drop s.data.toList i 0 [110]
      rw [← h8]
      exact h9)
    rw [show Nm.sc 4 = 4 from rfl, Nm.ln_4]
    generalize Nm.am (s.data.toList.drop i) 0 Nm.vow = a1 at *
    generalize Nm.am (s.data.toList.drop i) 0 Nm.ons = a2 at *
    generalize Nm.am (s.data.toList.drop i) 1 Nm.vow = a3 at *
    generalize Nm.am (s.data.toList.drop i) 0 [110] = a4 at *
    cases a1 with
    | false =>
      cases a2 with
      | false =>
        cases a4 with
        | false =>
          go_enter Tryd.func21, Tryd.ntmps21
          go_wp2_with fail
          refine (A1.out w).mono ?_
          rintro e w1 ⟨rfl, g1⟩
          go_wp2_with fail
          refine (A2.out w1).mono ?_
          rintro e w2 ⟨rfl, g2⟩
          go_wp2_with fail
          refine (A4.out w2).mono ?_
          rintro e w3 ⟨rfl, g3⟩
          go_wp2
          go_ret
          exact ⟨by simp, Nm.Nb (Nm.Nb g1 g2) g3⟩
        | true =>
          go_enter Tryd.func21, Tryd.ntmps21
          go_wp2_with fail
          refine (A1.out w).mono ?_
          rintro e w1 ⟨rfl, g1⟩
          go_wp2_with fail
          refine (A2.out w1).mono ?_
          rintro e w2 ⟨rfl, g2⟩
          go_wp2_with fail
          refine (A4.out w2).mono ?_
          rintro e w3 ⟨rfl, g3⟩
          go_wp2
          go_ret
          exact ⟨by simp, Nm.Nb (Nm.Nb g1 g2) g3⟩
      | true =>
        cases a3 with
        | false =>
          cases a4 with
          | false =>
            go_enter Tryd.func21, Tryd.ntmps21
            go_wp2_with fail
            refine (A1.out w).mono ?_
            rintro e w1 ⟨rfl, g1⟩
            go_wp2_with fail
            refine (A2.out w1).mono ?_
            rintro e w2 ⟨rfl, g2⟩
            go_wp2_with fail
            refine (A3.out w2).mono ?_
            rintro e w3 ⟨rfl, g3⟩
            go_wp2_with fail
            refine (A4.out w3).mono ?_
            rintro e w4 ⟨rfl, g4⟩
            go_wp2
            go_ret
            exact ⟨by simp, Nm.Nb (Nm.Nb (Nm.Nb g1 g2) g3) g4⟩
          | true =>
            go_enter Tryd.func21, Tryd.ntmps21
            go_wp2_with fail
            refine (A1.out w).mono ?_
            rintro e w1 ⟨rfl, g1⟩
            go_wp2_with fail
            refine (A2.out w1).mono ?_
            rintro e w2 ⟨rfl, g2⟩
            go_wp2_with fail
            refine (A3.out w2).mono ?_
            rintro e w3 ⟨rfl, g3⟩
            go_wp2_with fail
            refine (A4.out w3).mono ?_
            rintro e w4 ⟨rfl, g4⟩
            go_wp2
            go_ret
            exact ⟨by simp, Nm.Nb (Nm.Nb (Nm.Nb g1 g2) g3) g4⟩
        | true =>
          go_enter Tryd.func21, Tryd.ntmps21
          go_wp2_with fail
          refine (A1.out w).mono ?_
          rintro e w1 ⟨rfl, g1⟩
          go_wp2_with fail
          refine (A2.out w1).mono ?_
          rintro e w2 ⟨rfl, g2⟩
          go_wp2_with fail
          refine (A3.out w2).mono ?_
          rintro e w3 ⟨rfl, g3⟩
          go_wp2
          go_ret
          exact ⟨by simp, Nm.Nb (Nm.Nb g1 g2) g3⟩
    | true =>
      go_enter Tryd.func21, Tryd.ntmps21
      go_wp2_with fail
      refine (A1.out w).mono ?_
      rintro e w1 ⟨rfl, g1⟩
      go_wp2
      go_ret
      exact ⟨by simp, g1⟩
  have n1 : (k == 1) = false := by simpa using hk1
  have n2 : (k == 2) = false := by simpa using hk2
  have n3 : (k == 3) = false := by simpa using hk3
  have n4 : (k == 4) = false := by simpa using hk4
  rw [show Nm.sc k = 0 from by unfold Nm.sc; rw [if_neg (by omega)], Nm.ln_0]
  go_enter Tryd.func21, Tryd.ntmps21
  go_wp2
  go_ret
  exact ⟨by simp, Below.refl _ _⟩
end Go.Proofs.YtcjlnmfbanknhaaDoor
