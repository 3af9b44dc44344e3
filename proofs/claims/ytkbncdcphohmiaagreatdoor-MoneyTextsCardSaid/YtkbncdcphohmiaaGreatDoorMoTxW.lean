/- MoneyTexts. -/
import Derived.Test.YtkbncdcphohmiaaGreatDoorMoTx
set_option linter.unusedSimpArgs false
set_option linter.unusedVariables false
namespace Go.Proofs.YtkbncdcphohmiaaGreatDoor
open Go.RowKit
set_option maxRecDepth 100000

theorem Mo.parse_text {c : ByteArray} {u : Int} (h : Mo.proper c.data.toList u = true) : Mo.parseF (Mo.textV c u) = ((c, u), 0) := by
  rw [Mo.parse_yes h (by unfold Mo.textV; simp)]
theorem Mo.parse_back {t : ByteArray} : (Mo.parseF t = ((⟨#[]⟩, 0), 5)) ∨ ∃ (c : ByteArray) (u : Int), Mo.parseF t = ((c, u), 0) ∧ Mo.proper c.data.toList u = true ∧ Mo.textV c u = t := by
  unfold Mo.parseF
  cases ha : Mo.amt t.data.toList with
  | none => exact .inl rfl
  | some p =>
    obtain ⟨c, u⟩ := p
    obtain ⟨h1, h2⟩ := Mo.amt_some ha
    refine .inr ⟨⟨c.toArray⟩, u, rfl, by simpa using h1, ?_⟩
    rw [Mo.ba_eq, h2]
    unfold Mo.textV
    simp
set_option maxHeartbeats 4000000 in
theorem texts_walk (c : ByteArray) (u : Int) (t : ByteArray) (w : World) (hP : Mo.Pa w.heap.size w) (hc : c.size ≤ maxLen) (hu : (Go.Lit.int .i64 u).wf = true) (ht : t.size ≤ maxLen) :
    Calls Tryz.prog 9 #[.agg #[.string c, .int .i64 u], .string t] w fun e w' => e = .returned (.bool true) ∧ Below w.heap.size w w' := by
  have H := Lib.hid (fun v (h : Below w.heap.size w v) => Mo.head_any v (hP.bt h).pm)
  have hb0 := Mo.al w (.cells #[.string c, .int .i64 u] 24)
  have K0 := Bk.new w 24 #[.string c, .int .i64 u]
  unfold maxLen at hc ht
  by_cases h1 : (60 : Int) < (t.size : Int)
  · go_enter Tryz.func9, Tryz.ntmps9
    go_wp2_with fail
    refine (H.out _ hb0).mono ?_
    rintro e w1 ⟨rfl, g⟩
    have hb1 := Mo.Nb hb0 g
    clear g hb0 K0
    go_wp2
    go_ret
    exact ⟨rfl, hb1⟩
  · by_cases h2 : (60 : Int) < (c.size : Int)
    · go_enter Tryz.func9, Tryz.ntmps9
      go_wp2_with fail
      refine (H.out _ hb0).mono ?_
      rintro e w1 ⟨rfl, g⟩
      have hb1 := Mo.Nb hb0 g
      have K1 := K0.bt g
      clear g hb0 K0
      have a0 := K1.cell 0 _ rfl
      go_wp2
      go_ret
      exact ⟨rfl, hb1⟩
    · have CT := Lib.hid (fun v (h : Below w.heap.size w v) => Mo.text_any c u v (hP.bt h) (by unfold maxLen; omega))
      have CP := Lib.hid (fun v (h : Below w.heap.size w v) => Mo.parse_any t v (hP.bt h) (by omega))
      have CQ : Hid (∀ (c : ByteArray) (u : Int), Mo.proper c.data.toList u = true → ∀ v, Below w.heap.size w v → Calls Tryz.prog 17 #[.string (Mo.textV c u)] v fun e w' => e = .returned (.tuple #[.agg #[.string c, .int .i64 u], .int .i64 0]) ∧ Below v.heap.size v w') := Lib.hid (fun c u hp v h => by
        have e1 : (Mo.textV c u).size ≤ 100 := by
          have := Mo.textF_size (c := c) (u := u)
          unfold Mo.textF at this
          rw [if_pos hp] at this
          simp only at this
          omega
        have := Mo.parse_any (Mo.textV c u) v (hP.bt h) e1
        rw [Mo.parse_text hp] at this
        exact this)
      have CU : Hid (∀ (c : ByteArray) (u : Int), Mo.proper c.data.toList u = true → ∀ v, Below w.heap.size w v → Calls Tryz.prog 15 #[.agg #[.string c, .int .i64 u]] v fun e w' => e = .returned (.tuple #[.string (Mo.textV c u), .int .i64 0]) ∧ Below v.heap.size v w') := Lib.hid (fun c u hp v h => by
        have := Mo.text_any c u v (hP.bt h) (by have := (Mo.proper_parts hp).1; unfold maxLen; omega)
        unfold Mo.textF at this
        rw [if_pos hp] at this
        exact this)
      have HB := Lib.hid (Mo.parse_back (t := t))
      unfold Mo.textF at CT
      cases hp : Mo.proper c.data.toList u with
      | false =>
        rw [if_neg (by rw [hp]; simp)] at CT
        rcases HB.out with hR | ⟨c', u', hR, hp', ht'⟩
        · rw [hR] at CP
          clear CQ CU HB hR hp hP hu
          go_enter Tryz.func9, Tryz.ntmps9
          go_wp2_with fail
          refine (H.out _ hb0).mono ?_
          rintro e w1 ⟨rfl, g⟩
          have hb1 := Mo.Nb hb0 g
          have K1 := K0.bt g
          clear g hb0 K0
          have a0 := K1.cell 0 _ rfl
          have a1 := K1.cell 1 _ rfl
          go_wp2_with fail
          refine (CT.out _ hb1).mono ?_
          rintro e w2 ⟨rfl, g⟩
          have hb2 := Mo.Nb hb1 g
          clear g hb1 K1 a0 a1
          go_wp2_with fail
          refine (CP.out _ hb2).mono ?_
          rintro e w3 ⟨rfl, g⟩
          have hb3 := Mo.Nb (Mo.Nb hb2 g) (Mo.al w3 (.cells #[.string ⟨#[]⟩, .int .i64 0] 24))
          clear g hb2
          go_wp2_with fail
          go_ret
          exact ⟨rfl, hb3⟩
        · rw [hR] at CP
          have CV := Lib.hid (CU.out c' u' hp')
          rw [ht'] at CV
          clear CQ CU HB hR hp hP hu hp' ht'
          go_enter Tryz.func9, Tryz.ntmps9
          go_wp2_with fail
          refine (H.out _ hb0).mono ?_
          rintro e w1 ⟨rfl, g⟩
          have hb1 := Mo.Nb hb0 g
          have K1 := K0.bt g
          clear g hb0 K0
          have a0 := K1.cell 0 _ rfl
          have a1 := K1.cell 1 _ rfl
          go_wp2_with fail
          refine (CT.out _ hb1).mono ?_
          rintro e w2 ⟨rfl, g⟩
          have hb2 := Mo.Nb hb1 g
          clear g hb1 K1 a0 a1
          go_wp2_with fail
          refine (CP.out _ hb2).mono ?_
          rintro e w3 ⟨rfl, g⟩
          have hb3 := Mo.Nb (Mo.Nb hb2 g) (Mo.al w3 (.cells #[.string c', .int .i64 u'] 24))
          clear g hb2
          go_wp2_with fail
          refine (CV.out _ hb3).mono ?_
          rintro e w4 ⟨rfl, g⟩
          have hb4 := Mo.Nb hb3 g
          clear g hb3
          go_wp2_with fail
          go_ret
          exact ⟨rfl, hb4⟩
      | true =>
        obtain ⟨_, hu1, hu2⟩ := Mo.proper_parts hp
        rw [if_pos hp] at CT
        have CW := Lib.hid (CQ.out c u hp)
        generalize Mo.textV c u = s at *
        rcases HB.out with hR | ⟨c', u', hR, hp', ht'⟩
        · rw [hR] at CP
          clear CQ CU HB hR hp hP hu
          go_enter Tryz.func9, Tryz.ntmps9
          go_wp2_with fail
          refine (H.out _ hb0).mono ?_
          rintro e w1 ⟨rfl, g⟩
          have hb1 := Mo.Nb hb0 g
          have K1 := K0.bt g
          clear g hb0 K0
          have a0 := K1.cell 0 _ rfl
          have a1 := K1.cell 1 _ rfl
          go_wp2_with fail
          refine (CT.out _ hb1).mono ?_
          rintro e w2 ⟨rfl, g⟩
          have hb2 := Mo.Nb hb1 g
          have K2 := K1.bt g
          clear g hb1 K1 a0 a1
          go_wp2_with fail
          refine (CW.out _ hb2).mono ?_
          rintro e w3 ⟨rfl, g⟩
          have hb3 := Mo.Nb (Mo.Nb hb2 g) (Mo.al w3 (.cells #[.string c, .int .i64 u] 24))
          have K3 := (K2.bt g).bt (Mo.al w3 (.cells #[.string c, .int .i64 u] 24))
          clear g hb2 K2
          have a0 := K3.cell 0 _ rfl
          have a1 := K3.cell 1 _ rfl
          go_wp2_with fail
          refine (CP.out _ hb3).mono ?_
          rintro e w4 ⟨rfl, g⟩
          have hb4 := Mo.Nb (Mo.Nb hb3 g) (Mo.al w4 (.cells #[.string ⟨#[]⟩, .int .i64 0] 24))
          clear g hb3 K3 a0 a1
          go_wp2_with fail
          go_ret
          exact ⟨rfl, hb4⟩
        · rw [hR] at CP
          have CV := Lib.hid (CU.out c' u' hp')
          rw [ht'] at CV
          clear CQ CU HB hR hp hP hu hp' ht'
          go_enter Tryz.func9, Tryz.ntmps9
          go_wp2_with fail
          refine (H.out _ hb0).mono ?_
          rintro e w1 ⟨rfl, g⟩
          have hb1 := Mo.Nb hb0 g
          have K1 := K0.bt g
          clear g hb0 K0
          have a0 := K1.cell 0 _ rfl
          have a1 := K1.cell 1 _ rfl
          go_wp2_with fail
          refine (CT.out _ hb1).mono ?_
          rintro e w2 ⟨rfl, g⟩
          have hb2 := Mo.Nb hb1 g
          have K2 := K1.bt g
          clear g hb1 K1 a0 a1
          go_wp2_with fail
          refine (CW.out _ hb2).mono ?_
          rintro e w3 ⟨rfl, g⟩
          have hb3 := Mo.Nb (Mo.Nb hb2 g) (Mo.al w3 (.cells #[.string c, .int .i64 u] 24))
          have K3 := (K2.bt g).bt (Mo.al w3 (.cells #[.string c, .int .i64 u] 24))
          clear g hb2 K2
          have a0 := K3.cell 0 _ rfl
          have a1 := K3.cell 1 _ rfl
          go_wp2_with fail
          refine (CP.out _ hb3).mono ?_
          rintro e w4 ⟨rfl, g⟩
          have hb4 := Mo.Nb (Mo.Nb hb3 g) (Mo.al w4 (.cells #[.string c', .int .i64 u'] 24))
          clear g hb3 K3 a0 a1
          go_wp2_with fail
          refine (CV.out _ hb4).mono ?_
          rintro e w5 ⟨rfl, g⟩
          have hb5 := Mo.Nb hb4 g
          clear g hb4
          go_wp2_with fail
          go_ret
          exact ⟨rfl, hb5⟩
end Go.Proofs.YtkbncdcphohmiaaGreatDoor
