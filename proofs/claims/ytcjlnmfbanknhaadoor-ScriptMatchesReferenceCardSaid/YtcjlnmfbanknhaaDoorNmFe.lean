/- Layer 9: the reference's Few; what ScriptTexts says, of lists. -/
import Derived.Test.YtcjlnmfbanknhaaDoorNmBW
set_option linter.unusedSimpArgs false
set_option linter.unusedVariables false
namespace Go.Proofs.YtcjlnmfbanknhaaDoor
open Go.RowKit Go.Shelf
set_option maxRecDepth 100000
set_option maxHeartbeats 1000000
def Nm.s100 (x : ByteArray) : Bool := decide (x.size ≤ 100)
def Nm.fw (ss : List ByteArray) : Bool := (ss.take 20).all Nm.s100 && decide (ss.length ≤ 20)
theorem Nm.few_any (k : Int) (A : Option Addr) (c : Nat) (ss : List ByteArray) (w : World) (hs : Strs w w.heap.size A ss) (hl : ss.length ≤ maxLen) :
    Calls Tryd.prog 5 #[.agg #[.int .i64 k, .slice A ss.length c]] w fun e w' => e = .returned (.bool (Nm.fw ss)) ∧ Below w.heap.size w w' := by
  unfold maxLen at hl
  have hB := Nm.al w (.cells #[.int .i64 k, .slice A ss.length c] 24)
  have HS := Lib.hid (Nm.sbt hs hB)
  have HB := Lib.hid hB
  have hz := heap_alloc_new w (.cells #[.int .i64 k, .slice A ss.length c] 24)
  have z0 : (w.alloc (.cells #[.int .i64 k, .slice A ss.length c] 24)).cell? ⟨w.heap.size, 0, none⟩ = some (.int .i64 k) := Nm.cell_h hz 0
  have z1 : (w.alloc (.cells #[.int .i64 k, .slice A ss.length c] 24)).cell? ⟨w.heap.size, 1, none⟩ = some (.slice A ss.length c) := Nm.cell_h hz 1
  obtain ⟨n, hn⟩ : ∃ n, ss.length = n := ⟨_, rfl⟩
  rw [hn] at hl HS HB z0 z1 ⊢
  have HN := Lib.hid hn
  clear hs hn hB hz
  go_enter Tryd.func5, Tryd.ntmps5
  go_wp2
  generalize hVV : w.alloc (.cells #[.int .i64 k, .slice A n c] 24) = V at *
  go_loop [3] (fun s3 => ∃ i : Nat, i ≤ n ∧ i ≤ 20 ∧ s3 = .int .i64 (i : Int) ∧ Hid ((ss.take i).all Nm.s100 = true)) (fun s3 => n - (intOf s3).toNat)
  case atStart => exact ⟨0, by omega, by omega, rfl, Lib.hid rfl⟩
  case round =>
    obtain ⟨i, hi, hi2, rfl, HE⟩ := hrel
    by_cases hlt : i < n
    · by_cases h20 : i < 20
      · obtain ⟨ad, rfl, had, hx⟩ := HS.out i (by rw [HN.out]; exact hlt)
        have htk := Nm.getD_take (ss := ss) (i := i) (by rw [HN.out]; exact hlt)
        obtain ⟨x, hxx⟩ : ∃ x, ss.getD i ByteArray.empty = x := ⟨_, rfl⟩
        rw [hxx] at hx htk
        have HALL : Hid ((ss.take (i + 1)).all Nm.s100 = Nm.s100 x) := Lib.hid (by rw [htk, List.all_append, HE.out]; simp)
        clear htk hxx
        by_cases h200 : x.size ≤ 100
        · have hd : decide ((100 : Int) < (x.size : Int)) = false := decide_eq_false (by omega)
          have HX : Hid (Nm.s100 x = true) := Lib.hid (decide_eq_true h200)
          clear h200
          go_wp2
          exact ⟨⟨i + 1, by omega, by omega, by go_num, Lib.hid (by rw [HALL.out, HX.out])⟩, by simp [intOf]; omega⟩
        · have hd : decide ((100 : Int) < (x.size : Int)) = true := decide_eq_true (by omega)
          have HF : Hid (Nm.fw ss = false) := Lib.hid (by
            have h1 := HALL.out
            rw [show Nm.s100 x = false from decide_eq_false h200] at h1
            unfold Nm.fw
            cases hc : (ss.take 20).all Nm.s100 with
            | false => rfl
            | true =>
              have h2 : (ss.take (i + 1)).all Nm.s100 = true := List.all_eq_true.2 fun y hy => List.all_eq_true.1 hc y (by
                rw [show ss.take (i + 1) = (ss.take 20).take (i + 1) from by rw [List.take_take, Nat.min_eq_left (by omega)]] at hy
                exact List.mem_of_mem_take hy)
              rw [h2] at h1
              cases h1)
          clear h200
          go_wp2
          go_ret
          exact ⟨congrArg (fun z => Ending.returned (.bool z)) HF.out.symm, HB.out⟩
      · obtain rfl : i = 20 := by omega
        have HF : Hid (Nm.fw ss = false) := Lib.hid (by
          unfold Nm.fw
          rw [show decide (ss.length ≤ 20) = false from decide_eq_false (by rw [HN.out]; omega), Bool.and_false])
        have hd : decide ((n : Int) ≤ 20) = false := decide_eq_false (by omega)
        go_wp2
        go_ret
        exact ⟨congrArg (fun z => Ending.returned (.bool z)) HF.out.symm, HB.out⟩
    · obtain rfl : i = n := by omega
      have HF : Hid (Nm.fw ss = true) := Lib.hid (by
        have h1 := HE.out
        rw [List.take_of_length_le (by rw [HN.out]; exact Nat.le_refl _)] at h1
        unfold Nm.fw
        rw [List.take_of_length_le (by rw [HN.out]; exact hi2), h1, decide_eq_true (by rw [HN.out]; exact hi2)]
        rfl)
      have hd : decide ((i : Int) ≤ 20) = true := decide_eq_true (by omega)
      go_wp2
      go_ret
      exact ⟨congrArg (fun z => Ending.returned (.bool z)) HF.out.symm, HB.out⟩
/-! ### texts of names -/
theorem Nm.parse_text {s : Nat} (h1 : 1 ≤ s) (h4 : s ≤ 4) {ws : List Nm.T} (h : Nm.okN s ws = true) : Nm.parse (Nm.textL s ws) = ⟨s, ws, 0, 0⟩ := by
  have hl := Nm.textL_le h
  obtain ⟨hw, g1, g6⟩ := Nm.okN_iff h
  have := Nm.scan_words s ws [] (List.length_pos_iff.1 g1) hw (by simpa using g6)
  unfold Nm.textL at hl ⊢
  rw [Nm.parse_title h1 h4 (by omega), this]
  rfl
theorem Nm.text_inj {s t : Nat} (h1 : 1 ≤ s) (h4 : s ≤ 4) (k1 : 1 ≤ t) (k4 : t ≤ 4) {ws vs : List Nm.T} (h : Nm.okN s ws = true) (k : Nm.okN t vs = true) (he : Nm.textL s ws = Nm.textL t vs) : s = t ∧ ws = vs := by
  have a := Nm.parse_text h1 h4 h
  rw [he, Nm.parse_text k1 k4 k] at a
  have := Nm.PR.mk.inj a
  exact ⟨this.1.symm, this.2.1.symm⟩
theorem Nm.own_len {t : Nm.T} (he : (Nm.parse t).e = 0) : 1 ≤ (Nm.parse t).s ∧ (Nm.parse t).s ≤ 4 ∧ Nm.okN (Nm.parse t).s (Nm.parse t).ws = true ∧ (Nm.textL (Nm.parse t).s (Nm.parse t).ws).length ≤ t.length := by
  rcases Nm.parse_cases t with ⟨_, _, s, hs, h1, h4, hv, hj⟩ | ⟨h, _⟩
  · rw [hs]
    refine ⟨h1, h4, hv, ?_⟩
    have hn := (Nm.okN_iff hv).2.1
    have := Nm.join_len (Nm.parse t).ws (List.length_pos_iff.1 hn)
    unfold Nm.textL
    rw [List.length_append]
    omega
  · exact absurd he h
end Go.Proofs.YtcjlnmfbanknhaaDoor
