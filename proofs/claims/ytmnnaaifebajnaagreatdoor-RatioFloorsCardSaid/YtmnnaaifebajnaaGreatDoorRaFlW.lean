/- RatioFloors: floors. -/
import Derived.Test.YtmnnaaifebajnaaGreatDoorRaFlA
set_option linter.unusedSimpArgs false
set_option linter.unusedVariables false
namespace Go.Proofs.YtmnnaaifebajnaaGreatDoor
open Go.RowKit
open Ra (Fit)
set_option maxRecDepth 100000

theorem int_fit (m : Int) (h1 : -9223372036854775808 ≤ m) (h2 : m ≤ 9223372036854775807) : Fit L140 (m : Rat) := by
  have : 10 ^ 20 ≤ L140 := Nat.pow_le_pow_right (by omega) (by omega)
  refine ⟨?_, ?_⟩
  · rw [Rat.num_intCast]
    omega
  · rw [Rat.den_intCast]
    omega
theorem of_one (m : Int) : ofF5 m 1 = (rf (m : Rat), 0) := by
  unfold ofF5
  rw [if_neg (by omega)]
  congr 2
  show (m : Rat) / (1 : Rat) = m
  grind
theorem sgn_ge {q : Rat} (h : 0 ≤ q) : 0 ≤ sgn q := by
  unfold sgn
  split
  · omega
  · rw [if_neg (by grind)]
    omega
theorem sgn_lt {q : Rat} (h : q < 0) : sgn q < 0 := by
  unfold sgn
  rw [if_neg (by grind), if_pos h]
  omega

theorem floors_walk (a : R3) (m : Int) (w : World) (hP : Px w.heap.size w) (ha : a.2.1.size ≤ maxLen ∧ a.2.2.size ≤ maxLen) (hm : (Go.Lit.int .i64 m).wf = true) :
    Calls Tryz.prog 8 #[rV a, .int .i64 m] w fun e w' => e = .returned (.bool true) ∧ Below w.heap.size w w' := by
  obtain ⟨m0, m1⟩ : IntKind.i64.min ≤ m ∧ m ≤ IntKind.i64.max := by simpa [Go.Lit.wf] using hm
  change -9223372036854775808 ≤ m at m0
  change m ≤ 9223372036854775807 at m1
  have H := Lib.hid (fun v (h : Below w.heap.size w v) => head_any v (hP.bt h))
  have P := fun v (h : Below w.heap.size w v) => (hP.bt h).1
  have OI := Lib.hid (fun v (h : Below w.heap.size w v) => opOf m 1 v (P v h) ⟨m0, m1⟩ (by omega))
  rw [of_one] at OI
  have fl : (m : Rat).floor = m := Rat.floor_intCast m
  have FI := Lib.hid (fun v (h : Below w.heap.size w v) => floorQ (m : Rat) v (P v h) (fit140 (int_fit m m0 m1)) (by rw [fl]; exact ⟨m0, m1⟩))
  rw [fl] at FI
  by_cases hs : ∀ x ∈ [a.2.1, a.2.2], x.size ≤ 100
  · have VA := Lib.hid (fun v (h : Below w.heap.size w v) => valid_any a v (P v h) ha.1 ha.2)
    have FA := Lib.hid (fun v (h : Below w.heap.size w v) => opFloor a v (P v h) ha)
    cases va : vR a
    · rw [va] at VA
      exact floors_early1 (m := m) (zna := ha.1) (zda := ha.2) (w := w) (H := H) (OI := OI) (FI := FI) (VA := VA)
    · rw [va] at VA
      unfold floorF at FA
      rw [va, if_neg (by simp)] at FA
      obtain ⟨q, hq, rfl⟩ := vR_ex va
      rw [qv_rf] at FA
      simp only [List.mem_cons, List.not_mem_nil, or_false, forall_eq_or_imp, forall_eq] at hs
      have dq := dg_of (by omega) hs.1 hs.2
      by_cases hr : -9223372036854775808 ≤ q.floor ∧ q.floor ≤ 9223372036854775807
      · rw [if_pos hr] at FA
        by_cases he : q.floor = 9223372036854775807
        · exact floors_end (m := m) (zna := ha.1) (zda := ha.2) (k := q.floor) (hw := by rw [IntKind.wrap_i64]; omega) (hk := by omega) (w := w) (H := H) (OI := OI) (FI := FI) (VA := VA) (FA := FA)
        · have OK := Lib.hid (fun v (h : Below w.heap.size w v) => lof q.floor 1 v (P v h) hr (by omega))
          have OL := Lib.hid (fun v (h : Below w.heap.size w v) => lof (q.floor + 1) 1 v (P v h) (by omega) (by omega))
          rw [of_one] at OK OL
          have C1 := Lib.hid (fun v (h : Below w.heap.size w v) => cmpQ' q (q.floor : Rat) v (P v h) (dq.fit (by omega)) (int_fit _ hr.1 hr.2))
          have C2 := Lib.hid (fun v (h : Below w.heap.size w v) => cmpQ' q ((q.floor + 1 : Int) : Rat) v (P v h) (dq.fit (by omega)) (int_fit _ (by omega) (by omega)))
          have g1 : (q.floor : Rat) ≤ q := Rat.floor_le q
          have g2 : q < ((q.floor + 1 : Int) : Rat) := Rat.lt_floor_add_one q
          exact floors_ok (m := m) (zna := ha.1) (zda := ha.2) (k := q.floor) (k2 := q.floor + 1) (hw := by rw [IntKind.wrap_i64]; omega) (hk := by omega) (x := sgn (q - (q.floor : Rat))) (y := sgn (q - ((q.floor + 1 : Int) : Rat))) (hx := sgn_ge (by grind)) (hy := sgn_lt (by grind)) (w := w) (H := H) (OI := OI) (FI := FI) (VA := VA) (FA := FA) (OK := OK) (OL := OL) (C1 := C1) (C2 := C2)
      · rw [if_neg hr] at FA
        exact floors_range (m := m) (zna := ha.1) (zda := ha.2) (w := w) (H := H) (OI := OI) (FI := FI) (VA := VA) (FA := FA)
  · exact floors_early0 (sa := a.1) (m := m) (zna := ha.1) (zda := ha.2) (hns := hs) (w := w) (H := H) (OI := OI) (FI := FI)
end Go.Proofs.YtmnnaaifebajnaaGreatDoor
