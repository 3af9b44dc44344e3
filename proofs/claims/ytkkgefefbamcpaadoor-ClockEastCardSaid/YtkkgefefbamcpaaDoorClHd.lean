/- The chapter's examples: the law's head returns true (layer 6). -/
import Derived.Test.YtkkgefefbamcpaaDoorClH
set_option linter.unusedSimpArgs false
set_option linter.unusedVariables false
namespace Go.Proofs.YtkkgefefbamcpaaDoor
open Go.RowKit
set_option maxRecDepth 100000

theorem sample_two (w : World) :
    Calls Tryd.prog 25 #[] w fun e w' => ∃ b, e = .returned (.agg #[.slice (some ⟨b, 0, none⟩) 2 2]) ∧ Zn w' w'.heap.size (some ⟨b, 0, none⟩) sampleZ ∧ Below w.heap.size w w' := sample_any w

set_option maxHeartbeats 4000000 in
theorem head_any (w : World) (hp : PowC w.heap.size w) : Calls Tryd.prog 11 #[] w fun e w' => e = .returned (.bool true) ∧ Below w.heap.size w w' := by
  have S := Lib.hid (sample_two w)
  have HP := Lib.hid hp
  clear hp
  go_enter Tryd.func11, Tryd.ntmps11
  go_wp2_with fail
  refine S.out.mono ?_
  rintro e w1 ⟨b, rfl, hz, hb1⟩
  have HB := Lib.hid hb1
  have HZ := Lib.hid hz
  have hc := (Boxed.new w1 24 (.slice (some ⟨b, 0, none⟩) 2 2)).cell
  have hb := Cl.al w1 (.cells #[.slice (some ⟨b, 0, none⟩) 2 2] 24)
  clear hz hb1 S
  have C0 : Hid (∀ v, Below w1.heap.size w1 v → Calls Tryd.prog 13 #[.agg #[.slice (some ⟨b, 0, none⟩) 2 2], .int .i64 9999] v fun e w' => e = .returned (.tuple #[.int .i64 6, .int .i64 1419, .int .i64 0]) ∧ Below v.heap.size v w') := Lib.hid (fun v h => by
    have := local_any (some ⟨b, 0, none⟩) 2 sampleZ 9999 v (HZ.out.bt h)
    rw [sample_l1] at this
    exact this)
  go_wp2_with fail
  refine (C0.out _ hb).mono ?_
  clear C0
  rintro e v0 ⟨rfl, g⟩
  have hb' := Cl.Nb hb g
  have hc' := Cl.cell_bt hc g
  clear g hb hc
  have hb := hb'
  have hc := hc'
  clear hb' hc'
  have C1 : Hid (∀ v, Below w1.heap.size w1 v → Calls Tryd.prog 13 #[.agg #[.slice (some ⟨b, 0, none⟩) 2 2], .int .i64 10000] v fun e w' => e = .returned (.tuple #[.int .i64 7, .int .i64 40, .int .i64 0]) ∧ Below v.heap.size v w') := Lib.hid (fun v h => by
    have := local_any (some ⟨b, 0, none⟩) 2 sampleZ 10000 v (HZ.out.bt h)
    rw [sample_l2] at this
    exact this)
  go_wp2_with fail
  refine (C1.out _ hb).mono ?_
  clear C1
  rintro e v1 ⟨rfl, g⟩
  have hb' := Cl.Nb hb g
  have hc' := Cl.cell_bt hc g
  clear g hb hc
  have hb := hb'
  have hc := hc'
  clear hb' hc'
  have C2 : Hid (∀ v, Below w1.heap.size w1 v → Calls Tryd.prog 15 #[.agg #[.slice (some ⟨b, 0, none⟩) 2 2], .int .i64 7, .int .i64 0] v fun e w' => e = .returned (.tuple #[.int .i64 10000, .int .i64 0]) ∧ Below v.heap.size v w') := Lib.hid (fun v h => by
    have := instant_any (some ⟨b, 0, none⟩) 2 sampleZ 7 0 v (HZ.out.bt h)
    rw [sample_i] at this
    exact this)
  go_wp2_with fail
  refine (C2.out _ hb).mono ?_
  clear C2
  rintro e v2 ⟨rfl, g⟩
  have hb' := Cl.Nb hb g
  have hc' := Cl.cell_bt hc g
  clear g hb hc
  have hb := hb'
  have hc := hc'
  clear hb' hc'
  have C3 : Hid (∀ v, Below w1.heap.size w1 v → Calls Tryd.prog 17 #[.agg #[.slice (some ⟨b, 0, none⟩) 2 2], .int .i64 1] v fun e w' => e = .returned (.tuple #[.int .i64 1380, .int .i64 0]) ∧ Below v.heap.size v w') := Lib.hid (fun v h => by
    have := begin_any (some ⟨b, 0, none⟩) 2 sampleZ 1 v (HZ.out.bt h)
    rw [sample_b1] at this
    exact this)
  go_wp2_with fail
  refine (C3.out _ hb).mono ?_
  clear C3
  rintro e v3 ⟨rfl, g⟩
  have hb' := Cl.Nb hb g
  have hc' := Cl.cell_bt hc g
  clear g hb hc
  have hb := hb'
  have hc := hc'
  clear hb' hc'
  have C4 : Hid (∀ v, Below w1.heap.size w1 v → Calls Tryd.prog 17 #[.agg #[.slice (some ⟨b, 0, none⟩) 2 2], .int .i64 0] v fun e w' => e = .returned (.tuple #[.int .i64 0, .int .i64 0]) ∧ Below v.heap.size v w') := Lib.hid (fun v h => by
    have := begin_any (some ⟨b, 0, none⟩) 2 sampleZ 0 v (HZ.out.bt h)
    rw [sample_b0] at this
    exact this)
  go_wp2_with fail
  refine (C4.out _ hb).mono ?_
  clear C4
  rintro e v4 ⟨rfl, g⟩
  have hb' := Cl.Nb hb g
  have hc' := Cl.cell_bt hc g
  clear g hb hc
  have hb := hb'
  have hc := hc'
  clear hb' hc'
  have C5 : Hid (∀ v, Below w1.heap.size w1 v → Calls Tryd.prog 18 #[.int .i64 17705] v fun e w' => e = .returned (.tuple #[.string ⟨#[49, 50, 47, 48, 55, 58, 48, 53]⟩, .int .i64 0]) ∧ Below v.heap.size v w') := Lib.hid (fun v h => by
    have := text_any 17705 v (HP.out.bt (Cl.Nb HB.out h))
    rw [sample_t] at this
    exact this)
  go_wp2_with fail
  refine (C5.out _ hb).mono ?_
  clear C5
  rintro e v5 ⟨rfl, g⟩
  have hb' := Cl.Nb hb g
  have hc' := Cl.cell_bt hc g
  clear g hb hc
  have hb := hb'
  have hc := hc'
  clear hb' hc'
  have C6 : Hid (∀ v, Below w1.heap.size w1 v → Calls Tryd.prog 20 #[.string ⟨#[49, 50, 47, 48, 55, 58, 48, 53]⟩] v fun e w' => e = .returned (.tuple #[.int .i64 17705, .int .i64 0]) ∧ Below v.heap.size v w') := Lib.hid (fun v h => by
    have := parse_any ⟨#[49, 50, 47, 48, 55, 58, 48, 53]⟩ v (by decide) (HP.out.bt (Cl.Nb HB.out h))
    rw [sample_p] at this
    exact this)
  go_wp2_with fail
  refine (C6.out _ hb).mono ?_
  clear C6
  rintro e v6 ⟨rfl, g⟩
  have hb' := Cl.Nb hb g
  have hc' := Cl.cell_bt hc g
  clear g hb hc
  have hb := hb'
  have hc := hc'
  clear hb' hc'
  have C7 : Hid (∀ v, Below w1.heap.size w1 v → Calls Tryd.prog 20 #[.string ⟨#[49, 50, 47, 55, 58, 48, 53]⟩] v fun e w' => e = .returned (.tuple #[.int .i64 0, .int .i64 5]) ∧ Below v.heap.size v w') := Lib.hid (fun v h => by
    have := parse_any ⟨#[49, 50, 47, 55, 58, 48, 53]⟩ v (by decide) (HP.out.bt (Cl.Nb HB.out h))
    rw [sample_q] at this
    exact this)
  go_wp2_with fail
  refine (C7.out _ hb).mono ?_
  clear C7
  rintro e v7 ⟨rfl, g⟩
  have hb' := Cl.Nb hb g
  have hc' := Cl.cell_bt hc g
  clear g hb hc
  have hb := hb'
  have hc := hc'
  clear hb' hc'
  have C8 : Hid (∀ v, Below w1.heap.size w1 v → Calls Tryd.prog 22 #[.agg #[.slice (some ⟨b, 0, none⟩) 2 2]] v fun e w' => e = .returned (.bool true) ∧ Below v.heap.size v w') := Lib.hid (fun v h => by
    have := valid_any (some ⟨b, 0, none⟩) 2 sampleZ v (HZ.out.bt h)
    rw [sample_valid] at this
    exact this)
  go_wp2_with fail
  refine (C8.out _ hb).mono ?_
  clear C8
  rintro e v8 ⟨rfl, g⟩
  have hb' := Cl.Nb hb g
  have hc' := Cl.cell_bt hc g
  clear g hb hc
  have hb := hb'
  have hc := hc'
  clear hb' hc'
  go_wp2_with fail
  go_ret
  exact ⟨rfl, Cl.Nb HB.out hb⟩
end Go.Proofs.YtkkgefefbamcpaaDoor
