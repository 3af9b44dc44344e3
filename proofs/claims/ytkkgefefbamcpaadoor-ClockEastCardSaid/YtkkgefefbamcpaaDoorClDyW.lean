/- ClockDays: the walk (layer 6). -/
import Derived.Test.YtkkgefefbamcpaaDoorClHd
import Derived.Test.YtkkgefefbamcpaaDoorClBkW
import Derived.Lib.QuietBelow
import Derived.Deep.QuietTactic
set_option linter.unusedSimpArgs false
set_option linter.unusedVariables false
namespace Go.Proofs.YtkkgefefbamcpaaDoor
open Go.RowKit
set_option maxRecDepth 100000

theorem Cl.wrapK {n : Int} (h : -9223372036854775808 ≤ n ∧ n ≤ 9223372036854775807) : IntKind.i64.wrap n = n := by
  rw [IntKind.wrap_i64]
  omega
theorem Cl.days_fact {zs : List Cl.Sh} (hv : Cl.vz zs = true) {d : Int} (h0 : 0 ≤ d) (h1 : d ≤ 100000) :
    (Cl.instF zs d 0 = (0, 10) ∧ Cl.instF zs (d + 1) 0 = (0, 10)) ∨
    ∃ a, Cl.instF zs d 0 = (a, 0) ∧ 0 ≤ a ∧ a ≤ 144001439 ∧ (Cl.instF zs (d + 1) 0 = (0, 10) ∨ ∃ b, Cl.instF zs (d + 1) 0 = (b, 0) ∧ a ≤ b) ∧
      ∀ u, 0 ≤ u → u < a → ∃ x y, Cl.locF zs u = (x, y, 0) ∧ x < d := by
  have g := Cl.good_of zs hv
  have hi := Cl.instF_ok (d := d) (m := 0) hv (by omega) (by omega)
  have hj := Cl.instF_ok (d := d + 1) (m := 0) hv (by omega) (by omega)
  rw [Cl.want_in (by omega) (by omega)] at hi hj
  cases h : Cl.inst (Cl.sp zs) (d * 1440 + 0) with
  | none =>
    left
    rw [h] at hi
    refine ⟨hi, ?_⟩
    cases k : Cl.inst (Cl.sp zs) ((d + 1) * 1440 + 0) with
    | none => rw [k] at hj; exact hj
    | some b =>
      obtain ⟨b1, b2, b3, b4⟩ := Cl.inst_some g k
      have := Cl.inst_none g h b b1 b2
      omega
  | some a =>
    right
    rw [h] at hi
    obtain ⟨a1, a2, a3, a4⟩ := Cl.inst_some g h
    have ha : a < 144001440 := a2
    refine ⟨a, hi, a1, by omega, ?_, fun u hu0 hu1 => ?_⟩
    · cases k : Cl.inst (Cl.sp zs) ((d + 1) * 1440 + 0) with
      | none => rw [k] at hj; exact .inl hj
      | some b =>
        rw [k] at hj
        refine .inr ⟨b, hj, ?_⟩
        obtain ⟨b1, b2, b3, b4⟩ := Cl.inst_some g k
        by_cases hab : a ≤ b
        · exact hab
        · have := a4 b b1 (by omega)
          omega
    · have hlt : u < Cl.M1 := by omega
      obtain ⟨l1, l2, l3, l4, l5, l6⟩ := Cl.locF_ok hv hu0 hlt
      have := a4 u hu0 hu1
      exact ⟨(Cl.locF zs u).1, (Cl.locF zs u).2.1, Prod.ext rfl (Prod.ext rfl l1), by omega⟩

set_option maxHeartbeats 1000000 in
theorem days_no (A : Option Addr) (c : Nat) (zs : List Cl.Sh) (rawDay raw : Int) (w : World) (hp : PowC w.heap.size w) (hz : Zn w w.heap.size A zs) (h : (decide ((zs.length : Int) ≤ 40) && Cl.vz zs) = false) :
    Calls Tryd.prog 7 #[.agg #[.slice A zs.length c], .int .u32 rawDay, .int .u32 raw] w fun e w' => e = .returned (.bool true) ∧ Below w.heap.size w w' := by
  have hb := Cl.al w (.cells #[.slice A zs.length c] 24)
  have hc := (Boxed.new w 24 (.slice A zs.length c)).cell
  have HH := Lib.hid (fun v (h : Below w.heap.size w v) => head_any v (hp.bt h))
  have FW := Lib.hid (fun v (_ : Below w.heap.size w v) => few_any A c zs.length 40 v)
  have HV := Lib.hid (fun v (h : Below w.heap.size w v) => valid_any A c zs v (hz.bt h))
  clear hp hz
  cases hf : decide ((zs.length : Int) ≤ 40)
  · rw [hf] at FW
    clear hf h HV
    go_enter Tryd.func7, Tryd.ntmps7
    go_wp2_with fail
    refine (HH.out _ hb).mono ?_
    rintro e v ⟨rfl, g⟩
    have hb' := Cl.Nb hb g
    have hc' := Cl.cell_bt hc g
    clear g hb hc
    have hb := hb'
    have hc := hc'
    clear hb' hc'
    go_wp2_with fail
    refine (FW.out _ hb).mono ?_
    rintro e v ⟨rfl, g⟩
    have hb' := Cl.Nb hb g
    have hc' := Cl.cell_bt hc g
    clear g hb hc
    have hb := hb'
    have hc := hc'
    clear hb' hc'
    go_wp2_with fail
    go_ret
    exact ⟨rfl, hb⟩
  · rw [hf] at FW h
    have hv : Cl.vz zs = false := by simpa using h
    rw [hv] at HV
    clear hf h hv
    go_enter Tryd.func7, Tryd.ntmps7
    go_wp2_with fail
    refine (HH.out _ hb).mono ?_
    rintro e v ⟨rfl, g⟩
    have hb' := Cl.Nb hb g
    have hc' := Cl.cell_bt hc g
    clear g hb hc
    have hb := hb'
    have hc := hc'
    clear hb' hc'
    go_wp2_with fail
    refine (FW.out _ hb).mono ?_
    rintro e v ⟨rfl, g⟩
    have hb' := Cl.Nb hb g
    have hc' := Cl.cell_bt hc g
    clear g hb hc
    have hb := hb'
    have hc := hc'
    clear hb' hc'
    go_wp2_with fail
    refine (HV.out _ hb).mono ?_
    rintro e v ⟨rfl, g⟩
    have hb' := Cl.Nb hb g
    have hc' := Cl.cell_bt hc g
    clear g hb hc
    have hb := hb'
    have hc := hc'
    clear hb' hc'
    go_wp2_with fail
    go_ret
    exact ⟨rfl, hb⟩

set_option maxHeartbeats 4000000 in
theorem days_yes (A : Option Addr) (c : Nat) (zs : List Cl.Sh) (rawDay raw : Int) (w : World) (hp : PowC w.heap.size w) (hz : Zn w w.heap.size A zs) (hv : Cl.vz zs = true) (hr0 : 0 ≤ rawDay) (hr1 : rawDay < 4294967296) (hs0 : 0 ≤ raw) (hs1 : raw < 4294967296) :
    Calls Tryd.prog 7 #[.agg #[.slice A zs.length c], .int .u32 rawDay, .int .u32 raw] w fun e w' => e = .returned (.bool true) ∧ Below w.heap.size w w' := by
  have hb := Cl.al w (.cells #[.slice A zs.length c] 24)
  have hc := (Boxed.new w 24 (.slice A zs.length c)).cell
  have HH := Lib.hid (fun v (h : Below w.heap.size w v) => head_any v (hp.bt h))
  have FW := Lib.hid (fun v (_ : Below w.heap.size w v) => few_any A c zs.length 40 v)
  have HV := Lib.hid (fun v (h : Below w.heap.size w v) => valid_any A c zs v (hz.bt h))
  have g := Cl.good_of zs hv
  have hfew := g.few
  rw [decide_eq_true (show (zs.length : Int) ≤ 40 by omega)] at FW
  rw [hv] at HV
  have hd0 : 0 ≤ rawDay % 100001 := by omega
  have hd1 : rawDay % 100001 ≤ 100000 := by omega
  rcases Cl.days_fact hv hd0 hd1 with ⟨hA, hB⟩ | ⟨a, hA, ha0', ha1', hB, hL⟩
  · have B1 : Hid (∀ v, Below w.heap.size w v → Calls Tryd.prog 17 #[.agg #[.slice A zs.length c], .int .i64 (rawDay % 100001)] v fun e w' => e = .returned (.tuple #[.int .i64 0, .int .i64 10]) ∧ Below v.heap.size v w') := Lib.hid (fun v h => by
      have := begin_any A c zs (rawDay % 100001) v (hz.bt h)
      rw [hA] at this
      exact this)
    have B2 : Hid (∀ v, Below w.heap.size w v → Calls Tryd.prog 17 #[.agg #[.slice A zs.length c], .int .i64 (rawDay % 100001 + 1)] v fun e w' => e = .returned (.tuple #[.int .i64 0, .int .i64 10]) ∧ Below v.heap.size v w') := Lib.hid (fun v h => by
      have := begin_any A c zs (rawDay % 100001 + 1) v (hz.bt h)
      rw [hB] at this
      exact this)
    clear hA hB hv hp hz g
    go_enter Tryd.func7, Tryd.ntmps7
    go_wp2_with fail
    refine (HH.out _ hb).mono ?_
    rintro e v ⟨rfl, g⟩
    have hb' := Cl.Nb hb g
    have hc' := Cl.cell_bt hc g
    clear g hb hc
    have hb := hb'
    have hc := hc'
    clear hb' hc'
    go_wp2_with fail
    refine (FW.out _ hb).mono ?_
    rintro e v ⟨rfl, g⟩
    have hb' := Cl.Nb hb g
    have hc' := Cl.cell_bt hc g
    clear g hb hc FW
    have hb := hb'
    have hc := hc'
    clear hb' hc'
    go_wp2_with fail
    refine (HV.out _ hb).mono ?_
    rintro e v ⟨rfl, g⟩
    have hb' := Cl.Nb hb g
    have hc' := Cl.cell_bt hc g
    clear g hb hc HV HH
    have hb := hb'
    have hc := hc'
    clear hb' hc'
    go_wp2_with fail
    generalize rawDay % 100001 = d at *
    refine (B1.out _ hb).mono ?_
    rintro e v ⟨rfl, g⟩
    have hb' := Cl.Nb hb g
    have hc' := Cl.cell_bt hc g
    clear g hb hc
    have hb := hb'
    have hc := hc'
    clear hb' hc'
    go_wp2_with fail
    refine (B2.out _ hb).mono ?_
    rintro e v ⟨rfl, g⟩
    have hb' := Cl.Nb hb g
    have hc' := Cl.cell_bt hc g
    clear g hb hc
    have hb := hb'
    have hc := hc'
    clear hb' hc'
    go_wp2_with fail
    go_ret
    exact ⟨rfl, hb⟩
  · rcases hB with hB | ⟨b, hB, hab⟩
    · have B1 : Hid (∀ v, Below w.heap.size w v → Calls Tryd.prog 17 #[.agg #[.slice A zs.length c], .int .i64 (rawDay % 100001)] v fun e w' => e = .returned (.tuple #[.int .i64 a, .int .i64 0]) ∧ Below v.heap.size v w') := Lib.hid (fun v h => by
        have := begin_any A c zs (rawDay % 100001) v (hz.bt h)
        rw [hA] at this
        exact this)
      have B2 : Hid (∀ v, Below w.heap.size w v → Calls Tryd.prog 17 #[.agg #[.slice A zs.length c], .int .i64 (rawDay % 100001 + 1)] v fun e w' => e = .returned (.tuple #[.int .i64 0, .int .i64 10]) ∧ Below v.heap.size v w') := Lib.hid (fun v h => by
        have := begin_any A c zs (rawDay % 100001 + 1) v (hz.bt h)
        rw [hB] at this
        exact this)
      have q2 : decide (a < 0) = false := decide_eq_false (by omega)
      have q3 : decide (144001439 < a) = false := decide_eq_false (by omega)
      by_cases ha0 : a = 0
      · subst ha0
        clear hA hB hL hv hp hz g
        go_enter Tryd.func7, Tryd.ntmps7
        go_wp2_with fail
        refine (HH.out _ hb).mono ?_
        rintro e v ⟨rfl, g⟩
        have hb' := Cl.Nb hb g
        have hc' := Cl.cell_bt hc g
        clear g hb hc
        have hb := hb'
        have hc := hc'
        clear hb' hc'
        go_wp2_with fail
        refine (FW.out _ hb).mono ?_
        rintro e v ⟨rfl, g⟩
        have hb' := Cl.Nb hb g
        have hc' := Cl.cell_bt hc g
        clear g hb hc FW
        have hb := hb'
        have hc := hc'
        clear hb' hc'
        go_wp2_with fail
        refine (HV.out _ hb).mono ?_
        rintro e v ⟨rfl, g⟩
        have hb' := Cl.Nb hb g
        have hc' := Cl.cell_bt hc g
        clear g hb hc HV HH
        have hb := hb'
        have hc := hc'
        clear hb' hc'
        go_wp2_with fail
        generalize rawDay % 100001 = d at *
        refine (B1.out _ hb).mono ?_
        rintro e v ⟨rfl, g⟩
        have hb' := Cl.Nb hb g
        have hc' := Cl.cell_bt hc g
        clear g hb hc B1
        have hb := hb'
        have hc := hc'
        clear hb' hc'
        go_wp2_with fail
        refine (B2.out _ hb).mono ?_
        rintro e v ⟨rfl, g⟩
        have hb' := Cl.Nb hb g
        have hc' := Cl.cell_bt hc g
        clear g hb hc B2
        have hb := hb'
        have hc := hc'
        clear hb' hc'
        go_wp2_with fail
        go_ret
        exact ⟨rfl, hb⟩
      · obtain ⟨x, x', hx, hxd⟩ := hL (a - 1) (by omega) (by omega)
        obtain ⟨y, y', hy, hyd⟩ := hL (raw % a) (Int.emod_nonneg _ ha0) (Int.emod_lt_of_pos _ (by omega))
        have LX : Hid (∀ v, Below w.heap.size w v → Calls Tryd.prog 13 #[.agg #[.slice A zs.length c], .int .i64 (a - 1)] v fun e w' => e = .returned (.tuple #[.int .i64 x, .int .i64 x', .int .i64 0]) ∧ Below v.heap.size v w') := Lib.hid (fun v h => by
          have := local_any A c zs (a - 1) v (hz.bt h)
          rw [hx] at this
          exact this)
        have ew : (IntKind.i64.wrap raw).tmod a = raw % a := by rw [Cl.wrapK (by omega)]; exact Int.tmod_eq_emod_of_nonneg hs0
        have LY : Hid (∀ v, Below w.heap.size w v → Calls Tryd.prog 13 #[.agg #[.slice A zs.length c], .int .i64 ((IntKind.i64.wrap raw).tmod a)] v fun e w' => e = .returned (.tuple #[.int .i64 y, .int .i64 y', .int .i64 0]) ∧ Below v.heap.size v w') := Lib.hid (fun v h => by
          have := local_any A c zs (raw % a) v (hz.bt h)
          rw [hy, ← ew] at this
          exact this)
        have q4 : decide (x < rawDay % 100001) = true := decide_eq_true hxd
        have q5 : decide (y < rawDay % 100001) = true := decide_eq_true hyd
        have q6 : (a == 0) = false := by simp [ha0]
        clear hA hB hL hv hp hz g hx hy hxd hyd ew
        go_enter Tryd.func7, Tryd.ntmps7
        go_wp2_with fail
        refine (HH.out _ hb).mono ?_
        rintro e v ⟨rfl, g⟩
        have hb' := Cl.Nb hb g
        have hc' := Cl.cell_bt hc g
        clear g hb hc
        have hb := hb'
        have hc := hc'
        clear hb' hc'
        go_wp2_with fail
        refine (FW.out _ hb).mono ?_
        rintro e v ⟨rfl, g⟩
        have hb' := Cl.Nb hb g
        have hc' := Cl.cell_bt hc g
        clear g hb hc FW
        have hb := hb'
        have hc := hc'
        clear hb' hc'
        go_wp2_with fail
        refine (HV.out _ hb).mono ?_
        rintro e v ⟨rfl, g⟩
        have hb' := Cl.Nb hb g
        have hc' := Cl.cell_bt hc g
        clear g hb hc HV HH
        have hb := hb'
        have hc := hc'
        clear hb' hc'
        go_wp2_with fail
        generalize rawDay % 100001 = d at *
        refine (B1.out _ hb).mono ?_
        rintro e v ⟨rfl, g⟩
        have hb' := Cl.Nb hb g
        have hc' := Cl.cell_bt hc g
        clear g hb hc B1
        have hb := hb'
        have hc := hc'
        clear hb' hc'
        go_wp2_with fail
        refine (B2.out _ hb).mono ?_
        rintro e v ⟨rfl, g⟩
        have hb' := Cl.Nb hb g
        have hc' := Cl.cell_bt hc g
        clear g hb hc B2
        have hb := hb'
        have hc := hc'
        clear hb' hc'
        go_wp2_with fail
        refine (LX.out _ hb).mono ?_
        rintro e v ⟨rfl, g⟩
        have hb' := Cl.Nb hb g
        have hc' := Cl.cell_bt hc g
        clear g hb hc LX
        have hb := hb'
        have hc := hc'
        clear hb' hc'
        go_wp2_with fail
        have hcr := fun dq os => cell_regrown hc dq os
        have LYr := Lib.hid (fun dq os => Calls.regrown_of (LY.out (Go.Sort.grow (redrawn v dq) os) (Cl.Nb hb (below_regrown v dq os))))
        clear hc
        refine wp_region_quiet_below (by kernel_rfl) (by kernel_rfl) ?_
        repeat (quiet_step ((go_at_call 13; exact LYr.out _ _)))
        refine wpQuiet_nil ?_
        intro _ hw'
        obtain ⟨⟨dq, osq⟩, hw''⟩ := hw'
        subst hw''
        go_wp2_with fail
        go_ret
        exact ⟨rfl, Cl.Nb hb (below_regrown v dq osq)⟩
    · have B1 : Hid (∀ v, Below w.heap.size w v → Calls Tryd.prog 17 #[.agg #[.slice A zs.length c], .int .i64 (rawDay % 100001)] v fun e w' => e = .returned (.tuple #[.int .i64 a, .int .i64 0]) ∧ Below v.heap.size v w') := Lib.hid (fun v h => by
        have := begin_any A c zs (rawDay % 100001) v (hz.bt h)
        rw [hA] at this
        exact this)
      have B2 : Hid (∀ v, Below w.heap.size w v → Calls Tryd.prog 17 #[.agg #[.slice A zs.length c], .int .i64 (rawDay % 100001 + 1)] v fun e w' => e = .returned (.tuple #[.int .i64 b, .int .i64 0]) ∧ Below v.heap.size v w') := Lib.hid (fun v h => by
        have := begin_any A c zs (rawDay % 100001 + 1) v (hz.bt h)
        rw [hB] at this
        exact this)
      have q1 : decide (b < a) = false := decide_eq_false (by omega)
      have q2 : decide (a < 0) = false := decide_eq_false (by omega)
      have q3 : decide (144001439 < a) = false := decide_eq_false (by omega)
      by_cases ha0 : a = 0
      · subst ha0
        clear hA hB hL hv hp hz g
        go_enter Tryd.func7, Tryd.ntmps7
        go_wp2_with fail
        refine (HH.out _ hb).mono ?_
        rintro e v ⟨rfl, g⟩
        have hb' := Cl.Nb hb g
        have hc' := Cl.cell_bt hc g
        clear g hb hc
        have hb := hb'
        have hc := hc'
        clear hb' hc'
        go_wp2_with fail
        refine (FW.out _ hb).mono ?_
        rintro e v ⟨rfl, g⟩
        have hb' := Cl.Nb hb g
        have hc' := Cl.cell_bt hc g
        clear g hb hc FW
        have hb := hb'
        have hc := hc'
        clear hb' hc'
        go_wp2_with fail
        refine (HV.out _ hb).mono ?_
        rintro e v ⟨rfl, g⟩
        have hb' := Cl.Nb hb g
        have hc' := Cl.cell_bt hc g
        clear g hb hc HV HH
        have hb := hb'
        have hc := hc'
        clear hb' hc'
        go_wp2_with fail
        generalize rawDay % 100001 = d at *
        refine (B1.out _ hb).mono ?_
        rintro e v ⟨rfl, g⟩
        have hb' := Cl.Nb hb g
        have hc' := Cl.cell_bt hc g
        clear g hb hc B1
        have hb := hb'
        have hc := hc'
        clear hb' hc'
        go_wp2_with fail
        refine (B2.out _ hb).mono ?_
        rintro e v ⟨rfl, g⟩
        have hb' := Cl.Nb hb g
        have hc' := Cl.cell_bt hc g
        clear g hb hc B2
        have hb := hb'
        have hc := hc'
        clear hb' hc'
        go_wp2_with fail
        go_ret
        exact ⟨rfl, hb⟩
      · obtain ⟨x, x', hx, hxd⟩ := hL (a - 1) (by omega) (by omega)
        obtain ⟨y, y', hy, hyd⟩ := hL (raw % a) (Int.emod_nonneg _ ha0) (Int.emod_lt_of_pos _ (by omega))
        have LX : Hid (∀ v, Below w.heap.size w v → Calls Tryd.prog 13 #[.agg #[.slice A zs.length c], .int .i64 (a - 1)] v fun e w' => e = .returned (.tuple #[.int .i64 x, .int .i64 x', .int .i64 0]) ∧ Below v.heap.size v w') := Lib.hid (fun v h => by
          have := local_any A c zs (a - 1) v (hz.bt h)
          rw [hx] at this
          exact this)
        have ew : (IntKind.i64.wrap raw).tmod a = raw % a := by rw [Cl.wrapK (by omega)]; exact Int.tmod_eq_emod_of_nonneg hs0
        have LY : Hid (∀ v, Below w.heap.size w v → Calls Tryd.prog 13 #[.agg #[.slice A zs.length c], .int .i64 ((IntKind.i64.wrap raw).tmod a)] v fun e w' => e = .returned (.tuple #[.int .i64 y, .int .i64 y', .int .i64 0]) ∧ Below v.heap.size v w') := Lib.hid (fun v h => by
          have := local_any A c zs (raw % a) v (hz.bt h)
          rw [hy, ← ew] at this
          exact this)
        have q4 : decide (x < rawDay % 100001) = true := decide_eq_true hxd
        have q5 : decide (y < rawDay % 100001) = true := decide_eq_true hyd
        have q6 : (a == 0) = false := by simp [ha0]
        clear hA hB hL hv hp hz g hx hy hxd hyd ew
        go_enter Tryd.func7, Tryd.ntmps7
        go_wp2_with fail
        refine (HH.out _ hb).mono ?_
        rintro e v ⟨rfl, g⟩
        have hb' := Cl.Nb hb g
        have hc' := Cl.cell_bt hc g
        clear g hb hc
        have hb := hb'
        have hc := hc'
        clear hb' hc'
        go_wp2_with fail
        refine (FW.out _ hb).mono ?_
        rintro e v ⟨rfl, g⟩
        have hb' := Cl.Nb hb g
        have hc' := Cl.cell_bt hc g
        clear g hb hc FW
        have hb := hb'
        have hc := hc'
        clear hb' hc'
        go_wp2_with fail
        refine (HV.out _ hb).mono ?_
        rintro e v ⟨rfl, g⟩
        have hb' := Cl.Nb hb g
        have hc' := Cl.cell_bt hc g
        clear g hb hc HV HH
        have hb := hb'
        have hc := hc'
        clear hb' hc'
        go_wp2_with fail
        generalize rawDay % 100001 = d at *
        refine (B1.out _ hb).mono ?_
        rintro e v ⟨rfl, g⟩
        have hb' := Cl.Nb hb g
        have hc' := Cl.cell_bt hc g
        clear g hb hc B1
        have hb := hb'
        have hc := hc'
        clear hb' hc'
        go_wp2_with fail
        refine (B2.out _ hb).mono ?_
        rintro e v ⟨rfl, g⟩
        have hb' := Cl.Nb hb g
        have hc' := Cl.cell_bt hc g
        clear g hb hc B2
        have hb := hb'
        have hc := hc'
        clear hb' hc'
        go_wp2_with fail
        refine (LX.out _ hb).mono ?_
        rintro e v ⟨rfl, g⟩
        have hb' := Cl.Nb hb g
        have hc' := Cl.cell_bt hc g
        clear g hb hc LX
        have hb := hb'
        have hc := hc'
        clear hb' hc'
        go_wp2_with fail
        have hcr := fun dq os => cell_regrown hc dq os
        have LYr := Lib.hid (fun dq os => Calls.regrown_of (LY.out (Go.Sort.grow (redrawn v dq) os) (Cl.Nb hb (below_regrown v dq os))))
        clear hc
        refine wp_region_quiet_below (by kernel_rfl) (by kernel_rfl) ?_
        repeat (quiet_step ((go_at_call 13; exact LYr.out _ _)))
        refine wpQuiet_nil ?_
        intro _ hw'
        obtain ⟨⟨dq, osq⟩, hw''⟩ := hw'
        subst hw''
        go_wp2_with fail
        go_ret
        exact ⟨rfl, Cl.Nb hb (below_regrown v dq osq)⟩

theorem days_walk (A : Option Addr) (c : Nat) (zs : List Cl.Sh) (rawDay raw : Int) (w : World) (hp : PowC w.heap.size w) (hz : Zn w w.heap.size A zs) (hm : zs.length ≤ maxLen) (wi : (Lit.int .u32 rawDay).wf = true) (wj : (Lit.int .u32 raw).wf = true) :
    Calls Tryd.prog 7 #[.agg #[.slice A zs.length c], .int .u32 rawDay, .int .u32 raw] w fun e w' => e = .returned (.bool true) ∧ Below w.heap.size w w' := by
  cases h : (decide ((zs.length : Int) ≤ 40) && Cl.vz zs)
  · exact days_no A c zs rawDay raw w hp hz h
  · simp only [Bool.and_eq_true] at h
    exact days_yes A c zs rawDay raw w hp hz h.2 (Cl.u32r wi).1 (Cl.u32r wi).2 (Cl.u32r wj).1 (Cl.u32r wj).2
end Go.Proofs.YtkkgefefbamcpaaDoor
