/- ClockMatchesReference: the walk (layer 6). -/
import Derived.Test.YtkkgefefbamcpaaDoorClHd
import Derived.Test.YtkkgefefbamcpaaDoorClRd
import Derived.Test.YtkkgefefbamcpaaDoorClCu
import Derived.Lib.QuietBelow
import Derived.Deep.QuietTactic
set_option linter.unusedSimpArgs false
set_option linter.unusedVariables false
namespace Go.Proofs.YtkkgefefbamcpaaDoor
open Go.RowKit
set_option maxRecDepth 100000

set_option maxHeartbeats 8000000 in
theorem mat_walk (A : Option Addr) (c : Nat) (zs : List Cl.Sh) (t d m : Int) (text : ByteArray) (w : World) (hp : PowC w.heap.size w) (hz : Zn w w.heap.size A zs) (hm : zs.length ≤ maxLen) (wt : (Lit.int .i64 t).wf = true) (wd : (Lit.int .i64 d).wf = true) (wm : (Lit.int .i64 m).wf = true) (hs : text.size ≤ 281474976710656) :
    Calls Tryd.prog 3 #[.agg #[.slice A zs.length c], .int .i64 t, .int .i64 d, .int .i64 m, .string text] w fun e w' => e = .returned (.bool true) ∧ Below w.heap.size w w' := by
  have hb := Cl.al w (.cells #[.slice A zs.length c] 24)
  have hc := (Boxed.new w 24 (.slice A zs.length c)).cell
  have HH := Lib.hid (fun v (h : Below w.heap.size w v) => head_any v (hp.bt h))
  have FW := Lib.hid (fun v (_ : Below w.heap.size w v) => few_any A c zs.length 40 v)
  cases hf : decide ((zs.length : Int) ≤ 40)
  · rw [hf] at FW
    clear hf wt wd wm hs
    go_enter Tryd.func3, Tryd.ntmps3
    go_wp2_with fail
    refine (HH.out _ hb).mono ?_
    rintro e v ⟨rfl, g⟩
    have hb' := Cl.Nb hb g
    have hc' := Cl.cell_bt hc g
    clear g hb hc
    have hb := hb'
    have hc := hc'
    clear hb' hc'
    go_wp2_with fail
    refine (FW.out _ hb).mono ?_
    rintro e v ⟨rfl, g⟩
    have hb' := Cl.Nb hb g
    have hc' := Cl.cell_bt hc g
    clear g hb hc
    have hb := hb'
    have hc := hc'
    clear hb' hc'
    go_wp2_with fail
    go_ret
    exact ⟨rfl, hb⟩
  · rw [hf] at FW
    have L1 : Hid (∀ v, Below w.heap.size w v → Calls Tryd.prog 13 #[.agg #[.slice A zs.length c], .int .i64 t] v fun e w' => e = .returned (.tuple #[.int .i64 (Cl.locF zs t).1, .int .i64 (Cl.locF zs t).2.1, .int .i64 (Cl.locF zs t).2.2]) ∧ Below v.heap.size v w') := Lib.hid (fun v h => local_any A c zs t v (hz.bt h))
    have L2 : Hid (∀ v, Below w.heap.size w v → Calls Tryd.prog 14 #[.agg #[.slice A zs.length c], .int .i64 t] v fun e w' => e = .returned (.tuple #[.int .i64 (Cl.locF zs t).1, .int .i64 (Cl.locF zs t).2.1, .int .i64 (Cl.locF zs t).2.2]) ∧ Below v.heap.size v w') := Lib.hid (fun v h => rlocal_any A c zs t v (hz.bt h))
    have I1 : Hid (∀ v, Below w.heap.size w v → Calls Tryd.prog 15 #[.agg #[.slice A zs.length c], .int .i64 d, .int .i64 m] v fun e w' => e = .returned (.tuple #[.int .i64 (Cl.instF zs d m).1, .int .i64 (Cl.instF zs d m).2]) ∧ Below v.heap.size v w') := Lib.hid (fun v h => instant_any A c zs d m v (hz.bt h))
    have I2 : Hid (∀ v, Below w.heap.size w v → Calls Tryd.prog 16 #[.agg #[.slice A zs.length c], .int .i64 d, .int .i64 m] v fun e w' => e = .returned (.tuple #[.int .i64 (Cl.instF zs d m).1, .int .i64 (Cl.instF zs d m).2]) ∧ Below v.heap.size v w') := Lib.hid (fun v h => rinstant_any A c zs d m v (hz.bt h))
    have B1 : Hid (∀ v, Below w.heap.size w v → Calls Tryd.prog 17 #[.agg #[.slice A zs.length c], .int .i64 d] v fun e w' => e = .returned (.tuple #[.int .i64 (Cl.instF zs d 0).1, .int .i64 (Cl.instF zs d 0).2]) ∧ Below v.heap.size v w') := Lib.hid (fun v h => begin_any A c zs d v (hz.bt h))
    have B2 : Hid (∀ v, Below w.heap.size w v → Calls Tryd.prog 16 #[.agg #[.slice A zs.length c], .int .i64 d, .int .i64 0] v fun e w' => e = .returned (.tuple #[.int .i64 (Cl.instF zs d 0).1, .int .i64 (Cl.instF zs d 0).2]) ∧ Below v.heap.size v w') := Lib.hid (fun v h => rinstant_any A c zs d 0 v (hz.bt h))
    have T1 : Hid (∀ v, Below w.heap.size w v → Calls Tryd.prog 18 #[.int .i64 t] v fun e w' => e = .returned (.tuple #[.string (Cl.textF t).1, .int .i64 (Cl.textF t).2]) ∧ Below v.heap.size v w') := Lib.hid (fun v h => text_any t v (hp.bt h))
    have T2 : Hid (∀ v, Below w.heap.size w v → Calls Tryd.prog 19 #[.int .i64 t] v fun e w' => e = .returned (.tuple #[.string (Cl.textF t).1, .int .i64 (Cl.textF t).2]) ∧ Below v.heap.size v w') := Lib.hid (fun v h => rtext_any t v)
    have P1 : Hid (∀ v, Below w.heap.size w v → Calls Tryd.prog 20 #[.string text] v fun e w' => e = .returned (.tuple #[.int .i64 (Cl.parseF text).1, .int .i64 (Cl.parseF text).2]) ∧ Below v.heap.size v w') := Lib.hid (fun v h => parse_big text v hs (hp.bt h))
    have P2 : Hid (∀ v, Below w.heap.size w v → Calls Tryd.prog 21 #[.string text] v fun e w' => e = .returned (.tuple #[.int .i64 (Cl.parseF text).1, .int .i64 (Cl.parseF text).2]) ∧ Below v.heap.size v w') := Lib.hid (fun v h => rparse_any text v (by unfold maxLen; omega))
    have V1 : Hid (∀ v, Below w.heap.size w v → Calls Tryd.prog 22 #[.agg #[.slice A zs.length c]] v fun e w' => e = .returned (.bool (Cl.vz zs)) ∧ Below v.heap.size v w') := Lib.hid (fun v h => valid_any A c zs v (hz.bt h))
    have V2 : Hid (∀ v, Below w.heap.size w v → Calls Tryd.prog 23 #[.agg #[.slice A zs.length c]] v fun e w' => e = .returned (.bool (Cl.vz zs)) ∧ Below v.heap.size v w') := Lib.hid (fun v h => rvalid_any A c zs v (hz.bt h))
    generalize (Cl.locF zs t).1 = a1 at L1 L2 I1 I2 B1 B2 T1 T2 P1 P2 V1 V2
    generalize (Cl.locF zs t).2.1 = a2 at L1 L2 I1 I2 B1 B2 T1 T2 P1 P2 V1 V2
    generalize (Cl.locF zs t).2.2 = a3 at L1 L2 I1 I2 B1 B2 T1 T2 P1 P2 V1 V2
    generalize (Cl.instF zs d m).1 = b1 at L1 L2 I1 I2 B1 B2 T1 T2 P1 P2 V1 V2
    generalize (Cl.instF zs d m).2 = b2 at L1 L2 I1 I2 B1 B2 T1 T2 P1 P2 V1 V2
    generalize (Cl.instF zs d 0).1 = c1 at L1 L2 I1 I2 B1 B2 T1 T2 P1 P2 V1 V2
    generalize (Cl.instF zs d 0).2 = c2 at L1 L2 I1 I2 B1 B2 T1 T2 P1 P2 V1 V2
    generalize (Cl.textF t).1 = e1 at L1 L2 I1 I2 B1 B2 T1 T2 P1 P2 V1 V2
    generalize (Cl.textF t).2 = e2 at L1 L2 I1 I2 B1 B2 T1 T2 P1 P2 V1 V2
    generalize (Cl.parseF text).1 = f1 at L1 L2 I1 I2 B1 B2 T1 T2 P1 P2 V1 V2
    generalize (Cl.parseF text).2 = f2 at L1 L2 I1 I2 B1 B2 T1 T2 P1 P2 V1 V2
    generalize Cl.vz zs = vz at L1 L2 I1 I2 B1 B2 T1 T2 P1 P2 V1 V2
    clear hf wt wd wm hs hp hz hm
    go_enter Tryd.func3, Tryd.ntmps3
    go_wp2_with fail
    refine (HH.out _ hb).mono ?_
    rintro e v ⟨rfl, g⟩
    have hb' := Cl.Nb hb g
    have hc' := Cl.cell_bt hc g
    clear g hb hc
    have hb := hb'
    have hc := hc'
    clear hb' hc'
    go_wp2_with fail
    refine (FW.out _ hb).mono ?_
    rintro e v ⟨rfl, g⟩
    have hb' := Cl.Nb hb g
    have hc' := Cl.cell_bt hc g
    clear g hb hc FW HH
    have hb := hb'
    have hc := hc'
    clear hb' hc'
    go_wp2_with fail
    refine (L1.out _ hb).mono ?_
    rintro e v ⟨rfl, g⟩
    have hb' := Cl.Nb hb g
    have hc' := Cl.cell_bt hc g
    clear g hb hc L1
    have hb := hb'
    have hc := hc'
    clear hb' hc'
    go_wp2_with fail
    refine (L2.out _ hb).mono ?_
    rintro e v ⟨rfl, g⟩
    have hb' := Cl.Nb hb g
    have hc' := Cl.cell_bt hc g
    clear g hb hc L2
    have hb := hb'
    have hc := hc'
    clear hb' hc'
    go_wp2_with fail
    refine (I1.out _ hb).mono ?_
    rintro e v ⟨rfl, g⟩
    have hb' := Cl.Nb hb g
    have hc' := Cl.cell_bt hc g
    clear g hb hc I1
    have hb := hb'
    have hc := hc'
    clear hb' hc'
    go_wp2_with fail
    refine (I2.out _ hb).mono ?_
    rintro e v ⟨rfl, g⟩
    have hb' := Cl.Nb hb g
    have hc' := Cl.cell_bt hc g
    clear g hb hc I2
    have hb := hb'
    have hc := hc'
    clear hb' hc'
    go_wp2_with fail
    refine (B1.out _ hb).mono ?_
    rintro e v ⟨rfl, g⟩
    have hb' := Cl.Nb hb g
    have hc' := Cl.cell_bt hc g
    clear g hb hc B1
    have hb := hb'
    have hc := hc'
    clear hb' hc'
    go_wp2_with fail
    refine (B2.out _ hb).mono ?_
    rintro e v ⟨rfl, g⟩
    have hb' := Cl.Nb hb g
    have hc' := Cl.cell_bt hc g
    clear g hb hc B2
    have hb := hb'
    have hc := hc'
    clear hb' hc'
    go_wp2_with fail
    refine (T1.out _ hb).mono ?_
    rintro e v ⟨rfl, g⟩
    have hb' := Cl.Nb hb g
    have hc' := Cl.cell_bt hc g
    clear g hb hc T1
    have hb := hb'
    have hc := hc'
    clear hb' hc'
    go_wp2_with fail
    refine (T2.out _ hb).mono ?_
    rintro e v ⟨rfl, g⟩
    have hb' := Cl.Nb hb g
    have hc' := Cl.cell_bt hc g
    clear g hb hc T2
    have hb := hb'
    have hc := hc'
    clear hb' hc'
    go_wp2_with fail
    refine (P1.out _ hb).mono ?_
    rintro e v ⟨rfl, g⟩
    have hb' := Cl.Nb hb g
    have hc' := Cl.cell_bt hc g
    clear g hb hc P1
    have hb := hb'
    have hc := hc'
    clear hb' hc'
    go_wp2_with fail
    refine (P2.out _ hb).mono ?_
    rintro e v ⟨rfl, g⟩
    have hb' := Cl.Nb hb g
    have hc' := Cl.cell_bt hc g
    clear g hb hc P2
    have hb := hb'
    have hc := hc'
    clear hb' hc'
    go_wp2_with fail
    have hcr := fun dq os => cell_regrown hc dq os
    have VA := Lib.hid (fun dq os => Calls.regrown_of (V1.out (Go.Sort.grow (redrawn v dq) os) (Cl.Nb hb (below_regrown v dq os))))
    have VB := Lib.hid (fun dq os => Calls.regrown_of (V2.out (Go.Sort.grow (redrawn v dq) os) (Cl.Nb hb (below_regrown v dq os))))
    clear hc V1 V2
    refine wp_region_quiet_below (by kernel_rfl) (by kernel_rfl) ?_
    repeat (quiet_step (first | (go_at_call 22; exact VA.out _ _) | (go_at_call 23; exact VB.out _ _)))
    refine wpQuiet_nil ?_
    intro _ hw'
    obtain ⟨⟨dq, osq⟩, hw''⟩ := hw'
    subst hw''
    have hbq := Cl.Nb hb (below_regrown v dq osq)
    clear hcr VA VB hb
    generalize Go.Sort.grow (redrawn v dq) osq = w5 at *
    go_wp2_with fail
    go_ret
    exact ⟨rfl, hbq⟩
end Go.Proofs.YtkkgefefbamcpaaDoor
