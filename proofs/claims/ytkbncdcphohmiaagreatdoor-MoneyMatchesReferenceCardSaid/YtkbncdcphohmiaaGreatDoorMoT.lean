/- Layer 8: the chapter's examples. -/
import Derived.Test.YtkbncdcphohmiaaGreatDoorMoR
import Derived.Test.YtkbncdcphohmiaaGreatDoorMoS
import Derived.Great.BuildSlice
import Derived.Great.Walk
import Derived.Lib.QuietBelow
import Derived.Deep.QuietTactic
set_option linter.unusedSimpArgs false
set_option linter.unusedVariables false
namespace Go.Proofs.YtkbncdcphohmiaaGreatDoor
open Go.RowKit
open Ra (Fit)
set_option maxRecDepth 100000

def Mo.usd : ByteArray := ⟨#[85, 83, 68]⟩
def Mo.chf : ByteArray := ⟨#[67, 72, 70]⟩
def Mo.eur : ByteArray := ⟨#[69, 85, 82]⟩
def Mo.gbp : ByteArray := ⟨#[71, 66, 80]⟩
/-- The examples' rates. -/
def Mo.ex : List Mo.Rt := [⟨Mo.usd, 10, 4, 5⟩, ⟨Mo.usd, 0, 9, 10⟩, ⟨Mo.chf, 0, 1, 1⟩]
def Mo.exCells : Array Value := #[.string Mo.usd, .int .i64 10, .int .i64 4, .int .i64 5, .string Mo.usd, .int .i64 0, .int .i64 9, .int .i64 10, .string Mo.chf, .int .i64 0, .int .i64 1, .int .i64 1]

set_option maxHeartbeats 1000000 in
theorem Mo.rates_any (w : World) :
    Calls Tryz.prog 32 #[] w fun e w' => e = .returned (.slice (some ⟨w.heap.size, 0, none⟩) 3 3) ∧ w' = w.alloc (.cells Mo.exCells 27) := by
  go_enter Tryz.func32, Tryz.ntmps32
  go_wp2
  go_ret
  exact ⟨rfl, rfl⟩

theorem Mo.round_rf {q : Rat} (hq : Ra.Fit L140 q) (h : -9223372036854775808 ≤ q.floor ∧ q.floor < 9223372036854775807) : Mo.roundF (rf q) = (Mo.rnd q, 0) := by
  unfold Mo.roundF
  rw [(vR_rf _).2 (fit140 hq), (lg_rf _).2 hq, qv_rf, if_neg (by simp), if_neg (by simp), if_pos h]
theorem Mo.ex_rts {w : World} {g : Nat} (h : Bk w g 27 Mo.exCells) : Mo.Rts w w.heap.size (some ⟨g, 0, none⟩) Mo.ex := fun k hk => by
  refine ⟨_, rfl, h.lt, ?_⟩
  have hk3 : k < 3 := hk
  match k, hk3 with
  | 0, _ => exact ⟨h.cell 0 _ rfl, h.cell 1 _ rfl, h.cell 2 _ rfl, h.cell 3 _ rfl⟩
  | 1, _ => exact ⟨h.cell 4 _ rfl, h.cell 5 _ rfl, h.cell 6 _ rfl, h.cell 7 _ rfl⟩
  | 2, _ => exact ⟨h.cell 8 _ rfl, h.cell 9 _ rfl, h.cell 10 _ rfl, h.cell 11 _ rfl⟩
theorem Mo.ex_good : Mo.AllGood Mo.ex := fun x hx => by
  have e : x = ⟨Mo.usd, 10, 4, 5⟩ ∨ x = ⟨Mo.usd, 0, 9, 10⟩ ∨ x = ⟨Mo.chf, 0, 1, 1⟩ := by simpa [Mo.ex] using hx
  rcases e with rfl | rfl | rfl <;> exact ⟨by unfold maxLen; decide, by decide⟩

set_option maxHeartbeats 2000000 in
/-- One of the examples' conversions. -/
theorem Mo.hd1_any (p : Nat) (A : Option Addr) (cp : Nat) (c tc : ByteArray) (u day m n : Int) (w : World) (hP : Pw w.heap.size w) (hp : w.cell? ⟨p, 0, none⟩ = some (.slice A Mo.ex.length cp)) (hl : Mo.Rts w w.heap.size A Mo.ex) (q : Rat) (hcv : Mo.conv Mo.ex Mo.eur c u tc day = (rf q, 0)) (ho : (ofF5 m n).1 = rf q)
    (hcs : c.size ≤ maxLen) (hts : tc.size ≤ maxLen) (hm : -9223372036854775808 ≤ m ∧ m ≤ 9223372036854775807) (hn : -9223372036854775808 ≤ n ∧ n ≤ 9223372036854775807) :
    Calls Tryz.prog 33 #[.string c, .int .i64 u, .string tc, .int .i64 day, .int .i64 m, .int .i64 n, .pointer (some ⟨p, 0, none⟩)] w fun e w' => e = .returned (.bool true) ∧ Below w.heap.size w w' := by
  have C1 : Hid (∀ v, Below w.heap.size w v → Calls Tryz.prog 13 #[.slice A Mo.ex.length cp, .string Mo.eur, .agg #[.string c, .int .i64 u], .string tc, .int .i64 day] v fun e w' => e = .returned (.tuple #[rV (rf q), .int .i64 0]) ∧ Below v.heap.size v w') := Lib.hid (fun v h => by
    have := Mo.conv_any A cp Mo.ex Mo.eur c tc u day v (hP.bt h) (hl.bt h) Mo.ex_good (by unfold maxLen; decide) hcs hts (by unfold maxLen; decide)
    rw [hcv] at this
    exact this)
  have C2 : Hid (∀ v, Below w.heap.size w v → Calls Tryz.prog 26 #[.int .i64 m, .int .i64 n] v fun e w' => e = .returned (rV (rf q)) ∧ Below v.heap.size v w') := Lib.hid (fun v h => by
    have := Mo.of_any m n v (hP.bt h) hm hn
    rw [ho] at this
    exact this)
  have hb0 := Below.refl w.heap.size w
  clear hP hl hcv ho hcs hts
  generalize Mo.ex.length = k at *
  generalize rf q = r at *
  obtain ⟨s, x, y⟩ := r
  unfold rV Mo.eur at C1
  unfold rV at C2
  simp only at C1 C2
  go_enter Tryz.func33, Tryz.ntmps33
  go_wp2_with fail
  refine (C1.out _ hb0).mono ?_
  rintro e w1 ⟨rfl, hb1⟩
  have hb2 := Mo.Nb hb1 (al w1 (.cells #[.bool s, .string x, .string y] 32))
  have R2 := At.new w1 s x y
  clear hb0 hb1 C1
  obtain ⟨r0, r1, r2, f0, f1, f2⟩ := R2.cells
  go_wp2_with fail
  generalize hW : w1.alloc (.cells #[.bool s, .string x, .string y] 32) = wr at *
  have y0 := fun dq os => cell_regrown r0 dq os
  have y1 := fun dq os => cell_regrown r1 dq os
  have y2 := fun dq os => cell_regrown r2 dq os
  have LYr := Lib.hid (fun dq os => Calls.regrown_of (C2.out (Go.Sort.grow (redrawn wr dq) os) (Mo.Nb hb2 (below_regrown wr dq os))))
  clear hW
  refine wp_region_quiet_below (by kernel_rfl) (by kernel_rfl) ?_
  repeat (quiet_step ((go_at_call 26; exact LYr.out _ _)))
  refine wpQuiet_nil ?_
  intro _ hw'
  obtain ⟨⟨dq, osq⟩, hw''⟩ := hw'
  subst hw''
  have hb3 := Mo.Nb hb2 (below_regrown wr dq osq)
  clear LYr y0 y1 y2 hb2 r0 r1 r2 f0 f1 f2
  generalize Go.Sort.grow (redrawn wr dq) osq = v at *
  go_wp2
  go_ret
  exact ⟨rfl, hb3⟩
end Go.Proofs.YtkbncdcphohmiaaGreatDoor
