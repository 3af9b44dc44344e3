/- The program's Begin; the parts of the texts of instants (layer 6). -/
import Derived.Test.YtkkgefefbamcpaaDoorClE
set_option linter.unusedSimpArgs false
set_option linter.unusedVariables false
namespace Go.Proofs.YtkkgefefbamcpaaDoor
open Go.RowKit Go.Shelf
set_option maxRecDepth 100000

theorem begin_any (A : Option Addr) (c : Nat) (zs : List Cl.Sh) (d : Int) (w : World) (hz : Zn w w.heap.size A zs) :
    Calls Tryd.prog 17 #[.agg #[.slice A zs.length c], .int .i64 d] w fun e w' => e = .returned (.tuple #[.int .i64 (Cl.instF zs d 0).1, .int .i64 (Cl.instF zs d 0).2]) ∧ Below w.heap.size w w' := by
  have hb0 := Cl.al w (.cells #[.slice A zs.length c] 24)
  have HI := Lib.hid (instant_any A c zs d 0 _ (hz.bt hb0))
  go_enter Tryd.func17, Tryd.ntmps17
  go_wp2_with fail
  refine HI.out.mono ?_
  rintro e w1 ⟨rfl, hb1⟩
  have hb := Cl.Nb hb0 hb1
  clear hb0 hb1
  go_wp2_with fail
  go_ret2
  exact ⟨rfl, hb⟩
end Go.Proofs.YtkkgefefbamcpaaDoor
