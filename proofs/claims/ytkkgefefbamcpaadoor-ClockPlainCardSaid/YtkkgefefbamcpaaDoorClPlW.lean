/- ClockPlain: the walk (layer 6). -/
import Derived.Test.YtkkgefefbamcpaaDoorClHd
import Derived.Test.YtkkgefefbamcpaaDoorClBkW
set_option linter.unusedSimpArgs false
set_option linter.unusedVariables false
namespace Go.Proofs.YtkkgefefbamcpaaDoor
open Go.RowKit
set_option maxRecDepth 100000

theorem Cl.plain_fact {o t d : Int} (o0 : -840 ≤ o) (o1 : o ≤ 840) (t0 : 0 ≤ t) (t1 : t < 144001440) (d0 : 1 ≤ d) (d1 : d ≤ 99998) :
    ∃ a b p q, Cl.locF [(0, o)] t = (a, b, 0) ∧ Cl.instF [(0, o)] a b = (t, 0) ∧ 1440 * a + b = t + o ∧ (0 ≤ b ∧ b < 1440 ∧ -1 ≤ a ∧ a ≤ 100001) ∧
      Cl.instF [(0, o)] d 0 = (p, 0) ∧ Cl.instF [(0, o)] (d + 1) 0 = (q, 0) ∧ q - p = 1440 ∧ 0 < p ∧ q < 144001440 := by
  have hv : Cl.vz [(0, o)] = true := by
    unfold Cl.vz Cl.sp Cl.okS Cl.M1
    simp
    omega
  have hs : Cl.sp [(0, o)] = [(0, o, 144001440)] := rfl
  obtain ⟨l1, l2, l3, l4, l5, l6⟩ := Cl.locF_ok hv t0 (show t < Cl.M1 from t1)
  have hloc : Cl.loc [(0, o)] t = t + o := by
    unfold Cl.loc
    rw [hs]
    unfold Cl.offW
    simp [t0]
  have hin : ∀ q : Int, 0 ≤ q - o → q - o < 144001440 → Cl.inst (Cl.sp [(0, o)]) q = some (q - o) := fun q h0 h1 => by
    rw [hs]
    unfold Cl.inst
    dsimp only
    rw [Int.max_eq_right h0, if_pos h1]
  have hi := Cl.instF_ok (d := (Cl.locF [(0, o)] t).1) hv l2 l3
  rw [Cl.want_in (by omega) (by omega), show (Cl.locF [(0, o)] t).1 * 1440 + (Cl.locF [(0, o)] t).2.1 = t + o by omega, hin (t + o) (by omega) (by omega)] at hi
  have hj := Cl.instF_ok (d := d) (m := 0) hv (by omega) (by omega)
  rw [Cl.want_in (by omega) (by omega), hin (d * 1440 + 0) (by omega) (by omega)] at hj
  have hk := Cl.instF_ok (d := d + 1) (m := 0) hv (by omega) (by omega)
  rw [Cl.want_in (by omega) (by omega), hin ((d + 1) * 1440 + 0) (by omega) (by omega)] at hk
  refine ⟨(Cl.locF [(0, o)] t).1, (Cl.locF [(0, o)] t).2.1, _, _, Prod.ext rfl (Prod.ext rfl l1), ?_, by omega, ⟨l2, l3, l4, l5⟩, hj, hk, by omega, by omega, by omega⟩
  rw [hi]
  show (t + o - o, (0 : Int)) = _
  rw [show t + o - o = t by omega]

set_option maxHeartbeats 4000000 in
theorem plain_walk (ro raw rd : Int) (w : World) (hp : PowC w.heap.size w) (w0 : (Lit.int .u32 ro).wf = true) (w1' : (Lit.int .u32 raw).wf = true) (w2 : (Lit.int .u32 rd).wf = true) :
    Calls Tryd.prog 8 #[.int .u32 ro, .int .u32 raw, .int .u32 rd] w fun e w' => e = .returned (.bool true) ∧ Below w.heap.size w w' := by
  obtain ⟨u0, u1⟩ := Cl.u32r w0
  obtain ⟨u2, u3⟩ := Cl.u32r w1'
  obtain ⟨u4, u5⟩ := Cl.u32r w2
  have HH := Lib.hid (head_any w hp)
  have o0 : -840 ≤ ro % 1681 - 840 := by omega
  have o1 : ro % 1681 - 840 ≤ 840 := by omega
  have t0 : 0 ≤ raw % 144001440 := by omega
  have t1 : raw % 144001440 < 144001440 := by omega
  have d0 : 1 ≤ rd % 99998 + 1 := by omega
  have d1 : rd % 99998 + 1 ≤ 99998 := by omega
  obtain ⟨a, b, p, q, f1, f2, f3, ⟨f4, f5, f6, f7⟩, f8, f9, f10, f11, f12⟩ := Cl.plain_fact o0 o1 t0 t1 d0 d1
  have HF := Lib.hid (And.intro f1 (And.intro f2 (And.intro f8 f9)))
  have e1 : (1440 * a + b != raw % 144001440 + (ro % 1681 - 840)) = false := by rw [f3]; simp
  have e2 : (q - p == 1440) = true := by simp [f10]
  have e3 : (p == 0) = false := by simp; omega
  clear f1 f2 f3 f8 f9 w0 w1' w2 hp
  go_enter Tryd.func8, Tryd.ntmps8
  go_wp2_with fail
  refine HH.out.mono ?_
  rintro e w1 ⟨rfl, hb1⟩
  clear HH
  go_wp2_with fail
  generalize ro % 1681 - 840 = o at *
  generalize raw % 144001440 = t at *
  have c1 := World.alloc_heap_new w1 (.cells #[.int .i64 0, .int .i64 o] 40)
  have hzz : ∀ u : World, u.heap[w1.heap.size]? = some (.cells #[.int .i64 0, .int .i64 o] 40 (0, 0)) → Zn u u.heap.size (some ⟨w1.heap.size, 0, none⟩) [(0, o)] := fun u h k hk => by
    refine ⟨_, rfl, (Array.getElem?_eq_some_iff.1 h).1, ?_⟩
    obtain rfl : k = 0 := by simpa using hk
    simp [World.cell?, Addr.add, h]
  have hz := hzz ((w1.alloc (.cells #[.int .i64 0, .int .i64 o] 40)).alloc (.cells #[.slice (some ⟨w1.heap.size, 0, none⟩) 1 1] 24)) ((Below.heap_alloc _ _ _ (by simp)).trans c1)
  have hc := (Boxed.new (w1.alloc (.cells #[.int .i64 0, .int .i64 o] 40)) 24 (.slice (some ⟨w1.heap.size, 0, none⟩) 1 1)).cell
  rw [World.size_alloc] at hc
  have hb1' := Cl.Nb hb1 (Cl.al2 w1 (.cells #[.int .i64 0, .int .i64 o] 40) (.cells #[.slice (some ⟨w1.heap.size, 0, none⟩) 1 1] 24))
  obtain ⟨W2, hW2⟩ : ∃ W2, W2 = (w1.alloc (.cells #[.int .i64 0, .int .i64 o] 40)).alloc (.cells #[.slice (some ⟨w1.heap.size, 0, none⟩) 1 1] 24) := ⟨_, rfl⟩
  rw [← hW2] at hz hc hb1' ⊢
  have hb := Below.refl W2.heap.size W2
  clear hW2 hzz c1 hb1
  generalize w1.heap.size = B at *
  have LT : Hid (∀ v, Below W2.heap.size W2 v → Calls Tryd.prog 13 #[.agg #[.slice (some ⟨B, 0, none⟩) 1 1], .int .i64 t] v fun e w' => e = .returned (.tuple #[.int .i64 a, .int .i64 b, .int .i64 0]) ∧ Below v.heap.size v w') := Lib.hid (fun v h => by
    have := local_any (some ⟨B, 0, none⟩) 1 [(0, o)] t v (hz.bt h)
    rw [HF.out.1] at this
    exact this)
  have IN : Hid (∀ v, Below W2.heap.size W2 v → Calls Tryd.prog 15 #[.agg #[.slice (some ⟨B, 0, none⟩) 1 1], .int .i64 a, .int .i64 b] v fun e w' => e = .returned (.tuple #[.int .i64 t, .int .i64 0]) ∧ Below v.heap.size v w') := Lib.hid (fun v h => by
    have := instant_any (some ⟨B, 0, none⟩) 1 [(0, o)] a b v (hz.bt h)
    rw [HF.out.2.1] at this
    exact this)
  have B1 : Hid (∀ v, Below W2.heap.size W2 v → Calls Tryd.prog 17 #[.agg #[.slice (some ⟨B, 0, none⟩) 1 1], .int .i64 (rd % 99998 + 1)] v fun e w' => e = .returned (.tuple #[.int .i64 p, .int .i64 0]) ∧ Below v.heap.size v w') := Lib.hid (fun v h => by
    have := begin_any (some ⟨B, 0, none⟩) 1 [(0, o)] (rd % 99998 + 1) v (hz.bt h)
    rw [HF.out.2.2.1] at this
    exact this)
  have B2 : Hid (∀ v, Below W2.heap.size W2 v → Calls Tryd.prog 17 #[.agg #[.slice (some ⟨B, 0, none⟩) 1 1], .int .i64 (rd % 99998 + 1 + 1)] v fun e w' => e = .returned (.tuple #[.int .i64 q, .int .i64 0]) ∧ Below v.heap.size v w') := Lib.hid (fun v h => by
    have := begin_any (some ⟨B, 0, none⟩) 1 [(0, o)] (rd % 99998 + 1 + 1) v (hz.bt h)
    rw [HF.out.2.2.2] at this
    exact this)
  have HB := Lib.hid hb1'
  clear hz HF hb1'
  refine (LT.out _ hb).mono ?_
  rintro e v ⟨rfl, g⟩
  have hb' := hb.trans (g.mono hb.size)
  have hc' := Cl.cell_bt hc g
  clear g hb hc
  have hb := hb'
  have hc := hc'
  clear hb' hc'
  go_wp2_with fail
  refine (IN.out _ hb).mono ?_
  rintro e v ⟨rfl, g⟩
  have hb' := hb.trans (g.mono hb.size)
  have hc' := Cl.cell_bt hc g
  clear g hb hc LT
  have hb := hb'
  have hc := hc'
  clear hb' hc'
  go_wp2_with fail
  refine (B1.out _ hb).mono ?_
  rintro e v ⟨rfl, g⟩
  have hb' := hb.trans (g.mono hb.size)
  have hc' := Cl.cell_bt hc g
  clear g hb hc IN
  have hb := hb'
  have hc := hc'
  clear hb' hc'
  go_wp2_with fail
  refine (B2.out _ hb).mono ?_
  rintro e v ⟨rfl, g⟩
  have hb' := hb.trans (g.mono hb.size)
  have hc' := Cl.cell_bt hc g
  clear g hb hc B1
  have hb := hb'
  have hc := hc'
  clear hb' hc'
  go_wp2_with fail
  go_ret
  exact ⟨rfl, Cl.Nb HB.out hb⟩
end Go.Proofs.YtkkgefefbamcpaaDoor
