/- The program's offsetAt and Local (layer 6). -/
import Derived.Test.YtkkgefefbamcpaaDoorClB
set_option linter.unusedSimpArgs false
set_option linter.unusedVariables false
namespace Go.Proofs.YtkkgefefbamcpaaDoor
open Go.RowKit Go.Shelf
set_option maxRecDepth 100000
attribute [local go_sem] Oper.semAt_some

def offV {p : Cl.Sp → Prop} (pre : List (SpP p)) (t : Int) : Int := Cl.offW 0 (pre.map Subtype.val) t
theorem offV_le {p : Cl.Sp → Prop} {pre : List (SpP p)} {x : SpP p} {t : Int} (h : x.1.1 ≤ t) : offV (pre ++ [x]) t = x.1.2.1 := by
  unfold offV Cl.offW
  rw [List.map_append, List.foldl_append]
  simp [h]
theorem offV_gt {p : Cl.Sp → Prop} {pre : List (SpP p)} {x : SpP p} {t : Int} (h : ¬ x.1.1 ≤ t) : offV (pre ++ [x]) t = offV pre t := by
  unfold offV Cl.offW
  rw [List.map_append, List.foldl_append]
  simp [h]

theorem Cl.al3 (w : World) (o o' o'' : Obj) : Below w.heap.size w (((w.alloc o).alloc o').alloc o'') := ((((Below.refl _ w).alloc (Nat.le_refl _) _).alloc (by simp) _).alloc (by simp; omega) _)
theorem Cl.al4 (w : World) (o o' o'' o3 : Obj) : Below w.heap.size w ((((w.alloc o).alloc o').alloc o'').alloc o3) := (Cl.al3 w o o' o'').alloc (by simp; omega) _

set_option maxHeartbeats 2000000 in
theorem offset_any (A : Option Addr) (c : Nat) (zs : List Cl.Sh) (t : Int) (w : World) (h1 : zs.length ≤ 20) (hz : Zn w w.heap.size A zs) :
    Calls Tryd.prog 27 #[.agg #[.slice A zs.length c], .int .i64 t] w fun e w' => e = .returned (.int .i64 (Cl.offW 0 (Cl.sp zs) t)) ∧ Below w.heap.size w w' := by
  have HD := Lib.hid (fun w' => callsIn_wide (n := 4) |>.2 (spans_made A zs.length c w'))
  refine (callsIn_wide (n := 5)).1 ?_
  refine callsIn_of_wp_marks Tryd.func27 rfl trivial ?_ rfl
  simp only [Tryd.ntmps27, List.size_toArray, List.length_cons, List.length_nil, Nat.reduceAdd, Nat.reduceSub, Array.replicate_succ, Array.replicate_zero, List.push_toArray, List.append_toArray, List.nil_append, List.cons_append]
  gi_wp2_with (refine ⟨trivial, ?_⟩; gi_at_call 30; refine (HD.out _).mono ?_; rintro e w' ⟨rfl, rfl⟩)
  have bT := ((Boxed.new (w.alloc (.cells #[.slice A zs.length c] 24)) 3 (.int .i64 t)).alloc (.cells #[.int .i64 0] 3)).alloc (.cells #[.slice A zs.length c] 24)
  have bO := (Boxed.new ((w.alloc (.cells #[.slice A zs.length c] 24)).alloc (.cells #[.int .i64 t] 3)) 3 (.int .i64 0)).alloc (.cells #[.slice A zs.length c] 24)
  have bZ := Boxed.new (((w.alloc (.cells #[.slice A zs.length c] 24)).alloc (.cells #[.int .i64 t] 3)).alloc (.cells #[.int .i64 0] 3)) 24 (.slice A zs.length c)
  simp only [World.size_alloc] at bT bO bZ
  have hB0 := Cl.al4 w (.cells #[.slice A zs.length c] 24) (.cells #[.int .i64 t] 3) (.cells #[.int .i64 0] 3) (.cells #[.slice A zs.length c] 24)
  have hsz : ((((w.alloc (.cells #[.slice A zs.length c] 24)).alloc (.cells #[.int .i64 t] 3)).alloc (.cells #[.int .i64 0] 3)).alloc (.cells #[.slice A zs.length c] 24)).heap.size = w.heap.size + 4 := by simp
  obtain ⟨W0, hW0⟩ : ∃ W0, ((((w.alloc (.cells #[.slice A zs.length c] 24)).alloc (.cells #[.int .i64 t] 3)).alloc (.cells #[.int .i64 0] 3)).alloc (.cells #[.slice A zs.length c] 24)) = W0 := ⟨_, rfl⟩
  rw [hW0] at bT bO bZ hB0 hsz ⊢
  clear hW0
  refine wpIn_rangeFunc_ownH (α := SpP fun _ => True) rfl (by decide) (gf := 37) (lb := #[.pointer (some ⟨w.heap.size + 1 + 1 + 1, 0, none⟩)]) rfl trivial (enters_of Tryd.func37 (by kernel_rfl) rfl)
    (spans1_stops (fun _ => True) 4 (by decide) (w.heap.size + 1 + 1 + 1) w.heap.size A c zs (by omega) (fun _ _ => trivial) W0 (by omega) (by omega) bZ.cell (hz.below hB0 (Nat.le_refl _))) KpS.trans (kpS_b (by omega) (by omega)) (Below.refl _ _) (fun _ => rfl)
    (fun pre W => (Boxed W (w.heap.size + 1) 3 (.int .i64 t) ∧ Boxed W (w.heap.size + 1 + 1) 3 (.int .i64 (offV pre t))) ∧ (Below w.heap.size w W ∧ w.heap.size + 4 ≤ W.heap.size))
    (fun _ _ _ => False)
    (OwnFrom.and (OwnFrom.and (Own.from (boxed_own _ _ _) _) (Own.from (boxed_own _ _ _) _)) (OwnFrom.and (ownFrom_below (Nat.le_refl _) (by omega)) (fun _ _ _ _ h hg _ => Nat.le_trans h hg.size)))
    (fun _ _ _ _ _ hs _ _ => hs)
    ⟨⟨bT, bO⟩, hB0, by omega⟩
    (fun x a' W => ∃ Bx, w.heap.size + 4 ≤ Bx ∧ Bx3 W Bx x.1 ∧ a' = { tmps := #[.agg #[.slice A zs.length c], .int .i64 t, .pointer (some ⟨w.heap.size, 0, none⟩), .pointer (some ⟨w.heap.size + 1, 0, none⟩), .int .i64 0, .pointer (some ⟨w.heap.size + 1 + 1, 0, none⟩), .pointer (some ⟨Bx, 0, none⟩), .agg #[.slice A zs.length c], .func (.func 37) #[] #[.pointer (some ⟨w.heap.size + 1 + 1 + 1, 0, none⟩)], .agg #[.int .i64 x.1.1, .int .i64 x.1.2.1, .int .i64 x.1.2.2], undef, undef, undef, undef, undef, undef, undef, undef, undef], defers := [] })
    (fun x a' _ X Y row hs hg hr => by obtain ⟨Bx, h1, h2, h3⟩ := hs; exact ⟨Bx, h1, bx3_own Bx x.1 () X Y row h2 hg (fun r e => (hr r e).2), h3⟩)
    ?assign ?body ?done ?stop
  case assign =>
    rintro l pre x W K ⟨⟨bT1, bO1⟩, hB1, hB2⟩ hK
    gi_wp2
    exact hK _ _ ((KeepsOthers.alloc _ _).from _) ((KpS.refl _ _ W).alloc (by omega) (by omega) _) ⟨⟨bT1.alloc _, bO1.alloc _⟩, hB1.alloc hB1.size _, by rw [World.size_alloc]; omega⟩ ⟨W.heap.size, hB2, Bx3.new W x.1, rfl⟩
  case body =>
    rintro l pre x a' W hl ⟨r, hr⟩ ⟨⟨bT1, bO1⟩, hB1, hB2⟩ ⟨Bx, hBx, bX, rfl⟩ hlt
    obtain ⟨x0, x1, x2⟩ := bX.cells
    have HL := Lib.hid (fun h => offV_le (pre := pre) (x := x) (t := t) h)
    have HG := Lib.hid (fun h => offV_gt (pre := pre) (x := x) (t := t) h)
    obtain ⟨y, hy⟩ : ∃ y : Cl.Sp, y = x.1 := ⟨_, rfl⟩
    rw [← hy] at x0 x1 x2 HL HG
    obtain ⟨o0, ho0⟩ : ∃ o0, o0 = offV pre t := ⟨_, rfl⟩
    rw [← ho0] at HG bO1
    have hT := bT1.cell
    have hO := bO1.cell
    have hF := bO1.frozen
    clear hy ho0
    by_cases k1 : y.1 ≤ t
    · have e1 := Lib.hid (HL.out k1)
      gi_wp2
      exact ⟨(KeepsOthers.setCell _ _ _).from _, ⟨(Below.refl _ W).setCell (p := ⟨w.heap.size + 1 + 1, 0, none⟩) (by simp; omega) _, Below.heap_setCell _ _ _ _ (show w.heap.size + 1 + 1 + 1 ≠ w.heap.size + 1 + 1 by omega)⟩, ⟨bT1.other (by omega) _, by rw [e1.out]; exact bO1.set _⟩, hB1.setCell (p := ⟨w.heap.size + 1 + 1, 0, none⟩) (by simp; omega) _, by simpa using hB2⟩
    · have e1 := Lib.hid (HG.out k1)
      gi_wp2
      exact ⟨KeepsFrom.refl _ _, KpS.refl _ _ _, ⟨bT1, by rw [e1.out]; exact bO1⟩, hB1, hB2⟩
  case done =>
    rintro D ys W hD hys ⟨⟨bT1, bO1⟩, hB1, hB2⟩ hK
    have hO := bO1.cell
    have he : offV ys t = Cl.offW 0 (Cl.sp zs) t := by unfold offV; rw [hys]
    have HE := Lib.hid he
    clear he
    gi_wp2
    refine ⟨by simp, .inl ⟨_, _, rfl, run_takeDeferred hK, ?_⟩⟩
    exact ⟨_, results_tmp rfl _ _ _, by rw [← HE.out]; rfl, hB1.trans (belowK_b (w := w) (Nat.le_refl _) W D _ _ (by omega) hK rfl rfl)⟩
  case stop =>
    rintro D cd pre W _ _ h _
    exact h.elim
end Go.Proofs.YtkkgefefbamcpaaDoor
