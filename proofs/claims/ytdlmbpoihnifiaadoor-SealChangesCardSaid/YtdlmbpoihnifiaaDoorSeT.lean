/- The program's signingKey: the key that has signed, from the texts of a seal (layer 3). -/
import Derived.Test.YtdlmbpoihnifiaaDoorSeS
namespace Go.Proofs.YtdlmbpoihnifiaaDoor
open Go.RowKit Go.Shelf
set_option maxRecDepth 100000
set_option linter.unusedSimpArgs false
set_option linter.unusedVariables false
attribute [local go_sem] Oper.semAt_some
attribute [-go_sem] Builtin.append_

def skL (sg : List ByteArray) (pre : List Dig) : List Step := pre.map fun p => (sg.getD p.1.1 ⟨#[]⟩, 15 - p.1.2)
theorem skL_snoc (sg : List ByteArray) (pre : List Dig) (x : Dig) : stepCells (skL sg (pre ++ [x])) = stepCells (skL sg pre) ++ [.string (sg.getD x.1.1 ⟨#[]⟩), .int .i64 (15 - (x.1.2 : Int))] ∧ (skL sg (pre ++ [x])).length = (skL sg pre).length + 1 := by
  have hx := x.2
  unfold skL
  rw [List.map_append, stepCells_append, List.length_append]
  refine ⟨?_, rfl⟩
  congr 1
  show [Value.string (sg.getD x.1.1 ⟨#[]⟩), Value.int .i64 ((15 - x.1.2 : Nat) : Int)] = _
  rw [show ((15 - x.1.2 : Nat) : Int) = 15 - (x.1.2 : Int) by omega]
structure SkI (w : World) (sg : List ByteArray) (sv : Value) (pre : List Dig) (W : World) : Prop where
  box : ∃ v, Boxed W (w.heap.size + 1) 77 v ∧ W.ownsRow (w.heap.size + 3) 79 2 v (skL sg pre).length (stepCells (skL sg pre)) ∧ True
  b1 : Boxed W w.heap.size 22 sv
  below : Below w.heap.size w W
  size : w.heap.size + 3 ≤ W.heap.size
theorem skI_own (w : World) (sg : List ByteArray) (sv : Value) (B : Nat) (hB : w.heap.size ≤ B) : OwnFrom B (SkI w sg sv) := fun pre A C row h hg hr =>
  ⟨(Own.from (holdsRow_own (w.heap.size + 3) (w.heap.size + 1) 77 79 2 (fun pre : List Dig => (skL sg pre).length) (fun pre => stepCells (skL sg pre)) (fun _ _ => True)) B) pre A C row h.box hg hr,
    (Own.from (boxed_own (β := List Dig) w.heap.size 22 (fun _ => sv)) B) pre A C row h.b1 hg hr,
    ownFrom_below (β := List Dig) (Nat.le_refl _) hB pre A C row h.below hg hr, Nat.le_trans h.size hg.size⟩

theorem cell_alloc_l' {w : World} {a : Addr} {v : Value} (h : w.cell? a = some v) (o : Obj) : (w.alloc o).cell? a = some v := cell_bt h ((Below.refl _ _).alloc (Nat.le_refl _) o)
theorem cell_two_new (w : World) (u1 u2 : Value) (t : TypeId) : ∀ j u, [u1, u2][j]? = some u → (w.alloc (.cells #[u1, u2] t)).cell? ((⟨w.heap.size, 0, none⟩ : Addr).add j) = some u :=
  World.news_of_block (w := w.alloc (.cells #[u1, u2] t)) (cs := #[u1, u2]) (World.alloc_heap_new w _)
theorem cell_set_other {w : World} {a : Addr} {v : Value} (h : w.cell? a = some v) (b : Nat) (hne : a.block ≠ b) (u : Value) : (w.setCell ⟨b, 0, none⟩ u).cell? a = some v :=
  (World.cell?_of_block (Below.heap_setCell w ⟨b, 0, none⟩ u a.block hne)).trans h
theorem cell_grown {w w' : World} {a : Addr} {v : Value} {row : Option Nat} (h : w.cell? a = some v) (hg : w.grownBy w' row) (hne : some a.block ≠ row) : w'.cell? a = some v :=
  (World.cell?_of_block (hg.block a.block (block_lt_of_cell h) hne)).trans h

set_option maxHeartbeats 2000000 in
theorem signingKey_any (A : Option Addr) (c : Nat) (sg : List ByteArray) (m : ByteArray) (w : World) (hs : Strs w w.heap.size A sg) (hl : sg.length = 18) (hc18 : 18 ≤ c) (hcm : c ≤ maxLen) (hz : ∀ s ∈ sg, s.size ≤ 1000000) (hm : m.size ≤ maxLen) (hp : Pow w.heap.size w) :
    Calls Tryd.prog 41 #[.slice A 18 c, .string m] w fun e w' => e = .returned (.string (Tr.dg (Se.ends m sg))) ∧ Below w.heap.size w w' := by
  have hends : Se.ends m sg = (digs18 m).map fun p => Se.ch (sg.getD p.1 ⟨#[]⟩) (15 - p.2) := by unfold Se.ends digs18; rw [List.map_map]; rfl
  obtain ⟨ad, rfl, had, _⟩ := hs 0 (by omega)
  have HS := Lib.hid hs
  unfold maxLen at hcm
  have HD := Lib.hid (fun w' => callsIn_wide (n := 4) |>.2 (digits_made m w'))
  refine (callsIn_wide (n := 5)).1 ?_
  refine callsIn_of_wp_marks Tryd.func41 rfl trivial ?_ rfl
  simp only [Tryd.ntmps41, List.size_toArray, List.length_cons, List.length_nil, Nat.reduceAdd, Nat.reduceSub, Array.replicate_succ, Array.replicate_zero, List.push_toArray, List.append_toArray, List.nil_append, List.cons_append]
  gi_wp2_with (refine ⟨trivial, ?_⟩; gi_at_call 63; refine (HD.out _).mono ?_; rintro e w' ⟨rfl, rfl⟩)
  have B1 := Boxed.new w 22 (.slice (some ad) 18 c)
  have B2 := Boxed.new (w.alloc (.cells #[.slice (some ad) 18 c] 22)) 77 (.slice none 0 0)
  have B3 := Boxed.new ((w.alloc (.cells #[.slice (some ad) 18 c] 22)).alloc (.cells #[.slice none 0 0] 77)) 9 (.string m)
  simp only [World.size_alloc] at B1 B2 B3
  have hW : Below w.heap.size w (((w.alloc (.cells #[.slice (some ad) 18 c] 22)).alloc (.cells #[.slice none 0 0] 77)).alloc (.cells #[.string m] 9)) :=
    (((Below.refl _ w).alloc (Nat.le_refl _) _).alloc (by simp) _).alloc (by simp; omega) _
  have hsz : (((w.alloc (.cells #[.slice (some ad) 18 c] 22)).alloc (.cells #[.slice none 0 0] 77)).alloc (.cells #[.string m] 9)).heap.size = w.heap.size + 3 := by simp
  have B1' := (B1.alloc (.cells #[.slice none 0 0] 77)).alloc (.cells #[.string m] 9)
  have B2' := B2.alloc (.cells #[.string m] 9)
  clear B1 B2
  obtain ⟨W0, hW0⟩ : ∃ W0, W0 = (((w.alloc (.cells #[.slice (some ad) 18 c] 22)).alloc (.cells #[.slice none 0 0] 77)).alloc (.cells #[.string m] 9)) := ⟨_, rfl⟩
  rw [← hW0] at B1' B2' B3 hW hsz ⊢
  clear hW0
  refine wpIn_rangeFunc_ownF rfl (by decide) (gf := 80) (lb := #[.pointer (some ⟨w.heap.size + 1 + 1, 0, none⟩)]) rfl trivial (enters_of Tryd.func80 (by kernel_rfl) rfl)
    (digits1_stops 4 (by decide) (w.heap.size + 1 + 1) w.heap.size m hm W0 (by omega) B3.cell) belowK_t (belowK_b (by omega)) (Below.refl _ _) (fun _ => rfl)
    (SkI w sg (.slice (some ad) 18 c)) (fun _ _ _ => False) (skI_own w sg _ _ (by omega))
    (fun _ _ _ _ _ hs _ _ => hs)
    ⟨⟨_, B2', World.ownsRow_nil _ _ _ _, trivial⟩, B1', hW, by omega⟩
    (fun x => { tmps := #[.slice (some ad) 18 c, .string m, .pointer (some ⟨w.heap.size, 0, none⟩), undef, .string ⟨#[]⟩, .pointer (some ⟨w.heap.size + 1, 0, none⟩), .int .i64 (x.1.1 : Int), .int .i64 (x.1.2 : Int), .string m, .func (.func 80) #[] #[.pointer (some ⟨w.heap.size + 1 + 1, 0, none⟩)], .int .i64 (x.1.1 : Int), .int .i64 (x.1.2 : Int), undef, undef, undef, undef, undef, undef, undef, undef, undef, undef, undef, undef], defers := [] }) ?assign ?body ?done ?stop
  case assign =>
    intro l x W K hK
    gi_wp2
    exact hK
  case body =>
    rintro l pre x W ⟨⟨v, hv, hrow, _⟩, b1, hB, hsW⟩ hlt
    have hx := x.2
    have hx1' := hx.1
    have hx2' := hx.2
    have hxi : (x.1.1 : Int) < 18 := by omega
    have hxj : (x.1.2 : Int) ≤ 15 := by omega
    have hwr : IntKind.i64.wrap (15 - (x.1.2 : Int)) = 15 - (x.1.2 : Int) := by rw [IntKind.wrap_i64]; omega
    have hlen : (skL sg pre).length ≤ 18 := by simp only [skL, List.length_map]; omega
    have HSN := Lib.hid (skL_snoc sg pre x)
    obtain ⟨ad', hade, hadb, hq0⟩ := HS.out x.1.1 (by omega)
    cases hade
    have hq : W.cell? (ad.add x.1.1) = some (.string (sg.getD x.1.1 ⟨#[]⟩)) := cell_bt hq0 hB
    have hbl : (ad.add x.1.1).block < w.heap.size := by rw [add_block]; exact had
    have hc1 := b1.cell
    have hc3 := hv.cell
    have hmx : Tryd.prog.follows .mixedOrders = true := by kernel_rfl
    obtain ⟨i0, hi0, hz0, hz1, hz2⟩ := info_parts infoStep
    generalize skL sg pre = sl at *
    generalize sg.getD x.1.1 ⟨#[]⟩ = tx at *
    obtain ⟨v3, w3, hrun3, hown3, hgrow3, _, _⟩ := run_append_own_at (P := Tryd.prog) (w := (W.alloc (.cells #[.string tx, .int .i64 (15 - (x.1.2 : Int))] 79)).drew) (w.heap.size + 3) 77 77 79 i0 (.agg #[.string ⟨#[]⟩, .int .i64 0]) 2 24 Tryd.underlying77 hi0 hz0 hz1 hz2 rfl (by decide) v sl.length (stepCells sl)
        (row_below hrow (((Below.refl _ W).alloc (Nat.le_refl _) _).drew)) ⟨W.heap.size, 0, none⟩ 1 1 [.string tx, .int .i64 (15 - (x.1.2 : Int))] rfl (cell_two_new W.drew _ _ _) (by intro u hu; simp at hu; rcases hu with rfl | rfl <;> rfl) (by unfold maxLen; omega) (by omega) (by simp; omega)
    replace hgrow3 : (W.drew.alloc (.cells #[.string tx, .int .i64 (15 - (x.1.2 : Int))] 79)).grownBy w3 v.ownBlock := hgrow3
    obtain ⟨g', cap', rfl⟩ := ownsRow_succ hown3
    have hvD : Boxed W.drew (w.heap.size + 1) 77 v := hv
    have hrD : W.drew.ownsRow (w.heap.size + 3) 79 2 v sl.length (stepCells sl) := hrow
    obtain ⟨hv1, hv2, hr2, hk2, hbb⟩ := hvD.appended (by decide) (row_mono hrD (Nat.le_add_right _ 3)) (show w.heap.size ≤ W.drew.heap.size from Nat.le_trans (by omega) hsW) (by omega) (row_mono hown3 (Nat.le_add_right _ 3)) hgrow3
    have hx1 := ((show Boxed W.drew w.heap.size 22 (.slice (some ad) 18 c) from b1).alloc (.cells #[.string tx, .int .i64 (15 - (x.1.2 : Int))] 79)).kept hgrow3 (row_other hrow (by omega))
    have hy1 := hx1.other (B' := w.heap.size + 1) (by omega) (.slice (some ⟨g', 0, none⟩) (sl.length + 1) cap')
    have hq3 : w3.cell? (ad.add x.1.1) = some (.string tx) := cell_grown (cell_alloc_l' (w := W.drew) hq _) hgrow3 (row_other hrow (by omega))
    have hq4 := cell_set_other hq3 (w.heap.size + 1) (by omega) (.slice (some ⟨g', 0, none⟩) (sl.length + 1) cap')
    have hc5 := hv1.cell
    have hf5 := hv1.frozen
    have hd6 := (hv.alloc (.cells #[.string tx, .int .i64 (15 - (x.1.2 : Int))] 79)).cell
    have hsz3 : w.heap.size + 3 ≤ w3.heap.size := by
      have h1 := hgrow3.size
      simp at h1
      omega
    have HV := Lib.hid hv
    have HR := Lib.hid hrow
    clear hi0 hz0 hz1 hz2 hv hrow hvD hrD hz hq0
    gi_wp2
    refine wpIn_region_held (S := fun w' => w'.cell? ⟨w.heap.size, 0, none⟩ = some (.slice (some ad) 18 c) ∧ w'.cell? (ad.add x.1.1) = some (.string tx)) hmx ?nd ?lo ⟨hc1, hq⟩ (fun hH => ?_)
    case nd => exact no_defer (by kernel_rfl)
    case lo => rintro ⟨a, w, h⟩; exact h
    refine wpAnyH_take (i := 1) (v := ?v1) rfl (by kernel_rfl) (by kernel_rfl) (by kernel_rfl) (fun _ _ _ h => h) (Or.inl ⟨by rfl, ?hy1⟩) hH ?rest1
    case hy1 =>
      intro w' hSw
      obtain ⟨q1, q2⟩ := hSw
      go_simp
      try with_reducible rfl
    try simp only [Act.put, List.setIfInBounds_toArray, List.set_cons_zero, List.set_cons_succ]
    refine wpAnyH_take (i := 2) (v := ?v2) rfl (by kernel_rfl) (by kernel_rfl) (by kernel_rfl) (fun _ _ _ h => h) (Or.inl ⟨by rfl, ?hy2⟩) hH ?rest2
    case hy2 =>
      intro w' hSw
      obtain ⟨q1, q2⟩ := hSw
      go_simp
      try with_reducible rfl
    try simp only [Act.put, List.setIfInBounds_toArray, List.set_cons_zero, List.set_cons_succ]
    refine wpAnyH_take (i := 3) (v := ?v3) rfl (by kernel_rfl) (by kernel_rfl) (by kernel_rfl) (fun _ _ _ h => h) (Or.inl ⟨by rfl, ?hy3⟩) hH ?rest3
    case hy3 =>
      intro w' hSw
      obtain ⟨q1, q2⟩ := hSw
      go_simp
      try with_reducible rfl
    try simp only [Act.put, List.setIfInBounds_toArray, List.set_cons_zero, List.set_cons_succ]
    refine wpAnyH_take (i := 4) (v := ?v4) rfl (by kernel_rfl) (by kernel_rfl) (by kernel_rfl) (fun _ _ _ h => h) (Or.inl ⟨by rfl, ?hy4⟩) hH ?rest4
    case hy4 =>
      intro w' hSw
      obtain ⟨q1, q2⟩ := hSw
      go_simp
      try with_reducible rfl
    try simp only [Act.put, List.setIfInBounds_toArray, List.set_cons_zero, List.set_cons_succ]
    refine wpAnyH_take (i := 5) (v := ?v5) rfl (by kernel_rfl) (by kernel_rfl) (by kernel_rfl) (fun _ _ _ h => h) (Or.inl ⟨by rfl, ?hy5⟩) hH ?rest5
    case hy5 =>
      intro w' hSw
      obtain ⟨q1, q2⟩ := hSw
      go_simp
      try with_reducible rfl
    try simp only [Act.put, List.setIfInBounds_toArray, List.set_cons_zero, List.set_cons_succ]
    refine wpAnyH_take (i := 6) (v := ?v6) rfl (by kernel_rfl) (by kernel_rfl) (by kernel_rfl) (fun _ _ _ h => h) (Or.inl ⟨by rfl, ?hy6⟩) hH ?rest6
    case hy6 =>
      intro w' hSw
      obtain ⟨q1, q2⟩ := hSw
      go_simp
      try with_reducible rfl
    try simp only [Act.put, List.setIfInBounds_toArray, List.set_cons_zero, List.set_cons_succ]
    refine wpAnyH_take (i := 7) (v := ?v7) rfl (by kernel_rfl) (by kernel_rfl) (by kernel_rfl) (fun _ _ _ h => h) (Or.inl ⟨by rfl, ?hy7⟩) hH ?rest7
    case hy7 =>
      intro w' hSw
      obtain ⟨q1, q2⟩ := hSw
      go_simp
      try with_reducible rfl
    try simp only [Act.put, List.setIfInBounds_toArray, List.set_cons_zero, List.set_cons_succ]
    refine wpAnyH_ready (rs := [0, 8]) (by kernel_rfl) (by simp) ?_
    refine AllReadyH.cons (i := 0) rfl (fun K hK => ?_) (AllReadyH.cons (i := 8) rfl (fun K hK => ?_) (AllReadyH.nil))
    · go_simp
      refine hK.out _ _ hH (fun hH => ?_)
      try simp only [Act.put, List.setIfInBounds_toArray, List.set_cons_zero, List.set_cons_succ]
      refine wpAnyH_ready (rs := [8]) (by kernel_rfl) (by simp) ?_
      refine AllReadyH.cons (i := 8) rfl (fun K hK => ?_) (AllReadyH.nil)
      go_simp
      refine hK.out _ _ ⟨(b1.alloc _).cell, cell_alloc_l' hq _⟩ (fun hH => ?_)
      try simp only [Act.put, List.setIfInBounds_toArray, List.set_cons_zero, List.set_cons_succ]
      refine wpAnyH_ready (rs := [9]) (by kernel_rfl) (by simp) ?_
      refine AllReadyH.cons (i := 9) rfl (fun K hK => ?_) (AllReadyH.nil)
      go_simp
      refine hK.out _ _ ⟨hx1.cell, hq3⟩ (fun hH => ?_)
      try simp only [Act.put, List.setIfInBounds_toArray, List.set_cons_zero, List.set_cons_succ]
      refine wpAnyH_ready (rs := [10]) (by kernel_rfl) (by simp) ?_
      refine AllReadyH.cons (i := 10) rfl (fun K hK => ?_) (AllReadyH.nil)
      go_simp
      refine hK.out _ _ ⟨hy1.cell, hq4⟩ (fun hH => ?_)
      try simp only [Act.put, List.setIfInBounds_toArray, List.set_cons_zero, List.set_cons_succ]
      refine wpAnyH_done (by kernel_rfl) ?_ _
      exact ⟨(KeepsOthers.drew W).trans hk2, ((Below.refl _ W).drew).trans hbb, ⟨⟨_, hv2, by rw [HSN.out.1, HSN.out.2]; exact hown_set hown3 hv1, trivial⟩, hy1, hB.trans (((Below.refl _ W).drew).trans hbb), by simpa using hsz3⟩⟩
    · go_simp
      refine hK.out _ _ ⟨(b1.alloc _).cell, cell_alloc_l' hq _⟩ (fun hH => ?_)
      try simp only [Act.put, List.setIfInBounds_toArray, List.set_cons_zero, List.set_cons_succ]
      refine wpAnyH_ready (rs := [0]) (by kernel_rfl) (by simp) ?_
      refine AllReadyH.cons (i := 0) rfl (fun K hK => ?_) (AllReadyH.nil)
      go_simp
      refine hK.out _ _ hH (fun hH => ?_)
      try simp only [Act.put, List.setIfInBounds_toArray, List.set_cons_zero, List.set_cons_succ]
      refine wpAnyH_ready (rs := [9]) (by kernel_rfl) (by simp) ?_
      refine AllReadyH.cons (i := 9) rfl (fun K hK => ?_) (AllReadyH.nil)
      go_simp
      refine hK.out _ _ ⟨hx1.cell, hq3⟩ (fun hH => ?_)
      try simp only [Act.put, List.setIfInBounds_toArray, List.set_cons_zero, List.set_cons_succ]
      refine wpAnyH_ready (rs := [10]) (by kernel_rfl) (by simp) ?_
      refine AllReadyH.cons (i := 10) rfl (fun K hK => ?_) (AllReadyH.nil)
      go_simp
      refine hK.out _ _ ⟨hy1.cell, hq4⟩ (fun hH => ?_)
      try simp only [Act.put, List.setIfInBounds_toArray, List.set_cons_zero, List.set_cons_succ]
      refine wpAnyH_done (by kernel_rfl) ?_ _
      exact ⟨(KeepsOthers.drew W).trans hk2, ((Below.refl _ W).drew).trans hbb, ⟨⟨_, hv2, by rw [HSN.out.1, HSN.out.2]; exact hown_set hown3 hv1, trivial⟩, hy1, hB.trans (((Below.refl _ W).drew).trans hbb), by simpa using hsz3⟩⟩
  case done =>
    rintro D ys W hD hys ⟨⟨v, hv, hrow, _⟩, b1, hB, hsW⟩ hK
    have hl : keyL (skL sg ys) = Tr.dg (Se.ends m sg) := by
      rw [hends, ← hys, List.map_map]
      unfold keyL skL
      rw [List.map_map]
      rfl
    have hown : OwnT W (w.heap.size + 3) v (skL sg ys) := hrow
    obtain ⟨A', c', rfl, hst, _, _⟩ := hown.form
    have hn : (skL sg ys).length ≤ 1000 := by
      have : ys.length = 18 := by have := congrArg List.length hys; simpa [digs18] using this
      simp [skL, this]
    have hzz : ∀ p ∈ skL sg ys, p.1.size ≤ 1000000 ∧ p.2 ≤ 1000 := by
      intro p hp'
      obtain ⟨q, _, rfl⟩ := List.mem_map.1 hp'
      refine ⟨?_, by simp only; omega⟩
      by_cases hk : q.1.1 < sg.length
      · have : sg.getD q.1.1 ⟨#[]⟩ ∈ sg := by
          rw [List.getD_eq_getElem?_getD, List.getElem?_eq_getElem hk]
          exact List.getElem_mem _
        exact hz _ this
      · have : sg.getD q.1.1 ⟨#[]⟩ = ⟨#[]⟩ := by rw [List.getD_eq_getElem?_getD, List.getElem?_eq_none (by omega)]; rfl
        simp only [this]
        exact Nat.zero_le _
    have KO := Lib.hid (callsIn_wide (n := 4) |>.2 (keyOf_any A' c' _ W hst hn hzz (hp.bt hB)))
    have hc := hv.cell
    have HW := Lib.hid hl
    have HB := Lib.hid hB
    clear hl hown hrow hst hzz hv b1 hB hz hs hends
    generalize (skL sg ys).length = nn at *
    generalize keyL (skL sg ys) = kk at *
    gi_wp2_with (refine ⟨trivial, ?_⟩; gi_at_call 72; refine KO.out.mono ?_; rintro e w1 ⟨rfl, hb1⟩)
    have hK1 : w1.heap[D]? = some (.deferred (some [])) := (hb1.block D (Array.getElem?_eq_some_iff.1 hK).1).trans hK
    refine ⟨by simp, .inl ⟨_, _, rfl, run_takeDeferred hK1, ?_⟩⟩
    exact ⟨_, results_tmp rfl _ _ _, by rw [← HW.out]; rfl, (HB.out.trans (hb1.mono HB.out.size)).trans (belowK_b (w := w) (Nat.le_refl _) w1 D _ _ (by omega) hK1 rfl rfl)⟩
  case stop =>
    rintro D c pre W _ _ h _
    exact h.elim
end Go.Proofs.YtdlmbpoihnifiaaDoor
