import Derived.Test.YtkddpealobeleaaGreatDoorRwN
import Derived.Deep.DeepCutAuto
import Derived.BigRegion
import Derived.Test.YtkddpealobeleaaGreatDoorNmD
import Derived.Test.YtkddpealobeleaaGreatDoorRwH
import Derived.Deep.RegionHeld3
/- Layer 10: newSearch, its first region. -/
set_option linter.unusedSimpArgs false
set_option linter.unusedVariables false
namespace Go.Proofs.YtkddpealobeleaaGreatDoor
open Go.RowKit Go.Shelf
set_option maxRecDepth 100000
set_option maxHeartbeats 8000000
theorem Rw.infoSS : (Tryz.prog.info? 128).map (fun i => (i.zero, i.size, i.bytes)) = some (some (.slice none 0 0), 1, 24) := by kernel_rfl
theorem Rw.infoI : (Tryz.prog.info? 3).map (fun i => (i.zero, i.size, i.bytes)) = some (some (.int .i64 0), 1, 8) := by kernel_rfl
def Rw.vs0 (n : Nat) : List Value := List.replicate n (.slice none 0 0)
def Rw.rv0 (n : Nat) : List Nat := List.replicate (n + 1) 0
theorem Rw.make_ss (n : Nat) (hn : n ≤ 1000) (w : World) : (Instr.makeSlice 70 (.int .i64 (n : Int)) (.int .i64 (n : Int))).run Tryz.prog w = .ok (.slice (some ⟨w.heap.size, 0, none⟩) n n) (w.alloc (.cells (Rw.vs0 n).toArray 128)) := by
  obtain ⟨i0, hi, hz0, hz1, hz2⟩ := info_parts Rw.infoSS
  have := run_make (P := Tryz.prog) w 70 128 i0 (.slice none 0 0) Tryz.underlying70 hi hz0 .i64 .i64 n n (by omega) (Int.le_refl _) (by rw [hz2]; omega) (by omega)
  rw [this, hz1]
  simp only [Int.toNat_natCast, Nat.mul_one]
  have e : madeCells (Value.slice none 0 0).cells n = (Rw.vs0 n).toArray := by
    apply Array.ext'
    show (madeCells #[Value.slice none 0 0] n).toList = _
    rw [toList_madeCells_one]
    simp [Rw.vs0]
  rw [e]
theorem Rw.make_r (n : Nat) (hn : n ≤ 1000) (w : World) : (Instr.makeSlice 29 (.int .i64 ((n : Int) + 1)) (.int .i64 ((n : Int) + 1))).run Tryz.prog w = .ok (.slice (some ⟨w.heap.size, 0, none⟩) (n + 1) (n + 1)) (w.alloc (.cells ((Rw.rv0 n).map fun (x : Nat) => Value.int .i64 (x : Int)).toArray 3)) := by
  obtain ⟨i0, hi, hz0, hz1, hz2⟩ := info_parts Rw.infoI
  have := run_make (P := Tryz.prog) w 29 3 i0 (.int .i64 0) Tryz.underlying29 hi hz0 .i64 .i64 ((n : Int) + 1) ((n : Int) + 1) (by omega) (Int.le_refl _) (by rw [hz2]; omega) (by omega)
  rw [this, hz1]
  rw [show ((n : Int) + 1).toNat = n + 1 from by omega, Nat.mul_one]
  have e : madeCells (Value.int .i64 0).cells (n + 1) = ((Rw.rv0 n).map fun (x : Nat) => Value.int .i64 (x : Int)).toArray := by
    apply Array.ext'
    show (madeCells #[Value.int .i64 0] (n + 1)).toList = _
    rw [toList_madeCells_one]
    simp [Rw.rv0]
  rw [e]
theorem Rw.new_ns (W : World) (gs gr sb K n : Nat) (most : Int) (hs : W.heap[gs]? = some (.cells (Rw.vs0 n).toArray 128 (0, 0))) (hr : W.heap[gr]? = some (.cells ((Rw.rv0 n).map fun (x : Nat) => Value.int .i64 (x : Int)).toArray 3 (0, 0)))
    (hb : W.heap[sb]? = some (.cells #[.slice (some ⟨gs, 0, none⟩) n n, .slice (some ⟨gr, 0, none⟩) (n + 1) (n + 1), .int .i64 most] 72 (0, 0))) (d1 : gs ≠ gr) (d2 : gs ≠ sb) (d3 : gr ≠ sb) (k1 : gs < K) (k2 : gr < K) (k3 : sb < K) (sz : K ≤ W.heap.size) :
    Rw.Ns W gs gr sb K n most (Rw.vs0 n) (Rw.rv0 n) (fun _ => []) :=
  ⟨hs, hr, hb, by simp [Rw.vs0], by simp [Rw.rv0], d1, d2, d3, k1, k2, k3, sz, fun p hp => by
    have : (Rw.vs0 n)[p] = .slice none 0 0 := by simp [Rw.vs0]
    rw [this]
    exact Rw.OwnK.nil _ _, fun p q hp hq _ g hg => by
    have : (Rw.vs0 n)[p] = .slice none 0 0 := by simp [Rw.vs0]
    rw [this] at hg
    simp [Value.ownBlock] at hg⟩
theorem Rw.four (w : World) (o1 o2 o3 o4 : Obj) : (let W := (((w.alloc o1).alloc o2).alloc o3).alloc o4
    W.heap[w.heap.size]? = some o1 ∧ W.heap[w.heap.size + 1]? = some o2 ∧ W.heap[w.heap.size + 1 + 1]? = some o3 ∧ W.heap[w.heap.size + 1 + 1 + 1]? = some o4 ∧ W.heap.size = w.heap.size + 4 ∧ Below w.heap.size w W) := by
  have s1 : (w.alloc o1).heap.size = w.heap.size + 1 := by simp
  have s2 : ((w.alloc o1).alloc o2).heap.size = w.heap.size + 1 + 1 := by simp
  have s3 : (((w.alloc o1).alloc o2).alloc o3).heap.size = w.heap.size + 1 + 1 + 1 := by simp
  refine ⟨?_, ?_, ?_, ?_, by simp, ?_⟩
  · exact (Below.heap_alloc _ _ _ (by omega)).trans ((Below.heap_alloc _ _ _ (by omega)).trans ((Below.heap_alloc _ _ _ (by omega)).trans (heap_alloc_new w o1)))
  · exact (Below.heap_alloc _ _ _ (by omega)).trans ((Below.heap_alloc _ _ _ (by omega)).trans (by rw [← s1]; exact heap_alloc_new _ o2))
  · exact (Below.heap_alloc _ _ _ (by omega)).trans (by rw [← s2]; exact heap_alloc_new _ o3)
  · rw [← s3]
    exact heap_alloc_new _ o4
  · exact ((((Below.refl _ w).alloc (Nat.le_refl _) _).alloc (by omega) _).alloc (by omega) _).alloc (by omega) _
theorem Rw.four' (w : World) (o1 o2 o3 o4 : Obj) : (let W := ((((w.alloc o1).alloc o2).alloc o3).alloc o4).drew
    W.heap[w.heap.size]? = some o1 ∧ W.heap[w.heap.size + 1]? = some o2 ∧ W.heap[w.heap.size + 1 + 1]? = some o3 ∧ W.heap[w.heap.size + 1 + 1 + 1]? = some o4 ∧ W.heap.size = w.heap.size + 4 ∧ Below w.heap.size w W) := by
  obtain ⟨h1, h2, h3, h4, h5, h6⟩ := Rw.four w o1 o2 o3 o4
  exact ⟨h1, h2, h3, h4, h5, Nm.drewB h6 1⟩
/-- What the first region leaves. -/
def Rw.Made (w : World) (n : Nat) (most : Int) (s9 : Value) (wx : World) : Prop :=
  ∃ gs gr sb, s9 = .pointer (some ⟨sb, 0, none⟩) ∧ Rw.Ns wx gs gr sb (w.heap.size + 4) n most (Rw.vs0 n) (Rw.rv0 n) (fun _ => []) ∧ (w.heap.size < gs ∧ w.heap.size < gr ∧ w.heap.size < sb) ∧ Below w.heap.size w wx ∧
    wx.heap[w.heap.size]? = some (.cells #[.slice none 0 0, .slice none 0 0, .int .i64 0] 72 (0, 0))
theorem Rw.made_of (w : World) (n : Nat) (most : Int) (a b c : Nat) (W : World) (gs gr sb : Nat) (h0 : W.heap[w.heap.size]? = some (.cells #[.slice none 0 0, .slice none 0 0, .int .i64 0] 72 (0, 0)))
    (hs : W.heap[gs]? = some (.cells (Rw.vs0 n).toArray 128 (0, 0))) (hr : W.heap[gr]? = some (.cells ((Rw.rv0 n).map fun (x : Nat) => Value.int .i64 (x : Int)).toArray 3 (0, 0)))
    (hb : W.heap[sb]? = some (.cells #[.slice (some ⟨gs, 0, none⟩) n n, .slice (some ⟨gr, 0, none⟩) (n + 1) (n + 1), .int .i64 most] 72 (0, 0)))
    (hz : W.heap.size = w.heap.size + 4) (hB : Below w.heap.size w W) (d : (w.heap.size < gs ∧ w.heap.size < gr ∧ w.heap.size < sb) ∧ gs ≠ gr ∧ gs ≠ sb ∧ gr ≠ sb ∧ gs < w.heap.size + 4 ∧ gr < w.heap.size + 4 ∧ sb < w.heap.size + 4) : Rw.Made w n most (.pointer (some ⟨sb, 0, none⟩)) W :=
  ⟨gs, gr, sb, rfl, Rw.new_ns W gs gr sb _ n most hs hr hb d.2.1 d.2.2.1 d.2.2.2.1 d.2.2.2.2.1 d.2.2.2.2.2.1 d.2.2.2.2.2.2 (by omega), d.1, hB, h0⟩
end Go.Proofs.YtkddpealobeleaaGreatDoor

/- Layer 10: slices.Backward over the lists of steps. -/
set_option linter.unusedSimpArgs false
set_option linter.unusedVariables false
namespace Go.Proofs.YtkddpealobeleaaGreatDoor
open Go.RowKit Go.Shelf
set_option maxRecDepth 100000
set_option maxHeartbeats 4000000
theorem Rw.back_made (gs n c : Nat) (w : World) :
    Calls Tryz.prog 73 #[.slice (some ⟨gs, 0, none⟩) n c] w fun e w' =>
      e = .returned (.func (.func 118) #[] #[.pointer (some ⟨w.heap.size, 0, none⟩)]) ∧ w' = w.alloc (.cells #[.slice (some ⟨gs, 0, none⟩) n c] 70) := by
  go_enter Tryz.func73, Tryz.ntmps73
  go_wp2
  go_ret
  exact ⟨rfl, rfl⟩
def Rw.encB (vs : List Value) (p : Nat) : Array Value := #[.int .i64 (p : Int), vs.getD p (.slice none 0 0)]
def Rw.Gd (n : Nat) (xs : List Nat) : Prop := xs <+: (List.range n).reverse
theorem Rw.range_rev (q : Nat) : (List.range (q + 1)).reverse = q :: (List.range q).reverse := by rw [List.range_succ, List.reverse_append]; rfl
theorem Rw.back_stops (N : Nat) (hN : 1 ≤ N) (A T n₀ n : Nat) (vs : List Value) (hvs : vs.length = n) (hn : n ≤ 1000) (w : World) (hA : A < w.heap.size) (hT : T < w.heap.size) (hn0 : n₀ ≤ w.heap.size)
    (ha : w.heap[A]? = some (.cells #[.slice (some ⟨T, 0, none⟩) n n] 70 (0, 0))) (ht : w.heap[T]? = some (.cells vs.toArray 128 (0, 0))) :
    Nm.StopsG Fence.wide N Tryz.prog 118 #[.pointer (some ⟨A, 0, none⟩)] (Rw.encB vs) (Nm.Kp n₀ A T) (Rw.Gd n) (fun xs => xs = (List.range n).reverse) (Rw.Gd n) w := by
  intro l J Jx W hW hJ hJx hY h0
  have HA := Lib.hid ((hW.block A hA).trans ha)
  have HT := Lib.hid ((hW.block T hT).trans ht)
  have HV := Lib.hid hvs
  have hc0 : W.cell? ⟨A, 0, none⟩ = some (.slice (some ⟨T, 0, none⟩) n n) := by have := HA.out; simp [World.cell?, this]
  clear ha ht hvs
  refine callsIn_of_wp Tryz.func118 rfl trivial ?_ rfl
  simp only [Tryz.ntmps118, List.size_toArray, List.length_cons, List.length_nil, Nat.reduceAdd, Nat.reduceSub, Array.replicate_succ, Array.replicate_zero, List.push_toArray, List.append_toArray, List.nil_append, List.cons_append]
  gi_wp2
  clear hc0
  gi_loopw [3] (fun s3 wr => ∃ (j : Nat) (pre : List Nat), j ≤ n ∧ s3 = .int .i64 ((j : Int) - 1) ∧ Hid (pre ++ (List.range j).reverse = (List.range n).reverse) ∧ J pre wr ∧ Nm.Kp n₀ A T W wr) (fun s3 _ => (intOf s3 + 1).toNat)
  case atStart => exact ⟨n, [], Nat.le_refl _, rfl, Lib.hid rfl, h0, Nm.Kp.refl _ _ _ _⟩
  case round =>
    obtain ⟨j, pre, hj, rfl, HX, hJk, hkp⟩ := hrel
    by_cases hj0 : j = 0
    · subst hj0
      have hE : pre = (List.range n).reverse := by have := HX.out; simpa using this
      have HE := Lib.hid hE
      clear hE
      gi_wp2
      go_end0
      exact ⟨⟨_, rfl⟩, .inl ⟨pre, HE.out, hJk⟩⟩
    · obtain ⟨q, rfl⟩ : ∃ q, j = q + 1 := ⟨j - 1, by omega⟩
      have hq1 : (((q + 1 : Nat) : Int) - 1) = (q : Int) := by omega
      have hq0 : (0 : Int) ≤ (q : Int) := by omega
      have hqn : (q : Int) < (n : Int) := by omega
      have haW := hkp.2.1.trans HA.out
      have htW := hkp.2.2.trans HT.out
      have x0 : wr.cell? ⟨A, 0, none⟩ = some (.slice (some ⟨T, 0, none⟩) n n) := by simp [World.cell?, haW]
      have x1 : wr.cell? ⟨T, q, none⟩ = some (vs.getD q (.slice none 0 0)) := by
        have hql : q < vs.length := by rw [HV.out]; omega
        rw [List.getD_eq_getElem?_getD, List.getElem?_eq_getElem hql]
        simp [World.cell?, htW, hql]
      have HGD : Hid (Rw.Gd n (pre ++ [q])) := Lib.hid (by
        have h1 := HX.out
        rw [Rw.range_rev] at h1
        unfold Rw.Gd
        rw [← h1]
        exact ⟨(List.range q).reverse, by simp⟩)
      have HXN : Hid ((pre ++ [q]) ++ (List.range q).reverse = (List.range n).reverse) := Lib.hid (by
        have h1 := HX.out
        rw [Rw.range_rev] at h1
        rw [← h1]
        simp)
      obtain ⟨fn, tmps, assign, body, hy, hR⟩ := hY pre q _ hJk HGD.out
      dsimp only [Rw.encB] at hy
      obtain ⟨u, hu⟩ : ∃ u, vs.getD q (.slice none 0 0) = u := ⟨_, rfl⟩
      rw [hu] at hy x1
      clear hu
      have hkW := Lib.hid hkp
      clear haW htW hkp hj0
      rw [hq1]
      clear hq1
      gi_wp2
      refine hR.mono ?_
      rintro e W3 (⟨rfl, hJ3, hk3⟩ | ⟨rfl, hJx3⟩)
      · gi_wp2
        exact ⟨⟨q, pre ++ [q], by omega, rfl, HXN, hJ3, hkW.out.trans hk3⟩, by simp [intOf]⟩
      · gi_wp2
        refine bodyPost_ret (results_none rfl _ _ _) rfl ?_
        exact ⟨⟨_, rfl⟩, .inr ⟨_, HGD.out, hJx3⟩⟩
end Go.Proofs.YtkddpealobeleaaGreatDoor

/- Layer 10: newSearch. -/
set_option linter.unusedSimpArgs false
set_option linter.unusedVariables false
namespace Go.Proofs.YtkddpealobeleaaGreatDoor
open Go.RowKit Go.Shelf
set_option maxRecDepth 100000
set_option maxHeartbeats 8000000
attribute [-go_sem] Builtin.append_
/-- The steps from a place when the places of a rule up to x are done. -/
def Rw.stI (RU : List Rw.Ru) (r : Rw.Ru) (L : List Nm.T) (m x p : Nat) : List Rw.Sp := if p + m < x then Rw.steps (RU ++ [r]) L p else Rw.steps RU L p
theorem Rw.stI_start (RU : List Rw.Ru) (r : Rw.Ru) (L : List Nm.T) (m p : Nat) : Rw.stI RU r L m m p = Rw.steps RU L p := if_neg (by omega)
theorem Rw.stI_end (RU : List Rw.Ru) (r : Rw.Ru) (L : List Nm.T) (m x p : Nat) (hm : r.frm.length = m) (hx : L.length < x) : Rw.stI RU r L m x p = Rw.steps (RU ++ [r]) L p := by
  unfold Rw.stI
  split
  · rfl
  · rw [Rw.steps_app, Rw.steps_one, if_neg, List.append_nil]
    unfold Rw.fits
    rw [hm, decide_eq_false (by omega)]
    simp
theorem Rw.stI_hit (RU : List Rw.Ru) (r : Rw.Ru) (L : List Nm.T) (m x p : Nat) (hm : r.frm.length = m) (hmx : m ≤ x) (hf : Rw.fits L (x - m) r = true) :
    Rw.stI RU r L m (x + 1) p = if p = x - m then Rw.stI RU r L m x (x - m) ++ [(x, r.cost, r.to)] else Rw.stI RU r L m x p := by
  unfold Rw.stI
  by_cases hp : p = x - m
  · subst hp
    rw [if_pos (by omega), if_pos rfl, if_neg (by omega), Rw.steps_app, Rw.steps_one, if_pos hf, hm, show x - m + m = x from by omega]
  · rw [if_neg hp]
    by_cases h : p + m < x
    · rw [if_pos (by omega), if_pos h]
    · rw [if_neg (by omega), if_neg h]
theorem Rw.stI_miss (RU : List Rw.Ru) (r : Rw.Ru) (L : List Nm.T) (m x p : Nat) (hm : r.frm.length = m) (hmx : m ≤ x) (hf : Rw.fits L (x - m) r = false) : Rw.stI RU r L m (x + 1) p = Rw.stI RU r L m x p := by
  unfold Rw.stI
  by_cases h : p + m < x
  · rw [if_pos (by omega), if_pos h]
  · by_cases h2 : p + m < x + 1
    · rw [if_pos h2, if_neg h, Rw.steps_app, Rw.steps_one, if_neg, List.append_nil]
      have : p = x - m := by omega
      subst this
      rw [hf]
      decide
    · rw [if_neg h2, if_neg h]
theorem Rw.fits_eq (L : List Nm.T) (x m : Nat) (r : Rw.Ru) (hm : r.frm.length = m) (hmx : m ≤ x) (hx : x ≤ L.length) : Rw.fits L (x - m) r = decide ((L.drop (x - m)).take m = r.frm) := by
  unfold Rw.fits
  rw [hm, decide_eq_true (by omega), Bool.true_and]
theorem Rw.steps_few (RU : List Rw.Ru) (L : List Nm.T) (p : Nat) : (Rw.steps RU L p).length ≤ RU.length := by
  unfold Rw.steps
  rw [List.length_map]
  exact List.length_filter_le _ _
theorem Rw.rus_few (k : Int) (R : List Rw.Rl) : (Rw.rus k R).length ≤ R.length := by
  unfold Rw.rus
  rw [List.length_map]
  exact List.length_filter_le _ _
theorem Rw.stI_few (RU : List Rw.Ru) (r : Rw.Ru) (L : List Nm.T) (m x p : Nat) : (Rw.stI RU r L m x p).length ≤ RU.length + 1 := by
  unfold Rw.stI
  split
  · have := Rw.steps_few (RU ++ [r]) L p
    rw [List.length_append] at this
    exact this
  · have := Rw.steps_few RU L p
    omega
/-- No list of steps lies at a block. -/
def Rw.Off1 (vs : List Value) (b : Nat) : Prop := ∀ q (hq : q < vs.length), vs[q].ownBlock ≠ some b
theorem Rw.off_new {W : World} {gs gr sb K n : Nat} {most : Int} {vs : List Value} {rv : List Nat} {st : Nat → List Rw.Sp} (h : Rw.Ns W gs gr sb K n most vs rv st) {b : Nat} (hb : W.heap.size ≤ b) : Rw.Off1 vs b := fun q hq e => by
  have := ((h.own q hq).lt b e).2
  omega
theorem Rw.off_set {vs : List Value} {b g p : Nat} (h : Rw.Off1 vs b) (hp : p < vs.length) {W : Nat} (hb : b < W) (hg : vs[p].ownBlock = some g ∨ W < g) (n c : Nat) : Rw.Off1 (vs.set p (.slice (some ⟨g, 0, none⟩) n c)) b := fun q hq e => by
  rw [List.length_set] at hq
  by_cases hqp : q = p
  · subst hqp
    rw [List.getElem_set_self] at e
    have : g = b := by simpa [Value.ownBlock] using e
    subst this
    rcases hg with hg | hg
    · exact h q hp hg
    · omega
  · rw [List.getElem_set_ne (fun e => hqp e.symm)] at e
    exact h q hq e
end Go.Proofs.YtkddpealobeleaaGreatDoor

/- Layer 10: what the second half of newSearch keeps. -/
set_option linter.unusedSimpArgs false
set_option linter.unusedVariables false
namespace Go.Proofs.YtkddpealobeleaaGreatDoor
open Go.RowKit Go.Shelf
set_option maxRecDepth 100000
set_option maxHeartbeats 2000000
theorem Rw.cells_grown {W W' : World} {row : Option Nat} (hg : W.grownBy W' row) (hr : ∀ r, row = some r → ∃ o : Obj, W.heap[r]? = some o ∧ o.isCells = false) {b : Nat} {cs : Array Value} {T : TypeId} {f : Nat × Nat} (h : W.heap[b]? = some (.cells cs T f)) : W'.heap[b]? = some (.cells cs T f) := by
  refine (hg.block b (Array.getElem?_eq_some_iff.1 h).1 fun e => ?_).trans h
  obtain ⟨o, ho, hc⟩ := hr b e.symm
  rw [h] at ho
  cases ho
  cases hc
theorem Rw.OwnK.grown {α : Type} {K : Rw.Kd α} {W W' : World} {row : Option Nat} {B : Nat} {v : Value} {l : List α} (h : Rw.OwnK K W B v l) (hg : W.grownBy W' row) (hr : ∀ r, row = some r → ∃ o : Obj, W.heap[r]? = some o ∧ o.isCells = false) : Rw.OwnK K W' B v l := by
  refine ⟨h.1, ?_⟩
  rcases h.2 with h0 | ⟨g, cap, cur, h1, h2, h3, h4⟩
  · exact .inl h0
  · exact .inr ⟨g, cap, cur, h1, h2, Rw.cells_grown hg hr h3, h4⟩
theorem Rw.Ns.grown {W W' : World} {gs gr sb K n : Nat} {most : Int} {vs : List Value} {rv : List Nat} {st : Nat → List Rw.Sp} (h : Rw.Ns W gs gr sb K n most vs rv st) {row : Option Nat} (hg : W.grownBy W' row) (hr : ∀ r, row = some r → ∃ o : Obj, W.heap[r]? = some o ∧ o.isCells = false) : Rw.Ns W' gs gr sb K n most vs rv st :=
  ⟨Rw.cells_grown hg hr h.hs, Rw.cells_grown hg hr h.hr, Rw.cells_grown hg hr h.hb, h.ls, h.lr, h.d1, h.d2, h.d3, h.k1, h.k2, h.k3, Nat.le_trans h.sz hg.size, fun p hp => (h.own p hp).grown hg hr, h.apart⟩
theorem Rw.Ns.far {W W' : World} {gs gr sb K n b : Nat} {most : Int} {vs : List Value} {rv : List Nat} {st : Nat → List Rw.Sp} (h : Rw.Ns W gs gr sb K n most vs rv st) (hg : W.grownBy W' (some b)) (hb : b < K) (h1 : b ≠ gs) (h2 : b ≠ gr) (h3 : b ≠ sb) : Rw.Ns W' gs gr sb K n most vs rv st :=
  have hk := h.sz
  have k1 := h.k1
  have k2 := h.k2
  have k3 := h.k3
  ⟨(hg.block gs (by omega) (by simpa using Ne.symm h1)).trans h.hs, (hg.block gr (by omega) (by simpa using Ne.symm h2)).trans h.hr, (hg.block sb (by omega) (by simpa using Ne.symm h3)).trans h.hb, h.ls, h.lr, h.d1, h.d2, h.d3, h.k1, h.k2, h.k3, Nat.le_trans h.sz hg.size, fun p hp => (h.own p hp).kept hg (by
    cases hob : vs[p].ownBlock with
    | none => exact .inl rfl
    | some g =>
      refine .inr fun e => ?_
      have := ((h.own p hp).lt g hob).1
      cases e
      omega), h.apart⟩
theorem Rw.grown_set (W : World) (b o : Nat) (v : Value) : W.grownBy (W.setCell ⟨b, o, none⟩ v) (some b) := ⟨rfl, rfl, rfl, by simp [World.setCell], fun k hk hne => by
  simp [World.setCell, Array.getElem?_modify]
  intro e
  exact absurd (congrArg some e.symm) hne⟩
/-- The least costs from some places on are right. -/
def Rw.Right (RU : List Rw.Ru) (L : List Nm.T) (n j : Nat) (rv : List Nat) : Prop := ∀ p, j ≤ p → p ≤ n → Rw.IsRest RU L p (rv.getD p 0)
/-- What holds behind some rounds. -/
structure Rw.RI (w wc : World) (Z gs gr sb n : Nat) (most : Int) (vs : List Value) (st : Nat → List Rw.Sp) (RU : List Rw.Ru) (L : List Nm.T) (pre : List Nat) (W : World) : Prop where
  ns : ∃ rv, Rw.Ns W gs gr sb (w.heap.size + 4) n most vs rv st ∧ Rw.Right RU L n (n - pre.length) rv
  below : Below (w.heap.size + 1) wc W
  big : Z ≤ W.heap.size
theorem Rw.RI.own (w wc : World) (Z gs gr sb n : Nat) (most : Int) (vs : List Value) (st : Nat → List Rw.Sp) (RU : List Rw.Ru) (L : List Nm.T) (B : Nat) (hB : w.heap.size + 1 ≤ B) : OwnFrom B (Rw.RI w wc Z gs gr sb n most vs st RU L) := fun pre A C row h hg hr => by
  obtain ⟨rv, h1, h2⟩ := h.ns
  refine ⟨⟨rv, h1.grown hg fun r e => (hr r e).2, h2⟩, h.below.trans ⟨hg.os, hg.tape, hg.output, hg.size, fun i hi => ?_⟩, Nat.le_trans h.big hg.size⟩
  by_cases hlt : i < A.heap.size
  · exact hg.block i hlt fun e => by
      have := (hr i e.symm).1
      omega
  · have := h1.sz
    omega
theorem Rw.gd_last {n x : Nat} {pre : List Nat} (h : Rw.Gd n (pre ++ [x])) : x + pre.length + 1 = n := by
  obtain ⟨z, hz⟩ := h
  have hl := congrArg List.length hz
  simp only [List.length_append, List.length_singleton, List.length_reverse, List.length_range] at hl
  have h1 := congrArg (fun l => l[pre.length]?) hz
  simp only [List.append_assoc, List.getElem?_append_right (Nat.le_refl _), Nat.sub_self, List.singleton_append, List.getElem?_cons_zero] at h1
  rw [List.getElem?_reverse (by simp; omega)] at h1
  simp only [List.length_range] at h1
  rw [List.getElem?_range (by omega)] at h1
  have := Option.some.inj h1
  omega
theorem Rw.right_start (RU : List Rw.Ru) (L : List Nm.T) (n : Nat) (hn : L.length = n) : Rw.Right RU L n n (Rw.rv0 n) := fun p h1 h2 => by
  obtain rfl : p = n := by omega
  have : (Rw.rv0 p).getD p 0 = 0 := by simp [Rw.rv0, List.getD_eq_getElem?_getD]
  rw [this, ← hn]
  exact Rw.rest_end RU L
theorem Rw.minR_congr {rs rt : Nat → Nat} : ∀ (l : List Rw.Sp) , (∀ s ∈ l, rs s.1 = rt s.1) → Rw.minR rs l = Rw.minR rt l := by
  intro l h
  unfold Rw.minR
  have key : ∀ (l : List Rw.Sp) (a : Nat), (∀ s ∈ l, rs s.1 = rt s.1) → l.foldl (fun m s => min m (s.2.1 + rs s.1)) a = l.foldl (fun m s => min m (s.2.1 + rt s.1)) a := by
    intro l
    induction l with
    | nil => intro a _; rfl
    | cons x l ih =>
      intro a h
      rw [List.foldl_cons, List.foldl_cons, h x (by simp)]
      exact ih _ fun s hs => h s (by simp [hs])
  exact key l _ h
/-- One place more. -/
theorem Rw.right_step {RU : List Rw.Ru} {L : List Nm.T} {n p : Nat} {rv : List Nat} (hg : Rw.Good RU) (hL : L.length = n) (h12 : n ≤ 12) (hp : p < n) (hr : Rw.Right RU L n (p + 1) rv) (hl : rv.length = n + 1) :
    Rw.Right RU L n p (rv.set p (Rw.minR (fun q => rv.getD q 0) (Rw.steps RU L p))) := fun q h1 h2 => by
  by_cases hq : q = p
  · subst hq
    have : (rv.set q (Rw.minR (fun q => rv.getD q 0) (Rw.steps RU L q))).getD q 0 = Rw.minR (fun q => rv.getD q 0) (Rw.steps RU L q) := by
      rw [List.getD_eq_getElem?_getD, List.getElem?_set_self (by omega)]
      rfl
    rw [this]
    exact Rw.rest_step hg (by omega) (by omega) fun r h3 h4 => hr r (by omega) (by omega)
  · have : (rv.set p (Rw.minR (fun q => rv.getD q 0) (Rw.steps RU L p))).getD q 0 = rv.getD q 0 := by
      rw [List.getD_eq_getElem?_getD, List.getElem?_set_ne (fun e => hq e.symm), ← List.getD_eq_getElem?_getD]
    rw [this]
    exact hr q (by omega) h2
theorem Rw.rus_good {k : Int} {R : List Rw.Rl} (hf : ∀ x ∈ R, Rw.okF x.k x.frm.data.toList 3 = true ∧ Rw.okTo x.to.data.toList = true ∧ 0 ≤ x.cost ∧ x.cost ≤ 1000) : Rw.Good (Rw.rus k R) := fun r hr => by
  unfold Rw.rus at hr
  obtain ⟨x, hx, rfl⟩ := List.mem_map.1 hr
  obtain ⟨h1, h2, h3, h4⟩ := hf x (List.mem_filter.1 hx).1
  obtain ⟨_, hw, _, _⟩ := Rw.okF_word h1
  have hl := (Nm.isW_iff.1 hw).2.1
  refine ⟨fun e => ?_, ?_, ?_⟩
  · unfold Rw.ru at e
    simp only at e
    rw [e] at hl
    simp at hl
  · show x.cost.toNat ≤ 1000
    omega
  · have := Rw.okTo_size h2
    rw [Lib.size_eq] at this
    exact this
/-- What holds within a round: of the search, of what the rounds before it made, of what the loop over the function keeps. -/
structure Rw.Rd (w wc : World) (gs gr sb n : Nat) (most : Int) (vs : List Value) (st : Nat → List Rw.Sp) (A : Nat) (W V : World) (rv : List Nat) : Prop where
  ns : Rw.Ns V gs gr sb (w.heap.size + 4) n most vs rv st
  below : Below (w.heap.size + 1) wc V
  others : KeepsOthers W V
  kp : Nm.Kp (w.heap.size + 1) A gs W V
  n0 : w.heap.size < gr
  far : w.heap.size + 4 ≤ A
  lt : A < V.heap.size
theorem Rw.Rd.setR {w wc : World} {gs gr sb n : Nat} {most : Int} {vs : List Value} {st : Nat → List Rw.Sp} {A : Nat} {W V : World} {rv : List Nat} (h : Rw.Rd w wc gs gr sb n most vs st A W V rv) (x v : Nat) :
    Rw.Rd w wc gs gr sb n most vs st A W (V.setCell ⟨gr, x, none⟩ (.int .i64 (v : Int))) (rv.set x v) := by
  have hb : ∀ b, b < V.heap.size → b ≠ gr → (V.setCell ⟨gr, x, none⟩ (.int .i64 (v : Int))).heap[b]? = V.heap[b]? := fun b hb hne => (Rw.grown_set V gr x (.int .i64 (v : Int))).block b hb (by simpa using hne)
  have h4 := h.ns.sz
  have h5 := h.ns.k1
  have h6 := h.ns.k2
  have h7 := h.far
  have hz : A < V.heap.size → (V.setCell ⟨gr, x, none⟩ (.int .i64 (v : Int))).heap[A]? = V.heap[A]? := fun h8 => hb A h8 (by omega)
  refine ⟨h.ns.setR x v, h.below.setCell (p := ⟨gr, x, none⟩) h.n0 _, h.others.trans (KeepsOthers.setCell _ _ _), h.kp.trans ⟨(Below.refl _ _).setCell (p := ⟨gr, x, none⟩) h.n0 _, ?_, hb gs (by omega) h.ns.d1⟩, h.n0, h.far, by simpa [World.setCell] using h.lt⟩
  exact Below.heap_setCell _ _ _ _ (show A ≠ gr from by omega)
theorem Rw.Rd.start {w wc : World} {gs gr sb n : Nat} {most : Int} {vs : List Value} {st : Nat → List Rw.Sp} {A : Nat} {W : World} {rv : List Nat} (h : Rw.Ns W gs gr sb (w.heap.size + 4) n most vs rv st) (hb : Below (w.heap.size + 1) wc W) (h0 : w.heap.size < gr) (hA : w.heap.size + 4 ≤ A) (hlt : A < W.heap.size) (x : Nat) :
    Rw.Rd w wc gs gr sb n most vs st A W (W.setCell ⟨gr, x, none⟩ (.int .i64 12001)) (rv.set x 12001) :=
  Rw.Rd.setR ⟨h, hb, KeepsOthers.refl _, Nm.Kp.refl _ _ _ _, h0, hA, hlt⟩ x 12001
theorem Rw.Rd.bt {w wc : World} {gs gr sb n : Nat} {most : Int} {vs : List Value} {st : Nat → List Rw.Sp} {A : Nat} {W V V' : World} {rv : List Nat} (h : Rw.Rd w wc gs gr sb n most vs st A W V rv) (hb : Below V.heap.size V V') (ho : KeepsOthers V V') :
    Rw.Rd w wc gs gr sb n most vs st A W V' rv :=
  have h4 := h.ns.sz
  ⟨h.ns.bt hb, h.below.trans (hb.mono (by omega)), h.others.trans ho, h.kp.trans (Nm.Kp.below hb (by omega) h.lt (by have := h.ns.k1; omega)), h.n0, h.far, Nat.lt_of_lt_of_le h.lt hb.size⟩
theorem Rw.Rd.alloc {w wc : World} {gs gr sb n : Nat} {most : Int} {vs : List Value} {st : Nat → List Rw.Sp} {A : Nat} {W V : World} {rv : List Nat} (h : Rw.Rd w wc gs gr sb n most vs st A W V rv) (o : Obj) :
    Rw.Rd w wc gs gr sb n most vs st A W (V.alloc o) rv := h.bt (Nm.al _ _) (KeepsOthers.alloc _ _)
theorem Rw.Rd.drew {w wc : World} {gs gr sb n : Nat} {most : Int} {vs : List Value} {st : Nat → List Rw.Sp} {A : Nat} {W V : World} {rv : List Nat} (h : Rw.Rd w wc gs gr sb n most vs st A W V rv) :
    Rw.Rd w wc gs gr sb n most vs st A W V.drew rv := h.bt (Nm.drewB (Below.refl _ _) 1) ⟨Nat.le_refl _, fun _ _ h _ => h⟩
theorem Rw.Rd.read {w wc : World} {gs gr sb n : Nat} {most : Int} {vs : List Value} {st : Nat → List Rw.Sp} {A : Nat} {W V : World} {rv : List Nat} (h : Rw.Rd w wc gs gr sb n most vs st A W V rv) {x : Nat} (hx : x < n) {A2 : Option Addr} {c2 : Nat} {SL : List Rw.Sp} (hpv : x < vs.length)
    (hv : vs[x] = .slice A2 SL.length c2) (hs : st x = SL) (j : Nat) (hj : j < SL.length) : ∃ ad, A2 = some ad ∧ V.cell? (ad.add (j * 3)) = some (.int .i64 ((SL[j].1 : Nat) : Int)) ∧
      V.cell? { block := (ad.add (j * 3)).block, off := (ad.add (j * 3)).off + 1 } = some (.int .i64 ((SL[j].2.1 : Nat) : Int)) ∧ V.cell? { block := (ad.add (j * 3)).block, off := (ad.add (j * 3)).off + 2 } = some (.string (Nm.bt SL[j].2.2)) := by
  subst hs
  obtain ⟨A3, c3, h3, r3, _, _⟩ := (h.ns.own x hpv).form Rw.okS
  rw [h3] at hv
  cases hv
  obtain ⟨g, hA, hg, hc⟩ := r3.get j hj
  have e : (⟨g, 0, none⟩ : Addr).add (j * 3) = ⟨g, j * 3, none⟩ := by unfold Addr.add; split <;> simp_all
  refine ⟨⟨g, 0, none⟩, hA, ?_, ?_, ?_⟩
  · rw [e]
    exact (hc 0 (by decide)).trans rfl
  · rw [e]
    exact (hc 1 (by decide)).trans rfl
  · rw [e]
    exact (hc 2 (by decide)).trans rfl
end Go.Proofs.YtkddpealobeleaaGreatDoor
