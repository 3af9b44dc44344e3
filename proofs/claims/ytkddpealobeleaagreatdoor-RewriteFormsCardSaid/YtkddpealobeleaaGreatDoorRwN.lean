/- Layer 10: the memory of a search. -/
import Derived.Test.YtkddpealobeleaaGreatDoorRwO
import Derived.Test.YtkddpealobeleaaGreatDoorRwU
set_option linter.unusedSimpArgs false
set_option linter.unusedVariables false
namespace Go.Proofs.YtkddpealobeleaaGreatDoor
open Go.RowKit Go.Shelf
set_option maxRecDepth 100000
set_option maxHeartbeats 2000000
def Rw.KS : Rw.Kd Rw.Sp := { T := 130, S := 128, m := 3, bs := 32, z := .agg #[.int .i64 0, .int .i64 0, .string ⟨#[]⟩], cs := fun x => [.int .i64 (x.1 : Int), .int .i64 (x.2.1 : Int), .string (Nm.bt x.2.2)] }
theorem Rw.okS : Rw.KS.Ok := ⟨fun _ => rfl, fun x u hu => by simp [Rw.KS] at hu; rcases hu with rfl | rfl | rfl <;> rfl, by decide, Tryz.underlying128, by kernel_rfl, by decide, by decide⟩
/-! ### which steps -/
/-- The rules of a script, with their letters. -/
def Rw.ru (x : Rw.Rl) : Rw.Ru := ⟨Nm.ls (Nm.sc x.k) x.frm.data.toList, x.to.data.toList, x.cost.toNat⟩
def Rw.rus (k : Int) (R : List Rw.Rl) : List Rw.Ru := (R.filter fun x => decide (x.k = k)).map Rw.ru
theorem Rw.rus_snoc (k : Int) (R : List Rw.Rl) (i : Nat) (h : i < R.length) : Rw.rus k (R.take (i + 1)) = Rw.rus k (R.take i) ++ (if R[i].k = k then [Rw.ru R[i]] else []) := by
  unfold Rw.rus
  rw [List.take_succ_eq_append_getElem h, List.filter_append, List.map_append]
  by_cases hk : R[i].k = k
  · rw [if_pos hk]
    simp [hk]
  · rw [if_neg hk]
    simp [hk]
theorem Rw.steps_app (a b : List Rw.Ru) (L : List Nm.T) (p : Nat) : Rw.steps (a ++ b) L p = Rw.steps a L p ++ Rw.steps b L p := by simp [Rw.steps]
theorem Rw.steps_one (r : Rw.Ru) (L : List Nm.T) (p : Nat) : Rw.steps [r] L p = if Rw.fits L p r = true then [(p + r.frm.length, r.cost, r.to)] else [] := by
  unfold Rw.steps
  by_cases h : Rw.fits L p r = true
  · simp [h]
  · simp [h]
/-! ### the memory -/
/-- The blocks of a search: the lists of steps, the least costs, the search itself. -/
structure Rw.Ns (W : World) (gs gr sb K n : Nat) (most : Int) (vs : List Value) (rv : List Nat) (st : Nat → List Rw.Sp) : Prop where
  hs : W.heap[gs]? = some (.cells vs.toArray 128 (0, 0))
  hr : W.heap[gr]? = some (.cells (rv.map fun (x : Nat) => Value.int .i64 (x : Int)).toArray 3 (0, 0))
  hb : W.heap[sb]? = some (.cells #[.slice (some ⟨gs, 0, none⟩) n n, .slice (some ⟨gr, 0, none⟩) (n + 1) (n + 1), .int .i64 most] 72 (0, 0))
  ls : vs.length = n
  lr : rv.length = n + 1
  d1 : gs ≠ gr
  d2 : gs ≠ sb
  d3 : gr ≠ sb
  k1 : gs < K
  k2 : gr < K
  k3 : sb < K
  sz : K ≤ W.heap.size
  own : ∀ p (h : p < vs.length), Rw.OwnK Rw.KS W K vs[p] (st p)
  apart : ∀ p q (hp : p < vs.length) (hq : q < vs.length), p ≠ q → ∀ g, vs[p].ownBlock = some g → vs[q].ownBlock ≠ some g
theorem Rw.Ns.bt {W V : World} {gs gr sb K n : Nat} {most : Int} {vs : List Value} {rv : List Nat} {st : Nat → List Rw.Sp} (h : Rw.Ns W gs gr sb K n most vs rv st) (hb : Below W.heap.size W V) : Rw.Ns V gs gr sb K n most vs rv st :=
  have hk := h.sz
  have h1 := h.k1
  have h2 := h.k2
  have h3 := h.k3
  ⟨(hb.block gs (by omega)).trans h.hs, (hb.block gr (by omega)).trans h.hr, (hb.block sb (by omega)).trans h.hb, h.ls, h.lr, h.d1, h.d2, h.d3, h.k1, h.k2, h.k3, Nat.le_trans h.sz hb.size, fun p hp => (h.own p hp).bt hb, h.apart⟩
theorem Rw.Ns.congr {W : World} {gs gr sb K n : Nat} {most : Int} {vs : List Value} {rv : List Nat} {st su : Nat → List Rw.Sp} (h : Rw.Ns W gs gr sb K n most vs rv st) (he : ∀ p, p < n → st p = su p) : Rw.Ns W gs gr sb K n most vs rv su :=
  ⟨h.hs, h.hr, h.hb, h.ls, h.lr, h.d1, h.d2, h.d3, h.k1, h.k2, h.k3, h.sz, fun p hp => by rw [← he p (by rw [← h.ls]; exact hp)]; exact h.own p hp, h.apart⟩
theorem Rw.Ns.drew {W : World} {gs gr sb K n : Nat} {most : Int} {vs : List Value} {rv : List Nat} {st : Nat → List Rw.Sp} (h : Rw.Ns W gs gr sb K n most vs rv st) : Rw.Ns W.drew gs gr sb K n most vs rv st := h.bt (Nm.drewB (Below.refl _ _) 1)
section
variable {W : World} {gs gr sb K n : Nat} {most : Int} {vs : List Value} {rv : List Nat} {st : Nat → List Rw.Sp}
theorem Rw.Ns.b0 (h : Rw.Ns W gs gr sb K n most vs rv st) : W.cell? ⟨sb, 0, none⟩ = some (.slice (some ⟨gs, 0, none⟩) n n) := by
  have := h.hb
  simp [World.cell?, this]
theorem Rw.Ns.b1 (h : Rw.Ns W gs gr sb K n most vs rv st) : W.cell? ⟨sb, 1, none⟩ = some (.slice (some ⟨gr, 0, none⟩) (n + 1) (n + 1)) := by
  have := h.hb
  simp [World.cell?, this]
theorem Rw.Ns.b2 (h : Rw.Ns W gs gr sb K n most vs rv st) : W.cell? ⟨sb, 2, none⟩ = some (.int .i64 most) := by
  have := h.hb
  simp [World.cell?, this]
theorem Rw.Ns.s (h : Rw.Ns W gs gr sb K n most vs rv st) (p : Nat) (hp : p < n) : W.cell? ⟨gs, p, none⟩ = some (vs[p]'(by rw [h.ls]; exact hp)) := by
  have := h.hs
  simp [World.cell?, this, h.ls, hp]
theorem Rw.Ns.r (h : Rw.Ns W gs gr sb K n most vs rv st) (p : Nat) (hp : p < n + 1) : W.cell? ⟨gr, p, none⟩ = some (.int .i64 ((rv[p]'(by rw [h.lr]; exact hp) : Nat) : Int)) := by
  have := h.hr
  simp [World.cell?, this, h.lr, hp]
theorem Rw.Ns.fs (h : Rw.Ns W gs gr sb K n most vs rv st) (p : Nat) : W.frozen? ⟨gs, p, none⟩ = false := Lib.frozen_of_heap h.hs p
theorem Rw.Ns.fr (h : Rw.Ns W gs gr sb K n most vs rv st) (p : Nat) : W.frozen? ⟨gr, p, none⟩ = false := Lib.frozen_of_heap h.hr p
/-- A least cost is put down. -/
theorem Rw.Ns.setR (h : Rw.Ns W gs gr sb K n most vs rv st) (p x : Nat) : Rw.Ns (W.setCell ⟨gr, p, none⟩ (.int .i64 (x : Int))) gs gr sb K n most vs (rv.set p x) st := by
  have hk := h.sz
  have h2 := h.k2
  have hset : Below gr W (W.setCell ⟨gr, p, none⟩ (.int .i64 (x : Int))) := (Below.refl gr W).setCell (p := ⟨gr, p, none⟩) (Nat.le_refl _) _
  have hgb : W.grownBy (W.setCell ⟨gr, p, none⟩ (.int .i64 (x : Int))) (some gr) := ⟨rfl, rfl, rfl, by simp [World.setCell], fun k hk hne => by
    simp [World.setCell, Array.getElem?_modify]
    intro e
    exact absurd (congrArg some e.symm) hne⟩
  refine ⟨(hgb.block gs (by have := h.k1; omega) (by simpa using h.d1)).trans h.hs, ?_, (hgb.block sb (by have := h.k3; omega) (by simpa using Ne.symm h.d3)).trans h.hb, h.ls, by rw [List.length_set]; exact h.lr, h.d1, h.d2, h.d3, h.k1, h.k2, h.k3, by simpa [World.setCell] using h.sz, fun q hq => (h.own q hq).kept hgb ?_, h.apart⟩
  · have := h.hr
    simp [World.setCell, Array.getElem?_modify, this, List.map_set]
  · cases hob : vs[q].ownBlock with
    | none => exact .inl rfl
    | some g =>
      refine .inr fun e => ?_
      have h1 := ((h.own q hq).lt g hob).1
      cases e
      omega
/-- A step is put behind those of a place. -/
theorem Rw.Ns.add (h : Rw.Ns W gs gr sb K n most vs rv st) (p : Nat) (hp : p < n) (x : Rw.Sp) (hm : (st p).length ≤ 1000) :
    ∃ g cap w3, (Builtin.append_ #[128, 128] 128 #[vs[p]'(by rw [h.ls]; exact hp), .slice (some ⟨W.heap.size, 0, none⟩) 1 1]).run Tryz.prog (W.drew.alloc (.cells (Rw.KS.cs x).toArray 130)) = .ok (.slice (some ⟨g, 0, none⟩) ((st p).length + 1) cap) w3 ∧
      Rw.Ns (W.drew.alloc (.cells (Rw.KS.cs x).toArray 130)) gs gr sb K n most vs rv st ∧
      w3.cell? ⟨gs, p, none⟩ = some (vs[p]'(by rw [h.ls]; exact hp)) ∧ w3.frozen? ⟨gs, p, none⟩ = false ∧
      Rw.Ns (w3.setCell ⟨gs, p, none⟩ (.slice (some ⟨g, 0, none⟩) ((st p).length + 1) cap)) gs gr sb K n most (vs.set p (.slice (some ⟨g, 0, none⟩) ((st p).length + 1) cap)) rv (fun q => if q = p then st p ++ [x] else st q) ∧
      (∀ B, B ≤ gs → B ≤ K → Below B W (w3.setCell ⟨gs, p, none⟩ (.slice (some ⟨g, 0, none⟩) ((st p).length + 1) cap))) ∧
      ((vs[p]'(by rw [h.ls]; exact hp)).ownBlock = some g ∨ W.heap.size < g) ∧
      (∀ b, b < W.heap.size → b ≠ gs → (∀ q (hq : q < vs.length), vs[q].ownBlock ≠ some b) → (w3.heap[b]? = W.heap[b]? ∧ (w3.setCell ⟨gs, p, none⟩ (.slice (some ⟨g, 0, none⟩) ((st p).length + 1) cap)).heap[b]? = W.heap[b]?)) := by
  have hpv : p < vs.length := by rw [h.ls]; exact hp
  have hk := h.sz
  have h1 := h.k1
  have h2 := h.k2
  have h3 := h.k3
  obtain ⟨i0, hi, hz0, hz1, hz2⟩ := info_parts Rw.okS.info
  have hA : Rw.Ns (W.drew.alloc (.cells (Rw.KS.cs x).toArray 130)) gs gr sb K n most vs rv st := h.drew.bt (Nm.al W.drew _)
  have hrowA := hA.own p hpv
  obtain ⟨v3, w3, hrun, hown, hgrow, _, hob⟩ := run_append_own_at (P := Tryz.prog) (w := W.drew.alloc (.cells (Rw.KS.cs x).toArray 130)) K 128 128 130 i0 Rw.KS.z 3 32 Tryz.underlying128 hi hz0 hz1 hz2 Rw.okS.zs (by decide) vs[p] (st p).length ((st p).flatMap Rw.KS.cs)
    hrowA ⟨W.heap.size, 0, none⟩ 1 1 (Rw.KS.cs x) rfl (World.news_of_block (heap_alloc_new W.drew _)) (Rw.okS.one x) (by unfold maxLen; omega) (by omega) (by simp; omega)
  obtain ⟨g, cap, rfl⟩ := ownsRow_succ hown
  have hszd : W.drew.heap.size = W.heap.size := rfl
  have hszA : (W.drew.alloc (.cells (Rw.KS.cs x).toArray 130)).heap.size = W.heap.size + 1 := by simp [hszd]
  have hg3 := hgrow.size
  rw [hszA] at hg3
  -- the block of the new list
  have hgK : K ≤ g ∧ g < w3.heap.size := by
    have hl : Rw.OwnK Rw.KS w3 K (.slice (some ⟨g, 0, none⟩) ((st p).length + 1) cap) (st p ++ [x]) := by
      unfold Rw.OwnK
      rw [List.length_append, List.flatMap_append, List.flatMap_cons, List.flatMap_nil, List.append_nil]
      exact hown
    exact hl.lt g rfl
  have hkeep : ∀ b, b < W.heap.size → vs[p].ownBlock ≠ some b → w3.heap[b]? = W.heap[b]? := fun b hb hne =>
    ((hgrow.block b (by rw [hszA]; omega) (fun e => hne e.symm)).trans (Below.heap_alloc W.drew _ b hb))
  have hfar : ∀ b, b < K → vs[p].ownBlock ≠ some b := fun b hb e => by
    have := ((h.own p hpv).lt b e).1
    omega
  have hset : w3.grownBy (w3.setCell ⟨gs, p, none⟩ (.slice (some ⟨g, 0, none⟩) ((st p).length + 1) cap)) (some gs) := ⟨rfl, rfl, rfl, by simp [World.setCell], fun k hk hne => by
    simp [World.setCell, Array.getElem?_modify]
    intro e
    exact absurd (congrArg some e.symm) hne⟩
  have h3s : w3.heap[gs]? = some (.cells vs.toArray 128 (0, 0)) := (hkeep gs (by omega) (hfar gs h1)).trans h.hs
  have hgne : ∀ q (hq : q < vs.length), q ≠ p → vs[q].ownBlock ≠ some g := fun q hq hne e => by
    rcases hob with hob | hob
    · have : vs[p].ownBlock = some g := by rw [← hob]; rfl
      exact h.apart q p hq hpv hne g e this
    · have hg : g = W.heap.size + 1 := by
        rw [hszA] at hob
        simpa [Value.ownBlock] using hob
      have := ((h.own q hq).lt g e).2
      omega
  refine ⟨g, cap, w3, hrun, hA, ?_, Lib.frozen_of_heap h3s p, ⟨?_, (hset.block gr (by omega) (by simpa using Ne.symm h.d1)).trans ((hkeep gr (by omega) (hfar gr h2)).trans h.hr), (hset.block sb (by omega) (by simpa using Ne.symm h.d2)).trans ((hkeep sb (by omega) (hfar sb h3)).trans h.hb), by rw [List.length_set]; exact h.ls, h.lr, h.d1, h.d2, h.d3, h.k1, h.k2, h.k3, by
      have := hset.size
      omega, fun q hq => ?_, fun q r hq hr hne b hqb hrb => ?_⟩, fun B hB hBK => ?_, ?_, fun b hb hne hq => ?_⟩
  · simp [World.cell?, h3s, hpv]
  · simp [World.setCell, Array.getElem?_modify, h3s]
  · rw [List.length_set] at hq
    by_cases hqp : q = p
    · subst hqp
      rw [List.getElem_set_self, if_pos rfl]
      have hl : Rw.OwnK Rw.KS w3 K (.slice (some ⟨g, 0, none⟩) ((st q).length + 1) cap) (st q ++ [x]) := by
        unfold Rw.OwnK
        rw [List.length_append, List.flatMap_append, List.flatMap_cons, List.flatMap_nil, List.append_nil]
        exact hown
      refine hl.kept hset (.inr fun e => ?_)
      have : g = gs := by simpa [Value.ownBlock] using e
      omega
    · rw [List.getElem_set_ne (fun e => hqp e.symm), if_neg hqp]
      have ho := h.own q hq
      have hoA := hA.own q hq
      refine (hoA.kept hgrow ?_).kept hset ?_
      · cases hb : vs[q].ownBlock with
        | none => exact .inl rfl
        | some b => exact .inr fun e => h.apart q p hq hpv hqp b hb e.symm
      · cases hb : vs[q].ownBlock with
        | none => exact .inl rfl
        | some b =>
          refine .inr fun e => ?_
          have := (ho.lt b hb).1
          cases e
          omega
  · have hq0 : q < vs.length := by simpa using hq
    have hr0 : r < vs.length := by simpa using hr
    by_cases hqp : q = p
    · subst hqp
      rw [List.getElem_set_self] at hqb
      rw [List.getElem_set_ne hne] at hrb
      have : g = b := by simpa [Value.ownBlock] using hqb
      subst this
      exact hgne r hr0 (Ne.symm hne) hrb
    · rw [List.getElem_set_ne (fun e => hqp e.symm)] at hqb
      by_cases hrp : r = p
      · subst hrp
        rw [List.getElem_set_self] at hrb
        have : g = b := by simpa [Value.ownBlock] using hrb
        subst this
        exact hgne q hq0 hqp hqb
      · rw [List.getElem_set_ne (fun e => hrp e.symm)] at hrb
        exact h.apart q r hq0 hr0 hne b hqb hrb
  · refine ⟨hgrow.os, hgrow.tape, hgrow.output, by have := hset.size; omega, fun b hb => ?_⟩
    exact (hset.block b (by omega) (by intro e; cases e; omega)).trans (hkeep b (by omega) (hfar b (by omega)))
  · rcases hob with hob | hob
    · exact .inl (by rw [← hob]; rfl)
    · rw [hszA] at hob
      have : g = W.heap.size + 1 := by simpa [Value.ownBlock] using hob
      exact .inr (by omega)
  · have := hkeep b hb (hq p hpv)
    exact ⟨this, (hset.block b (by omega) (by simpa using hne)).trans this⟩
end
end Go.Proofs.YtkddpealobeleaaGreatDoor
