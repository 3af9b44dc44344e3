import Derived.Test.YtkddpealobeleaaGreatDoorRwV
import Derived.Test.YtkddpealobeleaaGreatDoorRwXY
/- Layer 10: what forms keeps in memory. -/
set_option linter.unusedSimpArgs false
set_option linter.unusedVariables false
namespace Go.Proofs.YtkddpealobeleaaGreatDoor
open Go.RowKit Go.Shelf
set_option maxRecDepth 100000
set_option maxHeartbeats 1000000
/-- The search, its box, the maps of the places, made behind block b. -/
structure Rw.Fm (w : World) (gs gr sb K n : Nat) (most : Int) (vs : List Value) (rv : List Nat) (st : Nat → List Rw.Sp) (M : Nat → Rw.Mp) (W : World) : Prop where
  ns : Rw.Ns W gs gr sb K n most vs rv st
  bx : W.heap[w.heap.size]? = some (.cells #[.slice (some ⟨gs, 0, none⟩) n n, .slice (some ⟨gr, 0, none⟩) (n + 1) (n + 1), .int .i64 most] 72 (0, 0))
  tb : W.heap[w.heap.size + 1]? = some (.cells ((List.range (n + 1)).map fun p => Value.map (some (w.heap.size + 2 + p))).toArray 68 (0, 0))
  maps : ∀ p, p ≤ n → Rw.MT W (w.heap.size + 2 + p) (M p)
  below : Below w.heap.size w W
  big : w.heap.size + n + 3 ≤ W.heap.size
section
variable {w : World} {gs gr sb K n : Nat} {most : Int} {vs : List Value} {rv : List Nat} {st : Nat → List Rw.Sp} {M : Nat → Rw.Mp} {W V : World}
theorem Rw.Fm.bt (h : Rw.Fm w gs gr sb K n most vs rv st M W) (hb : Below W.heap.size W V) : Rw.Fm w gs gr sb K n most vs rv st M V :=
  have hz := h.big
  ⟨h.ns.bt hb, (hb.block _ (by omega)).trans h.bx, (hb.block _ (by omega)).trans h.tb, fun p hp => (h.maps p hp).bt hb, h.below.trans (hb.mono (by omega)), Nat.le_trans h.big hb.size⟩
theorem Rw.Fm.row (h : Rw.Fm w gs gr sb K n most vs rv st M W) {r : Nat} {o : Obj} (ho : W.heap[r]? = some o) (hc : o.isCells = false) (hr : w.heap.size ≤ r) (hg : W.grownBy V (some r)) (N : Nat → Rw.Mp) (hN : ∀ p, p ≤ n → Rw.MT V (w.heap.size + 2 + p) (N p)) :
    Rw.Fm w gs gr sb K n most vs rv st N V :=
  have hrow : ∀ r', some r = some r' → ∃ o : Obj, W.heap[r']? = some o ∧ o.isCells = false := fun r' e => by cases e; exact ⟨o, ho, hc⟩
  ⟨h.ns.grown hg hrow, Rw.cells_grown hg hrow h.bx, Rw.cells_grown hg hrow h.tb, hN, h.below.grown hg h.below.size (fun k e => by cases e; exact hr), Nat.le_trans h.big hg.size⟩
/-- The map of a place is written. -/
theorem Rw.Fm.put (h : Rw.Fm w gs gr sb K n most vs rv st M W) {q : Nat} (hq : q ≤ n) {m : Rw.Mp} (hm : Rw.MT V (w.heap.size + 2 + q) m) (hg : W.grownBy V (some (w.heap.size + 2 + q))) : Rw.Fm w gs gr sb K n most vs rv st (Rw.upd M q m) V :=
  h.row (h.maps q hq) rfl (by omega) hg _ fun p hp => by
    unfold Rw.upd
    by_cases e : p = q
    · subst e
      rw [if_pos rfl]
      exact hm
    · rw [if_neg e]
      exact (h.maps p hp).other hg (by omega)
/-- An iterator goes on. -/
theorem Rw.Fm.iter (h : Rw.Fm w gs gr sb K n most vs rv st M W) {r : Nat} {o : Obj} (ho : W.heap[r]? = some o) (hc : o.isCells = false) (hr : w.heap.size + n + 3 ≤ r) (hg : W.grownBy V (some r)) : Rw.Fm w gs gr sb K n most vs rv st M V :=
  h.row ho hc (by omega) hg _ fun p hp => (h.maps p hp).other hg (by omega)
theorem Rw.Fm.c0 (h : Rw.Fm w gs gr sb K n most vs rv st M W) : W.cell? ⟨w.heap.size, 0, none⟩ = some (.slice (some ⟨gs, 0, none⟩) n n) := by simp [World.cell?, h.bx]
theorem Rw.Fm.c1 (h : Rw.Fm w gs gr sb K n most vs rv st M W) : W.cell? ⟨w.heap.size, 1, none⟩ = some (.slice (some ⟨gr, 0, none⟩) (n + 1) (n + 1)) := by simp [World.cell?, h.bx]
theorem Rw.Fm.c2 (h : Rw.Fm w gs gr sb K n most vs rv st M W) : W.cell? ⟨w.heap.size, 2, none⟩ = some (.int .i64 most) := by simp [World.cell?, h.bx]
theorem Rw.Fm.t (h : Rw.Fm w gs gr sb K n most vs rv st M W) (p : Nat) (hp : p ≤ n) : W.cell? ⟨w.heap.size + 1, p, none⟩ = some (.map (some (w.heap.size + 2 + p))) := by
  simp [World.cell?, h.tb, show p < n + 1 from by omega]
end
/-- The texts and costs of a place are bounded. -/
def Rw.Bd (n : Nat) (M : Nat → Rw.Mp) : Prop := ∀ p, p ≤ n → ∀ x ∈ M p, x.1.length ≤ 3 * p ∧ x.2 ≤ 1000 * p
theorem Rw.keep_mem {m : Rw.Mp} {f : Nm.T} {c : Nat} {x : Nm.T × Nat} (h : x ∈ Rw.keep m f c) : x ∈ m ∨ x = (f, c) := by
  have hp : ∀ m : Rw.Mp, x ∈ Rw.put m f c → x ∈ m ∨ x = (f, c) := by
    intro m
    induction m with
    | nil => intro h; simpa [Rw.put] using h
    | cons y m ih =>
      intro h
      unfold Rw.put at h
      split at h
      · rcases List.mem_cons.1 h with h | h
        · exact .inr h
        · exact .inl (List.mem_cons_of_mem _ h)
      · rcases List.mem_cons.1 h with h | h
        · exact .inl (by rw [h]; exact List.mem_cons_self)
        · rcases ih h with h | h
          · exact .inl (List.mem_cons_of_mem _ h)
          · exact .inr h
  unfold Rw.keep at h
  split at h
  · exact hp _ h
  · split at h
    · exact hp _ h
    · exact .inl h
theorem Rw.Bd.keep {n : Nat} {M : Nat → Rw.Mp} (h : Rw.Bd n M) {p q : Nat} (hpq : p < q) (hq : q ≤ n) {g t : Nm.T} {d c : Nat} (hg : g.length ≤ 3 * p) (hd : d ≤ 1000 * p) (ht : t.length ≤ 3) (hc : c ≤ 1000) : Rw.Bd n (Rw.upd M q (Rw.keep (M q) (g ++ t) (d + c))) := fun k hk x hx => by
  unfold Rw.upd at hx
  by_cases e : k = q
  · rw [if_pos e] at hx
    subst e
    rcases Rw.keep_mem hx with h1 | rfl
    · exact h k hk x h1
    · simp only [List.length_append]
      omega
  · rw [if_neg e] at hx
    exact h k hk x hx
theorem Rw.Bd.sh {n : Nat} {M : Nat → Rw.Mp} (h : Rw.Bd n M) (hn : n ≤ 12) {p : Nat} (hp : p ≤ n) : Rw.Sh (M p) := fun x hx => by
  have := (h p hp x hx).1
  omega
theorem Rw.In.nodup {R : List Rw.Ru} {L : List Nm.T} {rs : Nat → Nat} {most : Int} {M : Nat → Rw.Mp} {i : Nat} {D : Nm.T → Nat → Rw.Sp → Prop} (h : Rw.In R L rs most M i D) {p : Nat} (hp : p ≤ L.length) : ((M p).map (·.1)).Nodup := by
  by_cases h0 : p = 0
  · subst h0
    rw [h.zero]
    simp
  · exact (h.min p (by omega) hp).1
end Go.Proofs.YtkddpealobeleaaGreatDoor

/- Layer 10: how forms makes its maps, and what its loops keep. -/
set_option linter.unusedSimpArgs false
set_option linter.unusedVariables false
namespace Go.Proofs.YtkddpealobeleaaGreatDoor
open Go.RowKit Go.Shelf
set_option maxRecDepth 100000
set_option maxHeartbeats 1000000
theorem Rw.infoM : (Tryz.prog.info? 68).map (fun i => (i.zero, i.size, i.bytes)) = some (some (.map none), 1, 8) := by kernel_rfl
theorem Rw.make_ms (n : Nat) (hn : n ≤ 1000) (w : World) : (Instr.makeSlice 80 (.int .i64 ((n : Int) + 1)) (.int .i64 ((n : Int) + 1))).run Tryz.prog w = .ok (.slice (some ⟨w.heap.size, 0, none⟩) (n + 1) (n + 1)) (w.alloc (.cells (List.replicate (n + 1) (Value.map none)).toArray 68)) := by
  obtain ⟨i0, hi, hz0, hz1, hz2⟩ := info_parts Rw.infoM
  have := run_make (P := Tryz.prog) w 80 68 i0 (.map none) Tryz.underlying80 hi hz0 .i64 .i64 ((n : Int) + 1) ((n : Int) + 1) (by omega) (Int.le_refl _) (by rw [hz2]; omega) (by omega)
  rw [this, hz1]
  rw [show ((n : Int) + 1).toNat = n + 1 from by omega, Nat.mul_one]
  have e : madeCells (Value.map none).cells (n + 1) = (List.replicate (n + 1) (Value.map none)).toArray := by
    apply Array.ext'
    show (madeCells #[Value.map none] (n + 1)).toList = _
    rw [toList_madeCells_one]
  rw [e]
/-- The first places have their maps. -/
def Rw.mcs (b n i : Nat) : List Value := (List.range (n + 1)).map fun p => if p < i then Value.map (some (b + p)) else Value.map none
theorem Rw.mcs_start (b n : Nat) : Rw.mcs b n 0 = List.replicate (n + 1) (Value.map none) := by
  apply List.ext_getElem (by simp [Rw.mcs])
  intro i h1 h2
  simp [Rw.mcs]
theorem Rw.mcs_end (b n : Nat) : Rw.mcs b n (n + 1) = (List.range (n + 1)).map fun p => Value.map (some (b + p)) := by
  apply List.ext_getElem (by simp [Rw.mcs])
  intro i h1 h2
  have : i < n + 1 := by simpa using h2
  simp [Rw.mcs, this]
theorem Rw.mcs_set (b n i : Nat) : (Rw.mcs b n i).set i (.map (some (b + i))) = Rw.mcs b n (i + 1) := by
  apply List.ext_getElem (by simp [Rw.mcs])
  intro k h1 h2
  by_cases h : i = k
  · subst h
    simp [Rw.mcs]
  · rw [List.getElem_set_ne h]
    simp only [Rw.mcs, List.getElem_map, List.getElem_range]
    by_cases hk : k < i
    · rw [if_pos hk, if_pos (by omega)]
    · rw [if_neg hk, if_neg (by omega)]
/-- While the maps are made. -/
structure Rw.Fb (w : World) (gs gr sb K n : Nat) (most : Int) (vs : List Value) (rv : List Nat) (st : Nat → List Rw.Sp) (i : Nat) (W : World) : Prop where
  ns : Rw.Ns W gs gr sb K n most vs rv st
  bx : W.heap[w.heap.size]? = some (.cells #[.slice (some ⟨gs, 0, none⟩) n n, .slice (some ⟨gr, 0, none⟩) (n + 1) (n + 1), .int .i64 most] 72 (0, 0))
  tb : W.heap[w.heap.size + 1]? = some (.cells (Rw.mcs (w.heap.size + 2) n i).toArray 68 (0, 0))
  maps : ∀ p, p < i → Rw.MT W (w.heap.size + 2 + p) []
  below : Below w.heap.size w W
  size : W.heap.size = w.heap.size + 2 + i
section
variable {w : World} {gs gr sb K n : Nat} {most : Int} {vs : List Value} {rv : List Nat} {st : Nat → List Rw.Sp}
theorem Rw.Fb.start (h : Rw.Ns w gs gr sb K n most vs rv st) : Rw.Fb w gs gr sb K n most vs rv st 0
    ((w.alloc (.cells #[.slice (some ⟨gs, 0, none⟩) n n, .slice (some ⟨gr, 0, none⟩) (n + 1) (n + 1), .int .i64 most] 72)).alloc (.cells (List.replicate (n + 1) (Value.map none)).toArray 68)) := by
  have h1 := heap_alloc_new w (.cells #[.slice (some ⟨gs, 0, none⟩) n n, .slice (some ⟨gr, 0, none⟩) (n + 1) (n + 1), .int .i64 most] 72)
  have h2 := heap_alloc_new (w.alloc (.cells #[.slice (some ⟨gs, 0, none⟩) n n, .slice (some ⟨gr, 0, none⟩) (n + 1) (n + 1), .int .i64 most] 72)) (.cells (List.replicate (n + 1) (Value.map none)).toArray 68)
  rw [World.size_alloc] at h2
  refine ⟨(h.bt (Nm.al _ _)).bt (Nm.al _ _), (Below.heap_alloc _ _ _ (by simp)).trans h1, ?_, fun p hp => by omega, ((Below.refl _ w).alloc (Nat.le_refl _) _).alloc (by simp) _, by simp⟩
  rw [Rw.mcs_start]
  exact h2
/-- The lists of steps lay there before. -/
def Rw.Old (w : World) (vs : List Value) : Prop := ∀ p (hp : p < vs.length) g, vs[p].ownBlock = some g → g < w.heap.size
theorem Rw.Ns.old {w : World} (h : Rw.Ns w gs gr sb K n most vs rv st) : Rw.Old w vs := fun p hp g hg => ((h.own p hp).lt g hg).2
/-- One map more. -/
theorem Rw.Fb.step {i : Nat} {W : World} (h : Rw.Fb w gs gr sb K n most vs rv st i W) (hK : K ≤ w.heap.size) (hO : Rw.Old w vs) : Rw.Fb w gs gr sb K n most vs rv st (i + 1) ((W.alloc (.map #[] 0)).setCell ⟨w.heap.size + 1, i, none⟩ (.map (some W.heap.size))) := by
  have hz := h.size
  have hA := Nm.al W (.map #[] 0)
  have hg := Rw.grown_set (W.alloc (.map #[] 0)) (w.heap.size + 1) i (.map (some W.heap.size))
  have k1 := h.ns.k1
  have k2 := h.ns.k2
  have k3 := h.ns.k3
  have ht : (W.alloc (.map #[] 0)).heap[w.heap.size + 1]? = some (.cells (Rw.mcs (w.heap.size + 2) n i).toArray 68 (0, 0)) := (hA.block _ (by omega)).trans h.tb
  have hoth : ∀ b, b < W.heap.size → b ≠ w.heap.size + 1 → ((W.alloc (.map #[] 0)).setCell ⟨w.heap.size + 1, i, none⟩ (.map (some W.heap.size))).heap[b]? = W.heap[b]? := fun b hb hne =>
    (hg.block b (by simp; omega) (by simpa using hne)).trans (hA.block b hb)
  have hsa : ((W.alloc (.map #[] 0)).setCell ⟨w.heap.size + 1, i, none⟩ (.map (some W.heap.size))).heap.size = W.heap.size + 1 := by simp [World.setCell]
  refine ⟨?_, (hoth _ (by omega) (by omega)).trans h.bx, ?_, fun p hp => ?_, (h.below.alloc h.below.size _).setCell (p := ⟨w.heap.size + 1, i, none⟩) (by simp) _, by rw [hsa]; omega⟩
  · exact ⟨(hoth _ (by omega) (by omega)).trans h.ns.hs, (hoth _ (by omega) (by omega)).trans h.ns.hr, (hoth _ (by omega) (by omega)).trans h.ns.hb, h.ns.ls, h.ns.lr, h.ns.d1, h.ns.d2, h.ns.d3, h.ns.k1, h.ns.k2, h.ns.k3, by rw [hsa]; have := h.ns.sz; omega, fun p hp => ((h.ns.own p hp).bt hA).kept hg (by
      cases hob : vs[p].ownBlock with
      | none => exact .inl rfl
      | some g =>
        refine .inr fun e => ?_
        have := hO p hp g hob
        cases e
        omega), h.ns.apart⟩
  · rw [← Rw.mcs_set]
    simp [World.setCell, Array.getElem?_modify, ht, hz]
  · by_cases e : p = i
    · subst e
      have h3 := Rw.MT.made W
      rw [hz] at h3
      have h4 := h3.other hg (by omega)
      exact h4
    · have h3 := (h.maps p (by omega)).bt hA
      exact h3.other hg (by omega)
/-- All maps are made. -/
theorem Rw.Fb.done {W : World} (h : Rw.Fb w gs gr sb K n most vs rv st (n + 1) W) : Rw.Fm w gs gr sb K n most vs rv st (fun _ => []) W :=
  ⟨h.ns, h.bx, by rw [← Rw.mcs_end]; exact h.tb, fun p hp => h.maps p (by omega), h.below, by rw [h.size]; omega⟩
theorem Rw.Fb.cell {i : Nat} {W : World} (h : Rw.Fb w gs gr sb K n most vs rv st i W) : (W.alloc (.map #[] 0)).frozen? ⟨w.heap.size + 1, i, none⟩ = false :=
  Lib.frozen_of_heap ((Nm.al W (.map #[] 0)).block _ (by have := h.size; omega) |>.trans h.tb) i
theorem Rw.Fb.there {i : Nat} (hi : i ≤ n) {W : World} (h : Rw.Fb w gs gr sb K n most vs rv st i W) : (W.alloc (.map #[] 0)).cell? ⟨w.heap.size + 1, i, none⟩ = some (.map none) := by
  have h1 := ((Nm.al W (.map #[] 0)).block (w.heap.size + 1) (by have := h.size; omega)).trans h.tb
  simp [World.cell?, h1, Rw.mcs, show i < n + 1 from by omega]
end
/-! ### iterators -/
def Rw.leftN (r n : Nat) (w : World) : Nat := match w.heap[r]? with
  | some (.mapIter _ _ seen _) => n - seen.size
  | _ => 0
theorem Rw.Iter.left {W : World} {b r : Nat} {l : Rw.Mp} {seen : Array Nat} (h : Rw.Iter W b r l seen) : Rw.leftN r l.length W = l.length - seen.size := by
  unfold Rw.leftN
  rw [h.it]
theorem Rw.nodup_len : ∀ (n : Nat) (l : List Nat), l.Nodup → (∀ x ∈ l, x < n) → l.length ≤ n
  | 0, l, _, h => by
    cases l with
    | nil => simp
    | cons a r => exact absurd (h a (by simp)) (by omega)
  | n + 1, l, hn, h => by
    have := Rw.nodup_len n (l.erase n) (hn.erase n) (fun x hx => by
      have h1 := (hn.mem_erase_iff).1 hx
      have h2 := h x h1.2
      have h3 := h1.1
      omega)
    rw [List.length_erase] at this
    split at this <;> omega
theorem Rw.Iter.le {W : World} {b r : Nat} {l : Rw.Mp} {seen : Array Nat} (h : Rw.Iter W b r l seen) : seen.size ≤ l.length := by
  have := Rw.nodup_len _ _ h.nodup h.lt
  simpa using this
/-- An iterator stays. -/
theorem Rw.Iter.keep {W V : World} {b r : Nat} {l : Rw.Mp} {seen : Array Nat} (h : Rw.Iter W b r l seen) (h1 : V.heap[b]? = W.heap[b]?) (h2 : V.heap[r]? = W.heap[r]?) : Rw.Iter V b r l seen := ⟨h1.trans h.tab, h2.trans h.it, h.lt, h.nodup⟩
/-- A step of a place. -/
theorem Rw.Ns.read {V : World} {gs gr sb K n : Nat} {most : Int} {vs : List Value} {rv : List Nat} {st : Nat → List Rw.Sp} (h : Rw.Ns V gs gr sb K n most vs rv st) {x : Nat} {A2 : Option Addr} {c2 : Nat} {SL : List Rw.Sp} (hpv : x < vs.length)
    (hv : vs[x] = .slice A2 SL.length c2) (hs : st x = SL) (j : Nat) (hj : j < SL.length) : ∃ ad, A2 = some ad ∧ V.cell? (ad.add (j * 3)) = some (.int .i64 ((SL[j].1 : Nat) : Int)) ∧
      V.cell? { block := (ad.add (j * 3)).block, off := (ad.add (j * 3)).off + 1 } = some (.int .i64 ((SL[j].2.1 : Nat) : Int)) ∧ V.cell? { block := (ad.add (j * 3)).block, off := (ad.add (j * 3)).off + 2 } = some (.string (Nm.bt SL[j].2.2)) := by
  subst hs
  obtain ⟨A3, c3, h3, r3, _, _⟩ := (h.own x hpv).form Rw.okS
  rw [h3] at hv
  cases hv
  obtain ⟨g, hA, hg, hc⟩ := r3.get j hj
  have e : (⟨g, 0, none⟩ : Addr).add (j * 3) = ⟨g, j * 3, none⟩ := by unfold Addr.add; split <;> simp_all
  refine ⟨⟨g, 0, none⟩, hA, ?_, ?_, ?_⟩
  · rw [e]
    exact (hc 0 (by decide)).trans rfl
  · rw [e]
    exact (hc 1 (by decide)).trans rfl
  · rw [e]
    exact (hc 2 (by decide)).trans rfl
theorem Rw.MT.len {W : World} {b : Nat} {l : Rw.Mp} (h : Rw.MT W b l) : (Builtin.len_ #[68] 3 #[.map (some b)]).run Tryz.prog W = .ok (.int .i64 (l.length : Int)) W := by
  have h1 := run_len_map (P := Tryz.prog) W 68 3 b _ _ (by kernel_rfl) h
  rw [h1]
  simp [goInt, Rw.mes_len]
/-! ### what was offered -/
/-- The offers of the entries that were gone through, and of some steps of one more. -/
def Rw.Dn (l : Rw.Mp) (seen : Array Nat) (S : List Rw.Sp) (g : Nm.T) (d : Nat) (s : Rw.Sp) : Prop := ∃ i, i ∈ seen.toList ∧ ∃ h : i < l.length, l[i] = (g, d) ∧ s ∈ S
theorem Rw.Dn.start (l : Rw.Mp) (S : List Rw.Sp) (g : Nm.T) (d : Nat) (s : Rw.Sp) : Rw.Dn l #[] S g d s ↔ False := ⟨fun ⟨_, h, _⟩ => by simp at h, False.elim⟩
theorem Rw.Dn.push {l : Rw.Mp} {seen : Array Nat} {S : List Rw.Sp} {i : Nat} (hi : i < l.length) (g : Nm.T) (d : Nat) (s : Rw.Sp) : Rw.Dn l (seen.push i) S g d s ↔ (Rw.Dn l seen S g d s ∨ (g = l[i].1 ∧ d = l[i].2 ∧ s ∈ S)) := by
  constructor
  · rintro ⟨k, hk, hkl, he, hs⟩
    simp only [Array.toList_push, List.mem_append, List.mem_singleton] at hk
    rcases hk with hk | rfl
    · exact .inl ⟨k, hk, hkl, he, hs⟩
    · exact .inr ⟨by rw [he], by rw [he], hs⟩
  · rintro (⟨k, hk, hkl, he, hs⟩ | ⟨rfl, rfl, hs⟩)
    · exact ⟨k, by simp [hk], hkl, he, hs⟩
    · exact ⟨i, by simp, hi, rfl, hs⟩
theorem Rw.Dn.all {l : Rw.Mp} {seen : Array Nat} {S : List Rw.Sp} (h : Rw.Hit l seen) (g : Nm.T) (d : Nat) (s : Rw.Sp) : Rw.Dn l seen S g d s ↔ ((g, d) ∈ l ∧ s ∈ S) := by
  constructor
  · rintro ⟨k, hk, hkl, he, hs⟩
    exact ⟨by rw [← he]; exact List.getElem_mem _, hs⟩
  · rintro ⟨hm, hs⟩
    obtain ⟨k, hk, he⟩ := List.getElem_of_mem hm
    exact ⟨k, h k hk, hk, he, hs⟩
/-- .. in the midst of an entry's steps. -/
def Rw.Dm (l : Rw.Mp) (seen : Array Nat) (S : List Rw.Sp) (g0 : Nm.T) (d0 k : Nat) (g : Nm.T) (d : Nat) (s : Rw.Sp) : Prop := Rw.Dn l seen S g d s ∨ (g = g0 ∧ d = d0 ∧ s ∈ S.take k)
theorem Rw.Dm.start (l : Rw.Mp) (seen : Array Nat) (S : List Rw.Sp) (g0 : Nm.T) (d0 : Nat) (g : Nm.T) (d : Nat) (s : Rw.Sp) : Rw.Dm l seen S g0 d0 0 g d s ↔ Rw.Dn l seen S g d s := by simp [Rw.Dm]
theorem Rw.Dm.step (l : Rw.Mp) (seen : Array Nat) (S : List Rw.Sp) (g0 : Nm.T) (d0 k : Nat) (hk : k < S.length) (g : Nm.T) (d : Nat) (s : Rw.Sp) : Rw.Dm l seen S g0 d0 (k + 1) g d s ↔ (Rw.Dm l seen S g0 d0 k g d s ∨ (g = g0 ∧ d = d0 ∧ s = S[k])) := by
  unfold Rw.Dm
  rw [List.take_succ_eq_append_getElem hk]
  simp only [List.mem_append, List.mem_singleton]
  constructor
  · rintro (h | ⟨h1, h2, h3 | h3⟩)
    · exact .inl (.inl h)
    · exact .inl (.inr ⟨h1, h2, h3⟩)
    · exact .inr ⟨h1, h2, h3⟩
  · rintro ((h | ⟨h1, h2, h3⟩) | ⟨h1, h2, h3⟩)
    · exact .inl h
    · exact .inr ⟨h1, h2, .inl h3⟩
    · exact .inr ⟨h1, h2, .inr h3⟩
theorem Rw.Dm.end_ (l : Rw.Mp) (seen : Array Nat) (S : List Rw.Sp) {i : Nat} (hi : i < l.length) (g0 : Nm.T) (d0 : Nat) (he : l[i] = (g0, d0)) (g : Nm.T) (d : Nat) (s : Rw.Sp) : Rw.Dm l seen S g0 d0 S.length g d s ↔ Rw.Dn l (seen.push i) S g d s := by
  have h := Rw.Dn.push (l := l) (seen := seen) (S := S) hi g d s
  rw [he] at h
  rw [h]
  unfold Rw.Dm
  rw [List.take_of_length_le (Nat.le_refl _)]
end Go.Proofs.YtkddpealobeleaaGreatDoor
