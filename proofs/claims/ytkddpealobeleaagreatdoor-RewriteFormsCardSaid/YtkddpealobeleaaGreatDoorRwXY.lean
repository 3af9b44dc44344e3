import Derived.Test.YtkddpealobeleaaGreatDoorRwMF
import Derived.Test.YtkddpealobeleaaGreatDoorNmC
import Derived.Maps.RangeWalk
import Derived.DeepKeys4
import Derived.WalkKit
import Derived.StringKeys
/- Layer 10: the maps of texts and costs: looked up, written, and gone through. -/
set_option linter.unusedSimpArgs false
set_option linter.unusedVariables false
namespace Go.Proofs.YtkddpealobeleaaGreatDoor
open Go.RowKit Go.Maps Go.ChangeMaps
set_option maxRecDepth 100000
set_option maxHeartbeats 400000

def Rw.me (i : Nat) (x : Nm.T × Nat) : MapEntry := { key := .string (Nm.bt x.1), val := .int .i64 (x.2 : Int), born := i }
def Rw.mes (l : Rw.Mp) : List MapEntry := l.mapIdx Rw.me
/-- Block b is the map of these texts and costs. -/
def Rw.MT (W : World) (b : Nat) (l : Rw.Mp) : Prop := W.heap[b]? = some (.map (Rw.mes l).toArray l.length)
theorem Rw.mes_len (l : Rw.Mp) : (Rw.mes l).length = l.length := by simp [Rw.mes]
theorem Rw.mes_get (l : Rw.Mp) (i : Nat) (h : i < l.length) : (Rw.mes l)[i]'(by rw [Rw.mes_len]; exact h) = Rw.me i l[i] := by simp [Rw.mes]
theorem Rw.mes_snoc (l : Rw.Mp) (x : Nm.T × Nat) : Rw.mes (l ++ [x]) = Rw.mes l ++ [Rw.me l.length x] := by
  unfold Rw.mes
  rw [List.mapIdx_append]
  simp
theorem Rw.mes_mem {l : Rw.Mp} {e : MapEntry} (h : e ∈ Rw.mes l) : ∃ i, ∃ h : i < l.length, e = Rw.me i l[i] := by
  obtain ⟨i, hi, rfl⟩ := List.getElem_of_mem h
  rw [Rw.mes_len] at hi
  exact ⟨i, hi, Rw.mes_get l i hi⟩
theorem Rw.xbt_inj {a b : Nm.T} (h : Nm.bt a = Nm.bt b) : a = b := by rw [← Nm.bt_list a, h, Nm.bt_list]
theorem Rw.xbt_size (a : Nm.T) : (Nm.bt a).size = a.length := by rw [Lib.size_eq]; show (Nm.bt a).data.toList.length = _; rw [Nm.bt_list]
theorem Rw.keyed : Keyed Tryz.prog 9 := string_keyed Tryz.underlying9
def Rw.Sh (l : Rw.Mp) : Prop := ∀ x ∈ l, x.1.length ≤ 1000
theorem Rw.key_some {f : Nm.T} (hs : f.length ≤ 1000) : keyOf Tryz.prog 9 (.string (Nm.bt f)) = some (.string (Nm.bt f).data.toList) := Go.WideMaps.keyOf_string_mk Tryz.underlying9 (by rw [Rw.xbt_size]; unfold maxLen; omega)
theorem Rw.mes_key {l : Rw.Mp} (hl : Rw.Sh l) : ∀ e ∈ Rw.mes l, ∃ k, keyOf Tryz.prog 9 e.key = some k := fun e he => by
  obtain ⟨i, hi, rfl⟩ := Rw.mes_mem he
  exact ⟨_, Rw.key_some (hl l[i] (List.getElem_mem _))⟩
theorem Rw.find_key (W : World) {l : Rw.Mp} (hl : Rw.Sh l) {f : Nm.T} (hs : f.length ≤ 1000) :
    ((Instr.findKey 9 (.string (Nm.bt f)) (Rw.mes l)).run Tryz.prog W = .ok none W ∧ f ∉ l.map (·.1)) ∨
    ∃ j, ∃ hj : j < l.length, (Instr.findKey 9 (.string (Nm.bt f)) (Rw.mes l)).run Tryz.prog W = .ok (some (j, .int .i64 (l[j].2 : Int))) W ∧ l[j].1 = f := by
  rcases Rw.keyed.find W (Rw.key_some hs) (Rw.mes l) (Rw.mes_key hl) with ⟨h1, h2⟩ | ⟨j, e, h1, h2, h3⟩
  · refine .inl ⟨h1, fun hm => ?_⟩
    obtain ⟨x, hx, e⟩ := List.mem_map.1 hm
    obtain ⟨i, hi, rfl⟩ := List.getElem_of_mem hx
    have hm : Rw.me i l[i] ∈ Rw.mes l := by
      rw [← Rw.mes_get l i hi]
      exact List.getElem_mem _
    exact h2 _ hm (by simp only [Rw.me]; rw [e])
  · obtain ⟨hj, hej⟩ := List.getElem?_eq_some_iff.1 h2
    rw [Rw.mes_len] at hj
    rw [Rw.mes_get l j hj] at hej
    subst hej
    refine .inr ⟨j, hj, h1, ?_⟩
    simp only [Rw.me, Value.string.injEq] at h3
    exact Rw.xbt_inj h3
theorem Rw.xzero (w : World) : (zeroValue 3).run Tryz.prog w = .ok (.int .i64 0) w := by kernel_rfl
theorem Rw.look {W : World} {b : Nat} {l : Rw.Mp} (hT : Rw.MT W b l) (hl : Rw.Sh l) (hn : (l.map (·.1)).Nodup) {f : Nm.T} (hs : f.length ≤ 1000) :
    ∃ (z : Nat) (u : Bool), (Instr.lookup 68 (.map (some b)) (.string (Nm.bt f)) true).run Tryz.prog W = .ok (.tuple #[.int .i64 (z : Int), .bool u]) W ∧ ((u = false ∧ z = 0 ∧ Rw.get l f = none) ∨ (u = true ∧ Rw.get l f = some z)) := by
  rcases Rw.find_key W hl hs with ⟨h1, h2⟩ | ⟨j, hj, h1, h2⟩
  · exact ⟨0, false, by simp [Instr.lookup, run_underlying Tryz.underlying68, MapKept.run_getObj_map hT, Rw.keyed.check W _ (Rw.key_some hs), h1, Rw.xzero, Result.andThen], .inl ⟨rfl, rfl, Rw.get_none.2 h2⟩⟩
  · refine ⟨l[j].2, true, by simp [Instr.lookup, run_underlying Tryz.underlying68, MapKept.run_getObj_map hT, Rw.keyed.check W _ (Rw.key_some hs), h1, Result.andThen], .inr ⟨rfl, (Rw.get_some hn).2 ?_⟩⟩
    rw [← h2]
    exact List.getElem_mem _
theorem Rw.put_at : ∀ (l : Rw.Mp) (f : Nm.T) (c : Nat) (j : Nat) (hj : j < l.length), (l.map (·.1)).Nodup → l[j].1 = f → Rw.put l f c = l.set j (f, c)
  | x :: l, f, c, 0, hj, hn, he => by
    simp only [List.getElem_cons_zero] at he
    simp [Rw.put, he]
  | x :: l, f, c, j + 1, hj, hn, he => by
    simp only [List.getElem_cons_succ] at he
    rw [List.map_cons, List.nodup_cons] at hn
    have hne : x.1 ≠ f := fun e => hn.1 (by
      rw [e, ← he]
      exact List.mem_map.2 ⟨l[j]'(by simpa using hj), List.getElem_mem _, rfl⟩)
    simp only [Rw.put, if_neg hne, List.set_cons_succ]
    rw [Rw.put_at l f c j (by simpa using hj) hn.2 he]
theorem Rw.mes_set (l : Rw.Mp) (j : Nat) (hj : j < l.length) (x : Nm.T × Nat) : Rw.mes (l.set j x) = (Rw.mes l).set j (Rw.me j x) := by
  apply List.ext_getElem (by simp [Rw.mes_len])
  intro i h1 h2
  have hi : i < l.length := by simpa [Rw.mes_len] using h2
  rw [Rw.mes_get _ i (by simpa using hi)]
  by_cases h : j = i
  · subst h
    simp
  · rw [List.getElem_set_ne h, List.getElem_set_ne h, Rw.mes_get l i hi]
theorem Rw.store {W : World} {b : Nat} {l : Rw.Mp} (hT : Rw.MT W b l) (hl : Rw.Sh l) (hn : (l.map (·.1)).Nodup) {f : Nm.T} {c : Nat} (hs : f.length ≤ 1000) :
    ∃ W', (Instr.mapUpdate 68 (.map (some b)) (.string (Nm.bt f)) (.int .i64 (c : Int))).run Tryz.prog W = .ok () W' ∧ Rw.MT W' b (Rw.put l f c) ∧ W.grownBy W' (some b) ∧ W'.heap.size = W.heap.size := by
  have hT' : W.heap[b]? = some (.map (Rw.mes l).toArray l.length) := hT
  have hgb : ∀ o : Obj, W.grownBy (setBlock W b o) (some b) := fun o => ⟨rfl, rfl, rfl, by simp [setBlock], fun i _ hi => heap_setBlock_other hT _ (fun e => hi (by rw [e]))⟩
  rcases Rw.find_key W hl hs with ⟨h1, h2⟩ | ⟨j, hj, h1, h2⟩
  · rw [Rw.put_new h2]
    refine ⟨setBlock W b (.map (Rw.mes (l ++ [(f, c)])).toArray (l.length + 1)), ?_, ?_, hgb _, by simp [setBlock]⟩
    · simp [Instr.mapUpdate, run_underlying Tryz.underlying68, MapKept.run_getObj_map hT, Rw.keyed.check W _ (Rw.key_some hs), h1, Result.andThen, setObj, Sem.run, hT', setBlock, Rw.mes_snoc, Rw.me]
    · show (setBlock W b _).heap[b]? = _
      rw [heap_setBlock_same hT]
      simp
  · rw [Rw.put_at l f c j hj hn h2]
    have he : (Rw.mes l).toArray[j]? = some (Rw.me j l[j]) := by simp [Rw.mes, hj]
    have hk : (Rw.me j l[j]).key = .string (Nm.bt f) := by simp only [Rw.me]; rw [h2]
    have he2 : (Rw.mes l)[j]? = some (Rw.me j l[j]) := by simp [Rw.mes, hj]
    refine ⟨setBlock W b (.map ((Rw.mes l).toArray.modify j (fun e' => { e' with key := .string (Nm.bt f), val := .int .i64 (c : Int) })) l.length), ?_, ?_, hgb _, by simp [setBlock]⟩
    · simp [Instr.mapUpdate, run_underlying Tryz.underlying68, MapKept.run_getObj_map hT, Rw.keyed.check W _ (Rw.key_some hs), h1, he, he2, hk, Rw.keyed.stays W (Rw.key_some hs), MapKept.run_setObj_map _ hT, Result.andThen, setBlock]
    · show (setBlock W b _).heap[b]? = _
      rw [heap_setBlock_same hT]
      have e2 : (Rw.mes l).toArray.modify j (fun e' => { e' with key := .string (Nm.bt f), val := .int .i64 (c : Int) }) = (Rw.mes (l.set j (f, c))).toArray := by
        apply Array.ext'
        rw [Array.toList_modify, Rw.mes_set l j hj]
        apply List.ext_getElem (by simp)
        intro i h3 h4
        have hi : i < l.length := by simpa [Rw.mes_len] using h4
        rw [List.getElem_modify, List.getElem_set]
        by_cases h : j = i
        · subst h
          simp only [if_true, if_pos rfl]
          show _ = Rw.me j (f, c)
          have := Rw.mes_get l j hi
          simp only [this]
          rfl
        · rw [if_neg h, if_neg h]
      rw [e2, List.length_set]
theorem Rw.MT.bt {W V : World} {b : Nat} {l : Rw.Mp} (h : Rw.MT W b l) (hb : Below W.heap.size W V) : Rw.MT V b l := (hb.block b (Array.getElem?_eq_some_iff.1 h).1).trans h
theorem Rw.MT.lt {W : World} {b : Nat} {l : Rw.Mp} (h : Rw.MT W b l) : b < W.heap.size := (Array.getElem?_eq_some_iff.1 h).1
theorem Rw.MT.other {W V : World} {b r : Nat} {l : Rw.Mp} (h : Rw.MT W b l) (hg : W.grownBy V (some r)) (hne : b ≠ r) : Rw.MT V b l := (hg.block b h.lt (by simpa using hne)).trans h
theorem Rw.MT.made (W : World) : Rw.MT (W.alloc (.map #[] 0)) W.heap.size [] := heap_alloc_new W _
section
variable (w : World) {ops : Array Oper} {rest : List Oper} {o : Oper} {a : Act} {Q : Exit → Act → World → Prop}
theorem Rw.wp_look (hg : o.guard = none) (m x : Operand) (hop : o.op = Op.lookup 68 m x true) (b : Nat) (l : Rw.Mp) (hm : a.eval m = .map (some b)) (hT : Rw.MT w b l) (hl : Rw.Sh l) (hn : (l.map (·.1)).Nodup) (f : Nm.T)
    (hx : a.eval x = .string (Nm.bt f)) (hs : f.length ≤ 1000)
    (hK : ∀ (z : Nat) (u : Bool), ((u = false ∧ z = 0 ∧ Rw.get l f = none) ∨ (u = true ∧ Rw.get l f = some z)) → wpList Tryz.prog ops Q rest (a.put o.dst (.tuple #[.int .i64 (z : Int), .bool u])) w) : wpList Tryz.prog ops Q (o :: rest) a w := by
  refine wpList_plain hg fun K' hK' => ?_
  obtain ⟨z, u, hrun, hzf⟩ := Rw.look hT hl hn hs
  unfold Oper.wp
  simp [execOp, hop, hm, hx, hrun, Result.andThen]
  exact hK' _ _ (hK z u hzf)
theorem Rw.wp_store (hg : o.guard = none) (m x v : Operand) (hop : o.op = Op.mapUpdate 68 m x v) (b : Nat) (l : Rw.Mp) (hm : a.eval m = .map (some b)) (hT : Rw.MT w b l) (hl : Rw.Sh l) (hn : (l.map (·.1)).Nodup) (f : Nm.T) (c : Nat)
    (hx : a.eval x = .string (Nm.bt f)) (hv : a.eval v = .int .i64 (c : Int)) (hs : f.length ≤ 1000)
    (hK : ∀ w', Rw.MT w' b (Rw.put l f c) → w.grownBy w' (some b) → w'.heap.size = w.heap.size → wpList Tryz.prog ops Q rest (a.put o.dst undef) w') : wpList Tryz.prog ops Q (o :: rest) a w := by
  refine wpList_plain hg fun K' hK' => ?_
  obtain ⟨w', hrun, r1, r2, r3⟩ := Rw.store (c := c) hT hl hn hs
  unfold Oper.wp
  simp [execOp, hop, hm, hx, hv, hrun, Result.andThen]
  exact hK' _ _ (hK w' r1 r2 r3)
end
/-! ### going through it -/
/-- Block r goes through the map of block b; it has come to the entries with these numbers. -/
structure Rw.Iter (W : World) (b r : Nat) (l : Rw.Mp) (seen : Array Nat) : Prop where
  tab : Rw.MT W b l
  it : W.heap[r]? = some (.mapIter (some b) l.length seen l.length)
  lt : ∀ i ∈ seen.toList, i < l.length
  nodup : seen.toList.Nodup
theorem Rw.Iter.start {W : World} {b : Nat} {l : Rw.Mp} (hT : Rw.MT W b l) : (Instr.range 68 (.map (some b))).run Tryz.prog W = .ok (.pointer (some ⟨W.heap.size, 0, none⟩)) (W.alloc (.mapIter (some b) l.length #[] l.length)) ∧ Rw.Iter (W.alloc (.mapIter (some b) l.length #[] l.length)) b W.heap.size l #[] := by
  refine ⟨run_range_map W _ _ _ b _ _ Tryz.underlying68 hT, ⟨?_, heap_alloc_new _ _, by simp, by simp⟩⟩
  exact (heap_alloc_old W _ (Array.getElem?_eq_some_iff.1 hT).1).trans hT
theorem Rw.mes_born {l : Rw.Mp} : ∀ e ∈ (Rw.mes l).toArray.toList, e.born < l.length := fun e he => by
  obtain ⟨i, hi, rfl⟩ := Rw.mes_mem (by simpa using he)
  exact hi
theorem Rw.mes_nodup (l : Rw.Mp) : ((Rw.mes l).toArray.toList.map (·.born)).Nodup := by
  have : (Rw.mes l).map (·.born) = List.range l.length := by
    apply List.ext_getElem (by simp [Rw.mes_len])
    intro i h1 h2
    rw [List.getElem_map, Rw.mes_get l i (by simpa using h2)]
    simp [Rw.me]
  simpa [this] using List.nodup_range
theorem Rw.Iter.next {W : World} {b r : Nat} {l : Rw.Mp} {seen : Array Nat} (h : Rw.Iter W b r l seen) (ty : TypeId) :
    ((∀ i, i < l.length → i ∈ seen.toList) ∧ (Instr.next (.pointer (some ⟨r, 0, none⟩)) false ty).run Tryz.prog W = .ok (.tuple #[.bool false]) W) ∨
    ∃ (i : Nat) (hi : i < l.length) (W' : World), i ∉ seen.toList ∧ (Instr.next (.pointer (some ⟨r, 0, none⟩)) false ty).run Tryz.prog W = .ok (.tuple #[.bool true, .string (Nm.bt l[i].1), .int .i64 (l[i].2 : Int)]) W' ∧ Rw.Iter W' b r l (seen.push i) ∧ W.grownBy W' (some r) ∧ W'.heap.size = W.heap.size ∧
      (Instr.entry (.pointer (some ⟨r, 0, none⟩))).run Tryz.prog W' = .ok (.tuple #[.string (Nm.bt l[i].1), .int .i64 (l[i].2 : Int)]) W' := by
  have hne : r ≠ b := fun e => by
    have := h.tab
    unfold Rw.MT at this
    rw [← e, h.it] at this
    cases this
  rcases run_next_at (P := Tryz.prog) W ty r b l.length l.length seen _ _ h.it h.tab Rw.mes_born (Nat.le_refl _) with ⟨h0, hrun⟩ | ⟨e, he, w1, hal, hrun⟩
  · refine .inl ⟨fun i hi => ?_, hrun⟩
    have := all_seen _ seen h0 (Rw.me i l[i]) (by simp [← Rw.mes_get l i hi])
    simpa [Rw.me] using this
  · obtain ⟨hem, hes⟩ := mem_left he
    obtain ⟨i, hi, rfl⟩ := Rw.mes_mem (l := l) (by simpa using hem)
    have hr1 : w1.heap[r]? = some (.mapIter (some b) l.length seen l.length) := by rcases hal with rfl | rfl <;> exact h.it
    have hb1 : w1.heap[b]? = some (.map (Rw.mes l).toArray l.length) := by rcases hal with rfl | rfl <;> exact h.tab
    have hset := MapKept.heap_set (o' := .mapIter (some b) l.length (seen.push i) l.length) hr1
    have ht : Rw.MT (setBlock w1 r (.mapIter (some b) l.length (seen.push i) l.length)) b l := (hset.2 b (Ne.symm hne)).trans hb1
    have hit : (setBlock w1 r (.mapIter (some b) l.length (seen.push i) l.length)).heap[r]? = some (.mapIter (some b) l.length (seen.push i) l.length) := hset.1
    have hns : i ∉ seen.toList := by
      have hs : seen.contains i = false := hes
      simpa using hs
    refine .inr ⟨i, hi, _, hns, hrun, ⟨ht, hit, fun j hj => ?_, ?_⟩, ?_, ?_, ?_⟩
    · simp only [Array.toList_push, List.mem_append, List.mem_singleton] at hj
      rcases hj with hj | rfl
      · exact h.lt j hj
      · exact hi
    · simp only [Array.toList_push]
      exact List.nodup_append.2 ⟨h.nodup, by simp, fun x hx y hy => by
        simp only [List.mem_singleton] at hy
        subst hy
        exact fun e => hns (e ▸ hx)⟩
    · refine ⟨?_, ?_, ?_, ?_, ?_⟩
      · rcases hal with rfl | rfl <;> rfl
      · rcases hal with rfl | rfl <;> rfl
      · rcases hal with rfl | rfl <;> rfl
      · rcases hal with rfl | rfl <;> simp [setBlock]
      · intro k _ hk
        refine (show (setBlock w1 r (.mapIter (some b) l.length (seen.push i) l.length)).heap[k]? = w1.heap[k]? from hset.2 k (fun e => hk (by rw [e]))).trans ?_
        rcases hal with rfl | rfl <;> rfl
    · rcases hal with rfl | rfl <;> simp [setBlock]
    · exact run_entry_at (P := Tryz.prog) _ r b l.length seen _ l.length (Rw.me i l[i]) hit ht (by simp [← Rw.mes_get l i hi]) (Rw.mes_nodup l)
def Rw.Hit (l : Rw.Mp) (seen : Array Nat) : Prop := ∀ i, i < l.length → i ∈ seen.toList
def Rw.Fresh (seen : Array Nat) (i : Nat) : Prop := i ∉ seen.toList
section
variable (w : World) {ops : Array Oper} {rest : List Oper} {o : Oper} {a : Act} {Q : Exit → Act → World → Prop}
theorem Rw.wp_range (hg : o.guard = none) (m : Operand) (hop : o.op = Op.range 68 m) (b : Nat) (l : Rw.Mp) (hm : a.eval m = .map (some b)) (hT : Rw.MT w b l) (r : Nat) (hr : w.heap.size = r)
    (hK : wpList Tryz.prog ops Q rest (a.put o.dst (.pointer (some ⟨r, 0, none⟩))) (w.alloc (.mapIter (some b) l.length #[] l.length))) : wpList Tryz.prog ops Q (o :: rest) a w := by
  refine wpList_plain hg fun K' hK' => ?_
  have hrun := (Rw.Iter.start hT).1
  subst hr
  unfold Oper.wp
  simp [execOp, hop, hm, hrun, Result.andThen]
  exact hK' _ _ hK
theorem Rw.wp_next (hg : o.guard = none) (it : Operand) (hop : o.op = Op.next it false) (b r : Nat) (l : Rw.Mp) (seen : Array Nat) (hit : a.eval it = .pointer (some ⟨r, 0, none⟩)) (h : Rw.Iter w b r l seen)
    (hDone : Rw.Hit l seen → wpList Tryz.prog ops Q rest (a.put o.dst (.tuple #[.bool false])) w)
    (hMore : ∀ (i : Nat) (hi : i < l.length) (g : Nm.T) (d : Nat) (w' : World), l[i] = (g, d) → Rw.Fresh seen i → Rw.Iter w' b r l (seen.push i) → w.grownBy w' (some r) → w'.heap.size = w.heap.size →
      (Instr.entry (.pointer (some ⟨r, 0, none⟩))).run Tryz.prog w' = .ok (.tuple #[.string (Nm.bt g), .int .i64 (d : Int)]) w' → wpList Tryz.prog ops Q rest (a.put o.dst (.tuple #[.bool true, .string (Nm.bt g), .int .i64 (d : Int)])) w') : wpList Tryz.prog ops Q (o :: rest) a w := by
  refine wpList_plain hg fun K' hK' => ?_
  unfold Oper.wp
  rcases h.next o.type with ⟨h0, hrun⟩ | ⟨i, hi, w', hns, hrun, h1, h2, h3, h4⟩
  · simp [execOp, hop, hit, hrun, Result.andThen]
    exact hK' _ _ (hDone h0)
  · simp [execOp, hop, hit, hrun, Result.andThen]
    exact hK' _ _ (hMore i hi _ _ w' rfl hns h1 h2 h3 h4)
end
end Go.Proofs.YtkddpealobeleaaGreatDoor

/- Layer 10: keepLeast. -/
set_option linter.unusedSimpArgs false
set_option linter.unusedVariables false
namespace Go.Proofs.YtkddpealobeleaaGreatDoor
open Go.RowKit Go.Maps Go.ChangeMaps
set_option maxRecDepth 100000
set_option maxHeartbeats 1000000
section
variable (w : World) {ops : Array Oper} {rest : List Oper} {o : Oper} {a : Act} {Q : Exit → Act → World → Prop}
theorem Rw.wp_look_none (hg : o.guard = none) (m x : Operand) (hop : o.op = Op.lookup 68 m x true) (b : Nat) (l : Rw.Mp) (hm : a.eval m = .map (some b)) (hT : Rw.MT w b l) (hl : Rw.Sh l) (hn : (l.map (·.1)).Nodup) (f : Nm.T)
    (hx : a.eval x = .string (Nm.bt f)) (hs : f.length ≤ 1000) (hf : Rw.get l f = none)
    (hK : wpList Tryz.prog ops Q rest (a.put o.dst (.tuple #[.int .i64 0, .bool false])) w) : wpList Tryz.prog ops Q (o :: rest) a w :=
  Rw.wp_look w hg m x hop b l hm hT hl hn f hx hs fun z u h => by
    rcases h with ⟨rfl, rfl, _⟩ | ⟨_, h⟩
    · exact hK
    · rw [hf] at h
      cases h
theorem Rw.wp_look_some (hg : o.guard = none) (m x : Operand) (hop : o.op = Op.lookup 68 m x true) (b : Nat) (l : Rw.Mp) (hm : a.eval m = .map (some b)) (hT : Rw.MT w b l) (hl : Rw.Sh l) (hn : (l.map (·.1)).Nodup) (f : Nm.T)
    (hx : a.eval x = .string (Nm.bt f)) (hs : f.length ≤ 1000) (z : Nat) (hf : Rw.get l f = some z)
    (hK : wpList Tryz.prog ops Q rest (a.put o.dst (.tuple #[.int .i64 (z : Int), .bool true])) w) : wpList Tryz.prog ops Q (o :: rest) a w :=
  Rw.wp_look w hg m x hop b l hm hT hl hn f hx hs fun z' u h => by
    rcases h with ⟨_, _, h⟩ | ⟨rfl, h⟩
    · rw [hf] at h
      cases h
    · rw [hf] at h
      cases h
      exact hK
end
/-- What keepLeast does. -/
def Rw.KpPost (w : World) (b : Nat) (m : Rw.Mp) (f : Nm.T) (c : Nat) (e : Ending) (w' : World) : Prop := (∃ v, e = .returned v) ∧ Rw.MT w' b (Rw.keep m f c) ∧ w.grownBy w' (some b) ∧ w'.heap.size = w.heap.size
theorem Rw.keepLeast_any (b : Nat) (m : Rw.Mp) (f : Nm.T) (c : Nat) (w : World) (hT : Rw.MT w b m) (hl : Rw.Sh m) (hn : (m.map (·.1)).Nodup) (hs : f.length ≤ 1000) :
    Calls Tryz.prog 74 #[.map (some b), .string (Nm.bt f), .int .i64 (c : Int)] w (Rw.KpPost w b m f c) := by
  have HT := Lib.hid hT
  have HL := Lib.hid hl
  have HN := Lib.hid hn
  have HS := Lib.hid hs
  have HG : Hid (w.grownBy w (some b)) := Lib.hid ⟨rfl, rfl, rfl, Nat.le_refl _, fun _ _ _ => rfl⟩
  clear hT hl hn hs
  cases hg : Rw.get m f with
  | none =>
    have HK : Hid (Rw.keep m f c = Rw.put m f c) := Lib.hid (by unfold Rw.keep; rw [hg])
    have HF := Lib.hid hg
    clear hg
    go_enter Tryz.func74, Tryz.ntmps74
    go_wp2_with (first
      | (with_reducible refine Rw.wp_look_none _ rfl _ _ rfl b m rfl HT.out HL.out HN.out f rfl HS.out HF.out ?_)
      | (with_reducible refine Rw.wp_store _ rfl _ _ _ rfl b m rfl HT.out HL.out HN.out f c rfl rfl HS.out ?_; intro w3 hT3 hg3 hs3; have h3 := Lib.hid (And.intro hT3 (And.intro hg3 hs3)); clear hT3 hg3 hs3))
    go_end0
    exact ⟨⟨_, rfl⟩, by rw [HK.out]; exact h3.out.1, h3.out.2.1, h3.out.2.2⟩
  | some z =>
    have HF := Lib.hid hg
    by_cases hcz : c < z
    · have HK : Hid (Rw.keep m f c = Rw.put m f c) := Lib.hid (by unfold Rw.keep; rw [hg]; simp [hcz])
      have hlt : (c : Int) < (z : Int) := by omega
      clear hg
      go_enter Tryz.func74, Tryz.ntmps74
      go_wp2_with (first
        | (with_reducible refine Rw.wp_look_some _ rfl _ _ rfl b m rfl HT.out HL.out HN.out f rfl HS.out z HF.out ?_)
        | (with_reducible refine Rw.wp_store _ rfl _ _ _ rfl b m rfl HT.out HL.out HN.out f c rfl rfl HS.out ?_; intro w3 hT3 hg3 hs3; have h3 := Lib.hid (And.intro hT3 (And.intro hg3 hs3)); clear hT3 hg3 hs3))
      go_end0
      exact ⟨⟨_, rfl⟩, by rw [HK.out]; exact h3.out.1, h3.out.2.1, h3.out.2.2⟩
    · have HK : Hid (Rw.keep m f c = m) := Lib.hid (by unfold Rw.keep; rw [hg]; simp [hcz])
      have hlt : ¬ (c : Int) < (z : Int) := by omega
      clear hg
      go_enter Tryz.func74, Tryz.ntmps74
      go_wp2_with (with_reducible refine Rw.wp_look_some _ rfl _ _ rfl b m rfl HT.out HL.out HN.out f rfl HS.out z HF.out ?_)
      go_end0
      exact ⟨⟨_, rfl⟩, by rw [HK.out]; exact HT.out, HG.out, rfl⟩
end Go.Proofs.YtkddpealobeleaaGreatDoor
