/- Layer 8: the map of dated rates: looked up, written, and gone through. -/
import Derived.Test.YtkbncdcphohmiaaGreatDoorMoB
import Derived.Maps.RangeWalk
import Derived.DeepKeys4
import Derived.WalkKit
import Derived.StringKeys
set_option linter.unusedSimpArgs false
set_option linter.unusedVariables false
namespace Go.Proofs.YtkbncdcphohmiaaGreatDoor
open Go.RowKit Go.Maps Go.ChangeMaps
set_option maxRecDepth 100000

theorem Mo.laidOut : laidOutB Tryz.prog = true := by kernel_rfl
theorem Mo.wide : (match Tryz.prog.underlying 85 with | some (.array _ _) | some (.struct _) => true | _ => false) = true := by rw [Tryz.underlying85]
theorem Mo.keyed : Keyed Tryz.prog 85 := Keyed.of_law (deep_law_laid Mo.laidOut (m := 2) (by omega) (of_decide_eq_true (by kernel_rfl)) (by kernel_rfl) Mo.wide)
theorem Mo.keyT : Tryz.prog.keyType 85 = true := by kernel_rfl
theorem Mo.cellsDate : Tryz.prog.cellsOf 85 = 2 := by kernel_rfl
theorem Mo.cellsStr : Tryz.prog.cellsOf 9 = 1 := by kernel_rfl
theorem Mo.cellsInt : Tryz.prog.cellsOf 3 = 1 := by kernel_rfl
def Mo.key (x : Mo.Rt) : Value := .agg #[.string x.cur, .int .i64 x.day]
structure Mo.Rt.Good (x : Mo.Rt) : Prop where
  cur : x.cur.size ≤ maxLen
  day : (Lit.int .i64 x.day).wf = true
theorem Mo.types_size : Tryz.prog.types.size + 1 = (Tryz.prog.types.size - 1) + 1 + 1 := by
  have : 1 ≤ Tryz.prog.types.size := of_decide_eq_true (by kernel_rfl)
  omega
theorem Mo.key_some (s : ByteArray) (d : Int) (hs : s.size ≤ maxLen) (hd : (Lit.int .i64 d).wf = true) : ∃ l, keyOf Tryz.prog 85 (.agg #[.string s, .int .i64 d]) = some l := by
  unfold keyOf
  rw [Tryz.underlying85]
  simp only [Mo.keyT, Value.formed, Tryz.underlying85, Mo.cellsDate, Value.cells, Bool.true_and]
  rw [Mo.types_size]
  generalize Tryz.prog.types.size - 1 = n
  simp [Program.keyLits, Tryz.underlying85, Mo.cellsDate, Tryz.underlying9, Tryz.underlying3, Mo.cellsStr, Mo.cellsInt, hs, hd]

def Mo.ent (i : Nat) (x : Mo.Rt) : MapEntry := { key := Mo.key x, val := x.val, born := i }
def Mo.ents (l : List Mo.Rt) : List MapEntry := l.mapIdx Mo.ent
/-- Block b is the map of these rates, in the order in which they were laid. -/
def Mo.Tab (W : World) (b : Nat) (l : List Mo.Rt) : Prop := W.heap[b]? = some (.map (Mo.ents l).toArray l.length)
def Mo.AllGood (l : List Mo.Rt) : Prop := ∀ x ∈ l, Mo.Rt.Good x

theorem Mo.ents_snoc (l : List Mo.Rt) (x : Mo.Rt) : Mo.ents (l ++ [x]) = Mo.ents l ++ [Mo.ent l.length x] := by
  unfold Mo.ents
  rw [List.mapIdx_append]
  simp
theorem Mo.ents_len (l : List Mo.Rt) : (Mo.ents l).length = l.length := by simp [Mo.ents]
theorem Mo.ents_get (l : List Mo.Rt) (i : Nat) (h : i < l.length) : (Mo.ents l)[i]'(by rw [Mo.ents_len]; exact h) = Mo.ent i l[i] := by simp [Mo.ents]
theorem Mo.ents_mem {l : List Mo.Rt} {e : MapEntry} (h : e ∈ Mo.ents l) : ∃ i, ∃ h : i < l.length, e = Mo.ent i l[i] := by
  obtain ⟨i, hi, rfl⟩ := List.getElem_of_mem h
  rw [Mo.ents_len] at hi
  exact ⟨i, hi, Mo.ents_get l i hi⟩
theorem Mo.key_inj {x : Mo.Rt} {s : ByteArray} {d : Int} : Mo.key x = .agg #[.string s, .int .i64 d] ↔ x.cur = s ∧ x.day = d := by
  simp [Mo.key]
theorem Mo.ents_key {l : List Mo.Rt} (hl : Mo.AllGood l) : ∀ e ∈ Mo.ents l, ∃ k, keyOf Tryz.prog 85 e.key = some k := fun e he => by
  obtain ⟨i, hi, rfl⟩ := Mo.ents_mem he
  have g := hl l[i] (List.getElem_mem _)
  exact Mo.key_some _ _ g.cur g.day

/-- Whether there is a rate with this currency and day. -/
def Mo.hasB (l : List Mo.Rt) (s : ByteArray) (d : Int) : Bool := l.any fun x => decide (x.cur = s) && decide (x.day = d)
theorem Mo.hasB_iff (l : List Mo.Rt) (s : ByteArray) (d : Int) : Mo.hasB l s d = true ↔ ∃ x ∈ l, x.cur = s ∧ x.day = d := by
  simp [Mo.hasB]
theorem Mo.zeroRate (w : World) : (zeroValue 27).run Tryz.prog w = .ok Mo.Rt.zero.val w := by kernel_rfl
theorem Mo.find_key (W : World) {l : List Mo.Rt} (hl : Mo.AllGood l) (s : ByteArray) (d : Int) (hs : s.size ≤ maxLen) (hd : (Lit.int .i64 d).wf = true) :
    ((Instr.findKey 85 (.agg #[.string s, .int .i64 d]) (Mo.ents l)).run Tryz.prog W = .ok none W ∧ Mo.hasB l s d = false) ∨
    ∃ j y, (Instr.findKey 85 (.agg #[.string s, .int .i64 d]) (Mo.ents l)).run Tryz.prog W = .ok (some (j, Mo.Rt.val y)) W ∧ Mo.hasB l s d = true := by
  obtain ⟨k, hk⟩ := Mo.key_some s d hs hd
  rcases Mo.keyed.find W hk (Mo.ents l) (Mo.ents_key hl) with ⟨h1, h2⟩ | ⟨j, e, h1, h2, h3⟩
  · refine .inl ⟨h1, ?_⟩
    cases h : Mo.hasB l s d with
    | false => rfl
    | true =>
      obtain ⟨x, hx, hc⟩ := (Mo.hasB_iff l s d).1 h
      obtain ⟨i, hi, rfl⟩ := List.getElem_of_mem hx
      have hm : Mo.ent i l[i] ∈ Mo.ents l := by
        rw [← Mo.ents_get l i hi]
        exact List.getElem_mem _
      exact absurd (Mo.key_inj.2 hc) (h2 _ hm)
  · obtain ⟨i, hi, rfl⟩ := Mo.ents_mem (List.mem_of_getElem? h2)
    refine .inr ⟨j, l[i], h1, (Mo.hasB_iff l s d).2 ⟨l[i], List.getElem_mem _, Mo.key_inj.1 h3⟩⟩
theorem Mo.look {W : World} {b : Nat} {l : List Mo.Rt} (hT : Mo.Tab W b l) (hl : Mo.AllGood l) (s : ByteArray) (d : Int) (hs : s.size ≤ maxLen) (hd : (Lit.int .i64 d).wf = true) :
    ∃ y : Mo.Rt, (Instr.lookup 60 (.map (some b)) (.agg #[.string s, .int .i64 d]) true).run Tryz.prog W = .ok (.tuple #[y.val, .bool (Mo.hasB l s d)]) W := by
  obtain ⟨k, hk⟩ := Mo.key_some s d hs hd
  rcases Mo.find_key W hl s d hs hd with ⟨h1, h2⟩ | ⟨j, y, h1, h2⟩
  · exact ⟨Mo.Rt.zero, by simp [Instr.lookup, run_underlying Tryz.underlying60, MapKept.run_getObj_map hT, Mo.keyed.check W _ hk, h1, Mo.zeroRate, Result.andThen, h2]; rfl⟩
  · exact ⟨y, by simp [Instr.lookup, run_underlying Tryz.underlying60, MapKept.run_getObj_map hT, Mo.keyed.check W _ hk, h1, Result.andThen, h2]⟩
theorem Mo.store {W : World} {b : Nat} {l : List Mo.Rt} (hT : Mo.Tab W b l) (hl : Mo.AllGood l) (x : Mo.Rt) (hx : x.Good) (hno : Mo.hasB l x.cur x.day = false) :
    ∃ W', (Instr.mapUpdate 60 (.map (some b)) (Mo.key x) x.val).run Tryz.prog W = .ok () W' ∧ Mo.Tab W' b (l ++ [x]) ∧ W.grownBy W' (some b) ∧ W'.heap.size = W.heap.size := by
  obtain ⟨k, hk⟩ := Mo.key_some x.cur x.day hx.cur hx.day
  have hf : (Instr.findKey 85 (Mo.key x) (Mo.ents l)).run Tryz.prog W = .ok none W := by
    rcases Mo.find_key W hl x.cur x.day hx.cur hx.day with ⟨h1, h2⟩ | ⟨j, y, h1, h2⟩
    · exact h1
    · rw [hno] at h2; cases h2
  have hk' : keyOf Tryz.prog 85 (Mo.key x) = some k := hk
  have hT' : W.heap[b]? = some (.map (Mo.ents l).toArray l.length) := hT
  refine ⟨setBlock W b (.map (Mo.ents (l ++ [x])).toArray (l.length + 1)), ?_, ?_, ?_, by simp [setBlock]⟩
  · simp [Instr.mapUpdate, run_underlying Tryz.underlying60, MapKept.run_getObj_map hT, Mo.keyed.check W _ hk', hf, Result.andThen, setObj, Sem.run, hT', setBlock, Mo.ents_snoc, Mo.ent]
  · show (setBlock W b _).heap[b]? = _
    rw [heap_setBlock_same hT]
    simp
  · exact ⟨rfl, rfl, rfl, by simp [setBlock], fun i _ hi => heap_setBlock_other hT _ (fun e => hi (by rw [e]))⟩

section
variable (w : World) {ops : Array Oper} {rest : List Oper} {o : Oper} {a : Act} {Q : Exit → Act → World → Prop}
theorem Mo.wp_look (hg : o.guard = none) (m x : Operand) (hop : o.op = Op.lookup 60 m x true) (b : Nat) (l : List Mo.Rt) (hm : a.eval m = .map (some b)) (hT : Mo.Tab w b l) (hl : Mo.AllGood l) (s : ByteArray) (d : Int)
    (hx : a.eval x = .agg #[.string s, .int .i64 d]) (hs : s.size ≤ maxLen) (hd : (Lit.int .i64 d).wf = true)
    (hK : ∀ (y0 : ByteArray) (y1 y2 y3 : Int), wpList Tryz.prog ops Q rest (a.put o.dst (.tuple #[.agg #[.string y0, .int .i64 y1, .int .i64 y2, .int .i64 y3], .bool (Mo.hasB l s d)])) w) : wpList Tryz.prog ops Q (o :: rest) a w := by
  refine wpList_plain hg fun K' hK' => ?_
  obtain ⟨y, hrun⟩ := Mo.look hT hl s d hs hd
  unfold Oper.wp
  simp [execOp, hop, hm, hx, hrun, Result.andThen]
  exact hK' _ _ (hK y.cur y.day y.num y.den)
theorem Mo.wp_store (hg : o.guard = none) (m x v : Operand) (hop : o.op = Op.mapUpdate 60 m x v) (b : Nat) (l : List Mo.Rt) (hm : a.eval m = .map (some b)) (hT : Mo.Tab w b l) (hl : Mo.AllGood l) (r : Mo.Rt)
    (hx : a.eval x = .agg #[.string r.cur, .int .i64 r.day]) (hv : a.eval v = .agg #[.string r.cur, .int .i64 r.day, .int .i64 r.num, .int .i64 r.den]) (hr : r.Good) (hno : Mo.hasB l r.cur r.day = false)
    (hK : ∀ w', Mo.Tab w' b (l ++ [r]) → w.grownBy w' (some b) → w'.heap.size = w.heap.size → wpList Tryz.prog ops Q rest (a.put o.dst undef) w') : wpList Tryz.prog ops Q (o :: rest) a w := by
  refine wpList_plain hg fun K' hK' => ?_
  obtain ⟨w', hrun, r1, r2, r3⟩ := Mo.store hT hl r hr hno
  have hx' : a.eval x = Mo.key r := hx
  have hv' : a.eval v = r.val := hv
  unfold Oper.wp
  simp [execOp, hop, hm, hx', hv', hrun, Result.andThen]
  exact hK' _ _ (hK w' r1 r2 r3)
theorem Mo.wp_insert (hg : o.guard = none) (m x v : Operand) (hop : o.op = Op.insert 60 m x v) (b : Nat) (l : List Mo.Rt) (hm : a.eval m = .map (some b)) (hT : Mo.Tab w b l) (hl : Mo.AllGood l) (r : Mo.Rt)
    (hx : a.eval x = .agg #[.string r.cur, .int .i64 r.day]) (hv : a.eval v = .agg #[.string r.cur, .int .i64 r.day, .int .i64 r.num, .int .i64 r.den]) (hr : r.Good) (hno : Mo.hasB l r.cur r.day = false)
    (hK : ∀ w', Mo.Tab w' b (l ++ [r]) → w.grownBy w' (some b) → w'.heap.size = w.heap.size → wpList Tryz.prog ops Q rest (a.put o.dst undef) w') : wpList Tryz.prog ops Q (o :: rest) a w := by
  refine wpList_plain hg fun K' hK' => ?_
  obtain ⟨w', hrun, r1, r2, r3⟩ := Mo.store hT hl r hr hno
  have hx' : a.eval x = Mo.key r := hx
  have hv' : a.eval v = r.val := hv
  unfold Oper.wp
  simp [execOp, hop, hm, hx', hv', hrun, Result.andThen]
  exact hK' _ _ (hK w' r1 r2 r3)
end

/-! ### going through it -/
/-- Block r goes through the map of block b; it has come to the rates with these numbers. -/
structure Mo.Iter (W : World) (b r : Nat) (l : List Mo.Rt) (seen : Array Nat) : Prop where
  tab : Mo.Tab W b l
  it : W.heap[r]? = some (.mapIter (some b) l.length seen l.length)
  lt : ∀ i ∈ seen.toList, i < l.length
  nodup : seen.toList.Nodup
theorem Mo.Iter.start {W : World} {b : Nat} {l : List Mo.Rt} (hT : Mo.Tab W b l) : (Instr.range 59 (.map (some b))).run Tryz.prog W = .ok (.pointer (some ⟨W.heap.size, 0, none⟩)) (W.alloc (.mapIter (some b) l.length #[] l.length)) ∧ Mo.Iter (W.alloc (.mapIter (some b) l.length #[] l.length)) b W.heap.size l #[] := by
  refine ⟨run_range_map W _ _ _ b _ _ Tryz.underlying59 hT, ⟨?_, heap_alloc_new _ _, by simp, by simp⟩⟩
  exact (heap_alloc_old W _ (Array.getElem?_eq_some_iff.1 hT).1).trans hT
theorem Mo.ents_born {l : List Mo.Rt} : ∀ e ∈ (Mo.ents l).toArray.toList, e.born < l.length := fun e he => by
  obtain ⟨i, hi, rfl⟩ := Mo.ents_mem (by simpa using he)
  exact hi
theorem Mo.ents_nodup (l : List Mo.Rt) : ((Mo.ents l).toArray.toList.map (·.born)).Nodup := by
  have : (Mo.ents l).map (·.born) = List.range l.length := by
    apply List.ext_getElem (by simp [Mo.ents_len])
    intro i h1 h2
    rw [List.getElem_map, Mo.ents_get l i (by simpa using h2)]
    simp [Mo.ent]
  simpa [this] using List.nodup_range
theorem Mo.Iter.next {W : World} {b r : Nat} {l : List Mo.Rt} {seen : Array Nat} (h : Mo.Iter W b r l seen) (ty : TypeId) :
    ((∀ i, i < l.length → i ∈ seen.toList) ∧ (Instr.next (.pointer (some ⟨r, 0, none⟩)) false ty).run Tryz.prog W = .ok (.tuple #[.bool false]) W) ∨
    ∃ (i : Nat) (hi : i < l.length) (W' : World), i ∉ seen.toList ∧ (Instr.next (.pointer (some ⟨r, 0, none⟩)) false ty).run Tryz.prog W = .ok (.tuple #[.bool true, Mo.key l[i], Mo.Rt.val l[i]]) W' ∧ Mo.Iter W' b r l (seen.push i) ∧ W.grownBy W' (some r) ∧ W'.heap.size = W.heap.size ∧
      (Instr.entry (.pointer (some ⟨r, 0, none⟩))).run Tryz.prog W' = .ok (.tuple #[Mo.key l[i], Mo.Rt.val l[i]]) W' := by
  have hne : r ≠ b := fun e => by
    have := h.tab
    unfold Mo.Tab at this
    rw [← e, h.it] at this
    cases this
  rcases run_next_at (P := Tryz.prog) W ty r b l.length l.length seen _ _ h.it h.tab Mo.ents_born (Nat.le_refl _) with ⟨h0, hrun⟩ | ⟨e, he, w1, hal, hrun⟩
  · refine .inl ⟨fun i hi => ?_, hrun⟩
    have := all_seen _ seen h0 (Mo.ent i l[i]) (by simp [← Mo.ents_get l i hi])
    simpa [Mo.ent] using this
  · obtain ⟨hem, hes⟩ := mem_left he
    obtain ⟨i, hi, rfl⟩ := Mo.ents_mem (l := l) (by simpa using hem)
    have hr1 : w1.heap[r]? = some (.mapIter (some b) l.length seen l.length) := by rcases hal with rfl | rfl <;> exact h.it
    have hb1 : w1.heap[b]? = some (.map (Mo.ents l).toArray l.length) := by rcases hal with rfl | rfl <;> exact h.tab
    have hset := MapKept.heap_set (o' := .mapIter (some b) l.length (seen.push i) l.length) hr1
    have ht : Mo.Tab (setBlock w1 r (.mapIter (some b) l.length (seen.push i) l.length)) b l := (hset.2 b (Ne.symm hne)).trans hb1
    have hit : (setBlock w1 r (.mapIter (some b) l.length (seen.push i) l.length)).heap[r]? = some (.mapIter (some b) l.length (seen.push i) l.length) := hset.1
    have hns : i ∉ seen.toList := by
      have hs : seen.contains i = false := hes
      simpa using hs
    refine .inr ⟨i, hi, _, hns, hrun, ⟨ht, hit, fun j hj => ?_, ?_⟩, ?_, ?_, ?_⟩
    · simp only [Array.toList_push, List.mem_append, List.mem_singleton] at hj
      rcases hj with hj | rfl
      · exact h.lt j hj
      · exact hi
    · simp only [Array.toList_push]
      exact List.nodup_append.2 ⟨h.nodup, by simp, fun x hx y hy => by
        simp only [List.mem_singleton] at hy
        subst hy
        exact fun e => hns (e ▸ hx)⟩
    · refine ⟨?_, ?_, ?_, ?_, ?_⟩
      · rcases hal with rfl | rfl <;> rfl
      · rcases hal with rfl | rfl <;> rfl
      · rcases hal with rfl | rfl <;> rfl
      · rcases hal with rfl | rfl <;> simp [setBlock]
      · intro k _ hk
        refine (show (setBlock w1 r (.mapIter (some b) l.length (seen.push i) l.length)).heap[k]? = w1.heap[k]? from hset.2 k (fun e => hk (by rw [e]))).trans ?_
        rcases hal with rfl | rfl <;> rfl
    · rcases hal with rfl | rfl <;> simp [setBlock]
    · exact run_entry_at (P := Tryz.prog) _ r b l.length seen _ l.length (Mo.ent i l[i]) hit ht (by simp [← Mo.ents_get l i hi]) (Mo.ents_nodup l)
def Mo.Hit (l : List Mo.Rt) (seen : Array Nat) : Prop := ∀ i, i < l.length → i ∈ seen.toList
def Mo.Fresh (seen : Array Nat) (i : Nat) : Prop := i ∉ seen.toList
section
variable (w : World) {ops : Array Oper} {rest : List Oper} {o : Oper} {a : Act} {Q : Exit → Act → World → Prop}
theorem Mo.wp_range (hg : o.guard = none) (m : Operand) (hop : o.op = Op.range 59 m) (b : Nat) (l : List Mo.Rt) (hm : a.eval m = .map (some b)) (hT : Mo.Tab w b l) (r : Nat) (hr : w.heap.size = r)
    (hK : wpList Tryz.prog ops Q rest (a.put o.dst (.pointer (some ⟨r, 0, none⟩))) (w.alloc (.mapIter (some b) l.length #[] l.length))) : wpList Tryz.prog ops Q (o :: rest) a w := by
  refine wpList_plain hg fun K' hK' => ?_
  have hrun := (Mo.Iter.start hT).1
  subst hr
  unfold Oper.wp
  simp [execOp, hop, hm, hrun, Result.andThen]
  exact hK' _ _ hK
theorem Mo.wp_next (hg : o.guard = none) (it : Operand) (hop : o.op = Op.next it false) (b r : Nat) (l : List Mo.Rt) (seen : Array Nat) (hit : a.eval it = .pointer (some ⟨r, 0, none⟩)) (h : Mo.Iter w b r l seen)
    (hDone : Mo.Hit l seen → wpList Tryz.prog ops Q rest (a.put o.dst (.tuple #[.bool false])) w)
    (hMore : ∀ (i : Nat) (hi : i < l.length) (w' : World), Mo.Fresh seen i → Mo.Iter w' b r l (seen.push i) → w.grownBy w' (some r) → w'.heap.size = w.heap.size →
      (Instr.entry (.pointer (some ⟨r, 0, none⟩))).run Tryz.prog w' = .ok (.tuple #[.agg #[.string (l[i]).cur, .int .i64 (l[i]).day], .agg #[.string (l[i]).cur, .int .i64 (l[i]).day, .int .i64 (l[i]).num, .int .i64 (l[i]).den]]) w' → wpList Tryz.prog ops Q rest (a.put o.dst (.tuple #[.bool true, .agg #[.string (l[i]).cur, .int .i64 (l[i]).day], .agg #[.string (l[i]).cur, .int .i64 (l[i]).day, .int .i64 (l[i]).num, .int .i64 (l[i]).den]])) w') : wpList Tryz.prog ops Q (o :: rest) a w := by
  refine wpList_plain hg fun K' hK' => ?_
  unfold Oper.wp
  rcases h.next o.type with ⟨h0, hrun⟩ | ⟨i, hi, w', hns, hrun, h1, h2, h3, h4⟩
  · simp [execOp, hop, hit, hrun, Result.andThen]
    exact hK' _ _ (hDone h0)
  · simp [execOp, hop, hit, hrun, Result.andThen]
    exact hK' _ _ (hMore i hi w' hns h1 h2 h3 h4)
end
end Go.Proofs.YtkbncdcphohmiaaGreatDoor
