/- Layer 10: rules and drops; the maps of those that a table has. -/
import Derived.Test.YtkddpealobeleaaGreatDoorRwA
import Derived.Maps.RangeWalk
import Derived.DeepKeys4
import Derived.WalkKit
import Derived.StringKeys
set_option linter.unusedSimpArgs false
set_option linter.unusedVariables false
namespace Go.Proofs.YtkddpealobeleaaGreatDoor
open Go.RowKit Go.Maps Go.ChangeMaps
set_option maxRecDepth 100000
set_option maxHeartbeats 1000000
theorem Rw.laidOut : laidOutB Tryz.prog = true := by kernel_rfl
theorem Rw.cellsStr : Tryz.prog.cellsOf 9 = 1 := by kernel_rfl
theorem Rw.cellsInt : Tryz.prog.cellsOf 3 = 1 := by kernel_rfl
theorem Rw.wf0 : (Lit.int .i64 0).wf = true := by decide
theorem Rw.types_size : Tryz.prog.types.size + 1 = (Tryz.prog.types.size - 1) + 1 + 1 := by
  have : 1 ≤ Tryz.prog.types.size := of_decide_eq_true (by kernel_rfl)
  omega
theorem Rw.Nb {w v u : World} (h : Below w.heap.size w v) (g : Below v.heap.size v u) : Below w.heap.size w u := h.trans (g.mono h.size)
theorem Rw.add_block (a : Addr) (k : Nat) : (a.add k).block = a.block := by
  unfold Addr.add
  split <;> rfl
structure Rw.Rl where
  k : Int
  frm : ByteArray
  to : ByteArray
  cost : Int
structure Rw.Dp where
  k : Int
  word : ByteArray
  cost : Int
def Rw.Rl.val (x : Rw.Rl) : Value := .agg #[.int .i64 x.k, .string x.frm, .string x.to, .int .i64 x.cost]
def Rw.Dp.val (x : Rw.Dp) : Value := .agg #[.int .i64 x.k, .string x.word, .int .i64 x.cost]
def Rw.Rl.key (x : Rw.Rl) : Value := .agg #[.int .i64 x.k, .string x.frm, .string x.to, .int .i64 0]
def Rw.Dp.key (x : Rw.Dp) : Value := .agg #[.int .i64 x.k, .string x.word, .int .i64 0]
structure Rw.Rl.Good (x : Rw.Rl) : Prop where
  k : (Lit.int .i64 x.k).wf = true
  frm : x.frm.size ≤ maxLen
  to : x.to.size ≤ maxLen
  cost : (Lit.int .i64 x.cost).wf = true
structure Rw.Dp.Good (x : Rw.Dp) : Prop where
  k : (Lit.int .i64 x.k).wf = true
  word : x.word.size ≤ maxLen
  cost : (Lit.int .i64 x.cost).wf = true
def Rw.Rl.same (x y : Rw.Rl) : Bool := decide (x.k = y.k) && (decide (x.frm = y.frm) && decide (x.to = y.to))
def Rw.Dp.same (x y : Rw.Dp) : Bool := decide (x.k = y.k) && decide (x.word = y.word)
theorem Rw.Rl.key_inj {x y : Rw.Rl} : x.key = y.key ↔ x.same y = true := by simp [Rw.Rl.key, Rw.Rl.same]
theorem Rw.Dp.key_inj {x y : Rw.Dp} : x.key = y.key ↔ x.same y = true := by simp [Rw.Dp.key, Rw.Dp.same]
/-- The slice at A holds these rules; all its cells lie below block B. -/
def Rw.Rls (w : World) (B : Nat) (A : Option Addr) (l : List Rw.Rl) : Prop := ∀ k (h : k < l.length), ∃ ad, A = some ad ∧ ad.block < B ∧
  w.cell? (ad.add (k * 4)) = some (.int .i64 l[k].k) ∧ w.cell? ((ad.add (k * 4)).add 1) = some (.string l[k].frm) ∧ w.cell? ((ad.add (k * 4)).add 2) = some (.string l[k].to) ∧ w.cell? ((ad.add (k * 4)).add 3) = some (.int .i64 l[k].cost)
theorem Rw.Rls.below {w w' : World} {B B' : Nat} {A : Option Addr} {l : List Rw.Rl} (h : Rw.Rls w B A l) (hb : Below B' w w') (hB : B ≤ B') : Rw.Rls w' B A l := fun k hk => by
  obtain ⟨ad, rfl, hlt, h0, h1, h2, h3⟩ := h k hk
  exact ⟨ad, rfl, hlt, (hb.cell (by rw [Rw.add_block]; omega)).trans h0, (hb.cell (by rw [Rw.add_block, Rw.add_block]; omega)).trans h1, (hb.cell (by rw [Rw.add_block, Rw.add_block]; omega)).trans h2, (hb.cell (by rw [Rw.add_block, Rw.add_block]; omega)).trans h3⟩
theorem Rw.Rls.mono {w : World} {B B' : Nat} {A : Option Addr} {l : List Rw.Rl} (h : Rw.Rls w B A l) (hB : B ≤ B') : Rw.Rls w B' A l := fun k hk => by
  obtain ⟨ad, rfl, hlt, hc⟩ := h k hk
  exact ⟨ad, rfl, by omega, hc⟩
theorem Rw.Rls.bt {w w' : World} {A : Option Addr} {l : List Rw.Rl} (h : Rw.Rls w w.heap.size A l) (hb : Below w.heap.size w w') : Rw.Rls w' w'.heap.size A l := (h.below hb (Nat.le_refl _)).mono hb.size
theorem Rw.Rls.at {w : World} {B : Nat} {A : Option Addr} {l : List Rw.Rl} (h : Rw.Rls w B A l) {k : Nat} (hk : k < l.length) : ∃ ad, A = some ad ∧ ad.block < B ∧
    w.cell? (ad.add (k * 4)) = some (.int .i64 l[k].k) ∧ w.cell? { block := (ad.add (k * 4)).block, off := (ad.add (k * 4)).off + 1 } = some (.string l[k].frm) ∧ w.cell? { block := (ad.add (k * 4)).block, off := (ad.add (k * 4)).off + 2 } = some (.string l[k].to) ∧ w.cell? { block := (ad.add (k * 4)).block, off := (ad.add (k * 4)).off + 3 } = some (.int .i64 l[k].cost) := by
  obtain ⟨ad, e, hlt, h0, h1, h2, h3⟩ := h k hk
  exact ⟨ad, e, hlt, h0, h1, h2, h3⟩
/-- The slice at A holds these drops; all its cells lie below block B. -/
def Rw.Dps (w : World) (B : Nat) (A : Option Addr) (l : List Rw.Dp) : Prop := ∀ k (h : k < l.length), ∃ ad, A = some ad ∧ ad.block < B ∧
  w.cell? (ad.add (k * 3)) = some (.int .i64 l[k].k) ∧ w.cell? ((ad.add (k * 3)).add 1) = some (.string l[k].word) ∧ w.cell? ((ad.add (k * 3)).add 2) = some (.int .i64 l[k].cost)
theorem Rw.Dps.below {w w' : World} {B B' : Nat} {A : Option Addr} {l : List Rw.Dp} (h : Rw.Dps w B A l) (hb : Below B' w w') (hB : B ≤ B') : Rw.Dps w' B A l := fun k hk => by
  obtain ⟨ad, rfl, hlt, h0, h1, h2⟩ := h k hk
  exact ⟨ad, rfl, hlt, (hb.cell (by rw [Rw.add_block]; omega)).trans h0, (hb.cell (by rw [Rw.add_block, Rw.add_block]; omega)).trans h1, (hb.cell (by rw [Rw.add_block, Rw.add_block]; omega)).trans h2⟩
theorem Rw.Dps.mono {w : World} {B B' : Nat} {A : Option Addr} {l : List Rw.Dp} (h : Rw.Dps w B A l) (hB : B ≤ B') : Rw.Dps w B' A l := fun k hk => by
  obtain ⟨ad, rfl, hlt, hc⟩ := h k hk
  exact ⟨ad, rfl, by omega, hc⟩
theorem Rw.Dps.bt {w w' : World} {A : Option Addr} {l : List Rw.Dp} (h : Rw.Dps w w.heap.size A l) (hb : Below w.heap.size w w') : Rw.Dps w' w'.heap.size A l := (h.below hb (Nat.le_refl _)).mono hb.size
theorem Rw.Dps.at {w : World} {B : Nat} {A : Option Addr} {l : List Rw.Dp} (h : Rw.Dps w B A l) {k : Nat} (hk : k < l.length) : ∃ ad, A = some ad ∧ ad.block < B ∧
    w.cell? (ad.add (k * 3)) = some (.int .i64 l[k].k) ∧ w.cell? { block := (ad.add (k * 3)).block, off := (ad.add (k * 3)).off + 1 } = some (.string l[k].word) ∧ w.cell? { block := (ad.add (k * 3)).block, off := (ad.add (k * 3)).off + 2 } = some (.int .i64 l[k].cost) := by
  obtain ⟨ad, e, hlt, h0, h1, h2⟩ := h k hk
  exact ⟨ad, e, hlt, h0, h1, h2⟩
theorem Rw.wideRl : (match Tryz.prog.underlying 52 with | some (.array _ _) | some (.struct _) => true | _ => false) = true := by rw [Tryz.underlying52]
theorem Rw.keyedRl : Keyed Tryz.prog 52 := Keyed.of_law (deep_law_laid Rw.laidOut (m := 4) (by omega) (of_decide_eq_true (by kernel_rfl)) (by kernel_rfl) Rw.wideRl)
theorem Rw.keyTRl : Tryz.prog.keyType 52 = true := by kernel_rfl
theorem Rw.cellsRl : Tryz.prog.cellsOf 52 = 4 := by kernel_rfl
theorem Rw.key_someRl (x : Rw.Rl) (h : x.Good) : ∃ l, keyOf Tryz.prog 52 x.key = some l := by
  obtain ⟨hk, hf, ht, hc⟩ := h
  unfold keyOf Rw.Rl.key
  rw [Tryz.underlying52]
  simp only [Rw.keyTRl, Value.formed, Tryz.underlying52, Rw.cellsRl, Value.cells, Bool.true_and]
  rw [Rw.types_size]
  generalize Tryz.prog.types.size - 1 = n
  simp [Program.keyLits, Tryz.underlying52, Rw.cellsRl, Tryz.underlying9, Tryz.underlying3, Rw.cellsStr, Rw.cellsInt, hk, hf, ht, Rw.wf0]
def Rw.entRl (i : Nat) (x : Rw.Rl) : MapEntry := { key := x.key, val := .bool true, born := i }
def Rw.entsRl (l : List Rw.Rl) : List MapEntry := l.mapIdx Rw.entRl
/-- Block b is the map of these. -/
def Rw.TabRl (W : World) (b : Nat) (l : List Rw.Rl) : Prop := W.heap[b]? = some (.map (Rw.entsRl l).toArray l.length)
def Rw.AllRl (l : List Rw.Rl) : Prop := ∀ x ∈ l, Rw.Rl.Good x
theorem Rw.ents_snocRl (l : List Rw.Rl) (x : Rw.Rl) : Rw.entsRl (l ++ [x]) = Rw.entsRl l ++ [Rw.entRl l.length x] := by
  unfold Rw.entsRl
  rw [List.mapIdx_append]
  simp
theorem Rw.ents_lenRl (l : List Rw.Rl) : (Rw.entsRl l).length = l.length := by simp [Rw.entsRl]
theorem Rw.ents_getRl (l : List Rw.Rl) (i : Nat) (h : i < l.length) : (Rw.entsRl l)[i]'(by rw [Rw.ents_lenRl]; exact h) = Rw.entRl i l[i] := by simp [Rw.entsRl]
theorem Rw.ents_memRl {l : List Rw.Rl} {e : MapEntry} (h : e ∈ Rw.entsRl l) : ∃ i, ∃ h : i < l.length, e = Rw.entRl i l[i] := by
  obtain ⟨i, hi, rfl⟩ := List.getElem_of_mem h
  rw [Rw.ents_lenRl] at hi
  exact ⟨i, hi, Rw.ents_getRl l i hi⟩
theorem Rw.ents_keyRl {l : List Rw.Rl} (hl : Rw.AllRl l) : ∀ e ∈ Rw.entsRl l, ∃ k, keyOf Tryz.prog 52 e.key = some k := fun e he => by
  obtain ⟨i, hi, rfl⟩ := Rw.ents_memRl he
  exact Rw.key_someRl _ (hl l[i] (List.getElem_mem _))
/-- Is there one that is the same but for its cost? -/
def Rw.hasRl (l : List Rw.Rl) (x : Rw.Rl) : Bool := l.any fun y => y.same x
theorem Rw.has_iffRl (l : List Rw.Rl) (x : Rw.Rl) : Rw.hasRl l x = true ↔ ∃ y ∈ l, y.same x = true := by simp [Rw.hasRl]
theorem Rw.find_keyRl (W : World) {l : List Rw.Rl} (hl : Rw.AllRl l) (x : Rw.Rl) (hx : x.Good) :
    ((Instr.findKey 52 x.key (Rw.entsRl l)).run Tryz.prog W = .ok none W ∧ Rw.hasRl l x = false) ∨
    ∃ j, (Instr.findKey 52 x.key (Rw.entsRl l)).run Tryz.prog W = .ok (some (j, .bool true)) W ∧ Rw.hasRl l x = true := by
  obtain ⟨k, hk⟩ := Rw.key_someRl x hx
  rcases Rw.keyedRl.find W hk (Rw.entsRl l) (Rw.ents_keyRl hl) with ⟨h1, h2⟩ | ⟨j, e, h1, h2, h3⟩
  · refine .inl ⟨h1, ?_⟩
    cases h : Rw.hasRl l x with
    | false => rfl
    | true =>
      obtain ⟨y, hy, hc⟩ := (Rw.has_iffRl l x).1 h
      obtain ⟨i, hi, rfl⟩ := List.getElem_of_mem hy
      have hm : Rw.entRl i l[i] ∈ Rw.entsRl l := by
        rw [← Rw.ents_getRl l i hi]
        exact List.getElem_mem _
      exact absurd (Rw.Rl.key_inj.2 hc) (h2 _ hm)
  · obtain ⟨i, hi, rfl⟩ := Rw.ents_memRl (List.mem_of_getElem? h2)
    exact .inr ⟨j, h1, (Rw.has_iffRl l x).2 ⟨l[i], List.getElem_mem _, Rw.Rl.key_inj.1 h3⟩⟩
theorem Rw.zeroBRl (w : World) : (zeroValue 4).run Tryz.prog w = .ok (.bool false) w := by kernel_rfl
theorem Rw.lookRl {W : World} {b : Nat} {l : List Rw.Rl} (hT : Rw.TabRl W b l) (hl : Rw.AllRl l) (x : Rw.Rl) (hx : x.Good) :
    (Instr.lookup 137 (.map (some b)) x.key false).run Tryz.prog W = .ok (.bool (Rw.hasRl l x)) W := by
  obtain ⟨k, hk⟩ := Rw.key_someRl x hx
  rcases Rw.find_keyRl W hl x hx with ⟨h1, h2⟩ | ⟨j, h1, h2⟩
  · simp [Instr.lookup, run_underlying Tryz.underlying137, MapKept.run_getObj_map hT, Rw.keyedRl.check W _ hk, h1, Rw.zeroBRl, Result.andThen, h2]
  · simp [Instr.lookup, run_underlying Tryz.underlying137, MapKept.run_getObj_map hT, Rw.keyedRl.check W _ hk, h1, Result.andThen, h2]
theorem Rw.storeRl {W : World} {b : Nat} {l : List Rw.Rl} (hT : Rw.TabRl W b l) (hl : Rw.AllRl l) (x : Rw.Rl) (hx : x.Good) (hno : Rw.hasRl l x = false) :
    ∃ W', (Instr.mapUpdate 137 (.map (some b)) x.key (.bool true)).run Tryz.prog W = .ok () W' ∧ Rw.TabRl W' b (l ++ [x]) ∧ Below b W W' ∧ W'.heap.size = W.heap.size := by
  obtain ⟨k, hk⟩ := Rw.key_someRl x hx
  have hf : (Instr.findKey 52 x.key (Rw.entsRl l)).run Tryz.prog W = .ok none W := by
    rcases Rw.find_keyRl W hl x hx with ⟨h1, h2⟩ | ⟨j, h1, h2⟩
    · exact h1
    · rw [hno] at h2; cases h2
  have hT' : W.heap[b]? = some (.map (Rw.entsRl l).toArray l.length) := hT
  refine ⟨setBlock W b (.map (Rw.entsRl (l ++ [x])).toArray (l.length + 1)), ?_, ?_, ?_, by simp [setBlock]⟩
  · simp [Instr.mapUpdate, run_underlying Tryz.underlying137, MapKept.run_getObj_map hT, Rw.keyedRl.check W _ hk, hf, Result.andThen, setObj, Sem.run, hT', setBlock, Rw.ents_snocRl, Rw.entRl]
  · show (setBlock W b _).heap[b]? = _
    rw [heap_setBlock_same hT]
    simp
  · exact ⟨rfl, rfl, rfl, by simp [setBlock], fun i hi => heap_setBlock_other hT _ (by omega)⟩
section
variable (w : World) {ops : Array Oper} {rest : List Oper} {o : Oper} {a : Act} {Q : Exit → Act → World → Prop}
theorem Rw.wp_lookRl (hg : o.guard = none) (m x : Operand) (hop : o.op = Op.lookup 137 m x false) (b : Nat) (l : List Rw.Rl) (hm : a.eval m = .map (some b)) (hT : Rw.TabRl w b l) (hl : Rw.AllRl l) (y : Rw.Rl)
    (hx : a.eval x = y.key) (hy : y.Good)
    (hK : wpList Tryz.prog ops Q rest (a.put o.dst (.bool (Rw.hasRl l y))) w) : wpList Tryz.prog ops Q (o :: rest) a w := by
  refine wpList_plain hg fun K' hK' => ?_
  have hrun := Rw.lookRl hT hl y hy
  unfold Oper.wp
  simp [execOp, hop, hm, hx, hrun, Result.andThen]
  exact hK' _ _ hK
theorem Rw.wp_storeRl (hg : o.guard = none) (m x : Operand) (v : Operand) (hop : o.op = Op.mapUpdate 137 m x v) (b : Nat) (l : List Rw.Rl) (hm : a.eval m = .map (some b)) (hT : Rw.TabRl w b l) (hl : Rw.AllRl l) (y : Rw.Rl)
    (hx : a.eval x = y.key) (hv : a.eval v = .bool true) (hy : y.Good) (hno : Rw.hasRl l y = false)
    (hK : ∀ w', Rw.TabRl w' b (l ++ [y]) → Below b w w' → w'.heap.size = w.heap.size → wpList Tryz.prog ops Q rest (a.put o.dst undef) w') : wpList Tryz.prog ops Q (o :: rest) a w := by
  refine wpList_plain hg fun K' hK' => ?_
  obtain ⟨w', hrun, r1, r2, r3⟩ := Rw.storeRl hT hl y hy hno
  unfold Oper.wp
  simp [execOp, hop, hm, hx, hv, hrun, Result.andThen]
  exact hK' _ _ (hK w' r1 r2 r3)
end
theorem Rw.TabRl.bt {w w' : World} {b n : Nat} {l : List Rw.Rl} (h : Rw.TabRl w b l) (hb : Below n w w') (hn : b < n) : Rw.TabRl w' b l := (hb.block b hn).trans h
theorem Rw.TabRl.lt {w : World} {b : Nat} {l : List Rw.Rl} (h : Rw.TabRl w b l) : b < w.heap.size := (Array.getElem?_eq_some_iff.1 h).1
theorem Rw.madeRl (w : World) : Rw.TabRl (w.alloc (.map #[] 0)) w.heap.size [] := heap_alloc_new w _
theorem Rw.wideDp : (match Tryz.prog.underlying 63 with | some (.array _ _) | some (.struct _) => true | _ => false) = true := by rw [Tryz.underlying63]
theorem Rw.keyedDp : Keyed Tryz.prog 63 := Keyed.of_law (deep_law_laid Rw.laidOut (m := 3) (by omega) (of_decide_eq_true (by kernel_rfl)) (by kernel_rfl) Rw.wideDp)
theorem Rw.keyTDp : Tryz.prog.keyType 63 = true := by kernel_rfl
theorem Rw.cellsDp : Tryz.prog.cellsOf 63 = 3 := by kernel_rfl
theorem Rw.key_someDp (x : Rw.Dp) (h : x.Good) : ∃ l, keyOf Tryz.prog 63 x.key = some l := by
  obtain ⟨hk, hf, hc⟩ := h
  unfold keyOf Rw.Dp.key
  rw [Tryz.underlying63]
  simp only [Rw.keyTDp, Value.formed, Tryz.underlying63, Rw.cellsDp, Value.cells, Bool.true_and]
  rw [Rw.types_size]
  generalize Tryz.prog.types.size - 1 = n
  simp [Program.keyLits, Tryz.underlying63, Rw.cellsDp, Tryz.underlying9, Tryz.underlying3, Rw.cellsStr, Rw.cellsInt, hk, hf, Rw.wf0]
def Rw.entDp (i : Nat) (x : Rw.Dp) : MapEntry := { key := x.key, val := .bool true, born := i }
def Rw.entsDp (l : List Rw.Dp) : List MapEntry := l.mapIdx Rw.entDp
/-- Block b is the map of these. -/
def Rw.TabDp (W : World) (b : Nat) (l : List Rw.Dp) : Prop := W.heap[b]? = some (.map (Rw.entsDp l).toArray l.length)
def Rw.AllDp (l : List Rw.Dp) : Prop := ∀ x ∈ l, Rw.Dp.Good x
theorem Rw.ents_snocDp (l : List Rw.Dp) (x : Rw.Dp) : Rw.entsDp (l ++ [x]) = Rw.entsDp l ++ [Rw.entDp l.length x] := by
  unfold Rw.entsDp
  rw [List.mapIdx_append]
  simp
theorem Rw.ents_lenDp (l : List Rw.Dp) : (Rw.entsDp l).length = l.length := by simp [Rw.entsDp]
theorem Rw.ents_getDp (l : List Rw.Dp) (i : Nat) (h : i < l.length) : (Rw.entsDp l)[i]'(by rw [Rw.ents_lenDp]; exact h) = Rw.entDp i l[i] := by simp [Rw.entsDp]
theorem Rw.ents_memDp {l : List Rw.Dp} {e : MapEntry} (h : e ∈ Rw.entsDp l) : ∃ i, ∃ h : i < l.length, e = Rw.entDp i l[i] := by
  obtain ⟨i, hi, rfl⟩ := List.getElem_of_mem h
  rw [Rw.ents_lenDp] at hi
  exact ⟨i, hi, Rw.ents_getDp l i hi⟩
theorem Rw.ents_keyDp {l : List Rw.Dp} (hl : Rw.AllDp l) : ∀ e ∈ Rw.entsDp l, ∃ k, keyOf Tryz.prog 63 e.key = some k := fun e he => by
  obtain ⟨i, hi, rfl⟩ := Rw.ents_memDp he
  exact Rw.key_someDp _ (hl l[i] (List.getElem_mem _))
/-- Is there one that is the same but for its cost? -/
def Rw.hasDp (l : List Rw.Dp) (x : Rw.Dp) : Bool := l.any fun y => y.same x
theorem Rw.has_iffDp (l : List Rw.Dp) (x : Rw.Dp) : Rw.hasDp l x = true ↔ ∃ y ∈ l, y.same x = true := by simp [Rw.hasDp]
theorem Rw.find_keyDp (W : World) {l : List Rw.Dp} (hl : Rw.AllDp l) (x : Rw.Dp) (hx : x.Good) :
    ((Instr.findKey 63 x.key (Rw.entsDp l)).run Tryz.prog W = .ok none W ∧ Rw.hasDp l x = false) ∨
    ∃ j, (Instr.findKey 63 x.key (Rw.entsDp l)).run Tryz.prog W = .ok (some (j, .bool true)) W ∧ Rw.hasDp l x = true := by
  obtain ⟨k, hk⟩ := Rw.key_someDp x hx
  rcases Rw.keyedDp.find W hk (Rw.entsDp l) (Rw.ents_keyDp hl) with ⟨h1, h2⟩ | ⟨j, e, h1, h2, h3⟩
  · refine .inl ⟨h1, ?_⟩
    cases h : Rw.hasDp l x with
    | false => rfl
    | true =>
      obtain ⟨y, hy, hc⟩ := (Rw.has_iffDp l x).1 h
      obtain ⟨i, hi, rfl⟩ := List.getElem_of_mem hy
      have hm : Rw.entDp i l[i] ∈ Rw.entsDp l := by
        rw [← Rw.ents_getDp l i hi]
        exact List.getElem_mem _
      exact absurd (Rw.Dp.key_inj.2 hc) (h2 _ hm)
  · obtain ⟨i, hi, rfl⟩ := Rw.ents_memDp (List.mem_of_getElem? h2)
    exact .inr ⟨j, h1, (Rw.has_iffDp l x).2 ⟨l[i], List.getElem_mem _, Rw.Dp.key_inj.1 h3⟩⟩
theorem Rw.zeroBDp (w : World) : (zeroValue 4).run Tryz.prog w = .ok (.bool false) w := by kernel_rfl
theorem Rw.lookDp {W : World} {b : Nat} {l : List Rw.Dp} (hT : Rw.TabDp W b l) (hl : Rw.AllDp l) (x : Rw.Dp) (hx : x.Good) :
    (Instr.lookup 142 (.map (some b)) x.key false).run Tryz.prog W = .ok (.bool (Rw.hasDp l x)) W := by
  obtain ⟨k, hk⟩ := Rw.key_someDp x hx
  rcases Rw.find_keyDp W hl x hx with ⟨h1, h2⟩ | ⟨j, h1, h2⟩
  · simp [Instr.lookup, run_underlying Tryz.underlying142, MapKept.run_getObj_map hT, Rw.keyedDp.check W _ hk, h1, Rw.zeroBDp, Result.andThen, h2]
  · simp [Instr.lookup, run_underlying Tryz.underlying142, MapKept.run_getObj_map hT, Rw.keyedDp.check W _ hk, h1, Result.andThen, h2]
theorem Rw.storeDp {W : World} {b : Nat} {l : List Rw.Dp} (hT : Rw.TabDp W b l) (hl : Rw.AllDp l) (x : Rw.Dp) (hx : x.Good) (hno : Rw.hasDp l x = false) :
    ∃ W', (Instr.mapUpdate 142 (.map (some b)) x.key (.bool true)).run Tryz.prog W = .ok () W' ∧ Rw.TabDp W' b (l ++ [x]) ∧ Below b W W' ∧ W'.heap.size = W.heap.size := by
  obtain ⟨k, hk⟩ := Rw.key_someDp x hx
  have hf : (Instr.findKey 63 x.key (Rw.entsDp l)).run Tryz.prog W = .ok none W := by
    rcases Rw.find_keyDp W hl x hx with ⟨h1, h2⟩ | ⟨j, h1, h2⟩
    · exact h1
    · rw [hno] at h2; cases h2
  have hT' : W.heap[b]? = some (.map (Rw.entsDp l).toArray l.length) := hT
  refine ⟨setBlock W b (.map (Rw.entsDp (l ++ [x])).toArray (l.length + 1)), ?_, ?_, ?_, by simp [setBlock]⟩
  · simp [Instr.mapUpdate, run_underlying Tryz.underlying142, MapKept.run_getObj_map hT, Rw.keyedDp.check W _ hk, hf, Result.andThen, setObj, Sem.run, hT', setBlock, Rw.ents_snocDp, Rw.entDp]
  · show (setBlock W b _).heap[b]? = _
    rw [heap_setBlock_same hT]
    simp
  · exact ⟨rfl, rfl, rfl, by simp [setBlock], fun i hi => heap_setBlock_other hT _ (by omega)⟩
section
variable (w : World) {ops : Array Oper} {rest : List Oper} {o : Oper} {a : Act} {Q : Exit → Act → World → Prop}
theorem Rw.wp_lookDp (hg : o.guard = none) (m x : Operand) (hop : o.op = Op.lookup 142 m x false) (b : Nat) (l : List Rw.Dp) (hm : a.eval m = .map (some b)) (hT : Rw.TabDp w b l) (hl : Rw.AllDp l) (y : Rw.Dp)
    (hx : a.eval x = y.key) (hy : y.Good)
    (hK : wpList Tryz.prog ops Q rest (a.put o.dst (.bool (Rw.hasDp l y))) w) : wpList Tryz.prog ops Q (o :: rest) a w := by
  refine wpList_plain hg fun K' hK' => ?_
  have hrun := Rw.lookDp hT hl y hy
  unfold Oper.wp
  simp [execOp, hop, hm, hx, hrun, Result.andThen]
  exact hK' _ _ hK
theorem Rw.wp_storeDp (hg : o.guard = none) (m x : Operand) (v : Operand) (hop : o.op = Op.mapUpdate 142 m x v) (b : Nat) (l : List Rw.Dp) (hm : a.eval m = .map (some b)) (hT : Rw.TabDp w b l) (hl : Rw.AllDp l) (y : Rw.Dp)
    (hx : a.eval x = y.key) (hv : a.eval v = .bool true) (hy : y.Good) (hno : Rw.hasDp l y = false)
    (hK : ∀ w', Rw.TabDp w' b (l ++ [y]) → Below b w w' → w'.heap.size = w.heap.size → wpList Tryz.prog ops Q rest (a.put o.dst undef) w') : wpList Tryz.prog ops Q (o :: rest) a w := by
  refine wpList_plain hg fun K' hK' => ?_
  obtain ⟨w', hrun, r1, r2, r3⟩ := Rw.storeDp hT hl y hy hno
  unfold Oper.wp
  simp [execOp, hop, hm, hx, hv, hrun, Result.andThen]
  exact hK' _ _ (hK w' r1 r2 r3)
end
theorem Rw.TabDp.bt {w w' : World} {b n : Nat} {l : List Rw.Dp} (h : Rw.TabDp w b l) (hb : Below n w w') (hn : b < n) : Rw.TabDp w' b l := (hb.block b hn).trans h
theorem Rw.TabDp.lt {w : World} {b : Nat} {l : List Rw.Dp} (h : Rw.TabDp w b l) : b < w.heap.size := (Array.getElem?_eq_some_iff.1 h).1
theorem Rw.madeDp (w : World) : Rw.TabDp (w.alloc (.map #[] 0)) w.heap.size [] := heap_alloc_new w _
end Go.Proofs.YtkddpealobeleaaGreatDoor
