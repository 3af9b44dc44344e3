/- Layer 9: the map of the scripts' words. -/
import Derived.Test.YtcjlnmfbanknhaaDoorNmC
import Derived.Maps.RangeWalk
import Derived.DeepKeys4
import Derived.StringKeys
set_option linter.unusedSimpArgs false
set_option linter.unusedVariables false
namespace Go.Proofs.YtcjlnmfbanknhaaDoor
open Go.RowKit Go.Maps Go.ChangeMaps
set_option maxRecDepth 100000
set_option maxHeartbeats 400000

abbrev Nm.E := ByteArray × Int
def Nm.ent (i : Nat) (x : Nm.E) : MapEntry := { key := .string x.1, val := .int .i64 x.2, born := i }
def Nm.ents (l : List Nm.E) : List MapEntry := l.mapIdx Nm.ent
/-- Block b is the map of these words and numbers. -/
def Nm.MTab (W : World) (b : Nat) (l : List Nm.E) : Prop := W.heap[b]? = some (.map (Nm.ents l).toArray l.length)
theorem Nm.ents_snoc (l : List Nm.E) (x : Nm.E) : Nm.ents (l ++ [x]) = Nm.ents l ++ [Nm.ent l.length x] := by
  unfold Nm.ents
  rw [List.mapIdx_append]
  simp
theorem Nm.ents_len (l : List Nm.E) : (Nm.ents l).length = l.length := by simp [Nm.ents]
theorem Nm.ents_get (l : List Nm.E) (i : Nat) (h : i < l.length) : (Nm.ents l)[i]'(by rw [Nm.ents_len]; exact h) = Nm.ent i l[i] := by simp [Nm.ents]
theorem Nm.ents_mem {l : List Nm.E} {e : MapEntry} (h : e ∈ Nm.ents l) : ∃ i, ∃ h : i < l.length, e = Nm.ent i l[i] := by
  obtain ⟨i, hi, rfl⟩ := List.getElem_of_mem h
  rw [Nm.ents_len] at hi
  exact ⟨i, hi, Nm.ents_get l i hi⟩
theorem Nm.keyed : Keyed Tryd.prog 9 := string_keyed Tryd.underlying9
theorem Nm.key_some {s : ByteArray} (hs : s.size ≤ maxLen) : keyOf Tryd.prog 9 (.string s) = some (.string s.data.toList) := Go.WideMaps.keyOf_string_mk Tryd.underlying9 hs
def Nm.Short (l : List Nm.E) : Prop := ∀ x ∈ l, x.1.size ≤ maxLen
theorem Nm.ents_key {l : List Nm.E} (hl : Nm.Short l) : ∀ e ∈ Nm.ents l, ∃ k, keyOf Tryd.prog 9 e.key = some k := fun e he => by
  obtain ⟨i, hi, rfl⟩ := Nm.ents_mem he
  exact ⟨_, Nm.key_some (hl l[i] (List.getElem_mem _))⟩
theorem Nm.find_key (W : World) {l : List Nm.E} (hl : Nm.Short l) {s : ByteArray} (hs : s.size ≤ maxLen) :
    ((Instr.findKey 9 (.string s) (Nm.ents l)).run Tryd.prog W = .ok none W ∧ ∀ x ∈ l, x.1 ≠ s) ∨
    ∃ j, ∃ x ∈ l, (Instr.findKey 9 (.string s) (Nm.ents l)).run Tryd.prog W = .ok (some (j, .int .i64 x.2)) W ∧ x.1 = s := by
  rcases Nm.keyed.find W (Nm.key_some hs) (Nm.ents l) (Nm.ents_key hl) with ⟨h1, h2⟩ | ⟨j, e, h1, h2, h3⟩
  · refine .inl ⟨h1, fun x hx e => ?_⟩
    obtain ⟨i, hi, rfl⟩ := List.getElem_of_mem hx
    have hm : Nm.ent i l[i] ∈ Nm.ents l := by
      rw [← Nm.ents_get l i hi]
      exact List.getElem_mem _
    exact h2 _ hm (by simp [Nm.ent, e])
  · obtain ⟨i, hi, rfl⟩ := Nm.ents_mem (List.mem_of_getElem? h2)
    exact .inr ⟨j, l[i], List.getElem_mem _, h1, by simpa [Nm.ent] using h3⟩
theorem Nm.zeroInt (w : World) : (zeroValue 3).run Tryd.prog w = .ok (.int .i64 0) w := by kernel_rfl
theorem Nm.look {W : World} {b : Nat} {l : List Nm.E} (hT : Nm.MTab W b l) (hl : Nm.Short l) {s : ByteArray} (hs : s.size ≤ maxLen) :
    ∃ (z : Int) (f : Bool), (Instr.lookup 54 (.map (some b)) (.string s) true).run Tryd.prog W = .ok (.tuple #[.int .i64 z, .bool f]) W ∧ ((f = false ∧ z = 0 ∧ ∀ x ∈ l, x.1 ≠ s) ∨ (f = true ∧ ∃ x ∈ l, x.1 = s ∧ x.2 = z)) := by
  rcases Nm.find_key W hl hs with ⟨h1, h2⟩ | ⟨j, x, hx, h1, h2⟩
  · exact ⟨0, false, by simp [Instr.lookup, run_underlying Tryd.underlying54, MapKept.run_getObj_map hT, Nm.keyed.check W _ (Nm.key_some hs), h1, Nm.zeroInt, Result.andThen], .inl ⟨rfl, rfl, h2⟩⟩
  · exact ⟨x.2, true, by simp [Instr.lookup, run_underlying Tryd.underlying54, MapKept.run_getObj_map hT, Nm.keyed.check W _ (Nm.key_some hs), h1, Result.andThen], .inr ⟨rfl, x, hx, h2, rfl⟩⟩
theorem Nm.store {W : World} {b : Nat} {l : List Nm.E} (hT : Nm.MTab W b l) (hl : Nm.Short l) {s : ByteArray} {z : Int} (hs : s.size ≤ maxLen) (hno : ∀ x ∈ l, x.1 ≠ s) :
    ∃ W', (Instr.mapUpdate 54 (.map (some b)) (.string s) (.int .i64 z)).run Tryd.prog W = .ok () W' ∧ Nm.MTab W' b (l ++ [(s, z)]) ∧ W.grownBy W' (some b) ∧ W'.heap.size = W.heap.size := by
  have hf : (Instr.findKey 9 (.string s) (Nm.ents l)).run Tryd.prog W = .ok none W := by
    rcases Nm.find_key W hl hs with ⟨h1, h2⟩ | ⟨j, x, hx, h1, h2⟩
    · exact h1
    · exact absurd h2 (hno x hx)
  have hT' : W.heap[b]? = some (.map (Nm.ents l).toArray l.length) := hT
  refine ⟨setBlock W b (.map (Nm.ents (l ++ [(s, z)])).toArray (l.length + 1)), ?_, ?_, ?_, by simp [setBlock]⟩
  · simp [Instr.mapUpdate, run_underlying Tryd.underlying54, MapKept.run_getObj_map hT, Nm.keyed.check W _ (Nm.key_some hs), hf, Result.andThen, setObj, Sem.run, hT', setBlock, Nm.ents_snoc, Nm.ent]
  · show (setBlock W b _).heap[b]? = _
    rw [heap_setBlock_same hT]
    simp
  · exact ⟨rfl, rfl, rfl, by simp [setBlock], fun i _ hi => heap_setBlock_other hT _ (fun e => hi (by rw [e]))⟩
section
variable (w : World) {ops : Array Oper} {rest : List Oper} {o : Oper} {a : Act} {Q : Exit → Act → World → Prop}
theorem Nm.wp_look (hg : o.guard = none) (m x : Operand) (hop : o.op = Op.lookup 54 m x true) (b : Nat) (l : List Nm.E) (hm : a.eval m = .map (some b)) (hT : Nm.MTab w b l) (hl : Nm.Short l) (s : ByteArray)
    (hx : a.eval x = .string s) (hs : s.size ≤ maxLen)
    (hK : ∀ (z : Int) (f : Bool), ((f = false ∧ z = 0 ∧ ∀ x ∈ l, x.1 ≠ s) ∨ (f = true ∧ ∃ x ∈ l, x.1 = s ∧ x.2 = z)) → wpList Tryd.prog ops Q rest (a.put o.dst (.tuple #[.int .i64 z, .bool f])) w) : wpList Tryd.prog ops Q (o :: rest) a w := by
  refine wpList_plain hg fun K' hK' => ?_
  obtain ⟨z, f, hrun, hzf⟩ := Nm.look hT hl hs
  unfold Oper.wp
  simp [execOp, hop, hm, hx, hrun, Result.andThen]
  exact hK' _ _ (hK z f hzf)
theorem Nm.wp_store (hg : o.guard = none) (m x v : Operand) (hop : o.op = Op.mapUpdate 54 m x v) (b : Nat) (l : List Nm.E) (hm : a.eval m = .map (some b)) (hT : Nm.MTab w b l) (hl : Nm.Short l) (s : ByteArray) (z : Int)
    (hx : a.eval x = .string s) (hv : a.eval v = .int .i64 z) (hs : s.size ≤ maxLen) (hno : ∀ x ∈ l, x.1 ≠ s)
    (hK : ∀ w', Nm.MTab w' b (l ++ [(s, z)]) → w.grownBy w' (some b) → w'.heap.size = w.heap.size → wpList Tryd.prog ops Q rest (a.put o.dst undef) w') : wpList Tryd.prog ops Q (o :: rest) a w := by
  refine wpList_plain hg fun K' hK' => ?_
  obtain ⟨w', hrun, r1, r2, r3⟩ := Nm.store (z := z) hT hl hs hno
  unfold Oper.wp
  simp [execOp, hop, hm, hx, hv, hrun, Result.andThen]
  exact hK' _ _ (hK w' r1 r2 r3)
end
/-- The first words of the map. -/
def Nm.mlistF (F : Nat → Nat → ByteArray) : Nat → List Nm.E
  | 0 => []
  | 1 => []
  | 2 => [(F 1 0, 1)]
  | 3 => [(F 1 0, 1), (F 2 0, 2)]
  | 4 => [(F 1 0, 1), (F 2 0, 2), (F 3 0, 3)]
  | _ => [(F 1 0, 1), (F 2 0, 2), (F 3 0, 3), (F 4 0, 4)]
def Nm.mlist : List Nm.E := Nm.mlistF Nm.fld 5
theorem Nm.fld_inj {s t : Nat} (hs : s < 5) (ht : t < 5) (h : Nm.fld s 0 = Nm.fld t 0) : s = t := by
  have h2 := congrArg (fun z => z.data.toList) h
  simp only [Nm.fld, Nm.bt_list] at h2
  have key : ∀ s, s < 5 → ∀ t, t < 5 → (Nm.word s == Nm.word t) = true → s = t := by decide
  exact key s hs t ht (by rw [h2]; simp)
theorem Nm.fld_short (s : Nat) : (Nm.fld s 0).size ≤ maxLen := by
  have : (Nm.word s).length ≤ 6 := by
    match s with
    | 0 => decide
    | 1 => decide
    | 2 => decide
    | 3 => decide
    | 4 => decide
    | n + 5 => simp [Nm.word]
  rw [Lib.size_eq]
  show (Nm.bt (Nm.word s)).data.toList.length ≤ _
  rw [Nm.bt_list]
  unfold maxLen
  omega
theorem Nm.mlist_short {F : Nat → Nat → ByteArray} (h : ∀ s, (F s 0).size ≤ maxLen) (n : Nat) : Nm.Short (Nm.mlistF F n) := by
  intro x hx
  unfold Nm.mlistF at hx
  split at hx <;> simp only [List.mem_cons, List.not_mem_nil, or_false] at hx
  · exact h 1 |> fun h1 => by rw [hx]; exact h1
  · rcases hx with rfl | rfl <;> exact h _
  · rcases hx with rfl | rfl | rfl <;> exact h _
  · rcases hx with rfl | rfl | rfl | rfl <;> exact h _

theorem Nm.MTab.bt {W W' : World} {b : Nat} {l : List Nm.E} (h : Nm.MTab W b l) (hb : Below W.heap.size W W') : Nm.MTab W' b l :=
  (hb.block b (Array.getElem?_eq_some_iff.1 h).1).trans h
theorem Nm.info20 {F : Nat → Nat → ByteArray} : (Tryd.prog.info? 60).map (·.size) = some (Nm.cells20 F).size := by
  show _ = some 20
  kernel_rfl
theorem Nm.index20 (F : Nat → Nat → ByteArray) :
    (∀ w, Sem.run Tryd.prog (Instr.index 60 (.agg (Nm.cells20 F)) (.int .i64 0)) w = .ok (.agg #[.string (F 0 0), .string (F 0 1), .string (F 0 2), .string (F 0 3)]) w) ∧
    (∀ w, Sem.run Tryd.prog (Instr.index 60 (.agg (Nm.cells20 F)) (.int .i64 1)) w = .ok (.agg #[.string (F 1 0), .string (F 1 1), .string (F 1 2), .string (F 1 3)]) w) ∧
    (∀ w, Sem.run Tryd.prog (Instr.index 60 (.agg (Nm.cells20 F)) (.int .i64 2)) w = .ok (.agg #[.string (F 2 0), .string (F 2 1), .string (F 2 2), .string (F 2 3)]) w) ∧
    (∀ w, Sem.run Tryd.prog (Instr.index 60 (.agg (Nm.cells20 F)) (.int .i64 3)) w = .ok (.agg #[.string (F 3 0), .string (F 3 1), .string (F 3 2), .string (F 3 3)]) w) ∧
    (∀ w, Sem.run Tryd.prog (Instr.index 60 (.agg (Nm.cells20 F)) (.int .i64 4)) w = .ok (.agg #[.string (F 4 0), .string (F 4 1), .string (F 4 2), .string (F 4 3)]) w) := by
  have hu : Tryd.prog.underlying 60 = some (.array 5 42) := Tryd.underlying60
  refine ⟨?_, ?_, ?_, ?_, ?_⟩ <;> · intro w; unfold Instr.index; simp [go_sem, hu, Nm.cells20]
theorem Nm.scripts_any (w : World) (h : Nm.Tb w.heap.size w) :
    Calls Tryd.prog 27 #[] w fun e w' => ∃ b, e = .returned (.map (some b)) ∧ Nm.MTab w' b Nm.mlist ∧ Below w.heap.size w w' := by
  unfold Nm.mlist
  have hlt := h.lt
  have hlt0 : 0 < w.heap.size := by omega
  have HINJ := Lib.hid (fun s t hs ht h => Nm.fld_inj (s := s) (t := t) hs ht h)
  have HSH := Lib.hid (fun s => Nm.fld_short s)
  obtain ⟨ty, fr, hrow⟩ := h.row
  clear h
  generalize Nm.fld = F at *
  have IX := Nm.index20 F
  have HI20 : Hid ((Tryd.prog.info? 60).map (·.size) = some (Nm.cells20 F).size) := Lib.hid Nm.info20
  generalize Nm.cells20 F = CS at *
  have hrow1 : (w.alloc (.map #[] 0)).heap[0]? = some (.cells CS ty fr) := (Below.heap_alloc _ _ _ hlt).trans hrow
  obtain ⟨I0, I1, I2, I3, I4⟩ := IX
  have hmm := @run_makeMap Tryd.prog
  go_enter Tryd.func27, Tryd.ntmps27
  go_wp2_with (with_reducible refine wpList_load_row rfl _ _ rfl 0 rfl ty _ fr _ hrow1 Tryd.underlying60 rfl HI20.out ?_)
  clear hmm hrow1 hrow
  have HT0 : Nm.MTab (w.alloc (.map #[] 0)) w.heap.size (Nm.mlistF F 0) := heap_alloc_new w _
  go_loopw [2, 3, 6] (fun _ _ s6 wr => ∃ i : Nat, i ≤ 5 ∧ s6 = .int .i64 (i : Int) ∧ Hid (Nm.MTab wr w.heap.size (Nm.mlistF F i)) ∧ Hid (Below w.heap.size w wr)) (fun _ _ s6 _ => 5 - (intOf s6).toNat)
  case atStart => exact ⟨0, by omega, rfl, Lib.hid HT0, Lib.hid (Nm.al _ _)⟩
  case round =>
    obtain ⟨i, hi, rfl, HM, HW⟩ := hrel
    have hcase : i = 0 ∨ i = 1 ∨ i = 2 ∨ i = 3 ∨ i = 4 ∨ i = 5 := by omega
    rcases hcase with rfl | rfl | rfl | rfl | rfl | rfl
    · go_wp2
      exact ⟨⟨1, by omega, rfl, Lib.hid (HM.out.bt (Nm.al _ _)), Lib.hid (HW.out.alloc HW.out.size _)⟩, by simp [intOf]⟩
    · have HM1 := Lib.hid (HM.out.bt (Nm.al wr (.cells #[.string (F 1 0), .string (F 1 1), .string (F 1 2), .string (F 1 3)] 42)))
      have HW1 := Lib.hid (HW.out.alloc HW.out.size (.cells #[.string (F 1 0), .string (F 1 1), .string (F 1 2), .string (F 1 3)] 42))
      have HNO : Hid (∀ x ∈ Nm.mlistF F 1, x.1 ≠ F 1 0) := Lib.hid (by
        intro x hx e
        simp only [Nm.mlistF, List.mem_cons, List.not_mem_nil, or_false] at hx)
      have HS1 := Lib.hid (HSH.out 1)
      have HSL := Lib.hid (Nm.mlist_short (fun s => HSH.out s) 1)
      go_wp2_with (with_reducible refine Nm.wp_store _ rfl _ _ _ rfl w.heap.size _ rfl HM1.out HSL.out (F 1 0) 1 rfl rfl HS1.out HNO.out ?_; intro w3 hT3 hg3 hs3)
      exact ⟨⟨2, by omega, rfl, Lib.hid hT3, Lib.hid (HW1.out.grown hg3 HW1.out.size (fun k e => by cases e; exact Nat.le_refl _))⟩, by simp [intOf]⟩
    · have HM1 := Lib.hid (HM.out.bt (Nm.al wr (.cells #[.string (F 2 0), .string (F 2 1), .string (F 2 2), .string (F 2 3)] 42)))
      have HW1 := Lib.hid (HW.out.alloc HW.out.size (.cells #[.string (F 2 0), .string (F 2 1), .string (F 2 2), .string (F 2 3)] 42))
      have HNO : Hid (∀ x ∈ Nm.mlistF F 2, x.1 ≠ F 2 0) := Lib.hid (by
        intro x hx e
        simp only [Nm.mlistF, List.mem_cons, List.not_mem_nil, or_false] at hx
        rcases hx with rfl <;> have := HINJ.out _ _ (by omega) (by omega) e <;> omega)
      have HS1 := Lib.hid (HSH.out 2)
      have HSL := Lib.hid (Nm.mlist_short (fun s => HSH.out s) 2)
      go_wp2_with (with_reducible refine Nm.wp_store _ rfl _ _ _ rfl w.heap.size _ rfl HM1.out HSL.out (F 2 0) 2 rfl rfl HS1.out HNO.out ?_; intro w3 hT3 hg3 hs3)
      exact ⟨⟨3, by omega, rfl, Lib.hid hT3, Lib.hid (HW1.out.grown hg3 HW1.out.size (fun k e => by cases e; exact Nat.le_refl _))⟩, by simp [intOf]⟩
    · have HM1 := Lib.hid (HM.out.bt (Nm.al wr (.cells #[.string (F 3 0), .string (F 3 1), .string (F 3 2), .string (F 3 3)] 42)))
      have HW1 := Lib.hid (HW.out.alloc HW.out.size (.cells #[.string (F 3 0), .string (F 3 1), .string (F 3 2), .string (F 3 3)] 42))
      have HNO : Hid (∀ x ∈ Nm.mlistF F 3, x.1 ≠ F 3 0) := Lib.hid (by
        intro x hx e
        simp only [Nm.mlistF, List.mem_cons, List.not_mem_nil, or_false] at hx
        rcases hx with rfl | rfl <;> have := HINJ.out _ _ (by omega) (by omega) e <;> omega)
      have HS1 := Lib.hid (HSH.out 3)
      have HSL := Lib.hid (Nm.mlist_short (fun s => HSH.out s) 3)
      go_wp2_with (with_reducible refine Nm.wp_store _ rfl _ _ _ rfl w.heap.size _ rfl HM1.out HSL.out (F 3 0) 3 rfl rfl HS1.out HNO.out ?_; intro w3 hT3 hg3 hs3)
      exact ⟨⟨4, by omega, rfl, Lib.hid hT3, Lib.hid (HW1.out.grown hg3 HW1.out.size (fun k e => by cases e; exact Nat.le_refl _))⟩, by simp [intOf]⟩
    · have HM1 := Lib.hid (HM.out.bt (Nm.al wr (.cells #[.string (F 4 0), .string (F 4 1), .string (F 4 2), .string (F 4 3)] 42)))
      have HW1 := Lib.hid (HW.out.alloc HW.out.size (.cells #[.string (F 4 0), .string (F 4 1), .string (F 4 2), .string (F 4 3)] 42))
      have HNO : Hid (∀ x ∈ Nm.mlistF F 4, x.1 ≠ F 4 0) := Lib.hid (by
        intro x hx e
        simp only [Nm.mlistF, List.mem_cons, List.not_mem_nil, or_false] at hx
        rcases hx with rfl | rfl | rfl <;> have := HINJ.out _ _ (by omega) (by omega) e <;> omega)
      have HS1 := Lib.hid (HSH.out 4)
      have HSL := Lib.hid (Nm.mlist_short (fun s => HSH.out s) 4)
      go_wp2_with (with_reducible refine Nm.wp_store _ rfl _ _ _ rfl w.heap.size _ rfl HM1.out HSL.out (F 4 0) 4 rfl rfl HS1.out HNO.out ?_; intro w3 hT3 hg3 hs3)
      exact ⟨⟨5, by omega, rfl, Lib.hid hT3, Lib.hid (HW1.out.grown hg3 HW1.out.size (fun k e => by cases e; exact Nat.le_refl _))⟩, by simp [intOf]⟩
    · go_wp2
      go_ret
      exact ⟨_, rfl, HM.out, HW.out⟩
end Go.Proofs.YtcjlnmfbanknhaaDoor
