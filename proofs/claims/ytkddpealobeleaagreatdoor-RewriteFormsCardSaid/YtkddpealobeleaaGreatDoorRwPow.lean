/- The listed variables of package rewrite's rows: what the rows' condition gives, and a world that meets it; tables and rules that came in, opened. -/
import Derived.Test.YtkddpealobeleaaGreatDoorCards
import Derived.Test.YtkddpealobeleaaGreatDoorTie
import Derived.Test.YtkddpealobeleaaGreatDoorRwU
import Derived.ChangeSlices
import Derived.Deep.Slices
import Derived.Deep.SlicePairs
import Derived.Stop.LaidErr
import Derived.MakeChecks
import Derived.LaidMore
import Derived.ProofKit
import Derived.Deep.Strs
import Derived.Shelf.Vars
import Derived.OpenShut
import Derived.Lay
import Derived.SliceStrings
import Derived.Lib.SmallJoins
import Derived.Lib.LaidTab
set_option linter.unusedSimpArgs false
set_option linter.unusedVariables false
namespace Go.Proofs.YtkddpealobeleaaGreatDoor
open Go.ChangeShapes Go.WideShapes Go.ChangeAt Go.RowKit
set_option maxRecDepth 100000
set_option maxHeartbeats 1000000

def laid10 : List (String × DataW Unit) := [("math/bits.deBruijn32tab", Rows.laid_math_bits_deBruijn32tab), ("math/bits.deBruijn64tab", Rows.laid_math_bits_deBruijn64tab), ("internal/strconv.uint64pow10", Rows.laid_internal_strconv_uint64pow10), ("unicode/utf8.acceptRanges", Rows.laid_unicode_utf8_acceptRanges), ("customhouse/script.alphabets", Rows.laid_customhouse_script_alphabets), ("customhouse/rewrite.scriptWords", Rows.laid_customhouse_rewrite_scriptWords), ("unicode.CaseRanges", Rows.laid_unicode_CaseRanges), ("unicode/utf8.first", Rows.laid_unicode_utf8_first)]
theorem gAl : Tryz.prog.globalNamed "customhouse/script.alphabets" = some 1 := by kernel_rfl
theorem gAlType : (Tryz.prog.globals[1]?).map (·.type) = some 173 := by kernel_rfl
theorem cellsAl : Tryz.prog.cellsOf 124 = 4 := by kernel_rfl
theorem cellsStr : Tryz.prog.cellsOf 9 = 1 := by kernel_rfl
theorem Nm.bt_of {s : ByteArray} {l : Nm.T} (h : s.data.toList = l) : s = Nm.bt l := by
  refine ByteArray.ext (Array.toList_inj.1 ?_)
  rw [h, Nm.bt_list]
theorem Nm.open_al {W : World} {base fuel : Nat} {sp : Nat → Bool} {held : Bool} {enc : TypeId × Value → Unit} {cs : List Value} {y : DataW Unit × List MemPlace} (h : DataW.trod enc Tryz.prog W base sp held fuel 124 cs = some y) (hlen : cs.length = 4)
    {a b c d : Nm.T} (hy : y.1 = .agg [.lit (.string a), .lit (.string b), .lit (.string c), .lit (.string d)]) :
    cs = [.string (Nm.bt a), .string (Nm.bt b), .string (Nm.bt c), .string (Nm.bt d)] := by
  obtain ⟨xs, k, _, hxy, _, hxl, hg⟩ := DataW.trod_struct Tryz.underlying124 h
  match xs, hxl, cs, hlen with
  | [y0, y1, y2, y3], _, [v0, v1, v2, v3], _ =>
    have g0 := hg 0 _ rfl
    have g1 := hg 1 _ rfl
    have g2 := hg 2 _ rfl
    have g3 := hg 3 _ rfl
    simp [cellsStr] at g0 g1 g2 g3
    obtain ⟨s0, e0, rfl, _⟩ := DataW.trod_string Tryz.underlying9 g0
    obtain ⟨s1, e1, rfl, _⟩ := DataW.trod_string Tryz.underlying9 g1
    obtain ⟨s2, e2, rfl, _⟩ := DataW.trod_string Tryz.underlying9 g2
    obtain ⟨s3, e3, rfl, _⟩ := DataW.trod_string Tryz.underlying9 g3
    simp at e0 e1 e2 e3
    subst e0 e1 e2 e3
    rw [hxy] at hy
    simp only [List.map_cons, List.map_nil, DataW.agg.injEq, List.cons.injEq, DataW.lit.injEq, Lit.string.injEq, and_true] at hy
    obtain ⟨h0, h1, h2, h3⟩ := hy
    rw [← Nm.bt_of h0, ← Nm.bt_of h1, ← Nm.bt_of h2, ← Nm.bt_of h3]
theorem Nm.tb_of_laid {r : List (String × DataW Unit)} {W : World} (h : laidMet Tryz.prog (("customhouse/script.alphabets", Rows.laid_customhouse_script_alphabets) :: r) W) : Nm.Tb W.heap.size W := by
  obtain ⟨ps, ⟨g0, t0, cs0, f0, p0, q0, hg0, ht0, hv0, hd0, _, e0⟩, _, hrows⟩ := h
  obtain rfl := Option.some.inj (gAl.symm.trans hg0)
  obtain rfl := Option.some.inj (gAlType.symm.trans ht0)
  obtain ⟨xs, m, _, hxy, hlen, hxl, hg⟩ := DataW.trod_array Tryz.underlying173 hd0
  have hC : Tryz.prog.cellsOf 173 = 20 := by kernel_rfl
  rw [hC] at hlen
  rw [cellsAl] at hg
  match xs, hxl with
  | [y0, y1, y2, y3, y4], _ =>
    have g0 := hg 0 (by omega)
    have g1 := hg 1 (by omega)
    have g2 := hg 2 (by omega)
    have g3 := hg 3 (by omega)
    have g4 := hg 4 (by omega)
    simp only [List.getElem?_cons_zero, List.getElem?_cons_succ] at g0 g1 g2 g3 g4
    unfold Rows.laid_customhouse_script_alphabets at hxy
    simp only [Prod.mk.injEq, List.map_cons, List.map_nil, DataW.agg.injEq, List.cons.injEq, and_true] at hxy
    obtain ⟨⟨h0, h1, h2, h3, h4⟩, _⟩ := hxy
    have r0 := Nm.open_al g0 (by simp [hlen]) h0.symm
    have r1 := Nm.open_al g1 (by simp [hlen]) h1.symm
    have r2 := Nm.open_al g2 (by simp [hlen]) h2.symm
    have r3 := Nm.open_al g3 (by simp [hlen]) h3.symm
    have r4 := Nm.open_al g4 (by simp [hlen]) h4.symm
    have hcs : cs0 = Nm.cells20 Nm.fld := by
      apply Array.toList_inj.1
      have e : cs0.toList = (cs0.toList.drop (0 * 4)).take 4 ++ ((cs0.toList.drop (1 * 4)).take 4 ++ ((cs0.toList.drop (2 * 4)).take 4 ++ ((cs0.toList.drop (3 * 4)).take 4 ++ (cs0.toList.drop (4 * 4)).take 4))) := by
        have hl : cs0.toList.length = 20 := hlen
        match hcl : cs0.toList, hl with
        | [_, _, _, _, _, _, _, _, _, _, _, _, _, _, _, _, _, _, _, _], _ => rfl
      rw [e, r0, r1, r2, r3, r4]
      rfl
    subst hcs
    have hv1 := hv0
    unfold World.var? at hv0
    rw [gAl] at hv0
    simp only [Option.bind_some] at hv0
    have hlt : 1 < W.heap.size := by
      rcases Nat.lt_or_ge 1 W.heap.size with h | h
      · exact h
      · simp [Array.getElem?_eq_none h] at hv0
    have hrow : ∃ t fr, W.heap[1]? = some (.cells (Nm.cells20 Nm.fld) t fr) := by
      split at hv0
      · rename_i cs t fr he
        cases hv0
        exact ⟨t, fr, he⟩
      · cases hv0
    refine ⟨fun s i hs hi => ?_, hlt, hrow⟩
    have c := World.var?_cell gAl hv1 (4 * s + i)
    rw [c]
    have hs5 : s = 0 ∨ s = 1 ∨ s = 2 ∨ s = 3 ∨ s = 4 := by omega
    have hi4 : i = 0 ∨ i = 1 ∨ i = 2 ∨ i = 3 := by omega
    rcases hs5 with rfl | rfl | rfl | rfl | rfl <;> rcases hi4 with rfl | rfl | rfl | rfl <;> rfl

theorem gSw : Tryz.prog.globalNamed "customhouse/rewrite.scriptWords" = some 0 := by kernel_rfl
theorem gSwType : (Tryz.prog.globals[0]?).map (·.type) = some 146 := by kernel_rfl
theorem gPowType : (Tryz.prog.globals[6]?).map (·.type) = some 241 := by kernel_rfl
theorem cellsU64 : Tryz.prog.cellsOf 149 = 1 := by kernel_rfl
theorem cellsPow : Tryz.prog.cellsOf 241 = 20 := by kernel_rfl
theorem powData : (Rows.laid_internal_strconv_uint64pow10 : DataW Unit) = Lib.tabData .u64 Lib.pow10Tab := by rfl
theorem Rw.sw_of_laid {r : List (String × DataW Unit)} {W : World} (h : laidMet Tryz.prog (("customhouse/rewrite.scriptWords", Rows.laid_customhouse_rewrite_scriptWords) :: r) W) : Rw.Sw W.heap.size W := by
  obtain ⟨ps, ⟨g0, t0, cs0, f0, p0, q0, hg0, ht0, hv0, hd0, _, e0⟩, _, hrows⟩ := h
  obtain rfl := Option.some.inj (gSw.symm.trans hg0)
  obtain rfl := Option.some.inj (gSwType.symm.trans ht0)
  obtain ⟨xs, m, _, hxy, hlen, hxl, hg⟩ := DataW.trod_array Tryz.underlying146 hd0
  have hC : Tryz.prog.cellsOf 146 = 5 := by kernel_rfl
  rw [hC] at hlen
  rw [cellsStr] at hg
  match xs, hxl with
  | [y0, y1, y2, y3, y4], _ =>
    have g0 := hg 0 (by omega)
    have g1 := hg 1 (by omega)
    have g2 := hg 2 (by omega)
    have g3 := hg 3 (by omega)
    have g4 := hg 4 (by omega)
    simp only [List.getElem?_cons_zero, List.getElem?_cons_succ] at g0 g1 g2 g3 g4
    unfold Rows.laid_customhouse_rewrite_scriptWords at hxy
    simp only [Prod.mk.injEq, List.map_cons, List.map_nil, DataW.agg.injEq, List.cons.injEq, and_true] at hxy
    obtain ⟨⟨h0, h1, h2, h3, h4⟩, _⟩ := hxy
    obtain ⟨v0, v1, v2, v3, v4, hcs⟩ : ∃ v0 v1 v2 v3 v4, cs0.toList = [v0, v1, v2, v3, v4] := by
      have hl : cs0.toList.length = 5 := hlen
      match hcl : cs0.toList, hl with
      | [v0, v1, v2, v3, v4], _ => exact ⟨v0, v1, v2, v3, v4, rfl⟩
    rw [hcs] at g0 g1 g2 g3 g4
    simp at g0 g1 g2 g3 g4
    obtain ⟨s0, e0, k0, _⟩ := DataW.trod_string Tryz.underlying9 g0
    obtain ⟨s1, e1, k1, _⟩ := DataW.trod_string Tryz.underlying9 g1
    obtain ⟨s2, e2, k2, _⟩ := DataW.trod_string Tryz.underlying9 g2
    obtain ⟨s3, e3, k3, _⟩ := DataW.trod_string Tryz.underlying9 g3
    obtain ⟨s4, e4, k4, _⟩ := DataW.trod_string Tryz.underlying9 g4
    simp at e0 e1 e2 e3 e4
    subst e0 e1 e2 e3 e4
    rw [k0] at h0
    rw [k1] at h1
    rw [k2] at h2
    rw [k3] at h3
    rw [k4] at h4
    simp only [DataW.lit.injEq, Lit.string.injEq] at h0 h1 h2 h3 h4
    have hlt : 0 < W.heap.size := by
      have hv1 := hv0
      unfold World.var? at hv1
      rw [gSw] at hv1
      simp only [Option.bind_some] at hv1
      rcases Nat.lt_or_ge 0 W.heap.size with h | h
      · exact h
      · simp [Array.getElem?_eq_none h] at hv1
    refine ⟨fun s hs => ?_, hlt⟩
    have c := World.var?_cell gSw hv0 s
    rw [c]
    have e : cs0[s]? = cs0.toList[s]? := by simp
    rw [e, hcs]
    have hs5 : s = 0 ∨ s = 1 ∨ s = 2 ∨ s = 3 ∨ s = 4 := by omega
    rcases hs5 with rfl | rfl | rfl | rfl | rfl
    · rw [Nm.bt_of h0.symm]; rfl
    · rw [Nm.bt_of h1.symm]; rfl
    · rw [Nm.bt_of h2.symm]; rfl
    · rw [Nm.bt_of h3.symm]; rfl
    · rw [Nm.bt_of h4.symm]; rfl

theorem pa_of_laid {W : World} (h : laidMetH Tryz.prog laid10 W) (_hS : W.ShapedOpen Tryz.prog) : Rw.Pa W.heap.size W := by
  rw [MakeChecks.laidMetH_plain _ _ _ (by kernel_rfl)] at h
  have h2 := h.tail.tail
  have h4 := h2.tail.tail
  have h5 := h4.tail
  rw [powData] at h2
  have ht := Lib.tabIs_of_head (rest := [("unicode/utf8.acceptRanges", Rows.laid_unicode_utf8_acceptRanges), ("customhouse/script.alphabets", Rows.laid_customhouse_script_alphabets), ("customhouse/rewrite.scriptWords", Rows.laid_customhouse_rewrite_scriptWords), ("unicode.CaseRanges", Rows.laid_unicode_CaseRanges), ("unicode/utf8.first", Rows.laid_unicode_utf8_first)]) Rw.gPow gPowType Tryz.underlying241 Tryz.underlying149 cellsU64 cellsPow h2
  refine ⟨Nm.tb_of_laid h4, Rw.sw_of_laid h5, ht, ?_⟩
  unfold Lib.TabIs World.var? at ht
  rw [Rw.gPow] at ht
  rcases Nat.lt_or_ge 6 W.heap.size with hlt | hge
  · exact hlt
  · simp [Array.getElem?_eq_none hge] at ht

theorem own : ownKnob Tryz.prog.godebug = none := by kernel_rfl
theorem laidOut : laidOutB Tryz.prog = true := by kernel_rfl

theorem door_met (os : Os) (args : Array Value) : laidMetH Tryz.prog laid10 ((World.laidAll Tryz.prog os laid10).forCall (fun _ _ => 0) ⟨#[], args, []⟩).memory := by
  rw [MakeChecks.laidMetH_plain _ _ _ (by kernel_rfl)]
  exact laidMet_laidAll _ (by kernel_rfl) (by kernel_rfl)

/-- The library's witness of a row, its shape read in one pass. -/
theorem Nm.witness_row {H : Type} {enc : TypeId × Value → H} {C : Checked} {os : Os} {f : FuncId} {fn : Func} {s : OpenSpec} {conds : List PathCond} {apart : Bool} {laid : List (String × DataW Unit)} (modest : Bool) (w0 : World) (args : Array Value) (hos : w0.os = os)
    (hv : (w0.forCall (fun _ _ => 0) ⟨#[], args, []⟩).variablesZipB C.prog = true)
    (hr : ((w0.forCall (fun _ _ => 0) ⟨#[], args, []⟩).heap.toList.drop C.prog.globals.size).take ((begin C.prog (fun _ _ => 0) default).world.heap.size - C.prog.globals.size) =
      (begin C.prog (fun _ _ => 0) default).world.heap.toList.drop C.prog.globals.size)
    (hok : Input.okWideB C.prog (w0.forCall (fun _ _ => 0) ⟨#[], args, []⟩) f ⟨#[], args, []⟩ = true)
    (hrow : s.preRow enc C.prog fn conds apart laid (w0.forCall (fun _ _ => 0) ⟨#[], args, []⟩).memory args) :
    ∃ (w : World) (tape : Tape) (i : Input), w.os = os ∧ (w.forCall tape i).Shaped C.prog ∧ i.vars = [] ∧ Input.okWide C.prog (w.forCall tape i) .any w.heap.size f i ∧
      s.preRow enc C.prog fn conds apart laid (w.forCall tape i).memory i.args ∧ ({ modest := modest } : Assume).holds C.prog (lone (Frame.enter C.prog f i.args .normal) [] (w.forCall tape i)) :=
  ⟨w0, fun _ _ => 0, ⟨#[], args, []⟩, hos, World.shaped_of_ZipB hv hr, (Input.okWide_of_okWideB (base := 0) hok).1, (Input.okWide_of_okWideB hok).2, hrow, by
    simp only [Assume.holds]
    exact ⟨by simp, by simp, fun _ => Modest.zero, by simp, by simp⟩⟩

instance : Inhabited Rw.Rl := ⟨⟨0, ⟨#[]⟩, ⟨#[]⟩, 0⟩⟩
instance : Inhabited Rw.Dp := ⟨⟨0, ⟨#[]⟩, 0⟩⟩
/-- Rules that came in. -/
theorem Rw.rules_of {H : Type} {enc : TypeId × Value → H} {W : World} {fuel : Nat} {v : Value} {x : DataW H × List MemPlace}
    (hf : DataW.trod enc Tryz.prog W 0 (fun _ => true) true fuel 22 [v] = some x) :
    ∃ (A : Option Addr) (c : Nat) (l : List Rw.Rl), v = .slice A l.length c ∧ Rw.Rls W W.heap.size A l ∧ Rw.AllRl l ∧ l.length ≤ c ∧ c ≤ maxLen := by
  rcases Go.Deep.open_slice Tryz.underlying22 hf with ⟨h1, _⟩ | ⟨a, n, c, m, n', D, Pl, h1, _, hl, hm, hmm, _, hx⟩
  · simp at h1
    subst h1
    exact ⟨none, 0, [], rfl, fun k hk => absurd hk (by simp), (fun x hx => by cases hx), by simp, by simp [maxLen]⟩
  · simp at h1
    subst h1
    simp only [if_true] at hmm
    subst hmm
    have hC : Tryz.prog.cellsOf 52 = 4 := by kernel_rfl
    have c0 : Tryz.prog.cellsOf 9 = 1 := by kernel_rfl
    have c1 : Tryz.prog.cellsOf 3 = 1 := by kernel_rfl
    have each : ∀ i, i < n → ∃ x : Rw.Rl, x.Good ∧ W.cell? (a.add (i * 4)) = some (.int .i64 x.k) ∧ W.cell? ((a.add (i * 4)).add 1) = some (.string x.frm) ∧ W.cell? ((a.add (i * 4)).add 2) = some (.string x.to) ∧ W.cell? ((a.add (i * 4)).add 3) = some (.int .i64 x.cost) := fun i hi => by
      obtain ⟨cs', h1, h2⟩ := hx i (by omega)
      rw [hC] at h1
      obtain ⟨_, hlen, hcell⟩ := World.cells?_some h1
      obtain ⟨xs, k, hk, hxy, _, hxl, hf⟩ := DataW.trod_struct Tryz.underlying52 h2
      match xs, hxl, cs', hlen with
      | [y0, y1, y2, y3], _, [v0, v1, v2, v3], _ =>
        have g0 := hf 0 _ rfl
        have g1 := hf 1 _ rfl
        have g2 := hf 2 _ rfl
        have g3 := hf 3 _ rfl
        simp [c0, c1] at g0 g1 g2 g3
        obtain ⟨d, e0, _, w0⟩ := DataW.trod_int Tryz.underlying3 g0
        obtain ⟨s, e1, _, w1⟩ := DataW.trod_string Tryz.underlying9 g1
        obtain ⟨p, e2, _, w2⟩ := DataW.trod_string Tryz.underlying9 g2
        obtain ⟨q, e3, _, w3⟩ := DataW.trod_int Tryz.underlying3 g3
        simp at e0 e1 e2 e3
        subst e0 e1 e2 e3
        have b0 := hcell 0 (by omega)
        have b1 := hcell 1 (by omega)
        have b2 := hcell 2 (by omega)
        have b3 := hcell 3 (by omega)
        refine ⟨⟨d, s, p, q⟩, ⟨w0, w1, w2, w3⟩, ?_, b1, b2, b3⟩
        rw [Go.Deep.add_add] at b0
        simpa using b0
    obtain ⟨F, hF⟩ := Go.Deep.choose_lt each
    refine ⟨some a, m, (List.range n).map F, by simp, fun k hk => ?_, fun x hx => ?_, by simp; omega, by omega⟩
    · rw [List.length_map, List.length_range] at hk
      obtain ⟨_, f0, f1, f2, f3⟩ := hF k hk
      simp only [List.getElem_map, List.getElem_range]
      refine ⟨a, rfl, ?_, f0, f1, f2, f3⟩
      have := Nm.cell_lt f0
      rwa [Rw.add_block] at this
    · obtain ⟨k, hk, rfl⟩ := List.mem_map.1 hx
      exact (hF k (List.mem_range.1 hk)).1
/-- Drops that came in. -/
theorem Rw.drops_of {H : Type} {enc : TypeId × Value → H} {W : World} {fuel : Nat} {v : Value} {x : DataW H × List MemPlace}
    (hf : DataW.trod enc Tryz.prog W 0 (fun _ => true) true fuel 23 [v] = some x) :
    ∃ (A : Option Addr) (c : Nat) (l : List Rw.Dp), v = .slice A l.length c ∧ Rw.Dps W W.heap.size A l ∧ Rw.AllDp l ∧ l.length ≤ c ∧ c ≤ maxLen := by
  rcases Go.Deep.open_slice Tryz.underlying23 hf with ⟨h1, _⟩ | ⟨a, n, c, m, n', D, Pl, h1, _, hl, hm, hmm, _, hx⟩
  · simp at h1
    subst h1
    exact ⟨none, 0, [], rfl, fun k hk => absurd hk (by simp), (fun x hx => by cases hx), by simp, by simp [maxLen]⟩
  · simp at h1
    subst h1
    simp only [if_true] at hmm
    subst hmm
    have hC : Tryz.prog.cellsOf 63 = 3 := by kernel_rfl
    have c0 : Tryz.prog.cellsOf 9 = 1 := by kernel_rfl
    have c1 : Tryz.prog.cellsOf 3 = 1 := by kernel_rfl
    have each : ∀ i, i < n → ∃ x : Rw.Dp, x.Good ∧ W.cell? (a.add (i * 3)) = some (.int .i64 x.k) ∧ W.cell? ((a.add (i * 3)).add 1) = some (.string x.word) ∧ W.cell? ((a.add (i * 3)).add 2) = some (.int .i64 x.cost) := fun i hi => by
      obtain ⟨cs', h1, h2⟩ := hx i (by omega)
      rw [hC] at h1
      obtain ⟨_, hlen, hcell⟩ := World.cells?_some h1
      obtain ⟨xs, k, hk, hxy, _, hxl, hf⟩ := DataW.trod_struct Tryz.underlying63 h2
      match xs, hxl, cs', hlen with
      | [y0, y1, y2], _, [v0, v1, v2], _ =>
        have g0 := hf 0 _ rfl
        have g1 := hf 1 _ rfl
        have g2 := hf 2 _ rfl
        simp [c0, c1] at g0 g1 g2
        obtain ⟨d, e0, _, w0⟩ := DataW.trod_int Tryz.underlying3 g0
        obtain ⟨s, e1, _, w1⟩ := DataW.trod_string Tryz.underlying9 g1
        obtain ⟨q, e2, _, w2⟩ := DataW.trod_int Tryz.underlying3 g2
        simp at e0 e1 e2
        subst e0 e1 e2
        have b0 := hcell 0 (by omega)
        have b1 := hcell 1 (by omega)
        have b2 := hcell 2 (by omega)
        refine ⟨⟨d, s, q⟩, ⟨w0, w1, w2⟩, ?_, b1, b2⟩
        rw [Go.Deep.add_add] at b0
        simpa using b0
    obtain ⟨F, hF⟩ := Go.Deep.choose_lt each
    refine ⟨some a, m, (List.range n).map F, by simp, fun k hk => ?_, fun x hx => ?_, by simp; omega, by omega⟩
    · rw [List.length_map, List.length_range] at hk
      obtain ⟨_, f0, f1, f2⟩ := hF k hk
      simp only [List.getElem_map, List.getElem_range]
      refine ⟨a, rfl, ?_, f0, f1, f2⟩
      have := Nm.cell_lt f0
      rwa [Rw.add_block] at this
    · obtain ⟨k, hk, rfl⟩ := List.mem_map.1 hx
      exact (hF k (List.mem_range.1 hk)).1
/-- A table that came in. -/
theorem Rw.table_of {H : Type} {enc : TypeId × Value → H} {W : World} {base : Nat} {v : Value} {d : DataW H} {p : List MemPlace} (hv : Value.okWide Tryz.prog W .any base 25 v)
    (h : DataW.Trod enc Tryz.prog W 0 (fun _ => true) true 25 v d p) : ∃ t : Rw.TV, v = t.val ∧ t.In W ∧ (Go.Lit.int .i64 t.d).wf = true ∧ (Go.Lit.int .i64 t.o).wf = true ∧ (Go.Lit.int .i64 t.i).wf = true := by
  obtain ⟨cs, rfl, hsz⟩ := okWide_struct Tryz.underlying25 hv
  have hC : Tryz.prog.cellsOf 25 = 6 := by kernel_rfl
  rw [hC] at hsz
  obtain ⟨v0, v1, v2, v3, v4, v5, rfl⟩ : ∃ v0 v1 v2 v3 v4 v5, cs = #[v0, v1, v2, v3, v4, v5] := by
    match cs, hsz with
    | ⟨[v0, v1, v2, v3, v4, v5]⟩, _ => exact ⟨v0, v1, v2, v3, v4, v5, rfl⟩
  obtain ⟨fuel, hf⟩ := h
  obtain ⟨xs, k, hk, hxy, hlen, hxl, hg⟩ := DataW.trod_struct Tryz.underlying25 hf
  match xs, hxl with
  | [y0, y1, y2, y3, y4, y5], _ =>
    have g0 := hg 0 _ rfl
    have g1 := hg 1 _ rfl
    have g2 := hg 2 _ rfl
    have g3 := hg 3 _ rfl
    have g4 := hg 4 _ rfl
    have g5 := hg 5 _ rfl
    have c0 : Tryz.prog.cellsOf 22 = 1 := by kernel_rfl
    have c1 : Tryz.prog.cellsOf 23 = 1 := by kernel_rfl
    have c2 : Tryz.prog.cellsOf 3 = 1 := by kernel_rfl
    simp [Value.cells, c0, c1, c2] at g0 g1 g2 g3 g4 g5
    obtain ⟨A, a, R, rfl, r1, r2, r3, r4⟩ := Rw.rules_of g0
    obtain ⟨B, b, D, rfl, d1, d2, d3, d4⟩ := Rw.drops_of g1
    obtain ⟨C, c, E, rfl, e1, e2, e3, e4⟩ := Rw.drops_of g2
    obtain ⟨n3, k3, _, w3⟩ := DataW.trod_int Tryz.underlying3 g3
    obtain ⟨n4, k4, _, w4⟩ := DataW.trod_int Tryz.underlying3 g4
    obtain ⟨n5, k5, _, w5⟩ := DataW.trod_int Tryz.underlying3 g5
    simp at k3 k4 k5
    subst k3 k4 k5
    exact ⟨⟨A, a, B, b, C, c, R, D, E, n3, n4, n5⟩, rfl, ⟨r1, d1, e1, r2, d2, e2, r3, d3, e3, r4, d4, e4⟩, w3, w4, w5⟩
/-- A rule that came in. -/
theorem Rw.rule_of {H : Type} {enc : TypeId × Value → H} {W : World} {base : Nat} {v : Value} {d : DataW H} {p : List MemPlace} (hv : Value.okWide Tryz.prog W .any base 52 v)
    (h : DataW.Trod enc Tryz.prog W 0 (fun _ => true) true 52 v d p) : ∃ x : Rw.Rl, v = x.val ∧ x.Good := by
  obtain ⟨cs, rfl, hsz⟩ := okWide_struct Tryz.underlying52 hv
  have hC : Tryz.prog.cellsOf 52 = 4 := by kernel_rfl
  rw [hC] at hsz
  obtain ⟨v0, v1, v2, v3, rfl⟩ : ∃ v0 v1 v2 v3, cs = #[v0, v1, v2, v3] := by
    match cs, hsz with
    | ⟨[v0, v1, v2, v3]⟩, _ => exact ⟨v0, v1, v2, v3, rfl⟩
  obtain ⟨fuel, hf⟩ := h
  obtain ⟨xs, k, hk, hxy, hlen, hxl, hg⟩ := DataW.trod_struct Tryz.underlying52 hf
  match xs, hxl with
  | [y0, y1, y2, y3], _ =>
    have g0 := hg 0 _ rfl
    have g1 := hg 1 _ rfl
    have g2 := hg 2 _ rfl
    have g3 := hg 3 _ rfl
    have c0 : Tryz.prog.cellsOf 9 = 1 := by kernel_rfl
    have c1 : Tryz.prog.cellsOf 3 = 1 := by kernel_rfl
    simp [Value.cells, c0, c1] at g0 g1 g2 g3
    obtain ⟨n, e0, _, w0⟩ := DataW.trod_int Tryz.underlying3 g0
    obtain ⟨s, e1, _, w1⟩ := DataW.trod_string Tryz.underlying9 g1
    obtain ⟨p, e2, _, w2⟩ := DataW.trod_string Tryz.underlying9 g2
    obtain ⟨q, e3, _, w3⟩ := DataW.trod_int Tryz.underlying3 g3
    simp at e0 e1 e2 e3
    subst e0 e1 e2 e3
    exact ⟨⟨n, s, p, q⟩, rfl, w0, w1, w2, w3⟩
end Go.Proofs.YtkddpealobeleaaGreatDoor
