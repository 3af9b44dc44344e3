/- The listed variables of package script's rows: what the rows' condition gives, and a world that meets it; names that came in, opened. -/
import Derived.Test.YtcjlnmfbanknhaaDoorCards
import Derived.Test.YtcjlnmfbanknhaaDoorTie
import Derived.Test.YtcjlnmfbanknhaaDoorNmQ
import Derived.ChangeSlices
import Derived.Deep.Slices
import Derived.Stop.LaidErr
import Derived.MakeChecks
import Derived.LaidMore
import Derived.ProofKit
import Derived.Deep.Strs
import Derived.Shelf.Vars
import Derived.OpenShut
import Derived.Lay
import Derived.SliceStrings
import Derived.Lib.SmallJoins
set_option linter.unusedSimpArgs false
set_option linter.unusedVariables false
namespace Go.Proofs.YtcjlnmfbanknhaaDoor
open Go.ChangeShapes Go.WideShapes Go.ChangeAt Go.RowKit
set_option maxRecDepth 100000
set_option maxHeartbeats 1000000

def laid9 : List (String × DataW Unit) := [("unicode/utf8.acceptRanges", Rows.laid_unicode_utf8_acceptRanges), ("customhouse/script.alphabets", Rows.laid_customhouse_script_alphabets), ("unicode.CaseRanges", Rows.laid_unicode_CaseRanges), ("unicode/utf8.first", Rows.laid_unicode_utf8_first)]
theorem gAl : Tryd.prog.globalNamed "customhouse/script.alphabets" = some 0 := by kernel_rfl
theorem gAlType : (Tryd.prog.globals[0]?).map (·.type) = some 60 := by kernel_rfl
theorem cellsAl : Tryd.prog.cellsOf 42 = 4 := by kernel_rfl
theorem cellsStr : Tryd.prog.cellsOf 9 = 1 := by kernel_rfl
theorem Nm.bt_of {s : ByteArray} {l : Nm.T} (h : s.data.toList = l) : s = Nm.bt l := by
  refine ByteArray.ext (Array.toList_inj.1 ?_)
  rw [h, Nm.bt_list]
theorem Nm.open_al {W : World} {base fuel : Nat} {sp : Nat → Bool} {held : Bool} {enc : TypeId × Value → Unit} {cs : List Value} {y : DataW Unit × List MemPlace} (h : DataW.trod enc Tryd.prog W base sp held fuel 42 cs = some y) (hlen : cs.length = 4)
    {a b c d : Nm.T} (hy : y.1 = .agg [.lit (.string a), .lit (.string b), .lit (.string c), .lit (.string d)]) :
    cs = [.string (Nm.bt a), .string (Nm.bt b), .string (Nm.bt c), .string (Nm.bt d)] := by
  obtain ⟨xs, k, _, hxy, _, hxl, hg⟩ := DataW.trod_struct Tryd.underlying42 h
  match xs, hxl, cs, hlen with
  | [y0, y1, y2, y3], _, [v0, v1, v2, v3], _ =>
    have g0 := hg 0 _ rfl
    have g1 := hg 1 _ rfl
    have g2 := hg 2 _ rfl
    have g3 := hg 3 _ rfl
    simp [cellsStr] at g0 g1 g2 g3
    obtain ⟨s0, e0, rfl, _⟩ := DataW.trod_string Tryd.underlying9 g0
    obtain ⟨s1, e1, rfl, _⟩ := DataW.trod_string Tryd.underlying9 g1
    obtain ⟨s2, e2, rfl, _⟩ := DataW.trod_string Tryd.underlying9 g2
    obtain ⟨s3, e3, rfl, _⟩ := DataW.trod_string Tryd.underlying9 g3
    simp at e0 e1 e2 e3
    subst e0 e1 e2 e3
    rw [hxy] at hy
    simp only [List.map_cons, List.map_nil, DataW.agg.injEq, List.cons.injEq, DataW.lit.injEq, Lit.string.injEq, and_true] at hy
    obtain ⟨h0, h1, h2, h3⟩ := hy
    rw [← Nm.bt_of h0, ← Nm.bt_of h1, ← Nm.bt_of h2, ← Nm.bt_of h3]
theorem Nm.tb_of_laid {r : List (String × DataW Unit)} {W : World} (h : laidMet Tryd.prog (("customhouse/script.alphabets", Rows.laid_customhouse_script_alphabets) :: r) W) : Nm.Tb W.heap.size W := by
  obtain ⟨ps, ⟨g0, t0, cs0, f0, p0, q0, hg0, ht0, hv0, hd0, _, e0⟩, _, hrows⟩ := h
  obtain rfl := Option.some.inj (gAl.symm.trans hg0)
  obtain rfl := Option.some.inj (gAlType.symm.trans ht0)
  obtain ⟨xs, m, _, hxy, hlen, hxl, hg⟩ := DataW.trod_array Tryd.underlying60 hd0
  have hC : Tryd.prog.cellsOf 60 = 20 := by kernel_rfl
  rw [hC] at hlen
  rw [cellsAl] at hg
  match xs, hxl with
  | [y0, y1, y2, y3, y4], _ =>
    have g0 := hg 0 (by omega)
    have g1 := hg 1 (by omega)
    have g2 := hg 2 (by omega)
    have g3 := hg 3 (by omega)
    have g4 := hg 4 (by omega)
    simp only [List.getElem?_cons_zero, List.getElem?_cons_succ] at g0 g1 g2 g3 g4
    unfold Rows.laid_customhouse_script_alphabets at hxy
    simp only [Prod.mk.injEq, List.map_cons, List.map_nil, DataW.agg.injEq, List.cons.injEq, and_true] at hxy
    obtain ⟨⟨h0, h1, h2, h3, h4⟩, _⟩ := hxy
    have r0 := Nm.open_al g0 (by simp [hlen]) h0.symm
    have r1 := Nm.open_al g1 (by simp [hlen]) h1.symm
    have r2 := Nm.open_al g2 (by simp [hlen]) h2.symm
    have r3 := Nm.open_al g3 (by simp [hlen]) h3.symm
    have r4 := Nm.open_al g4 (by simp [hlen]) h4.symm
    have hcs : cs0 = Nm.cells20 Nm.fld := by
      apply Array.toList_inj.1
      have e : cs0.toList = (cs0.toList.drop (0 * 4)).take 4 ++ ((cs0.toList.drop (1 * 4)).take 4 ++ ((cs0.toList.drop (2 * 4)).take 4 ++ ((cs0.toList.drop (3 * 4)).take 4 ++ (cs0.toList.drop (4 * 4)).take 4))) := by
        have hl : cs0.toList.length = 20 := hlen
        match hcl : cs0.toList, hl with
        | [_, _, _, _, _, _, _, _, _, _, _, _, _, _, _, _, _, _, _, _], _ => rfl
      rw [e, r0, r1, r2, r3, r4]
      rfl
    subst hcs
    have hv1 := hv0
    unfold World.var? at hv0
    rw [gAl] at hv0
    simp only [Option.bind_some] at hv0
    have hlt : 0 < W.heap.size := by
      rcases Nat.lt_or_ge 0 W.heap.size with h | h
      · exact h
      · simp [Array.getElem?_eq_none h] at hv0
    have hrow : ∃ t fr, W.heap[0]? = some (.cells (Nm.cells20 Nm.fld) t fr) := by
      split at hv0
      · rename_i cs t fr he
        cases hv0
        exact ⟨t, fr, he⟩
      · cases hv0
    refine ⟨fun s i hs hi => ?_, hlt, hrow⟩
    have c := World.var?_cell gAl hv1 (4 * s + i)
    rw [c]
    have hs5 : s = 0 ∨ s = 1 ∨ s = 2 ∨ s = 3 ∨ s = 4 := by omega
    have hi4 : i = 0 ∨ i = 1 ∨ i = 2 ∨ i = 3 := by omega
    rcases hs5 with rfl | rfl | rfl | rfl | rfl <;> rcases hi4 with rfl | rfl | rfl | rfl <;> rfl

theorem pa_of_laid {W : World} (h : laidMetH Tryd.prog laid9 W) (hS : W.ShapedOpen Tryd.prog) : Nm.Pa W.heap.size W := by
  rw [MakeChecks.laidMetH_plain _ _ _ (by kernel_rfl)] at h
  have hm : ∃ m : Int, W.cell? ⟨2, 0, none⟩ = some (.int .i64 m) := cell_of_shapedOpen_int (g := 2) (t := 3) (zero := #[.int .i64 0]) hS (of_decide_eq_true (by kernel_rfl)) (by kernel_rfl) rfl (by kernel_rfl) (by kernel_rfl) Tryd.underlying3
  exact ⟨Nm.tb_of_laid h.tail, hm⟩

theorem own : ownKnob Tryd.prog.godebug = none := by kernel_rfl
theorem laidOut : laidOutB Tryd.prog = true := by kernel_rfl

theorem door_met (os : Os) (args : Array Value) : laidMetH Tryd.prog laid9 ((World.laidAll Tryd.prog os laid9).forCall (fun _ _ => 0) ⟨#[], args, []⟩).memory := by
  rw [MakeChecks.laidMetH_plain _ _ _ (by kernel_rfl)]
  exact laidMet_laidAll _ (by kernel_rfl) (by kernel_rfl)

/-- The library's witness of a row, its shape read in one pass. -/
theorem Nm.witness_row {H : Type} {enc : TypeId × Value → H} {C : Checked} {os : Os} {f : FuncId} {fn : Func} {s : OpenSpec} {conds : List PathCond} {apart : Bool} {laid : List (String × DataW Unit)} (modest : Bool) (w0 : World) (args : Array Value) (hos : w0.os = os)
    (hv : (w0.forCall (fun _ _ => 0) ⟨#[], args, []⟩).variablesZipB C.prog = true)
    (hr : ((w0.forCall (fun _ _ => 0) ⟨#[], args, []⟩).heap.toList.drop C.prog.globals.size).take ((begin C.prog (fun _ _ => 0) default).world.heap.size - C.prog.globals.size) =
      (begin C.prog (fun _ _ => 0) default).world.heap.toList.drop C.prog.globals.size)
    (hok : Input.okWideB C.prog (w0.forCall (fun _ _ => 0) ⟨#[], args, []⟩) f ⟨#[], args, []⟩ = true)
    (hrow : s.preRow enc C.prog fn conds apart laid (w0.forCall (fun _ _ => 0) ⟨#[], args, []⟩).memory args) :
    ∃ (w : World) (tape : Tape) (i : Input), w.os = os ∧ (w.forCall tape i).Shaped C.prog ∧ i.vars = [] ∧ Input.okWide C.prog (w.forCall tape i) .any w.heap.size f i ∧
      s.preRow enc C.prog fn conds apart laid (w.forCall tape i).memory i.args ∧ ({ modest := modest } : Assume).holds C.prog (lone (Frame.enter C.prog f i.args .normal) [] (w.forCall tape i)) :=
  ⟨w0, fun _ _ => 0, ⟨#[], args, []⟩, hos, World.shaped_of_ZipB hv hr, (Input.okWide_of_okWideB (base := 0) hok).1, (Input.okWide_of_okWideB hok).2, hrow, by
    simp only [Assume.holds]
    exact ⟨by simp, by simp, fun _ => Modest.zero, by simp, by simp⟩⟩

/-- A name that came in. -/
theorem Nm.name_of {H : Type} {enc : TypeId × Value → H} {W : World} {base : Nat} {v : Value} {d : DataW H} {p : List MemPlace} (hv : Value.okWide Tryd.prog W .any base 24 v)
    (h : DataW.Trod enc Tryd.prog W 0 (fun _ => true) true 24 v d p) :
    ∃ (k : Int) (A : Option Addr) (c : Nat) (ss : List ByteArray), v = .agg #[.int .i64 k, .slice A ss.length c] ∧ Strs W W.heap.size A ss ∧ ss.length ≤ c ∧ c ≤ maxLen ∧ (∀ x ∈ ss, x.size ≤ maxLen) ∧ (Go.Lit.int .i64 k).wf = true := by
  obtain ⟨cs, rfl, hsz⟩ := okWide_struct Tryd.underlying24 hv
  have hC : Tryd.prog.cellsOf 24 = 2 := by kernel_rfl
  rw [hC] at hsz
  obtain ⟨v0, v1, rfl⟩ : ∃ v0 v1, cs = #[v0, v1] := by
    match cs, hsz with
    | ⟨[v0, v1]⟩, _ => exact ⟨v0, v1, rfl⟩
  obtain ⟨fuel, hf⟩ := h
  obtain ⟨xs, k, hk, hxy, hlen, hxl, hg⟩ := DataW.trod_struct Tryd.underlying24 hf
  match xs, hxl with
  | [y0, y1], _ =>
    have g0 := hg 0 _ rfl
    have g1 := hg 1 _ rfl
    have c0 : Tryd.prog.cellsOf 3 = 1 := by kernel_rfl
    have c1 : Tryd.prog.cellsOf 22 = 1 := by kernel_rfl
    simp [Value.cells, c0, c1] at g0 g1
    obtain ⟨n, e0, _, wi⟩ := DataW.trod_int Tryd.underlying3 g0
    simp at e0
    subst e0
    rcases open_strings Tryd.underlying22 Tryd.underlying9 cellsStr g1 with ⟨h1, _⟩ | ⟨a, len, cap, ss, h1, _, hl, hm, hz, _, hcell, hss⟩
    · simp at h1
      subst h1
      exact ⟨n, none, 0, [], rfl, fun k hk => absurd hk (by simp), by simp, by simp [maxLen], fun x hx => by (cases hx), wi⟩
    · simp at h1
      subst h1
      simp only [if_true] at hz
      have e : (ss.take len).length = len := by rw [List.length_take]; omega
      refine ⟨n, some a, cap, ss.take len, by rw [e], fun k hk => ?_, by rw [e]; exact hl, hm, fun x hx => hss x (List.mem_of_mem_take hx), wi⟩
      rw [e] at hk
      have h2 := hcell k (by omega)
      refine ⟨a, rfl, ?_, ?_⟩
      · have := Nm.cell_lt h2
        rwa [add_block] at this
      · rw [h2, List.getD_eq_getElem?_getD, List.getD_eq_getElem?_getD, List.getElem?_take, if_pos hk]
end Go.Proofs.YtcjlnmfbanknhaaDoor
