/- The listed variables of package clock's rows: what the rows' condition gives, and a world that meets it; a zone that came in, opened. -/
import Derived.Test.YtkkgefefbamcpaaDoorCards
import Derived.Test.YtkkgefefbamcpaaDoorTie
import Derived.Test.YtkkgefefbamcpaaDoorClP
import Derived.Stop.LaidErr
import Derived.MakeChecks
import Derived.LaidMore
import Derived.Lib.LaidTab
import Derived.Lib.SmallJoins
import Derived.ProofKit
import Derived.Deep.Strs
import Derived.Deep.SlicePairs
import Derived.Shelf.Vars
namespace Go.Proofs.YtkkgefefbamcpaaDoor
open Go.ChangeShapes Go.WideShapes Go.ChangeAt Go.RowKit
set_option maxRecDepth 100000
set_option linter.unusedSimpArgs false
set_option linter.unusedVariables false

def laid5c {H : Type} : List (String × DataW H) := [("math/bits.deBruijn32tab", Rows.laid_math_bits_deBruijn32tab), ("math/bits.deBruijn64tab", Rows.laid_math_bits_deBruijn64tab), ("internal/strconv.uint64pow10", Rows.laid_internal_strconv_uint64pow10), ("strconv.ErrRange", Rows.laid_strconv_ErrRange), ("strconv.ErrSyntax", Rows.laid_strconv_ErrSyntax)]

theorem Cl.gPowType : (Tryd.prog.globals[3]?).map (·.type) = some 96 := by kernel_rfl
theorem Cl.cellsU64 : Tryd.prog.cellsOf 70 = 1 := by kernel_rfl
theorem Cl.cellsPow : Tryd.prog.cellsOf 96 = 20 := by kernel_rfl
theorem Cl.powData : (Rows.laid_internal_strconv_uint64pow10 : DataW Unit) = Lib.tabData .u64 Lib.pow10Tab := by rfl

theorem Cl.gErr : Tryd.prog.globalNamed "strconv.ErrRange" = some 2 := by kernel_rfl
theorem Cl.gErrType : (Tryd.prog.globals[2]?).map (·.type) = some 65 := by kernel_rfl
theorem Cl.gSyn : Tryd.prog.globalNamed "strconv.ErrSyntax" = some 1 := by kernel_rfl
theorem Cl.gSynType : (Tryd.prog.globals[1]?).map (·.type) = some 65 := by kernel_rfl
theorem Cl.cellsES : Tryd.prog.cellsOf 106 = 1 := by kernel_rfl
theorem Cl.cellsStr : Tryd.prog.cellsOf 9 = 1 := by kernel_rfl
theorem Cl.starES : "*" ++ "errors.errorString" = "*errors.errorString" := by decide
theorem Cl.rowES (u : TypeId) (h : Tryd.prog.typeName? 3 u = some "*errors.errorString") : u = 104 :=
  typeName_ptr_named (nm := "errors.errorString") (by rw [Cl.starES]; kernel_rfl) (by kernel_rfl) (by decide) u (by rw [Cl.starES]; exact h)

theorem powC_of_laid {W : World} (h : laidMetH Tryd.prog laid5c W) (hS : W.ShapedOpen Tryd.prog) : PowC W.heap.size W := by
  rw [MakeChecks.laidMetH_plain _ _ _ (by kernel_rfl)] at h
  have h2 : laidMet Tryd.prog (("internal/strconv.uint64pow10", Rows.laid_internal_strconv_uint64pow10) :: [("strconv.ErrRange", Rows.laid_strconv_ErrRange), ("strconv.ErrSyntax", Rows.laid_strconv_ErrSyntax)]) W := h.tail.tail
  have h3 := h2.tail
  have h4 := h3.tail
  rw [Cl.powData] at h2
  have ht := Lib.tabIs_of_head (rest := [("strconv.ErrRange", Rows.laid_strconv_ErrRange), ("strconv.ErrSyntax", Rows.laid_strconv_ErrSyntax)]) Cl.gPow Cl.gPowType Tryd.underlying96 Tryd.underlying70 Cl.cellsU64 Cl.cellsPow h2
  obtain ⟨a0, s0, hv0, _, _, _⟩ := laid_sentinel h3 Cl.gErr Cl.gErrType Tryd.underlying65 Cl.rowES Tryd.underlying104 Tryd.underlying106 rfl rfl Tryd.underlying9 Cl.cellsES Cl.cellsStr
  obtain ⟨a1, s1, hv1, _, _, _⟩ := laid_sentinel h4 Cl.gSyn Cl.gSynType Tryd.underlying65 Cl.rowES Tryd.underlying104 Tryd.underlying106 rfl rfl Tryd.underlying9 Cl.cellsES Cl.cellsStr
  have hc := World.var?_cell Cl.gErr hv0 0
  have hd := World.var?_cell Cl.gSyn hv1 0
  have hm : ∃ m : Int, W.cell? ⟨0, 0, none⟩ = some (.int .i64 m) := cell_of_shapedOpen_int (g := 0) (t := 3) (zero := #[.int .i64 0]) hS (of_decide_eq_true (by kernel_rfl)) (by kernel_rfl) rfl (by kernel_rfl) (by kernel_rfl) Tryd.underlying3
  refine ⟨ht, ?_, ⟨_, _, hc⟩, Cl.cell_lt hc, ⟨_, _, hd⟩, Cl.cell_lt hd, hm, ?_⟩
  · unfold Lib.TabIs World.var? at ht
    rw [Cl.gPow] at ht
    rcases Nat.lt_or_ge 3 W.heap.size with hlt | hge
    · exact hlt
    · simp [Array.getElem?_eq_none hge] at ht
  · obtain ⟨m, hm⟩ := hm
    exact Cl.cell_lt hm

theorem own : ownKnob Tryd.prog.godebug = none := by kernel_rfl
theorem laidOut : laidOutB Tryd.prog = true := by kernel_rfl

theorem door_met (os : Os) (args : Array Value) : laidMetH Tryd.prog laid5c ((World.doorLaid Tryd.prog 400 os).forCall (fun _ _ => 0) ⟨#[], args, []⟩).memory := by
  rw [MakeChecks.laidMetH_plain _ _ _ (by kernel_rfl)]
  exact laidMet_of_run' 8 (by kernel_rfl) (by kernel_rfl)

/-- A zone that came in. -/
theorem zone_of {H : Type} {enc : TypeId × Value → H} {W : World} {base : Nat} {v : Value} {d : DataW H} {p : List MemPlace} (hv : Value.okWide Tryd.prog W .any base 24 v)
    (h : DataW.Trod enc Tryd.prog W 0 (fun _ => true) true 24 v d p) :
    ∃ (A : Option Addr) (c : Nat) (zs : List Cl.Sh), v = .agg #[.slice A zs.length c] ∧ Zn W W.heap.size A zs ∧ zs.length ≤ maxLen := by
  obtain ⟨cs, rfl, hsz⟩ := okWide_struct Tryd.underlying24 hv
  have hC : Tryd.prog.cellsOf 24 = 1 := by kernel_rfl
  rw [hC] at hsz
  obtain ⟨v0, rfl⟩ : ∃ v0, cs = #[v0] := by
    match cs, hsz with
    | ⟨[v0]⟩, _ => exact ⟨v0, rfl⟩
  obtain ⟨fuel, hf⟩ := h
  obtain ⟨xs, k, hk, hxy, hlen, hxl, hg⟩ := DataW.trod_struct Tryd.underlying24 hf
  match xs, hxl with
  | [y0], _ =>
    have g0 := hg 0 _ rfl
    have c0 : Tryd.prog.cellsOf 22 = 1 := by kernel_rfl
    simp only [Value.cells, List.drop_zero, List.take_succ_cons, List.take_zero, c0, Array.toList] at g0
    rcases Go.Deep.open_slice_pairs Tryd.underlying22 Tryd.underlying40 (by kernel_rfl) rfl rfl (by kernel_rfl) (by kernel_rfl) g0 with ⟨h1, _⟩ | ⟨a, len, cap, m, n, V0, V1, D0, D1, P0, P1, h1, _, hl, hm, hmm, _, hx⟩
    · simp [c0] at h1
      subst h1
      exact ⟨none, 0, [], rfl, fun k hk => absurd hk (by simp), by simp [maxLen]⟩
    · simp [c0] at h1
      subst h1
      simp only [if_true] at hmm
      subst hmm
      have hlt : ∀ i, i < len → ∃ f o : Int, V0 i = .int .i64 f ∧ V1 i = .int .i64 o := fun i hi => by
        obtain ⟨_, _, e0, e1⟩ := hx i (by omega)
        obtain ⟨f, ef, _, _⟩ := DataW.trod_int Tryd.underlying3 e0
        obtain ⟨o, eo, _, _⟩ := DataW.trod_int Tryd.underlying3 e1
        simp at ef eo
        exact ⟨f, o, ef, eo⟩
      obtain ⟨F, hF⟩ := Go.Deep.choose_lt (α := Int × Int) (p := fun i (x : Int × Int) => V0 i = .int .i64 x.1 ∧ V1 i = .int .i64 x.2) (fun i hi => by obtain ⟨f, o, h⟩ := hlt i hi; exact ⟨(f, o), h⟩)
      refine ⟨some a, m, (List.range len).map F, by simp, fun k hk => ?_, by simp; omega⟩
      rw [List.length_map, List.length_range] at hk
      obtain ⟨e0, e1, _, _⟩ := hx k (by omega)
      have hg : ((List.range len).map F).getD k (0, 0) = F k := by
        rw [List.getD_eq_getElem?_getD, List.getElem?_map, List.getElem?_range hk]
        rfl
      rw [hg, ← (hF k hk).1, ← (hF k hk).2]
      refine ⟨a, rfl, ?_, e0, by rw [Go.Deep.add_add]; exact e1⟩
      have := Cl.cell_lt e0
      rwa [add_blockC] at this
end Go.Proofs.YtkkgefefbamcpaaDoor
