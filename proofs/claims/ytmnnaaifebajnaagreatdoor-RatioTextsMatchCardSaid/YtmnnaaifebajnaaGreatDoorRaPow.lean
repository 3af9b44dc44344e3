/- The listed variables of package ratio's rows: what the rows' condition gives, and a world that meets it. -/
import Derived.Test.YtmnnaaifebajnaaGreatDoorCards
import Derived.Test.YtmnnaaifebajnaaGreatDoorTie
import Derived.Test.YtmnnaaifebajnaaGreatDoorRaPa
import Derived.Stop.LaidErr
import Derived.MakeChecks
import Derived.LaidMore
import Derived.Lib.LaidTab
import Derived.Lib.SmallJoins
import Derived.ProofKit
import Derived.Deep.Strs
import Derived.Shelf.Vars
namespace Go.Proofs.YtmnnaaifebajnaaGreatDoor
open Go.ChangeShapes Go.WideShapes Go.ChangeAt Go.RowKit
set_option maxRecDepth 100000

def laid6 {H : Type} : List (String × DataW H) := [("math/bits.deBruijn32tab", Rows.laid_math_bits_deBruijn32tab), ("math/bits.deBruijn64tab", Rows.laid_math_bits_deBruijn64tab), ("internal/strconv.uint64pow10", Rows.laid_internal_strconv_uint64pow10), ("strconv.ErrRange", Rows.laid_strconv_ErrRange), ("strconv.ErrSyntax", Rows.laid_strconv_ErrSyntax), ("customhouse/ratio.zero", Rows.laid_customhouse_ratio_zero)]

theorem gPowType : (Tryz.prog.globals[2]?).map (·.type) = some 129 := by kernel_rfl
theorem cellsU64 : Tryz.prog.cellsOf 105 = 1 := by kernel_rfl
theorem cellsPow : Tryz.prog.cellsOf 129 = 20 := by kernel_rfl
theorem powData : (Rows.laid_internal_strconv_uint64pow10 : DataW Unit) = Lib.tabData .u64 Lib.pow10Tab := by rfl

theorem gErr : Tryz.prog.globalNamed "strconv.ErrRange" = some 4 := by kernel_rfl
theorem gErrType : (Tryz.prog.globals[4]?).map (·.type) = some 79 := by kernel_rfl
theorem cellsES : Tryz.prog.cellsOf 147 = 1 := by kernel_rfl
theorem cellsStr : Tryz.prog.cellsOf 9 = 1 := by kernel_rfl
theorem cellsBool : Tryz.prog.cellsOf 4 = 1 := by kernel_rfl
theorem starES : "*" ++ "errors.errorString" = "*errors.errorString" := by decide
theorem rowES (u : TypeId) (h : Tryz.prog.typeName? 3 u = some "*errors.errorString") : u = 145 :=
  typeName_ptr_named (nm := "errors.errorString") (by rw [starES]; kernel_rfl) (by kernel_rfl) (by decide) u (by rw [starES]; exact h)

theorem gZero : Tryz.prog.globalNamed "customhouse/ratio.zero" = some 0 := by kernel_rfl
theorem gZeroType : (Tryz.prog.globals[0]?).map (·.type) = some 23 := by kernel_rfl

theorem bytes_one {s : ByteArray} {c : UInt8} (h : s.data.toList = [c]) : s = ⟨#[c]⟩ := by
  apply ByteArray.ext
  apply Array.toList_inj.1
  rw [h]

theorem zr_of_laid {r : List (String × DataW Unit)} {W : World} (h : laidMet Tryz.prog (("customhouse/ratio.zero", Rows.laid_customhouse_ratio_zero) :: r) W) : Zr W.heap.size W := by
  obtain ⟨ps, ⟨g0, t0, cs0, f0, p0, q0, hg0, ht0, hv0, hd0, _, e0⟩, _, hrows⟩ := h
  obtain rfl := Option.some.inj (gZero.symm.trans hg0)
  obtain rfl := Option.some.inj (gZeroType.symm.trans ht0)
  obtain ⟨y0, y1, y2, n, hx, hl, h0, h1, h2⟩ := Go.Deep.trod_struct3 Tryz.underlying23 hd0
  simp only at h0 h1 h2
  rw [cellsBool] at h0
  rw [cellsStr] at h1 h2
  obtain ⟨b, k0, rfl⟩ := DataW.trod_bool Tryz.underlying4 h0
  obtain ⟨s, k1, rfl, _⟩ := DataW.trod_string Tryz.underlying9 h1
  obtain ⟨t, k2, rfl, _⟩ := DataW.trod_string Tryz.underlying9 h2
  unfold Rows.laid_customhouse_ratio_zero at hx
  simp only [Prod.mk.injEq, DataW.agg.injEq, List.cons.injEq, DataW.lit.injEq, Lit.bool.injEq, Lit.string.injEq, and_true] at hx
  obtain ⟨⟨rfl, hs, ht⟩, _⟩ := hx
  have es := bytes_one hs.symm
  have et := bytes_one ht.symm
  subst es et
  have c := fun i => World.var?_cell hg0 hv0 i
  have a0 : cs0[0]? = some (.bool false) := by
    have := congrArg (·[0]?) k0
    simpa using this
  have a1 : cs0[1]? = some (.string ⟨#[48]⟩) := by
    have := congrArg (·[0]?) k1
    simpa using this
  have a2 : cs0[2]? = some (.string ⟨#[49]⟩) := by
    have := congrArg (·[0]?) k2
    simpa using this
  have b0 := c 0
  have b1 := c 1
  have b2 := c 2
  rw [a0] at b0
  rw [a1] at b1
  rw [a2] at b2
  exact ⟨b0, b1, b2, cell_lt b0⟩

theorem pow_of_laid6 {W : World} (h : laidMet Tryz.prog laid6 W) : Pow W.heap.size W := by
  have h2 := h.tail.tail
  have h3 := h2.tail
  rw [powData] at h2
  have ht := Lib.tabIs_of_head (rest := [("strconv.ErrRange", Rows.laid_strconv_ErrRange), ("strconv.ErrSyntax", Rows.laid_strconv_ErrSyntax), ("customhouse/ratio.zero", Rows.laid_customhouse_ratio_zero)]) gPow gPowType Tryz.underlying129 Tryz.underlying105 cellsU64 cellsPow h2
  obtain ⟨a0, s0, hv0, _, _, _⟩ := laid_sentinel h3 gErr gErrType Tryz.underlying79 rowES Tryz.underlying145 Tryz.underlying147 rfl rfl Tryz.underlying9 cellsES cellsStr
  have hc := World.var?_cell gErr hv0 0
  refine ⟨ht, ?_, ⟨_, _, hc⟩, cell_lt hc⟩
  unfold Lib.TabIs World.var? at ht
  rw [gPow] at ht
  rcases Nat.lt_or_ge 2 W.heap.size with hlt | hge
  · exact hlt
  · simp [Array.getElem?_eq_none hge] at ht

theorem px_of_laid {W : World} (h : laidMetH Tryz.prog laid6 W) (hS : W.ShapedOpen Tryz.prog) : Px W.heap.size W := by
  rw [MakeChecks.laidMetH_plain _ _ _ (by kernel_rfl)] at h
  have hm : ∃ m : Int, W.cell? ⟨1, 0, none⟩ = some (.int .i64 m) := cell_of_shapedOpen_int (g := 1) (t := 3) (zero := #[.int .i64 0]) hS (of_decide_eq_true (by kernel_rfl)) (by kernel_rfl) rfl (by kernel_rfl) (by kernel_rfl) Tryz.underlying3
  refine ⟨⟨pow_of_laid6 h, zr_of_laid h.tail.tail.tail.tail.tail⟩, hm, ?_⟩
  obtain ⟨m, hm⟩ := hm
  exact cell_lt hm

theorem own : ownKnob Tryz.prog.godebug = none := by kernel_rfl
theorem laidOut : laidOutB Tryz.prog = true := by kernel_rfl

theorem door_met (os : Os) (args : Array Value) : laidMetH Tryz.prog laid6 ((World.doorLaid Tryz.prog 400 os).forCall (fun _ _ => 0) ⟨#[], args, []⟩).memory := by
  rw [MakeChecks.laidMetH_plain _ _ _ (by kernel_rfl)]
  exact laidMet_of_run' 8 (by kernel_rfl) (by kernel_rfl)
end Go.Proofs.YtmnnaaifebajnaaGreatDoor
