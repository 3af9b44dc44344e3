/- The listed variables of package money's rows: what the rows' condition gives, and a world that meets it; rates, amounts and lists of integers that came in, opened. -/
import Derived.Test.YtkbncdcphohmiaaGreatDoorCards
import Derived.Test.YtkbncdcphohmiaaGreatDoorTie
import Derived.Test.YtkbncdcphohmiaaGreatDoorMoV
import Derived.ChangeSlices
import Derived.Deep.Slices
import Derived.Deep.SlicePairs
import Derived.Stop.LaidErr
import Derived.MakeChecks
import Derived.LaidMore
import Derived.Lib.LaidTab
import Derived.Lib.SmallJoins
import Derived.ProofKit
import Derived.Deep.Strs
import Derived.Shelf.Vars
namespace Go.Proofs.YtkbncdcphohmiaaGreatDoor
open Go.ChangeShapes Go.WideShapes Go.ChangeAt Go.RowKit
set_option maxRecDepth 100000

def laid7 {H : Type} : List (String × DataW H) := [("math/bits.deBruijn32tab", Rows.laid_math_bits_deBruijn32tab), ("math/bits.deBruijn64tab", Rows.laid_math_bits_deBruijn64tab), ("internal/strconv.uint64pow10", Rows.laid_internal_strconv_uint64pow10), ("strconv.ErrRange", Rows.laid_strconv_ErrRange), ("strconv.ErrSyntax", Rows.laid_strconv_ErrSyntax), ("customhouse/ratio.zero", Rows.laid_customhouse_ratio_zero), ("customhouse/money.half", Rows.laid_customhouse_money_half)]

theorem gPowType : (Tryz.prog.globals[5]?).map (·.type) = some 161 := by kernel_rfl
theorem cellsU64 : Tryz.prog.cellsOf 135 = 1 := by kernel_rfl
theorem cellsPow : Tryz.prog.cellsOf 161 = 20 := by kernel_rfl
theorem powData : (Rows.laid_internal_strconv_uint64pow10 : DataW Unit) = Lib.tabData .u64 Lib.pow10Tab := by rfl

theorem gErr : Tryz.prog.globalNamed "strconv.ErrRange" = some 4 := by kernel_rfl
theorem gErrType : (Tryz.prog.globals[4]?).map (·.type) = some 72 := by kernel_rfl
theorem cellsES : Tryz.prog.cellsOf 171 = 1 := by kernel_rfl
theorem cellsStr : Tryz.prog.cellsOf 9 = 1 := by kernel_rfl
theorem cellsBool : Tryz.prog.cellsOf 4 = 1 := by kernel_rfl
theorem starES : "*" ++ "errors.errorString" = "*errors.errorString" := by decide
theorem rowES (u : TypeId) (h : Tryz.prog.typeName? 3 u = some "*errors.errorString") : u = 169 :=
  typeName_ptr_named (nm := "errors.errorString") (by rw [starES]; kernel_rfl) (by kernel_rfl) (by decide) u (by rw [starES]; exact h)

theorem gZero : Tryz.prog.globalNamed "customhouse/ratio.zero" = some 1 := by kernel_rfl
theorem gZeroType : (Tryz.prog.globals[1]?).map (·.type) = some 32 := by kernel_rfl

theorem bytes_one {s : ByteArray} {c : UInt8} (h : s.data.toList = [c]) : s = ⟨#[c]⟩ := by
  apply ByteArray.ext
  apply Array.toList_inj.1
  rw [h]

theorem zr_of_laid {r : List (String × DataW Unit)} {W : World} (h : laidMet Tryz.prog (("customhouse/ratio.zero", Rows.laid_customhouse_ratio_zero) :: r) W) : Zr W.heap.size W := by
  obtain ⟨ps, ⟨g0, t0, cs0, f0, p0, q0, hg0, ht0, hv0, hd0, _, e0⟩, _, hrows⟩ := h
  obtain rfl := Option.some.inj (gZero.symm.trans hg0)
  obtain rfl := Option.some.inj (gZeroType.symm.trans ht0)
  obtain ⟨y0, y1, y2, n, hx, hl, h0, h1, h2⟩ := Go.Deep.trod_struct3 Tryz.underlying32 hd0
  simp only at h0 h1 h2
  rw [cellsBool] at h0
  rw [cellsStr] at h1 h2
  obtain ⟨b, k0, rfl⟩ := DataW.trod_bool Tryz.underlying4 h0
  obtain ⟨s, k1, rfl, _⟩ := DataW.trod_string Tryz.underlying9 h1
  obtain ⟨t, k2, rfl, _⟩ := DataW.trod_string Tryz.underlying9 h2
  unfold Rows.laid_customhouse_ratio_zero at hx
  simp only [Prod.mk.injEq, DataW.agg.injEq, List.cons.injEq, DataW.lit.injEq, Lit.bool.injEq, Lit.string.injEq, and_true] at hx
  obtain ⟨⟨rfl, hs, ht⟩, _⟩ := hx
  have es := bytes_one hs.symm
  have et := bytes_one ht.symm
  subst es et
  have c := fun i => World.var?_cell hg0 hv0 i
  have a0 : cs0[0]? = some (.bool false) := by
    have := congrArg (·[0]?) k0
    simpa using this
  have a1 : cs0[1]? = some (.string ⟨#[48]⟩) := by
    have := congrArg (·[0]?) k1
    simpa using this
  have a2 : cs0[2]? = some (.string ⟨#[49]⟩) := by
    have := congrArg (·[0]?) k2
    simpa using this
  have b0 := c 0
  have b1 := c 1
  have b2 := c 2
  rw [a0] at b0
  rw [a1] at b1
  rw [a2] at b2
  exact ⟨b0, b1, b2, cell_lt b0⟩

theorem gHalf : Tryz.prog.globalNamed "customhouse/money.half" = some 0 := by kernel_rfl
theorem gHalfType : (Tryz.prog.globals[0]?).map (·.type) = some 32 := by kernel_rfl
theorem gSyn : Tryz.prog.globalNamed "strconv.ErrSyntax" = some 3 := by kernel_rfl
theorem gSynType : (Tryz.prog.globals[3]?).map (·.type) = some 72 := by kernel_rfl
theorem hf_of_laid {r : List (String × DataW Unit)} {W : World} (h : laidMet Tryz.prog (("customhouse/money.half", Rows.laid_customhouse_money_half) :: r) W) : Hf W.heap.size W := by
  obtain ⟨ps, ⟨g0, t0, cs0, f0, p0, q0, hg0, ht0, hv0, hd0, _, e0⟩, _, hrows⟩ := h
  obtain rfl := Option.some.inj (gHalf.symm.trans hg0)
  obtain rfl := Option.some.inj (gHalfType.symm.trans ht0)
  obtain ⟨y0, y1, y2, n, hx, hl, h0, h1, h2⟩ := Go.Deep.trod_struct3 Tryz.underlying32 hd0
  simp only at h0 h1 h2
  rw [cellsBool] at h0
  rw [cellsStr] at h1 h2
  obtain ⟨b, k0, rfl⟩ := DataW.trod_bool Tryz.underlying4 h0
  obtain ⟨s, k1, rfl, _⟩ := DataW.trod_string Tryz.underlying9 h1
  obtain ⟨t, k2, rfl, _⟩ := DataW.trod_string Tryz.underlying9 h2
  unfold Rows.laid_customhouse_money_half at hx
  simp only [Prod.mk.injEq, DataW.agg.injEq, List.cons.injEq, DataW.lit.injEq, Lit.bool.injEq, Lit.string.injEq, and_true] at hx
  obtain ⟨⟨rfl, hs, ht⟩, _⟩ := hx
  have es := bytes_one hs.symm
  have et := bytes_one ht.symm
  subst es et
  have c := fun i => World.var?_cell hg0 hv0 i
  have a0 : cs0[0]? = some (.bool false) := by
    have := congrArg (·[0]?) k0
    simpa using this
  have a1 : cs0[1]? = some (.string ⟨#[49]⟩) := by
    have := congrArg (·[0]?) k1
    simpa using this
  have a2 : cs0[2]? = some (.string ⟨#[50]⟩) := by
    have := congrArg (·[0]?) k2
    simpa using this
  have b0 := c 0
  have b1 := c 1
  have b2 := c 2
  rw [a0] at b0
  rw [a1] at b1
  rw [a2] at b2
  exact ⟨b0, b1, b2, cell_lt b0⟩

theorem pow_of_laid7 {W : World} (h : laidMet Tryz.prog laid7 W) : Pow W.heap.size W := by
  have h2 := h.tail.tail
  have h3 := h2.tail
  rw [powData] at h2
  have ht := Lib.tabIs_of_head (rest := [("strconv.ErrRange", Rows.laid_strconv_ErrRange), ("strconv.ErrSyntax", Rows.laid_strconv_ErrSyntax), ("customhouse/ratio.zero", Rows.laid_customhouse_ratio_zero), ("customhouse/money.half", Rows.laid_customhouse_money_half)]) gPow gPowType Tryz.underlying161 Tryz.underlying135 cellsU64 cellsPow h2
  obtain ⟨a0, s0, hv0, _, _, _⟩ := laid_sentinel h3 gErr gErrType Tryz.underlying72 rowES Tryz.underlying169 Tryz.underlying171 rfl rfl Tryz.underlying9 cellsES cellsStr
  have hc := World.var?_cell gErr hv0 0
  refine ⟨ht, ?_, ⟨_, _, hc⟩, cell_lt hc⟩
  unfold Lib.TabIs World.var? at ht
  rw [gPow] at ht
  rcases Nat.lt_or_ge 5 W.heap.size with hlt | hge
  · exact hlt
  · simp [Array.getElem?_eq_none hge] at ht

theorem pa_of_laid {W : World} (h : laidMetH Tryz.prog laid7 W) (hS : W.ShapedOpen Tryz.prog) : Mo.Pa W.heap.size W := by
  rw [MakeChecks.laidMetH_plain _ _ _ (by kernel_rfl)] at h
  have hm : ∃ m : Int, W.cell? ⟨2, 0, none⟩ = some (.int .i64 m) := cell_of_shapedOpen_int (g := 2) (t := 3) (zero := #[.int .i64 0]) hS (of_decide_eq_true (by kernel_rfl)) (by kernel_rfl) rfl (by kernel_rfl) (by kernel_rfl) Tryz.underlying3
  have h4 : laidMet Tryz.prog (("strconv.ErrSyntax", Rows.laid_strconv_ErrSyntax) :: [("customhouse/ratio.zero", Rows.laid_customhouse_ratio_zero), ("customhouse/money.half", Rows.laid_customhouse_money_half)]) W := h.tail.tail.tail.tail
  obtain ⟨a1, s1, hv1, _, _, _⟩ := laid_sentinel h4 gSyn gSynType Tryz.underlying72 rowES Tryz.underlying169 Tryz.underlying171 rfl rfl Tryz.underlying9 cellsES cellsStr
  have hd := World.var?_cell gSyn hv1 0
  refine ⟨⟨⟨pow_of_laid7 h, zr_of_laid h.tail.tail.tail.tail.tail⟩, hf_of_laid h.tail.tail.tail.tail.tail.tail⟩, ⟨hm, ?_⟩, ⟨_, _, hd⟩, cell_lt hd⟩
  obtain ⟨m, hm⟩ := hm
  exact cell_lt hm

theorem own : ownKnob Tryz.prog.godebug = none := by kernel_rfl
theorem laidOut : laidOutB Tryz.prog = true := by kernel_rfl

theorem door_met (os : Os) (args : Array Value) : laidMetH Tryz.prog laid7 ((World.doorLaid Tryz.prog 400 os).forCall (fun _ _ => 0) ⟨#[], args, []⟩).memory := by
  rw [MakeChecks.laidMetH_plain _ _ _ (by kernel_rfl)]
  exact laidMet_of_run' 8 (by kernel_rfl) (by kernel_rfl)

/-- Integers that came in. -/
theorem Mo.ints_of {H : Type} {enc : TypeId × Value → H} {W : World} {base : Nat} {v : Value} {d : DataW H} {p : List MemPlace} (hv : Value.okWide Tryz.prog W .any base 41 v)
    (h : DataW.Trod enc Tryz.prog W 0 (fun _ => true) true 41 v d p) :
    ∃ (A : Option Addr) (c : Nat) (l : List Int), v = .slice A l.length c ∧ Mo.Zs W W.heap.size A l ∧ l.length ≤ maxLen := by
  obtain ⟨A, n, c, rfl⟩ := okWide_slice Tryz.underlying41 hv
  obtain ⟨fuel, hf⟩ := h
  rcases open_ints Tryz.underlying41 Tryz.underlying3 (by kernel_rfl) hf with ⟨h1, _⟩ | ⟨a, len, cap, zs, h1, _, hl, hm, hz, _, hc, _⟩
  · simp [Value.cells] at h1
    obtain ⟨rfl, rfl, rfl⟩ := h1
    exact ⟨none, 0, [], rfl, fun k hk => absurd hk (by simp), by simp [maxLen]⟩
  · simp [Value.cells] at h1
    obtain ⟨rfl, rfl, rfl⟩ := h1
    simp only [if_true] at hz
    have e : (zs.take n).length = n := by rw [List.length_take]; omega
    refine ⟨some a, c, zs.take n, by rw [e], fun k hk => ?_, by rw [e]; omega⟩
    rw [e] at hk
    have h2 := hc k (by omega)
    refine ⟨a, rfl, ?_, ?_⟩
    · have := cell_lt h2
      rwa [Mo.add_block] at this
    · rw [h2, List.getD_eq_getElem?_getD, List.getD_eq_getElem?_getD, List.getElem?_take, if_pos hk]
/-- An amount that came in. -/
theorem Mo.amount_of {H : Type} {enc : TypeId × Value → H} {W : World} {base : Nat} {v : Value} {d : DataW H} {p : List MemPlace} (hv : Value.okWide Tryz.prog W .any base 24 v)
    (h : DataW.Trod enc Tryz.prog W 0 (fun _ => true) true 24 v d p) :
    ∃ (c : ByteArray) (u : Int), v = .agg #[.string c, .int .i64 u] ∧ c.size ≤ maxLen ∧ (Go.Lit.int .i64 u).wf = true := by
  obtain ⟨cs, rfl, hsz⟩ := okWide_struct Tryz.underlying24 hv
  have hC : Tryz.prog.cellsOf 24 = 2 := by kernel_rfl
  rw [hC] at hsz
  obtain ⟨v0, v1, rfl⟩ : ∃ v0 v1, cs = #[v0, v1] := by
    match cs, hsz with
    | ⟨[v0, v1]⟩, _ => exact ⟨v0, v1, rfl⟩
  obtain ⟨fuel, hf⟩ := h
  obtain ⟨xs, k, hk, hxy, hlen, hxl, hg⟩ := DataW.trod_struct Tryz.underlying24 hf
  match xs, hxl with
  | [y0, y1], _ =>
    have g0 := hg 0 _ rfl
    have g1 := hg 1 _ rfl
    have c0 : Tryz.prog.cellsOf 9 = 1 := by kernel_rfl
    have c1 : Tryz.prog.cellsOf 3 = 1 := by kernel_rfl
    simp [Value.cells, c0, c1] at g0 g1
    obtain ⟨s, e0, _, ws⟩ := DataW.trod_string Tryz.underlying9 g0
    obtain ⟨n, e1, _, wi⟩ := DataW.trod_int Tryz.underlying3 g1
    simp at e0 e1
    subst e0 e1
    exact ⟨s, n, rfl, ws, wi⟩
instance : Inhabited Mo.Rt := ⟨Mo.Rt.zero⟩
/-- Rates that came in. -/
theorem Mo.rates_of {H : Type} {enc : TypeId × Value → H} {W : World} {base : Nat} {v : Value} {d : DataW H} {p : List MemPlace} (hv : Value.okWide Tryz.prog W .any base 22 v)
    (h : DataW.Trod enc Tryz.prog W 0 (fun _ => true) true 22 v d p) :
    ∃ (A : Option Addr) (c : Nat) (l : List Mo.Rt), v = .slice A l.length c ∧ Mo.Rts W W.heap.size A l ∧ Mo.AllGood l ∧ l.length ≤ maxLen := by
  obtain ⟨A, n, c, rfl⟩ := okWide_slice Tryz.underlying22 hv
  obtain ⟨fuel, hf⟩ := h
  rcases Go.Deep.open_slice Tryz.underlying22 hf with ⟨h1, _⟩ | ⟨a, len, cap, m, n', D, Pl, h1, _, hl, hm, hmm, _, hx⟩
  · simp [Value.cells] at h1
    obtain ⟨rfl, rfl, rfl⟩ := h1
    exact ⟨none, 0, [], rfl, fun k hk => absurd hk (by simp), (fun x hx => by cases hx), by simp [maxLen]⟩
  · simp [Value.cells] at h1
    obtain ⟨rfl, rfl, rfl⟩ := h1
    simp only [if_true] at hmm
    subst hmm
    have hC : Tryz.prog.cellsOf 27 = 4 := by kernel_rfl
    have c0 : Tryz.prog.cellsOf 9 = 1 := by kernel_rfl
    have c1 : Tryz.prog.cellsOf 3 = 1 := by kernel_rfl
    have each : ∀ i, i < n → ∃ x : Mo.Rt, x.Good ∧ W.cell? (a.add (i * 4)) = some (.string x.cur) ∧ W.cell? ((a.add (i * 4)).add 1) = some (.int .i64 x.day) ∧ W.cell? ((a.add (i * 4)).add 2) = some (.int .i64 x.num) ∧ W.cell? ((a.add (i * 4)).add 3) = some (.int .i64 x.den) := fun i hi => by
      obtain ⟨cs', h1, h2⟩ := hx i (by omega)
      rw [hC] at h1
      obtain ⟨_, hlen, hcell⟩ := World.cells?_some h1
      obtain ⟨xs, k, hk, hxy, _, hxl, hf⟩ := DataW.trod_struct Tryz.underlying27 h2
      match xs, hxl, cs', hlen with
      | [y0, y1, y2, y3], _, [v0, v1, v2, v3], _ =>
        have g0 := hf 0 _ rfl
        have g1 := hf 1 _ rfl
        have g2 := hf 2 _ rfl
        have g3 := hf 3 _ rfl
        simp [c0, c1] at g0 g1 g2 g3
        obtain ⟨s, e0, _, ws⟩ := DataW.trod_string Tryz.underlying9 g0
        obtain ⟨d, e1, _, w1⟩ := DataW.trod_int Tryz.underlying3 g1
        obtain ⟨p, e2, _, w2⟩ := DataW.trod_int Tryz.underlying3 g2
        obtain ⟨q, e3, _, w3⟩ := DataW.trod_int Tryz.underlying3 g3
        simp at e0 e1 e2 e3
        subst e0 e1 e2 e3
        have b0 := hcell 0 (by omega)
        have b1 := hcell 1 (by omega)
        have b2 := hcell 2 (by omega)
        have b3 := hcell 3 (by omega)
        refine ⟨⟨s, d, p, q⟩, ⟨ws, w1⟩, ?_, b1, b2, b3⟩
        rw [Go.Deep.add_add] at b0
        simpa using b0
    obtain ⟨F, hF⟩ := Go.Deep.choose_lt each
    refine ⟨some a, m, (List.range n).map F, by simp, fun k hk => ?_, fun x hx => ?_, by simp; omega⟩
    · rw [List.length_map, List.length_range] at hk
      obtain ⟨_, f0, f1, f2, f3⟩ := hF k hk
      simp only [List.getElem_map, List.getElem_range]
      refine ⟨a, rfl, ?_, f0, f1, f2, f3⟩
      have := cell_lt f0
      rwa [Mo.add_block] at this
    · obtain ⟨k, hk, rfl⟩ := List.mem_map.1 hx
      exact (hF k (List.mem_range.1 hk)).1
end Go.Proofs.YtkbncdcphohmiaaGreatDoor
