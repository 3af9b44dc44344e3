/-
  NARROWER THAN 'FOR EVERY INPUT', by the rows' own cells (each row's printed sentence says how): MoneyMatchesReference: laid · MoneySplitsMatch: laid · MoneyConverts: laid · MoneyRates: laid · MoneyRounds: laid · MoneySplits: laid · MoneyTexts: laid.
  DERIVED. THE GIVEN ROWS OF THIS SEAT. 7 by the template 'for every input the law returns true; each argument reads behind the call as it read before'; 0 by the template 'total and deterministic' (their statements: YtkbncdcphohmiaaGreatDoorTotals.lean).
  GIVEN WITH THE SEED: the statements are not yours to turn. If you find one false, say at which input.
  Laid BY PROGRAM, IN A SANDBOX (cutbox-rows.mjs): the forced cells as the released guide's own fill.sh prints them over the translation 4ec0596c4e6103b2… (all of the seat's roots in one cut). By AI agents, Wed Nov 11 2026. No macro, syntax, notation, axiom, sorry.
-/
import Derived.Test.YtkbncdcphohmiaaGreatDoorChecked
import GoSem.Claim
import GoSem.ClaimJoined
import GoSem.ClaimMapViews
import Derived.JoinedTies
import Derived.KernelRfl
namespace Go.Proofs.YtkbncdcphohmiaaGreatDoor
/- THE CELL 'sum', in the pinned program and in every row, IS THE sha256 OF THE DUMP (.gsa) THAT YtkbncdcphohmiaaGreatDoorProg.lean LOADS. Nothing in Lean hashes anything: it is a label: what it is worth is what the hold of that sum in a sandbox is worth. -/
noncomputable def Tryz.pinned : Pinned := { name := "ytkbncdcphohmiaagreatdoor", sum := "4ec0596c4e6103b27cb04529d33362d9a4d803721db496ecbe4835372dcc2632", checked := Tryz.checked }
namespace Rows
def none {H : Type} : Left H := { results := [], args := [] }

/- WHAT THE LISTED PACKAGE-LEVEL VARIABLES READ AS WHEN THE CALL BEGINS. Each datum BY PROGRAM (the guide's laid-datum.mjs) off the statement by which the dump's own 'gosem.cut.vars' lays the variable. In a bare row this is a premise. The card (YtkbncdcphohmiaaGreatDoorCards.lean) ties it to the program's text. -/
def laid_math_bits_deBruijn32tab {H : Type} : DataW H := .agg [.lit (.int .u8 0), .lit (.int .u8 1), .lit (.int .u8 28), .lit (.int .u8 2), .lit (.int .u8 29), .lit (.int .u8 14), .lit (.int .u8 24), .lit (.int .u8 3), .lit (.int .u8 30), .lit (.int .u8 22), .lit (.int .u8 20), .lit (.int .u8 15), .lit (.int .u8 25), .lit (.int .u8 17), .lit (.int .u8 4), .lit (.int .u8 8), .lit (.int .u8 31), .lit (.int .u8 27), .lit (.int .u8 13), .lit (.int .u8 23), .lit (.int .u8 21), .lit (.int .u8 19), .lit (.int .u8 16), .lit (.int .u8 7), .lit (.int .u8 26), .lit (.int .u8 12), .lit (.int .u8 18), .lit (.int .u8 6), .lit (.int .u8 11), .lit (.int .u8 5), .lit (.int .u8 10), .lit (.int .u8 9)]
def laid_math_bits_deBruijn64tab {H : Type} : DataW H := .agg [.lit (.int .u8 0), .lit (.int .u8 1), .lit (.int .u8 56), .lit (.int .u8 2), .lit (.int .u8 57), .lit (.int .u8 49), .lit (.int .u8 28), .lit (.int .u8 3), .lit (.int .u8 61), .lit (.int .u8 58), .lit (.int .u8 42), .lit (.int .u8 50), .lit (.int .u8 38), .lit (.int .u8 29), .lit (.int .u8 17), .lit (.int .u8 4), .lit (.int .u8 62), .lit (.int .u8 47), .lit (.int .u8 59), .lit (.int .u8 36), .lit (.int .u8 45), .lit (.int .u8 43), .lit (.int .u8 51), .lit (.int .u8 22), .lit (.int .u8 53), .lit (.int .u8 39), .lit (.int .u8 33), .lit (.int .u8 30), .lit (.int .u8 24), .lit (.int .u8 18), .lit (.int .u8 12), .lit (.int .u8 5), .lit (.int .u8 63), .lit (.int .u8 55), .lit (.int .u8 48), .lit (.int .u8 27), .lit (.int .u8 60), .lit (.int .u8 41), .lit (.int .u8 37), .lit (.int .u8 16), .lit (.int .u8 46), .lit (.int .u8 35), .lit (.int .u8 44), .lit (.int .u8 21), .lit (.int .u8 52), .lit (.int .u8 32), .lit (.int .u8 23), .lit (.int .u8 11), .lit (.int .u8 54), .lit (.int .u8 26), .lit (.int .u8 40), .lit (.int .u8 15), .lit (.int .u8 34), .lit (.int .u8 20), .lit (.int .u8 31), .lit (.int .u8 10), .lit (.int .u8 25), .lit (.int .u8 14), .lit (.int .u8 19), .lit (.int .u8 9), .lit (.int .u8 13), .lit (.int .u8 8), .lit (.int .u8 7), .lit (.int .u8 6)]
def laid_internal_strconv_uint64pow10 {H : Type} : DataW H := .agg [.lit (.int .u64 1), .lit (.int .u64 10), .lit (.int .u64 100), .lit (.int .u64 1000), .lit (.int .u64 10000), .lit (.int .u64 100000), .lit (.int .u64 1000000), .lit (.int .u64 10000000), .lit (.int .u64 100000000), .lit (.int .u64 1000000000), .lit (.int .u64 10000000000), .lit (.int .u64 100000000000), .lit (.int .u64 1000000000000), .lit (.int .u64 10000000000000), .lit (.int .u64 100000000000000), .lit (.int .u64 1000000000000000), .lit (.int .u64 10000000000000000), .lit (.int .u64 100000000000000000), .lit (.int .u64 1000000000000000000), .lit (.int .u64 10000000000000000000)]
def laid_strconv_ErrRange {H : Type} : DataW H := .iface "*errors.errorString" (.ptr (.agg [.lit (.string [118, 97, 108, 117, 101, 32, 111, 117, 116, 32, 111, 102, 32, 114, 97, 110, 103, 101])]))
def laid_strconv_ErrSyntax {H : Type} : DataW H := .iface "*errors.errorString" (.ptr (.agg [.lit (.string [105, 110, 118, 97, 108, 105, 100, 32, 115, 121, 110, 116, 97, 120])]))
def laid_customhouse_ratio_zero {H : Type} : DataW H := .agg [.lit (.bool false), .lit (.string [48]), .lit (.string [49])]
def laid_customhouse_money_half {H : Type} : DataW H := .agg [.lit (.bool false), .lit (.string [49]), .lit (.string [50])]

/-- 'customhouselaw08.MoneyMatchesReference': WHATEVER THE INPUT: true; the input reads as it did. -/
def moneyMatchesReferenceSpec : ChangeSpec := { name := "moneyMatchesReference", fn := fun _ => fun
  | [d1, d2, d3, d4, d5, d6] => { results := [.lit (.bool true)], args := [d1, d2, d3, d4, d5, d6] }
  | _ => none }
def moneyMatchesReferenceRow : OpenClaim := { program := "ytkbncdcphohmiaagreatdoor", sum := "4ec0596c4e6103b27cb04529d33362d9a4d803721db496ecbe4835372dcc2632", func := "customhouse/customhouselaw08.MoneyMatchesReference", spec := "moneyMatchesReference", inPlace := ["internal/abi.NoEscape", "internal/bytealg.IndexByteString", "internal/bytealg.IndexString"], unfollowed := true, recurses := true, named := ["internal/strconv.uint64pow10", "math/bits.deBruijn32tab", "math/bits.deBruijn64tab", "customhouse/money.half", "customhouse/ratio.zero", "strconv.ErrSyntax", "strconv.ErrRange", "internal/bytealg.MaxLen"], plainKeys := false, apart := false, laid := [("math/bits.deBruijn32tab", laid_math_bits_deBruijn32tab), ("math/bits.deBruijn64tab", laid_math_bits_deBruijn64tab), ("internal/strconv.uint64pow10", laid_internal_strconv_uint64pow10), ("strconv.ErrRange", laid_strconv_ErrRange), ("strconv.ErrSyntax", laid_strconv_ErrSyntax), ("customhouse/ratio.zero", laid_customhouse_ratio_zero), ("customhouse/money.half", laid_customhouse_money_half)] }
def MoneyMatchesReferenceSaid : Prop := moneyMatchesReferenceRow.holds Tryz.pinned (OpenSpec.ofChange moneyMatchesReferenceSpec)

/-- ITS FALSE NEIGHBOUR: 'it returns false'. Refute it at one input. -/
def moneyMatchesReferenceWrong : ChangeSpec := { name := "moneyMatchesReference", fn := fun _ => fun
  | [d1, d2, d3, d4, d5, d6] => { results := [.lit (.bool false)], args := [d1, d2, d3, d4, d5, d6] }
  | _ => none }
def MoneyMatchesReferenceWrongFalsely : Prop := moneyMatchesReferenceRow.holds Tryz.pinned (OpenSpec.ofChange moneyMatchesReferenceWrong)

/-- 'customhouselaw08.MoneySplitsMatch': WHATEVER THE INPUT: true; the input reads as it did. -/
def moneySplitsMatchSpec : ChangeSpec := { name := "moneySplitsMatch", fn := fun _ => fun
  | [d1, d2, d3] => { results := [.lit (.bool true)], args := [d1, d2, d3] }
  | _ => none }
def moneySplitsMatchRow : OpenClaim := { program := "ytkbncdcphohmiaagreatdoor", sum := "4ec0596c4e6103b27cb04529d33362d9a4d803721db496ecbe4835372dcc2632", func := "customhouse/customhouselaw08.MoneySplitsMatch", spec := "moneySplitsMatch", inPlace := ["internal/abi.NoEscape"], unfollowed := true, recurses := true, named := ["internal/strconv.uint64pow10", "math/bits.deBruijn32tab", "math/bits.deBruijn64tab", "customhouse/money.half", "customhouse/ratio.zero", "strconv.ErrSyntax", "strconv.ErrRange"], plainKeys := false, apart := false, laid := [("math/bits.deBruijn32tab", laid_math_bits_deBruijn32tab), ("math/bits.deBruijn64tab", laid_math_bits_deBruijn64tab), ("internal/strconv.uint64pow10", laid_internal_strconv_uint64pow10), ("strconv.ErrRange", laid_strconv_ErrRange), ("strconv.ErrSyntax", laid_strconv_ErrSyntax), ("customhouse/ratio.zero", laid_customhouse_ratio_zero), ("customhouse/money.half", laid_customhouse_money_half)] }
def MoneySplitsMatchSaid : Prop := moneySplitsMatchRow.holds Tryz.pinned (OpenSpec.ofChange moneySplitsMatchSpec)

/-- ITS FALSE NEIGHBOUR: 'it returns false'. Refute it at one input. -/
def moneySplitsMatchWrong : ChangeSpec := { name := "moneySplitsMatch", fn := fun _ => fun
  | [d1, d2, d3] => { results := [.lit (.bool false)], args := [d1, d2, d3] }
  | _ => none }
def MoneySplitsMatchWrongFalsely : Prop := moneySplitsMatchRow.holds Tryz.pinned (OpenSpec.ofChange moneySplitsMatchWrong)

/-- 'customhouselaw08.MoneyConverts': WHATEVER THE INPUT: true; the input reads as it did. -/
def moneyConvertsSpec : ChangeSpec := { name := "moneyConverts", fn := fun _ => fun
  | [d1, d2, d3, d4, d5, d6] => { results := [.lit (.bool true)], args := [d1, d2, d3, d4, d5, d6] }
  | _ => none }
def moneyConvertsRow : OpenClaim := { program := "ytkbncdcphohmiaagreatdoor", sum := "4ec0596c4e6103b27cb04529d33362d9a4d803721db496ecbe4835372dcc2632", func := "customhouse/customhouselaw08.MoneyConverts", spec := "moneyConverts", inPlace := ["internal/abi.NoEscape"], unfollowed := true, recurses := true, named := ["internal/strconv.uint64pow10", "math/bits.deBruijn32tab", "math/bits.deBruijn64tab", "customhouse/money.half", "customhouse/ratio.zero", "strconv.ErrSyntax", "strconv.ErrRange"], plainKeys := false, apart := false, laid := [("math/bits.deBruijn32tab", laid_math_bits_deBruijn32tab), ("math/bits.deBruijn64tab", laid_math_bits_deBruijn64tab), ("internal/strconv.uint64pow10", laid_internal_strconv_uint64pow10), ("strconv.ErrRange", laid_strconv_ErrRange), ("strconv.ErrSyntax", laid_strconv_ErrSyntax), ("customhouse/ratio.zero", laid_customhouse_ratio_zero), ("customhouse/money.half", laid_customhouse_money_half)] }
def MoneyConvertsSaid : Prop := moneyConvertsRow.holds Tryz.pinned (OpenSpec.ofChange moneyConvertsSpec)

/-- ITS FALSE NEIGHBOUR: 'it returns false'. Refute it at one input. -/
def moneyConvertsWrong : ChangeSpec := { name := "moneyConverts", fn := fun _ => fun
  | [d1, d2, d3, d4, d5, d6] => { results := [.lit (.bool false)], args := [d1, d2, d3, d4, d5, d6] }
  | _ => none }
def MoneyConvertsWrongFalsely : Prop := moneyConvertsRow.holds Tryz.pinned (OpenSpec.ofChange moneyConvertsWrong)

/-- 'customhouselaw08.MoneyRates': WHATEVER THE INPUT: true; the input reads as it did. -/
def moneyRatesSpec : ChangeSpec := { name := "moneyRates", fn := fun _ => fun
  | [d1, d2, d3, d4] => { results := [.lit (.bool true)], args := [d1, d2, d3, d4] }
  | _ => none }
def moneyRatesRow : OpenClaim := { program := "ytkbncdcphohmiaagreatdoor", sum := "4ec0596c4e6103b27cb04529d33362d9a4d803721db496ecbe4835372dcc2632", func := "customhouse/customhouselaw08.MoneyRates", spec := "moneyRates", inPlace := ["internal/abi.NoEscape"], unfollowed := true, recurses := true, named := ["internal/strconv.uint64pow10", "math/bits.deBruijn32tab", "math/bits.deBruijn64tab", "customhouse/money.half", "customhouse/ratio.zero", "strconv.ErrSyntax", "strconv.ErrRange"], plainKeys := false, apart := false, laid := [("math/bits.deBruijn32tab", laid_math_bits_deBruijn32tab), ("math/bits.deBruijn64tab", laid_math_bits_deBruijn64tab), ("internal/strconv.uint64pow10", laid_internal_strconv_uint64pow10), ("strconv.ErrRange", laid_strconv_ErrRange), ("strconv.ErrSyntax", laid_strconv_ErrSyntax), ("customhouse/ratio.zero", laid_customhouse_ratio_zero), ("customhouse/money.half", laid_customhouse_money_half)] }
def MoneyRatesSaid : Prop := moneyRatesRow.holds Tryz.pinned (OpenSpec.ofChange moneyRatesSpec)

/-- ITS FALSE NEIGHBOUR: 'it returns false'. Refute it at one input. -/
def moneyRatesWrong : ChangeSpec := { name := "moneyRates", fn := fun _ => fun
  | [d1, d2, d3, d4] => { results := [.lit (.bool false)], args := [d1, d2, d3, d4] }
  | _ => none }
def MoneyRatesWrongFalsely : Prop := moneyRatesRow.holds Tryz.pinned (OpenSpec.ofChange moneyRatesWrong)

/-- 'customhouselaw08.MoneyRounds': WHATEVER THE INPUT: true; the input reads as it did. -/
def moneyRoundsSpec : ChangeSpec := { name := "moneyRounds", fn := fun _ => fun
  | [d1, d2] => { results := [.lit (.bool true)], args := [d1, d2] }
  | _ => none }
def moneyRoundsRow : OpenClaim := { program := "ytkbncdcphohmiaagreatdoor", sum := "4ec0596c4e6103b27cb04529d33362d9a4d803721db496ecbe4835372dcc2632", func := "customhouse/customhouselaw08.MoneyRounds", spec := "moneyRounds", inPlace := ["internal/abi.NoEscape"], unfollowed := true, recurses := true, named := ["internal/strconv.uint64pow10", "math/bits.deBruijn32tab", "math/bits.deBruijn64tab", "customhouse/money.half", "customhouse/ratio.zero", "strconv.ErrSyntax", "strconv.ErrRange"], plainKeys := false, apart := false, laid := [("math/bits.deBruijn32tab", laid_math_bits_deBruijn32tab), ("math/bits.deBruijn64tab", laid_math_bits_deBruijn64tab), ("internal/strconv.uint64pow10", laid_internal_strconv_uint64pow10), ("strconv.ErrRange", laid_strconv_ErrRange), ("strconv.ErrSyntax", laid_strconv_ErrSyntax), ("customhouse/ratio.zero", laid_customhouse_ratio_zero), ("customhouse/money.half", laid_customhouse_money_half)] }
def MoneyRoundsSaid : Prop := moneyRoundsRow.holds Tryz.pinned (OpenSpec.ofChange moneyRoundsSpec)

/-- ITS FALSE NEIGHBOUR: 'it returns false'. Refute it at one input. -/
def moneyRoundsWrong : ChangeSpec := { name := "moneyRounds", fn := fun _ => fun
  | [d1, d2] => { results := [.lit (.bool false)], args := [d1, d2] }
  | _ => none }
def MoneyRoundsWrongFalsely : Prop := moneyRoundsRow.holds Tryz.pinned (OpenSpec.ofChange moneyRoundsWrong)

/-- 'customhouselaw08.MoneySplits': WHATEVER THE INPUT: true; the input reads as it did. -/
def moneySplitsSpec : ChangeSpec := { name := "moneySplits", fn := fun _ => fun
  | [d1, d2] => { results := [.lit (.bool true)], args := [d1, d2] }
  | _ => none }
def moneySplitsRow : OpenClaim := { program := "ytkbncdcphohmiaagreatdoor", sum := "4ec0596c4e6103b27cb04529d33362d9a4d803721db496ecbe4835372dcc2632", func := "customhouse/customhouselaw08.MoneySplits", spec := "moneySplits", inPlace := ["internal/abi.NoEscape"], unfollowed := true, recurses := true, named := ["internal/strconv.uint64pow10", "math/bits.deBruijn32tab", "math/bits.deBruijn64tab", "customhouse/money.half", "customhouse/ratio.zero", "strconv.ErrSyntax", "strconv.ErrRange"], plainKeys := false, apart := false, laid := [("math/bits.deBruijn32tab", laid_math_bits_deBruijn32tab), ("math/bits.deBruijn64tab", laid_math_bits_deBruijn64tab), ("internal/strconv.uint64pow10", laid_internal_strconv_uint64pow10), ("strconv.ErrRange", laid_strconv_ErrRange), ("strconv.ErrSyntax", laid_strconv_ErrSyntax), ("customhouse/ratio.zero", laid_customhouse_ratio_zero), ("customhouse/money.half", laid_customhouse_money_half)] }
def MoneySplitsSaid : Prop := moneySplitsRow.holds Tryz.pinned (OpenSpec.ofChange moneySplitsSpec)

/-- ITS FALSE NEIGHBOUR: 'it returns false'. Refute it at one input. -/
def moneySplitsWrong : ChangeSpec := { name := "moneySplits", fn := fun _ => fun
  | [d1, d2] => { results := [.lit (.bool false)], args := [d1, d2] }
  | _ => none }
def MoneySplitsWrongFalsely : Prop := moneySplitsRow.holds Tryz.pinned (OpenSpec.ofChange moneySplitsWrong)

/-- 'customhouselaw08.MoneyTexts': WHATEVER THE INPUT: true; the input reads as it did. -/
def moneyTextsSpec : ChangeSpec := { name := "moneyTexts", fn := fun _ => fun
  | [d1, d2] => { results := [.lit (.bool true)], args := [d1, d2] }
  | _ => none }
def moneyTextsRow : OpenClaim := { program := "ytkbncdcphohmiaagreatdoor", sum := "4ec0596c4e6103b27cb04529d33362d9a4d803721db496ecbe4835372dcc2632", func := "customhouse/customhouselaw08.MoneyTexts", spec := "moneyTexts", inPlace := ["internal/abi.NoEscape", "internal/bytealg.IndexByteString", "internal/bytealg.IndexString"], unfollowed := true, recurses := true, named := ["internal/strconv.uint64pow10", "math/bits.deBruijn32tab", "math/bits.deBruijn64tab", "customhouse/money.half", "customhouse/ratio.zero", "strconv.ErrSyntax", "strconv.ErrRange", "internal/bytealg.MaxLen"], plainKeys := false, apart := false, laid := [("math/bits.deBruijn32tab", laid_math_bits_deBruijn32tab), ("math/bits.deBruijn64tab", laid_math_bits_deBruijn64tab), ("internal/strconv.uint64pow10", laid_internal_strconv_uint64pow10), ("strconv.ErrRange", laid_strconv_ErrRange), ("strconv.ErrSyntax", laid_strconv_ErrSyntax), ("customhouse/ratio.zero", laid_customhouse_ratio_zero), ("customhouse/money.half", laid_customhouse_money_half)] }
def MoneyTextsSaid : Prop := moneyTextsRow.holds Tryz.pinned (OpenSpec.ofChange moneyTextsSpec)

/-- ITS FALSE NEIGHBOUR: 'it returns false'. Refute it at one input. -/
def moneyTextsWrong : ChangeSpec := { name := "moneyTexts", fn := fun _ => fun
  | [d1, d2] => { results := [.lit (.bool false)], args := [d1, d2] }
  | _ => none }
def MoneyTextsWrongFalsely : Prop := moneyTextsRow.holds Tryz.pinned (OpenSpec.ofChange moneyTextsWrong)

/- THE SECOND FORM. 'bulk': how many values and letters a reading holds, each counted each time it is reached (what is shared counts as often as it is met; a slice's spare places count too). A statement '..UptoSaid' is the law's where the arguments, and the package variables that the reading takes, are together of bulk at most 1048576: NARROWER than '..Said'. Prove '..Said' where nothing that the law and all that it calls make is longer than what came in: it says more and counts as full. Else prove '..UptoSaid'. A law counts once. -/
mutual
def uptoBulk {H : Type} : DataW H → Nat
  | .lit (.string bytes) => bytes.length + 1
  | .lit _ => 1
  | .nil => 1
  | .ptr d => uptoBulk d + 1
  | .slice elems spare => uptoBulkAll elems + uptoBulkAll spare + 1
  | .agg parts => uptoBulkAll parts + 1
  | .iface _ d => uptoBulk d + 1
  | .map entries => uptoBulkEntries entries + 1
  | .held _ => 1
def uptoBulkAll {H : Type} : List (DataW H) → Nat
  | [] => 0
  | d :: r => uptoBulk d + uptoBulkAll r
def uptoBulkEntries {H : Type} : List (Lit × DataW H) → Nat
  | [] => 0
  | x :: r => uptoBulkEntry x + uptoBulkEntries r
def uptoBulkEntry {H : Type} : Lit × DataW H → Nat
  | (.string bytes, d) => bytes.length + uptoBulk d + 1
  | (_, d) => uptoBulk d + 1
 end
def uptoSmall : (H : Type) → List (DataW H) → Bool := fun _ ds => decide (uptoBulkAll ds ≤ 1048576)
def OpenSpec.upto (s : _root_.Go.ChangeSpec) : _root_.Go.OpenSpec := { _root_.Go.OpenSpec.ofChange s with cond := some uptoSmall }

/-- 'customhouselaw08.MoneyMatchesReference', WHERE WHAT IT READS IS OF BULK AT MOST 1048576: true; the input reads as it did. -/
def moneyMatchesReferenceUptoRow : OpenClaim := { program := "ytkbncdcphohmiaagreatdoor", sum := "4ec0596c4e6103b27cb04529d33362d9a4d803721db496ecbe4835372dcc2632", func := "customhouse/customhouselaw08.MoneyMatchesReference", spec := "moneyMatchesReference", inPlace := ["internal/abi.NoEscape", "internal/bytealg.IndexByteString", "internal/bytealg.IndexString"], unfollowed := true, recurses := true, named := ["internal/strconv.uint64pow10", "math/bits.deBruijn32tab", "math/bits.deBruijn64tab", "customhouse/money.half", "customhouse/ratio.zero", "strconv.ErrSyntax", "strconv.ErrRange", "internal/bytealg.MaxLen"], plainKeys := false, apart := false, laid := [("math/bits.deBruijn32tab", laid_math_bits_deBruijn32tab), ("math/bits.deBruijn64tab", laid_math_bits_deBruijn64tab), ("internal/strconv.uint64pow10", laid_internal_strconv_uint64pow10), ("strconv.ErrRange", laid_strconv_ErrRange), ("strconv.ErrSyntax", laid_strconv_ErrSyntax), ("customhouse/ratio.zero", laid_customhouse_ratio_zero), ("customhouse/money.half", laid_customhouse_money_half)], narrowed := true }
def MoneyMatchesReferenceUptoSaid : Prop := moneyMatchesReferenceUptoRow.holds Tryz.pinned (OpenSpec.upto moneyMatchesReferenceSpec)

/-- 'customhouselaw08.MoneySplitsMatch', WHERE WHAT IT READS IS OF BULK AT MOST 1048576: true; the input reads as it did. -/
def moneySplitsMatchUptoRow : OpenClaim := { program := "ytkbncdcphohmiaagreatdoor", sum := "4ec0596c4e6103b27cb04529d33362d9a4d803721db496ecbe4835372dcc2632", func := "customhouse/customhouselaw08.MoneySplitsMatch", spec := "moneySplitsMatch", inPlace := ["internal/abi.NoEscape"], unfollowed := true, recurses := true, named := ["internal/strconv.uint64pow10", "math/bits.deBruijn32tab", "math/bits.deBruijn64tab", "customhouse/money.half", "customhouse/ratio.zero", "strconv.ErrSyntax", "strconv.ErrRange"], plainKeys := false, apart := false, laid := [("math/bits.deBruijn32tab", laid_math_bits_deBruijn32tab), ("math/bits.deBruijn64tab", laid_math_bits_deBruijn64tab), ("internal/strconv.uint64pow10", laid_internal_strconv_uint64pow10), ("strconv.ErrRange", laid_strconv_ErrRange), ("strconv.ErrSyntax", laid_strconv_ErrSyntax), ("customhouse/ratio.zero", laid_customhouse_ratio_zero), ("customhouse/money.half", laid_customhouse_money_half)], narrowed := true }
def MoneySplitsMatchUptoSaid : Prop := moneySplitsMatchUptoRow.holds Tryz.pinned (OpenSpec.upto moneySplitsMatchSpec)

/-- 'customhouselaw08.MoneyConverts', WHERE WHAT IT READS IS OF BULK AT MOST 1048576: true; the input reads as it did. -/
def moneyConvertsUptoRow : OpenClaim := { program := "ytkbncdcphohmiaagreatdoor", sum := "4ec0596c4e6103b27cb04529d33362d9a4d803721db496ecbe4835372dcc2632", func := "customhouse/customhouselaw08.MoneyConverts", spec := "moneyConverts", inPlace := ["internal/abi.NoEscape"], unfollowed := true, recurses := true, named := ["internal/strconv.uint64pow10", "math/bits.deBruijn32tab", "math/bits.deBruijn64tab", "customhouse/money.half", "customhouse/ratio.zero", "strconv.ErrSyntax", "strconv.ErrRange"], plainKeys := false, apart := false, laid := [("math/bits.deBruijn32tab", laid_math_bits_deBruijn32tab), ("math/bits.deBruijn64tab", laid_math_bits_deBruijn64tab), ("internal/strconv.uint64pow10", laid_internal_strconv_uint64pow10), ("strconv.ErrRange", laid_strconv_ErrRange), ("strconv.ErrSyntax", laid_strconv_ErrSyntax), ("customhouse/ratio.zero", laid_customhouse_ratio_zero), ("customhouse/money.half", laid_customhouse_money_half)], narrowed := true }
def MoneyConvertsUptoSaid : Prop := moneyConvertsUptoRow.holds Tryz.pinned (OpenSpec.upto moneyConvertsSpec)

/-- 'customhouselaw08.MoneyRates', WHERE WHAT IT READS IS OF BULK AT MOST 1048576: true; the input reads as it did. -/
def moneyRatesUptoRow : OpenClaim := { program := "ytkbncdcphohmiaagreatdoor", sum := "4ec0596c4e6103b27cb04529d33362d9a4d803721db496ecbe4835372dcc2632", func := "customhouse/customhouselaw08.MoneyRates", spec := "moneyRates", inPlace := ["internal/abi.NoEscape"], unfollowed := true, recurses := true, named := ["internal/strconv.uint64pow10", "math/bits.deBruijn32tab", "math/bits.deBruijn64tab", "customhouse/money.half", "customhouse/ratio.zero", "strconv.ErrSyntax", "strconv.ErrRange"], plainKeys := false, apart := false, laid := [("math/bits.deBruijn32tab", laid_math_bits_deBruijn32tab), ("math/bits.deBruijn64tab", laid_math_bits_deBruijn64tab), ("internal/strconv.uint64pow10", laid_internal_strconv_uint64pow10), ("strconv.ErrRange", laid_strconv_ErrRange), ("strconv.ErrSyntax", laid_strconv_ErrSyntax), ("customhouse/ratio.zero", laid_customhouse_ratio_zero), ("customhouse/money.half", laid_customhouse_money_half)], narrowed := true }
def MoneyRatesUptoSaid : Prop := moneyRatesUptoRow.holds Tryz.pinned (OpenSpec.upto moneyRatesSpec)

/-- 'customhouselaw08.MoneyRounds', WHERE WHAT IT READS IS OF BULK AT MOST 1048576: true; the input reads as it did. -/
def moneyRoundsUptoRow : OpenClaim := { program := "ytkbncdcphohmiaagreatdoor", sum := "4ec0596c4e6103b27cb04529d33362d9a4d803721db496ecbe4835372dcc2632", func := "customhouse/customhouselaw08.MoneyRounds", spec := "moneyRounds", inPlace := ["internal/abi.NoEscape"], unfollowed := true, recurses := true, named := ["internal/strconv.uint64pow10", "math/bits.deBruijn32tab", "math/bits.deBruijn64tab", "customhouse/money.half", "customhouse/ratio.zero", "strconv.ErrSyntax", "strconv.ErrRange"], plainKeys := false, apart := false, laid := [("math/bits.deBruijn32tab", laid_math_bits_deBruijn32tab), ("math/bits.deBruijn64tab", laid_math_bits_deBruijn64tab), ("internal/strconv.uint64pow10", laid_internal_strconv_uint64pow10), ("strconv.ErrRange", laid_strconv_ErrRange), ("strconv.ErrSyntax", laid_strconv_ErrSyntax), ("customhouse/ratio.zero", laid_customhouse_ratio_zero), ("customhouse/money.half", laid_customhouse_money_half)], narrowed := true }
def MoneyRoundsUptoSaid : Prop := moneyRoundsUptoRow.holds Tryz.pinned (OpenSpec.upto moneyRoundsSpec)

/-- 'customhouselaw08.MoneySplits', WHERE WHAT IT READS IS OF BULK AT MOST 1048576: true; the input reads as it did. -/
def moneySplitsUptoRow : OpenClaim := { program := "ytkbncdcphohmiaagreatdoor", sum := "4ec0596c4e6103b27cb04529d33362d9a4d803721db496ecbe4835372dcc2632", func := "customhouse/customhouselaw08.MoneySplits", spec := "moneySplits", inPlace := ["internal/abi.NoEscape"], unfollowed := true, recurses := true, named := ["internal/strconv.uint64pow10", "math/bits.deBruijn32tab", "math/bits.deBruijn64tab", "customhouse/money.half", "customhouse/ratio.zero", "strconv.ErrSyntax", "strconv.ErrRange"], plainKeys := false, apart := false, laid := [("math/bits.deBruijn32tab", laid_math_bits_deBruijn32tab), ("math/bits.deBruijn64tab", laid_math_bits_deBruijn64tab), ("internal/strconv.uint64pow10", laid_internal_strconv_uint64pow10), ("strconv.ErrRange", laid_strconv_ErrRange), ("strconv.ErrSyntax", laid_strconv_ErrSyntax), ("customhouse/ratio.zero", laid_customhouse_ratio_zero), ("customhouse/money.half", laid_customhouse_money_half)], narrowed := true }
def MoneySplitsUptoSaid : Prop := moneySplitsUptoRow.holds Tryz.pinned (OpenSpec.upto moneySplitsSpec)

/-- 'customhouselaw08.MoneyTexts', WHERE WHAT IT READS IS OF BULK AT MOST 1048576: true; the input reads as it did. -/
def moneyTextsUptoRow : OpenClaim := { program := "ytkbncdcphohmiaagreatdoor", sum := "4ec0596c4e6103b27cb04529d33362d9a4d803721db496ecbe4835372dcc2632", func := "customhouse/customhouselaw08.MoneyTexts", spec := "moneyTexts", inPlace := ["internal/abi.NoEscape", "internal/bytealg.IndexByteString", "internal/bytealg.IndexString"], unfollowed := true, recurses := true, named := ["internal/strconv.uint64pow10", "math/bits.deBruijn32tab", "math/bits.deBruijn64tab", "customhouse/money.half", "customhouse/ratio.zero", "strconv.ErrSyntax", "strconv.ErrRange", "internal/bytealg.MaxLen"], plainKeys := false, apart := false, laid := [("math/bits.deBruijn32tab", laid_math_bits_deBruijn32tab), ("math/bits.deBruijn64tab", laid_math_bits_deBruijn64tab), ("internal/strconv.uint64pow10", laid_internal_strconv_uint64pow10), ("strconv.ErrRange", laid_strconv_ErrRange), ("strconv.ErrSyntax", laid_strconv_ErrSyntax), ("customhouse/ratio.zero", laid_customhouse_ratio_zero), ("customhouse/money.half", laid_customhouse_money_half)], narrowed := true }
def MoneyTextsUptoSaid : Prop := moneyTextsUptoRow.holds Tryz.pinned (OpenSpec.upto moneyTextsSpec)

end Rows
end Go.Proofs.YtkbncdcphohmiaaGreatDoor
