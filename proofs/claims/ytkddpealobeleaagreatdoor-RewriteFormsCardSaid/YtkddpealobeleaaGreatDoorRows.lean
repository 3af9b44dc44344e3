/-
  NARROWER THAN 'FOR EVERY INPUT', by the rows' own cells (each row's printed sentence says how): RewriteMatchesReference: laid · RewriteTextsAsReference: laid · RewriteFinds: laid · RewriteForms: laid · RewriteMore: laid · RewriteRules: laid · RewriteFolds: laid · RewriteVariants: laid · RewriteTexts: laid.
  DERIVED. THE GIVEN ROWS OF THIS SEAT. 9 by the template 'for every input the law returns true; each argument reads behind the call as it read before'; 0 by the template 'total and deterministic' (their statements: YtkddpealobeleaaGreatDoorTotals.lean).
  GIVEN WITH THE SEED: the statements are not yours to turn. If you find one false, say at which input.
  Laid BY PROGRAM, IN A SANDBOX (cutbox-rows.mjs): the forced cells as the released guide's own fill.sh prints them over the translation cf18ed725ad5a82f… (all of the seat's roots in one cut). By AI agents, Wed Nov 11 2026. No macro, syntax, notation, axiom, sorry.
-/
import Derived.Test.YtkddpealobeleaaGreatDoorChecked
import GoSem.PinnedTables
import GoSem.Claim
import GoSem.ClaimJoined
import GoSem.ClaimMapViews
import Derived.JoinedTies
import Derived.KernelRfl
namespace Go.Proofs.YtkddpealobeleaaGreatDoor
/- THE CELL 'sum', in the pinned program and in every row, IS THE sha256 OF THE DUMP (.gsa) THAT YtkddpealobeleaaGreatDoorProg.lean LOADS. Nothing in Lean hashes anything: it is a label: what it is worth is what the hold of that sum in a sandbox is worth. -/
noncomputable def Tryz.pinned : Pinned := { name := "ytkddpealobeleaagreatdoor", sum := "cf18ed725ad5a82f5a73aa8af52236fa277c92a09f317f1d1b9119824849ab0d", checked := Tryz.checked }
namespace Rows
def none {H : Type} : Left H := { results := [], args := [] }

/- WHAT THE LISTED PACKAGE-LEVEL VARIABLES READ AS WHEN THE CALL BEGINS. Each datum BY PROGRAM (the guide's laid-datum.mjs) off the statement by which the dump's own 'gosem.cut.vars' lays the variable. In a bare row this is a premise. The card (YtkddpealobeleaaGreatDoorCards.lean) ties it to the program's text. -/
def laid_math_bits_deBruijn32tab {H : Type} : DataW H := .agg [.lit (.int .u8 0), .lit (.int .u8 1), .lit (.int .u8 28), .lit (.int .u8 2), .lit (.int .u8 29), .lit (.int .u8 14), .lit (.int .u8 24), .lit (.int .u8 3), .lit (.int .u8 30), .lit (.int .u8 22), .lit (.int .u8 20), .lit (.int .u8 15), .lit (.int .u8 25), .lit (.int .u8 17), .lit (.int .u8 4), .lit (.int .u8 8), .lit (.int .u8 31), .lit (.int .u8 27), .lit (.int .u8 13), .lit (.int .u8 23), .lit (.int .u8 21), .lit (.int .u8 19), .lit (.int .u8 16), .lit (.int .u8 7), .lit (.int .u8 26), .lit (.int .u8 12), .lit (.int .u8 18), .lit (.int .u8 6), .lit (.int .u8 11), .lit (.int .u8 5), .lit (.int .u8 10), .lit (.int .u8 9)]
def laid_math_bits_deBruijn64tab {H : Type} : DataW H := .agg [.lit (.int .u8 0), .lit (.int .u8 1), .lit (.int .u8 56), .lit (.int .u8 2), .lit (.int .u8 57), .lit (.int .u8 49), .lit (.int .u8 28), .lit (.int .u8 3), .lit (.int .u8 61), .lit (.int .u8 58), .lit (.int .u8 42), .lit (.int .u8 50), .lit (.int .u8 38), .lit (.int .u8 29), .lit (.int .u8 17), .lit (.int .u8 4), .lit (.int .u8 62), .lit (.int .u8 47), .lit (.int .u8 59), .lit (.int .u8 36), .lit (.int .u8 45), .lit (.int .u8 43), .lit (.int .u8 51), .lit (.int .u8 22), .lit (.int .u8 53), .lit (.int .u8 39), .lit (.int .u8 33), .lit (.int .u8 30), .lit (.int .u8 24), .lit (.int .u8 18), .lit (.int .u8 12), .lit (.int .u8 5), .lit (.int .u8 63), .lit (.int .u8 55), .lit (.int .u8 48), .lit (.int .u8 27), .lit (.int .u8 60), .lit (.int .u8 41), .lit (.int .u8 37), .lit (.int .u8 16), .lit (.int .u8 46), .lit (.int .u8 35), .lit (.int .u8 44), .lit (.int .u8 21), .lit (.int .u8 52), .lit (.int .u8 32), .lit (.int .u8 23), .lit (.int .u8 11), .lit (.int .u8 54), .lit (.int .u8 26), .lit (.int .u8 40), .lit (.int .u8 15), .lit (.int .u8 34), .lit (.int .u8 20), .lit (.int .u8 31), .lit (.int .u8 10), .lit (.int .u8 25), .lit (.int .u8 14), .lit (.int .u8 19), .lit (.int .u8 9), .lit (.int .u8 13), .lit (.int .u8 8), .lit (.int .u8 7), .lit (.int .u8 6)]
def laid_internal_strconv_uint64pow10 {H : Type} : DataW H := .agg [.lit (.int .u64 1), .lit (.int .u64 10), .lit (.int .u64 100), .lit (.int .u64 1000), .lit (.int .u64 10000), .lit (.int .u64 100000), .lit (.int .u64 1000000), .lit (.int .u64 10000000), .lit (.int .u64 100000000), .lit (.int .u64 1000000000), .lit (.int .u64 10000000000), .lit (.int .u64 100000000000), .lit (.int .u64 1000000000000), .lit (.int .u64 10000000000000), .lit (.int .u64 100000000000000), .lit (.int .u64 1000000000000000), .lit (.int .u64 10000000000000000), .lit (.int .u64 100000000000000000), .lit (.int .u64 1000000000000000000), .lit (.int .u64 10000000000000000000)]
def laid_unicode_utf8_acceptRanges {H : Type} : DataW H := .agg [.agg [.lit (.int .u8 128), .lit (.int .u8 191)], .agg [.lit (.int .u8 160), .lit (.int .u8 191)], .agg [.lit (.int .u8 128), .lit (.int .u8 159)], .agg [.lit (.int .u8 144), .lit (.int .u8 191)], .agg [.lit (.int .u8 128), .lit (.int .u8 143)], .agg [.lit (.int .u8 0), .lit (.int .u8 0)], .agg [.lit (.int .u8 0), .lit (.int .u8 0)], .agg [.lit (.int .u8 0), .lit (.int .u8 0)], .agg [.lit (.int .u8 0), .lit (.int .u8 0)], .agg [.lit (.int .u8 0), .lit (.int .u8 0)], .agg [.lit (.int .u8 0), .lit (.int .u8 0)], .agg [.lit (.int .u8 0), .lit (.int .u8 0)], .agg [.lit (.int .u8 0), .lit (.int .u8 0)], .agg [.lit (.int .u8 0), .lit (.int .u8 0)], .agg [.lit (.int .u8 0), .lit (.int .u8 0)], .agg [.lit (.int .u8 0), .lit (.int .u8 0)]]
def laid_customhouse_script_alphabets {H : Type} : DataW H := .agg [.agg [.lit (.string []), .lit (.string []), .lit (.string []), .lit (.string [])], .agg [.lit (.string [112, 108, 97, 105, 110]), .lit (.string [97, 98, 99, 100, 101, 102, 103, 104, 105, 106, 107, 108, 109, 110, 111, 112, 113, 114, 115, 116, 117, 118, 119, 120, 121, 122]), .lit (.string []), .lit (.string [])], .agg [.lit (.string [99, 97, 115, 101, 100]), .lit (.string [97, 98, 99, 100, 101, 102, 103, 104, 105, 106, 107, 108, 109, 110, 111, 112, 113, 114, 115, 116, 117, 118, 119, 120, 121, 122, 65, 66, 67, 68, 69, 70, 71, 72, 73, 74, 75, 76, 77, 78, 79, 80, 81, 82, 83, 84, 85, 86, 87, 88, 89, 90]), .lit (.string [97, 98, 99, 100, 101, 102, 103, 104, 105, 106, 107, 108, 109, 110, 111, 112, 113, 114, 115, 116, 117, 118, 119, 120, 121, 122, 65, 66, 67, 68, 69, 70, 71, 72, 73, 74, 75, 76, 77, 78, 79, 80, 81, 82, 83, 84, 85, 86, 87, 88, 89, 90]), .lit (.string [39, 96, 94])], .agg [.lit (.string [97, 98, 106, 97, 100]), .lit (.string [98, 100, 102, 103, 104, 106, 107, 108, 109, 110, 112, 113, 114, 115, 116, 119, 120, 121, 122, 39]), .lit (.string []), .lit (.string [])], .agg [.lit (.string [115, 121, 108, 108, 97, 98]), .lit (.string [97, 105, 117, 101, 111, 110]), .lit (.string [107, 115, 116, 110, 104, 109, 121, 114, 119, 103, 122, 100, 98, 112]), .lit (.string [97, 105, 117, 101, 111])]]
def laid_customhouse_rewrite_scriptWords {H : Type} : DataW H := .agg [.lit (.string []), .lit (.string [112, 108, 97, 105, 110]), .lit (.string [99, 97, 115, 101, 100]), .lit (.string [97, 98, 106, 97, 100]), .lit (.string [115, 121, 108, 108, 97, 98])]
/-- One of Go's own tables, pinned by name: the form's constant. -/
def laid_unicode_CaseRanges : DataW Unit := Go.Pinned.caseRanges
/-- One of Go's own tables, pinned by name: the form's constant. -/
def laid_unicode_utf8_first : DataW Unit := Go.Pinned.utf8First
def laid_strconv_ErrRange {H : Type} : DataW H := .iface "*errors.errorString" (.ptr (.agg [.lit (.string [118, 97, 108, 117, 101, 32, 111, 117, 116, 32, 111, 102, 32, 114, 97, 110, 103, 101])]))
def laid_strconv_ErrSyntax {H : Type} : DataW H := .iface "*errors.errorString" (.ptr (.agg [.lit (.string [105, 110, 118, 97, 108, 105, 100, 32, 115, 121, 110, 116, 97, 120])]))

/-- 'customhouselaw10.RewriteMatchesReference': WHATEVER THE INPUT: true; the input reads as it did. -/
def rewriteMatchesReferenceSpec : ChangeSpec := { name := "rewriteMatchesReference", fn := fun _ => fun
  | [d1, d2, d3, d4] => { results := [.lit (.bool true)], args := [d1, d2, d3, d4] }
  | _ => none }
def rewriteMatchesReferenceRow : OpenClaim := { program := "ytkddpealobeleaagreatdoor", sum := "cf18ed725ad5a82f5a73aa8af52236fa277c92a09f317f1d1b9119824849ab0d", func := "customhouse/customhouselaw10.RewriteMatchesReference", spec := "rewriteMatchesReference", inPlace := ["internal/bytealg.IndexByteString", "internal/abi.NoEscape", "internal/bytealg.MakeNoZero"], unfollowed := true, recurses := true, named := ["customhouse/script.alphabets", "unicode/utf8.first", "unicode/utf8.acceptRanges", "unicode.CaseRanges", "customhouse/rewrite.scriptWords", "internal/strconv.uint64pow10", "math/bits.deBruijn32tab", "math/bits.deBruijn64tab"], plainKeys := false, apart := false, laid := [("math/bits.deBruijn32tab", laid_math_bits_deBruijn32tab), ("math/bits.deBruijn64tab", laid_math_bits_deBruijn64tab), ("internal/strconv.uint64pow10", laid_internal_strconv_uint64pow10), ("unicode/utf8.acceptRanges", laid_unicode_utf8_acceptRanges), ("customhouse/script.alphabets", laid_customhouse_script_alphabets), ("customhouse/rewrite.scriptWords", laid_customhouse_rewrite_scriptWords), ("unicode.CaseRanges", laid_unicode_CaseRanges), ("unicode/utf8.first", laid_unicode_utf8_first)] }
def RewriteMatchesReferenceSaid : Prop := rewriteMatchesReferenceRow.holds Tryz.pinned (OpenSpec.ofChange rewriteMatchesReferenceSpec)

/-- ITS FALSE NEIGHBOUR: 'it returns false'. Refute it at one input. -/
def rewriteMatchesReferenceWrong : ChangeSpec := { name := "rewriteMatchesReference", fn := fun _ => fun
  | [d1, d2, d3, d4] => { results := [.lit (.bool false)], args := [d1, d2, d3, d4] }
  | _ => none }
def RewriteMatchesReferenceWrongFalsely : Prop := rewriteMatchesReferenceRow.holds Tryz.pinned (OpenSpec.ofChange rewriteMatchesReferenceWrong)

/-- 'customhouselaw10.RewriteTextsAsReference': WHATEVER THE INPUT: true; the input reads as it did. -/
def rewriteTextsAsReferenceSpec : ChangeSpec := { name := "rewriteTextsAsReference", fn := fun _ => fun
  | [d1, d2] => { results := [.lit (.bool true)], args := [d1, d2] }
  | _ => none }
def rewriteTextsAsReferenceRow : OpenClaim := { program := "ytkddpealobeleaagreatdoor", sum := "cf18ed725ad5a82f5a73aa8af52236fa277c92a09f317f1d1b9119824849ab0d", func := "customhouse/customhouselaw10.RewriteTextsAsReference", spec := "rewriteTextsAsReference", inPlace := ["internal/bytealg.IndexByteString", "internal/abi.NoEscape", "internal/bytealg.MakeNoZero"], unfollowed := true, recurses := true, named := ["customhouse/script.alphabets", "unicode/utf8.first", "unicode/utf8.acceptRanges", "unicode.CaseRanges", "customhouse/rewrite.scriptWords", "internal/strconv.uint64pow10", "math/bits.deBruijn32tab", "math/bits.deBruijn64tab", "strconv.ErrSyntax", "strconv.ErrRange"], plainKeys := false, apart := false, laid := [("math/bits.deBruijn32tab", laid_math_bits_deBruijn32tab), ("math/bits.deBruijn64tab", laid_math_bits_deBruijn64tab), ("internal/strconv.uint64pow10", laid_internal_strconv_uint64pow10), ("unicode/utf8.acceptRanges", laid_unicode_utf8_acceptRanges), ("strconv.ErrRange", laid_strconv_ErrRange), ("strconv.ErrSyntax", laid_strconv_ErrSyntax), ("customhouse/script.alphabets", laid_customhouse_script_alphabets), ("customhouse/rewrite.scriptWords", laid_customhouse_rewrite_scriptWords), ("unicode.CaseRanges", laid_unicode_CaseRanges), ("unicode/utf8.first", laid_unicode_utf8_first)] }
def RewriteTextsAsReferenceSaid : Prop := rewriteTextsAsReferenceRow.holds Tryz.pinned (OpenSpec.ofChange rewriteTextsAsReferenceSpec)

/-- ITS FALSE NEIGHBOUR: 'it returns false'. Refute it at one input. -/
def rewriteTextsAsReferenceWrong : ChangeSpec := { name := "rewriteTextsAsReference", fn := fun _ => fun
  | [d1, d2] => { results := [.lit (.bool false)], args := [d1, d2] }
  | _ => none }
def RewriteTextsAsReferenceWrongFalsely : Prop := rewriteTextsAsReferenceRow.holds Tryz.pinned (OpenSpec.ofChange rewriteTextsAsReferenceWrong)

/-- 'customhouselaw10.RewriteFinds': WHATEVER THE INPUT: true; the input reads as it did. -/
def rewriteFindsSpec : ChangeSpec := { name := "rewriteFinds", fn := fun _ => fun
  | [d1, d2, d3, d4, d5] => { results := [.lit (.bool true)], args := [d1, d2, d3, d4, d5] }
  | _ => none }
def rewriteFindsRow : OpenClaim := { program := "ytkddpealobeleaagreatdoor", sum := "cf18ed725ad5a82f5a73aa8af52236fa277c92a09f317f1d1b9119824849ab0d", func := "customhouse/customhouselaw10.RewriteFinds", spec := "rewriteFinds", inPlace := ["internal/bytealg.IndexByteString", "internal/abi.NoEscape", "internal/bytealg.MakeNoZero"], unfollowed := true, recurses := true, named := ["customhouse/script.alphabets", "unicode/utf8.first", "unicode/utf8.acceptRanges", "unicode.CaseRanges", "customhouse/rewrite.scriptWords", "internal/strconv.uint64pow10", "math/bits.deBruijn32tab", "math/bits.deBruijn64tab"], plainKeys := false, apart := false, laid := [("math/bits.deBruijn32tab", laid_math_bits_deBruijn32tab), ("math/bits.deBruijn64tab", laid_math_bits_deBruijn64tab), ("internal/strconv.uint64pow10", laid_internal_strconv_uint64pow10), ("unicode/utf8.acceptRanges", laid_unicode_utf8_acceptRanges), ("customhouse/script.alphabets", laid_customhouse_script_alphabets), ("customhouse/rewrite.scriptWords", laid_customhouse_rewrite_scriptWords), ("unicode.CaseRanges", laid_unicode_CaseRanges), ("unicode/utf8.first", laid_unicode_utf8_first)] }
def RewriteFindsSaid : Prop := rewriteFindsRow.holds Tryz.pinned (OpenSpec.ofChange rewriteFindsSpec)

/-- ITS FALSE NEIGHBOUR: 'it returns false'. Refute it at one input. -/
def rewriteFindsWrong : ChangeSpec := { name := "rewriteFinds", fn := fun _ => fun
  | [d1, d2, d3, d4, d5] => { results := [.lit (.bool false)], args := [d1, d2, d3, d4, d5] }
  | _ => none }
def RewriteFindsWrongFalsely : Prop := rewriteFindsRow.holds Tryz.pinned (OpenSpec.ofChange rewriteFindsWrong)

/-- 'customhouselaw10.RewriteForms': WHATEVER THE INPUT: true; the input reads as it did. -/
def rewriteFormsSpec : ChangeSpec := { name := "rewriteForms", fn := fun _ => fun
  | [d1, d2, d3, d4] => { results := [.lit (.bool true)], args := [d1, d2, d3, d4] }
  | _ => none }
def rewriteFormsRow : OpenClaim := { program := "ytkddpealobeleaagreatdoor", sum := "cf18ed725ad5a82f5a73aa8af52236fa277c92a09f317f1d1b9119824849ab0d", func := "customhouse/customhouselaw10.RewriteForms", spec := "rewriteForms", inPlace := ["internal/bytealg.IndexByteString", "internal/abi.NoEscape", "internal/bytealg.MakeNoZero"], unfollowed := true, recurses := true, named := ["customhouse/script.alphabets", "unicode/utf8.first", "unicode/utf8.acceptRanges", "unicode.CaseRanges", "customhouse/rewrite.scriptWords", "internal/strconv.uint64pow10", "math/bits.deBruijn32tab", "math/bits.deBruijn64tab"], plainKeys := false, apart := false, laid := [("math/bits.deBruijn32tab", laid_math_bits_deBruijn32tab), ("math/bits.deBruijn64tab", laid_math_bits_deBruijn64tab), ("internal/strconv.uint64pow10", laid_internal_strconv_uint64pow10), ("unicode/utf8.acceptRanges", laid_unicode_utf8_acceptRanges), ("customhouse/script.alphabets", laid_customhouse_script_alphabets), ("customhouse/rewrite.scriptWords", laid_customhouse_rewrite_scriptWords), ("unicode.CaseRanges", laid_unicode_CaseRanges), ("unicode/utf8.first", laid_unicode_utf8_first)] }
def RewriteFormsSaid : Prop := rewriteFormsRow.holds Tryz.pinned (OpenSpec.ofChange rewriteFormsSpec)

/-- ITS FALSE NEIGHBOUR: 'it returns false'. Refute it at one input. -/
def rewriteFormsWrong : ChangeSpec := { name := "rewriteForms", fn := fun _ => fun
  | [d1, d2, d3, d4] => { results := [.lit (.bool false)], args := [d1, d2, d3, d4] }
  | _ => none }
def RewriteFormsWrongFalsely : Prop := rewriteFormsRow.holds Tryz.pinned (OpenSpec.ofChange rewriteFormsWrong)

/-- 'customhouselaw10.RewriteMore': WHATEVER THE INPUT: true; the input reads as it did. -/
def rewriteMoreSpec : ChangeSpec := { name := "rewriteMore", fn := fun _ => fun
  | [d1, d2, d3, d4, d5] => { results := [.lit (.bool true)], args := [d1, d2, d3, d4, d5] }
  | _ => none }
def rewriteMoreRow : OpenClaim := { program := "ytkddpealobeleaagreatdoor", sum := "cf18ed725ad5a82f5a73aa8af52236fa277c92a09f317f1d1b9119824849ab0d", func := "customhouse/customhouselaw10.RewriteMore", spec := "rewriteMore", inPlace := ["internal/bytealg.IndexByteString", "internal/abi.NoEscape", "internal/bytealg.MakeNoZero"], unfollowed := true, recurses := true, named := ["customhouse/script.alphabets", "unicode/utf8.first", "unicode/utf8.acceptRanges", "unicode.CaseRanges", "customhouse/rewrite.scriptWords", "internal/strconv.uint64pow10", "math/bits.deBruijn32tab", "math/bits.deBruijn64tab"], plainKeys := false, apart := false, laid := [("math/bits.deBruijn32tab", laid_math_bits_deBruijn32tab), ("math/bits.deBruijn64tab", laid_math_bits_deBruijn64tab), ("internal/strconv.uint64pow10", laid_internal_strconv_uint64pow10), ("unicode/utf8.acceptRanges", laid_unicode_utf8_acceptRanges), ("customhouse/script.alphabets", laid_customhouse_script_alphabets), ("customhouse/rewrite.scriptWords", laid_customhouse_rewrite_scriptWords), ("unicode.CaseRanges", laid_unicode_CaseRanges), ("unicode/utf8.first", laid_unicode_utf8_first)] }
def RewriteMoreSaid : Prop := rewriteMoreRow.holds Tryz.pinned (OpenSpec.ofChange rewriteMoreSpec)

/-- ITS FALSE NEIGHBOUR: 'it returns false'. Refute it at one input. -/
def rewriteMoreWrong : ChangeSpec := { name := "rewriteMore", fn := fun _ => fun
  | [d1, d2, d3, d4, d5] => { results := [.lit (.bool false)], args := [d1, d2, d3, d4, d5] }
  | _ => none }
def RewriteMoreWrongFalsely : Prop := rewriteMoreRow.holds Tryz.pinned (OpenSpec.ofChange rewriteMoreWrong)

/-- 'customhouselaw10.RewriteRules': WHATEVER THE INPUT: true; the input reads as it did. -/
def rewriteRulesSpec : ChangeSpec := { name := "rewriteRules", fn := fun _ => fun
  | [d1, d2, d3, d4, d5] => { results := [.lit (.bool true)], args := [d1, d2, d3, d4, d5] }
  | _ => none }
def rewriteRulesRow : OpenClaim := { program := "ytkddpealobeleaagreatdoor", sum := "cf18ed725ad5a82f5a73aa8af52236fa277c92a09f317f1d1b9119824849ab0d", func := "customhouse/customhouselaw10.RewriteRules", spec := "rewriteRules", inPlace := ["internal/bytealg.IndexByteString", "internal/abi.NoEscape", "internal/bytealg.MakeNoZero"], unfollowed := true, recurses := true, named := ["customhouse/script.alphabets", "unicode/utf8.first", "unicode/utf8.acceptRanges", "unicode.CaseRanges", "customhouse/rewrite.scriptWords", "internal/strconv.uint64pow10", "math/bits.deBruijn32tab", "math/bits.deBruijn64tab"], plainKeys := false, apart := false, laid := [("math/bits.deBruijn32tab", laid_math_bits_deBruijn32tab), ("math/bits.deBruijn64tab", laid_math_bits_deBruijn64tab), ("internal/strconv.uint64pow10", laid_internal_strconv_uint64pow10), ("unicode/utf8.acceptRanges", laid_unicode_utf8_acceptRanges), ("customhouse/script.alphabets", laid_customhouse_script_alphabets), ("customhouse/rewrite.scriptWords", laid_customhouse_rewrite_scriptWords), ("unicode.CaseRanges", laid_unicode_CaseRanges), ("unicode/utf8.first", laid_unicode_utf8_first)] }
def RewriteRulesSaid : Prop := rewriteRulesRow.holds Tryz.pinned (OpenSpec.ofChange rewriteRulesSpec)

/-- ITS FALSE NEIGHBOUR: 'it returns false'. Refute it at one input. -/
def rewriteRulesWrong : ChangeSpec := { name := "rewriteRules", fn := fun _ => fun
  | [d1, d2, d3, d4, d5] => { results := [.lit (.bool false)], args := [d1, d2, d3, d4, d5] }
  | _ => none }
def RewriteRulesWrongFalsely : Prop := rewriteRulesRow.holds Tryz.pinned (OpenSpec.ofChange rewriteRulesWrong)

/-- 'customhouselaw10.RewriteFolds': WHATEVER THE INPUT: true; the input reads as it did. -/
def rewriteFoldsSpec : ChangeSpec := { name := "rewriteFolds", fn := fun _ => fun
  | [d1, d2, d3, d4] => { results := [.lit (.bool true)], args := [d1, d2, d3, d4] }
  | _ => none }
def rewriteFoldsRow : OpenClaim := { program := "ytkddpealobeleaagreatdoor", sum := "cf18ed725ad5a82f5a73aa8af52236fa277c92a09f317f1d1b9119824849ab0d", func := "customhouse/customhouselaw10.RewriteFolds", spec := "rewriteFolds", inPlace := ["internal/bytealg.IndexByteString", "internal/abi.NoEscape", "internal/bytealg.MakeNoZero"], unfollowed := true, recurses := true, named := ["customhouse/script.alphabets", "unicode/utf8.first", "unicode/utf8.acceptRanges", "unicode.CaseRanges", "customhouse/rewrite.scriptWords", "internal/strconv.uint64pow10", "math/bits.deBruijn32tab", "math/bits.deBruijn64tab"], plainKeys := false, apart := false, laid := [("math/bits.deBruijn32tab", laid_math_bits_deBruijn32tab), ("math/bits.deBruijn64tab", laid_math_bits_deBruijn64tab), ("internal/strconv.uint64pow10", laid_internal_strconv_uint64pow10), ("unicode/utf8.acceptRanges", laid_unicode_utf8_acceptRanges), ("customhouse/script.alphabets", laid_customhouse_script_alphabets), ("customhouse/rewrite.scriptWords", laid_customhouse_rewrite_scriptWords), ("unicode.CaseRanges", laid_unicode_CaseRanges), ("unicode/utf8.first", laid_unicode_utf8_first)] }
def RewriteFoldsSaid : Prop := rewriteFoldsRow.holds Tryz.pinned (OpenSpec.ofChange rewriteFoldsSpec)

/-- ITS FALSE NEIGHBOUR: 'it returns false'. Refute it at one input. -/
def rewriteFoldsWrong : ChangeSpec := { name := "rewriteFolds", fn := fun _ => fun
  | [d1, d2, d3, d4] => { results := [.lit (.bool false)], args := [d1, d2, d3, d4] }
  | _ => none }
def RewriteFoldsWrongFalsely : Prop := rewriteFoldsRow.holds Tryz.pinned (OpenSpec.ofChange rewriteFoldsWrong)

/-- 'customhouselaw10.RewriteVariants': WHATEVER THE INPUT: true; the input reads as it did. -/
def rewriteVariantsSpec : ChangeSpec := { name := "rewriteVariants", fn := fun _ => fun
  | [d1, d2, d3] => { results := [.lit (.bool true)], args := [d1, d2, d3] }
  | _ => none }
def rewriteVariantsRow : OpenClaim := { program := "ytkddpealobeleaagreatdoor", sum := "cf18ed725ad5a82f5a73aa8af52236fa277c92a09f317f1d1b9119824849ab0d", func := "customhouse/customhouselaw10.RewriteVariants", spec := "rewriteVariants", inPlace := ["internal/bytealg.IndexByteString", "internal/abi.NoEscape", "internal/bytealg.MakeNoZero"], unfollowed := true, recurses := true, named := ["customhouse/script.alphabets", "unicode/utf8.first", "unicode/utf8.acceptRanges", "unicode.CaseRanges", "customhouse/rewrite.scriptWords", "internal/strconv.uint64pow10", "math/bits.deBruijn32tab", "math/bits.deBruijn64tab"], plainKeys := false, apart := false, laid := [("math/bits.deBruijn32tab", laid_math_bits_deBruijn32tab), ("math/bits.deBruijn64tab", laid_math_bits_deBruijn64tab), ("internal/strconv.uint64pow10", laid_internal_strconv_uint64pow10), ("unicode/utf8.acceptRanges", laid_unicode_utf8_acceptRanges), ("customhouse/script.alphabets", laid_customhouse_script_alphabets), ("customhouse/rewrite.scriptWords", laid_customhouse_rewrite_scriptWords), ("unicode.CaseRanges", laid_unicode_CaseRanges), ("unicode/utf8.first", laid_unicode_utf8_first)] }
def RewriteVariantsSaid : Prop := rewriteVariantsRow.holds Tryz.pinned (OpenSpec.ofChange rewriteVariantsSpec)

/-- ITS FALSE NEIGHBOUR: 'it returns false'. Refute it at one input. -/
def rewriteVariantsWrong : ChangeSpec := { name := "rewriteVariants", fn := fun _ => fun
  | [d1, d2, d3] => { results := [.lit (.bool false)], args := [d1, d2, d3] }
  | _ => none }
def RewriteVariantsWrongFalsely : Prop := rewriteVariantsRow.holds Tryz.pinned (OpenSpec.ofChange rewriteVariantsWrong)

/-- 'customhouselaw10.RewriteTexts': WHATEVER THE INPUT: true; the input reads as it did. -/
def rewriteTextsSpec : ChangeSpec := { name := "rewriteTexts", fn := fun _ => fun
  | [d1, d2] => { results := [.lit (.bool true)], args := [d1, d2] }
  | _ => none }
def rewriteTextsRow : OpenClaim := { program := "ytkddpealobeleaagreatdoor", sum := "cf18ed725ad5a82f5a73aa8af52236fa277c92a09f317f1d1b9119824849ab0d", func := "customhouse/customhouselaw10.RewriteTexts", spec := "rewriteTexts", inPlace := ["internal/bytealg.IndexByteString", "internal/abi.NoEscape", "internal/bytealg.MakeNoZero"], unfollowed := true, recurses := true, named := ["customhouse/script.alphabets", "unicode/utf8.first", "unicode/utf8.acceptRanges", "unicode.CaseRanges", "customhouse/rewrite.scriptWords", "internal/strconv.uint64pow10", "math/bits.deBruijn32tab", "math/bits.deBruijn64tab", "strconv.ErrSyntax", "strconv.ErrRange"], plainKeys := false, apart := false, laid := [("math/bits.deBruijn32tab", laid_math_bits_deBruijn32tab), ("math/bits.deBruijn64tab", laid_math_bits_deBruijn64tab), ("internal/strconv.uint64pow10", laid_internal_strconv_uint64pow10), ("unicode/utf8.acceptRanges", laid_unicode_utf8_acceptRanges), ("strconv.ErrRange", laid_strconv_ErrRange), ("strconv.ErrSyntax", laid_strconv_ErrSyntax), ("customhouse/script.alphabets", laid_customhouse_script_alphabets), ("customhouse/rewrite.scriptWords", laid_customhouse_rewrite_scriptWords), ("unicode.CaseRanges", laid_unicode_CaseRanges), ("unicode/utf8.first", laid_unicode_utf8_first)] }
def RewriteTextsSaid : Prop := rewriteTextsRow.holds Tryz.pinned (OpenSpec.ofChange rewriteTextsSpec)

/-- ITS FALSE NEIGHBOUR: 'it returns false'. Refute it at one input. -/
def rewriteTextsWrong : ChangeSpec := { name := "rewriteTexts", fn := fun _ => fun
  | [d1, d2] => { results := [.lit (.bool false)], args := [d1, d2] }
  | _ => none }
def RewriteTextsWrongFalsely : Prop := rewriteTextsRow.holds Tryz.pinned (OpenSpec.ofChange rewriteTextsWrong)

/- THE SECOND FORM. 'bulk': how many values and letters a reading holds, each counted each time it is reached (what is shared counts as often as it is met; a slice's spare places count too). A statement '..UptoSaid' is the law's where the arguments, and the package variables that the reading takes, are together of bulk at most 1048576: NARROWER than '..Said'. Prove '..Said' where nothing that the law and all that it calls make is longer than what came in: it says more and counts as full. Else prove '..UptoSaid'. A law counts once. -/
mutual
def uptoBulk {H : Type} : DataW H → Nat
  | .lit (.string bytes) => bytes.length + 1
  | .lit _ => 1
  | .nil => 1
  | .ptr d => uptoBulk d + 1
  | .slice elems spare => uptoBulkAll elems + uptoBulkAll spare + 1
  | .agg parts => uptoBulkAll parts + 1
  | .iface _ d => uptoBulk d + 1
  | .map entries => uptoBulkEntries entries + 1
  | .held _ => 1
def uptoBulkAll {H : Type} : List (DataW H) → Nat
  | [] => 0
  | d :: r => uptoBulk d + uptoBulkAll r
def uptoBulkEntries {H : Type} : List (Lit × DataW H) → Nat
  | [] => 0
  | x :: r => uptoBulkEntry x + uptoBulkEntries r
def uptoBulkEntry {H : Type} : Lit × DataW H → Nat
  | (.string bytes, d) => bytes.length + uptoBulk d + 1
  | (_, d) => uptoBulk d + 1
 end
def uptoSmall : (H : Type) → List (DataW H) → Bool := fun _ ds => decide (uptoBulkAll ds ≤ 1048576)
def OpenSpec.upto (s : _root_.Go.ChangeSpec) : _root_.Go.OpenSpec := { _root_.Go.OpenSpec.ofChange s with cond := some uptoSmall }

/-- 'customhouselaw10.RewriteMatchesReference', WHERE WHAT IT READS IS OF BULK AT MOST 1048576: true; the input reads as it did. -/
def rewriteMatchesReferenceUptoRow : OpenClaim := { program := "ytkddpealobeleaagreatdoor", sum := "cf18ed725ad5a82f5a73aa8af52236fa277c92a09f317f1d1b9119824849ab0d", func := "customhouse/customhouselaw10.RewriteMatchesReference", spec := "rewriteMatchesReference", inPlace := ["internal/bytealg.IndexByteString", "internal/abi.NoEscape", "internal/bytealg.MakeNoZero"], unfollowed := true, recurses := true, named := ["customhouse/script.alphabets", "unicode/utf8.first", "unicode/utf8.acceptRanges", "unicode.CaseRanges", "customhouse/rewrite.scriptWords", "internal/strconv.uint64pow10", "math/bits.deBruijn32tab", "math/bits.deBruijn64tab"], plainKeys := false, apart := false, laid := [("math/bits.deBruijn32tab", laid_math_bits_deBruijn32tab), ("math/bits.deBruijn64tab", laid_math_bits_deBruijn64tab), ("internal/strconv.uint64pow10", laid_internal_strconv_uint64pow10), ("unicode/utf8.acceptRanges", laid_unicode_utf8_acceptRanges), ("customhouse/script.alphabets", laid_customhouse_script_alphabets), ("customhouse/rewrite.scriptWords", laid_customhouse_rewrite_scriptWords), ("unicode.CaseRanges", laid_unicode_CaseRanges), ("unicode/utf8.first", laid_unicode_utf8_first)], narrowed := true }
def RewriteMatchesReferenceUptoSaid : Prop := rewriteMatchesReferenceUptoRow.holds Tryz.pinned (OpenSpec.upto rewriteMatchesReferenceSpec)

/-- 'customhouselaw10.RewriteTextsAsReference', WHERE WHAT IT READS IS OF BULK AT MOST 1048576: true; the input reads as it did. -/
def rewriteTextsAsReferenceUptoRow : OpenClaim := { program := "ytkddpealobeleaagreatdoor", sum := "cf18ed725ad5a82f5a73aa8af52236fa277c92a09f317f1d1b9119824849ab0d", func := "customhouse/customhouselaw10.RewriteTextsAsReference", spec := "rewriteTextsAsReference", inPlace := ["internal/bytealg.IndexByteString", "internal/abi.NoEscape", "internal/bytealg.MakeNoZero"], unfollowed := true, recurses := true, named := ["customhouse/script.alphabets", "unicode/utf8.first", "unicode/utf8.acceptRanges", "unicode.CaseRanges", "customhouse/rewrite.scriptWords", "internal/strconv.uint64pow10", "math/bits.deBruijn32tab", "math/bits.deBruijn64tab", "strconv.ErrSyntax", "strconv.ErrRange"], plainKeys := false, apart := false, laid := [("math/bits.deBruijn32tab", laid_math_bits_deBruijn32tab), ("math/bits.deBruijn64tab", laid_math_bits_deBruijn64tab), ("internal/strconv.uint64pow10", laid_internal_strconv_uint64pow10), ("unicode/utf8.acceptRanges", laid_unicode_utf8_acceptRanges), ("strconv.ErrRange", laid_strconv_ErrRange), ("strconv.ErrSyntax", laid_strconv_ErrSyntax), ("customhouse/script.alphabets", laid_customhouse_script_alphabets), ("customhouse/rewrite.scriptWords", laid_customhouse_rewrite_scriptWords), ("unicode.CaseRanges", laid_unicode_CaseRanges), ("unicode/utf8.first", laid_unicode_utf8_first)], narrowed := true }
def RewriteTextsAsReferenceUptoSaid : Prop := rewriteTextsAsReferenceUptoRow.holds Tryz.pinned (OpenSpec.upto rewriteTextsAsReferenceSpec)

/-- 'customhouselaw10.RewriteFinds', WHERE WHAT IT READS IS OF BULK AT MOST 1048576: true; the input reads as it did. -/
def rewriteFindsUptoRow : OpenClaim := { program := "ytkddpealobeleaagreatdoor", sum := "cf18ed725ad5a82f5a73aa8af52236fa277c92a09f317f1d1b9119824849ab0d", func := "customhouse/customhouselaw10.RewriteFinds", spec := "rewriteFinds", inPlace := ["internal/bytealg.IndexByteString", "internal/abi.NoEscape", "internal/bytealg.MakeNoZero"], unfollowed := true, recurses := true, named := ["customhouse/script.alphabets", "unicode/utf8.first", "unicode/utf8.acceptRanges", "unicode.CaseRanges", "customhouse/rewrite.scriptWords", "internal/strconv.uint64pow10", "math/bits.deBruijn32tab", "math/bits.deBruijn64tab"], plainKeys := false, apart := false, laid := [("math/bits.deBruijn32tab", laid_math_bits_deBruijn32tab), ("math/bits.deBruijn64tab", laid_math_bits_deBruijn64tab), ("internal/strconv.uint64pow10", laid_internal_strconv_uint64pow10), ("unicode/utf8.acceptRanges", laid_unicode_utf8_acceptRanges), ("customhouse/script.alphabets", laid_customhouse_script_alphabets), ("customhouse/rewrite.scriptWords", laid_customhouse_rewrite_scriptWords), ("unicode.CaseRanges", laid_unicode_CaseRanges), ("unicode/utf8.first", laid_unicode_utf8_first)], narrowed := true }
def RewriteFindsUptoSaid : Prop := rewriteFindsUptoRow.holds Tryz.pinned (OpenSpec.upto rewriteFindsSpec)

/-- 'customhouselaw10.RewriteForms', WHERE WHAT IT READS IS OF BULK AT MOST 1048576: true; the input reads as it did. -/
def rewriteFormsUptoRow : OpenClaim := { program := "ytkddpealobeleaagreatdoor", sum := "cf18ed725ad5a82f5a73aa8af52236fa277c92a09f317f1d1b9119824849ab0d", func := "customhouse/customhouselaw10.RewriteForms", spec := "rewriteForms", inPlace := ["internal/bytealg.IndexByteString", "internal/abi.NoEscape", "internal/bytealg.MakeNoZero"], unfollowed := true, recurses := true, named := ["customhouse/script.alphabets", "unicode/utf8.first", "unicode/utf8.acceptRanges", "unicode.CaseRanges", "customhouse/rewrite.scriptWords", "internal/strconv.uint64pow10", "math/bits.deBruijn32tab", "math/bits.deBruijn64tab"], plainKeys := false, apart := false, laid := [("math/bits.deBruijn32tab", laid_math_bits_deBruijn32tab), ("math/bits.deBruijn64tab", laid_math_bits_deBruijn64tab), ("internal/strconv.uint64pow10", laid_internal_strconv_uint64pow10), ("unicode/utf8.acceptRanges", laid_unicode_utf8_acceptRanges), ("customhouse/script.alphabets", laid_customhouse_script_alphabets), ("customhouse/rewrite.scriptWords", laid_customhouse_rewrite_scriptWords), ("unicode.CaseRanges", laid_unicode_CaseRanges), ("unicode/utf8.first", laid_unicode_utf8_first)], narrowed := true }
def RewriteFormsUptoSaid : Prop := rewriteFormsUptoRow.holds Tryz.pinned (OpenSpec.upto rewriteFormsSpec)

/-- 'customhouselaw10.RewriteMore', WHERE WHAT IT READS IS OF BULK AT MOST 1048576: true; the input reads as it did. -/
def rewriteMoreUptoRow : OpenClaim := { program := "ytkddpealobeleaagreatdoor", sum := "cf18ed725ad5a82f5a73aa8af52236fa277c92a09f317f1d1b9119824849ab0d", func := "customhouse/customhouselaw10.RewriteMore", spec := "rewriteMore", inPlace := ["internal/bytealg.IndexByteString", "internal/abi.NoEscape", "internal/bytealg.MakeNoZero"], unfollowed := true, recurses := true, named := ["customhouse/script.alphabets", "unicode/utf8.first", "unicode/utf8.acceptRanges", "unicode.CaseRanges", "customhouse/rewrite.scriptWords", "internal/strconv.uint64pow10", "math/bits.deBruijn32tab", "math/bits.deBruijn64tab"], plainKeys := false, apart := false, laid := [("math/bits.deBruijn32tab", laid_math_bits_deBruijn32tab), ("math/bits.deBruijn64tab", laid_math_bits_deBruijn64tab), ("internal/strconv.uint64pow10", laid_internal_strconv_uint64pow10), ("unicode/utf8.acceptRanges", laid_unicode_utf8_acceptRanges), ("customhouse/script.alphabets", laid_customhouse_script_alphabets), ("customhouse/rewrite.scriptWords", laid_customhouse_rewrite_scriptWords), ("unicode.CaseRanges", laid_unicode_CaseRanges), ("unicode/utf8.first", laid_unicode_utf8_first)], narrowed := true }
def RewriteMoreUptoSaid : Prop := rewriteMoreUptoRow.holds Tryz.pinned (OpenSpec.upto rewriteMoreSpec)

/-- 'customhouselaw10.RewriteRules', WHERE WHAT IT READS IS OF BULK AT MOST 1048576: true; the input reads as it did. -/
def rewriteRulesUptoRow : OpenClaim := { program := "ytkddpealobeleaagreatdoor", sum := "cf18ed725ad5a82f5a73aa8af52236fa277c92a09f317f1d1b9119824849ab0d", func := "customhouse/customhouselaw10.RewriteRules", spec := "rewriteRules", inPlace := ["internal/bytealg.IndexByteString", "internal/abi.NoEscape", "internal/bytealg.MakeNoZero"], unfollowed := true, recurses := true, named := ["customhouse/script.alphabets", "unicode/utf8.first", "unicode/utf8.acceptRanges", "unicode.CaseRanges", "customhouse/rewrite.scriptWords", "internal/strconv.uint64pow10", "math/bits.deBruijn32tab", "math/bits.deBruijn64tab"], plainKeys := false, apart := false, laid := [("math/bits.deBruijn32tab", laid_math_bits_deBruijn32tab), ("math/bits.deBruijn64tab", laid_math_bits_deBruijn64tab), ("internal/strconv.uint64pow10", laid_internal_strconv_uint64pow10), ("unicode/utf8.acceptRanges", laid_unicode_utf8_acceptRanges), ("customhouse/script.alphabets", laid_customhouse_script_alphabets), ("customhouse/rewrite.scriptWords", laid_customhouse_rewrite_scriptWords), ("unicode.CaseRanges", laid_unicode_CaseRanges), ("unicode/utf8.first", laid_unicode_utf8_first)], narrowed := true }
def RewriteRulesUptoSaid : Prop := rewriteRulesUptoRow.holds Tryz.pinned (OpenSpec.upto rewriteRulesSpec)

/-- 'customhouselaw10.RewriteFolds', WHERE WHAT IT READS IS OF BULK AT MOST 1048576: true; the input reads as it did. -/
def rewriteFoldsUptoRow : OpenClaim := { program := "ytkddpealobeleaagreatdoor", sum := "cf18ed725ad5a82f5a73aa8af52236fa277c92a09f317f1d1b9119824849ab0d", func := "customhouse/customhouselaw10.RewriteFolds", spec := "rewriteFolds", inPlace := ["internal/bytealg.IndexByteString", "internal/abi.NoEscape", "internal/bytealg.MakeNoZero"], unfollowed := true, recurses := true, named := ["customhouse/script.alphabets", "unicode/utf8.first", "unicode/utf8.acceptRanges", "unicode.CaseRanges", "customhouse/rewrite.scriptWords", "internal/strconv.uint64pow10", "math/bits.deBruijn32tab", "math/bits.deBruijn64tab"], plainKeys := false, apart := false, laid := [("math/bits.deBruijn32tab", laid_math_bits_deBruijn32tab), ("math/bits.deBruijn64tab", laid_math_bits_deBruijn64tab), ("internal/strconv.uint64pow10", laid_internal_strconv_uint64pow10), ("unicode/utf8.acceptRanges", laid_unicode_utf8_acceptRanges), ("customhouse/script.alphabets", laid_customhouse_script_alphabets), ("customhouse/rewrite.scriptWords", laid_customhouse_rewrite_scriptWords), ("unicode.CaseRanges", laid_unicode_CaseRanges), ("unicode/utf8.first", laid_unicode_utf8_first)], narrowed := true }
def RewriteFoldsUptoSaid : Prop := rewriteFoldsUptoRow.holds Tryz.pinned (OpenSpec.upto rewriteFoldsSpec)

/-- 'customhouselaw10.RewriteVariants', WHERE WHAT IT READS IS OF BULK AT MOST 1048576: true; the input reads as it did. -/
def rewriteVariantsUptoRow : OpenClaim := { program := "ytkddpealobeleaagreatdoor", sum := "cf18ed725ad5a82f5a73aa8af52236fa277c92a09f317f1d1b9119824849ab0d", func := "customhouse/customhouselaw10.RewriteVariants", spec := "rewriteVariants", inPlace := ["internal/bytealg.IndexByteString", "internal/abi.NoEscape", "internal/bytealg.MakeNoZero"], unfollowed := true, recurses := true, named := ["customhouse/script.alphabets", "unicode/utf8.first", "unicode/utf8.acceptRanges", "unicode.CaseRanges", "customhouse/rewrite.scriptWords", "internal/strconv.uint64pow10", "math/bits.deBruijn32tab", "math/bits.deBruijn64tab"], plainKeys := false, apart := false, laid := [("math/bits.deBruijn32tab", laid_math_bits_deBruijn32tab), ("math/bits.deBruijn64tab", laid_math_bits_deBruijn64tab), ("internal/strconv.uint64pow10", laid_internal_strconv_uint64pow10), ("unicode/utf8.acceptRanges", laid_unicode_utf8_acceptRanges), ("customhouse/script.alphabets", laid_customhouse_script_alphabets), ("customhouse/rewrite.scriptWords", laid_customhouse_rewrite_scriptWords), ("unicode.CaseRanges", laid_unicode_CaseRanges), ("unicode/utf8.first", laid_unicode_utf8_first)], narrowed := true }
def RewriteVariantsUptoSaid : Prop := rewriteVariantsUptoRow.holds Tryz.pinned (OpenSpec.upto rewriteVariantsSpec)

/-- 'customhouselaw10.RewriteTexts', WHERE WHAT IT READS IS OF BULK AT MOST 1048576: true; the input reads as it did. -/
def rewriteTextsUptoRow : OpenClaim := { program := "ytkddpealobeleaagreatdoor", sum := "cf18ed725ad5a82f5a73aa8af52236fa277c92a09f317f1d1b9119824849ab0d", func := "customhouse/customhouselaw10.RewriteTexts", spec := "rewriteTexts", inPlace := ["internal/bytealg.IndexByteString", "internal/abi.NoEscape", "internal/bytealg.MakeNoZero"], unfollowed := true, recurses := true, named := ["customhouse/script.alphabets", "unicode/utf8.first", "unicode/utf8.acceptRanges", "unicode.CaseRanges", "customhouse/rewrite.scriptWords", "internal/strconv.uint64pow10", "math/bits.deBruijn32tab", "math/bits.deBruijn64tab", "strconv.ErrSyntax", "strconv.ErrRange"], plainKeys := false, apart := false, laid := [("math/bits.deBruijn32tab", laid_math_bits_deBruijn32tab), ("math/bits.deBruijn64tab", laid_math_bits_deBruijn64tab), ("internal/strconv.uint64pow10", laid_internal_strconv_uint64pow10), ("unicode/utf8.acceptRanges", laid_unicode_utf8_acceptRanges), ("strconv.ErrRange", laid_strconv_ErrRange), ("strconv.ErrSyntax", laid_strconv_ErrSyntax), ("customhouse/script.alphabets", laid_customhouse_script_alphabets), ("customhouse/rewrite.scriptWords", laid_customhouse_rewrite_scriptWords), ("unicode.CaseRanges", laid_unicode_CaseRanges), ("unicode/utf8.first", laid_unicode_utf8_first)], narrowed := true }
def RewriteTextsUptoSaid : Prop := rewriteTextsUptoRow.holds Tryz.pinned (OpenSpec.upto rewriteTextsSpec)

end Rows
end Go.Proofs.YtkddpealobeleaaGreatDoor
