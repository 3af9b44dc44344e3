/-
  NARROWER THAN 'FOR EVERY INPUT', by the rows' own cells (each row's printed sentence says how): ScriptMatchesReference: laid · ScriptLetters: laid · ScriptJoins: laid · ScriptFolds: laid · ScriptTexts: laid · ScriptBlanks: laid · ScriptErrors: laid · ScriptCommon: laid.
  DERIVED. THE GIVEN ROWS OF THIS SEAT. 8 by the template 'for every input the law returns true; each argument reads behind the call as it read before'; 0 by the template 'total and deterministic' (their statements: YthedfglaaignoaaDoorTotals.lean).
  GIVEN WITH THE SEED: the statements are not yours to turn. If you find one false, say at which input.
  Laid BY PROGRAM, IN A SANDBOX (cutbox-rows.mjs): the forced cells as the released guide's own fill.sh prints them over the translation dbbc1b4c5a07d052… (all of the seat's roots in one cut). By AI agents, Wed Nov 11 2026. No macro, syntax, notation, axiom, sorry.
-/
import Derived.Test.YthedfglaaignoaaDoorChecked
import GoSem.PinnedTables
import GoSem.Claim
import GoSem.ClaimJoined
import GoSem.ClaimMapViews
import Derived.JoinedTies
import Derived.KernelRfl
namespace Go.Proofs.YthedfglaaignoaaDoor
/- THE CELL 'sum', in the pinned program and in every row, IS THE sha256 OF THE DUMP (.gsa) THAT YthedfglaaignoaaDoorProg.lean LOADS. Nothing in Lean hashes anything: it is a label: what it is worth is what the hold of that sum in a sandbox is worth. -/
noncomputable def Tryd.pinned : Pinned := { name := "ythedfglaaignoaadoor", sum := "dbbc1b4c5a07d0528d59b95ade0390ad3da7405c2f7eb88613b34427ad45075c", checked := Tryd.checked }
namespace Rows
def none {H : Type} : Left H := { results := [], args := [] }

/- WHAT THE LISTED PACKAGE-LEVEL VARIABLES READ AS WHEN THE CALL BEGINS. Each datum BY PROGRAM (the guide's laid-datum.mjs) off the statement by which the dump's own 'gosem.cut.vars' lays the variable. In a bare row this is a premise. The card (YthedfglaaignoaaDoorCards.lean) ties it to the program's text. -/
def laid_unicode_utf8_acceptRanges {H : Type} : DataW H := .agg [.agg [.lit (.int .u8 128), .lit (.int .u8 191)], .agg [.lit (.int .u8 160), .lit (.int .u8 191)], .agg [.lit (.int .u8 128), .lit (.int .u8 159)], .agg [.lit (.int .u8 144), .lit (.int .u8 191)], .agg [.lit (.int .u8 128), .lit (.int .u8 143)], .agg [.lit (.int .u8 0), .lit (.int .u8 0)], .agg [.lit (.int .u8 0), .lit (.int .u8 0)], .agg [.lit (.int .u8 0), .lit (.int .u8 0)], .agg [.lit (.int .u8 0), .lit (.int .u8 0)], .agg [.lit (.int .u8 0), .lit (.int .u8 0)], .agg [.lit (.int .u8 0), .lit (.int .u8 0)], .agg [.lit (.int .u8 0), .lit (.int .u8 0)], .agg [.lit (.int .u8 0), .lit (.int .u8 0)], .agg [.lit (.int .u8 0), .lit (.int .u8 0)], .agg [.lit (.int .u8 0), .lit (.int .u8 0)], .agg [.lit (.int .u8 0), .lit (.int .u8 0)]]
def laid_customhouse_script_alphabets {H : Type} : DataW H := .agg [.agg [.lit (.string []), .lit (.string []), .lit (.string []), .lit (.string [])], .agg [.lit (.string [112, 108, 97, 105, 110]), .lit (.string [97, 98, 99, 100, 101, 102, 103, 104, 105, 106, 107, 108, 109, 110, 111, 112, 113, 114, 115, 116, 117, 118, 119, 120, 121, 122]), .lit (.string []), .lit (.string [])], .agg [.lit (.string [99, 97, 115, 101, 100]), .lit (.string [97, 98, 99, 100, 101, 102, 103, 104, 105, 106, 107, 108, 109, 110, 111, 112, 113, 114, 115, 116, 117, 118, 119, 120, 121, 122, 65, 66, 67, 68, 69, 70, 71, 72, 73, 74, 75, 76, 77, 78, 79, 80, 81, 82, 83, 84, 85, 86, 87, 88, 89, 90]), .lit (.string [97, 98, 99, 100, 101, 102, 103, 104, 105, 106, 107, 108, 109, 110, 111, 112, 113, 114, 115, 116, 117, 118, 119, 120, 121, 122, 65, 66, 67, 68, 69, 70, 71, 72, 73, 74, 75, 76, 77, 78, 79, 80, 81, 82, 83, 84, 85, 86, 87, 88, 89, 90]), .lit (.string [39, 96, 94])], .agg [.lit (.string [97, 98, 106, 97, 100]), .lit (.string [98, 100, 102, 103, 104, 106, 107, 108, 109, 110, 112, 113, 114, 115, 116, 119, 120, 121, 122, 39]), .lit (.string []), .lit (.string [])], .agg [.lit (.string [115, 121, 108, 108, 97, 98]), .lit (.string [97, 105, 117, 101, 111, 110]), .lit (.string [107, 115, 116, 110, 104, 109, 121, 114, 119, 103, 122, 100, 98, 112]), .lit (.string [97, 105, 117, 101, 111])]]
/-- One of Go's own tables, pinned by name: the form's constant. -/
def laid_unicode_CaseRanges : DataW Unit := Go.Pinned.caseRanges
/-- One of Go's own tables, pinned by name: the form's constant. -/
def laid_unicode_utf8_first : DataW Unit := Go.Pinned.utf8First

/-- 'customhouselaw09.ScriptMatchesReference': WHATEVER THE INPUT: true; the input reads as it did. -/
def scriptMatchesReferenceSpec : ChangeSpec := { name := "scriptMatchesReference", fn := fun _ => fun
  | [d1, d2, d3, d4] => { results := [.lit (.bool true)], args := [d1, d2, d3, d4] }
  | _ => none }
def scriptMatchesReferenceRow : OpenClaim := { program := "ythedfglaaignoaadoor", sum := "dbbc1b4c5a07d0528d59b95ade0390ad3da7405c2f7eb88613b34427ad45075c", func := "customhouse/customhouselaw09.ScriptMatchesReference", spec := "scriptMatchesReference", inPlace := ["internal/bytealg.IndexByteString", "internal/abi.NoEscape", "internal/bytealg.MakeNoZero", "internal/bytealg.IndexString"], unfollowed := true, recurses := true, named := ["customhouse/script.alphabets", "unicode/utf8.first", "unicode/utf8.acceptRanges", "unicode.CaseRanges", "internal/bytealg.MaxLen"], apart := false, laid := [("unicode/utf8.acceptRanges", laid_unicode_utf8_acceptRanges), ("customhouse/script.alphabets", laid_customhouse_script_alphabets), ("unicode.CaseRanges", laid_unicode_CaseRanges), ("unicode/utf8.first", laid_unicode_utf8_first)] }
def ScriptMatchesReferenceSaid : Prop := scriptMatchesReferenceRow.holds Tryd.pinned (OpenSpec.ofChange scriptMatchesReferenceSpec)

/-- ITS FALSE NEIGHBOUR: 'it returns false'. Refute it at one input. -/
def scriptMatchesReferenceWrong : ChangeSpec := { name := "scriptMatchesReference", fn := fun _ => fun
  | [d1, d2, d3, d4] => { results := [.lit (.bool false)], args := [d1, d2, d3, d4] }
  | _ => none }
def ScriptMatchesReferenceWrongFalsely : Prop := scriptMatchesReferenceRow.holds Tryd.pinned (OpenSpec.ofChange scriptMatchesReferenceWrong)

/-- 'customhouselaw09.ScriptLetters': WHATEVER THE INPUT: true; the input reads as it did. -/
def scriptLettersSpec : ChangeSpec := { name := "scriptLetters", fn := fun _ => fun
  | [d1, d2] => { results := [.lit (.bool true)], args := [d1, d2] }
  | _ => none }
def scriptLettersRow : OpenClaim := { program := "ythedfglaaignoaadoor", sum := "dbbc1b4c5a07d0528d59b95ade0390ad3da7405c2f7eb88613b34427ad45075c", func := "customhouse/customhouselaw09.ScriptLetters", spec := "scriptLetters", inPlace := ["internal/bytealg.IndexByteString", "internal/abi.NoEscape", "internal/bytealg.MakeNoZero", "internal/bytealg.IndexString"], unfollowed := true, recurses := true, named := ["customhouse/script.alphabets", "unicode/utf8.first", "unicode/utf8.acceptRanges", "unicode.CaseRanges", "internal/bytealg.MaxLen"], apart := false, laid := [("unicode/utf8.acceptRanges", laid_unicode_utf8_acceptRanges), ("customhouse/script.alphabets", laid_customhouse_script_alphabets), ("unicode.CaseRanges", laid_unicode_CaseRanges), ("unicode/utf8.first", laid_unicode_utf8_first)] }
def ScriptLettersSaid : Prop := scriptLettersRow.holds Tryd.pinned (OpenSpec.ofChange scriptLettersSpec)

/-- ITS FALSE NEIGHBOUR: 'it returns false'. Refute it at one input. -/
def scriptLettersWrong : ChangeSpec := { name := "scriptLetters", fn := fun _ => fun
  | [d1, d2] => { results := [.lit (.bool false)], args := [d1, d2] }
  | _ => none }
def ScriptLettersWrongFalsely : Prop := scriptLettersRow.holds Tryd.pinned (OpenSpec.ofChange scriptLettersWrong)

/-- 'customhouselaw09.ScriptJoins': WHATEVER THE INPUT: true; the input reads as it did. -/
def scriptJoinsSpec : ChangeSpec := { name := "scriptJoins", fn := fun _ => fun
  | [d1, d2, d3] => { results := [.lit (.bool true)], args := [d1, d2, d3] }
  | _ => none }
def scriptJoinsRow : OpenClaim := { program := "ythedfglaaignoaadoor", sum := "dbbc1b4c5a07d0528d59b95ade0390ad3da7405c2f7eb88613b34427ad45075c", func := "customhouse/customhouselaw09.ScriptJoins", spec := "scriptJoins", inPlace := ["internal/bytealg.IndexByteString", "internal/abi.NoEscape", "internal/bytealg.MakeNoZero", "internal/bytealg.IndexString"], unfollowed := true, recurses := true, named := ["customhouse/script.alphabets", "unicode/utf8.first", "unicode/utf8.acceptRanges", "unicode.CaseRanges", "internal/bytealg.MaxLen"], apart := false, laid := [("unicode/utf8.acceptRanges", laid_unicode_utf8_acceptRanges), ("customhouse/script.alphabets", laid_customhouse_script_alphabets), ("unicode.CaseRanges", laid_unicode_CaseRanges), ("unicode/utf8.first", laid_unicode_utf8_first)] }
def ScriptJoinsSaid : Prop := scriptJoinsRow.holds Tryd.pinned (OpenSpec.ofChange scriptJoinsSpec)

/-- ITS FALSE NEIGHBOUR: 'it returns false'. Refute it at one input. -/
def scriptJoinsWrong : ChangeSpec := { name := "scriptJoins", fn := fun _ => fun
  | [d1, d2, d3] => { results := [.lit (.bool false)], args := [d1, d2, d3] }
  | _ => none }
def ScriptJoinsWrongFalsely : Prop := scriptJoinsRow.holds Tryd.pinned (OpenSpec.ofChange scriptJoinsWrong)

/-- 'customhouselaw09.ScriptFolds': WHATEVER THE INPUT: true; the input reads as it did. -/
def scriptFoldsSpec : ChangeSpec := { name := "scriptFolds", fn := fun _ => fun
  | [d1, d2] => { results := [.lit (.bool true)], args := [d1, d2] }
  | _ => none }
def scriptFoldsRow : OpenClaim := { program := "ythedfglaaignoaadoor", sum := "dbbc1b4c5a07d0528d59b95ade0390ad3da7405c2f7eb88613b34427ad45075c", func := "customhouse/customhouselaw09.ScriptFolds", spec := "scriptFolds", inPlace := ["internal/bytealg.IndexByteString", "internal/abi.NoEscape", "internal/bytealg.MakeNoZero", "internal/bytealg.IndexString"], unfollowed := true, recurses := true, named := ["customhouse/script.alphabets", "unicode/utf8.first", "unicode/utf8.acceptRanges", "unicode.CaseRanges", "internal/bytealg.MaxLen"], apart := false, laid := [("unicode/utf8.acceptRanges", laid_unicode_utf8_acceptRanges), ("customhouse/script.alphabets", laid_customhouse_script_alphabets), ("unicode.CaseRanges", laid_unicode_CaseRanges), ("unicode/utf8.first", laid_unicode_utf8_first)] }
def ScriptFoldsSaid : Prop := scriptFoldsRow.holds Tryd.pinned (OpenSpec.ofChange scriptFoldsSpec)

/-- ITS FALSE NEIGHBOUR: 'it returns false'. Refute it at one input. -/
def scriptFoldsWrong : ChangeSpec := { name := "scriptFolds", fn := fun _ => fun
  | [d1, d2] => { results := [.lit (.bool false)], args := [d1, d2] }
  | _ => none }
def ScriptFoldsWrongFalsely : Prop := scriptFoldsRow.holds Tryd.pinned (OpenSpec.ofChange scriptFoldsWrong)

/-- 'customhouselaw09.ScriptTexts': WHATEVER THE INPUT: true; the input reads as it did. -/
def scriptTextsSpec : ChangeSpec := { name := "scriptTexts", fn := fun _ => fun
  | [d1, d2, d3] => { results := [.lit (.bool true)], args := [d1, d2, d3] }
  | _ => none }
def scriptTextsRow : OpenClaim := { program := "ythedfglaaignoaadoor", sum := "dbbc1b4c5a07d0528d59b95ade0390ad3da7405c2f7eb88613b34427ad45075c", func := "customhouse/customhouselaw09.ScriptTexts", spec := "scriptTexts", inPlace := ["internal/bytealg.IndexByteString", "internal/abi.NoEscape", "internal/bytealg.MakeNoZero", "internal/bytealg.IndexString"], unfollowed := true, recurses := true, named := ["customhouse/script.alphabets", "unicode/utf8.first", "unicode/utf8.acceptRanges", "unicode.CaseRanges", "internal/bytealg.MaxLen"], apart := false, laid := [("unicode/utf8.acceptRanges", laid_unicode_utf8_acceptRanges), ("customhouse/script.alphabets", laid_customhouse_script_alphabets), ("unicode.CaseRanges", laid_unicode_CaseRanges), ("unicode/utf8.first", laid_unicode_utf8_first)] }
def ScriptTextsSaid : Prop := scriptTextsRow.holds Tryd.pinned (OpenSpec.ofChange scriptTextsSpec)

/-- ITS FALSE NEIGHBOUR: 'it returns false'. Refute it at one input. -/
def scriptTextsWrong : ChangeSpec := { name := "scriptTexts", fn := fun _ => fun
  | [d1, d2, d3] => { results := [.lit (.bool false)], args := [d1, d2, d3] }
  | _ => none }
def ScriptTextsWrongFalsely : Prop := scriptTextsRow.holds Tryd.pinned (OpenSpec.ofChange scriptTextsWrong)

/-- 'customhouselaw09.ScriptBlanks': WHATEVER THE INPUT: true; the input reads as it did. -/
def scriptBlanksSpec : ChangeSpec := { name := "scriptBlanks", fn := fun _ => fun
  | [d1, d2] => { results := [.lit (.bool true)], args := [d1, d2] }
  | _ => none }
def scriptBlanksRow : OpenClaim := { program := "ythedfglaaignoaadoor", sum := "dbbc1b4c5a07d0528d59b95ade0390ad3da7405c2f7eb88613b34427ad45075c", func := "customhouse/customhouselaw09.ScriptBlanks", spec := "scriptBlanks", inPlace := ["internal/bytealg.IndexByteString", "internal/abi.NoEscape", "internal/bytealg.MakeNoZero", "internal/bytealg.IndexString"], unfollowed := true, recurses := true, named := ["customhouse/script.alphabets", "unicode/utf8.first", "unicode/utf8.acceptRanges", "unicode.CaseRanges", "internal/bytealg.MaxLen"], apart := false, laid := [("unicode/utf8.acceptRanges", laid_unicode_utf8_acceptRanges), ("customhouse/script.alphabets", laid_customhouse_script_alphabets), ("unicode.CaseRanges", laid_unicode_CaseRanges), ("unicode/utf8.first", laid_unicode_utf8_first)] }
def ScriptBlanksSaid : Prop := scriptBlanksRow.holds Tryd.pinned (OpenSpec.ofChange scriptBlanksSpec)

/-- ITS FALSE NEIGHBOUR: 'it returns false'. Refute it at one input. -/
def scriptBlanksWrong : ChangeSpec := { name := "scriptBlanks", fn := fun _ => fun
  | [d1, d2] => { results := [.lit (.bool false)], args := [d1, d2] }
  | _ => none }
def ScriptBlanksWrongFalsely : Prop := scriptBlanksRow.holds Tryd.pinned (OpenSpec.ofChange scriptBlanksWrong)

/-- 'customhouselaw09.ScriptErrors': WHATEVER THE INPUT: true; the input reads as it did. -/
def scriptErrorsSpec : ChangeSpec := { name := "scriptErrors", fn := fun _ => fun
  | [d] => { results := [.lit (.bool true)], args := [d] }
  | _ => none }
def scriptErrorsRow : OpenClaim := { program := "ythedfglaaignoaadoor", sum := "dbbc1b4c5a07d0528d59b95ade0390ad3da7405c2f7eb88613b34427ad45075c", func := "customhouse/customhouselaw09.ScriptErrors", spec := "scriptErrors", inPlace := ["internal/bytealg.IndexByteString", "internal/abi.NoEscape", "internal/bytealg.MakeNoZero", "internal/bytealg.IndexString"], unfollowed := true, recurses := true, named := ["customhouse/script.alphabets", "unicode/utf8.first", "unicode/utf8.acceptRanges", "unicode.CaseRanges", "internal/bytealg.MaxLen"], apart := false, laid := [("unicode/utf8.acceptRanges", laid_unicode_utf8_acceptRanges), ("customhouse/script.alphabets", laid_customhouse_script_alphabets), ("unicode.CaseRanges", laid_unicode_CaseRanges), ("unicode/utf8.first", laid_unicode_utf8_first)] }
def ScriptErrorsSaid : Prop := scriptErrorsRow.holds Tryd.pinned (OpenSpec.ofChange scriptErrorsSpec)

/-- ITS FALSE NEIGHBOUR: 'it returns false'. Refute it at one input. -/
def scriptErrorsWrong : ChangeSpec := { name := "scriptErrors", fn := fun _ => fun
  | [d] => { results := [.lit (.bool false)], args := [d] }
  | _ => none }
def ScriptErrorsWrongFalsely : Prop := scriptErrorsRow.holds Tryd.pinned (OpenSpec.ofChange scriptErrorsWrong)

/-- 'customhouselaw09.ScriptCommon': WHATEVER THE INPUT: true; the input reads as it did. -/
def scriptCommonSpec : ChangeSpec := { name := "scriptCommon", fn := fun _ => fun
  | [d] => { results := [.lit (.bool true)], args := [d] }
  | _ => none }
def scriptCommonRow : OpenClaim := { program := "ythedfglaaignoaadoor", sum := "dbbc1b4c5a07d0528d59b95ade0390ad3da7405c2f7eb88613b34427ad45075c", func := "customhouse/customhouselaw09.ScriptCommon", spec := "scriptCommon", inPlace := ["internal/bytealg.IndexByteString", "internal/abi.NoEscape", "internal/bytealg.MakeNoZero", "internal/bytealg.IndexString"], unfollowed := true, recurses := true, named := ["customhouse/script.alphabets", "unicode/utf8.first", "unicode/utf8.acceptRanges", "unicode.CaseRanges", "internal/bytealg.MaxLen"], apart := false, laid := [("unicode/utf8.acceptRanges", laid_unicode_utf8_acceptRanges), ("customhouse/script.alphabets", laid_customhouse_script_alphabets), ("unicode.CaseRanges", laid_unicode_CaseRanges), ("unicode/utf8.first", laid_unicode_utf8_first)] }
def ScriptCommonSaid : Prop := scriptCommonRow.holds Tryd.pinned (OpenSpec.ofChange scriptCommonSpec)

/-- ITS FALSE NEIGHBOUR: 'it returns false'. Refute it at one input. -/
def scriptCommonWrong : ChangeSpec := { name := "scriptCommon", fn := fun _ => fun
  | [d] => { results := [.lit (.bool false)], args := [d] }
  | _ => none }
def ScriptCommonWrongFalsely : Prop := scriptCommonRow.holds Tryd.pinned (OpenSpec.ofChange scriptCommonWrong)

/- THE SECOND FORM. 'bulk': how many values and letters a reading holds, each counted each time it is reached (what is shared counts as often as it is met; a slice's spare places count too). A statement '..UptoSaid' is the law's where the arguments, and the package variables that the reading takes, are together of bulk at most 1048576: NARROWER than '..Said'. Prove '..Said' where nothing that the law and all that it calls make is longer than what came in: it says more and counts as full. Else prove '..UptoSaid'. A law counts once. -/
mutual
def uptoBulk {H : Type} : DataW H → Nat
  | .lit (.string bytes) => bytes.length + 1
  | .lit _ => 1
  | .nil => 1
  | .ptr d => uptoBulk d + 1
  | .slice elems spare => uptoBulkAll elems + uptoBulkAll spare + 1
  | .agg parts => uptoBulkAll parts + 1
  | .iface _ d => uptoBulk d + 1
  | .map entries => uptoBulkEntries entries + 1
  | .held _ => 1
def uptoBulkAll {H : Type} : List (DataW H) → Nat
  | [] => 0
  | d :: r => uptoBulk d + uptoBulkAll r
def uptoBulkEntries {H : Type} : List (Lit × DataW H) → Nat
  | [] => 0
  | x :: r => uptoBulkEntry x + uptoBulkEntries r
def uptoBulkEntry {H : Type} : Lit × DataW H → Nat
  | (.string bytes, d) => bytes.length + uptoBulk d + 1
  | (_, d) => uptoBulk d + 1
 end
def uptoSmall : (H : Type) → List (DataW H) → Bool := fun _ ds => decide (uptoBulkAll ds ≤ 1048576)
def OpenSpec.upto (s : _root_.Go.ChangeSpec) : _root_.Go.OpenSpec := { _root_.Go.OpenSpec.ofChange s with cond := some uptoSmall }

/-- 'customhouselaw09.ScriptMatchesReference', WHERE WHAT IT READS IS OF BULK AT MOST 1048576: true; the input reads as it did. -/
def scriptMatchesReferenceUptoRow : OpenClaim := { program := "ythedfglaaignoaadoor", sum := "dbbc1b4c5a07d0528d59b95ade0390ad3da7405c2f7eb88613b34427ad45075c", func := "customhouse/customhouselaw09.ScriptMatchesReference", spec := "scriptMatchesReference", inPlace := ["internal/bytealg.IndexByteString", "internal/abi.NoEscape", "internal/bytealg.MakeNoZero", "internal/bytealg.IndexString"], unfollowed := true, recurses := true, named := ["customhouse/script.alphabets", "unicode/utf8.first", "unicode/utf8.acceptRanges", "unicode.CaseRanges", "internal/bytealg.MaxLen"], apart := false, laid := [("unicode/utf8.acceptRanges", laid_unicode_utf8_acceptRanges), ("customhouse/script.alphabets", laid_customhouse_script_alphabets), ("unicode.CaseRanges", laid_unicode_CaseRanges), ("unicode/utf8.first", laid_unicode_utf8_first)], narrowed := true }
def ScriptMatchesReferenceUptoSaid : Prop := scriptMatchesReferenceUptoRow.holds Tryd.pinned (OpenSpec.upto scriptMatchesReferenceSpec)

/-- 'customhouselaw09.ScriptLetters', WHERE WHAT IT READS IS OF BULK AT MOST 1048576: true; the input reads as it did. -/
def scriptLettersUptoRow : OpenClaim := { program := "ythedfglaaignoaadoor", sum := "dbbc1b4c5a07d0528d59b95ade0390ad3da7405c2f7eb88613b34427ad45075c", func := "customhouse/customhouselaw09.ScriptLetters", spec := "scriptLetters", inPlace := ["internal/bytealg.IndexByteString", "internal/abi.NoEscape", "internal/bytealg.MakeNoZero", "internal/bytealg.IndexString"], unfollowed := true, recurses := true, named := ["customhouse/script.alphabets", "unicode/utf8.first", "unicode/utf8.acceptRanges", "unicode.CaseRanges", "internal/bytealg.MaxLen"], apart := false, laid := [("unicode/utf8.acceptRanges", laid_unicode_utf8_acceptRanges), ("customhouse/script.alphabets", laid_customhouse_script_alphabets), ("unicode.CaseRanges", laid_unicode_CaseRanges), ("unicode/utf8.first", laid_unicode_utf8_first)], narrowed := true }
def ScriptLettersUptoSaid : Prop := scriptLettersUptoRow.holds Tryd.pinned (OpenSpec.upto scriptLettersSpec)

/-- 'customhouselaw09.ScriptJoins', WHERE WHAT IT READS IS OF BULK AT MOST 1048576: true; the input reads as it did. -/
def scriptJoinsUptoRow : OpenClaim := { program := "ythedfglaaignoaadoor", sum := "dbbc1b4c5a07d0528d59b95ade0390ad3da7405c2f7eb88613b34427ad45075c", func := "customhouse/customhouselaw09.ScriptJoins", spec := "scriptJoins", inPlace := ["internal/bytealg.IndexByteString", "internal/abi.NoEscape", "internal/bytealg.MakeNoZero", "internal/bytealg.IndexString"], unfollowed := true, recurses := true, named := ["customhouse/script.alphabets", "unicode/utf8.first", "unicode/utf8.acceptRanges", "unicode.CaseRanges", "internal/bytealg.MaxLen"], apart := false, laid := [("unicode/utf8.acceptRanges", laid_unicode_utf8_acceptRanges), ("customhouse/script.alphabets", laid_customhouse_script_alphabets), ("unicode.CaseRanges", laid_unicode_CaseRanges), ("unicode/utf8.first", laid_unicode_utf8_first)], narrowed := true }
def ScriptJoinsUptoSaid : Prop := scriptJoinsUptoRow.holds Tryd.pinned (OpenSpec.upto scriptJoinsSpec)

/-- 'customhouselaw09.ScriptFolds', WHERE WHAT IT READS IS OF BULK AT MOST 1048576: true; the input reads as it did. -/
def scriptFoldsUptoRow : OpenClaim := { program := "ythedfglaaignoaadoor", sum := "dbbc1b4c5a07d0528d59b95ade0390ad3da7405c2f7eb88613b34427ad45075c", func := "customhouse/customhouselaw09.ScriptFolds", spec := "scriptFolds", inPlace := ["internal/bytealg.IndexByteString", "internal/abi.NoEscape", "internal/bytealg.MakeNoZero", "internal/bytealg.IndexString"], unfollowed := true, recurses := true, named := ["customhouse/script.alphabets", "unicode/utf8.first", "unicode/utf8.acceptRanges", "unicode.CaseRanges", "internal/bytealg.MaxLen"], apart := false, laid := [("unicode/utf8.acceptRanges", laid_unicode_utf8_acceptRanges), ("customhouse/script.alphabets", laid_customhouse_script_alphabets), ("unicode.CaseRanges", laid_unicode_CaseRanges), ("unicode/utf8.first", laid_unicode_utf8_first)], narrowed := true }
def ScriptFoldsUptoSaid : Prop := scriptFoldsUptoRow.holds Tryd.pinned (OpenSpec.upto scriptFoldsSpec)

/-- 'customhouselaw09.ScriptTexts', WHERE WHAT IT READS IS OF BULK AT MOST 1048576: true; the input reads as it did. -/
def scriptTextsUptoRow : OpenClaim := { program := "ythedfglaaignoaadoor", sum := "dbbc1b4c5a07d0528d59b95ade0390ad3da7405c2f7eb88613b34427ad45075c", func := "customhouse/customhouselaw09.ScriptTexts", spec := "scriptTexts", inPlace := ["internal/bytealg.IndexByteString", "internal/abi.NoEscape", "internal/bytealg.MakeNoZero", "internal/bytealg.IndexString"], unfollowed := true, recurses := true, named := ["customhouse/script.alphabets", "unicode/utf8.first", "unicode/utf8.acceptRanges", "unicode.CaseRanges", "internal/bytealg.MaxLen"], apart := false, laid := [("unicode/utf8.acceptRanges", laid_unicode_utf8_acceptRanges), ("customhouse/script.alphabets", laid_customhouse_script_alphabets), ("unicode.CaseRanges", laid_unicode_CaseRanges), ("unicode/utf8.first", laid_unicode_utf8_first)], narrowed := true }
def ScriptTextsUptoSaid : Prop := scriptTextsUptoRow.holds Tryd.pinned (OpenSpec.upto scriptTextsSpec)

/-- 'customhouselaw09.ScriptBlanks', WHERE WHAT IT READS IS OF BULK AT MOST 1048576: true; the input reads as it did. -/
def scriptBlanksUptoRow : OpenClaim := { program := "ythedfglaaignoaadoor", sum := "dbbc1b4c5a07d0528d59b95ade0390ad3da7405c2f7eb88613b34427ad45075c", func := "customhouse/customhouselaw09.ScriptBlanks", spec := "scriptBlanks", inPlace := ["internal/bytealg.IndexByteString", "internal/abi.NoEscape", "internal/bytealg.MakeNoZero", "internal/bytealg.IndexString"], unfollowed := true, recurses := true, named := ["customhouse/script.alphabets", "unicode/utf8.first", "unicode/utf8.acceptRanges", "unicode.CaseRanges", "internal/bytealg.MaxLen"], apart := false, laid := [("unicode/utf8.acceptRanges", laid_unicode_utf8_acceptRanges), ("customhouse/script.alphabets", laid_customhouse_script_alphabets), ("unicode.CaseRanges", laid_unicode_CaseRanges), ("unicode/utf8.first", laid_unicode_utf8_first)], narrowed := true }
def ScriptBlanksUptoSaid : Prop := scriptBlanksUptoRow.holds Tryd.pinned (OpenSpec.upto scriptBlanksSpec)

/-- 'customhouselaw09.ScriptErrors', WHERE WHAT IT READS IS OF BULK AT MOST 1048576: true; the input reads as it did. -/
def scriptErrorsUptoRow : OpenClaim := { program := "ythedfglaaignoaadoor", sum := "dbbc1b4c5a07d0528d59b95ade0390ad3da7405c2f7eb88613b34427ad45075c", func := "customhouse/customhouselaw09.ScriptErrors", spec := "scriptErrors", inPlace := ["internal/bytealg.IndexByteString", "internal/abi.NoEscape", "internal/bytealg.MakeNoZero", "internal/bytealg.IndexString"], unfollowed := true, recurses := true, named := ["customhouse/script.alphabets", "unicode/utf8.first", "unicode/utf8.acceptRanges", "unicode.CaseRanges", "internal/bytealg.MaxLen"], apart := false, laid := [("unicode/utf8.acceptRanges", laid_unicode_utf8_acceptRanges), ("customhouse/script.alphabets", laid_customhouse_script_alphabets), ("unicode.CaseRanges", laid_unicode_CaseRanges), ("unicode/utf8.first", laid_unicode_utf8_first)], narrowed := true }
def ScriptErrorsUptoSaid : Prop := scriptErrorsUptoRow.holds Tryd.pinned (OpenSpec.upto scriptErrorsSpec)

/-- 'customhouselaw09.ScriptCommon', WHERE WHAT IT READS IS OF BULK AT MOST 1048576: true; the input reads as it did. -/
def scriptCommonUptoRow : OpenClaim := { program := "ythedfglaaignoaadoor", sum := "dbbc1b4c5a07d0528d59b95ade0390ad3da7405c2f7eb88613b34427ad45075c", func := "customhouse/customhouselaw09.ScriptCommon", spec := "scriptCommon", inPlace := ["internal/bytealg.IndexByteString", "internal/abi.NoEscape", "internal/bytealg.MakeNoZero", "internal/bytealg.IndexString"], unfollowed := true, recurses := true, named := ["customhouse/script.alphabets", "unicode/utf8.first", "unicode/utf8.acceptRanges", "unicode.CaseRanges", "internal/bytealg.MaxLen"], apart := false, laid := [("unicode/utf8.acceptRanges", laid_unicode_utf8_acceptRanges), ("customhouse/script.alphabets", laid_customhouse_script_alphabets), ("unicode.CaseRanges", laid_unicode_CaseRanges), ("unicode/utf8.first", laid_unicode_utf8_first)], narrowed := true }
def ScriptCommonUptoSaid : Prop := scriptCommonUptoRow.holds Tryd.pinned (OpenSpec.upto scriptCommonSpec)

end Rows
end Go.Proofs.YthedfglaaignoaaDoor
