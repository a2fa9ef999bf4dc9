/-
  NARROWER THAN 'FOR EVERY INPUT', by the rows' own cells (each row's printed sentence says how): FnAlignWidths: laid · FnAlignDocument: laid · FnAlignColumns: laid · FnAlignFormat: laid · FnExactAlignWidths: laid · FnExactAlignDocument: laid · FnExactAlignColumns: laid · FnPrintDocument: laid · FnExactPrintDocument: laid · FnReadDocument: laid · FnFormatDocument: laid.
  DERIVED. THE GIVEN ROWS OF THIS SEAT. 11 by the template 'for every input the law returns true; each argument reads behind the call as it read before'; 0 by the template 'total and deterministic' (their statements: YtegdjjjpoahamaaGreatDoorTotals.lean).
  GIVEN WITH THE SEED: the statements are not yours to turn. If you find one false, say at which input.
  Laid BY PROGRAM, IN A SANDBOX (cutbox-rows.mjs): the forced cells as the released guide's own fill.sh prints them over the translation 3cedeca6435f25cb… (all of the seat's roots in one cut). By AI agents, Wed Nov 11 2026. No macro, syntax, notation, axiom, sorry.
-/
import Derived.Test.YtegdjjjpoahamaaGreatDoorChecked
import GoSem.PinnedTables
import GoSem.Claim
import GoSem.ClaimJoined
import GoSem.ClaimMapViews
import Derived.JoinedTies
import Derived.KernelRfl
namespace Go.Proofs.YtegdjjjpoahamaaGreatDoor
/- THE CELL 'sum', in the pinned program and in every row, IS THE sha256 OF THE DUMP (.gsa) THAT YtegdjjjpoahamaaGreatDoorProg.lean LOADS. Nothing in Lean hashes anything: it is a label: what it is worth is what the hold of that sum in a sandbox is worth. -/
noncomputable def Tryz.pinned : Pinned := { name := "ytegdjjjpoahamaagreatdoor", sum := "3cedeca6435f25cb54f54835110fa7e0d3616e6641e8eba958237f6ad53eebe4", checked := Tryz.checked }
namespace Rows
def none {H : Type} : Left H := { results := [], args := [] }

/- WHAT THE LISTED PACKAGE-LEVEL VARIABLES READ AS WHEN THE CALL BEGINS. Each datum BY PROGRAM (the guide's laid-datum.mjs) off the statement by which the dump's own 'gosem.cut.vars' lays the variable. In a bare row this is a premise. The card (YtegdjjjpoahamaaGreatDoorCards.lean) ties it to the program's text. -/
def laid_math_bits_deBruijn32tab {H : Type} : DataW H := .agg [.lit (.int .u8 0), .lit (.int .u8 1), .lit (.int .u8 28), .lit (.int .u8 2), .lit (.int .u8 29), .lit (.int .u8 14), .lit (.int .u8 24), .lit (.int .u8 3), .lit (.int .u8 30), .lit (.int .u8 22), .lit (.int .u8 20), .lit (.int .u8 15), .lit (.int .u8 25), .lit (.int .u8 17), .lit (.int .u8 4), .lit (.int .u8 8), .lit (.int .u8 31), .lit (.int .u8 27), .lit (.int .u8 13), .lit (.int .u8 23), .lit (.int .u8 21), .lit (.int .u8 19), .lit (.int .u8 16), .lit (.int .u8 7), .lit (.int .u8 26), .lit (.int .u8 12), .lit (.int .u8 18), .lit (.int .u8 6), .lit (.int .u8 11), .lit (.int .u8 5), .lit (.int .u8 10), .lit (.int .u8 9)]
def laid_math_bits_deBruijn64tab {H : Type} : DataW H := .agg [.lit (.int .u8 0), .lit (.int .u8 1), .lit (.int .u8 56), .lit (.int .u8 2), .lit (.int .u8 57), .lit (.int .u8 49), .lit (.int .u8 28), .lit (.int .u8 3), .lit (.int .u8 61), .lit (.int .u8 58), .lit (.int .u8 42), .lit (.int .u8 50), .lit (.int .u8 38), .lit (.int .u8 29), .lit (.int .u8 17), .lit (.int .u8 4), .lit (.int .u8 62), .lit (.int .u8 47), .lit (.int .u8 59), .lit (.int .u8 36), .lit (.int .u8 45), .lit (.int .u8 43), .lit (.int .u8 51), .lit (.int .u8 22), .lit (.int .u8 53), .lit (.int .u8 39), .lit (.int .u8 33), .lit (.int .u8 30), .lit (.int .u8 24), .lit (.int .u8 18), .lit (.int .u8 12), .lit (.int .u8 5), .lit (.int .u8 63), .lit (.int .u8 55), .lit (.int .u8 48), .lit (.int .u8 27), .lit (.int .u8 60), .lit (.int .u8 41), .lit (.int .u8 37), .lit (.int .u8 16), .lit (.int .u8 46), .lit (.int .u8 35), .lit (.int .u8 44), .lit (.int .u8 21), .lit (.int .u8 52), .lit (.int .u8 32), .lit (.int .u8 23), .lit (.int .u8 11), .lit (.int .u8 54), .lit (.int .u8 26), .lit (.int .u8 40), .lit (.int .u8 15), .lit (.int .u8 34), .lit (.int .u8 20), .lit (.int .u8 31), .lit (.int .u8 10), .lit (.int .u8 25), .lit (.int .u8 14), .lit (.int .u8 19), .lit (.int .u8 9), .lit (.int .u8 13), .lit (.int .u8 8), .lit (.int .u8 7), .lit (.int .u8 6)]
def laid_internal_strconv_uint64pow10 {H : Type} : DataW H := .agg [.lit (.int .u64 1), .lit (.int .u64 10), .lit (.int .u64 100), .lit (.int .u64 1000), .lit (.int .u64 10000), .lit (.int .u64 100000), .lit (.int .u64 1000000), .lit (.int .u64 10000000), .lit (.int .u64 100000000), .lit (.int .u64 1000000000), .lit (.int .u64 10000000000), .lit (.int .u64 100000000000), .lit (.int .u64 1000000000000), .lit (.int .u64 10000000000000), .lit (.int .u64 100000000000000), .lit (.int .u64 1000000000000000), .lit (.int .u64 10000000000000000), .lit (.int .u64 100000000000000000), .lit (.int .u64 1000000000000000000), .lit (.int .u64 10000000000000000000)]
def laid_unicode_utf8_acceptRanges {H : Type} : DataW H := .agg [.agg [.lit (.int .u8 128), .lit (.int .u8 191)], .agg [.lit (.int .u8 160), .lit (.int .u8 191)], .agg [.lit (.int .u8 128), .lit (.int .u8 159)], .agg [.lit (.int .u8 144), .lit (.int .u8 191)], .agg [.lit (.int .u8 128), .lit (.int .u8 143)], .agg [.lit (.int .u8 0), .lit (.int .u8 0)], .agg [.lit (.int .u8 0), .lit (.int .u8 0)], .agg [.lit (.int .u8 0), .lit (.int .u8 0)], .agg [.lit (.int .u8 0), .lit (.int .u8 0)], .agg [.lit (.int .u8 0), .lit (.int .u8 0)], .agg [.lit (.int .u8 0), .lit (.int .u8 0)], .agg [.lit (.int .u8 0), .lit (.int .u8 0)], .agg [.lit (.int .u8 0), .lit (.int .u8 0)], .agg [.lit (.int .u8 0), .lit (.int .u8 0)], .agg [.lit (.int .u8 0), .lit (.int .u8 0)], .agg [.lit (.int .u8 0), .lit (.int .u8 0)]]
/-- One of Go's own tables, pinned by name: the form's constant. -/
def laid_unicode_utf8_first : DataW Unit := Go.Pinned.utf8First

/-- 'laws.FnAlignWidths': WHATEVER THE INPUT: true; the input reads as it did. -/
def fnAlignWidthsSpec : ChangeSpec := { name := "fnAlignWidths", fn := fun _ => fun
  | [d] => { results := [.lit (.bool true)], args := [d] }
  | _ => none }
def fnAlignWidthsRow : OpenClaim := { program := "ytegdjjjpoahamaagreatdoor", sum := "3cedeca6435f25cb54f54835110fa7e0d3616e6641e8eba958237f6ad53eebe4", func := "loop.example/configformatter/laws.FnAlignWidths", spec := "fnAlignWidths", inPlace := ["internal/bytealg.IndexByteString", "internal/bytealg.IndexString"], unfollowed := true, recurses := true, named := ["internal/bytealg.MaxLen", "internal/strconv.uint64pow10", "math/bits.deBruijn32tab", "math/bits.deBruijn64tab", "unicode/utf8.first", "unicode/utf8.acceptRanges"], apart := false, laid := [("math/bits.deBruijn32tab", laid_math_bits_deBruijn32tab), ("math/bits.deBruijn64tab", laid_math_bits_deBruijn64tab), ("internal/strconv.uint64pow10", laid_internal_strconv_uint64pow10), ("unicode/utf8.acceptRanges", laid_unicode_utf8_acceptRanges), ("unicode/utf8.first", laid_unicode_utf8_first)] }
def FnAlignWidthsSaid : Prop := fnAlignWidthsRow.holds Tryz.pinned (OpenSpec.ofChange fnAlignWidthsSpec)

/-- ITS FALSE NEIGHBOUR: 'it returns false'. Refute it at one input. -/
def fnAlignWidthsWrong : ChangeSpec := { name := "fnAlignWidths", fn := fun _ => fun
  | [d] => { results := [.lit (.bool false)], args := [d] }
  | _ => none }
def FnAlignWidthsWrongFalsely : Prop := fnAlignWidthsRow.holds Tryz.pinned (OpenSpec.ofChange fnAlignWidthsWrong)

/-- 'laws.FnAlignDocument': WHATEVER THE INPUT: true; the input reads as it did. -/
def fnAlignDocumentSpec : ChangeSpec := { name := "fnAlignDocument", fn := fun _ => fun
  | [d] => { results := [.lit (.bool true)], args := [d] }
  | _ => none }
def fnAlignDocumentRow : OpenClaim := { program := "ytegdjjjpoahamaagreatdoor", sum := "3cedeca6435f25cb54f54835110fa7e0d3616e6641e8eba958237f6ad53eebe4", func := "loop.example/configformatter/laws.FnAlignDocument", spec := "fnAlignDocument", inPlace := ["internal/bytealg.IndexByteString", "internal/bytealg.IndexString", "internal/abi.NoEscape", "internal/bytealg.MakeNoZero"], unfollowed := true, recurses := true, named := ["internal/bytealg.MaxLen", "internal/strconv.uint64pow10", "math/bits.deBruijn32tab", "math/bits.deBruijn64tab", "unicode/utf8.first", "unicode/utf8.acceptRanges"], apart := false, laid := [("math/bits.deBruijn32tab", laid_math_bits_deBruijn32tab), ("math/bits.deBruijn64tab", laid_math_bits_deBruijn64tab), ("internal/strconv.uint64pow10", laid_internal_strconv_uint64pow10), ("unicode/utf8.acceptRanges", laid_unicode_utf8_acceptRanges), ("unicode/utf8.first", laid_unicode_utf8_first)] }
def FnAlignDocumentSaid : Prop := fnAlignDocumentRow.holds Tryz.pinned (OpenSpec.ofChange fnAlignDocumentSpec)

/-- ITS FALSE NEIGHBOUR: 'it returns false'. Refute it at one input. -/
def fnAlignDocumentWrong : ChangeSpec := { name := "fnAlignDocument", fn := fun _ => fun
  | [d] => { results := [.lit (.bool false)], args := [d] }
  | _ => none }
def FnAlignDocumentWrongFalsely : Prop := fnAlignDocumentRow.holds Tryz.pinned (OpenSpec.ofChange fnAlignDocumentWrong)

/-- 'laws.FnAlignColumns': WHATEVER THE INPUT: true; the input reads as it did. -/
def fnAlignColumnsSpec : ChangeSpec := { name := "fnAlignColumns", fn := fun _ => fun
  | [d] => { results := [.lit (.bool true)], args := [d] }
  | _ => none }
def fnAlignColumnsRow : OpenClaim := { program := "ytegdjjjpoahamaagreatdoor", sum := "3cedeca6435f25cb54f54835110fa7e0d3616e6641e8eba958237f6ad53eebe4", func := "loop.example/configformatter/laws.FnAlignColumns", spec := "fnAlignColumns", inPlace := ["internal/bytealg.IndexByteString", "internal/bytealg.IndexString", "internal/abi.NoEscape", "internal/bytealg.MakeNoZero"], unfollowed := true, recurses := true, named := ["internal/bytealg.MaxLen", "internal/strconv.uint64pow10", "math/bits.deBruijn32tab", "math/bits.deBruijn64tab", "unicode/utf8.first", "unicode/utf8.acceptRanges"], apart := false, laid := [("math/bits.deBruijn32tab", laid_math_bits_deBruijn32tab), ("math/bits.deBruijn64tab", laid_math_bits_deBruijn64tab), ("internal/strconv.uint64pow10", laid_internal_strconv_uint64pow10), ("unicode/utf8.acceptRanges", laid_unicode_utf8_acceptRanges), ("unicode/utf8.first", laid_unicode_utf8_first)] }
def FnAlignColumnsSaid : Prop := fnAlignColumnsRow.holds Tryz.pinned (OpenSpec.ofChange fnAlignColumnsSpec)

/-- ITS FALSE NEIGHBOUR: 'it returns false'. Refute it at one input. -/
def fnAlignColumnsWrong : ChangeSpec := { name := "fnAlignColumns", fn := fun _ => fun
  | [d] => { results := [.lit (.bool false)], args := [d] }
  | _ => none }
def FnAlignColumnsWrongFalsely : Prop := fnAlignColumnsRow.holds Tryz.pinned (OpenSpec.ofChange fnAlignColumnsWrong)

/-- 'laws.FnAlignFormat': WHATEVER THE INPUT: true; the input reads as it did. -/
def fnAlignFormatSpec : ChangeSpec := { name := "fnAlignFormat", fn := fun _ => fun
  | [d] => { results := [.lit (.bool true)], args := [d] }
  | _ => none }
def fnAlignFormatRow : OpenClaim := { program := "ytegdjjjpoahamaagreatdoor", sum := "3cedeca6435f25cb54f54835110fa7e0d3616e6641e8eba958237f6ad53eebe4", func := "loop.example/configformatter/laws.FnAlignFormat", spec := "fnAlignFormat", inPlace := ["internal/bytealg.IndexByteString", "internal/bytealg.IndexString", "internal/abi.NoEscape", "internal/bytealg.MakeNoZero"], unfollowed := true, recurses := true, named := ["internal/bytealg.MaxLen", "internal/strconv.uint64pow10", "math/bits.deBruijn32tab", "math/bits.deBruijn64tab", "unicode/utf8.first", "unicode/utf8.acceptRanges"], apart := false, laid := [("math/bits.deBruijn32tab", laid_math_bits_deBruijn32tab), ("math/bits.deBruijn64tab", laid_math_bits_deBruijn64tab), ("internal/strconv.uint64pow10", laid_internal_strconv_uint64pow10), ("unicode/utf8.acceptRanges", laid_unicode_utf8_acceptRanges), ("unicode/utf8.first", laid_unicode_utf8_first)] }
def FnAlignFormatSaid : Prop := fnAlignFormatRow.holds Tryz.pinned (OpenSpec.ofChange fnAlignFormatSpec)

/-- ITS FALSE NEIGHBOUR: 'it returns false'. Refute it at one input. -/
def fnAlignFormatWrong : ChangeSpec := { name := "fnAlignFormat", fn := fun _ => fun
  | [d] => { results := [.lit (.bool false)], args := [d] }
  | _ => none }
def FnAlignFormatWrongFalsely : Prop := fnAlignFormatRow.holds Tryz.pinned (OpenSpec.ofChange fnAlignFormatWrong)

/-- 'laws.FnExactAlignWidths': WHATEVER THE INPUT: true; the input reads as it did. -/
def fnExactAlignWidthsSpec : ChangeSpec := { name := "fnExactAlignWidths", fn := fun _ => fun
  | [d] => { results := [.lit (.bool true)], args := [d] }
  | _ => none }
def fnExactAlignWidthsRow : OpenClaim := { program := "ytegdjjjpoahamaagreatdoor", sum := "3cedeca6435f25cb54f54835110fa7e0d3616e6641e8eba958237f6ad53eebe4", func := "loop.example/configformatter/laws.FnExactAlignWidths", spec := "fnExactAlignWidths", inPlace := ["internal/bytealg.IndexByteString", "internal/bytealg.IndexString"], unfollowed := true, recurses := true, named := ["internal/bytealg.MaxLen", "internal/strconv.uint64pow10", "math/bits.deBruijn32tab", "math/bits.deBruijn64tab", "unicode/utf8.first", "unicode/utf8.acceptRanges"], apart := false, laid := [("math/bits.deBruijn32tab", laid_math_bits_deBruijn32tab), ("math/bits.deBruijn64tab", laid_math_bits_deBruijn64tab), ("internal/strconv.uint64pow10", laid_internal_strconv_uint64pow10), ("unicode/utf8.acceptRanges", laid_unicode_utf8_acceptRanges), ("unicode/utf8.first", laid_unicode_utf8_first)] }
def FnExactAlignWidthsSaid : Prop := fnExactAlignWidthsRow.holds Tryz.pinned (OpenSpec.ofChange fnExactAlignWidthsSpec)

/-- ITS FALSE NEIGHBOUR: 'it returns false'. Refute it at one input. -/
def fnExactAlignWidthsWrong : ChangeSpec := { name := "fnExactAlignWidths", fn := fun _ => fun
  | [d] => { results := [.lit (.bool false)], args := [d] }
  | _ => none }
def FnExactAlignWidthsWrongFalsely : Prop := fnExactAlignWidthsRow.holds Tryz.pinned (OpenSpec.ofChange fnExactAlignWidthsWrong)

/-- 'laws.FnExactAlignDocument': WHATEVER THE INPUT: true; the input reads as it did. -/
def fnExactAlignDocumentSpec : ChangeSpec := { name := "fnExactAlignDocument", fn := fun _ => fun
  | [d] => { results := [.lit (.bool true)], args := [d] }
  | _ => none }
def fnExactAlignDocumentRow : OpenClaim := { program := "ytegdjjjpoahamaagreatdoor", sum := "3cedeca6435f25cb54f54835110fa7e0d3616e6641e8eba958237f6ad53eebe4", func := "loop.example/configformatter/laws.FnExactAlignDocument", spec := "fnExactAlignDocument", inPlace := ["internal/bytealg.IndexByteString", "internal/bytealg.IndexString", "internal/abi.NoEscape", "internal/bytealg.MakeNoZero"], unfollowed := true, recurses := true, named := ["internal/bytealg.MaxLen", "internal/strconv.uint64pow10", "math/bits.deBruijn32tab", "math/bits.deBruijn64tab", "unicode/utf8.first", "unicode/utf8.acceptRanges"], apart := false, laid := [("math/bits.deBruijn32tab", laid_math_bits_deBruijn32tab), ("math/bits.deBruijn64tab", laid_math_bits_deBruijn64tab), ("internal/strconv.uint64pow10", laid_internal_strconv_uint64pow10), ("unicode/utf8.acceptRanges", laid_unicode_utf8_acceptRanges), ("unicode/utf8.first", laid_unicode_utf8_first)] }
def FnExactAlignDocumentSaid : Prop := fnExactAlignDocumentRow.holds Tryz.pinned (OpenSpec.ofChange fnExactAlignDocumentSpec)

/-- ITS FALSE NEIGHBOUR: 'it returns false'. Refute it at one input. -/
def fnExactAlignDocumentWrong : ChangeSpec := { name := "fnExactAlignDocument", fn := fun _ => fun
  | [d] => { results := [.lit (.bool false)], args := [d] }
  | _ => none }
def FnExactAlignDocumentWrongFalsely : Prop := fnExactAlignDocumentRow.holds Tryz.pinned (OpenSpec.ofChange fnExactAlignDocumentWrong)

/-- 'laws.FnExactAlignColumns': WHATEVER THE INPUT: true; the input reads as it did. -/
def fnExactAlignColumnsSpec : ChangeSpec := { name := "fnExactAlignColumns", fn := fun _ => fun
  | [d] => { results := [.lit (.bool true)], args := [d] }
  | _ => none }
def fnExactAlignColumnsRow : OpenClaim := { program := "ytegdjjjpoahamaagreatdoor", sum := "3cedeca6435f25cb54f54835110fa7e0d3616e6641e8eba958237f6ad53eebe4", func := "loop.example/configformatter/laws.FnExactAlignColumns", spec := "fnExactAlignColumns", inPlace := ["internal/bytealg.IndexByteString", "internal/bytealg.IndexString", "internal/abi.NoEscape", "internal/bytealg.MakeNoZero"], unfollowed := true, recurses := true, named := ["internal/bytealg.MaxLen", "internal/strconv.uint64pow10", "math/bits.deBruijn32tab", "math/bits.deBruijn64tab", "unicode/utf8.first", "unicode/utf8.acceptRanges"], apart := false, laid := [("math/bits.deBruijn32tab", laid_math_bits_deBruijn32tab), ("math/bits.deBruijn64tab", laid_math_bits_deBruijn64tab), ("internal/strconv.uint64pow10", laid_internal_strconv_uint64pow10), ("unicode/utf8.acceptRanges", laid_unicode_utf8_acceptRanges), ("unicode/utf8.first", laid_unicode_utf8_first)] }
def FnExactAlignColumnsSaid : Prop := fnExactAlignColumnsRow.holds Tryz.pinned (OpenSpec.ofChange fnExactAlignColumnsSpec)

/-- ITS FALSE NEIGHBOUR: 'it returns false'. Refute it at one input. -/
def fnExactAlignColumnsWrong : ChangeSpec := { name := "fnExactAlignColumns", fn := fun _ => fun
  | [d] => { results := [.lit (.bool false)], args := [d] }
  | _ => none }
def FnExactAlignColumnsWrongFalsely : Prop := fnExactAlignColumnsRow.holds Tryz.pinned (OpenSpec.ofChange fnExactAlignColumnsWrong)

/-- 'laws.FnPrintDocument': WHATEVER THE INPUT: true; the input reads as it did. -/
def fnPrintDocumentSpec : ChangeSpec := { name := "fnPrintDocument", fn := fun _ => fun
  | [d] => { results := [.lit (.bool true)], args := [d] }
  | _ => none }
def fnPrintDocumentRow : OpenClaim := { program := "ytegdjjjpoahamaagreatdoor", sum := "3cedeca6435f25cb54f54835110fa7e0d3616e6641e8eba958237f6ad53eebe4", func := "loop.example/configformatter/laws.FnPrintDocument", spec := "fnPrintDocument", inPlace := ["internal/bytealg.IndexByteString", "internal/bytealg.IndexString", "internal/abi.NoEscape", "internal/bytealg.MakeNoZero"], unfollowed := true, recurses := true, named := ["internal/bytealg.MaxLen", "internal/strconv.uint64pow10", "math/bits.deBruijn32tab", "math/bits.deBruijn64tab", "unicode/utf8.first", "unicode/utf8.acceptRanges"], apart := false, laid := [("math/bits.deBruijn32tab", laid_math_bits_deBruijn32tab), ("math/bits.deBruijn64tab", laid_math_bits_deBruijn64tab), ("internal/strconv.uint64pow10", laid_internal_strconv_uint64pow10), ("unicode/utf8.acceptRanges", laid_unicode_utf8_acceptRanges), ("unicode/utf8.first", laid_unicode_utf8_first)] }
def FnPrintDocumentSaid : Prop := fnPrintDocumentRow.holds Tryz.pinned (OpenSpec.ofChange fnPrintDocumentSpec)

/-- ITS FALSE NEIGHBOUR: 'it returns false'. Refute it at one input. -/
def fnPrintDocumentWrong : ChangeSpec := { name := "fnPrintDocument", fn := fun _ => fun
  | [d] => { results := [.lit (.bool false)], args := [d] }
  | _ => none }
def FnPrintDocumentWrongFalsely : Prop := fnPrintDocumentRow.holds Tryz.pinned (OpenSpec.ofChange fnPrintDocumentWrong)

/-- 'laws.FnExactPrintDocument': WHATEVER THE INPUT: true; the input reads as it did. -/
def fnExactPrintDocumentSpec : ChangeSpec := { name := "fnExactPrintDocument", fn := fun _ => fun
  | [d] => { results := [.lit (.bool true)], args := [d] }
  | _ => none }
def fnExactPrintDocumentRow : OpenClaim := { program := "ytegdjjjpoahamaagreatdoor", sum := "3cedeca6435f25cb54f54835110fa7e0d3616e6641e8eba958237f6ad53eebe4", func := "loop.example/configformatter/laws.FnExactPrintDocument", spec := "fnExactPrintDocument", inPlace := ["internal/bytealg.IndexByteString", "internal/bytealg.IndexString", "internal/abi.NoEscape", "internal/bytealg.MakeNoZero"], unfollowed := true, recurses := true, named := ["internal/bytealg.MaxLen", "internal/strconv.uint64pow10", "math/bits.deBruijn32tab", "math/bits.deBruijn64tab", "unicode/utf8.first", "unicode/utf8.acceptRanges"], apart := false, laid := [("math/bits.deBruijn32tab", laid_math_bits_deBruijn32tab), ("math/bits.deBruijn64tab", laid_math_bits_deBruijn64tab), ("internal/strconv.uint64pow10", laid_internal_strconv_uint64pow10), ("unicode/utf8.acceptRanges", laid_unicode_utf8_acceptRanges), ("unicode/utf8.first", laid_unicode_utf8_first)] }
def FnExactPrintDocumentSaid : Prop := fnExactPrintDocumentRow.holds Tryz.pinned (OpenSpec.ofChange fnExactPrintDocumentSpec)

/-- ITS FALSE NEIGHBOUR: 'it returns false'. Refute it at one input. -/
def fnExactPrintDocumentWrong : ChangeSpec := { name := "fnExactPrintDocument", fn := fun _ => fun
  | [d] => { results := [.lit (.bool false)], args := [d] }
  | _ => none }
def FnExactPrintDocumentWrongFalsely : Prop := fnExactPrintDocumentRow.holds Tryz.pinned (OpenSpec.ofChange fnExactPrintDocumentWrong)

/-- 'laws.FnReadDocument': WHATEVER THE INPUT: true; the input reads as it did. -/
def fnReadDocumentSpec : ChangeSpec := { name := "fnReadDocument", fn := fun _ => fun
  | [d] => { results := [.lit (.bool true)], args := [d] }
  | _ => none }
def fnReadDocumentRow : OpenClaim := { program := "ytegdjjjpoahamaagreatdoor", sum := "3cedeca6435f25cb54f54835110fa7e0d3616e6641e8eba958237f6ad53eebe4", func := "loop.example/configformatter/laws.FnReadDocument", spec := "fnReadDocument", inPlace := ["internal/bytealg.IndexByteString", "internal/bytealg.IndexString", "internal/abi.NoEscape", "internal/bytealg.MakeNoZero"], unfollowed := true, recurses := true, named := ["unicode/utf8.first", "unicode/utf8.acceptRanges", "internal/bytealg.MaxLen", "internal/strconv.uint64pow10", "math/bits.deBruijn32tab", "math/bits.deBruijn64tab"], apart := false, laid := [("math/bits.deBruijn32tab", laid_math_bits_deBruijn32tab), ("math/bits.deBruijn64tab", laid_math_bits_deBruijn64tab), ("internal/strconv.uint64pow10", laid_internal_strconv_uint64pow10), ("unicode/utf8.acceptRanges", laid_unicode_utf8_acceptRanges), ("unicode/utf8.first", laid_unicode_utf8_first)] }
def FnReadDocumentSaid : Prop := fnReadDocumentRow.holds Tryz.pinned (OpenSpec.ofChange fnReadDocumentSpec)

/-- ITS FALSE NEIGHBOUR: 'it returns false'. Refute it at one input. -/
def fnReadDocumentWrong : ChangeSpec := { name := "fnReadDocument", fn := fun _ => fun
  | [d] => { results := [.lit (.bool false)], args := [d] }
  | _ => none }
def FnReadDocumentWrongFalsely : Prop := fnReadDocumentRow.holds Tryz.pinned (OpenSpec.ofChange fnReadDocumentWrong)

/-- 'laws.FnFormatDocument': WHATEVER THE INPUT: true; the input reads as it did. -/
def fnFormatDocumentSpec : ChangeSpec := { name := "fnFormatDocument", fn := fun _ => fun
  | [d] => { results := [.lit (.bool true)], args := [d] }
  | _ => none }
def fnFormatDocumentRow : OpenClaim := { program := "ytegdjjjpoahamaagreatdoor", sum := "3cedeca6435f25cb54f54835110fa7e0d3616e6641e8eba958237f6ad53eebe4", func := "loop.example/configformatter/laws.FnFormatDocument", spec := "fnFormatDocument", inPlace := ["internal/bytealg.IndexByteString", "internal/bytealg.IndexString", "internal/abi.NoEscape", "internal/bytealg.MakeNoZero"], unfollowed := true, recurses := true, named := ["unicode/utf8.first", "unicode/utf8.acceptRanges", "internal/bytealg.MaxLen", "internal/strconv.uint64pow10", "math/bits.deBruijn32tab", "math/bits.deBruijn64tab"], apart := false, laid := [("math/bits.deBruijn32tab", laid_math_bits_deBruijn32tab), ("math/bits.deBruijn64tab", laid_math_bits_deBruijn64tab), ("internal/strconv.uint64pow10", laid_internal_strconv_uint64pow10), ("unicode/utf8.acceptRanges", laid_unicode_utf8_acceptRanges), ("unicode/utf8.first", laid_unicode_utf8_first)] }
def FnFormatDocumentSaid : Prop := fnFormatDocumentRow.holds Tryz.pinned (OpenSpec.ofChange fnFormatDocumentSpec)

/-- ITS FALSE NEIGHBOUR: 'it returns false'. Refute it at one input. -/
def fnFormatDocumentWrong : ChangeSpec := { name := "fnFormatDocument", fn := fun _ => fun
  | [d] => { results := [.lit (.bool false)], args := [d] }
  | _ => none }
def FnFormatDocumentWrongFalsely : Prop := fnFormatDocumentRow.holds Tryz.pinned (OpenSpec.ofChange fnFormatDocumentWrong)

/- THE SECOND FORM. 'bulk': how many values and letters a reading holds, each counted each time it is reached (what is shared counts as often as it is met; a slice's spare places count too). A statement '..UptoSaid' is the law's where the arguments, and the package variables that the reading takes, are together of bulk at most 1048576: NARROWER than '..Said'. Prove '..Said' where nothing that the law and all that it calls make is longer than what came in: it says more and counts as full. Else prove '..UptoSaid'. A law counts once. -/
mutual
def uptoBulk {H : Type} : DataW H → Nat
  | .lit (.string bytes) => bytes.length + 1
  | .lit _ => 1
  | .nil => 1
  | .ptr d => uptoBulk d + 1
  | .slice elems spare => uptoBulkAll elems + uptoBulkAll spare + 1
  | .agg parts => uptoBulkAll parts + 1
  | .iface _ d => uptoBulk d + 1
  | .map entries => uptoBulkEntries entries + 1
  | .held _ => 1
def uptoBulkAll {H : Type} : List (DataW H) → Nat
  | [] => 0
  | d :: r => uptoBulk d + uptoBulkAll r
def uptoBulkEntries {H : Type} : List (Lit × DataW H) → Nat
  | [] => 0
  | x :: r => uptoBulkEntry x + uptoBulkEntries r
def uptoBulkEntry {H : Type} : Lit × DataW H → Nat
  | (.string bytes, d) => bytes.length + uptoBulk d + 1
  | (_, d) => uptoBulk d + 1
 end
def uptoSmall : (H : Type) → List (DataW H) → Bool := fun _ ds => decide (uptoBulkAll ds ≤ 1048576)
def OpenSpec.upto (s : _root_.Go.ChangeSpec) : _root_.Go.OpenSpec := { _root_.Go.OpenSpec.ofChange s with cond := some uptoSmall }

/-- 'laws.FnAlignWidths', WHERE WHAT IT READS IS OF BULK AT MOST 1048576: true; the input reads as it did. -/
def fnAlignWidthsUptoRow : OpenClaim := { program := "ytegdjjjpoahamaagreatdoor", sum := "3cedeca6435f25cb54f54835110fa7e0d3616e6641e8eba958237f6ad53eebe4", func := "loop.example/configformatter/laws.FnAlignWidths", spec := "fnAlignWidths", inPlace := ["internal/bytealg.IndexByteString", "internal/bytealg.IndexString"], unfollowed := true, recurses := true, named := ["internal/bytealg.MaxLen", "internal/strconv.uint64pow10", "math/bits.deBruijn32tab", "math/bits.deBruijn64tab", "unicode/utf8.first", "unicode/utf8.acceptRanges"], apart := false, laid := [("math/bits.deBruijn32tab", laid_math_bits_deBruijn32tab), ("math/bits.deBruijn64tab", laid_math_bits_deBruijn64tab), ("internal/strconv.uint64pow10", laid_internal_strconv_uint64pow10), ("unicode/utf8.acceptRanges", laid_unicode_utf8_acceptRanges), ("unicode/utf8.first", laid_unicode_utf8_first)], narrowed := true }
def FnAlignWidthsUptoSaid : Prop := fnAlignWidthsUptoRow.holds Tryz.pinned (OpenSpec.upto fnAlignWidthsSpec)

/-- 'laws.FnAlignDocument', WHERE WHAT IT READS IS OF BULK AT MOST 1048576: true; the input reads as it did. -/
def fnAlignDocumentUptoRow : OpenClaim := { program := "ytegdjjjpoahamaagreatdoor", sum := "3cedeca6435f25cb54f54835110fa7e0d3616e6641e8eba958237f6ad53eebe4", func := "loop.example/configformatter/laws.FnAlignDocument", spec := "fnAlignDocument", inPlace := ["internal/bytealg.IndexByteString", "internal/bytealg.IndexString", "internal/abi.NoEscape", "internal/bytealg.MakeNoZero"], unfollowed := true, recurses := true, named := ["internal/bytealg.MaxLen", "internal/strconv.uint64pow10", "math/bits.deBruijn32tab", "math/bits.deBruijn64tab", "unicode/utf8.first", "unicode/utf8.acceptRanges"], apart := false, laid := [("math/bits.deBruijn32tab", laid_math_bits_deBruijn32tab), ("math/bits.deBruijn64tab", laid_math_bits_deBruijn64tab), ("internal/strconv.uint64pow10", laid_internal_strconv_uint64pow10), ("unicode/utf8.acceptRanges", laid_unicode_utf8_acceptRanges), ("unicode/utf8.first", laid_unicode_utf8_first)], narrowed := true }
def FnAlignDocumentUptoSaid : Prop := fnAlignDocumentUptoRow.holds Tryz.pinned (OpenSpec.upto fnAlignDocumentSpec)

/-- 'laws.FnAlignColumns', WHERE WHAT IT READS IS OF BULK AT MOST 1048576: true; the input reads as it did. -/
def fnAlignColumnsUptoRow : OpenClaim := { program := "ytegdjjjpoahamaagreatdoor", sum := "3cedeca6435f25cb54f54835110fa7e0d3616e6641e8eba958237f6ad53eebe4", func := "loop.example/configformatter/laws.FnAlignColumns", spec := "fnAlignColumns", inPlace := ["internal/bytealg.IndexByteString", "internal/bytealg.IndexString", "internal/abi.NoEscape", "internal/bytealg.MakeNoZero"], unfollowed := true, recurses := true, named := ["internal/bytealg.MaxLen", "internal/strconv.uint64pow10", "math/bits.deBruijn32tab", "math/bits.deBruijn64tab", "unicode/utf8.first", "unicode/utf8.acceptRanges"], apart := false, laid := [("math/bits.deBruijn32tab", laid_math_bits_deBruijn32tab), ("math/bits.deBruijn64tab", laid_math_bits_deBruijn64tab), ("internal/strconv.uint64pow10", laid_internal_strconv_uint64pow10), ("unicode/utf8.acceptRanges", laid_unicode_utf8_acceptRanges), ("unicode/utf8.first", laid_unicode_utf8_first)], narrowed := true }
def FnAlignColumnsUptoSaid : Prop := fnAlignColumnsUptoRow.holds Tryz.pinned (OpenSpec.upto fnAlignColumnsSpec)

/-- 'laws.FnAlignFormat', WHERE WHAT IT READS IS OF BULK AT MOST 1048576: true; the input reads as it did. -/
def fnAlignFormatUptoRow : OpenClaim := { program := "ytegdjjjpoahamaagreatdoor", sum := "3cedeca6435f25cb54f54835110fa7e0d3616e6641e8eba958237f6ad53eebe4", func := "loop.example/configformatter/laws.FnAlignFormat", spec := "fnAlignFormat", inPlace := ["internal/bytealg.IndexByteString", "internal/bytealg.IndexString", "internal/abi.NoEscape", "internal/bytealg.MakeNoZero"], unfollowed := true, recurses := true, named := ["internal/bytealg.MaxLen", "internal/strconv.uint64pow10", "math/bits.deBruijn32tab", "math/bits.deBruijn64tab", "unicode/utf8.first", "unicode/utf8.acceptRanges"], apart := false, laid := [("math/bits.deBruijn32tab", laid_math_bits_deBruijn32tab), ("math/bits.deBruijn64tab", laid_math_bits_deBruijn64tab), ("internal/strconv.uint64pow10", laid_internal_strconv_uint64pow10), ("unicode/utf8.acceptRanges", laid_unicode_utf8_acceptRanges), ("unicode/utf8.first", laid_unicode_utf8_first)], narrowed := true }
def FnAlignFormatUptoSaid : Prop := fnAlignFormatUptoRow.holds Tryz.pinned (OpenSpec.upto fnAlignFormatSpec)

/-- 'laws.FnExactAlignWidths', WHERE WHAT IT READS IS OF BULK AT MOST 1048576: true; the input reads as it did. -/
def fnExactAlignWidthsUptoRow : OpenClaim := { program := "ytegdjjjpoahamaagreatdoor", sum := "3cedeca6435f25cb54f54835110fa7e0d3616e6641e8eba958237f6ad53eebe4", func := "loop.example/configformatter/laws.FnExactAlignWidths", spec := "fnExactAlignWidths", inPlace := ["internal/bytealg.IndexByteString", "internal/bytealg.IndexString"], unfollowed := true, recurses := true, named := ["internal/bytealg.MaxLen", "internal/strconv.uint64pow10", "math/bits.deBruijn32tab", "math/bits.deBruijn64tab", "unicode/utf8.first", "unicode/utf8.acceptRanges"], apart := false, laid := [("math/bits.deBruijn32tab", laid_math_bits_deBruijn32tab), ("math/bits.deBruijn64tab", laid_math_bits_deBruijn64tab), ("internal/strconv.uint64pow10", laid_internal_strconv_uint64pow10), ("unicode/utf8.acceptRanges", laid_unicode_utf8_acceptRanges), ("unicode/utf8.first", laid_unicode_utf8_first)], narrowed := true }
def FnExactAlignWidthsUptoSaid : Prop := fnExactAlignWidthsUptoRow.holds Tryz.pinned (OpenSpec.upto fnExactAlignWidthsSpec)

/-- 'laws.FnExactAlignDocument', WHERE WHAT IT READS IS OF BULK AT MOST 1048576: true; the input reads as it did. -/
def fnExactAlignDocumentUptoRow : OpenClaim := { program := "ytegdjjjpoahamaagreatdoor", sum := "3cedeca6435f25cb54f54835110fa7e0d3616e6641e8eba958237f6ad53eebe4", func := "loop.example/configformatter/laws.FnExactAlignDocument", spec := "fnExactAlignDocument", inPlace := ["internal/bytealg.IndexByteString", "internal/bytealg.IndexString", "internal/abi.NoEscape", "internal/bytealg.MakeNoZero"], unfollowed := true, recurses := true, named := ["internal/bytealg.MaxLen", "internal/strconv.uint64pow10", "math/bits.deBruijn32tab", "math/bits.deBruijn64tab", "unicode/utf8.first", "unicode/utf8.acceptRanges"], apart := false, laid := [("math/bits.deBruijn32tab", laid_math_bits_deBruijn32tab), ("math/bits.deBruijn64tab", laid_math_bits_deBruijn64tab), ("internal/strconv.uint64pow10", laid_internal_strconv_uint64pow10), ("unicode/utf8.acceptRanges", laid_unicode_utf8_acceptRanges), ("unicode/utf8.first", laid_unicode_utf8_first)], narrowed := true }
def FnExactAlignDocumentUptoSaid : Prop := fnExactAlignDocumentUptoRow.holds Tryz.pinned (OpenSpec.upto fnExactAlignDocumentSpec)

/-- 'laws.FnExactAlignColumns', WHERE WHAT IT READS IS OF BULK AT MOST 1048576: true; the input reads as it did. -/
def fnExactAlignColumnsUptoRow : OpenClaim := { program := "ytegdjjjpoahamaagreatdoor", sum := "3cedeca6435f25cb54f54835110fa7e0d3616e6641e8eba958237f6ad53eebe4", func := "loop.example/configformatter/laws.FnExactAlignColumns", spec := "fnExactAlignColumns", inPlace := ["internal/bytealg.IndexByteString", "internal/bytealg.IndexString", "internal/abi.NoEscape", "internal/bytealg.MakeNoZero"], unfollowed := true, recurses := true, named := ["internal/bytealg.MaxLen", "internal/strconv.uint64pow10", "math/bits.deBruijn32tab", "math/bits.deBruijn64tab", "unicode/utf8.first", "unicode/utf8.acceptRanges"], apart := false, laid := [("math/bits.deBruijn32tab", laid_math_bits_deBruijn32tab), ("math/bits.deBruijn64tab", laid_math_bits_deBruijn64tab), ("internal/strconv.uint64pow10", laid_internal_strconv_uint64pow10), ("unicode/utf8.acceptRanges", laid_unicode_utf8_acceptRanges), ("unicode/utf8.first", laid_unicode_utf8_first)], narrowed := true }
def FnExactAlignColumnsUptoSaid : Prop := fnExactAlignColumnsUptoRow.holds Tryz.pinned (OpenSpec.upto fnExactAlignColumnsSpec)

/-- 'laws.FnPrintDocument', WHERE WHAT IT READS IS OF BULK AT MOST 1048576: true; the input reads as it did. -/
def fnPrintDocumentUptoRow : OpenClaim := { program := "ytegdjjjpoahamaagreatdoor", sum := "3cedeca6435f25cb54f54835110fa7e0d3616e6641e8eba958237f6ad53eebe4", func := "loop.example/configformatter/laws.FnPrintDocument", spec := "fnPrintDocument", inPlace := ["internal/bytealg.IndexByteString", "internal/bytealg.IndexString", "internal/abi.NoEscape", "internal/bytealg.MakeNoZero"], unfollowed := true, recurses := true, named := ["internal/bytealg.MaxLen", "internal/strconv.uint64pow10", "math/bits.deBruijn32tab", "math/bits.deBruijn64tab", "unicode/utf8.first", "unicode/utf8.acceptRanges"], apart := false, laid := [("math/bits.deBruijn32tab", laid_math_bits_deBruijn32tab), ("math/bits.deBruijn64tab", laid_math_bits_deBruijn64tab), ("internal/strconv.uint64pow10", laid_internal_strconv_uint64pow10), ("unicode/utf8.acceptRanges", laid_unicode_utf8_acceptRanges), ("unicode/utf8.first", laid_unicode_utf8_first)], narrowed := true }
def FnPrintDocumentUptoSaid : Prop := fnPrintDocumentUptoRow.holds Tryz.pinned (OpenSpec.upto fnPrintDocumentSpec)

/-- 'laws.FnExactPrintDocument', WHERE WHAT IT READS IS OF BULK AT MOST 1048576: true; the input reads as it did. -/
def fnExactPrintDocumentUptoRow : OpenClaim := { program := "ytegdjjjpoahamaagreatdoor", sum := "3cedeca6435f25cb54f54835110fa7e0d3616e6641e8eba958237f6ad53eebe4", func := "loop.example/configformatter/laws.FnExactPrintDocument", spec := "fnExactPrintDocument", inPlace := ["internal/bytealg.IndexByteString", "internal/bytealg.IndexString", "internal/abi.NoEscape", "internal/bytealg.MakeNoZero"], unfollowed := true, recurses := true, named := ["internal/bytealg.MaxLen", "internal/strconv.uint64pow10", "math/bits.deBruijn32tab", "math/bits.deBruijn64tab", "unicode/utf8.first", "unicode/utf8.acceptRanges"], apart := false, laid := [("math/bits.deBruijn32tab", laid_math_bits_deBruijn32tab), ("math/bits.deBruijn64tab", laid_math_bits_deBruijn64tab), ("internal/strconv.uint64pow10", laid_internal_strconv_uint64pow10), ("unicode/utf8.acceptRanges", laid_unicode_utf8_acceptRanges), ("unicode/utf8.first", laid_unicode_utf8_first)], narrowed := true }
def FnExactPrintDocumentUptoSaid : Prop := fnExactPrintDocumentUptoRow.holds Tryz.pinned (OpenSpec.upto fnExactPrintDocumentSpec)

/-- 'laws.FnReadDocument', WHERE WHAT IT READS IS OF BULK AT MOST 1048576: true; the input reads as it did. -/
def fnReadDocumentUptoRow : OpenClaim := { program := "ytegdjjjpoahamaagreatdoor", sum := "3cedeca6435f25cb54f54835110fa7e0d3616e6641e8eba958237f6ad53eebe4", func := "loop.example/configformatter/laws.FnReadDocument", spec := "fnReadDocument", inPlace := ["internal/bytealg.IndexByteString", "internal/bytealg.IndexString", "internal/abi.NoEscape", "internal/bytealg.MakeNoZero"], unfollowed := true, recurses := true, named := ["unicode/utf8.first", "unicode/utf8.acceptRanges", "internal/bytealg.MaxLen", "internal/strconv.uint64pow10", "math/bits.deBruijn32tab", "math/bits.deBruijn64tab"], apart := false, laid := [("math/bits.deBruijn32tab", laid_math_bits_deBruijn32tab), ("math/bits.deBruijn64tab", laid_math_bits_deBruijn64tab), ("internal/strconv.uint64pow10", laid_internal_strconv_uint64pow10), ("unicode/utf8.acceptRanges", laid_unicode_utf8_acceptRanges), ("unicode/utf8.first", laid_unicode_utf8_first)], narrowed := true }
def FnReadDocumentUptoSaid : Prop := fnReadDocumentUptoRow.holds Tryz.pinned (OpenSpec.upto fnReadDocumentSpec)

/-- 'laws.FnFormatDocument', WHERE WHAT IT READS IS OF BULK AT MOST 1048576: true; the input reads as it did. -/
def fnFormatDocumentUptoRow : OpenClaim := { program := "ytegdjjjpoahamaagreatdoor", sum := "3cedeca6435f25cb54f54835110fa7e0d3616e6641e8eba958237f6ad53eebe4", func := "loop.example/configformatter/laws.FnFormatDocument", spec := "fnFormatDocument", inPlace := ["internal/bytealg.IndexByteString", "internal/bytealg.IndexString", "internal/abi.NoEscape", "internal/bytealg.MakeNoZero"], unfollowed := true, recurses := true, named := ["unicode/utf8.first", "unicode/utf8.acceptRanges", "internal/bytealg.MaxLen", "internal/strconv.uint64pow10", "math/bits.deBruijn32tab", "math/bits.deBruijn64tab"], apart := false, laid := [("math/bits.deBruijn32tab", laid_math_bits_deBruijn32tab), ("math/bits.deBruijn64tab", laid_math_bits_deBruijn64tab), ("internal/strconv.uint64pow10", laid_internal_strconv_uint64pow10), ("unicode/utf8.acceptRanges", laid_unicode_utf8_acceptRanges), ("unicode/utf8.first", laid_unicode_utf8_first)], narrowed := true }
def FnFormatDocumentUptoSaid : Prop := fnFormatDocumentUptoRow.holds Tryz.pinned (OpenSpec.upto fnFormatDocumentSpec)

end Rows
end Go.Proofs.YtegdjjjpoahamaaGreatDoor
