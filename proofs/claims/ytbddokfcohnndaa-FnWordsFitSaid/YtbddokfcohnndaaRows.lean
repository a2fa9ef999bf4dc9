/-
  No cell of these rows narrows 'for every input' (looked for: loops, veiled, ifaces, maps, wideKeys, modest, calm, conditions, laid).
  DERIVED. THE GIVEN ROWS OF THIS SEAT. 9 by the template 'for every input the law returns true; each argument reads behind the call as it read before'; 0 by the template 'total and deterministic' (their statements: YtbddokfcohnndaaTotals.lean).
  GIVEN WITH THE SEED: the statements are not yours to turn. If you find one false, say at which input.
  Laid BY PROGRAM, IN A SANDBOX (cutbox-rows.mjs): the forced cells as the released guide's own fill.sh prints them over the translation d90211ed2d8474b2… (all of the seat's roots in one cut). By AI agents, Wed Nov 11 2026. No macro, syntax, notation, axiom, sorry.
-/
import Derived.Test.YtbddokfcohnndaaChecked
import GoSem.Claim
import GoSem.ClaimJoined
import GoSem.ClaimMapViews
import Derived.JoinedTies
import Derived.KernelRfl
namespace Go.Proofs.Ytbddokfcohnndaa
/- THE CELL 'sum', in the pinned program and in every row, IS THE sha256 OF THE DUMP (.gsa) THAT YtbddokfcohnndaaProg.lean LOADS. Nothing in Lean hashes anything: it is a label: what it is worth is what the hold of that sum in a sandbox is worth. -/
noncomputable def Try.pinned : Pinned := { name := "ytbddokfcohnndaa", sum := "d90211ed2d8474b2150bb05d5cfe0f999e400e90511ec7e49a6415d2c70ad094", checked := Try.checked }
namespace Rows
def none {H : Type} : Left H := { results := [], args := [] }

/-- 'laws.FnExactWordsFit': WHATEVER THE INPUT: true; the input reads as it did. -/
def fnExactWordsFitSpec : ChangeSpec := { name := "fnExactWordsFit", fn := fun _ => fun
  | [d1, d2] => { results := [.lit (.bool true)], args := [d1, d2] }
  | _ => none }
def fnExactWordsFitRow : OpenClaim := { program := "ytbddokfcohnndaa", sum := "d90211ed2d8474b2150bb05d5cfe0f999e400e90511ec7e49a6415d2c70ad094", func := "loop.example/configformatter/laws.FnExactWordsFit", spec := "fnExactWordsFit", inPlace := ["internal/bytealg.IndexByteString", "internal/bytealg.IndexString"], named := ["internal/bytealg.MaxLen"], apart := false }
def FnExactWordsFitSaid : Prop := fnExactWordsFitRow.holds Try.pinned (OpenSpec.ofChange fnExactWordsFitSpec)

/-- ITS FALSE NEIGHBOUR: 'it returns false'. Refute it at one input. -/
def fnExactWordsFitWrong : ChangeSpec := { name := "fnExactWordsFit", fn := fun _ => fun
  | [d1, d2] => { results := [.lit (.bool false)], args := [d1, d2] }
  | _ => none }
def FnExactWordsFitWrongFalsely : Prop := fnExactWordsFitRow.holds Try.pinned (OpenSpec.ofChange fnExactWordsFitWrong)

/-- 'laws.FnExactWrapCost': WHATEVER THE INPUT: true; the input reads as it did. -/
def fnExactWrapCostSpec : ChangeSpec := { name := "fnExactWrapCost", fn := fun _ => fun
  | [d1, d2, d3] => { results := [.lit (.bool true)], args := [d1, d2, d3] }
  | _ => none }
def fnExactWrapCostRow : OpenClaim := { program := "ytbddokfcohnndaa", sum := "d90211ed2d8474b2150bb05d5cfe0f999e400e90511ec7e49a6415d2c70ad094", func := "loop.example/configformatter/laws.FnExactWrapCost", spec := "fnExactWrapCost", inPlace := ["internal/bytealg.IndexByteString", "internal/bytealg.IndexString"], named := ["internal/bytealg.MaxLen"], apart := false }
def FnExactWrapCostSaid : Prop := fnExactWrapCostRow.holds Try.pinned (OpenSpec.ofChange fnExactWrapCostSpec)

/-- ITS FALSE NEIGHBOUR: 'it returns false'. Refute it at one input. -/
def fnExactWrapCostWrong : ChangeSpec := { name := "fnExactWrapCost", fn := fun _ => fun
  | [d1, d2, d3] => { results := [.lit (.bool false)], args := [d1, d2, d3] }
  | _ => none }
def FnExactWrapCostWrongFalsely : Prop := fnExactWrapCostRow.holds Try.pinned (OpenSpec.ofChange fnExactWrapCostWrong)

/-- 'laws.FnExactWrapGreedy': WHATEVER THE INPUT: true; the input reads as it did. -/
def fnExactWrapGreedySpec : ChangeSpec := { name := "fnExactWrapGreedy", fn := fun _ => fun
  | [d1, d2] => { results := [.lit (.bool true)], args := [d1, d2] }
  | _ => none }
def fnExactWrapGreedyRow : OpenClaim := { program := "ytbddokfcohnndaa", sum := "d90211ed2d8474b2150bb05d5cfe0f999e400e90511ec7e49a6415d2c70ad094", func := "loop.example/configformatter/laws.FnExactWrapGreedy", spec := "fnExactWrapGreedy", inPlace := ["internal/bytealg.IndexByteString", "internal/bytealg.IndexString"], named := ["internal/bytealg.MaxLen"], apart := false }
def FnExactWrapGreedySaid : Prop := fnExactWrapGreedyRow.holds Try.pinned (OpenSpec.ofChange fnExactWrapGreedySpec)

/-- ITS FALSE NEIGHBOUR: 'it returns false'. Refute it at one input. -/
def fnExactWrapGreedyWrong : ChangeSpec := { name := "fnExactWrapGreedy", fn := fun _ => fun
  | [d1, d2] => { results := [.lit (.bool false)], args := [d1, d2] }
  | _ => none }
def FnExactWrapGreedyWrongFalsely : Prop := fnExactWrapGreedyRow.holds Try.pinned (OpenSpec.ofChange fnExactWrapGreedyWrong)

/-- 'laws.FnExactWrapLines': WHATEVER THE INPUT: true; the input reads as it did. -/
def fnExactWrapLinesSpec : ChangeSpec := { name := "fnExactWrapLines", fn := fun _ => fun
  | [d1, d2] => { results := [.lit (.bool true)], args := [d1, d2] }
  | _ => none }
def fnExactWrapLinesRow : OpenClaim := { program := "ytbddokfcohnndaa", sum := "d90211ed2d8474b2150bb05d5cfe0f999e400e90511ec7e49a6415d2c70ad094", func := "loop.example/configformatter/laws.FnExactWrapLines", spec := "fnExactWrapLines", inPlace := ["internal/bytealg.IndexByteString", "internal/bytealg.IndexString"], named := ["internal/bytealg.MaxLen"], apart := false }
def FnExactWrapLinesSaid : Prop := fnExactWrapLinesRow.holds Try.pinned (OpenSpec.ofChange fnExactWrapLinesSpec)

/-- ITS FALSE NEIGHBOUR: 'it returns false'. Refute it at one input. -/
def fnExactWrapLinesWrong : ChangeSpec := { name := "fnExactWrapLines", fn := fun _ => fun
  | [d1, d2] => { results := [.lit (.bool false)], args := [d1, d2] }
  | _ => none }
def FnExactWrapLinesWrongFalsely : Prop := fnExactWrapLinesRow.holds Try.pinned (OpenSpec.ofChange fnExactWrapLinesWrong)

/-- 'laws.FnWordsFit': WHATEVER THE INPUT: true; the input reads as it did. -/
def fnWordsFitSpec : ChangeSpec := { name := "fnWordsFit", fn := fun _ => fun
  | [d] => { results := [.lit (.bool true)], args := [d] }
  | _ => none }
def fnWordsFitRow : OpenClaim := { program := "ytbddokfcohnndaa", sum := "d90211ed2d8474b2150bb05d5cfe0f999e400e90511ec7e49a6415d2c70ad094", func := "loop.example/configformatter/laws.FnWordsFit", spec := "fnWordsFit", inPlace := ["internal/bytealg.IndexByteString", "internal/bytealg.IndexString"], named := ["internal/bytealg.MaxLen"], apart := false }
def FnWordsFitSaid : Prop := fnWordsFitRow.holds Try.pinned (OpenSpec.ofChange fnWordsFitSpec)

/-- ITS FALSE NEIGHBOUR: 'it returns false'. Refute it at one input. -/
def fnWordsFitWrong : ChangeSpec := { name := "fnWordsFit", fn := fun _ => fun
  | [d] => { results := [.lit (.bool false)], args := [d] }
  | _ => none }
def FnWordsFitWrongFalsely : Prop := fnWordsFitRow.holds Try.pinned (OpenSpec.ofChange fnWordsFitWrong)

/-- 'laws.FnWrapCost': WHATEVER THE INPUT: true; the input reads as it did. -/
def fnWrapCostSpec : ChangeSpec := { name := "fnWrapCost", fn := fun _ => fun
  | [d] => { results := [.lit (.bool true)], args := [d] }
  | _ => none }
def fnWrapCostRow : OpenClaim := { program := "ytbddokfcohnndaa", sum := "d90211ed2d8474b2150bb05d5cfe0f999e400e90511ec7e49a6415d2c70ad094", func := "loop.example/configformatter/laws.FnWrapCost", spec := "fnWrapCost", inPlace := ["internal/bytealg.IndexByteString", "internal/bytealg.IndexString"], named := ["internal/bytealg.MaxLen"], apart := false }
def FnWrapCostSaid : Prop := fnWrapCostRow.holds Try.pinned (OpenSpec.ofChange fnWrapCostSpec)

/-- ITS FALSE NEIGHBOUR: 'it returns false'. Refute it at one input. -/
def fnWrapCostWrong : ChangeSpec := { name := "fnWrapCost", fn := fun _ => fun
  | [d] => { results := [.lit (.bool false)], args := [d] }
  | _ => none }
def FnWrapCostWrongFalsely : Prop := fnWrapCostRow.holds Try.pinned (OpenSpec.ofChange fnWrapCostWrong)

/-- 'laws.FnWrapGreedy': WHATEVER THE INPUT: true; the input reads as it did. -/
def fnWrapGreedySpec : ChangeSpec := { name := "fnWrapGreedy", fn := fun _ => fun
  | [d] => { results := [.lit (.bool true)], args := [d] }
  | _ => none }
def fnWrapGreedyRow : OpenClaim := { program := "ytbddokfcohnndaa", sum := "d90211ed2d8474b2150bb05d5cfe0f999e400e90511ec7e49a6415d2c70ad094", func := "loop.example/configformatter/laws.FnWrapGreedy", spec := "fnWrapGreedy", inPlace := ["internal/bytealg.IndexByteString", "internal/bytealg.IndexString"], named := ["internal/bytealg.MaxLen"], apart := false }
def FnWrapGreedySaid : Prop := fnWrapGreedyRow.holds Try.pinned (OpenSpec.ofChange fnWrapGreedySpec)

/-- ITS FALSE NEIGHBOUR: 'it returns false'. Refute it at one input. -/
def fnWrapGreedyWrong : ChangeSpec := { name := "fnWrapGreedy", fn := fun _ => fun
  | [d] => { results := [.lit (.bool false)], args := [d] }
  | _ => none }
def FnWrapGreedyWrongFalsely : Prop := fnWrapGreedyRow.holds Try.pinned (OpenSpec.ofChange fnWrapGreedyWrong)

/-- 'laws.FnWrapWider': WHATEVER THE INPUT: true; the input reads as it did. -/
def fnWrapWiderSpec : ChangeSpec := { name := "fnWrapWider", fn := fun _ => fun
  | [d] => { results := [.lit (.bool true)], args := [d] }
  | _ => none }
def fnWrapWiderRow : OpenClaim := { program := "ytbddokfcohnndaa", sum := "d90211ed2d8474b2150bb05d5cfe0f999e400e90511ec7e49a6415d2c70ad094", func := "loop.example/configformatter/laws.FnWrapWider", spec := "fnWrapWider", inPlace := ["internal/bytealg.IndexByteString", "internal/bytealg.IndexString"], named := ["internal/bytealg.MaxLen"], apart := false }
def FnWrapWiderSaid : Prop := fnWrapWiderRow.holds Try.pinned (OpenSpec.ofChange fnWrapWiderSpec)

/-- ITS FALSE NEIGHBOUR: 'it returns false'. Refute it at one input. -/
def fnWrapWiderWrong : ChangeSpec := { name := "fnWrapWider", fn := fun _ => fun
  | [d] => { results := [.lit (.bool false)], args := [d] }
  | _ => none }
def FnWrapWiderWrongFalsely : Prop := fnWrapWiderRow.holds Try.pinned (OpenSpec.ofChange fnWrapWiderWrong)

/-- 'laws.FnWrapLines': WHATEVER THE INPUT: true; the input reads as it did. -/
def fnWrapLinesSpec : ChangeSpec := { name := "fnWrapLines", fn := fun _ => fun
  | [d] => { results := [.lit (.bool true)], args := [d] }
  | _ => none }
def fnWrapLinesRow : OpenClaim := { program := "ytbddokfcohnndaa", sum := "d90211ed2d8474b2150bb05d5cfe0f999e400e90511ec7e49a6415d2c70ad094", func := "loop.example/configformatter/laws.FnWrapLines", spec := "fnWrapLines", inPlace := ["internal/bytealg.IndexByteString", "internal/bytealg.IndexString"], named := ["internal/bytealg.MaxLen"], apart := false }
def FnWrapLinesSaid : Prop := fnWrapLinesRow.holds Try.pinned (OpenSpec.ofChange fnWrapLinesSpec)

/-- ITS FALSE NEIGHBOUR: 'it returns false'. Refute it at one input. -/
def fnWrapLinesWrong : ChangeSpec := { name := "fnWrapLines", fn := fun _ => fun
  | [d] => { results := [.lit (.bool false)], args := [d] }
  | _ => none }
def FnWrapLinesWrongFalsely : Prop := fnWrapLinesRow.holds Try.pinned (OpenSpec.ofChange fnWrapLinesWrong)

/- THE SECOND FORM. 'bulk': how many values and letters a reading holds, each counted each time it is reached (what is shared counts as often as it is met; a slice's spare places count too). A statement '..UptoSaid' is the law's where the arguments, and the package variables that the reading takes, are together of bulk at most 1048576: NARROWER than '..Said'. Prove '..Said' where nothing that the law and all that it calls make is longer than what came in: it says more and counts as full. Else prove '..UptoSaid'. A law counts once. -/
mutual
def uptoBulk {H : Type} : DataW H → Nat
  | .lit (.string bytes) => bytes.length + 1
  | .lit _ => 1
  | .nil => 1
  | .ptr d => uptoBulk d + 1
  | .slice elems spare => uptoBulkAll elems + uptoBulkAll spare + 1
  | .agg parts => uptoBulkAll parts + 1
  | .iface _ d => uptoBulk d + 1
  | .map entries => uptoBulkEntries entries + 1
  | .held _ => 1
def uptoBulkAll {H : Type} : List (DataW H) → Nat
  | [] => 0
  | d :: r => uptoBulk d + uptoBulkAll r
def uptoBulkEntries {H : Type} : List (Lit × DataW H) → Nat
  | [] => 0
  | x :: r => uptoBulkEntry x + uptoBulkEntries r
def uptoBulkEntry {H : Type} : Lit × DataW H → Nat
  | (.string bytes, d) => bytes.length + uptoBulk d + 1
  | (_, d) => uptoBulk d + 1
 end
def uptoSmall : (H : Type) → List (DataW H) → Bool := fun _ ds => decide (uptoBulkAll ds ≤ 1048576)
def OpenSpec.upto (s : _root_.Go.ChangeSpec) : _root_.Go.OpenSpec := { _root_.Go.OpenSpec.ofChange s with cond := some uptoSmall }

/-- 'laws.FnExactWordsFit', WHERE WHAT IT READS IS OF BULK AT MOST 1048576: true; the input reads as it did. -/
def fnExactWordsFitUptoRow : OpenClaim := { program := "ytbddokfcohnndaa", sum := "d90211ed2d8474b2150bb05d5cfe0f999e400e90511ec7e49a6415d2c70ad094", func := "loop.example/configformatter/laws.FnExactWordsFit", spec := "fnExactWordsFit", inPlace := ["internal/bytealg.IndexByteString", "internal/bytealg.IndexString"], named := ["internal/bytealg.MaxLen"], apart := false, narrowed := true }
def FnExactWordsFitUptoSaid : Prop := fnExactWordsFitUptoRow.holds Try.pinned (OpenSpec.upto fnExactWordsFitSpec)

/-- 'laws.FnExactWrapCost', WHERE WHAT IT READS IS OF BULK AT MOST 1048576: true; the input reads as it did. -/
def fnExactWrapCostUptoRow : OpenClaim := { program := "ytbddokfcohnndaa", sum := "d90211ed2d8474b2150bb05d5cfe0f999e400e90511ec7e49a6415d2c70ad094", func := "loop.example/configformatter/laws.FnExactWrapCost", spec := "fnExactWrapCost", inPlace := ["internal/bytealg.IndexByteString", "internal/bytealg.IndexString"], named := ["internal/bytealg.MaxLen"], apart := false, narrowed := true }
def FnExactWrapCostUptoSaid : Prop := fnExactWrapCostUptoRow.holds Try.pinned (OpenSpec.upto fnExactWrapCostSpec)

/-- 'laws.FnExactWrapGreedy', WHERE WHAT IT READS IS OF BULK AT MOST 1048576: true; the input reads as it did. -/
def fnExactWrapGreedyUptoRow : OpenClaim := { program := "ytbddokfcohnndaa", sum := "d90211ed2d8474b2150bb05d5cfe0f999e400e90511ec7e49a6415d2c70ad094", func := "loop.example/configformatter/laws.FnExactWrapGreedy", spec := "fnExactWrapGreedy", inPlace := ["internal/bytealg.IndexByteString", "internal/bytealg.IndexString"], named := ["internal/bytealg.MaxLen"], apart := false, narrowed := true }
def FnExactWrapGreedyUptoSaid : Prop := fnExactWrapGreedyUptoRow.holds Try.pinned (OpenSpec.upto fnExactWrapGreedySpec)

/-- 'laws.FnExactWrapLines', WHERE WHAT IT READS IS OF BULK AT MOST 1048576: true; the input reads as it did. -/
def fnExactWrapLinesUptoRow : OpenClaim := { program := "ytbddokfcohnndaa", sum := "d90211ed2d8474b2150bb05d5cfe0f999e400e90511ec7e49a6415d2c70ad094", func := "loop.example/configformatter/laws.FnExactWrapLines", spec := "fnExactWrapLines", inPlace := ["internal/bytealg.IndexByteString", "internal/bytealg.IndexString"], named := ["internal/bytealg.MaxLen"], apart := false, narrowed := true }
def FnExactWrapLinesUptoSaid : Prop := fnExactWrapLinesUptoRow.holds Try.pinned (OpenSpec.upto fnExactWrapLinesSpec)

/-- 'laws.FnWordsFit', WHERE WHAT IT READS IS OF BULK AT MOST 1048576: true; the input reads as it did. -/
def fnWordsFitUptoRow : OpenClaim := { program := "ytbddokfcohnndaa", sum := "d90211ed2d8474b2150bb05d5cfe0f999e400e90511ec7e49a6415d2c70ad094", func := "loop.example/configformatter/laws.FnWordsFit", spec := "fnWordsFit", inPlace := ["internal/bytealg.IndexByteString", "internal/bytealg.IndexString"], named := ["internal/bytealg.MaxLen"], apart := false, narrowed := true }
def FnWordsFitUptoSaid : Prop := fnWordsFitUptoRow.holds Try.pinned (OpenSpec.upto fnWordsFitSpec)

/-- 'laws.FnWrapCost', WHERE WHAT IT READS IS OF BULK AT MOST 1048576: true; the input reads as it did. -/
def fnWrapCostUptoRow : OpenClaim := { program := "ytbddokfcohnndaa", sum := "d90211ed2d8474b2150bb05d5cfe0f999e400e90511ec7e49a6415d2c70ad094", func := "loop.example/configformatter/laws.FnWrapCost", spec := "fnWrapCost", inPlace := ["internal/bytealg.IndexByteString", "internal/bytealg.IndexString"], named := ["internal/bytealg.MaxLen"], apart := false, narrowed := true }
def FnWrapCostUptoSaid : Prop := fnWrapCostUptoRow.holds Try.pinned (OpenSpec.upto fnWrapCostSpec)

/-- 'laws.FnWrapGreedy', WHERE WHAT IT READS IS OF BULK AT MOST 1048576: true; the input reads as it did. -/
def fnWrapGreedyUptoRow : OpenClaim := { program := "ytbddokfcohnndaa", sum := "d90211ed2d8474b2150bb05d5cfe0f999e400e90511ec7e49a6415d2c70ad094", func := "loop.example/configformatter/laws.FnWrapGreedy", spec := "fnWrapGreedy", inPlace := ["internal/bytealg.IndexByteString", "internal/bytealg.IndexString"], named := ["internal/bytealg.MaxLen"], apart := false, narrowed := true }
def FnWrapGreedyUptoSaid : Prop := fnWrapGreedyUptoRow.holds Try.pinned (OpenSpec.upto fnWrapGreedySpec)

/-- 'laws.FnWrapWider', WHERE WHAT IT READS IS OF BULK AT MOST 1048576: true; the input reads as it did. -/
def fnWrapWiderUptoRow : OpenClaim := { program := "ytbddokfcohnndaa", sum := "d90211ed2d8474b2150bb05d5cfe0f999e400e90511ec7e49a6415d2c70ad094", func := "loop.example/configformatter/laws.FnWrapWider", spec := "fnWrapWider", inPlace := ["internal/bytealg.IndexByteString", "internal/bytealg.IndexString"], named := ["internal/bytealg.MaxLen"], apart := false, narrowed := true }
def FnWrapWiderUptoSaid : Prop := fnWrapWiderUptoRow.holds Try.pinned (OpenSpec.upto fnWrapWiderSpec)

/-- 'laws.FnWrapLines', WHERE WHAT IT READS IS OF BULK AT MOST 1048576: true; the input reads as it did. -/
def fnWrapLinesUptoRow : OpenClaim := { program := "ytbddokfcohnndaa", sum := "d90211ed2d8474b2150bb05d5cfe0f999e400e90511ec7e49a6415d2c70ad094", func := "loop.example/configformatter/laws.FnWrapLines", spec := "fnWrapLines", inPlace := ["internal/bytealg.IndexByteString", "internal/bytealg.IndexString"], named := ["internal/bytealg.MaxLen"], apart := false, narrowed := true }
def FnWrapLinesUptoSaid : Prop := fnWrapLinesUptoRow.holds Try.pinned (OpenSpec.upto fnWrapLinesSpec)

end Rows
end Go.Proofs.Ytbddokfcohnndaa
