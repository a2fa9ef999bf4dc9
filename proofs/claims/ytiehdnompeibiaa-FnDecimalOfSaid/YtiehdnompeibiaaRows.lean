/-
  No cell of these rows narrows 'for every input' (looked for: loops, veiled, ifaces, maps, wideKeys, modest, calm, conditions, laid).
  DERIVED. THE GIVEN ROWS OF THIS SEAT. 8 by the template 'for every input the law returns true; each argument reads behind the call as it read before'; 0 by the template 'total and deterministic' (their statements: YtiehdnompeibiaaTotals.lean).
  GIVEN WITH THE SEED: the statements are not yours to turn. If you find one false, say at which input.
  Laid BY PROGRAM, IN A SANDBOX (cutbox-rows.mjs): the forced cells as the released guide's own fill.sh prints them over the translation c0c4446629b8f4e2… (all of the seat's roots in one cut). By AI agents, Wed Nov 11 2026. No macro, syntax, notation, axiom, sorry.
-/
import Derived.Test.YtiehdnompeibiaaChecked
import GoSem.Claim
import GoSem.ClaimJoined
import GoSem.ClaimMapViews
import Derived.JoinedTies
import Derived.KernelRfl
namespace Go.Proofs.Ytiehdnompeibiaa
/- THE CELL 'sum', in the pinned program and in every row, IS THE sha256 OF THE DUMP (.gsa) THAT YtiehdnompeibiaaProg.lean LOADS. Nothing in Lean hashes anything: it is a label: what it is worth is what the hold of that sum in a sandbox is worth. -/
noncomputable def Try.pinned : Pinned := { name := "ytiehdnompeibiaa", sum := "c0c4446629b8f4e2f0ea8ee4b6f0ef19f9781f9c1b91b5a06abc321f71bb8bc3", checked := Try.checked }
namespace Rows
def none {H : Type} : Left H := { results := [], args := [] }

/-- 'laws.FnExactNameValid': WHATEVER THE INPUT: true; the input reads as it did. -/
def fnExactNameValidSpec : ChangeSpec := { name := "fnExactNameValid", fn := fun _ => fun
  | [d] => { results := [.lit (.bool true)], args := [d] }
  | _ => none }
def fnExactNameValidRow : OpenClaim := { program := "ytiehdnompeibiaa", sum := "c0c4446629b8f4e2f0ea8ee4b6f0ef19f9781f9c1b91b5a06abc321f71bb8bc3", func := "loop.example/configformatter/laws.FnExactNameValid", spec := "fnExactNameValid", inPlace := ["internal/bytealg.IndexByteString", "internal/bytealg.IndexString"], named := ["internal/bytealg.MaxLen"], apart := false }
def FnExactNameValidSaid : Prop := fnExactNameValidRow.holds Try.pinned (OpenSpec.ofChange fnExactNameValidSpec)

/-- ITS FALSE NEIGHBOUR: 'it returns false'. Refute it at one input. -/
def fnExactNameValidWrong : ChangeSpec := { name := "fnExactNameValid", fn := fun _ => fun
  | [d] => { results := [.lit (.bool false)], args := [d] }
  | _ => none }
def FnExactNameValidWrongFalsely : Prop := fnExactNameValidRow.holds Try.pinned (OpenSpec.ofChange fnExactNameValidWrong)

/-- 'laws.FnNameValid': WHATEVER THE INPUT: true; the input reads as it did. -/
def fnNameValidSpec : ChangeSpec := { name := "fnNameValid", fn := fun _ => fun
  | [d] => { results := [.lit (.bool true)], args := [d] }
  | _ => none }
def fnNameValidRow : OpenClaim := { program := "ytiehdnompeibiaa", sum := "c0c4446629b8f4e2f0ea8ee4b6f0ef19f9781f9c1b91b5a06abc321f71bb8bc3", func := "loop.example/configformatter/laws.FnNameValid", spec := "fnNameValid", inPlace := ["internal/bytealg.IndexByteString", "internal/bytealg.IndexString"], named := ["internal/bytealg.MaxLen"], apart := false }
def FnNameValidSaid : Prop := fnNameValidRow.holds Try.pinned (OpenSpec.ofChange fnNameValidSpec)

/-- ITS FALSE NEIGHBOUR: 'it returns false'. Refute it at one input. -/
def fnNameValidWrong : ChangeSpec := { name := "fnNameValid", fn := fun _ => fun
  | [d] => { results := [.lit (.bool false)], args := [d] }
  | _ => none }
def FnNameValidWrongFalsely : Prop := fnNameValidRow.holds Try.pinned (OpenSpec.ofChange fnNameValidWrong)

/-- 'laws.FnExactTokensOf': WHATEVER THE INPUT: true; the input reads as it did. -/
def fnExactTokensOfSpec : ChangeSpec := { name := "fnExactTokensOf", fn := fun _ => fun
  | [d] => { results := [.lit (.bool true)], args := [d] }
  | _ => none }
def fnExactTokensOfRow : OpenClaim := { program := "ytiehdnompeibiaa", sum := "c0c4446629b8f4e2f0ea8ee4b6f0ef19f9781f9c1b91b5a06abc321f71bb8bc3", func := "loop.example/configformatter/laws.FnExactTokensOf", spec := "fnExactTokensOf", apart := false }
def FnExactTokensOfSaid : Prop := fnExactTokensOfRow.holds Try.pinned (OpenSpec.ofChange fnExactTokensOfSpec)

/-- ITS FALSE NEIGHBOUR: 'it returns false'. Refute it at one input. -/
def fnExactTokensOfWrong : ChangeSpec := { name := "fnExactTokensOf", fn := fun _ => fun
  | [d] => { results := [.lit (.bool false)], args := [d] }
  | _ => none }
def FnExactTokensOfWrongFalsely : Prop := fnExactTokensOfRow.holds Try.pinned (OpenSpec.ofChange fnExactTokensOfWrong)

/-- 'laws.FnTokensOf': WHATEVER THE INPUT: true; the input reads as it did. -/
def fnTokensOfSpec : ChangeSpec := { name := "fnTokensOf", fn := fun _ => fun
  | [d] => { results := [.lit (.bool true)], args := [d] }
  | _ => none }
def fnTokensOfRow : OpenClaim := { program := "ytiehdnompeibiaa", sum := "c0c4446629b8f4e2f0ea8ee4b6f0ef19f9781f9c1b91b5a06abc321f71bb8bc3", func := "loop.example/configformatter/laws.FnTokensOf", spec := "fnTokensOf", apart := false }
def FnTokensOfSaid : Prop := fnTokensOfRow.holds Try.pinned (OpenSpec.ofChange fnTokensOfSpec)

/-- ITS FALSE NEIGHBOUR: 'it returns false'. Refute it at one input. -/
def fnTokensOfWrong : ChangeSpec := { name := "fnTokensOf", fn := fun _ => fun
  | [d] => { results := [.lit (.bool false)], args := [d] }
  | _ => none }
def FnTokensOfWrongFalsely : Prop := fnTokensOfRow.holds Try.pinned (OpenSpec.ofChange fnTokensOfWrong)

/-- 'laws.FnExactWordsOf': WHATEVER THE INPUT: true; the input reads as it did. -/
def fnExactWordsOfSpec : ChangeSpec := { name := "fnExactWordsOf", fn := fun _ => fun
  | [d] => { results := [.lit (.bool true)], args := [d] }
  | _ => none }
def fnExactWordsOfRow : OpenClaim := { program := "ytiehdnompeibiaa", sum := "c0c4446629b8f4e2f0ea8ee4b6f0ef19f9781f9c1b91b5a06abc321f71bb8bc3", func := "loop.example/configformatter/laws.FnExactWordsOf", spec := "fnExactWordsOf", apart := false }
def FnExactWordsOfSaid : Prop := fnExactWordsOfRow.holds Try.pinned (OpenSpec.ofChange fnExactWordsOfSpec)

/-- ITS FALSE NEIGHBOUR: 'it returns false'. Refute it at one input. -/
def fnExactWordsOfWrong : ChangeSpec := { name := "fnExactWordsOf", fn := fun _ => fun
  | [d] => { results := [.lit (.bool false)], args := [d] }
  | _ => none }
def FnExactWordsOfWrongFalsely : Prop := fnExactWordsOfRow.holds Try.pinned (OpenSpec.ofChange fnExactWordsOfWrong)

/-- 'laws.FnWordsOf': WHATEVER THE INPUT: true; the input reads as it did. -/
def fnWordsOfSpec : ChangeSpec := { name := "fnWordsOf", fn := fun _ => fun
  | [d] => { results := [.lit (.bool true)], args := [d] }
  | _ => none }
def fnWordsOfRow : OpenClaim := { program := "ytiehdnompeibiaa", sum := "c0c4446629b8f4e2f0ea8ee4b6f0ef19f9781f9c1b91b5a06abc321f71bb8bc3", func := "loop.example/configformatter/laws.FnWordsOf", spec := "fnWordsOf", apart := false }
def FnWordsOfSaid : Prop := fnWordsOfRow.holds Try.pinned (OpenSpec.ofChange fnWordsOfSpec)

/-- ITS FALSE NEIGHBOUR: 'it returns false'. Refute it at one input. -/
def fnWordsOfWrong : ChangeSpec := { name := "fnWordsOf", fn := fun _ => fun
  | [d] => { results := [.lit (.bool false)], args := [d] }
  | _ => none }
def FnWordsOfWrongFalsely : Prop := fnWordsOfRow.holds Try.pinned (OpenSpec.ofChange fnWordsOfWrong)

/-- 'laws.FnTokenCount': WHATEVER THE INPUT: true; the input reads as it did. -/
def fnTokenCountSpec : ChangeSpec := { name := "fnTokenCount", fn := fun _ => fun
  | [d1, d2] => { results := [.lit (.bool true)], args := [d1, d2] }
  | _ => none }
def fnTokenCountRow : OpenClaim := { program := "ytiehdnompeibiaa", sum := "c0c4446629b8f4e2f0ea8ee4b6f0ef19f9781f9c1b91b5a06abc321f71bb8bc3", func := "loop.example/configformatter/laws.FnTokenCount", spec := "fnTokenCount", apart := false }
def FnTokenCountSaid : Prop := fnTokenCountRow.holds Try.pinned (OpenSpec.ofChange fnTokenCountSpec)

/-- ITS FALSE NEIGHBOUR: 'it returns false'. Refute it at one input. -/
def fnTokenCountWrong : ChangeSpec := { name := "fnTokenCount", fn := fun _ => fun
  | [d1, d2] => { results := [.lit (.bool false)], args := [d1, d2] }
  | _ => none }
def FnTokenCountWrongFalsely : Prop := fnTokenCountRow.holds Try.pinned (OpenSpec.ofChange fnTokenCountWrong)

/-- 'laws.FnDecimalOf': WHATEVER THE INPUT: true; the input reads as it did. -/
def fnDecimalOfSpec : ChangeSpec := { name := "fnDecimalOf", fn := fun _ => fun
  | [d] => { results := [.lit (.bool true)], args := [d] }
  | _ => none }
def fnDecimalOfRow : OpenClaim := { program := "ytiehdnompeibiaa", sum := "c0c4446629b8f4e2f0ea8ee4b6f0ef19f9781f9c1b91b5a06abc321f71bb8bc3", func := "loop.example/configformatter/laws.FnDecimalOf", spec := "fnDecimalOf", inPlace := ["internal/bytealg.IndexByteString", "internal/bytealg.IndexString"], named := ["internal/bytealg.MaxLen"], apart := false }
def FnDecimalOfSaid : Prop := fnDecimalOfRow.holds Try.pinned (OpenSpec.ofChange fnDecimalOfSpec)

/-- ITS FALSE NEIGHBOUR: 'it returns false'. Refute it at one input. -/
def fnDecimalOfWrong : ChangeSpec := { name := "fnDecimalOf", fn := fun _ => fun
  | [d] => { results := [.lit (.bool false)], args := [d] }
  | _ => none }
def FnDecimalOfWrongFalsely : Prop := fnDecimalOfRow.holds Try.pinned (OpenSpec.ofChange fnDecimalOfWrong)

/- THE SECOND FORM. 'bulk': how many values and letters a reading holds, each counted each time it is reached (what is shared counts as often as it is met; a slice's spare places count too). A statement '..UptoSaid' is the law's where the arguments, and the package variables that the reading takes, are together of bulk at most 1048576: NARROWER than '..Said'. Prove '..Said' where nothing that the law and all that it calls make is longer than what came in: it says more and counts as full. Else prove '..UptoSaid'. A law counts once. -/
mutual
def uptoBulk {H : Type} : DataW H → Nat
  | .lit (.string bytes) => bytes.length + 1
  | .lit _ => 1
  | .nil => 1
  | .ptr d => uptoBulk d + 1
  | .slice elems spare => uptoBulkAll elems + uptoBulkAll spare + 1
  | .agg parts => uptoBulkAll parts + 1
  | .iface _ d => uptoBulk d + 1
  | .map entries => uptoBulkEntries entries + 1
  | .held _ => 1
def uptoBulkAll {H : Type} : List (DataW H) → Nat
  | [] => 0
  | d :: r => uptoBulk d + uptoBulkAll r
def uptoBulkEntries {H : Type} : List (Lit × DataW H) → Nat
  | [] => 0
  | x :: r => uptoBulkEntry x + uptoBulkEntries r
def uptoBulkEntry {H : Type} : Lit × DataW H → Nat
  | (.string bytes, d) => bytes.length + uptoBulk d + 1
  | (_, d) => uptoBulk d + 1
 end
def uptoSmall : (H : Type) → List (DataW H) → Bool := fun _ ds => decide (uptoBulkAll ds ≤ 1048576)
def OpenSpec.upto (s : _root_.Go.ChangeSpec) : _root_.Go.OpenSpec := { _root_.Go.OpenSpec.ofChange s with cond := some uptoSmall }

/-- 'laws.FnExactNameValid', WHERE WHAT IT READS IS OF BULK AT MOST 1048576: true; the input reads as it did. -/
def fnExactNameValidUptoRow : OpenClaim := { program := "ytiehdnompeibiaa", sum := "c0c4446629b8f4e2f0ea8ee4b6f0ef19f9781f9c1b91b5a06abc321f71bb8bc3", func := "loop.example/configformatter/laws.FnExactNameValid", spec := "fnExactNameValid", inPlace := ["internal/bytealg.IndexByteString", "internal/bytealg.IndexString"], named := ["internal/bytealg.MaxLen"], apart := false, narrowed := true }
def FnExactNameValidUptoSaid : Prop := fnExactNameValidUptoRow.holds Try.pinned (OpenSpec.upto fnExactNameValidSpec)

/-- 'laws.FnNameValid', WHERE WHAT IT READS IS OF BULK AT MOST 1048576: true; the input reads as it did. -/
def fnNameValidUptoRow : OpenClaim := { program := "ytiehdnompeibiaa", sum := "c0c4446629b8f4e2f0ea8ee4b6f0ef19f9781f9c1b91b5a06abc321f71bb8bc3", func := "loop.example/configformatter/laws.FnNameValid", spec := "fnNameValid", inPlace := ["internal/bytealg.IndexByteString", "internal/bytealg.IndexString"], named := ["internal/bytealg.MaxLen"], apart := false, narrowed := true }
def FnNameValidUptoSaid : Prop := fnNameValidUptoRow.holds Try.pinned (OpenSpec.upto fnNameValidSpec)

/-- 'laws.FnExactTokensOf', WHERE WHAT IT READS IS OF BULK AT MOST 1048576: true; the input reads as it did. -/
def fnExactTokensOfUptoRow : OpenClaim := { program := "ytiehdnompeibiaa", sum := "c0c4446629b8f4e2f0ea8ee4b6f0ef19f9781f9c1b91b5a06abc321f71bb8bc3", func := "loop.example/configformatter/laws.FnExactTokensOf", spec := "fnExactTokensOf", apart := false, narrowed := true }
def FnExactTokensOfUptoSaid : Prop := fnExactTokensOfUptoRow.holds Try.pinned (OpenSpec.upto fnExactTokensOfSpec)

/-- 'laws.FnTokensOf', WHERE WHAT IT READS IS OF BULK AT MOST 1048576: true; the input reads as it did. -/
def fnTokensOfUptoRow : OpenClaim := { program := "ytiehdnompeibiaa", sum := "c0c4446629b8f4e2f0ea8ee4b6f0ef19f9781f9c1b91b5a06abc321f71bb8bc3", func := "loop.example/configformatter/laws.FnTokensOf", spec := "fnTokensOf", apart := false, narrowed := true }
def FnTokensOfUptoSaid : Prop := fnTokensOfUptoRow.holds Try.pinned (OpenSpec.upto fnTokensOfSpec)

/-- 'laws.FnExactWordsOf', WHERE WHAT IT READS IS OF BULK AT MOST 1048576: true; the input reads as it did. -/
def fnExactWordsOfUptoRow : OpenClaim := { program := "ytiehdnompeibiaa", sum := "c0c4446629b8f4e2f0ea8ee4b6f0ef19f9781f9c1b91b5a06abc321f71bb8bc3", func := "loop.example/configformatter/laws.FnExactWordsOf", spec := "fnExactWordsOf", apart := false, narrowed := true }
def FnExactWordsOfUptoSaid : Prop := fnExactWordsOfUptoRow.holds Try.pinned (OpenSpec.upto fnExactWordsOfSpec)

/-- 'laws.FnWordsOf', WHERE WHAT IT READS IS OF BULK AT MOST 1048576: true; the input reads as it did. -/
def fnWordsOfUptoRow : OpenClaim := { program := "ytiehdnompeibiaa", sum := "c0c4446629b8f4e2f0ea8ee4b6f0ef19f9781f9c1b91b5a06abc321f71bb8bc3", func := "loop.example/configformatter/laws.FnWordsOf", spec := "fnWordsOf", apart := false, narrowed := true }
def FnWordsOfUptoSaid : Prop := fnWordsOfUptoRow.holds Try.pinned (OpenSpec.upto fnWordsOfSpec)

/-- 'laws.FnTokenCount', WHERE WHAT IT READS IS OF BULK AT MOST 1048576: true; the input reads as it did. -/
def fnTokenCountUptoRow : OpenClaim := { program := "ytiehdnompeibiaa", sum := "c0c4446629b8f4e2f0ea8ee4b6f0ef19f9781f9c1b91b5a06abc321f71bb8bc3", func := "loop.example/configformatter/laws.FnTokenCount", spec := "fnTokenCount", apart := false, narrowed := true }
def FnTokenCountUptoSaid : Prop := fnTokenCountUptoRow.holds Try.pinned (OpenSpec.upto fnTokenCountSpec)

/-- 'laws.FnDecimalOf', WHERE WHAT IT READS IS OF BULK AT MOST 1048576: true; the input reads as it did. -/
def fnDecimalOfUptoRow : OpenClaim := { program := "ytiehdnompeibiaa", sum := "c0c4446629b8f4e2f0ea8ee4b6f0ef19f9781f9c1b91b5a06abc321f71bb8bc3", func := "loop.example/configformatter/laws.FnDecimalOf", spec := "fnDecimalOf", inPlace := ["internal/bytealg.IndexByteString", "internal/bytealg.IndexString"], named := ["internal/bytealg.MaxLen"], apart := false, narrowed := true }
def FnDecimalOfUptoSaid : Prop := fnDecimalOfUptoRow.holds Try.pinned (OpenSpec.upto fnDecimalOfSpec)

end Rows
end Go.Proofs.Ytiehdnompeibiaa
