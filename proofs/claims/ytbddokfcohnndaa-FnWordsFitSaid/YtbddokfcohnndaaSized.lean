/-
  Texts whose lengths are lengths.
-/
import Derived.Test.YtbddokfcohnndaaRows
import Derived.WalkKit
namespace Go.Proofs.Ytbddokfcohnndaa
open Go.RowKit
set_option linter.unusedVariables false

/-- Texts whose lengths are lengths. -/
def Sized (L : List ByteArray) : Prop := ∀ t ∈ L, t.size ≤ maxLen

end Go.Proofs.Ytbddokfcohnndaa
