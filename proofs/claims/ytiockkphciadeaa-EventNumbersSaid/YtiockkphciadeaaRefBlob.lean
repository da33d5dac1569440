/-
  The definition's GetBlob.
-/
import Derived.Test.YtiockkphciadeaaRefLay
set_option linter.unusedSimpArgs false
namespace Go.Proofs.Ytiockkphciadeaa
open Go.RowKit
open Go.Lib (byteCells byteCells_length byteCells_append uvarint)
set_option linter.unusedVariables false

end Go.Proofs.Ytiockkphciadeaa
