/- What the laws ask of two floats: a word is the same as itself. No law is stated here. -/
import Derived.Test.YtlcafjdinjdllaaGa
import Derived.Test.YtlcafjdinjdllaaFloat
namespace Go.Proofs.Ytlcafjdinjdllaa
set_option linter.unusedSimpArgs false
set_option linter.unusedVariables false
open Go.RowKit

end Go.Proofs.Ytlcafjdinjdllaa
