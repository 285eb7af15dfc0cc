/- The document's sums, walked. -/
import Derived.Test.YtildnadkfonlhaaProg
import Derived.Test.YtildnadkfonlhaaR1
import Derived.Test.YtildnadkfonlhaaMu
set_option linter.unusedVariables false
set_option linter.unusedSimpArgs false
namespace Go.Proofs.Ytildnadkfonlhaa.Fx
open Go Go.RowKit Wm
end Go.Proofs.Ytildnadkfonlhaa.Fx
