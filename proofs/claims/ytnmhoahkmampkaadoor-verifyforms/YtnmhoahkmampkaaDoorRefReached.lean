/- What the document's own Reached returns: the whole. -/
import Derived.Test.YtnmhoahkmampkaaDoorRefReach
namespace Go.Proofs.YtnmhoahkmampkaaDoor
open Go.RowKit
set_option linter.unusedVariables false

end Go.Proofs.YtnmhoahkmampkaaDoor
