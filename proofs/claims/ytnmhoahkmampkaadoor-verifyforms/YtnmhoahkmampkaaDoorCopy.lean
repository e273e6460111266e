/- What the copying functions of the statements (CopyInss, CopyProgram) return: the same, in memory of their own. -/
import Derived.Test.YtnmhoahkmampkaaDoorSame
import Derived.Deep.AppendLies
namespace Go.Proofs.YtnmhoahkmampkaaDoor
open Go.RowKit
set_option linter.unusedVariables false

theorem Tryd.infoIns : (Tryd.prog.info? 24).map (fun i => (i.zero, i.size, i.bytes)) = some (some (.agg #[.int .i64 0, .int .i64 0]), 2, 16) := by kernel_rfl

theorem Tryd.infoFunc : (Tryd.prog.info? 30).map (fun i => (i.zero, i.size, i.bytes)) = some (some (.agg #[.int .i64 0, .int .i64 0, .slice none 0 0]), 3, 40) := by kernel_rfl

end Go.Proofs.YtnmhoahkmampkaaDoor
