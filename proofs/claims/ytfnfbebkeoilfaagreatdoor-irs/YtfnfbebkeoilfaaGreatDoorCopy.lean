/- What the copying functions of the statements (CopyInss, CopyProgram) return: the same, in memory of their own. -/
import Derived.Test.YtfnfbebkeoilfaaGreatDoorSame
import Derived.Deep.AppendLies
namespace Go.Proofs.YtfnfbebkeoilfaaGreatDoor
open Go.RowKit
set_option linter.unusedVariables false

theorem Tryz.infoIns : (Tryz.prog.info? 74).map (fun i => (i.zero, i.size, i.bytes)) = some (some (.agg #[.int .i64 0, .int .i64 0]), 2, 16) := by kernel_rfl

theorem Tryz.infoFunc : (Tryz.prog.info? 65).map (fun i => (i.zero, i.size, i.bytes)) = some (some (.agg #[.int .i64 0, .int .i64 0, .slice none 0 0]), 3, 40) := by kernel_rfl

end Go.Proofs.YtfnfbebkeoilfaaGreatDoor
