/- What the comparing functions of the statements (SameInss, SameProgram) return. What the copying functions of the statements (CopyInss, CopyProgram) return: the same, in memory of their own. -/
import Derived.Test.YtfnfbebkeoilfaaGreatDoorRows
import Derived.Test.YtfnfbebkeoilfaaGreatDoorMem
import Derived.Test.YtfnfbebkeoilfaaGreatDoorWrap
import Derived.RegionTactic
import Derived.BigRegion
import Derived.Deep.RegionHeld3
import Derived.Deep.AppendLies
namespace Go.Proofs.YtfnfbebkeoilfaaGreatDoor
open Go.RowKit
set_option linter.unusedVariables false

theorem take_eq_step {α : Type} [DecidableEq α] {l k : List α} {q : Nat} {d : α} (hl : q < l.length) (hk : q < k.length) (h : l.take q = k.take q) (e : l.getD q d = k.getD q d) : l.take (q + 1) = k.take (q + 1) := by
  rw [List.take_succ_eq_append_getElem hl, List.take_succ_eq_append_getElem hk, h]
  simp [List.getD_eq_getElem?_getD, hl, hk] at e
  rw [e]

theorem ne_at {α : Type} {l k : List α} {q : Nat} {d : α} (e : ¬ l.getD q d = k.getD q d) : ¬ l = k := fun h => e (by rw [h])

end Go.Proofs.YtfnfbebkeoilfaaGreatDoor

namespace Go.Proofs.YtfnfbebkeoilfaaGreatDoor
open Go.RowKit
set_option linter.unusedVariables false

theorem Tryz.infoIns : (Tryz.prog.info? 74).map (fun i => (i.zero, i.size, i.bytes)) = some (some (.agg #[.int .i64 0, .int .i64 0]), 2, 16) := by kernel_rfl

theorem Tryz.infoFunc : (Tryz.prog.info? 65).map (fun i => (i.zero, i.size, i.bytes)) = some (some (.agg #[.int .i64 0, .int .i64 0, .slice none 0 0]), 3, 40) := by kernel_rfl

end Go.Proofs.YtfnfbebkeoilfaaGreatDoor
