/- What the comparing functions of the statements (SameInss, SameProgram) return. -/
import Derived.Test.YtfnfbebkeoilfaaGreatDoorRows
import Derived.Test.YtfnfbebkeoilfaaGreatDoorMem
import Derived.Test.YtfnfbebkeoilfaaGreatDoorWrap
import Derived.RegionTactic
import Derived.BigRegion
import Derived.Deep.RegionHeld3
namespace Go.Proofs.YtfnfbebkeoilfaaGreatDoor
open Go.RowKit
set_option linter.unusedVariables false

theorem take_eq_step {α : Type} [DecidableEq α] {l k : List α} {q : Nat} {d : α} (hl : q < l.length) (hk : q < k.length) (h : l.take q = k.take q) (e : l.getD q d = k.getD q d) : l.take (q + 1) = k.take (q + 1) := by
  rw [List.take_succ_eq_append_getElem hl, List.take_succ_eq_append_getElem hk, h]
  simp [List.getD_eq_getElem?_getD, hl, hk] at e
  rw [e]

theorem ne_at {α : Type} {l k : List α} {q : Nat} {d : α} (e : ¬ l.getD q d = k.getD q d) : ¬ l = k := fun h => e (by rw [h])

end Go.Proofs.YtfnfbebkeoilfaaGreatDoor
