/- What the document's own Next returns. -/
import Derived.Test.YtnmhoahkmampkaaDoorFlowB
namespace Go.Proofs.YtnmhoahkmampkaaDoor
open Go.RowKit
set_option linter.unusedVariables false

theorem br_nonneg {l : List (Int × Int)} {p : Nat} {k a : Int} (hc : codeB l = true) (hp : p < l.length) (e : l.getD p (0, 0) = (k, a)) (hk : k = 12 ∨ k = 13) : 0 ≤ a := by
  unfold codeB at hc
  simp only [Bool.and_eq_true, List.all_eq_true] at hc
  have := hc.2 (l.getD p (0, 0)) (by simp [List.getD_eq_getElem?_getD, hp])
  rw [e] at this
  rcases hk with rfl | rfl
  · simp [may12, belowB] at this; omega
  · simp [may13, belowB] at this; omega

end Go.Proofs.YtnmhoahkmampkaaDoor
