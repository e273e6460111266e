/- What the document's own FuncMay and Packs return. -/
import Derived.Test.YtnmhoahkmampkaaDoorPlain3
import Derived.Test.YtnmhoahkmampkaaDoorSame
import Derived.Test.YtnmhoahkmampkaaDoorInsEff
namespace Go.Proofs.YtnmhoahkmampkaaDoor
open Go.RowKit
set_option linter.unusedVariables false

theorem fnB_args {x y : Int} {l : List (Int × Int)} (h : x < 0 ∨ 4 < x ∨ y < x ∨ 8 < y) : fnB (x, y, l) = false := by simp [fnB]; omega
theorem fnB_code {x y : Int} {l : List (Int × Int)} (h : codeB l = false) : fnB (x, y, l) = false := by simp [fnB, h]
theorem fnB_yes {x y : Int} {l : List (Int × Int)} (h1 : ¬ x < 0) (h2 : ¬ 4 < x) (h3 : ¬ y < x) (h4 : ¬ 8 < y) (h : codeB l = true) : fnB (x, y, l) = true := by simp [fnB, h]; omega

end Go.Proofs.YtnmhoahkmampkaaDoor
