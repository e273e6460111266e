/- What the document's own answers for wrap (Wrap, Number, Do) return: the same, for every input. -/
import Derived.Test.YtnmhoahkmampkaaDoorDo
namespace Go.Proofs.YtnmhoahkmampkaaDoor
open Go.RowKit

set_option maxHeartbeats 400000 in
theorem num_any (x : Int) (w : World) :
    Calls Tryd.prog 7 #[.int .i64 x] w fun e w' => e = .returned (.int .i64 x) ∧ w' = w := by
  go_enter Tryd.func7, Tryd.ntmps7
  go_wp2
  go_ret
  exact ⟨rfl, rfl⟩

theorem ex3 (a b : Int) : a + b = exV 3 a b := rfl
theorem ex4 (a b : Int) : a - b = exV 4 a b := rfl
theorem ex5 (a b : Int) : a * b = exV 5 a b := rfl
theorem ex6 (a b : Int) : a.tdiv b = exV 6 a b := rfl
theorem ex7 (a b : Int) : a.tmod b = exV 7 a b := rfl
theorem ex8 (a b : Int) : oneI (a == b) = exV 8 a b := rfl
theorem ex9 (a b : Int) : oneI (decide (a < b)) = exV 9 a b := rfl

end Go.Proofs.YtnmhoahkmampkaaDoor
