/- What the document's own answers for wrap (Wrap, Number, Do) return: the same, for every input. -/
import Derived.Test.YtaimpljkbpnigaaGreatDoorDo
namespace Go.Proofs.YtaimpljkbpnigaaGreatDoor
open Go.RowKit

set_option maxHeartbeats 400000 in
theorem refNumber_any (x : Int) (w : World) :
    Calls Tryz.prog 92 #[.int .i64 x] w fun e w' => e = .returned (.bool (isNum x)) ∧ w' = w := by
  by_cases h : -2147483648 ≤ x
  · go_enter Tryz.func92, Tryz.ntmps92
    go_wp2
    go_ret
    exact ⟨ret_bool (by simp [isNum, h]), rfl⟩
  · have h' : x < -2147483648 := by omega
    go_enter Tryz.func92, Tryz.ntmps92
    go_wp2
    go_ret
    exact ⟨ret_bool ((num_not x).2 (Or.inl h')).symm, rfl⟩

set_option maxHeartbeats 400000 in
theorem num_any (x : Int) (w : World) :
    Calls Tryz.prog 11 #[.int .i64 x] w fun e w' => e = .returned (.int .i64 x) ∧ w' = w := by
  go_enter Tryz.func11, Tryz.ntmps11
  go_wp2
  go_ret
  exact ⟨rfl, rfl⟩

theorem ex3 (a b : Int) : a + b = exV 3 a b := rfl
theorem ex4 (a b : Int) : a - b = exV 4 a b := rfl
theorem ex5 (a b : Int) : a * b = exV 5 a b := rfl
theorem ex6 (a b : Int) : a.tdiv b = exV 6 a b := rfl
theorem ex7 (a b : Int) : a.tmod b = exV 7 a b := rfl
theorem ex8 (a b : Int) : oneI (a == b) = exV 8 a b := rfl
theorem ex9 (a b : Int) : oneI (decide (a < b)) = exV 9 a b := rfl

end Go.Proofs.YtaimpljkbpnigaaGreatDoor
