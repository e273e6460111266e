/- What each function of package wrap returns, for every input: Wrap, number.Is, isOp, divides, oneIf, exact, Do. -/
import Derived.Test.YtaimpljkbpnigaaGreatDoorRows
import Derived.Test.YtaimpljkbpnigaaGreatDoorJ1p
import Derived.WalkKit
import Derived.WalkSpells
import Derived.WalkLawsBesides
namespace Go.Proofs.YtaimpljkbpnigaaGreatDoor
open Go.RowKit

theorem hid {p : Prop} (h : p) : Hid p := h
theorem ret_int {k : IntKind} {a b : Int} (h : a = b) : Ending.returned (.int k a) = .returned (.int k b) := by rw [h]
theorem ret_bool {a b : Bool} (h : a = b) : Ending.returned (.bool a) = .returned (.bool b) := by rw [h]

set_option maxHeartbeats 400000 in
theorem isNumber_any (x : Int) (w : World) :
    Calls Tryz.prog 93 #[.int .i64 x] w fun e w' => e = .returned (.bool (isNum x)) ∧ w' = w := by
  by_cases h : -2147483648 ≤ x
  · go_enter Tryz.func93, Tryz.ntmps93
    go_wp2
    go_ret
    exact ⟨ret_bool (by simp [isNum, h]), rfl⟩
  · have h' : x < -2147483648 := by omega
    go_enter Tryz.func93, Tryz.ntmps93
    go_wp2
    go_ret
    exact ⟨ret_bool (by simp [isNum]; omega), rfl⟩

end Go.Proofs.YtaimpljkbpnigaaGreatDoor
