/- What each function of package wrap returns, for every input: Wrap, isNumber, isOp, divides, oneIf, exact, Do. -/
import Derived.Test.YtdaloaflmnimaaaGreatDoorRows
import Derived.Test.YtdaloaflmnimaaaGreatDoorPlain
import Derived.WalkKit
import Derived.WalkSpells
import Derived.WalkLawsBesides
namespace Go.Proofs.YtdaloaflmnimaaaGreatDoor
open Go.RowKit

theorem hid {p : Prop} (h : p) : Hid p := h
theorem ret_int {k : IntKind} {a b : Int} (h : a = b) : Ending.returned (.int k a) = .returned (.int k b) := by rw [h]
theorem ret_bool {a b : Bool} (h : a = b) : Ending.returned (.bool a) = .returned (.bool b) := by rw [h]

set_option maxHeartbeats 400000 in
theorem wrap_any (x : Int) (w : World) :
    Calls Tryz.prog 61 #[.int .i64 x] w fun e w' => e = .returned (.int .i64 (wrap32 x)) ∧ w' = w := by
  go_enter Tryz.func61, Tryz.ntmps61
  go_wp2
  go_ret
  exact ⟨ret_int (wrap64_wrap32 x), rfl⟩

end Go.Proofs.YtdaloaflmnimaaaGreatDoor
