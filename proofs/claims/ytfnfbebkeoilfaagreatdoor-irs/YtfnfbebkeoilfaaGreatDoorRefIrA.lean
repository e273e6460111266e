/- The document's own answer: is it a register; what a code's instruction may be: what all kinds share. Written by refirgen.py. -/
import Derived.Test.YtfnfbebkeoilfaaGreatDoorMemIr
import Derived.Test.YtfnfbebkeoilfaaGreatDoorRefDo
import Derived.Test.YtfnfbebkeoilfaaGreatDoorWpName
import Derived.Deep.DeepCutAuto
namespace Go.Proofs.YtfnfbebkeoilfaaGreatDoor
open Go.RowKit
set_option linter.unusedVariables false

set_option maxHeartbeats 1000000 in
theorem refReg_any (cf rg : Int) (ca : Option Addr) (cn cc : Nat) (ma : Option Addr) (mn mc : Nat) (x : Int) (w : World) :
    Calls Tryz.prog 38 #[.agg #[.int .i64 cf, .int .i64 rg, .slice ca cn cc, .slice ma mn mc], .int .i64 x] w fun e w' => e = .returned (.bool (regB rg x)) ∧ Below w.heap.size w w' := by
  by_cases h0 : 0 ≤ x
  · by_cases h1 : x < rg
    · have E : Hid (regB rg x = true) := hid (by simp [regB]; omega)
      go_enter Tryz.func38, Tryz.ntmps38
      go_wp2_with fail
      go_ret
      exact ⟨ret_bool (by rw [E.out]), by go_grown⟩
    · have E : Hid (regB rg x = false) := hid (by simp [regB]; omega)
      have h1' : decide (x < rg) = false := by simpa using h1
      go_enter Tryz.func38, Tryz.ntmps38
      go_wp2_with fail
      go_ret
      exact ⟨ret_bool (by rw [E.out]), by go_grown⟩
  · have E : Hid (regB rg x = false) := hid (by simp [regB]; omega)
    go_enter Tryz.func38, Tryz.ntmps38
    go_wp2_with fail
    go_ret
    exact ⟨ret_bool (by rw [E.out]), by go_grown⟩

end Go.Proofs.YtfnfbebkeoilfaaGreatDoor
