/- The law's own opening question (awake) is answered yes. -/
import Derived.Test.YtohjffimbeddpaaRefDo
namespace Go.Proofs.Ytohjffimbeddpaa
open Go.RowKit

set_option maxHeartbeats 1000000 in
theorem awake_any (w : World) :
    Calls Try.prog 14 #[] w fun e w' => e = .returned (.bool true) ∧ w' = w := by
  have v1 : doV 3 2147483647 1 = -2147483648 := by decide +kernel
  have t1 : trapB 3 2147483647 1 = false := by decide +kernel
  have x1 : doE 3 2147483647 1 = 0 := by decide +kernel
  have v2 : doV 6 (-2147483648) (-1) = -2147483648 := by decide +kernel
  have t2 : trapB 6 (-2147483648) (-1) = false := by decide +kernel
  have x2 : doE 6 (-2147483648) (-1) = 0 := by decide +kernel
  have v3 : doV 7 5 0 = 0 := by decide +kernel
  have t3 : trapB 7 5 0 = true := by decide +kernel
  have x3 : doE 7 5 0 = 0 := by decide +kernel
  have v4 : doV 10 1 1 = 0 := by decide +kernel
  have t4 : trapB 10 1 1 = false := by decide +kernel
  have x4 : doE 10 1 1 = 100 := by decide +kernel
  have v5 : doV 7 (-7) 2 = -1 := by decide +kernel
  have t5 : trapB 7 (-7) 2 = false := by decide +kernel
  have x5 : doE 7 (-7) 2 = 0 := by decide +kernel
  have y : wrap32 4294967295 = -1 := by decide +kernel
  go_enter Try.func14, Try.ntmps14
  go_wp2_with (first | (go_at_call 9; refine (do_any _ _ _ _).mono ?_; rintro e w' ⟨rfl, rfl⟩) | (go_at_call 12; refine (wrap_any _ _).mono ?_; rintro e w' ⟨rfl, rfl⟩) | (go_at_call 11; refine (num_any _ _).mono ?_; rintro e w' ⟨rfl, rfl⟩))
  go_ret
  exact ⟨rfl, rfl⟩
end Go.Proofs.Ytohjffimbeddpaa
