/- The law's own opening question (awake) is answered yes. -/
import Derived.Test.YtkdokjepflhijaaInsEff
namespace Go.Proofs.Ytkdokjepflhijaa
open Go.RowKit

set_option maxHeartbeats 1000000 in
theorem awake2_any (w : World) :
    Calls Try.prog 11 #[] w fun e w' => e = .returned (.bool true) ∧ Below w.heap.size w w' := by
  have v1 : effT 14 2 3 = 3 := by decide +kernel
  have v2 : effP 14 2 3 = 1 := by decide +kernel
  have v3 : effE 14 2 3 = 0 := by decide +kernel
  have v4 : effE 3 1 0 = 200 := by decide +kernel
  have v5 : mayB 0 (-5) = true := by decide +kernel
  have v6 : mayB 1 (-1) = false := by decide +kernel
  go_enter Try.func11, Try.ntmps11
  go_wp2_with fail
  refine (effect_any _ _ _ _).mono ?_
  rintro e w1 ⟨rfl, b1⟩
  go_wp2_with fail
  refine (effect_any _ _ _ _).mono ?_
  rintro e w2 ⟨rfl, b2⟩
  go_wp2_with (first | (go_at_call 8; refine (num_any _ _).mono ?_; rintro e w' ⟨rfl, rfl⟩))
  refine (insMay_any _ _ _).mono ?_
  rintro e w3 ⟨rfl, b3⟩
  go_wp2_with fail
  refine (insMay_any _ _ _).mono ?_
  rintro e w4 ⟨rfl, b4⟩
  go_wp2_with fail
  go_ret
  exact ⟨rfl, kt (kt (kt b1 b2) b3) b4⟩

end Go.Proofs.Ytkdokjepflhijaa
