/- What wrap.Do returns, for every operation and any two numbers. -/
import Derived.Test.YtaimpljkbpnigaaGreatDoorWrap
namespace Go.Proofs.YtaimpljkbpnigaaGreatDoor
open Go.RowKit

theorem ret_three {a a' : Int} {b b' : Bool} {c c' : Int} (h1 : a = a') (h2 : b = b') (h3 : c = c') :
    Ending.returned (.tuple #[.int .i64 a, .bool b, .int .i64 c]) = .returned (.tuple #[.int .i64 a', .bool b', .int .i64 c']) := by rw [h1, h2, h3]

theorem do_bad {op a b : Int} (h : goodB op a b = false) : 0 = doV op a b ∧ false = trapB op a b ∧ 100 = doE op a b := by
  simp [doV, trapB, doE, h]
theorem do_trap {op a b : Int} (h : goodB op a b = true) (hb : b = 0) (hd : divB op = true) : 0 = doV op a b ∧ true = trapB op a b ∧ 0 = doE op a b := by
  subst hb; simp [doV, trapB, doE, h, hd]
theorem do_good {op a b : Int} (h : goodB op a b = true) (hd : (decide (b = 0) && divB op) = false) : wrap32 (exV op a b) = doV op a b ∧ false = trapB op a b ∧ 0 = doE op a b := by
  have ht : trapB op a b = false := by unfold trapB; rw [h, hd]; rfl
  simp [doV, doE, h, ht]

end Go.Proofs.YtaimpljkbpnigaaGreatDoor
