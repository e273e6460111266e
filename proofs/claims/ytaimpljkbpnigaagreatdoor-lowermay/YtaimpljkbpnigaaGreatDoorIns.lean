/- What each function of package ins returns, for every instruction: isKind, isBelow, moves, May, Effect. -/
import Derived.Test.YtaimpljkbpnigaaGreatDoorWrap
import Derived.Test.YtaimpljkbpnigaaGreatDoorJ1p
import Derived.Test.YtaimpljkbpnigaaGreatDoorMem
import Derived.Handy
import Derived.WalkSmall
import Derived.Deep.QuietTactic
import Derived.BigQuiet
namespace Go.Proofs.YtaimpljkbpnigaaGreatDoor
open Go.RowKit

set_option maxHeartbeats 400000 in
theorem isBelow_any (a l : Int) (w : World) :
    Calls Tryz.prog 136 #[.int .i64 a, .int .i64 l] w fun e w' => e = .returned (.bool (belowB a l)) ∧ w' = w := by
  by_cases h : 0 ≤ a
  · go_enter Tryz.func136, Tryz.ntmps136
    go_wp2
    go_ret
    exact ⟨ret_bool (by simp [belowB, h]), rfl⟩
  · have h' : a < 0 := by omega
    go_enter Tryz.func136, Tryz.ntmps136
    go_wp2
    go_ret
    exact ⟨ret_bool (by simp [belowB]; omega), rfl⟩

set_option maxHeartbeats 400000 in
theorem isKind_any (k : Int) (w : World) :
    Calls Tryz.prog 137 #[.int .i64 k] w fun e w' => e = .returned (.bool (kindB k)) ∧ w' = w := by
  by_cases h : 0 ≤ k
  · go_enter Tryz.func137, Tryz.ntmps137
    go_wp2
    go_ret
    exact ⟨ret_bool (by simp [kindB, h]), rfl⟩
  · have h' : k < 0 := by omega
    go_enter Tryz.func137, Tryz.ntmps137
    go_wp2
    go_ret
    exact ⟨ret_bool (by simp [kindB]; omega), rfl⟩

set_option maxHeartbeats 1000000 in
theorem insMay_any (k a : Int) (w : World) :
    Calls Tryz.prog 124 #[.agg #[.int .i64 k, .int .i64 a]] w fun e w' => e = .returned (.bool (mayB k a)) ∧ Below w.heap.size w w' := by
  by_cases h0 : k = 0
  · subst h0
    go_enter Tryz.func124, Tryz.ntmps124
    go_wp2_with (first | (go_at_call 93; refine (isNumber_any _ _).mono ?_; rintro e w' ⟨rfl, rfl⟩))
    go_ret
    exact ⟨rfl, by go_grown⟩
  by_cases h1 : k = 1
  · subst h1
    go_enter Tryz.func124, Tryz.ntmps124
    go_wp2_with (first | (go_at_call 136; refine (isBelow_any _ _ _).mono ?_; rintro e w' ⟨rfl, rfl⟩))
    go_ret
    exact ⟨rfl, by go_grown⟩
  by_cases h2 : k = 2
  · subst h2
    go_enter Tryz.func124, Tryz.ntmps124
    go_wp2_with (first | (go_at_call 136; refine (isBelow_any _ _ _).mono ?_; rintro e w' ⟨rfl, rfl⟩))
    go_ret
    exact ⟨rfl, by go_grown⟩
  by_cases h3 : k = 12
  · subst h3
    go_enter Tryz.func124, Tryz.ntmps124
    go_wp2_with (first | (go_at_call 136; refine (isBelow_any _ _ _).mono ?_; rintro e w' ⟨rfl, rfl⟩))
    go_ret
    exact ⟨rfl, by go_grown⟩
  by_cases h4 : k = 13
  · subst h4
    go_enter Tryz.func124, Tryz.ntmps124
    go_wp2_with (first | (go_at_call 136; refine (isBelow_any _ _ _).mono ?_; rintro e w' ⟨rfl, rfl⟩))
    go_ret
    exact ⟨rfl, by go_grown⟩
  by_cases h5 : k = 14
  · subst h5
    go_enter Tryz.func124, Tryz.ntmps124
    go_wp2_with (first | (go_at_call 136; refine (isBelow_any _ _ _).mono ?_; rintro e w' ⟨rfl, rfl⟩))
    go_ret
    exact ⟨rfl, by go_grown⟩
  have he := hid (may_else (a := a) h0 h1 h2 h3 h4 h5)
  cases hk : kindB k
  all_goals
    go_enter Tryz.func124, Tryz.ntmps124
    go_wp2_with (first | (go_at_call 137; refine (isKind_any _ _).mono ?_; rintro e w' ⟨rfl, rfl⟩))
    go_ret
    exact ⟨ret_bool (by rw [he.out, hk]; simp), by go_grown⟩

end Go.Proofs.YtaimpljkbpnigaaGreatDoor
