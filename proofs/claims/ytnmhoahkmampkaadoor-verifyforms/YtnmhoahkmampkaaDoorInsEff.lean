/- What ins.moves and ins.Effect return, and the document's own answers (InsMay, Effect), for every instruction and any args. -/
import Derived.Test.YtnmhoahkmampkaaDoorIns
import Derived.Test.YtnmhoahkmampkaaDoorRefDo
namespace Go.Proofs.YtnmhoahkmampkaaDoor
open Go.RowKit

theorem ret_two {a a' b b' : Int} (h1 : a = a') (h2 : b = b') :
    Ending.returned (.tuple #[.int .i64 a, .int .i64 b]) = .returned (.tuple #[.int .i64 a', .int .i64 b']) := by rw [h1, h2]
theorem ret_3i {a a' b b' c c' : Int} (h1 : a = a') (h2 : b = b') (h3 : c = c') :
    Ending.returned (.tuple #[.int .i64 a, .int .i64 b, .int .i64 c]) = .returned (.tuple #[.int .i64 a', .int .i64 b', .int .i64 c']) := by rw [h1, h2, h3]

set_option maxHeartbeats 2000000 in
theorem moves_any (k m : Int) (w : World) (hk : 0 ≤ k ∧ k ≤ 16) :
    Calls Tryd.prog 65 #[.int .i64 k, .int .i64 m] w fun e w' => e = .returned (.tuple #[.int .i64 (takesV k m), .int .i64 (putsV k)]) ∧ w' = w := by
  rcases kinds17 k hk with rfl | rfl | rfl | rfl | rfl | rfl | rfl | rfl | rfl | rfl | rfl | rfl | rfl | rfl | rfl | rfl | rfl
  all_goals
    clear hk
    go_enter Tryd.func65, Tryd.ntmps65
    go_wp2
    go_ret2
    exact ⟨ret_two rfl rfl, rfl⟩

set_option maxHeartbeats 1000000 in
theorem effect_any (k a m : Int) (w : World) :
    Calls Tryd.prog 63 #[.agg #[.int .i64 k, .int .i64 a], .int .i64 m] w fun e w' => e = .returned (.tuple #[.int .i64 (effT k a m), .int .i64 (effP k a m), .int .i64 (effE k a m)]) ∧ Below w.heap.size w w' := by
  cases hm : mayB k a
  · obtain ⟨e1, e2, e3⟩ := eff_bad (k := k) (a := a) (m := m) (by simp [effB, hm])
    have E1 := hid e1; have E2 := hid e2; have E3 := hid e3
    clear e1 e2 e3
    go_enter Tryd.func63, Tryd.ntmps63
    go_wp2_with fail
    refine (insMay_any _ _ _).mono ?_
    rintro e w1 ⟨rfl, hb⟩
    go_wp2_with fail
    go_ret3
    exact ⟨ret_3i E1.out.symm E2.out.symm E3.out.symm, (Below.alloc (Below.refl _ _) (Nat.le_refl _) _).trans (hb.mono (by simp))⟩
  by_cases h0 : m < 0
  · obtain ⟨e1, e2, e3⟩ := eff_bad (k := k) (a := a) (m := m) (by simp [effB, hm, argsB]; omega)
    have E1 := hid e1; have E2 := hid e2; have E3 := hid e3
    clear e1 e2 e3
    go_enter Tryd.func63, Tryd.ntmps63
    go_wp2_with fail
    refine (insMay_any _ _ _).mono ?_
    rintro e w1 ⟨rfl, hb⟩
    go_wp2_with fail
    go_ret3
    exact ⟨ret_3i E1.out.symm E2.out.symm E3.out.symm, (Below.alloc (Below.refl _ _) (Nat.le_refl _) _).trans (hb.mono (by simp))⟩
  by_cases h4 : 4 < m
  · obtain ⟨e1, e2, e3⟩ := eff_bad (k := k) (a := a) (m := m) (by simp [effB, hm, argsB]; omega)
    have E1 := hid e1; have E2 := hid e2; have E3 := hid e3
    clear e1 e2 e3
    go_enter Tryd.func63, Tryd.ntmps63
    go_wp2_with fail
    refine (insMay_any _ _ _).mono ?_
    rintro e w1 ⟨rfl, hb⟩
    go_wp2_with fail
    go_ret3
    exact ⟨ret_3i E1.out.symm E2.out.symm E3.out.symm, (Below.alloc (Below.refl _ _) (Nat.le_refl _) _).trans (hb.mono (by simp))⟩
  · obtain ⟨e1, e2, e3⟩ := eff_good (k := k) (a := a) (m := m) (by simp [effB, hm, argsB]; omega)
    have E1 := hid e1; have E2 := hid e2; have E3 := hid e3
    have hk := may_kind hm
    clear e1 e2 e3
    go_enter Tryd.func63, Tryd.ntmps63
    go_wp2_with fail
    refine (insMay_any _ _ _).mono ?_
    rintro e w1 ⟨rfl, hb⟩
    obtain ⟨hc, hf⟩ := bcell hb
    go_wp2_with fail
    refine (moves_any _ _ _ hk).mono ?_
    rintro e w2 ⟨rfl, rfl⟩
    go_wp2_with fail
    go_ret3
    exact ⟨ret_3i E1.out.symm E2.out.symm E3.out.symm, (Below.alloc (Below.refl _ _) (Nat.le_refl _) _).trans (hb.mono (by simp))⟩

end Go.Proofs.YtnmhoahkmampkaaDoor
