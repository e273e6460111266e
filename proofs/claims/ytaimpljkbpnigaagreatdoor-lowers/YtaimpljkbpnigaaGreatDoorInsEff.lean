/- What ins.moves and ins.Effect return, and the document's own answers (InsMay, Effect), for every instruction and any args. -/
import Derived.Test.YtaimpljkbpnigaaGreatDoorIns
import Derived.Test.YtaimpljkbpnigaaGreatDoorRefDo
namespace Go.Proofs.YtaimpljkbpnigaaGreatDoor
open Go.RowKit

theorem ret_two {a a' b b' : Int} (h1 : a = a') (h2 : b = b') :
    Ending.returned (.tuple #[.int .i64 a, .int .i64 b]) = .returned (.tuple #[.int .i64 a', .int .i64 b']) := by rw [h1, h2]
theorem ret_3i {a a' b b' c c' : Int} (h1 : a = a') (h2 : b = b') (h3 : c = c') :
    Ending.returned (.tuple #[.int .i64 a, .int .i64 b, .int .i64 c]) = .returned (.tuple #[.int .i64 a', .int .i64 b', .int .i64 c']) := by rw [h1, h2, h3]

set_option maxHeartbeats 2000000 in
theorem moves_any (k m : Int) (w : World) (hk : 0 ≤ k ∧ k ≤ 16) :
    Calls Tryz.prog 141 #[.int .i64 k, .int .i64 m] w fun e w' => e = .returned (.tuple #[.int .i64 (takesV k m), .int .i64 (putsV k)]) ∧ w' = w := by
  rcases kinds17 k hk with rfl | rfl | rfl | rfl | rfl | rfl | rfl | rfl | rfl | rfl | rfl | rfl | rfl | rfl | rfl | rfl | rfl
  all_goals
    clear hk
    go_enter Tryz.func141, Tryz.ntmps141
    go_wp2
    go_ret2
    exact ⟨ret_two rfl rfl, rfl⟩

set_option maxHeartbeats 1000000 in
theorem effect_any (k a m : Int) (w : World) :
    Calls Tryz.prog 139 #[.agg #[.int .i64 k, .int .i64 a], .int .i64 m] w fun e w' => e = .returned (.tuple #[.int .i64 (effT k a m), .int .i64 (effP k a m), .int .i64 (effE k a m)]) ∧ Below w.heap.size w w' := by
  cases hm : mayB k a
  · obtain ⟨e1, e2, e3⟩ := eff_bad (k := k) (a := a) (m := m) (by simp [effB, hm])
    have E1 := hid e1; have E2 := hid e2; have E3 := hid e3
    clear e1 e2 e3
    go_enter Tryz.func139, Tryz.ntmps139
    go_wp2_with fail
    refine (insMay_any _ _ _).mono ?_
    rintro e w1 ⟨rfl, hb⟩
    go_wp2_with fail
    go_ret3
    exact ⟨ret_3i E1.out.symm E2.out.symm E3.out.symm, (Below.alloc (Below.refl _ _) (Nat.le_refl _) _).trans (hb.mono (by simp))⟩
  by_cases h0 : m < 0
  · obtain ⟨e1, e2, e3⟩ := eff_bad (k := k) (a := a) (m := m) (by simp [effB, hm, argsB]; omega)
    have E1 := hid e1; have E2 := hid e2; have E3 := hid e3
    clear e1 e2 e3
    go_enter Tryz.func139, Tryz.ntmps139
    go_wp2_with fail
    refine (insMay_any _ _ _).mono ?_
    rintro e w1 ⟨rfl, hb⟩
    go_wp2_with fail
    go_ret3
    exact ⟨ret_3i E1.out.symm E2.out.symm E3.out.symm, (Below.alloc (Below.refl _ _) (Nat.le_refl _) _).trans (hb.mono (by simp))⟩
  by_cases h4 : 4 < m
  · obtain ⟨e1, e2, e3⟩ := eff_bad (k := k) (a := a) (m := m) (by simp [effB, hm, argsB]; omega)
    have E1 := hid e1; have E2 := hid e2; have E3 := hid e3
    clear e1 e2 e3
    go_enter Tryz.func139, Tryz.ntmps139
    go_wp2_with fail
    refine (insMay_any _ _ _).mono ?_
    rintro e w1 ⟨rfl, hb⟩
    go_wp2_with fail
    go_ret3
    exact ⟨ret_3i E1.out.symm E2.out.symm E3.out.symm, (Below.alloc (Below.refl _ _) (Nat.le_refl _) _).trans (hb.mono (by simp))⟩
  · obtain ⟨e1, e2, e3⟩ := eff_good (k := k) (a := a) (m := m) (by simp [effB, hm, argsB]; omega)
    have E1 := hid e1; have E2 := hid e2; have E3 := hid e3
    have hk := may_kind hm
    clear e1 e2 e3
    go_enter Tryz.func139, Tryz.ntmps139
    go_wp2_with fail
    refine (insMay_any _ _ _).mono ?_
    rintro e w1 ⟨rfl, hb⟩
    obtain ⟨hc, hf⟩ := bcell hb
    go_wp2_with fail
    refine (moves_any _ _ _ hk).mono ?_
    rintro e w2 ⟨rfl, rfl⟩
    go_wp2_with fail
    go_ret3
    exact ⟨ret_3i E1.out.symm E2.out.symm E3.out.symm, (Below.alloc (Below.refl _ _) (Nat.le_refl _) _).trans (hb.mono (by simp))⟩

set_option maxHeartbeats 1000000 in
theorem refMay_any (k a : Int) (w : World) :
    Calls Tryz.prog 73 #[.agg #[.int .i64 k, .int .i64 a]] w fun e w' => e = .returned (.bool (mayB k a)) ∧ Below w.heap.size w w' := by
  by_cases h0 : k = 0
  · subst h0
    go_enter Tryz.func73, Tryz.ntmps73
    go_wp2_with (first | (go_at_call 92; refine (refNumber_any _ _).mono ?_; rintro e w' ⟨rfl, rfl⟩))
    go_ret
    exact ⟨rfl, by go_grown⟩
  by_cases ha : 0 ≤ a
  · by_cases h1 : k = 1
    · subst h1
      go_enter Tryz.func73, Tryz.ntmps73
      go_wp2
      go_ret
      exact ⟨ret_bool (by simp [may1, belowB, ha]), by go_grown⟩
    by_cases h2 : k = 2
    · subst h2
      go_enter Tryz.func73, Tryz.ntmps73
      go_wp2
      go_ret
      exact ⟨ret_bool (by simp [may2, belowB, ha]), by go_grown⟩
    by_cases h3 : k = 12
    · subst h3
      go_enter Tryz.func73, Tryz.ntmps73
      go_wp2
      go_ret
      exact ⟨ret_bool (by simp [may12, belowB, ha]), by go_grown⟩
    by_cases h4 : k = 13
    · subst h4
      go_enter Tryz.func73, Tryz.ntmps73
      go_wp2
      go_ret
      exact ⟨ret_bool (by simp [may13, belowB, ha]), by go_grown⟩
    by_cases h5 : k = 14
    · subst h5
      go_enter Tryz.func73, Tryz.ntmps73
      go_wp2
      go_ret
      exact ⟨ret_bool (by simp [may14, belowB, ha]), by go_grown⟩
    have he := hid (may_else (a := a) h0 h1 h2 h3 h4 h5)
    by_cases h6 : 3 ≤ k
    · by_cases h7 : k ≤ 16
      · have hk := hid (show kindB k = true by simp [kindB]; omega)
        go_enter Tryz.func73, Tryz.ntmps73
        go_wp2
        go_ret
        exact ⟨ret_bool (by rw [he.out, hk.out]; simp), by go_grown⟩
      · have hk := hid (show kindB k = false by simp [kindB]; omega)
        go_enter Tryz.func73, Tryz.ntmps73
        go_wp2
        go_ret
        exact ⟨ret_bool (by rw [he.out, hk.out]; simp), by go_grown⟩
    · have hk := hid (show kindB k = false by simp [kindB]; omega)
      go_enter Tryz.func73, Tryz.ntmps73
      go_wp2
      go_ret
      exact ⟨ret_bool (by rw [he.out, hk.out]; simp), by go_grown⟩
  · have hb8 : belowB a 8 = false := by simp [belowB]; omega
    have hb64 : belowB a 64 = false := by simp [belowB]; omega
    have hm : mayB k a = false := by
      unfold mayB
      rw [if_neg h0, hb8, hb64]
      split
      · rfl
      split
      · rfl
      split
      · rfl
      · simp; omega
    have HM := hid hm
    clear hm hb8 hb64
    go_enter Tryz.func73, Tryz.ntmps73
    go_wp2
    all_goals
      go_ret
      exact ⟨ret_bool (by first | exact HM.out.symm | (rw [HM.out]; simp; done) | (rw [HM.out]; simp; omega)), by go_grown⟩

set_option maxHeartbeats 2000000 in
theorem refEffect_any (k a m : Int) (w : World) :
    Calls Tryz.prog 75 #[.agg #[.int .i64 k, .int .i64 a], .int .i64 m] w fun e w' => e = .returned (.tuple #[.int .i64 (effT k a m), .int .i64 (effP k a m), .int .i64 (effE k a m)]) ∧ Below w.heap.size w w' := by
  cases hm : mayB k a
  · obtain ⟨e1, e2, e3⟩ := eff_bad (k := k) (a := a) (m := m) (by simp [effB, hm])
    have E1 := hid e1; have E2 := hid e2; have E3 := hid e3
    clear e1 e2 e3
    go_enter Tryz.func75, Tryz.ntmps75
    go_wp2_with fail
    refine (refMay_any _ _ _).mono ?_
    rintro e w1 ⟨rfl, hb⟩
    go_wp2_with fail
    go_ret3
    exact ⟨ret_3i E1.out.symm E2.out.symm E3.out.symm, (Below.alloc (Below.refl _ _) (Nat.le_refl _) _).trans (hb.mono (by simp))⟩
  by_cases h0 : m < 0
  · obtain ⟨e1, e2, e3⟩ := eff_bad (k := k) (a := a) (m := m) (by simp [effB, hm, argsB]; omega)
    have E1 := hid e1; have E2 := hid e2; have E3 := hid e3
    clear e1 e2 e3
    go_enter Tryz.func75, Tryz.ntmps75
    go_wp2_with fail
    refine (refMay_any _ _ _).mono ?_
    rintro e w1 ⟨rfl, hb⟩
    go_wp2_with fail
    go_ret3
    exact ⟨ret_3i E1.out.symm E2.out.symm E3.out.symm, (Below.alloc (Below.refl _ _) (Nat.le_refl _) _).trans (hb.mono (by simp))⟩
  by_cases h4 : 4 < m
  · obtain ⟨e1, e2, e3⟩ := eff_bad (k := k) (a := a) (m := m) (by simp [effB, hm, argsB]; omega)
    have E1 := hid e1; have E2 := hid e2; have E3 := hid e3
    clear e1 e2 e3
    go_enter Tryz.func75, Tryz.ntmps75
    go_wp2_with fail
    refine (refMay_any _ _ _).mono ?_
    rintro e w1 ⟨rfl, hb⟩
    go_wp2_with fail
    go_ret3
    exact ⟨ret_3i E1.out.symm E2.out.symm E3.out.symm, (Below.alloc (Below.refl _ _) (Nat.le_refl _) _).trans (hb.mono (by simp))⟩
  · obtain ⟨e1, e2, e3⟩ := eff_good (k := k) (a := a) (m := m) (by simp [effB, hm, argsB]; omega)
    have hk := may_kind hm
    rcases kinds17 k hk with rfl | rfl | rfl | rfl | rfl | rfl | rfl | rfl | rfl | rfl | rfl | rfl | rfl | rfl | rfl | rfl | rfl
    all_goals
      have E1 := hid e1; have E2 := hid e2; have E3 := hid e3
      clear e1 e2 e3 hk
      go_enter Tryz.func75, Tryz.ntmps75
      go_wp2_with fail
      refine (refMay_any _ _ _).mono ?_
      rintro e w1 ⟨rfl, hb⟩
      obtain ⟨hc, hf⟩ := bcell hb
      go_wp2_with fail
      go_ret3
      exact ⟨ret_3i E1.out.symm E2.out.symm E3.out.symm, (Below.alloc (Below.refl _ _) (Nat.le_refl _) _).trans (hb.mono (by simp))⟩

end Go.Proofs.YtaimpljkbpnigaaGreatDoor
