/- What the document's own answers for wrap (Wrap, Number, Do) return: the same, for every input. -/
import Derived.Test.YtcngmkbgcfhmdaaGreatDoorDo
namespace Go.Proofs.YtcngmkbgcfhmdaaGreatDoor
open Go.RowKit

set_option maxHeartbeats 400000 in
theorem refWrap_any (x : Int) (w : World) :
    Calls Tryz.prog 90 #[.int .i64 x] w fun e w' => e = .returned (.int .i64 (wrap32 x)) ∧ w' = w := by
  go_enter Tryz.func90, Tryz.ntmps90
  go_wp2
  go_ret
  exact ⟨ret_int (by rw [wrap64_wrap32, wrap32_u]), rfl⟩

set_option maxHeartbeats 400000 in
theorem refNumber_any (x : Int) (w : World) :
    Calls Tryz.prog 52 #[.int .i64 x] w fun e w' => e = .returned (.bool (isNum x)) ∧ w' = w := by
  by_cases h : -2147483648 ≤ x
  · go_enter Tryz.func52, Tryz.ntmps52
    go_wp2
    go_ret
    exact ⟨ret_bool (by simp [isNum, h]), rfl⟩
  · have h' : x < -2147483648 := by omega
    go_enter Tryz.func52, Tryz.ntmps52
    go_wp2
    go_ret
    exact ⟨ret_bool ((num_not x).2 (Or.inl h')).symm, rfl⟩

set_option maxHeartbeats 400000 in
theorem num_any (x : Int) (w : World) :
    Calls Tryz.prog 11 #[.int .i64 x] w fun e w' => e = .returned (.int .i64 x) ∧ w' = w := by
  go_enter Tryz.func11, Tryz.ntmps11
  go_wp2
  go_ret
  exact ⟨rfl, rfl⟩

theorem ex3 (a b : Int) : a + b = exV 3 a b := rfl
theorem ex4 (a b : Int) : a - b = exV 4 a b := rfl
theorem ex5 (a b : Int) : a * b = exV 5 a b := rfl
theorem ex6 (a b : Int) : a.tdiv b = exV 6 a b := rfl
theorem ex7 (a b : Int) : a.tmod b = exV 7 a b := rfl
theorem ex8 (a b : Int) : oneI (a == b) = exV 8 a b := rfl
theorem ex9 (a b : Int) : oneI (decide (a < b)) = exV 9 a b := rfl

set_option maxHeartbeats 2000000 in
theorem refDo_any (op a b : Int) (w : World) :
    Calls Tryz.prog 78 #[.int .i64 op, .int .i64 a, .int .i64 b] w fun e w' => e = .returned (.tuple #[.int .i64 (doV op a b), .bool (trapB op a b), .int .i64 (doE op a b)]) ∧ w' = w := by
  by_cases ho1 : op < 3
  · obtain ⟨e1, e2, e3⟩ := do_bad (op := op) (a := a) (b := b) (by simp [goodB, (opB_not op).2 (Or.inl ho1)])
    have E1 := hid e1; have E2 := hid e2; have E3 := hid e3
    clear e1 e2 e3
    go_enter Tryz.func78, Tryz.ntmps78
    go_wp2
    go_ret3
    exact ⟨ret_three E1.out E2.out E3.out, rfl⟩
  by_cases ho2 : 9 < op
  · obtain ⟨e1, e2, e3⟩ := do_bad (op := op) (a := a) (b := b) (by simp [goodB, (opB_not op).2 (Or.inr ho2)])
    have E1 := hid e1; have E2 := hid e2; have E3 := hid e3
    clear e1 e2 e3
    go_enter Tryz.func78, Tryz.ntmps78
    go_wp2
    go_ret3
    exact ⟨ret_three E1.out E2.out E3.out, rfl⟩
  have ho : isOpB op = true := (opB_iff op).2 (by omega)
  cases ha : isNum a
  · obtain ⟨e1, e2, e3⟩ := do_bad (op := op) (a := a) (b := b) (by simp [goodB, ha])
    have E1 := hid e1; have E2 := hid e2; have E3 := hid e3
    clear e1 e2 e3 ho
    go_enter Tryz.func78, Tryz.ntmps78
    go_wp2_with (go_at_call 52; refine (refNumber_any _ _).mono ?_; rintro e w' ⟨rfl, rfl⟩)
    go_ret3
    exact ⟨ret_three E1.out E2.out E3.out, rfl⟩
  cases hb : isNum b
  · obtain ⟨e1, e2, e3⟩ := do_bad (op := op) (a := a) (b := b) (by simp [goodB, hb])
    have E1 := hid e1; have E2 := hid e2; have E3 := hid e3
    clear e1 e2 e3 ho
    go_enter Tryz.func78, Tryz.ntmps78
    go_wp2_with (go_at_call 52; refine (refNumber_any _ _).mono ?_; rintro e w' ⟨rfl, rfl⟩)
    go_ret3
    exact ⟨ret_three E1.out E2.out E3.out, rfl⟩
  have hg : goodB op a b = true := by simp [goodB, ho, ha, hb]
  obtain ⟨ha1, ha2⟩ := (num_iff a).1 ha
  obtain ⟨hb1, hb2⟩ := (num_iff b).1 hb
  have hq := tdiv_bd (a := a) (b := b) ⟨ha1, ha2⟩
  have hm := mul_bd (a := a) (b := b) ⟨ha1, ha2⟩ ⟨hb1, hb2⟩
  have hr := tmod_bd (a := a) (b := b) ⟨ha1, ha2⟩
  obtain ⟨hq1, hq2⟩ := hq
  obtain ⟨hm1, hm2⟩ := hm
  obtain ⟨hr1, hr2⟩ := hr
  have hcases : op = 3 ∨ op = 4 ∨ op = 5 ∨ op = 6 ∨ op = 7 ∨ op = 8 ∨ op = 9 := by omega
  rcases hcases with rfl | rfl | rfl | rfl | rfl | rfl | rfl
  · obtain ⟨e1, e2, e3⟩ := do_good hg (by simp [divB])
    have E1 := hid e1; have E2 := hid e2; have E3 := hid e3
    clear e1 e2 e3 ho ho1 ho2 hg
    go_enter Tryz.func78, Tryz.ntmps78
    go_wp2_with (first | (go_at_call 52; refine (refNumber_any _ _).mono ?_; rintro e w' ⟨rfl, rfl⟩) | (go_at_call 90; refine (refWrap_any _ _).mono ?_; rintro e w' ⟨rfl, rfl⟩))
    go_ret3
    exact ⟨ret_three (by rw [ex3]; exact E1.out) E2.out E3.out, rfl⟩
  · obtain ⟨e1, e2, e3⟩ := do_good hg (by simp [divB])
    have E1 := hid e1; have E2 := hid e2; have E3 := hid e3
    clear e1 e2 e3 ho ho1 ho2 hg
    go_enter Tryz.func78, Tryz.ntmps78
    go_wp2_with (first | (go_at_call 52; refine (refNumber_any _ _).mono ?_; rintro e w' ⟨rfl, rfl⟩) | (go_at_call 90; refine (refWrap_any _ _).mono ?_; rintro e w' ⟨rfl, rfl⟩))
    go_ret3
    exact ⟨ret_three (by rw [ex4]; exact E1.out) E2.out E3.out, rfl⟩
  · obtain ⟨e1, e2, e3⟩ := do_good hg (by simp [divB])
    have E1 := hid e1; have E2 := hid e2; have E3 := hid e3
    clear e1 e2 e3 ho ho1 ho2 hg
    go_enter Tryz.func78, Tryz.ntmps78
    go_wp2_with (first | (go_at_call 52; refine (refNumber_any _ _).mono ?_; rintro e w' ⟨rfl, rfl⟩) | (go_at_call 90; refine (refWrap_any _ _).mono ?_; rintro e w' ⟨rfl, rfl⟩))
    go_ret3
    exact ⟨ret_three (by rw [ex5]; exact E1.out) E2.out E3.out, rfl⟩
  · by_cases hb0 : b = 0
    · obtain ⟨e1, e2, e3⟩ := do_trap hg hb0 (by decide)
      have E1 := hid e1; have E2 := hid e2; have E3 := hid e3
      have hbb : (b == 0) = true := by simp [hb0]
      clear e1 e2 e3 ho ho1 ho2 hg hb0
      go_enter Tryz.func78, Tryz.ntmps78
      go_wp2_with (first | (go_at_call 52; refine (refNumber_any _ _).mono ?_; rintro e w' ⟨rfl, rfl⟩) | (go_at_call 90; refine (refWrap_any _ _).mono ?_; rintro e w' ⟨rfl, rfl⟩))
      go_ret3
      exact ⟨ret_three E1.out E2.out E3.out, rfl⟩
    · obtain ⟨e1, e2, e3⟩ := do_good hg (by simp [hb0])
      have E1 := hid e1; have E2 := hid e2; have E3 := hid e3
      have hbb : (b == 0) = false := by simp [hb0]
      clear e1 e2 e3 ho ho1 ho2 hg
      go_enter Tryz.func78, Tryz.ntmps78
      go_wp2_with (first | (go_at_call 52; refine (refNumber_any _ _).mono ?_; rintro e w' ⟨rfl, rfl⟩) | (go_at_call 90; refine (refWrap_any _ _).mono ?_; rintro e w' ⟨rfl, rfl⟩))
      go_ret3
      exact ⟨ret_three (by rw [ex6]; exact E1.out) E2.out E3.out, rfl⟩
  · by_cases hb0 : b = 0
    · obtain ⟨e1, e2, e3⟩ := do_trap hg hb0 (by decide)
      have E1 := hid e1; have E2 := hid e2; have E3 := hid e3
      have hbb : (b == 0) = true := by simp [hb0]
      clear e1 e2 e3 ho ho1 ho2 hg hb0
      go_enter Tryz.func78, Tryz.ntmps78
      go_wp2_with (first | (go_at_call 52; refine (refNumber_any _ _).mono ?_; rintro e w' ⟨rfl, rfl⟩) | (go_at_call 90; refine (refWrap_any _ _).mono ?_; rintro e w' ⟨rfl, rfl⟩))
      go_ret3
      exact ⟨ret_three E1.out E2.out E3.out, rfl⟩
    · obtain ⟨e1, e2, e3⟩ := do_good hg (by simp [hb0])
      have E1 := hid e1; have E2 := hid e2; have E3 := hid e3
      have hbb : (b == 0) = false := by simp [hb0]
      clear e1 e2 e3 ho ho1 ho2 hg
      go_enter Tryz.func78, Tryz.ntmps78
      go_wp2_with (first | (go_at_call 52; refine (refNumber_any _ _).mono ?_; rintro e w' ⟨rfl, rfl⟩) | (go_at_call 90; refine (refWrap_any _ _).mono ?_; rintro e w' ⟨rfl, rfl⟩))
      go_ret3
      exact ⟨ret_three (by rw [ex7]; exact E1.out) E2.out E3.out, rfl⟩
  · obtain ⟨e1, e2, e3⟩ := do_good hg (by simp [divB])
    cases hab : (a == b)
    all_goals
      have hx : exV 8 a b = oneI (a == b) := rfl
      rw [hab] at hx
      simp [oneI] at hx
      rw [hx] at e1
      have E1 := hid e1; have E2 := hid e2; have E3 := hid e3
      clear e1 e2 e3 hx ho ho1 ho2 hg
      go_enter Tryz.func78, Tryz.ntmps78
      go_wp2_with (first | (go_at_call 52; refine (refNumber_any _ _).mono ?_; rintro e w' ⟨rfl, rfl⟩) | (go_at_call 90; refine (refWrap_any _ _).mono ?_; rintro e w' ⟨rfl, rfl⟩))
      go_ret3
      exact ⟨ret_three E1.out E2.out E3.out, rfl⟩
  · obtain ⟨e1, e2, e3⟩ := do_good hg (by simp [divB])
    by_cases hab : a < b
    all_goals
      have hx : exV 9 a b = oneI (decide (a < b)) := rfl
      simp [hab, oneI] at hx
      rw [hx] at e1
      have E1 := hid e1; have E2 := hid e2; have E3 := hid e3
      clear e1 e2 e3 hx ho ho1 ho2 hg
      go_enter Tryz.func78, Tryz.ntmps78
      go_wp2_with (first | (go_at_call 52; refine (refNumber_any _ _).mono ?_; rintro e w' ⟨rfl, rfl⟩) | (go_at_call 90; refine (refWrap_any _ _).mono ?_; rintro e w' ⟨rfl, rfl⟩))
      go_ret3
      exact ⟨ret_three E1.out E2.out E3.out, rfl⟩

end Go.Proofs.YtcngmkbgcfhmdaaGreatDoor
