/- What wrap.Do returns, for every operation and any two numbers. -/
import Derived.Test.YtcngmkbgcfhmdaaGreatDoorWrap
namespace Go.Proofs.YtcngmkbgcfhmdaaGreatDoor
open Go.RowKit

theorem ret_three {a a' : Int} {b b' : Bool} {c c' : Int} (h1 : a = a') (h2 : b = b') (h3 : c = c') :
    Ending.returned (.tuple #[.int .i64 a, .bool b, .int .i64 c]) = .returned (.tuple #[.int .i64 a', .bool b', .int .i64 c']) := by rw [h1, h2, h3]

theorem do_bad {op a b : Int} (h : goodB op a b = false) : 0 = doV op a b ∧ false = trapB op a b ∧ 100 = doE op a b := by
  simp [doV, trapB, doE, h]
theorem do_trap {op a b : Int} (h : goodB op a b = true) (hb : b = 0) (hd : divB op = true) : 0 = doV op a b ∧ true = trapB op a b ∧ 0 = doE op a b := by
  subst hb; simp [doV, trapB, doE, h, hd]
theorem do_good {op a b : Int} (h : goodB op a b = true) (hd : (decide (b = 0) && divB op) = false) : wrap32 (exV op a b) = doV op a b ∧ false = trapB op a b ∧ 0 = doE op a b := by
  have ht : trapB op a b = false := by unfold trapB; rw [h, hd]; rfl
  simp [doV, doE, h, ht]

set_option maxHeartbeats 1000000 in
theorem do_any (op a b : Int) (w : World) :
    Calls Tryz.prog 85 #[.int .i64 op, .int .i64 a, .int .i64 b] w fun e w' => e = .returned (.tuple #[.int .i64 (doV op a b), .bool (trapB op a b), .int .i64 (doE op a b)]) ∧ w' = w := by
  cases ho : isOpB op
  · obtain ⟨e1, e2, e3⟩ := do_bad (op := op) (a := a) (b := b) (by simp [goodB, ho])
    have E1 := hid e1; have E2 := hid e2; have E3 := hid e3
    clear e1 e2 e3
    go_enter Tryz.func85, Tryz.ntmps85
    go_wp2_with (go_at_call 94; refine (isOp_any _ _).mono ?_; rintro e w' ⟨rfl, rfl⟩)
    go_ret3
    exact ⟨ret_three E1.out E2.out E3.out, rfl⟩
  cases ha : isNum a
  · obtain ⟨e1, e2, e3⟩ := do_bad (op := op) (a := a) (b := b) (by simp [goodB, ha])
    have E1 := hid e1; have E2 := hid e2; have E3 := hid e3
    clear e1 e2 e3
    go_enter Tryz.func85, Tryz.ntmps85
    go_wp2_with (first | (go_at_call 94; refine (isOp_any _ _).mono ?_; rintro e w' ⟨rfl, rfl⟩) | (go_at_call 95; refine (isNumber_any _ _).mono ?_; rintro e w' ⟨rfl, rfl⟩))
    go_ret3
    exact ⟨ret_three E1.out E2.out E3.out, rfl⟩
  cases hb : isNum b
  · obtain ⟨e1, e2, e3⟩ := do_bad (op := op) (a := a) (b := b) (by simp [goodB, hb])
    have E1 := hid e1; have E2 := hid e2; have E3 := hid e3
    clear e1 e2 e3
    go_enter Tryz.func85, Tryz.ntmps85
    go_wp2_with (first | (go_at_call 94; refine (isOp_any _ _).mono ?_; rintro e w' ⟨rfl, rfl⟩) | (go_at_call 95; refine (isNumber_any _ _).mono ?_; rintro e w' ⟨rfl, rfl⟩))
    go_ret3
    exact ⟨ret_three E1.out E2.out E3.out, rfl⟩
  have hg : goodB op a b = true := by simp [goodB, ho, ha, hb]
  have hop := (opB_iff op).1 ho
  have han := (num_iff a).1 ha
  have hbn := (num_iff b).1 hb
  by_cases hb0 : b = 0
  · cases hd : divB op
    · obtain ⟨e1, e2, e3⟩ := do_good hg (by rw [hd]; simp)
      have E1 := hid e1; have E2 := hid e2; have E3 := hid e3
      have hz : op = 6 ∨ op = 7 → b ≠ 0 := by simp [divB] at hd; omega
      have hbb : (b == 0) = true := by simp [hb0]
      have HX := fun w => hid (exact_any op a b w hop han hbn hz)
      clear e1 e2 e3 hb0 hg hop han hbn hz
      go_enter Tryz.func85, Tryz.ntmps85
      go_wp2_with (first | (go_at_call 94; refine (isOp_any _ _).mono ?_; rintro e w' ⟨rfl, rfl⟩) | (go_at_call 95; refine (isNumber_any _ _).mono ?_; rintro e w' ⟨rfl, rfl⟩) | (go_at_call 96; refine (divides_any _ _).mono ?_; rintro e w' ⟨rfl, rfl⟩) | (go_at_call 97; refine ((HX _).out).mono ?_; rintro e w' ⟨rfl, rfl⟩) | (go_at_call 82; refine (wrap_any _ _).mono ?_; rintro e w' ⟨rfl, rfl⟩))
      go_ret3
      exact ⟨ret_three E1.out E2.out E3.out, rfl⟩
    · obtain ⟨e1, e2, e3⟩ := do_trap hg hb0 hd
      have E1 := hid e1; have E2 := hid e2; have E3 := hid e3
      have hbb : (b == 0) = true := by simp [hb0]
      clear e1 e2 e3 hb0 hg hop han hbn
      go_enter Tryz.func85, Tryz.ntmps85
      go_wp2_with (first | (go_at_call 94; refine (isOp_any _ _).mono ?_; rintro e w' ⟨rfl, rfl⟩) | (go_at_call 95; refine (isNumber_any _ _).mono ?_; rintro e w' ⟨rfl, rfl⟩) | (go_at_call 96; refine (divides_any _ _).mono ?_; rintro e w' ⟨rfl, rfl⟩))
      go_ret3
      exact ⟨ret_three E1.out E2.out E3.out, rfl⟩
  · obtain ⟨e1, e2, e3⟩ := do_good hg (by simp [hb0])
    have E1 := hid e1; have E2 := hid e2; have E3 := hid e3
    have hz : op = 6 ∨ op = 7 → b ≠ 0 := fun _ => hb0
    have hbb : (b == 0) = false := by simp [hb0]
    have HX := fun w => hid (exact_any op a b w hop han hbn hz)
    clear e1 e2 e3 hb0 hg hop han hbn hz
    go_enter Tryz.func85, Tryz.ntmps85
    go_wp2_with (first | (go_at_call 94; refine (isOp_any _ _).mono ?_; rintro e w' ⟨rfl, rfl⟩) | (go_at_call 95; refine (isNumber_any _ _).mono ?_; rintro e w' ⟨rfl, rfl⟩) | (go_at_call 97; refine ((HX _).out).mono ?_; rintro e w' ⟨rfl, rfl⟩) | (go_at_call 82; refine (wrap_any _ _).mono ?_; rintro e w' ⟨rfl, rfl⟩))
    go_ret3
    exact ⟨ret_three E1.out E2.out E3.out, rfl⟩

end Go.Proofs.YtcngmkbgcfhmdaaGreatDoor
