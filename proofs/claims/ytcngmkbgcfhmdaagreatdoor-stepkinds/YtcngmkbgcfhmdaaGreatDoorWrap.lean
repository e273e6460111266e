/- What each function of package wrap returns, for every input: Wrap, isNumber, isOp, divides, oneIf, exact, Do. -/
import Derived.Test.YtcngmkbgcfhmdaaGreatDoorRows
import Derived.Test.YtcngmkbgcfhmdaaGreatDoorPlain
import Derived.WalkKit
import Derived.WalkSpells
import Derived.WalkLawsBesides
namespace Go.Proofs.YtcngmkbgcfhmdaaGreatDoor
open Go.RowKit

theorem hid {p : Prop} (h : p) : Hid p := h
theorem ret_int {k : IntKind} {a b : Int} (h : a = b) : Ending.returned (.int k a) = .returned (.int k b) := by rw [h]
theorem ret_bool {a b : Bool} (h : a = b) : Ending.returned (.bool a) = .returned (.bool b) := by rw [h]

set_option maxHeartbeats 400000 in
theorem wrap_any (x : Int) (w : World) :
    Calls Tryz.prog 82 #[.int .i64 x] w fun e w' => e = .returned (.int .i64 (wrap32 x)) ∧ w' = w := by
  go_enter Tryz.func82, Tryz.ntmps82
  go_wp2
  go_ret
  exact ⟨ret_int (wrap64_wrap32 x), rfl⟩

set_option maxHeartbeats 400000 in
theorem isNumber_any (x : Int) (w : World) :
    Calls Tryz.prog 95 #[.int .i64 x] w fun e w' => e = .returned (.bool (isNum x)) ∧ w' = w := by
  go_enter Tryz.func95, Tryz.ntmps95
  go_wp2_with (go_at_call 82; refine (wrap_any _ _).mono ?_; rintro e w' ⟨rfl, rfl⟩)
  go_ret
  exact ⟨ret_bool (wrap32_eq_iff x), rfl⟩

set_option maxHeartbeats 400000 in
theorem isOp_any (x : Int) (w : World) :
    Calls Tryz.prog 94 #[.int .i64 x] w fun e w' => e = .returned (.bool (isOpB x)) ∧ w' = w := by
  go_enter Tryz.func94, Tryz.ntmps94
  go_wp2
  all_goals
    go_ret
    refine ⟨ret_bool ?_, rfl⟩
    simp only [beq_iff_eq, beq_eq_false_iff_ne] at *
    first
      | exact ((opB_iff x).2 (by omega)).symm
      | exact ((opB_not x).2 (by omega)).symm

set_option maxHeartbeats 400000 in
theorem divides_any (x : Int) (w : World) :
    Calls Tryz.prog 96 #[.int .i64 x] w fun e w' => e = .returned (.bool (divB x)) ∧ w' = w := by
  by_cases h6 : x = 6
  · subst h6
    go_enter Tryz.func96, Tryz.ntmps96
    go_wp2
    go_ret
    exact ⟨rfl, rfl⟩
  · have h : (x == 6) = false := by simp [h6]
    go_enter Tryz.func96, Tryz.ntmps96
    go_wp2
    go_ret
    refine ⟨ret_bool ?_, rfl⟩
    unfold divB
    rw [Bool.eq_iff_iff]; simp [h6]

set_option maxHeartbeats 400000 in
theorem oneIf_any (b : Bool) (w : World) :
    Calls Tryz.prog 110 #[.bool b] w fun e w' => e = .returned (.int .i64 (oneI b)) ∧ w' = w := by
  cases b
  all_goals
    go_enter Tryz.func110, Tryz.ntmps110
    go_wp2
    go_ret
    exact ⟨rfl, rfl⟩

set_option maxHeartbeats 1000000 in
theorem exact_any (op a b : Int) (w : World) (ho : 3 ≤ op ∧ op ≤ 9) (ha : -2147483648 ≤ a ∧ a ≤ 2147483647)
    (hb : -2147483648 ≤ b ∧ b ≤ 2147483647) (hz : op = 6 ∨ op = 7 → b ≠ 0) :
    Calls Tryz.prog 97 #[.int .i64 op, .int .i64 a, .int .i64 b] w
      fun e w' => e = .returned (.int .i64 (exV op a b)) ∧ w' = w := by
  obtain ⟨ha1, ha2⟩ := ha
  obtain ⟨hb1, hb2⟩ := hb
  have hq := tdiv_bd (a := a) (b := b) ⟨ha1, ha2⟩
  have hm := mul_bd (a := a) (b := b) ⟨ha1, ha2⟩ ⟨hb1, hb2⟩
  have hr := tmod_bd (a := a) (b := b) ⟨ha1, ha2⟩
  obtain ⟨hq1, hq2⟩ := hq
  obtain ⟨hm1, hm2⟩ := hm
  obtain ⟨hr1, hr2⟩ := hr
  have hcases : op = 3 ∨ op = 4 ∨ op = 5 ∨ op = 6 ∨ op = 7 ∨ op = 8 ∨ op = 9 := by omega
  rcases hcases with rfl | rfl | rfl | rfl | rfl | rfl | rfl
  · clear hz ho
    go_enter Tryz.func97, Tryz.ntmps97
    go_wp2
    go_ret
    exact ⟨ret_int (by simp [exV]), rfl⟩
  · clear hz ho
    go_enter Tryz.func97, Tryz.ntmps97
    go_wp2
    go_ret
    exact ⟨ret_int (by simp [exV]; omega), rfl⟩
  · clear hz ho
    go_enter Tryz.func97, Tryz.ntmps97
    go_wp2
    go_ret
    exact ⟨ret_int (by simp [exV]), rfl⟩
  · have hb0 : ¬ b = 0 := by simpa using hz
    clear hz ho
    go_enter Tryz.func97, Tryz.ntmps97
    go_wp2
    go_ret
    exact ⟨ret_int (by simp [exV]), rfl⟩
  · have hb0 : ¬ b = 0 := by simpa using hz
    have hp := mul_tdiv a b
    have hp1 : -4294967296 ≤ b * a.tdiv b := by omega
    have hp2 : b * a.tdiv b ≤ 4294967296 := by omega
    have hp' : exV 7 a b = a + -(b * a.tdiv b) := by simp only [exV]; simp; omega
    have HP : Hid (exV 7 a b = a + -(b * a.tdiv b)) := hp'
    clear hz ho hp hp'
    go_enter Tryz.func97, Tryz.ntmps97
    go_wp2
    go_ret
    exact ⟨ret_int (HP.out).symm, rfl⟩
  · clear hz ho
    go_enter Tryz.func97, Tryz.ntmps97
    go_wp2_with (go_at_call 110; refine (oneIf_any _ _).mono ?_; rintro e w' ⟨rfl, rfl⟩)
    go_ret
    exact ⟨ret_int (by simp [exV]), rfl⟩
  · clear hz ho
    go_enter Tryz.func97, Tryz.ntmps97
    go_wp2_with (go_at_call 110; refine (oneIf_any _ _).mono ?_; rintro e w' ⟨rfl, rfl⟩)
    go_ret
    exact ⟨ret_int (by simp [exV]), rfl⟩

end Go.Proofs.YtcngmkbgcfhmdaaGreatDoor
