/- For any two integers the law InsEffects returns true: ins.Effect tells of each kind what it takes and puts, as written by hand, and refuses args and kinds that are none; no conditions. -/
import Derived.Test.YtkdokjepflhijaaRows
import Derived.WalkKit
import Derived.ProofKit
import Derived.OpenShut
import Derived.ShutString
import Derived.ChangeOld
import Derived.Below
import Derived.Carry
import Derived.Lib.SmallJoins
import Derived.Handy
import Derived.WalkSmall
import Derived.Test.YtkdokjepflhijaaAwake2
namespace Go.Proofs.Ytkdokjepflhijaa.insEffects
open Go.ChangeShapes Go.WideShapes Go.ChangeAt Go.RowKit
open Go.ChangeMaps (open_string shut_string)
set_option linter.unusedVariables false

theorem own : ownKnob Try.prog.godebug = none := by kernel_rfl
theorem laidOut : laidOutB Try.prog = true := by kernel_rfl

theorem eff_refused {k a m : Int} (h : effB k a m = false) : effE k a m = 200 := (eff_bad h).2.2
theorem args_over {k a m : Int} (h : m < 0 ∨ 4 < m) : effB k a m = false := by unfold effB argsB; simp; omega
theorem kind_over {k a m : Int} (h : 16 < k) : effB k a m = false := by
  have : mayB k a = false := by
    cases hm : mayB k a
    · rfl
    · have := may_kind hm; omega
  simp [effB, this]
theorem args_in {k m : Int} (hm : mayB k 0 = true) (h0 : 0 ≤ m) (h1 : m < 5) : effB k 0 m = true := by unfold effB argsB; simp [hm]; omega
set_option maxHeartbeats 20000000 in
theorem walk (a0 : Int) (a1 : Int) (w : World) (w0 : (Lit.int .i64 a0).wf = true) (w1 : (Lit.int .i64 a1).wf = true) :
    Calls Try.prog 5 #[.int .i64 a0, .int .i64 a1] w fun e w' => e = .returned (.bool true) ∧ Below w.heap.size w w' := by
  obtain ⟨hj0, hj1⟩ := umod_bd a0 17 (by decide)
  obtain ⟨hm0, hm1⟩ := umod_bd a1 5 (by decide)
  generalize hj : (IntKind.u64.wrap a0).tmod 17 = j at hj0 hj1
  generalize hm : (IntKind.u64.wrap a1).tmod 5 = m at hm0 hm1
  have f1 : effE j 0 (5 + m) = 200 := eff_refused (args_over (by omega))
  have f2 : effE j 0 (-1 - m) = 200 := eff_refused (args_over (by omega))
  have f3 : effE (17 + j) 0 m = 200 := eff_refused (kind_over (by omega))
  have F1 := hid f1; have F2 := hid f2; have F3 := hid f3
  clear f1 f2 f3
  rcases kinds17 j ⟨hj0, by omega⟩ with rfl | rfl | rfl | rfl | rfl | rfl | rfl | rfl | rfl | rfl | rfl | rfl | rfl | rfl | rfl | rfl | rfl
  · have v1 : effT 0 0 m = 0 := (eff_good (args_in (k := 0) (by decide) hm0 hm1)).1
    have v2 : effP 0 0 m = 1 := (eff_good (args_in (k := 0) (by decide) hm0 hm1)).2.1
    have v3 : effE 0 0 m = 0 := (eff_good (args_in (k := 0) (by decide) hm0 hm1)).2.2
    clear w0 w1 hj0 hj1
    go_enter Try.func5, Try.ntmps5
    go_wp2_with fail
    refine (awake2_any _).mono ?_
    rintro e u0 ⟨rfl, b0⟩
    go_wp2_with fail
    refine (effect_any _ _ _ _).mono ?_
    rintro e u1 ⟨rfl, b1⟩
    go_wp2_with fail
    refine (effect_any _ _ _ _).mono ?_
    rintro e u2 ⟨rfl, b2⟩
    rw [F1.out]
    go_wp2_with fail
    refine (effect_any _ _ _ _).mono ?_
    rintro e u3 ⟨rfl, b3⟩
    rw [F2.out]
    go_wp2_with fail
    refine (effect_any _ _ _ _).mono ?_
    rintro e u4 ⟨rfl, b4⟩
    rw [show effE 17 0 m = 200 from F3.out]
    have bb := kt (kt (kt b1 b2) b3) b4
    have k0 : u4.cell? ⟨u0.heap.size, 0, none⟩ = some (.int .i64 0) := by rw [bb.cell (by simp; omega)]; simp [go_sem]
    have k1 : u4.cell? ⟨u0.heap.size + 1, 0, none⟩ = some (.int .i64 1) := by rw [bb.cell (by simp)]; simp [go_sem]
    have hb := kt b0 (kt (Below.alloc (Below.alloc (Below.refl _ _) (Nat.le_refl _) _) (by simp) _) bb)
    clear b0 b1 b2 b3 b4 bb
    go_wp2_with (first | (go_at_call 8; refine (num_any _ _).mono ?_; rintro e w' ⟨rfl, rfl⟩))
    go_ret
    exact ⟨rfl, hb⟩
  · have v1 : effT 1 0 m = 0 := (eff_good (args_in (k := 1) (by decide) hm0 hm1)).1
    have v2 : effP 1 0 m = 1 := (eff_good (args_in (k := 1) (by decide) hm0 hm1)).2.1
    have v3 : effE 1 0 m = 0 := (eff_good (args_in (k := 1) (by decide) hm0 hm1)).2.2
    clear w0 w1 hj0 hj1
    go_enter Try.func5, Try.ntmps5
    go_wp2_with fail
    refine (awake2_any _).mono ?_
    rintro e u0 ⟨rfl, b0⟩
    go_wp2_with fail
    refine (effect_any _ _ _ _).mono ?_
    rintro e u1 ⟨rfl, b1⟩
    go_wp2_with fail
    refine (effect_any _ _ _ _).mono ?_
    rintro e u2 ⟨rfl, b2⟩
    rw [F1.out]
    go_wp2_with fail
    refine (effect_any _ _ _ _).mono ?_
    rintro e u3 ⟨rfl, b3⟩
    rw [F2.out]
    go_wp2_with fail
    refine (effect_any _ _ _ _).mono ?_
    rintro e u4 ⟨rfl, b4⟩
    rw [show effE 18 0 m = 200 from F3.out]
    have bb := kt (kt (kt b1 b2) b3) b4
    have k0 : u4.cell? ⟨u0.heap.size, 1, none⟩ = some (.int .i64 0) := by rw [bb.cell (by simp; omega)]; simp [go_sem]
    have k1 : u4.cell? ⟨u0.heap.size + 1, 1, none⟩ = some (.int .i64 1) := by rw [bb.cell (by simp)]; simp [go_sem]
    have hb := kt b0 (kt (Below.alloc (Below.alloc (Below.refl _ _) (Nat.le_refl _) _) (by simp) _) bb)
    clear b0 b1 b2 b3 b4 bb
    go_wp2_with (first | (go_at_call 8; refine (num_any _ _).mono ?_; rintro e w' ⟨rfl, rfl⟩))
    go_ret
    exact ⟨rfl, hb⟩
  · have v1 : effT 2 0 m = 1 := (eff_good (args_in (k := 2) (by decide) hm0 hm1)).1
    have v2 : effP 2 0 m = 0 := (eff_good (args_in (k := 2) (by decide) hm0 hm1)).2.1
    have v3 : effE 2 0 m = 0 := (eff_good (args_in (k := 2) (by decide) hm0 hm1)).2.2
    clear w0 w1 hj0 hj1
    go_enter Try.func5, Try.ntmps5
    go_wp2_with fail
    refine (awake2_any _).mono ?_
    rintro e u0 ⟨rfl, b0⟩
    go_wp2_with fail
    refine (effect_any _ _ _ _).mono ?_
    rintro e u1 ⟨rfl, b1⟩
    go_wp2_with fail
    refine (effect_any _ _ _ _).mono ?_
    rintro e u2 ⟨rfl, b2⟩
    rw [F1.out]
    go_wp2_with fail
    refine (effect_any _ _ _ _).mono ?_
    rintro e u3 ⟨rfl, b3⟩
    rw [F2.out]
    go_wp2_with fail
    refine (effect_any _ _ _ _).mono ?_
    rintro e u4 ⟨rfl, b4⟩
    rw [show effE 19 0 m = 200 from F3.out]
    have bb := kt (kt (kt b1 b2) b3) b4
    have k0 : u4.cell? ⟨u0.heap.size, 2, none⟩ = some (.int .i64 1) := by rw [bb.cell (by simp; omega)]; simp [go_sem]
    have k1 : u4.cell? ⟨u0.heap.size + 1, 2, none⟩ = some (.int .i64 0) := by rw [bb.cell (by simp)]; simp [go_sem]
    have hb := kt b0 (kt (Below.alloc (Below.alloc (Below.refl _ _) (Nat.le_refl _) _) (by simp) _) bb)
    clear b0 b1 b2 b3 b4 bb
    go_wp2_with (first | (go_at_call 8; refine (num_any _ _).mono ?_; rintro e w' ⟨rfl, rfl⟩))
    go_ret
    exact ⟨rfl, hb⟩
  · have v1 : effT 3 0 m = 2 := (eff_good (args_in (k := 3) (by decide) hm0 hm1)).1
    have v2 : effP 3 0 m = 1 := (eff_good (args_in (k := 3) (by decide) hm0 hm1)).2.1
    have v3 : effE 3 0 m = 0 := (eff_good (args_in (k := 3) (by decide) hm0 hm1)).2.2
    clear w0 w1 hj0 hj1
    go_enter Try.func5, Try.ntmps5
    go_wp2_with fail
    refine (awake2_any _).mono ?_
    rintro e u0 ⟨rfl, b0⟩
    go_wp2_with fail
    refine (effect_any _ _ _ _).mono ?_
    rintro e u1 ⟨rfl, b1⟩
    go_wp2_with fail
    refine (effect_any _ _ _ _).mono ?_
    rintro e u2 ⟨rfl, b2⟩
    rw [F1.out]
    go_wp2_with fail
    refine (effect_any _ _ _ _).mono ?_
    rintro e u3 ⟨rfl, b3⟩
    rw [F2.out]
    go_wp2_with fail
    refine (effect_any _ _ _ _).mono ?_
    rintro e u4 ⟨rfl, b4⟩
    rw [show effE 20 0 m = 200 from F3.out]
    have bb := kt (kt (kt b1 b2) b3) b4
    have k0 : u4.cell? ⟨u0.heap.size, 3, none⟩ = some (.int .i64 2) := by rw [bb.cell (by simp; omega)]; simp [go_sem]
    have k1 : u4.cell? ⟨u0.heap.size + 1, 3, none⟩ = some (.int .i64 1) := by rw [bb.cell (by simp)]; simp [go_sem]
    have hb := kt b0 (kt (Below.alloc (Below.alloc (Below.refl _ _) (Nat.le_refl _) _) (by simp) _) bb)
    clear b0 b1 b2 b3 b4 bb
    go_wp2_with (first | (go_at_call 8; refine (num_any _ _).mono ?_; rintro e w' ⟨rfl, rfl⟩))
    go_ret
    exact ⟨rfl, hb⟩
  · have v1 : effT 4 0 m = 2 := (eff_good (args_in (k := 4) (by decide) hm0 hm1)).1
    have v2 : effP 4 0 m = 1 := (eff_good (args_in (k := 4) (by decide) hm0 hm1)).2.1
    have v3 : effE 4 0 m = 0 := (eff_good (args_in (k := 4) (by decide) hm0 hm1)).2.2
    clear w0 w1 hj0 hj1
    go_enter Try.func5, Try.ntmps5
    go_wp2_with fail
    refine (awake2_any _).mono ?_
    rintro e u0 ⟨rfl, b0⟩
    go_wp2_with fail
    refine (effect_any _ _ _ _).mono ?_
    rintro e u1 ⟨rfl, b1⟩
    go_wp2_with fail
    refine (effect_any _ _ _ _).mono ?_
    rintro e u2 ⟨rfl, b2⟩
    rw [F1.out]
    go_wp2_with fail
    refine (effect_any _ _ _ _).mono ?_
    rintro e u3 ⟨rfl, b3⟩
    rw [F2.out]
    go_wp2_with fail
    refine (effect_any _ _ _ _).mono ?_
    rintro e u4 ⟨rfl, b4⟩
    rw [show effE 21 0 m = 200 from F3.out]
    have bb := kt (kt (kt b1 b2) b3) b4
    have k0 : u4.cell? ⟨u0.heap.size, 4, none⟩ = some (.int .i64 2) := by rw [bb.cell (by simp; omega)]; simp [go_sem]
    have k1 : u4.cell? ⟨u0.heap.size + 1, 4, none⟩ = some (.int .i64 1) := by rw [bb.cell (by simp)]; simp [go_sem]
    have hb := kt b0 (kt (Below.alloc (Below.alloc (Below.refl _ _) (Nat.le_refl _) _) (by simp) _) bb)
    clear b0 b1 b2 b3 b4 bb
    go_wp2_with (first | (go_at_call 8; refine (num_any _ _).mono ?_; rintro e w' ⟨rfl, rfl⟩))
    go_ret
    exact ⟨rfl, hb⟩
  · have v1 : effT 5 0 m = 2 := (eff_good (args_in (k := 5) (by decide) hm0 hm1)).1
    have v2 : effP 5 0 m = 1 := (eff_good (args_in (k := 5) (by decide) hm0 hm1)).2.1
    have v3 : effE 5 0 m = 0 := (eff_good (args_in (k := 5) (by decide) hm0 hm1)).2.2
    clear w0 w1 hj0 hj1
    go_enter Try.func5, Try.ntmps5
    go_wp2_with fail
    refine (awake2_any _).mono ?_
    rintro e u0 ⟨rfl, b0⟩
    go_wp2_with fail
    refine (effect_any _ _ _ _).mono ?_
    rintro e u1 ⟨rfl, b1⟩
    go_wp2_with fail
    refine (effect_any _ _ _ _).mono ?_
    rintro e u2 ⟨rfl, b2⟩
    rw [F1.out]
    go_wp2_with fail
    refine (effect_any _ _ _ _).mono ?_
    rintro e u3 ⟨rfl, b3⟩
    rw [F2.out]
    go_wp2_with fail
    refine (effect_any _ _ _ _).mono ?_
    rintro e u4 ⟨rfl, b4⟩
    rw [show effE 22 0 m = 200 from F3.out]
    have bb := kt (kt (kt b1 b2) b3) b4
    have k0 : u4.cell? ⟨u0.heap.size, 5, none⟩ = some (.int .i64 2) := by rw [bb.cell (by simp; omega)]; simp [go_sem]
    have k1 : u4.cell? ⟨u0.heap.size + 1, 5, none⟩ = some (.int .i64 1) := by rw [bb.cell (by simp)]; simp [go_sem]
    have hb := kt b0 (kt (Below.alloc (Below.alloc (Below.refl _ _) (Nat.le_refl _) _) (by simp) _) bb)
    clear b0 b1 b2 b3 b4 bb
    go_wp2_with (first | (go_at_call 8; refine (num_any _ _).mono ?_; rintro e w' ⟨rfl, rfl⟩))
    go_ret
    exact ⟨rfl, hb⟩
  · have v1 : effT 6 0 m = 2 := (eff_good (args_in (k := 6) (by decide) hm0 hm1)).1
    have v2 : effP 6 0 m = 1 := (eff_good (args_in (k := 6) (by decide) hm0 hm1)).2.1
    have v3 : effE 6 0 m = 0 := (eff_good (args_in (k := 6) (by decide) hm0 hm1)).2.2
    clear w0 w1 hj0 hj1
    go_enter Try.func5, Try.ntmps5
    go_wp2_with fail
    refine (awake2_any _).mono ?_
    rintro e u0 ⟨rfl, b0⟩
    go_wp2_with fail
    refine (effect_any _ _ _ _).mono ?_
    rintro e u1 ⟨rfl, b1⟩
    go_wp2_with fail
    refine (effect_any _ _ _ _).mono ?_
    rintro e u2 ⟨rfl, b2⟩
    rw [F1.out]
    go_wp2_with fail
    refine (effect_any _ _ _ _).mono ?_
    rintro e u3 ⟨rfl, b3⟩
    rw [F2.out]
    go_wp2_with fail
    refine (effect_any _ _ _ _).mono ?_
    rintro e u4 ⟨rfl, b4⟩
    rw [show effE 23 0 m = 200 from F3.out]
    have bb := kt (kt (kt b1 b2) b3) b4
    have k0 : u4.cell? ⟨u0.heap.size, 6, none⟩ = some (.int .i64 2) := by rw [bb.cell (by simp; omega)]; simp [go_sem]
    have k1 : u4.cell? ⟨u0.heap.size + 1, 6, none⟩ = some (.int .i64 1) := by rw [bb.cell (by simp)]; simp [go_sem]
    have hb := kt b0 (kt (Below.alloc (Below.alloc (Below.refl _ _) (Nat.le_refl _) _) (by simp) _) bb)
    clear b0 b1 b2 b3 b4 bb
    go_wp2_with (first | (go_at_call 8; refine (num_any _ _).mono ?_; rintro e w' ⟨rfl, rfl⟩))
    go_ret
    exact ⟨rfl, hb⟩
  · have v1 : effT 7 0 m = 2 := (eff_good (args_in (k := 7) (by decide) hm0 hm1)).1
    have v2 : effP 7 0 m = 1 := (eff_good (args_in (k := 7) (by decide) hm0 hm1)).2.1
    have v3 : effE 7 0 m = 0 := (eff_good (args_in (k := 7) (by decide) hm0 hm1)).2.2
    clear w0 w1 hj0 hj1
    go_enter Try.func5, Try.ntmps5
    go_wp2_with fail
    refine (awake2_any _).mono ?_
    rintro e u0 ⟨rfl, b0⟩
    go_wp2_with fail
    refine (effect_any _ _ _ _).mono ?_
    rintro e u1 ⟨rfl, b1⟩
    go_wp2_with fail
    refine (effect_any _ _ _ _).mono ?_
    rintro e u2 ⟨rfl, b2⟩
    rw [F1.out]
    go_wp2_with fail
    refine (effect_any _ _ _ _).mono ?_
    rintro e u3 ⟨rfl, b3⟩
    rw [F2.out]
    go_wp2_with fail
    refine (effect_any _ _ _ _).mono ?_
    rintro e u4 ⟨rfl, b4⟩
    rw [show effE 24 0 m = 200 from F3.out]
    have bb := kt (kt (kt b1 b2) b3) b4
    have k0 : u4.cell? ⟨u0.heap.size, 7, none⟩ = some (.int .i64 2) := by rw [bb.cell (by simp; omega)]; simp [go_sem]
    have k1 : u4.cell? ⟨u0.heap.size + 1, 7, none⟩ = some (.int .i64 1) := by rw [bb.cell (by simp)]; simp [go_sem]
    have hb := kt b0 (kt (Below.alloc (Below.alloc (Below.refl _ _) (Nat.le_refl _) _) (by simp) _) bb)
    clear b0 b1 b2 b3 b4 bb
    go_wp2_with (first | (go_at_call 8; refine (num_any _ _).mono ?_; rintro e w' ⟨rfl, rfl⟩))
    go_ret
    exact ⟨rfl, hb⟩
  · have v1 : effT 8 0 m = 2 := (eff_good (args_in (k := 8) (by decide) hm0 hm1)).1
    have v2 : effP 8 0 m = 1 := (eff_good (args_in (k := 8) (by decide) hm0 hm1)).2.1
    have v3 : effE 8 0 m = 0 := (eff_good (args_in (k := 8) (by decide) hm0 hm1)).2.2
    clear w0 w1 hj0 hj1
    go_enter Try.func5, Try.ntmps5
    go_wp2_with fail
    refine (awake2_any _).mono ?_
    rintro e u0 ⟨rfl, b0⟩
    go_wp2_with fail
    refine (effect_any _ _ _ _).mono ?_
    rintro e u1 ⟨rfl, b1⟩
    go_wp2_with fail
    refine (effect_any _ _ _ _).mono ?_
    rintro e u2 ⟨rfl, b2⟩
    rw [F1.out]
    go_wp2_with fail
    refine (effect_any _ _ _ _).mono ?_
    rintro e u3 ⟨rfl, b3⟩
    rw [F2.out]
    go_wp2_with fail
    refine (effect_any _ _ _ _).mono ?_
    rintro e u4 ⟨rfl, b4⟩
    rw [show effE 25 0 m = 200 from F3.out]
    have bb := kt (kt (kt b1 b2) b3) b4
    have k0 : u4.cell? ⟨u0.heap.size, 8, none⟩ = some (.int .i64 2) := by rw [bb.cell (by simp; omega)]; simp [go_sem]
    have k1 : u4.cell? ⟨u0.heap.size + 1, 8, none⟩ = some (.int .i64 1) := by rw [bb.cell (by simp)]; simp [go_sem]
    have hb := kt b0 (kt (Below.alloc (Below.alloc (Below.refl _ _) (Nat.le_refl _) _) (by simp) _) bb)
    clear b0 b1 b2 b3 b4 bb
    go_wp2_with (first | (go_at_call 8; refine (num_any _ _).mono ?_; rintro e w' ⟨rfl, rfl⟩))
    go_ret
    exact ⟨rfl, hb⟩
  · have v1 : effT 9 0 m = 2 := (eff_good (args_in (k := 9) (by decide) hm0 hm1)).1
    have v2 : effP 9 0 m = 1 := (eff_good (args_in (k := 9) (by decide) hm0 hm1)).2.1
    have v3 : effE 9 0 m = 0 := (eff_good (args_in (k := 9) (by decide) hm0 hm1)).2.2
    clear w0 w1 hj0 hj1
    go_enter Try.func5, Try.ntmps5
    go_wp2_with fail
    refine (awake2_any _).mono ?_
    rintro e u0 ⟨rfl, b0⟩
    go_wp2_with fail
    refine (effect_any _ _ _ _).mono ?_
    rintro e u1 ⟨rfl, b1⟩
    go_wp2_with fail
    refine (effect_any _ _ _ _).mono ?_
    rintro e u2 ⟨rfl, b2⟩
    rw [F1.out]
    go_wp2_with fail
    refine (effect_any _ _ _ _).mono ?_
    rintro e u3 ⟨rfl, b3⟩
    rw [F2.out]
    go_wp2_with fail
    refine (effect_any _ _ _ _).mono ?_
    rintro e u4 ⟨rfl, b4⟩
    rw [show effE 26 0 m = 200 from F3.out]
    have bb := kt (kt (kt b1 b2) b3) b4
    have k0 : u4.cell? ⟨u0.heap.size, 9, none⟩ = some (.int .i64 2) := by rw [bb.cell (by simp; omega)]; simp [go_sem]
    have k1 : u4.cell? ⟨u0.heap.size + 1, 9, none⟩ = some (.int .i64 1) := by rw [bb.cell (by simp)]; simp [go_sem]
    have hb := kt b0 (kt (Below.alloc (Below.alloc (Below.refl _ _) (Nat.le_refl _) _) (by simp) _) bb)
    clear b0 b1 b2 b3 b4 bb
    go_wp2_with (first | (go_at_call 8; refine (num_any _ _).mono ?_; rintro e w' ⟨rfl, rfl⟩))
    go_ret
    exact ⟨rfl, hb⟩
  · have v1 : effT 10 0 m = 1 := (eff_good (args_in (k := 10) (by decide) hm0 hm1)).1
    have v2 : effP 10 0 m = 2 := (eff_good (args_in (k := 10) (by decide) hm0 hm1)).2.1
    have v3 : effE 10 0 m = 0 := (eff_good (args_in (k := 10) (by decide) hm0 hm1)).2.2
    clear w0 w1 hj0 hj1
    go_enter Try.func5, Try.ntmps5
    go_wp2_with fail
    refine (awake2_any _).mono ?_
    rintro e u0 ⟨rfl, b0⟩
    go_wp2_with fail
    refine (effect_any _ _ _ _).mono ?_
    rintro e u1 ⟨rfl, b1⟩
    go_wp2_with fail
    refine (effect_any _ _ _ _).mono ?_
    rintro e u2 ⟨rfl, b2⟩
    rw [F1.out]
    go_wp2_with fail
    refine (effect_any _ _ _ _).mono ?_
    rintro e u3 ⟨rfl, b3⟩
    rw [F2.out]
    go_wp2_with fail
    refine (effect_any _ _ _ _).mono ?_
    rintro e u4 ⟨rfl, b4⟩
    rw [show effE 27 0 m = 200 from F3.out]
    have bb := kt (kt (kt b1 b2) b3) b4
    have k0 : u4.cell? ⟨u0.heap.size, 10, none⟩ = some (.int .i64 1) := by rw [bb.cell (by simp; omega)]; simp [go_sem]
    have k1 : u4.cell? ⟨u0.heap.size + 1, 10, none⟩ = some (.int .i64 2) := by rw [bb.cell (by simp)]; simp [go_sem]
    have hb := kt b0 (kt (Below.alloc (Below.alloc (Below.refl _ _) (Nat.le_refl _) _) (by simp) _) bb)
    clear b0 b1 b2 b3 b4 bb
    go_wp2_with (first | (go_at_call 8; refine (num_any _ _).mono ?_; rintro e w' ⟨rfl, rfl⟩))
    go_ret
    exact ⟨rfl, hb⟩
  · have v1 : effT 11 0 m = 1 := (eff_good (args_in (k := 11) (by decide) hm0 hm1)).1
    have v2 : effP 11 0 m = 0 := (eff_good (args_in (k := 11) (by decide) hm0 hm1)).2.1
    have v3 : effE 11 0 m = 0 := (eff_good (args_in (k := 11) (by decide) hm0 hm1)).2.2
    clear w0 w1 hj0 hj1
    go_enter Try.func5, Try.ntmps5
    go_wp2_with fail
    refine (awake2_any _).mono ?_
    rintro e u0 ⟨rfl, b0⟩
    go_wp2_with fail
    refine (effect_any _ _ _ _).mono ?_
    rintro e u1 ⟨rfl, b1⟩
    go_wp2_with fail
    refine (effect_any _ _ _ _).mono ?_
    rintro e u2 ⟨rfl, b2⟩
    rw [F1.out]
    go_wp2_with fail
    refine (effect_any _ _ _ _).mono ?_
    rintro e u3 ⟨rfl, b3⟩
    rw [F2.out]
    go_wp2_with fail
    refine (effect_any _ _ _ _).mono ?_
    rintro e u4 ⟨rfl, b4⟩
    rw [show effE 28 0 m = 200 from F3.out]
    have bb := kt (kt (kt b1 b2) b3) b4
    have k0 : u4.cell? ⟨u0.heap.size, 11, none⟩ = some (.int .i64 1) := by rw [bb.cell (by simp; omega)]; simp [go_sem]
    have k1 : u4.cell? ⟨u0.heap.size + 1, 11, none⟩ = some (.int .i64 0) := by rw [bb.cell (by simp)]; simp [go_sem]
    have hb := kt b0 (kt (Below.alloc (Below.alloc (Below.refl _ _) (Nat.le_refl _) _) (by simp) _) bb)
    clear b0 b1 b2 b3 b4 bb
    go_wp2_with (first | (go_at_call 8; refine (num_any _ _).mono ?_; rintro e w' ⟨rfl, rfl⟩))
    go_ret
    exact ⟨rfl, hb⟩
  · have v1 : effT 12 0 m = 0 := (eff_good (args_in (k := 12) (by decide) hm0 hm1)).1
    have v2 : effP 12 0 m = 0 := (eff_good (args_in (k := 12) (by decide) hm0 hm1)).2.1
    have v3 : effE 12 0 m = 0 := (eff_good (args_in (k := 12) (by decide) hm0 hm1)).2.2
    clear w0 w1 hj0 hj1
    go_enter Try.func5, Try.ntmps5
    go_wp2_with fail
    refine (awake2_any _).mono ?_
    rintro e u0 ⟨rfl, b0⟩
    go_wp2_with fail
    refine (effect_any _ _ _ _).mono ?_
    rintro e u1 ⟨rfl, b1⟩
    go_wp2_with fail
    refine (effect_any _ _ _ _).mono ?_
    rintro e u2 ⟨rfl, b2⟩
    rw [F1.out]
    go_wp2_with fail
    refine (effect_any _ _ _ _).mono ?_
    rintro e u3 ⟨rfl, b3⟩
    rw [F2.out]
    go_wp2_with fail
    refine (effect_any _ _ _ _).mono ?_
    rintro e u4 ⟨rfl, b4⟩
    rw [show effE 29 0 m = 200 from F3.out]
    have bb := kt (kt (kt b1 b2) b3) b4
    have k0 : u4.cell? ⟨u0.heap.size, 12, none⟩ = some (.int .i64 0) := by rw [bb.cell (by simp; omega)]; simp [go_sem]
    have k1 : u4.cell? ⟨u0.heap.size + 1, 12, none⟩ = some (.int .i64 0) := by rw [bb.cell (by simp)]; simp [go_sem]
    have hb := kt b0 (kt (Below.alloc (Below.alloc (Below.refl _ _) (Nat.le_refl _) _) (by simp) _) bb)
    clear b0 b1 b2 b3 b4 bb
    go_wp2_with (first | (go_at_call 8; refine (num_any _ _).mono ?_; rintro e w' ⟨rfl, rfl⟩))
    go_ret
    exact ⟨rfl, hb⟩
  · have v1 : effT 13 0 m = 1 := (eff_good (args_in (k := 13) (by decide) hm0 hm1)).1
    have v2 : effP 13 0 m = 0 := (eff_good (args_in (k := 13) (by decide) hm0 hm1)).2.1
    have v3 : effE 13 0 m = 0 := (eff_good (args_in (k := 13) (by decide) hm0 hm1)).2.2
    clear w0 w1 hj0 hj1
    go_enter Try.func5, Try.ntmps5
    go_wp2_with fail
    refine (awake2_any _).mono ?_
    rintro e u0 ⟨rfl, b0⟩
    go_wp2_with fail
    refine (effect_any _ _ _ _).mono ?_
    rintro e u1 ⟨rfl, b1⟩
    go_wp2_with fail
    refine (effect_any _ _ _ _).mono ?_
    rintro e u2 ⟨rfl, b2⟩
    rw [F1.out]
    go_wp2_with fail
    refine (effect_any _ _ _ _).mono ?_
    rintro e u3 ⟨rfl, b3⟩
    rw [F2.out]
    go_wp2_with fail
    refine (effect_any _ _ _ _).mono ?_
    rintro e u4 ⟨rfl, b4⟩
    rw [show effE 30 0 m = 200 from F3.out]
    have bb := kt (kt (kt b1 b2) b3) b4
    have k0 : u4.cell? ⟨u0.heap.size, 13, none⟩ = some (.int .i64 1) := by rw [bb.cell (by simp; omega)]; simp [go_sem]
    have k1 : u4.cell? ⟨u0.heap.size + 1, 13, none⟩ = some (.int .i64 0) := by rw [bb.cell (by simp)]; simp [go_sem]
    have hb := kt b0 (kt (Below.alloc (Below.alloc (Below.refl _ _) (Nat.le_refl _) _) (by simp) _) bb)
    clear b0 b1 b2 b3 b4 bb
    go_wp2_with (first | (go_at_call 8; refine (num_any _ _).mono ?_; rintro e w' ⟨rfl, rfl⟩))
    go_ret
    exact ⟨rfl, hb⟩
  · have v1 : effT 14 0 m = m := (eff_good (args_in (k := 14) (by decide) hm0 hm1)).1
    have v2 : effP 14 0 m = 1 := (eff_good (args_in (k := 14) (by decide) hm0 hm1)).2.1
    have v3 : effE 14 0 m = 0 := (eff_good (args_in (k := 14) (by decide) hm0 hm1)).2.2
    clear w0 w1 hj0 hj1
    go_enter Try.func5, Try.ntmps5
    go_wp2_with fail
    refine (awake2_any _).mono ?_
    rintro e u0 ⟨rfl, b0⟩
    go_wp2_with fail
    refine (effect_any _ _ _ _).mono ?_
    rintro e u1 ⟨rfl, b1⟩
    go_wp2_with fail
    refine (effect_any _ _ _ _).mono ?_
    rintro e u2 ⟨rfl, b2⟩
    rw [F1.out]
    go_wp2_with fail
    refine (effect_any _ _ _ _).mono ?_
    rintro e u3 ⟨rfl, b3⟩
    rw [F2.out]
    go_wp2_with fail
    refine (effect_any _ _ _ _).mono ?_
    rintro e u4 ⟨rfl, b4⟩
    rw [show effE 31 0 m = 200 from F3.out]
    have bb := kt (kt (kt b1 b2) b3) b4
    have k0 : u4.cell? ⟨u0.heap.size, 14, none⟩ = some (.int .i64 m) := by rw [bb.cell (by simp; omega)]; simp [go_sem]
    have k1 : u4.cell? ⟨u0.heap.size + 1, 14, none⟩ = some (.int .i64 1) := by rw [bb.cell (by simp)]; simp [go_sem]
    have hb := kt b0 (kt (Below.alloc (Below.alloc (Below.refl _ _) (Nat.le_refl _) _) (by simp) _) bb)
    clear b0 b1 b2 b3 b4 bb
    go_wp2_with (first | (go_at_call 8; refine (num_any _ _).mono ?_; rintro e w' ⟨rfl, rfl⟩))
    go_ret
    exact ⟨rfl, hb⟩
  · have v1 : effT 15 0 m = 1 := (eff_good (args_in (k := 15) (by decide) hm0 hm1)).1
    have v2 : effP 15 0 m = 0 := (eff_good (args_in (k := 15) (by decide) hm0 hm1)).2.1
    have v3 : effE 15 0 m = 0 := (eff_good (args_in (k := 15) (by decide) hm0 hm1)).2.2
    clear w0 w1 hj0 hj1
    go_enter Try.func5, Try.ntmps5
    go_wp2_with fail
    refine (awake2_any _).mono ?_
    rintro e u0 ⟨rfl, b0⟩
    go_wp2_with fail
    refine (effect_any _ _ _ _).mono ?_
    rintro e u1 ⟨rfl, b1⟩
    go_wp2_with fail
    refine (effect_any _ _ _ _).mono ?_
    rintro e u2 ⟨rfl, b2⟩
    rw [F1.out]
    go_wp2_with fail
    refine (effect_any _ _ _ _).mono ?_
    rintro e u3 ⟨rfl, b3⟩
    rw [F2.out]
    go_wp2_with fail
    refine (effect_any _ _ _ _).mono ?_
    rintro e u4 ⟨rfl, b4⟩
    rw [show effE 32 0 m = 200 from F3.out]
    have bb := kt (kt (kt b1 b2) b3) b4
    have k0 : u4.cell? ⟨u0.heap.size, 15, none⟩ = some (.int .i64 1) := by rw [bb.cell (by simp; omega)]; simp [go_sem]
    have k1 : u4.cell? ⟨u0.heap.size + 1, 15, none⟩ = some (.int .i64 0) := by rw [bb.cell (by simp)]; simp [go_sem]
    have hb := kt b0 (kt (Below.alloc (Below.alloc (Below.refl _ _) (Nat.le_refl _) _) (by simp) _) bb)
    clear b0 b1 b2 b3 b4 bb
    go_wp2_with (first | (go_at_call 8; refine (num_any _ _).mono ?_; rintro e w' ⟨rfl, rfl⟩))
    go_ret
    exact ⟨rfl, hb⟩
  · have v1 : effT 16 0 m = 1 := (eff_good (args_in (k := 16) (by decide) hm0 hm1)).1
    have v2 : effP 16 0 m = 0 := (eff_good (args_in (k := 16) (by decide) hm0 hm1)).2.1
    have v3 : effE 16 0 m = 0 := (eff_good (args_in (k := 16) (by decide) hm0 hm1)).2.2
    clear w0 w1 hj0 hj1
    go_enter Try.func5, Try.ntmps5
    go_wp2_with fail
    refine (awake2_any _).mono ?_
    rintro e u0 ⟨rfl, b0⟩
    go_wp2_with fail
    refine (effect_any _ _ _ _).mono ?_
    rintro e u1 ⟨rfl, b1⟩
    go_wp2_with fail
    refine (effect_any _ _ _ _).mono ?_
    rintro e u2 ⟨rfl, b2⟩
    rw [F1.out]
    go_wp2_with fail
    refine (effect_any _ _ _ _).mono ?_
    rintro e u3 ⟨rfl, b3⟩
    rw [F2.out]
    go_wp2_with fail
    refine (effect_any _ _ _ _).mono ?_
    rintro e u4 ⟨rfl, b4⟩
    rw [show effE 33 0 m = 200 from F3.out]
    have bb := kt (kt (kt b1 b2) b3) b4
    have k0 : u4.cell? ⟨u0.heap.size, 16, none⟩ = some (.int .i64 1) := by rw [bb.cell (by simp; omega)]; simp [go_sem]
    have k1 : u4.cell? ⟨u0.heap.size + 1, 16, none⟩ = some (.int .i64 0) := by rw [bb.cell (by simp)]; simp [go_sem]
    have hb := kt b0 (kt (Below.alloc (Below.alloc (Below.refl _ _) (Nat.le_refl _) _) (by simp) _) bb)
    clear b0 b1 b2 b3 b4 bb
    go_wp2_with (first | (go_at_call 8; refine (num_any _ _).mono ?_; rintro e w' ⟨rfl, rfl⟩))
    go_ret
    exact ⟨rfl, hb⟩

set_option maxRecDepth 100000 in
theorem lifted (os : Os) (started : os.Started) (H : Type) (enc : TypeId × Value → H) :
    ReturnsInHanded {} Try.checked os 5 .any (Rows.insEffectsSpec.pre6 enc Try.prog Try.f5 Rows.insEffectsRow.domain false) (Rows.insEffectsSpec.post enc Try.prog Try.f5 false true false false) := by
  refine returnsInHanded_of_change (C := Try.checked) own started (by kernel_rfl) Try.func5
    (ChangeSpec.witness6 (enc := enc) (C := Try.checked) false ⟨#[], #[.int .i64 0, .int .i64 0], []⟩ 8 (by kernel_rfl) (by kernel_rfl) (by kernel_rfl) (by kernel_rfl)) ?_
  intro W base args ds gs before hval0 hW hcnd _
  have hval : ∀ (j : Nat) t v, Try.f5.params[j]? = some t → args[j]? = some v → Value.okWide Try.prog W .any base t v := hval0
  have hW' := hW
  obtain ⟨p, q, hA0, hV, rfl, hfz, hnd⟩ := hW
  have hA : DataW.TrodAll enc Try.prog W 0 (fun _ => true) true Try.f5.params.toList args.toList ds p := hA0
  rw [Try.params5] at hA hval
  obtain ⟨v0, vs0, d0, ds0, p0, q0, hargs, rfl, rfl, h0, r0⟩ := trodAll_cons hA
  obtain ⟨v1, vs1, d1, ds1, p1, q1, rfl, rfl, rfl, h1, r1⟩ := trodAll_cons r0
  obtain ⟨rfl, rfl, rfl⟩ := trodAll_nil r1
  obtain rfl : args = #[v0, v1] := by cases args; simp_all
  obtain ⟨rfl, rfl⟩ := trodVars_none hV
  have k0 := h0
  have lt0 : ∀ x ∈ p0, x.block < W.heap.size := by obtain ⟨m, hm⟩ := k0; exact DataW.trod_lt m _ _ _ hm
  have k1 := h1
  have lt1 : ∀ x ∈ p1, x.block < W.heap.size := by obtain ⟨m, hm⟩ := k1; exact DataW.trod_lt m _ _ _ hm
  obtain ⟨a0, rfl, rfl, rfl, w0⟩ := open_int Try.underlying3 (hval 0 3 v0 rfl rfl) h0
  obtain ⟨a1, rfl, rfl, rfl, w1⟩ := open_int Try.underlying3 (hval 1 3 v1 rfl rfl) h1
  clear hA0 hval0
  refine (walk a0 a1 W w0 w1).mono fun e W' ⟨he, bel⟩ => ?_
  subst he
  exact ⟨_, rfl, _, _, _, [], _, [], hW', trodAll_mk1 (shut_bool Try.underlying4 _), (trodAll_cons_mk (Below.trod laidOut (by kernel_rfl) (of_decide_eq_true (by kernel_rfl)) k0 bel lt0) (trodAll_cons_mk (Below.trod laidOut (by kernel_rfl) (of_decide_eq_true (by kernel_rfl)) k1 bel lt1) trodAll_mk0)), rfl, bel.frame _, fun h => by cases h⟩

theorem over : Rows.insEffectsRow.holds Try.pinned (OpenSpec.ofChange Rows.insEffectsSpec) :=
  OpenClaim.holds_of_wide 5 Try.f5 rfl rfl rfl rfl rfl rfl rfl ⟨rfl, rfl, rfl, rfl, rfl⟩ rfl rfl rfl rfl rfl (by kernel_rfl) Try.func5 (by kernel_rfl)
    (of_decide_eq_true (by kernel_rfl)) (by unfold Func.isWrapper; first | (rw [if_pos (by decide +kernel)]; kernel_rfl) | (rw [if_neg (by decide +kernel)]; exact ⟨rfl, rfl⟩))
    (fun os started H enc _ => lifted os started H enc)
end Go.Proofs.Ytkdokjepflhijaa.insEffects
namespace Go.Proofs.Ytkdokjepflhijaa
theorem insEffects_holds : Rows.InsEffectsSaid := insEffects.over
#print axioms insEffects_holds
end Go.Proofs.Ytkdokjepflhijaa
