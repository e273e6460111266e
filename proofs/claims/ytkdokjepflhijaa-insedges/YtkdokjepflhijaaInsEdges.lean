/- For any integer the law InsEdges returns true: of each kind the least and the greatest A may be, and one beyond may not, by ins.May; no conditions. -/
import Derived.Test.YtkdokjepflhijaaRows
import Derived.WalkKit
import Derived.ProofKit
import Derived.OpenShut
import Derived.ShutString
import Derived.ChangeOld
import Derived.Below
import Derived.Carry
import Derived.Lib.SmallJoins
import Derived.Handy
import Derived.WalkSmall
import Derived.Test.YtkdokjepflhijaaAwake2
namespace Go.Proofs.Ytkdokjepflhijaa.insEdges
open Go.ChangeShapes Go.WideShapes Go.ChangeAt Go.RowKit
open Go.ChangeMaps (open_string shut_string)
set_option linter.unusedVariables false

theorem own : ownKnob Try.prog.godebug = none := by kernel_rfl
theorem laidOut : laidOutB Try.prog = true := by kernel_rfl

theorem nineteen (x : Int) (h : 0 ≤ x ∧ x < 19) : x = 0 ∨ x = 1 ∨ x = 2 ∨ x = 3 ∨ x = 4 ∨ x = 5 ∨ x = 6 ∨ x = 7 ∨ x = 8 ∨ x = 9 ∨ x = 10 ∨ x = 11 ∨ x = 12 ∨ x = 13 ∨ x = 14 ∨ x = 15 ∨ x = 16 ∨ x = 17 ∨ x = 18 := by omega
set_option maxHeartbeats 2000000 in
theorem walk (a0 : Int) (w : World) (w0 : (Lit.int .i64 a0).wf = true) :
    Calls Try.prog 4 #[.int .i64 a0] w fun e w' => e = .returned (.bool true) ∧ Below w.heap.size w w' := by
  obtain ⟨hj0, hj1⟩ := umod_bd a0 19 (by decide)
  generalize hj : (IntKind.u64.wrap a0).tmod 19 = j at hj0 hj1
  rcases nineteen j ⟨hj0, hj1⟩ with rfl | rfl | rfl | rfl | rfl | rfl | rfl | rfl | rfl | rfl | rfl | rfl | rfl | rfl | rfl | rfl | rfl | rfl | rfl
  · have m0 : mayB 0 (-2147483648) = true := by decide +kernel
    have m1 : mayB 0 2147483647 = true := by decide +kernel
    have m2 : mayB 0 (-2147483649) = false := by decide +kernel
    have m3 : mayB 0 2147483648 = false := by decide +kernel
    have m4 : mayB (-1) 0 = false := by decide +kernel
    clear w0 hj0 hj1
    go_enter Try.func4, Try.ntmps4
    go_wp2_with fail
    refine (awake2_any _).mono ?_
    rintro e u0 ⟨rfl, b0⟩
    go_wp2_with fail
    refine (insMay_any _ _ _).mono ?_
    rintro e u1 ⟨rfl, b1⟩
    go_wp2_with fail
    refine (insMay_any _ _ _).mono ?_
    rintro e u2 ⟨rfl, b2⟩
    go_wp2_with fail
    refine (insMay_any _ _ _).mono ?_
    rintro e u3 ⟨rfl, b3⟩
    go_wp2_with fail
    refine (insMay_any _ _ _).mono ?_
    rintro e u4 ⟨rfl, b4⟩
    go_wp2_with fail
    refine (insMay_any _ _ _).mono ?_
    rintro e u5 ⟨rfl, b5⟩
    go_wp2_with fail
    go_ret
    exact ⟨rfl, kt (kt (kt (kt (kt b0 b1) b2) b3) b4) b5⟩
  · have m0 : mayB 1 0 = true := by decide +kernel
    have m1 : mayB 1 7 = true := by decide +kernel
    have m2 : mayB 1 (-1) = false := by decide +kernel
    have m3 : mayB 1 8 = false := by decide +kernel
    have m4 : mayB (-2) 0 = false := by decide +kernel
    clear w0 hj0 hj1
    go_enter Try.func4, Try.ntmps4
    go_wp2_with fail
    refine (awake2_any _).mono ?_
    rintro e u0 ⟨rfl, b0⟩
    go_wp2_with fail
    refine (insMay_any _ _ _).mono ?_
    rintro e u1 ⟨rfl, b1⟩
    go_wp2_with fail
    refine (insMay_any _ _ _).mono ?_
    rintro e u2 ⟨rfl, b2⟩
    go_wp2_with fail
    refine (insMay_any _ _ _).mono ?_
    rintro e u3 ⟨rfl, b3⟩
    go_wp2_with fail
    refine (insMay_any _ _ _).mono ?_
    rintro e u4 ⟨rfl, b4⟩
    go_wp2_with fail
    refine (insMay_any _ _ _).mono ?_
    rintro e u5 ⟨rfl, b5⟩
    go_wp2_with fail
    go_ret
    exact ⟨rfl, kt (kt (kt (kt (kt b0 b1) b2) b3) b4) b5⟩
  · have m0 : mayB 2 0 = true := by decide +kernel
    have m1 : mayB 2 7 = true := by decide +kernel
    have m2 : mayB 2 (-1) = false := by decide +kernel
    have m3 : mayB 2 8 = false := by decide +kernel
    have m4 : mayB (-3) 0 = false := by decide +kernel
    clear w0 hj0 hj1
    go_enter Try.func4, Try.ntmps4
    go_wp2_with fail
    refine (awake2_any _).mono ?_
    rintro e u0 ⟨rfl, b0⟩
    go_wp2_with fail
    refine (insMay_any _ _ _).mono ?_
    rintro e u1 ⟨rfl, b1⟩
    go_wp2_with fail
    refine (insMay_any _ _ _).mono ?_
    rintro e u2 ⟨rfl, b2⟩
    go_wp2_with fail
    refine (insMay_any _ _ _).mono ?_
    rintro e u3 ⟨rfl, b3⟩
    go_wp2_with fail
    refine (insMay_any _ _ _).mono ?_
    rintro e u4 ⟨rfl, b4⟩
    go_wp2_with fail
    refine (insMay_any _ _ _).mono ?_
    rintro e u5 ⟨rfl, b5⟩
    go_wp2_with fail
    go_ret
    exact ⟨rfl, kt (kt (kt (kt (kt b0 b1) b2) b3) b4) b5⟩
  · have m0 : mayB 3 0 = true := by decide +kernel
    have m1 : mayB 3 (-1) = false := by decide +kernel
    have m2 : mayB 3 1 = false := by decide +kernel
    have m3 : mayB (-4) 0 = false := by decide +kernel
    clear w0 hj0 hj1
    go_enter Try.func4, Try.ntmps4
    go_wp2_with fail
    refine (awake2_any _).mono ?_
    rintro e u0 ⟨rfl, b0⟩
    go_wp2_with fail
    refine (insMay_any _ _ _).mono ?_
    rintro e u1 ⟨rfl, b1⟩
    go_wp2_with fail
    refine (insMay_any _ _ _).mono ?_
    rintro e u2 ⟨rfl, b2⟩
    go_wp2_with fail
    refine (insMay_any _ _ _).mono ?_
    rintro e u3 ⟨rfl, b3⟩
    go_wp2_with fail
    refine (insMay_any _ _ _).mono ?_
    rintro e u4 ⟨rfl, b4⟩
    go_wp2_with fail
    refine (insMay_any _ _ _).mono ?_
    rintro e u5 ⟨rfl, b5⟩
    go_wp2_with fail
    go_ret
    exact ⟨rfl, kt (kt (kt (kt (kt b0 b1) b2) b3) b4) b5⟩
  · have m0 : mayB 4 0 = true := by decide +kernel
    have m1 : mayB 4 (-1) = false := by decide +kernel
    have m2 : mayB 4 1 = false := by decide +kernel
    have m3 : mayB (-5) 0 = false := by decide +kernel
    clear w0 hj0 hj1
    go_enter Try.func4, Try.ntmps4
    go_wp2_with fail
    refine (awake2_any _).mono ?_
    rintro e u0 ⟨rfl, b0⟩
    go_wp2_with fail
    refine (insMay_any _ _ _).mono ?_
    rintro e u1 ⟨rfl, b1⟩
    go_wp2_with fail
    refine (insMay_any _ _ _).mono ?_
    rintro e u2 ⟨rfl, b2⟩
    go_wp2_with fail
    refine (insMay_any _ _ _).mono ?_
    rintro e u3 ⟨rfl, b3⟩
    go_wp2_with fail
    refine (insMay_any _ _ _).mono ?_
    rintro e u4 ⟨rfl, b4⟩
    go_wp2_with fail
    refine (insMay_any _ _ _).mono ?_
    rintro e u5 ⟨rfl, b5⟩
    go_wp2_with fail
    go_ret
    exact ⟨rfl, kt (kt (kt (kt (kt b0 b1) b2) b3) b4) b5⟩
  · have m0 : mayB 5 0 = true := by decide +kernel
    have m1 : mayB 5 (-1) = false := by decide +kernel
    have m2 : mayB 5 1 = false := by decide +kernel
    have m3 : mayB (-6) 0 = false := by decide +kernel
    clear w0 hj0 hj1
    go_enter Try.func4, Try.ntmps4
    go_wp2_with fail
    refine (awake2_any _).mono ?_
    rintro e u0 ⟨rfl, b0⟩
    go_wp2_with fail
    refine (insMay_any _ _ _).mono ?_
    rintro e u1 ⟨rfl, b1⟩
    go_wp2_with fail
    refine (insMay_any _ _ _).mono ?_
    rintro e u2 ⟨rfl, b2⟩
    go_wp2_with fail
    refine (insMay_any _ _ _).mono ?_
    rintro e u3 ⟨rfl, b3⟩
    go_wp2_with fail
    refine (insMay_any _ _ _).mono ?_
    rintro e u4 ⟨rfl, b4⟩
    go_wp2_with fail
    refine (insMay_any _ _ _).mono ?_
    rintro e u5 ⟨rfl, b5⟩
    go_wp2_with fail
    go_ret
    exact ⟨rfl, kt (kt (kt (kt (kt b0 b1) b2) b3) b4) b5⟩
  · have m0 : mayB 6 0 = true := by decide +kernel
    have m1 : mayB 6 (-1) = false := by decide +kernel
    have m2 : mayB 6 1 = false := by decide +kernel
    have m3 : mayB (-7) 0 = false := by decide +kernel
    clear w0 hj0 hj1
    go_enter Try.func4, Try.ntmps4
    go_wp2_with fail
    refine (awake2_any _).mono ?_
    rintro e u0 ⟨rfl, b0⟩
    go_wp2_with fail
    refine (insMay_any _ _ _).mono ?_
    rintro e u1 ⟨rfl, b1⟩
    go_wp2_with fail
    refine (insMay_any _ _ _).mono ?_
    rintro e u2 ⟨rfl, b2⟩
    go_wp2_with fail
    refine (insMay_any _ _ _).mono ?_
    rintro e u3 ⟨rfl, b3⟩
    go_wp2_with fail
    refine (insMay_any _ _ _).mono ?_
    rintro e u4 ⟨rfl, b4⟩
    go_wp2_with fail
    refine (insMay_any _ _ _).mono ?_
    rintro e u5 ⟨rfl, b5⟩
    go_wp2_with fail
    go_ret
    exact ⟨rfl, kt (kt (kt (kt (kt b0 b1) b2) b3) b4) b5⟩
  · have m0 : mayB 7 0 = true := by decide +kernel
    have m1 : mayB 7 (-1) = false := by decide +kernel
    have m2 : mayB 7 1 = false := by decide +kernel
    have m3 : mayB (-8) 0 = false := by decide +kernel
    clear w0 hj0 hj1
    go_enter Try.func4, Try.ntmps4
    go_wp2_with fail
    refine (awake2_any _).mono ?_
    rintro e u0 ⟨rfl, b0⟩
    go_wp2_with fail
    refine (insMay_any _ _ _).mono ?_
    rintro e u1 ⟨rfl, b1⟩
    go_wp2_with fail
    refine (insMay_any _ _ _).mono ?_
    rintro e u2 ⟨rfl, b2⟩
    go_wp2_with fail
    refine (insMay_any _ _ _).mono ?_
    rintro e u3 ⟨rfl, b3⟩
    go_wp2_with fail
    refine (insMay_any _ _ _).mono ?_
    rintro e u4 ⟨rfl, b4⟩
    go_wp2_with fail
    refine (insMay_any _ _ _).mono ?_
    rintro e u5 ⟨rfl, b5⟩
    go_wp2_with fail
    go_ret
    exact ⟨rfl, kt (kt (kt (kt (kt b0 b1) b2) b3) b4) b5⟩
  · have m0 : mayB 8 0 = true := by decide +kernel
    have m1 : mayB 8 (-1) = false := by decide +kernel
    have m2 : mayB 8 1 = false := by decide +kernel
    have m3 : mayB (-9) 0 = false := by decide +kernel
    clear w0 hj0 hj1
    go_enter Try.func4, Try.ntmps4
    go_wp2_with fail
    refine (awake2_any _).mono ?_
    rintro e u0 ⟨rfl, b0⟩
    go_wp2_with fail
    refine (insMay_any _ _ _).mono ?_
    rintro e u1 ⟨rfl, b1⟩
    go_wp2_with fail
    refine (insMay_any _ _ _).mono ?_
    rintro e u2 ⟨rfl, b2⟩
    go_wp2_with fail
    refine (insMay_any _ _ _).mono ?_
    rintro e u3 ⟨rfl, b3⟩
    go_wp2_with fail
    refine (insMay_any _ _ _).mono ?_
    rintro e u4 ⟨rfl, b4⟩
    go_wp2_with fail
    refine (insMay_any _ _ _).mono ?_
    rintro e u5 ⟨rfl, b5⟩
    go_wp2_with fail
    go_ret
    exact ⟨rfl, kt (kt (kt (kt (kt b0 b1) b2) b3) b4) b5⟩
  · have m0 : mayB 9 0 = true := by decide +kernel
    have m1 : mayB 9 (-1) = false := by decide +kernel
    have m2 : mayB 9 1 = false := by decide +kernel
    have m3 : mayB (-10) 0 = false := by decide +kernel
    clear w0 hj0 hj1
    go_enter Try.func4, Try.ntmps4
    go_wp2_with fail
    refine (awake2_any _).mono ?_
    rintro e u0 ⟨rfl, b0⟩
    go_wp2_with fail
    refine (insMay_any _ _ _).mono ?_
    rintro e u1 ⟨rfl, b1⟩
    go_wp2_with fail
    refine (insMay_any _ _ _).mono ?_
    rintro e u2 ⟨rfl, b2⟩
    go_wp2_with fail
    refine (insMay_any _ _ _).mono ?_
    rintro e u3 ⟨rfl, b3⟩
    go_wp2_with fail
    refine (insMay_any _ _ _).mono ?_
    rintro e u4 ⟨rfl, b4⟩
    go_wp2_with fail
    refine (insMay_any _ _ _).mono ?_
    rintro e u5 ⟨rfl, b5⟩
    go_wp2_with fail
    go_ret
    exact ⟨rfl, kt (kt (kt (kt (kt b0 b1) b2) b3) b4) b5⟩
  · have m0 : mayB 10 0 = true := by decide +kernel
    have m1 : mayB 10 (-1) = false := by decide +kernel
    have m2 : mayB 10 1 = false := by decide +kernel
    have m3 : mayB (-11) 0 = false := by decide +kernel
    clear w0 hj0 hj1
    go_enter Try.func4, Try.ntmps4
    go_wp2_with fail
    refine (awake2_any _).mono ?_
    rintro e u0 ⟨rfl, b0⟩
    go_wp2_with fail
    refine (insMay_any _ _ _).mono ?_
    rintro e u1 ⟨rfl, b1⟩
    go_wp2_with fail
    refine (insMay_any _ _ _).mono ?_
    rintro e u2 ⟨rfl, b2⟩
    go_wp2_with fail
    refine (insMay_any _ _ _).mono ?_
    rintro e u3 ⟨rfl, b3⟩
    go_wp2_with fail
    refine (insMay_any _ _ _).mono ?_
    rintro e u4 ⟨rfl, b4⟩
    go_wp2_with fail
    refine (insMay_any _ _ _).mono ?_
    rintro e u5 ⟨rfl, b5⟩
    go_wp2_with fail
    go_ret
    exact ⟨rfl, kt (kt (kt (kt (kt b0 b1) b2) b3) b4) b5⟩
  · have m0 : mayB 11 0 = true := by decide +kernel
    have m1 : mayB 11 (-1) = false := by decide +kernel
    have m2 : mayB 11 1 = false := by decide +kernel
    have m3 : mayB (-12) 0 = false := by decide +kernel
    clear w0 hj0 hj1
    go_enter Try.func4, Try.ntmps4
    go_wp2_with fail
    refine (awake2_any _).mono ?_
    rintro e u0 ⟨rfl, b0⟩
    go_wp2_with fail
    refine (insMay_any _ _ _).mono ?_
    rintro e u1 ⟨rfl, b1⟩
    go_wp2_with fail
    refine (insMay_any _ _ _).mono ?_
    rintro e u2 ⟨rfl, b2⟩
    go_wp2_with fail
    refine (insMay_any _ _ _).mono ?_
    rintro e u3 ⟨rfl, b3⟩
    go_wp2_with fail
    refine (insMay_any _ _ _).mono ?_
    rintro e u4 ⟨rfl, b4⟩
    go_wp2_with fail
    refine (insMay_any _ _ _).mono ?_
    rintro e u5 ⟨rfl, b5⟩
    go_wp2_with fail
    go_ret
    exact ⟨rfl, kt (kt (kt (kt (kt b0 b1) b2) b3) b4) b5⟩
  · have m0 : mayB 12 0 = true := by decide +kernel
    have m1 : mayB 12 63 = true := by decide +kernel
    have m2 : mayB 12 (-1) = false := by decide +kernel
    have m3 : mayB 12 64 = false := by decide +kernel
    have m4 : mayB (-13) 0 = false := by decide +kernel
    clear w0 hj0 hj1
    go_enter Try.func4, Try.ntmps4
    go_wp2_with fail
    refine (awake2_any _).mono ?_
    rintro e u0 ⟨rfl, b0⟩
    go_wp2_with fail
    refine (insMay_any _ _ _).mono ?_
    rintro e u1 ⟨rfl, b1⟩
    go_wp2_with fail
    refine (insMay_any _ _ _).mono ?_
    rintro e u2 ⟨rfl, b2⟩
    go_wp2_with fail
    refine (insMay_any _ _ _).mono ?_
    rintro e u3 ⟨rfl, b3⟩
    go_wp2_with fail
    refine (insMay_any _ _ _).mono ?_
    rintro e u4 ⟨rfl, b4⟩
    go_wp2_with fail
    refine (insMay_any _ _ _).mono ?_
    rintro e u5 ⟨rfl, b5⟩
    go_wp2_with fail
    go_ret
    exact ⟨rfl, kt (kt (kt (kt (kt b0 b1) b2) b3) b4) b5⟩
  · have m0 : mayB 13 0 = true := by decide +kernel
    have m1 : mayB 13 63 = true := by decide +kernel
    have m2 : mayB 13 (-1) = false := by decide +kernel
    have m3 : mayB 13 64 = false := by decide +kernel
    have m4 : mayB (-14) 0 = false := by decide +kernel
    clear w0 hj0 hj1
    go_enter Try.func4, Try.ntmps4
    go_wp2_with fail
    refine (awake2_any _).mono ?_
    rintro e u0 ⟨rfl, b0⟩
    go_wp2_with fail
    refine (insMay_any _ _ _).mono ?_
    rintro e u1 ⟨rfl, b1⟩
    go_wp2_with fail
    refine (insMay_any _ _ _).mono ?_
    rintro e u2 ⟨rfl, b2⟩
    go_wp2_with fail
    refine (insMay_any _ _ _).mono ?_
    rintro e u3 ⟨rfl, b3⟩
    go_wp2_with fail
    refine (insMay_any _ _ _).mono ?_
    rintro e u4 ⟨rfl, b4⟩
    go_wp2_with fail
    refine (insMay_any _ _ _).mono ?_
    rintro e u5 ⟨rfl, b5⟩
    go_wp2_with fail
    go_ret
    exact ⟨rfl, kt (kt (kt (kt (kt b0 b1) b2) b3) b4) b5⟩
  · have m0 : mayB 14 0 = true := by decide +kernel
    have m1 : mayB 14 7 = true := by decide +kernel
    have m2 : mayB 14 (-1) = false := by decide +kernel
    have m3 : mayB 14 8 = false := by decide +kernel
    have m4 : mayB (-15) 0 = false := by decide +kernel
    clear w0 hj0 hj1
    go_enter Try.func4, Try.ntmps4
    go_wp2_with fail
    refine (awake2_any _).mono ?_
    rintro e u0 ⟨rfl, b0⟩
    go_wp2_with fail
    refine (insMay_any _ _ _).mono ?_
    rintro e u1 ⟨rfl, b1⟩
    go_wp2_with fail
    refine (insMay_any _ _ _).mono ?_
    rintro e u2 ⟨rfl, b2⟩
    go_wp2_with fail
    refine (insMay_any _ _ _).mono ?_
    rintro e u3 ⟨rfl, b3⟩
    go_wp2_with fail
    refine (insMay_any _ _ _).mono ?_
    rintro e u4 ⟨rfl, b4⟩
    go_wp2_with fail
    refine (insMay_any _ _ _).mono ?_
    rintro e u5 ⟨rfl, b5⟩
    go_wp2_with fail
    go_ret
    exact ⟨rfl, kt (kt (kt (kt (kt b0 b1) b2) b3) b4) b5⟩
  · have m0 : mayB 15 0 = true := by decide +kernel
    have m1 : mayB 15 (-1) = false := by decide +kernel
    have m2 : mayB 15 1 = false := by decide +kernel
    have m3 : mayB (-16) 0 = false := by decide +kernel
    clear w0 hj0 hj1
    go_enter Try.func4, Try.ntmps4
    go_wp2_with fail
    refine (awake2_any _).mono ?_
    rintro e u0 ⟨rfl, b0⟩
    go_wp2_with fail
    refine (insMay_any _ _ _).mono ?_
    rintro e u1 ⟨rfl, b1⟩
    go_wp2_with fail
    refine (insMay_any _ _ _).mono ?_
    rintro e u2 ⟨rfl, b2⟩
    go_wp2_with fail
    refine (insMay_any _ _ _).mono ?_
    rintro e u3 ⟨rfl, b3⟩
    go_wp2_with fail
    refine (insMay_any _ _ _).mono ?_
    rintro e u4 ⟨rfl, b4⟩
    go_wp2_with fail
    refine (insMay_any _ _ _).mono ?_
    rintro e u5 ⟨rfl, b5⟩
    go_wp2_with fail
    go_ret
    exact ⟨rfl, kt (kt (kt (kt (kt b0 b1) b2) b3) b4) b5⟩
  · have m0 : mayB 16 0 = true := by decide +kernel
    have m1 : mayB 16 (-1) = false := by decide +kernel
    have m2 : mayB 16 1 = false := by decide +kernel
    have m3 : mayB (-17) 0 = false := by decide +kernel
    clear w0 hj0 hj1
    go_enter Try.func4, Try.ntmps4
    go_wp2_with fail
    refine (awake2_any _).mono ?_
    rintro e u0 ⟨rfl, b0⟩
    go_wp2_with fail
    refine (insMay_any _ _ _).mono ?_
    rintro e u1 ⟨rfl, b1⟩
    go_wp2_with fail
    refine (insMay_any _ _ _).mono ?_
    rintro e u2 ⟨rfl, b2⟩
    go_wp2_with fail
    refine (insMay_any _ _ _).mono ?_
    rintro e u3 ⟨rfl, b3⟩
    go_wp2_with fail
    refine (insMay_any _ _ _).mono ?_
    rintro e u4 ⟨rfl, b4⟩
    go_wp2_with fail
    refine (insMay_any _ _ _).mono ?_
    rintro e u5 ⟨rfl, b5⟩
    go_wp2_with fail
    go_ret
    exact ⟨rfl, kt (kt (kt (kt (kt b0 b1) b2) b3) b4) b5⟩
  · have m0 : mayB 17 0 = false := by decide +kernel
    have m1 : mayB 17 (-1) = false := by decide +kernel
    have m2 : mayB 17 1 = false := by decide +kernel
    have m3 : mayB (-18) 0 = false := by decide +kernel
    clear w0 hj0 hj1
    go_enter Try.func4, Try.ntmps4
    go_wp2_with fail
    refine (awake2_any _).mono ?_
    rintro e u0 ⟨rfl, b0⟩
    go_wp2_with fail
    refine (insMay_any _ _ _).mono ?_
    rintro e u1 ⟨rfl, b1⟩
    go_wp2_with fail
    refine (insMay_any _ _ _).mono ?_
    rintro e u2 ⟨rfl, b2⟩
    go_wp2_with fail
    refine (insMay_any _ _ _).mono ?_
    rintro e u3 ⟨rfl, b3⟩
    go_wp2_with fail
    refine (insMay_any _ _ _).mono ?_
    rintro e u4 ⟨rfl, b4⟩
    go_wp2_with fail
    refine (insMay_any _ _ _).mono ?_
    rintro e u5 ⟨rfl, b5⟩
    go_wp2_with fail
    go_ret
    exact ⟨rfl, kt (kt (kt (kt (kt b0 b1) b2) b3) b4) b5⟩
  · have m0 : mayB 18 0 = false := by decide +kernel
    have m1 : mayB 18 (-1) = false := by decide +kernel
    have m2 : mayB 18 1 = false := by decide +kernel
    have m3 : mayB (-19) 0 = false := by decide +kernel
    clear w0 hj0 hj1
    go_enter Try.func4, Try.ntmps4
    go_wp2_with fail
    refine (awake2_any _).mono ?_
    rintro e u0 ⟨rfl, b0⟩
    go_wp2_with fail
    refine (insMay_any _ _ _).mono ?_
    rintro e u1 ⟨rfl, b1⟩
    go_wp2_with fail
    refine (insMay_any _ _ _).mono ?_
    rintro e u2 ⟨rfl, b2⟩
    go_wp2_with fail
    refine (insMay_any _ _ _).mono ?_
    rintro e u3 ⟨rfl, b3⟩
    go_wp2_with fail
    refine (insMay_any _ _ _).mono ?_
    rintro e u4 ⟨rfl, b4⟩
    go_wp2_with fail
    refine (insMay_any _ _ _).mono ?_
    rintro e u5 ⟨rfl, b5⟩
    go_wp2_with fail
    go_ret
    exact ⟨rfl, kt (kt (kt (kt (kt b0 b1) b2) b3) b4) b5⟩

set_option maxRecDepth 100000 in
theorem lifted (os : Os) (started : os.Started) (H : Type) (enc : TypeId × Value → H) :
    ReturnsInHanded {} Try.checked os 4 .any (Rows.insEdgesSpec.pre6 enc Try.prog Try.f4 Rows.insEdgesRow.domain false) (Rows.insEdgesSpec.post enc Try.prog Try.f4 false true false false) := by
  refine returnsInHanded_of_change (C := Try.checked) own started (by kernel_rfl) Try.func4
    (ChangeSpec.witness6 (enc := enc) (C := Try.checked) false ⟨#[], #[.int .i64 0], []⟩ 8 (by kernel_rfl) (by kernel_rfl) (by kernel_rfl) (by kernel_rfl)) ?_
  intro W base args ds gs before hval0 hW hcnd _
  have hval : ∀ (j : Nat) t v, Try.f4.params[j]? = some t → args[j]? = some v → Value.okWide Try.prog W .any base t v := hval0
  have hW' := hW
  obtain ⟨p, q, hA0, hV, rfl, hfz, hnd⟩ := hW
  have hA : DataW.TrodAll enc Try.prog W 0 (fun _ => true) true Try.f4.params.toList args.toList ds p := hA0
  rw [Try.params4] at hA hval
  obtain ⟨v0, vs0, d0, ds0, p0, q0, hargs, rfl, rfl, h0, r0⟩ := trodAll_cons hA
  obtain ⟨rfl, rfl, rfl⟩ := trodAll_nil r0
  obtain rfl : args = #[v0] := by cases args; simp_all
  obtain ⟨rfl, rfl⟩ := trodVars_none hV
  have k0 := h0
  have lt0 : ∀ x ∈ p0, x.block < W.heap.size := by obtain ⟨m, hm⟩ := k0; exact DataW.trod_lt m _ _ _ hm
  obtain ⟨a0, rfl, rfl, rfl, w0⟩ := open_int Try.underlying3 (hval 0 3 v0 rfl rfl) h0
  clear hA0 hval0
  refine (walk a0 W w0).mono fun e W' ⟨he, bel⟩ => ?_
  subst he
  exact ⟨_, rfl, _, _, _, [], _, [], hW', trodAll_mk1 (shut_bool Try.underlying4 _), (trodAll_cons_mk (Below.trod laidOut (by kernel_rfl) (of_decide_eq_true (by kernel_rfl)) k0 bel lt0) trodAll_mk0), rfl, bel.frame _, fun h => by cases h⟩

theorem over : Rows.insEdgesRow.holds Try.pinned (OpenSpec.ofChange Rows.insEdgesSpec) :=
  OpenClaim.holds_of_wide 4 Try.f4 rfl rfl rfl rfl rfl rfl rfl ⟨rfl, rfl, rfl, rfl, rfl⟩ rfl rfl rfl rfl rfl (by kernel_rfl) Try.func4 (by kernel_rfl)
    (of_decide_eq_true (by kernel_rfl)) (by unfold Func.isWrapper; first | (rw [if_pos (by decide +kernel)]; kernel_rfl) | (rw [if_neg (by decide +kernel)]; exact ⟨rfl, rfl⟩))
    (fun os started H enc _ => lifted os started H enc)
end Go.Proofs.Ytkdokjepflhijaa.insEdges
namespace Go.Proofs.Ytkdokjepflhijaa
theorem insEdges_holds : Rows.InsEdgesSaid := insEdges.over
#print axioms insEdges_holds
end Go.Proofs.Ytkdokjepflhijaa
