/- For any two integers the law FlowForms returns true: functions and pcs that are none are refused by flow.Next, flow.Leaders and flow.Reached, one thing at a time; no conditions. -/
import Derived.Test.YtclpnmideableaaRows
import Derived.WalkKit
import Derived.ProofKit
import Derived.OpenShut
import Derived.ShutString
import Derived.ChangeOld
import Derived.Below
import Derived.Carry
import Derived.Lib.SmallJoins
import Derived.Handy
import Derived.WalkSmall
import Derived.SizedLaws
import Derived.Test.YtclpnmideableaaMade
namespace Go.Proofs.Ytclpnmideableaa.flowForms
open Go.ChangeShapes Go.WideShapes Go.ChangeAt Go.RowKit
open Go.ChangeMaps (open_string shut_string)
set_option linter.unusedVariables false

theorem own : ownKnob Try.prog.godebug = none := by kernel_rfl
theorem laidOut : laidOutB Try.prog = true := by kernel_rfl

def gd : List (Int × Int) := [(0, 1), (16, 0)]
theorem gd_far (m : Nat) : nxE gd (1 + (1 + (m : Int))) = 400 := by
  have : nxOk gd (1 + (1 + (m : Int))) = false := by rw [nxOk, show inB gd.length (1 + (1 + (m : Int))) = false by simp [inB, gd]; omega]; simp
  simp [nxE, this]
theorem gd_neg (m : Nat) : nxE gd (-(1 + (m : Int))) = 400 := by
  have : nxOk gd (-(1 + (m : Int))) = false := by rw [nxOk, show inB gd.length (-(1 + (m : Int))) = false by simp [inB]; omega]; simp
  simp [nxE, this]
theorem bad_e {l : List (Int × Int)} (h : codeB l = false) (pc : Int) : nxE l pc = 400 ∧ cE l = 400 := by simp [nxE, nxOk, cE, h]
theorem bad0 : codeB [] = false := rfl
theorem bad1 (m : Nat) : codeB (List.replicate (65 + m) (0, 0)) = false := codeB_short (by simp; omega)
theorem bad2 (m : Nat) : codeB [(16 + (1 + (m : Int)), 0)] = false := codeB_not (by
  simp only [List.all_cons, List.all_nil, Bool.and_true]
  unfold mayB
  rw [if_neg (by omega), if_neg (by omega), if_neg (by omega), if_neg (by omega)]
  simp; omega)
theorem bad3 (m : Nat) : codeB [(12, 63 + (1 + (m : Int)))] = false := codeB_not (by
  simp [may12, belowB]; omega)
/-- The world as FlowForms has it: what is good, what is bad. -/
def formsW (u : World) (m : Nat) (s : Value) : World :=
  ((((((u.alloc (.cells #[.int .i64 0, .int .i64 1, .int .i64 16, .int .i64 0] 50)).alloc (.cells #[.int .i64 0, .int .i64 0, .slice (some ⟨u.heap.size, 0, none⟩) 2 2] 28)).alloc (.cells (madeCells #[.int .i64 0, .int .i64 0] ((65 + m) * 2)) 50)).alloc (.cells #[.int .i64 (16 + (1 + (m : Int))), .int .i64 0] 50)).alloc (.cells #[.int .i64 12, .int .i64 (63 + (1 + (m : Int)))] 50)).alloc (.cells #[.int .i64 0, .int .i64 0, .slice none 0 0, .int .i64 0, .int .i64 0, .slice (some ⟨u.heap.size + 1 + 1, 0, none⟩) (65 + m) (65 + m), .int .i64 0, .int .i64 0, .slice (some ⟨u.heap.size + 1 + 1 + 1, 0, none⟩) 1 1, .int .i64 0, .int .i64 0, .slice (some ⟨u.heap.size + 1 + 1 + 1 + 1, 0, none⟩) 1 1] 28)).alloc (.cells #[.int .i64 0, .int .i64 0, s] 28)
theorem formsW_below (u : World) (m : Nat) (s : Value) : Below u.heap.size u (formsW u m s) := by unfold formsW; go_grown
theorem formsW_bad (u : World) (m : Nat) (s : Value) : FB (formsW u m s) (u.heap.size + 1 + 1 + 1 + 1 + 1 + 1) 0 0 s := ⟨by simp [formsW, go_sem], by simp [formsW, go_sem], by simp [formsW, go_sem]⟩
theorem formsW_good (u : World) (m : Nat) (s : Value) : FB (formsW u m s) (u.heap.size + 1) 0 0 (.slice (some ⟨u.heap.size, 0, none⟩) 2 2) := ⟨by simp [formsW, go_sem], by simp [formsW, go_sem], by simp [formsW, go_sem]⟩
theorem grown6 {u a : World} (h : Below u.heap.size u a) (hs : u.heap.size ≤ a.heap.size) (o : Obj) : Below u.heap.size u (a.alloc o) ∧ u.heap.size ≤ (a.alloc o).heap.size := ⟨Below.alloc h hs o, by simp; omega⟩
theorem formsW_g (u : World) (m : Nat) (s : Value) : Inss (formsW u m s) (some ⟨u.heap.size, 0, none⟩) 2 2 gd := by
  refine Inss.kept (w := u.alloc (.cells #[.int .i64 0, .int .i64 1, .int .i64 16, .int .i64 0] 50)) ?_ (inss_new u gd 50 (by decide))
  unfold formsW
  exact (grown6 (grown6 (grown6 (grown6 (grown6 (grown6 (Below.refl _ _) (Nat.le_refl _) _).1 (grown6 (Below.refl _ _) (Nat.le_refl _) _).2 _).1 (by simp) _).1 (by simp <;> omega) _).1 (by simp <;> omega) _).1 (by simp <;> omega) _).1
theorem formsW_1 (u : World) (m : Nat) (s : Value) (hm : m ≤ 2000) : Inss (formsW u m s) (some ⟨u.heap.size + 1 + 1, 0, none⟩) (65 + m) (65 + m) (List.replicate (65 + m) (0, 0)) := by
  have h := inss_made ((u.alloc (.cells #[.int .i64 0, .int .i64 1, .int .i64 16, .int .i64 0] 50)).alloc (.cells #[.int .i64 0, .int .i64 0, .slice (some ⟨u.heap.size, 0, none⟩) 2 2] 28)) (65 + m) 50 (by omega)
  rw [show ((u.alloc (.cells #[.int .i64 0, .int .i64 1, .int .i64 16, .int .i64 0] 50)).alloc (.cells #[.int .i64 0, .int .i64 0, .slice (some ⟨u.heap.size, 0, none⟩) 2 2] 28)).heap.size = u.heap.size + 1 + 1 by simp] at h
  refine Inss.kept ?_ h
  unfold formsW
  exact (grown6 (grown6 (grown6 (grown6 (Below.refl _ _) (Nat.le_refl _) _).1 (by simp) _).1 (by simp <;> omega) _).1 (by simp <;> omega) _).1
theorem formsW_2 (u : World) (m : Nat) (s : Value) : Inss (formsW u m s) (some ⟨u.heap.size + 1 + 1 + 1, 0, none⟩) 1 1 [(16 + (1 + (m : Int)), 0)] := by
  have h := inss_new (((u.alloc (.cells #[.int .i64 0, .int .i64 1, .int .i64 16, .int .i64 0] 50)).alloc (.cells #[.int .i64 0, .int .i64 0, .slice (some ⟨u.heap.size, 0, none⟩) 2 2] 28)).alloc (.cells (madeCells #[.int .i64 0, .int .i64 0] ((65 + m) * 2)) 50)) [(16 + (1 + (m : Int)), 0)] 50 (by simp)
  rw [show (((u.alloc (.cells #[.int .i64 0, .int .i64 1, .int .i64 16, .int .i64 0] 50)).alloc (.cells #[.int .i64 0, .int .i64 0, .slice (some ⟨u.heap.size, 0, none⟩) 2 2] 28)).alloc (.cells (madeCells #[.int .i64 0, .int .i64 0] ((65 + m) * 2)) 50)).heap.size = u.heap.size + 1 + 1 + 1 by simp] at h
  refine Inss.kept ?_ h
  unfold formsW
  exact (grown6 (grown6 (grown6 (Below.refl _ _) (Nat.le_refl _) _).1 (by simp) _).1 (by simp <;> omega) _).1
theorem formsW_3 (u : World) (m : Nat) (s : Value) : Inss (formsW u m s) (some ⟨u.heap.size + 1 + 1 + 1 + 1, 0, none⟩) 1 1 [(12, 63 + (1 + (m : Int)))] := by
  have h := inss_new ((((u.alloc (.cells #[.int .i64 0, .int .i64 1, .int .i64 16, .int .i64 0] 50)).alloc (.cells #[.int .i64 0, .int .i64 0, .slice (some ⟨u.heap.size, 0, none⟩) 2 2] 28)).alloc (.cells (madeCells #[.int .i64 0, .int .i64 0] ((65 + m) * 2)) 50)).alloc (.cells #[.int .i64 (16 + (1 + (m : Int))), .int .i64 0] 50)) [(12, 63 + (1 + (m : Int)))] 50 (by simp)
  rw [show ((((u.alloc (.cells #[.int .i64 0, .int .i64 1, .int .i64 16, .int .i64 0] 50)).alloc (.cells #[.int .i64 0, .int .i64 0, .slice (some ⟨u.heap.size, 0, none⟩) 2 2] 28)).alloc (.cells (madeCells #[.int .i64 0, .int .i64 0] ((65 + m) * 2)) 50)).alloc (.cells #[.int .i64 (16 + (1 + (m : Int))), .int .i64 0] 50)).heap.size = u.heap.size + 1 + 1 + 1 + 1 by simp] at h
  refine Inss.kept ?_ h
  unfold formsW
  exact (grown6 (grown6 (Below.refl _ _) (Nat.le_refl _) _).1 (by simp) _).1
theorem inss_nil (u : World) : Inss u none 0 0 [] := ⟨rfl, Nat.le_refl _, by omega, fun _ => ⟨rfl, rfl⟩, fun h => absurd h (by omega)⟩

set_option maxRecDepth 100000 in
set_option maxHeartbeats 20000000 in
theorem walk (a0 : Int) (a1 : Int) (w : World) (w0 : (Lit.int .i64 a0).wf = true) (w1 : (Lit.int .i64 a1).wf = true) :
    Calls Try.prog 5 #[.int .i64 a0, .int .i64 a1] w fun e w' => e = .returned (.bool true) ∧ Below w.heap.size w w' := by
  have hm := and1023 a1
  have hm0 : 0 ≤ a1 % 1024 ∧ a1 % 1024 < 1024 := by omega
  obtain ⟨hj0, hj1⟩ := umod_bd a0 4 (by decide)
  generalize a1 % 1024 = m at hm hm0
  generalize hj : (IntKind.u64.wrap a0).tmod 4 = jj at hj0 hj1
  obtain ⟨hm1, hm2⟩ := hm0
  obtain ⟨mm, rfl⟩ := Int.eq_ofNat_of_zero_le hm1
  have hmk : ∀ u : World, (Instr.makeSlice 26 (.int .i64 (64 + (1 + (mm : Int)))) (.int .i64 (64 + (1 + (mm : Int))))).run Try.prog u = .ok (.slice (some ⟨u.heap.size, 0, none⟩) (65 + mm) (65 + mm)) (u.alloc (.cells (madeCells #[.int .i64 0, .int .i64 0] ((65 + mm) * 2)) 50)) := by
    intro u
    rw [show (64 + (1 + (mm : Int))) = ((65 + mm : Nat) : Int) by omega]
    exact make_inss (65 + mm) (by omega) u
  clear w0 w1 hm1
  go_enter Try.func5, Try.ntmps5
  go_wp2_with fail
  refine (awake4_any _).mono ?_
  rintro e u1 ⟨rfl, b1⟩
  have B1 := hid b1
  clear b1
  have hj4 : jj = 0 ∨ jj = 1 ∨ jj = 2 ∨ jj = 3 := by omega
  rcases hj4 with rfl | rfl | rfl | rfl
  · have IB := hid (inss_nil (formsW u1 mm (.slice none 0 0)))
    have EB := hid (bad_e (bad0) 0)
    have FP := hid (formsW_bad u1 mm (.slice none 0 0))
    have FG := hid (formsW_good u1 mm (.slice none 0 0))
    have IG := hid (formsW_g u1 mm (.slice none 0 0))
    have BV := hid (formsW_below u1 mm (.slice none 0 0))
    go_wp2_with fail
    refine (flowNext_any 0 0 0 _ _ _ _ _ IB.out).mono ?_
    rintro e v1 ⟨va, rfl, -, b1⟩
    rw [EB.out.1]
    obtain ⟨x0, x1, x2⟩ := FP.out.kept b1
    have C1 := hid b1
    clear b1
    go_wp2_with fail
    refine (leaders_any 0 0 _ _ _ _ _ (IB.out.kept C1.out)).mono ?_
    rintro e v2 ⟨vb, rfl, -, b2⟩
    rw [EB.out.2]
    have C2 := hid (kt C1.out b2)
    clear b2 x0 x1 x2
    obtain ⟨x0, x1, x2⟩ := FP.out.kept C2.out
    go_wp2_with fail
    refine (reached_any 0 0 _ _ _ _ _ (IB.out.kept C2.out)).mono ?_
    rintro e v3 ⟨vc, bc, rfl, -, -, b3⟩
    rw [EB.out.2]
    have C3 := hid (kt C2.out b3)
    clear b3 x0 x1 x2
    obtain ⟨x0, x1, x2⟩ := FG.out.kept C3.out
    go_wp2_with fail
    refine (flowNext_any 0 0 (1 + (1 + (mm : Int))) _ 2 2 gd _ (IG.out.kept C3.out)).mono ?_
    rintro e v4 ⟨vd, rfl, -, b4⟩
    rw [gd_far]
    have C4 := hid (kt C3.out b4)
    clear b4 x0 x1 x2
    obtain ⟨x0, x1, x2⟩ := FG.out.kept C4.out
    go_wp2_with fail
    refine (flowNext_any 0 0 (-(1 + (mm : Int))) _ 2 2 gd _ (IG.out.kept C4.out)).mono ?_
    rintro e v5 ⟨ve, rfl, -, b5⟩
    rw [gd_neg]
    have C5 := hid (kt C4.out b5)
    clear b5 x0 x1 x2
    go_wp2_with (first | (go_at_call 16; refine (num_any _ _).mono ?_; rintro e w' ⟨rfl, hw⟩; rw [hw]; clear hw))
    go_ret
    exact ⟨rfl, kt (kt B1.out BV.out) C5.out⟩
  · have IB := hid (formsW_1 u1 mm (.slice (some ⟨u1.heap.size + 1 + 1, 0, none⟩) (65 + mm) (65 + mm)) (by omega))
    have EB := hid (bad_e (bad1 mm) 0)
    have FP := hid (formsW_bad u1 mm (.slice (some ⟨u1.heap.size + 1 + 1, 0, none⟩) (65 + mm) (65 + mm)))
    have FG := hid (formsW_good u1 mm (.slice (some ⟨u1.heap.size + 1 + 1, 0, none⟩) (65 + mm) (65 + mm)))
    have IG := hid (formsW_g u1 mm (.slice (some ⟨u1.heap.size + 1 + 1, 0, none⟩) (65 + mm) (65 + mm)))
    have BV := hid (formsW_below u1 mm (.slice (some ⟨u1.heap.size + 1 + 1, 0, none⟩) (65 + mm) (65 + mm)))
    go_wp2_with fail
    refine (flowNext_any 0 0 0 _ _ _ _ _ IB.out).mono ?_
    rintro e v1 ⟨va, rfl, -, b1⟩
    rw [EB.out.1]
    obtain ⟨x0, x1, x2⟩ := FP.out.kept b1
    have C1 := hid b1
    clear b1
    go_wp2_with fail
    refine (leaders_any 0 0 _ _ _ _ _ (IB.out.kept C1.out)).mono ?_
    rintro e v2 ⟨vb, rfl, -, b2⟩
    rw [EB.out.2]
    have C2 := hid (kt C1.out b2)
    clear b2 x0 x1 x2
    obtain ⟨x0, x1, x2⟩ := FP.out.kept C2.out
    go_wp2_with fail
    refine (reached_any 0 0 _ _ _ _ _ (IB.out.kept C2.out)).mono ?_
    rintro e v3 ⟨vc, bc, rfl, -, -, b3⟩
    rw [EB.out.2]
    have C3 := hid (kt C2.out b3)
    clear b3 x0 x1 x2
    obtain ⟨x0, x1, x2⟩ := FG.out.kept C3.out
    go_wp2_with fail
    refine (flowNext_any 0 0 (1 + (1 + (mm : Int))) _ 2 2 gd _ (IG.out.kept C3.out)).mono ?_
    rintro e v4 ⟨vd, rfl, -, b4⟩
    rw [gd_far]
    have C4 := hid (kt C3.out b4)
    clear b4 x0 x1 x2
    obtain ⟨x0, x1, x2⟩ := FG.out.kept C4.out
    go_wp2_with fail
    refine (flowNext_any 0 0 (-(1 + (mm : Int))) _ 2 2 gd _ (IG.out.kept C4.out)).mono ?_
    rintro e v5 ⟨ve, rfl, -, b5⟩
    rw [gd_neg]
    have C5 := hid (kt C4.out b5)
    clear b5 x0 x1 x2
    go_wp2_with (first | (go_at_call 16; refine (num_any _ _).mono ?_; rintro e w' ⟨rfl, hw⟩; rw [hw]; clear hw))
    go_ret
    exact ⟨rfl, kt (kt B1.out BV.out) C5.out⟩
  · have IB := hid (formsW_2 u1 mm (.slice (some ⟨u1.heap.size + 1 + 1 + 1, 0, none⟩) 1 1))
    have EB := hid (bad_e (bad2 mm) 0)
    have FP := hid (formsW_bad u1 mm (.slice (some ⟨u1.heap.size + 1 + 1 + 1, 0, none⟩) 1 1))
    have FG := hid (formsW_good u1 mm (.slice (some ⟨u1.heap.size + 1 + 1 + 1, 0, none⟩) 1 1))
    have IG := hid (formsW_g u1 mm (.slice (some ⟨u1.heap.size + 1 + 1 + 1, 0, none⟩) 1 1))
    have BV := hid (formsW_below u1 mm (.slice (some ⟨u1.heap.size + 1 + 1 + 1, 0, none⟩) 1 1))
    go_wp2_with fail
    refine (flowNext_any 0 0 0 _ _ _ _ _ IB.out).mono ?_
    rintro e v1 ⟨va, rfl, -, b1⟩
    rw [EB.out.1]
    obtain ⟨x0, x1, x2⟩ := FP.out.kept b1
    have C1 := hid b1
    clear b1
    go_wp2_with fail
    refine (leaders_any 0 0 _ _ _ _ _ (IB.out.kept C1.out)).mono ?_
    rintro e v2 ⟨vb, rfl, -, b2⟩
    rw [EB.out.2]
    have C2 := hid (kt C1.out b2)
    clear b2 x0 x1 x2
    obtain ⟨x0, x1, x2⟩ := FP.out.kept C2.out
    go_wp2_with fail
    refine (reached_any 0 0 _ _ _ _ _ (IB.out.kept C2.out)).mono ?_
    rintro e v3 ⟨vc, bc, rfl, -, -, b3⟩
    rw [EB.out.2]
    have C3 := hid (kt C2.out b3)
    clear b3 x0 x1 x2
    obtain ⟨x0, x1, x2⟩ := FG.out.kept C3.out
    go_wp2_with fail
    refine (flowNext_any 0 0 (1 + (1 + (mm : Int))) _ 2 2 gd _ (IG.out.kept C3.out)).mono ?_
    rintro e v4 ⟨vd, rfl, -, b4⟩
    rw [gd_far]
    have C4 := hid (kt C3.out b4)
    clear b4 x0 x1 x2
    obtain ⟨x0, x1, x2⟩ := FG.out.kept C4.out
    go_wp2_with fail
    refine (flowNext_any 0 0 (-(1 + (mm : Int))) _ 2 2 gd _ (IG.out.kept C4.out)).mono ?_
    rintro e v5 ⟨ve, rfl, -, b5⟩
    rw [gd_neg]
    have C5 := hid (kt C4.out b5)
    clear b5 x0 x1 x2
    go_wp2_with (first | (go_at_call 16; refine (num_any _ _).mono ?_; rintro e w' ⟨rfl, hw⟩; rw [hw]; clear hw))
    go_ret
    exact ⟨rfl, kt (kt B1.out BV.out) C5.out⟩
  · have IB := hid (formsW_3 u1 mm (.slice (some ⟨u1.heap.size + 1 + 1 + 1 + 1, 0, none⟩) 1 1))
    have EB := hid (bad_e (bad3 mm) 0)
    have FP := hid (formsW_bad u1 mm (.slice (some ⟨u1.heap.size + 1 + 1 + 1 + 1, 0, none⟩) 1 1))
    have FG := hid (formsW_good u1 mm (.slice (some ⟨u1.heap.size + 1 + 1 + 1 + 1, 0, none⟩) 1 1))
    have IG := hid (formsW_g u1 mm (.slice (some ⟨u1.heap.size + 1 + 1 + 1 + 1, 0, none⟩) 1 1))
    have BV := hid (formsW_below u1 mm (.slice (some ⟨u1.heap.size + 1 + 1 + 1 + 1, 0, none⟩) 1 1))
    go_wp2_with fail
    refine (flowNext_any 0 0 0 _ _ _ _ _ IB.out).mono ?_
    rintro e v1 ⟨va, rfl, -, b1⟩
    rw [EB.out.1]
    obtain ⟨x0, x1, x2⟩ := FP.out.kept b1
    have C1 := hid b1
    clear b1
    go_wp2_with fail
    refine (leaders_any 0 0 _ _ _ _ _ (IB.out.kept C1.out)).mono ?_
    rintro e v2 ⟨vb, rfl, -, b2⟩
    rw [EB.out.2]
    have C2 := hid (kt C1.out b2)
    clear b2 x0 x1 x2
    obtain ⟨x0, x1, x2⟩ := FP.out.kept C2.out
    go_wp2_with fail
    refine (reached_any 0 0 _ _ _ _ _ (IB.out.kept C2.out)).mono ?_
    rintro e v3 ⟨vc, bc, rfl, -, -, b3⟩
    rw [EB.out.2]
    have C3 := hid (kt C2.out b3)
    clear b3 x0 x1 x2
    obtain ⟨x0, x1, x2⟩ := FG.out.kept C3.out
    go_wp2_with fail
    refine (flowNext_any 0 0 (1 + (1 + (mm : Int))) _ 2 2 gd _ (IG.out.kept C3.out)).mono ?_
    rintro e v4 ⟨vd, rfl, -, b4⟩
    rw [gd_far]
    have C4 := hid (kt C3.out b4)
    clear b4 x0 x1 x2
    obtain ⟨x0, x1, x2⟩ := FG.out.kept C4.out
    go_wp2_with fail
    refine (flowNext_any 0 0 (-(1 + (mm : Int))) _ 2 2 gd _ (IG.out.kept C4.out)).mono ?_
    rintro e v5 ⟨ve, rfl, -, b5⟩
    rw [gd_neg]
    have C5 := hid (kt C4.out b5)
    clear b5 x0 x1 x2
    go_wp2_with (first | (go_at_call 16; refine (num_any _ _).mono ?_; rintro e w' ⟨rfl, hw⟩; rw [hw]; clear hw))
    go_ret
    exact ⟨rfl, kt (kt B1.out BV.out) C5.out⟩

set_option maxRecDepth 100000 in
theorem lifted (os : Os) (started : os.Started) (H : Type) (enc : TypeId × Value → H) :
    ReturnsInHanded {} Try.checked os 5 .any (Rows.flowFormsSpec.pre6 enc Try.prog Try.f5 Rows.flowFormsRow.domain false) (Rows.flowFormsSpec.post enc Try.prog Try.f5 false true false false) := by
  refine returnsInHanded_of_change_sized (C := Try.checked) own started (by kernel_rfl) Try.func5
    (ChangeSpec.witness6 (enc := enc) (C := Try.checked) false ⟨#[], #[.int .i64 0, .int .i64 0], []⟩ 8 (by kernel_rfl) (by kernel_rfl) (by kernel_rfl) (by kernel_rfl)) ?_
  intro W base args ds gs before hval0 hW hcnd hsz0 _
  have hval : ∀ (j : Nat) t v, Try.f5.params[j]? = some t → args[j]? = some v → Value.okWide Try.prog W .any base t v := hval0
  have hW' := hW
  obtain ⟨p, q, hA0, hV, rfl, hfz, hnd⟩ := hW
  have hA : DataW.TrodAll enc Try.prog W 0 (fun _ => true) true Try.f5.params.toList args.toList ds p := hA0
  have hsz : (DataW.weightsEach Try.prog (Try.f5.params.toList ++ Rows.flowFormsSpec.plain.varTypes Try.prog) (ds ++ gs)).all (· ≤ reachBytes) = true := hsz0
  rw [Try.params5] at hA hval hsz
  obtain ⟨v0, vs0, d0, ds0, p0, q0, hargs, rfl, rfl, h0, r0⟩ := trodAll_cons hA
  obtain ⟨v1, vs1, d1, ds1, p1, q1, rfl, rfl, rfl, h1, r1⟩ := trodAll_cons r0
  obtain ⟨rfl, rfl, rfl⟩ := trodAll_nil r1
  obtain rfl : args = #[v0, v1] := by cases args; simp_all
  obtain ⟨rfl, rfl⟩ := trodVars_none hV
  have k0 := h0
  have lt0 : ∀ x ∈ p0, x.block < W.heap.size := by obtain ⟨m, hm⟩ := k0; exact DataW.trod_lt m _ _ _ hm
  have k1 := h1
  have lt1 : ∀ x ∈ p1, x.block < W.heap.size := by obtain ⟨m, hm⟩ := k1; exact DataW.trod_lt m _ _ _ hm
  obtain ⟨a0, rfl, rfl, rfl, w0⟩ := open_int Try.underlying3 (hval 0 3 v0 rfl rfl) h0
  obtain ⟨a1, rfl, rfl, rfl, w1⟩ := open_int Try.underlying3 (hval 1 3 v1 rfl rfl) h1
  clear hA0 hval0
  refine (walk a0 a1 W w0 w1).mono fun e W' ⟨he, bel⟩ => ?_
  subst he
  exact ⟨_, rfl, _, _, _, [], _, [], hW', trodAll_mk1 (shut_bool Try.underlying4 _), (trodAll_cons_mk (Below.trod laidOut (by kernel_rfl) (of_decide_eq_true (by kernel_rfl)) k0 bel lt0) (trodAll_cons_mk (Below.trod laidOut (by kernel_rfl) (of_decide_eq_true (by kernel_rfl)) k1 bel lt1) trodAll_mk0)), rfl, bel.frame _, fun h => by cases h⟩

theorem over : Rows.flowFormsRow.holds Try.pinned (OpenSpec.ofChange Rows.flowFormsSpec) :=
  OpenClaim.holds_of_wide 5 Try.f5 rfl rfl rfl rfl rfl rfl rfl ⟨rfl, rfl, rfl, rfl, rfl⟩ rfl rfl rfl rfl rfl (by kernel_rfl) Try.func5 (by kernel_rfl)
    (of_decide_eq_true (by kernel_rfl)) (by unfold Func.isWrapper; first | (rw [if_pos (by decide +kernel)]; kernel_rfl) | (rw [if_neg (by decide +kernel)]; exact ⟨rfl, rfl⟩))
    (fun os started H enc _ => lifted os started H enc)
end Go.Proofs.Ytclpnmideableaa.flowForms
namespace Go.Proofs.Ytclpnmideableaa
theorem flowForms_holds : Rows.FlowFormsSaid := flowForms.over
#print axioms flowForms_holds
end Go.Proofs.Ytclpnmideableaa
