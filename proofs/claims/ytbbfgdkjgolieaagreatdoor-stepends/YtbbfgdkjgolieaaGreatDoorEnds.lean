/- What the statement StepEnds leans on. -/
import Derived.Test.YtbbfgdkjgolieaaGreatDoorJ7p
import Derived.Test.YtbbfgdkjgolieaaGreatDoorJ7
namespace Go.Proofs.YtbbfgdkjgolieaaGreatDoor
open Go.RowKit
set_option linter.unusedVariables false

def selfC : List (Int × Int) := [(14, 0), (16, 0)]
def zeroC : List (Int × Int) := [(0, 1), (0, 0), (6, 0), (16, 0)]
def oneC7 : List (Int × Int) := [(0, 1), (16, 0)]
def selfP : List Fn := [(0, 0, selfC)]
def zeroP : List Fn := [(0, 0, zeroC)]
def oneP : List Fn := [(0, 0, oneC7)]
def deepF : List Fr := List.replicate 11 (0, 1, [], []) ++ [(0, 0, [], [])]
theorem one_step {v : Int} (hv : isNum v = true) : stepS oneP ([(0, 1, [], [v])], 1, [], 0, 0) = ([], 0, [], 1, v) ∧ stepE oneP ([(0, 1, [], [v])], 1, [], 0, 0) = 0 := by
  have h : stateB oneP ([(0, 1, [], [v])], 1, [], 0, 0) = true := state_of (show verV oneP = 0 by decide +kernel) rfl rfl rfl ((calls_snoc (fs := [])).2 ⟨frB_of (by decide +kernel) (by decide +kernel) (show ((1 : Nat) : Int) = heightV oneP 0 1 - 0 by decide +kernel) rfl (by simp [numsB, hv]), fun i hi => by simp at hi⟩)
  refine ⟨?_, by unfold stepE; rw [h]; rfl⟩
  unfold stepS
  rw [if_pos h]
  rfl
theorem one_stay {v : Int} (hv : isNum v = true) : stepS oneP ([], 0, [], 1, v) = ([], 0, [], 1, v) ∧ stepE oneP ([], 0, [], 1, v) = 0 := by
  have h : stateB oneP ([], 0, [], 1, v) = true := state_of (show verV oneP = 0 by decide +kernel) rfl rfl (by simp [outB, hv]) (callsB_iff.2 (fun i hi => by simp at hi))
  exact ⟨by unfold stepS; rw [if_pos h]; rfl, by unfold stepE; rw [h]; rfl⟩
theorem zero_step {v : Int} (hv : isNum v = true) : stepS zeroP ([(0, 2, [], [v, 0])], 5, [], 0, 0) = ([], 4, [], 2, 0) ∧ stepE zeroP ([(0, 2, [], [v, 0])], 5, [], 0, 0) = 0 := by
  have h : stateB zeroP ([(0, 2, [], [v, 0])], 5, [], 0, 0) = true := state_of (show verV zeroP = 0 by decide +kernel) rfl rfl rfl ((calls_snoc (fs := [])).2 ⟨frB_of (by decide +kernel) (by decide +kernel) (show ((2 : Nat) : Int) = heightV zeroP 0 2 - 0 by decide +kernel) rfl (by simp [numsB, hv]; decide), fun i hi => by simp at hi⟩)
  refine ⟨?_, by unfold stepE; rw [h]; rfl⟩
  unfold stepS
  rw [if_pos h]
  have ht : trapB 6 v 0 = true := by simp [trapB, goodB, isOpB, divB, hv]; decide
  show (if trapB 6 v 0 = true then (([], 4, [], 2, 0) : St) else _) = _
  rw [if_pos ht]
theorem zero_stay : stepS zeroP ([], 4, [], 2, 0) = ([], 4, [], 2, 0) ∧ stepE zeroP ([], 4, [], 2, 0) = 0 := by decide +kernel
theorem deep_step : stepS selfP (deepF, 5, [], 0, 0) = ([], 4, [], 3, 0) ∧ stepE selfP (deepF, 5, [], 0, 0) = 0 := by decide +kernel
theorem deep_stay : stepS selfP ([], 4, [], 3, 0) = ([], 4, [], 3, 0) ∧ stepE selfP ([], 4, [], 3, 0) = 0 := by decide +kernel
theorem fuel_step : stepS selfP (deepF, 0, [], 0, 0) = ([], 0, [], 4, 0) ∧ stepE selfP (deepF, 0, [], 0, 0) = 0 := by decide +kernel
theorem fuel_stay : stepS selfP ([], 0, [], 4, 0) = ([], 0, [], 4, 0) ∧ stepE selfP ([], 0, [], 4, 0) = 0 := by decide +kernel
/-- What is so while the deep frames are laid. -/
structure EndInv (u3 : World) (v i : Value) (wr : World) : Prop where
  ex : ∃ (j : Nat) (va : Option Addr) (vn vc : Nat), j ≤ 11 ∧ i = .int .i64 (j : Int) ∧ v = .slice va vn vc ∧ OwnFrs 3 52 wr u3.heap.size (.slice va vn vc) (List.replicate j (0, 1, [], [])) ∧ Below u3.heap.size u3 wr
theorem sameState_same (fa : Option Addr) (fn fc : Nat) (fs : List Fr) (fu : Int) (oa : Option Addr) (on oc : Nat) (os : List Int) (dn vl : Int) (fa' : Option Addr) (fn' fc' : Nat) (oa' : Option Addr) (on' oc' : Nat) (w : World) (hf : Frs w fa fn fc fs) (ho : Ints w oa on oc os) (hf' : Frs w fa' fn' fc' fs) (ho' : Ints w oa' on' oc' os) :
    Calls Tryz.prog 13 #[.agg #[.slice fa fn fc, .int .i64 fu, .slice oa on oc, .int .i64 dn, .int .i64 vl], .agg #[.slice fa' fn' fc', .int .i64 fu, .slice oa' on' oc', .int .i64 dn, .int .i64 vl]] w fun e w' => e = .returned (.bool true) ∧ Below w.heap.size w w' :=
  (sameState_any fa fn fc fs fu oa on oc os dn vl fa' fn' fc' fs fu oa' on' oc' os dn vl w hf ho hf' ho').mono (by rintro e w' ⟨rfl, hb⟩; exact ⟨by rw [sameS_self], hb⟩)
theorem num_below (x : Int) (w : World) : Calls Tryz.prog 14 #[.int .i64 x] w fun e w' => e = .returned (.int .i64 x) ∧ Below w.heap.size w w' :=
  (num_any _ _).mono (fun _ _ h => ⟨h.1, h.2 ▸ Below.refl _ _⟩)

end Go.Proofs.YtbbfgdkjgolieaaGreatDoor
