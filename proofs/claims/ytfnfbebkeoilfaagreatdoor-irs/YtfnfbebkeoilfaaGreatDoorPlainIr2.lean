/- Register code, reckoned by its kinds' fields: the same answer. Nothing of the program is named here. -/
import Derived.Test.YtfnfbebkeoilfaaGreatDoorPlainIr
namespace Go.Proofs.YtfnfbebkeoilfaaGreatDoor
open Go.RowKit
set_option linter.unusedVariables false

/-- The sorts of a kind's fields (R, A, B, K, Args, Meta): 0 nothing, 1 a register, 2 a number, 3 an operation, 4 a place, 5 a function, 6 a meta, 7 a turn. -/
abbrev Srts := Int × Int × Int × Int × Int × Int
def noSrt : Srts := (0, 0, 0, 0, 0, 0)
def sortsT (kd : Int) : Srts :=
  if kd = 0 then noSrt else if kd = 1 then (1, 0, 0, 2, 0, 0) else if kd = 2 then (1, 1, 0, 0, 0, 0) else if kd = 3 then (1, 1, 1, 3, 0, 0) else if kd = 4 then (0, 0, 0, 4, 0, 0)
  else if kd = 5 then (0, 1, 0, 4, 0, 0) else if kd = 6 then (1, 0, 0, 5, 1, 0) else if kd = 7 then (0, 1, 0, 0, 0, 0) else if kd = 8 then (0, 1, 0, 0, 0, 0) else if kd = 9 then (0, 1, 7, 2, 0, 6)
  else if kd = 10 then (0, 0, 0, 0, 0, 6) else noSrt
def irKindB (kd : Int) : Bool := decide (0 ≤ kd ∧ kd ≤ 11)
/-- May x stand in a field of that sort? -/
def holdsB (np : Nat) (regs : Int) (n m : Nat) (s x : Int) : Bool :=
  if s = 1 then regB regs x else if s = 2 then isNum x else if s = 3 then decide (3 ≤ x ∧ x ≤ 9) else if s = 4 then inB n x else if s = 5 then inB np x else if s = 6 then inB m x else if s = 7 then inB 2 x else decide (x = 0)
/-- As many arguments as K asks for, each one that may stand there. -/
def argsOk (ps : List Fn) (regs : Int) (n m : Nat) (sk sa k : Int) (args : List Int) : Bool :=
  decide ((args.length : Int) = (if sk = 5 then (ps.getD k.toNat noFn).1 else 0)) && args.all (holdsB ps.length regs n m sa)
/-- What the kind asks of the fields, one by one. -/
def fieldsB (ps : List Fn) (regs : Int) (n m : Nat) (x : IrT) : Bool :=
  match x with
  | (kd, r, a, b, k, args, cost, mt, pc) =>
    match sortsT kd with
    | (sr, sa, sb, sk, sg, sm) =>
      irKindB kd && (inB 257 cost && (inB 64 pc && (holdsB ps.length regs n m sr r && (holdsB ps.length regs n m sa a && (holdsB ps.length regs n m sb b && (holdsB ps.length regs n m sk k && (holdsB ps.length regs n m sm mt && argsOk ps regs n m sk sg k args)))))))
def leastV (at_ : Nat) (kd k : Int) : Int := if kd = 4 ∨ kd = 5 then (if (at_ : Int) < k then 0 else 1) else if kd = 6 ∨ kd = 7 then 1 else 0
theorem holds_zero {np : Nat} {regs : Int} {n m : Nat} {x : Int} : holdsB np regs n m 0 x = decide (x = 0) := rfl
theorem args_zero {ps : List Fn} {regs : Int} {n m : Nat} {k sk : Int} {args : List Int} (h : ¬ sk = 5) : argsOk ps regs n m sk 0 k args = decide (args = []) := by
  unfold argsOk
  rw [if_neg h]
  cases args with
  | nil => simp
  | cons a l => simp; omega
theorem ir_same {ps : List Fn} {regs : Int} {n m at_ : Nat} {x : IrT} : (fieldsB ps regs n m x && decide (leastV at_ x.1 x.2.2.2.2.1 ≤ x.2.2.2.2.2.2.1)) = irB ps regs n m at_ x := by
  obtain ⟨kd, r, a, b, k, args, cost, mt, pc⟩ := x
  by_cases hk : 0 ≤ kd ∧ kd ≤ 11
  · have hc : kd = 0 ∨ kd = 1 ∨ kd = 2 ∨ kd = 3 ∨ kd = 4 ∨ kd = 5 ∨ kd = 6 ∨ kd = 7 ∨ kd = 8 ∨ kd = 9 ∨ kd = 10 ∨ kd = 11 := by omega
    by_cases hp : (at_ : Int) < k
    all_goals
      rw [Bool.eq_iff_iff]
      rcases hc with rfl | rfl | rfl | rfl | rfl | rfl | rfl | rfl | rfl | rfl | rfl | rfl <;>
        simp only [fieldsB, sortsT, noSrt, irB, kindAsk, headI, leastV, irKindB, placeOk, inB, regB, holdsB, argsOk, Bool.and_eq_true, decide_eq_true_eq, Prod.mk.injEq, if_true, if_false, Int.reduceEq, Int.reduceLE, true_and, and_true, or_true, true_or, or_false, false_or, List.all_eq_true, hp] <;>
        (refine ⟨fun h => ?_, fun h => ?_⟩) <;> simp_all <;> omega
  · have e1 : irKindB kd = false := by unfold irKindB; exact decide_eq_false hk
    have e2 : (kindAsk ps regs n m at_ (kd, r, a, b, k, args, cost, mt, pc)).1 = false := by
      simp only [kindAsk]
      repeat (rw [if_neg (by omega)])
    simp only [fieldsB, irB, e1, e2, Bool.false_and, Bool.and_false]

end Go.Proofs.YtfnfbebkeoilfaaGreatDoor
