/- Plain reckoning of instructions: which may be, what they take off the stack and put there; nothing of the program is named here. -/
import Derived.Test.YtfnfbebkeoilfaaGreatDoorPlain
namespace Go.Proofs.YtfnfbebkeoilfaaGreatDoor
open Go.RowKit

def belowB (a l : Int) : Bool := decide (0 ≤ a ∧ a < l)
def kindB (k : Int) : Bool := decide (0 ≤ k ∧ k ≤ 16)
def mayB (k a : Int) : Bool :=
  if k = 0 then isNum a else if k = 1 ∨ k = 2 then belowB a 8 else if k = 12 ∨ k = 13 then belowB a 64
  else if k = 14 then belowB a 8 else decide (3 ≤ k ∧ k ≤ 16 ∧ a = 0)
def takesV (k m : Int) : Int := if k = 0 ∨ k = 1 ∨ k = 12 then 0 else if k = 14 then m else if 3 ≤ k ∧ k ≤ 9 then 2 else 1
def putsV (k : Int) : Int := if k = 0 ∨ k = 1 ∨ k = 14 ∨ (3 ≤ k ∧ k ≤ 9) then 1 else if k = 10 then 2 else 0
def argsB (m : Int) : Bool := decide (0 ≤ m ∧ m ≤ 4)
def effB (k a m : Int) : Bool := mayB k a && argsB m
def effT (k a m : Int) : Int := if effB k a m = true then takesV k m else 0
def effP (k a m : Int) : Int := if effB k a m = true then putsV k else 0
def effE (k a m : Int) : Int := if effB k a m = true then 0 else 200

theorem may0 (a : Int) : mayB 0 a = isNum a := rfl
theorem may1 (a : Int) : mayB 1 a = belowB a 8 := rfl
theorem may2 (a : Int) : mayB 2 a = belowB a 8 := rfl
theorem may12 (a : Int) : mayB 12 a = belowB a 64 := rfl
theorem may13 (a : Int) : mayB 13 a = belowB a 64 := rfl
theorem may14 (a : Int) : mayB 14 a = belowB a 8 := rfl
theorem may_else {k a : Int} (h0 : ¬ k = 0) (h1 : ¬ k = 1) (h2 : ¬ k = 2) (h3 : ¬ k = 12) (h4 : ¬ k = 13) (h5 : ¬ k = 14) :
    mayB k a = (kindB k && (a == 0)) := by
  unfold mayB kindB
  rw [if_neg h0, if_neg (by omega), if_neg (by omega), if_neg h5, Bool.eq_iff_iff]
  simp; omega
theorem may_kind {k a : Int} (h : mayB k a = true) : 0 ≤ k ∧ k ≤ 16 := by
  unfold mayB at h
  split at h
  · omega
  split at h
  · omega
  split at h
  · omega
  split at h
  · omega
  · simp at h; omega
theorem eff_bad {k a m : Int} (h : effB k a m = false) : effT k a m = 0 ∧ effP k a m = 0 ∧ effE k a m = 200 := by
  simp [effT, effP, effE, h]
theorem eff_good {k a m : Int} (h : effB k a m = true) : effT k a m = takesV k m ∧ effP k a m = putsV k ∧ effE k a m = 0 := by
  simp [effT, effP, effE, h]
theorem kinds17 (k : Int) (h : 0 ≤ k ∧ k ≤ 16) : k = 0 ∨ k = 1 ∨ k = 2 ∨ k = 3 ∨ k = 4 ∨ k = 5 ∨ k = 6 ∨ k = 7 ∨ k = 8 ∨ k = 9 ∨ k = 10 ∨ k = 11 ∨ k = 12 ∨ k = 13 ∨ k = 14 ∨ k = 15 ∨ k = 16 := by omega

end Go.Proofs.YtfnfbebkeoilfaaGreatDoor
