/- One step of each kind, reckoned: the programs of the statement StepKinds. Nothing of the program is named here. -/
import Derived.Test.YtcngmkbgcfhmdaaGreatDoorJ7
namespace Go.Proofs.YtcngmkbgcfhmdaaGreatDoor
open Go.RowKit
set_option linter.unusedVariables false

/-- The eleven instructions, the stacks behind them, how many drops follow. -/
def kindsL : List (Int × Int) := [(0, 9), (1, 0), (2, 0), (4, 0), (8, 0), (10, 0), (11, 0), (12, 4), (13, 4), (15, 0), (9, 0)]
def stacksL (x y : Int) : List (List Int) := [[x, y, 9], [x, y, 7], [x], [wrap32 (x - y)], [oneI (x == y)], [x, y, y], [x], [x, y], [x], [x], [oneI (decide (x < y))]]
def stkK (x y : Int) (k : Nat) : List Int := (stacksL x y).getD k []
def codeK (x y : Int) (k : Nat) : List (Int × Int) := [(0, x), (0, y), kindsL.getD k (0, 0), (12, 4), (12, 5)] ++ List.replicate ((stkK x y k).length - 1) (11, 0) ++ [(16, 0)]
def progK (x y : Int) (k : Nat) : List Fn := [(0, 1, codeK x y k)]
def startK (x y : Int) : St := ([(0, 2, [7], [x, y])], 3, [], 0, 0)
def pcK (y : Int) (k : Nat) : Int := if k = 7 ∨ (k = 8 ∧ y = 0) then 4 else 3
def locK (y : Int) (k : Nat) : Int := if k = 2 then y else 7
def outK (y : Int) (k : Nat) : List Int := if k = 9 then [y] else []
def endK (x y : Int) (k : Nat) : St := ([(0, pcK y k, [locK y k], stkK x y k)], 2, outK y k, 0, 0)

theorem stkK_len (x y : Int) {k : Nat} (hk : k < 11) : 1 ≤ (stkK x y k).length ∧ (stkK x y k).length ≤ 3 := by
  rcases (show k = 0 ∨ k = 1 ∨ k = 2 ∨ k = 3 ∨ k = 4 ∨ k = 5 ∨ k = 6 ∨ k = 7 ∨ k = 8 ∨ k = 9 ∨ k = 10 by omega) with rfl | rfl | rfl | rfl | rfl | rfl | rfl | rfl | rfl | rfl | rfl <;> exact ⟨by simp [stkK, stacksL], by simp [stkK, stacksL]⟩
theorem packs_K {x y : Int} (hx : isNum x = true) (hy : isNum y = true) {k : Nat} (hk : k < 11) : packsB (progK x y k) = true := by
  rcases (show k = 0 ∨ k = 1 ∨ k = 2 ∨ k = 3 ∨ k = 4 ∨ k = 5 ∨ k = 6 ∨ k = 7 ∨ k = 8 ∨ k = 9 ∨ k = 10 by omega) with rfl | rfl | rfl | rfl | rfl | rfl | rfl | rfl | rfl | rfl | rfl <;>
    simp [packsB, progK, codeK, kindsL, stkK, stacksL, fnB, codeB, mayB, belowB, hx, hy, show isNum 9 = true from rfl]
/-- The height where the step begins. -/
theorem hts_K (x y : Int) {k : Nat} (hk : k < 11) : (htsF (progK x y k) (0, 1, codeK x y k)).2.2 = 0 ∧ (htsF (progK x y k) (0, 1, codeK x y k)).1.getD 2 0 = 2 ∧ inB (htsF (progK x y k) (0, 1, codeK x y k)).1.length 2 = true := by
  rcases (show k = 0 ∨ k = 1 ∨ k = 2 ∨ k = 3 ∨ k = 4 ∨ k = 5 ∨ k = 6 ∨ k = 7 ∨ k = 8 ∨ k = 9 ∨ k = 10 by omega) with rfl | rfl | rfl | rfl | rfl | rfl | rfl | rfl | rfl | rfl | rfl <;> exact ⟨by kernel_rfl, by kernel_rfl, by kernel_rfl⟩
theorem htsV_K {x y : Int} (hx : isNum x = true) (hy : isNum y = true) {k : Nat} (hk : k < 11) : htsV (progK x y k) 0 = htsF (progK x y k) (0, 1, codeK x y k) := by
  unfold htsV
  rw [if_pos ⟨packs_K hx hy hk, rfl⟩]
  rfl
theorem ver_K {x y : Int} (hx : isNum x = true) (hy : isNum y = true) {k : Nat} (hk : k < 11) : verV (progK x y k) = 0 := by
  unfold verV
  rw [if_pos (packs_K hx hy hk)]
  show verF (progK x y k) 1 0 = 0
  unfold verF
  rw [show ((0 : Nat) : Int) = 0 from rfl, htsV_K hx hy hk, if_pos (hts_K x y hk).1]
  rfl
theorem step_K {x y : Int} (hx : isNum x = true) (hy : isNum y = true) {k : Nat} (hk : k < 11) : stepS (progK x y k) (startK x y) = endK x y k ∧ stepE (progK x y k) (startK x y) = 0 := by
  have hv := ver_K hx hy hk
  have hh : heightV (progK x y k) 0 2 = 2 := by
    unfold heightV
    rw [htsV_K hx hy hk, if_pos ⟨(hts_K x y hk).1, (hts_K x y hk).2.2⟩]
    exact (hts_K x y hk).2.1
  have h : stateB (progK x y k) (startK x y) = true := state_of hv rfl rfl rfl ((calls_snoc (fs := [])).2 ⟨frB_of (by rw [hh]; decide) rfl (by rw [hh]; rfl) rfl (by simp [numsB, hx, hy]), fun i hi => by simp at hi⟩)
  refine ⟨?_, by unfold stepE; rw [h]; rfl⟩
  unfold stepS
  rw [if_pos h]
  have w1 : ∀ b : Bool, wrap32 (oneI b) = oneI b := fun b => wrap32_id (by cases b <;> simp [oneI])
  have hsub : doV 4 x y = wrap32 (x - y) := by simp [doV, goodB, trapB, divB, isOpB, hx, hy, exV]
  have heq : doV 8 x y = oneI (x == y) := by rw [← w1]; simp [doV, goodB, trapB, divB, isOpB, hx, hy, exV]
  have hlt : doV 9 x y = oneI (decide (x < y)) := by rw [← w1]; simp [doV, goodB, trapB, divB, isOpB, hx, hy, exV]
  have hts : ∀ z, z = 4 ∨ z = 8 ∨ z = 9 → trapB z x y = false := by rintro z (rfl | rfl | rfl) <;> simp [trapB, divB]
  have hstart : startK x y = ([] ++ [(0, 2, [7], [x, y])], 3, [], 0, 0) := rfl
  rw [hstart, stepV_top (by decide)]
  rcases (show k = 0 ∨ k = 1 ∨ k = 2 ∨ k = 3 ∨ k = 4 ∨ k = 5 ∨ k = 6 ∨ k = 7 ∨ k = 8 ∨ k = 9 ∨ k = 10 by omega) with rfl | rfl | rfl | rfl | rfl | rfl | rfl | rfl | rfl | rfl | rfl
  · rfl
  · rfl
  · rfl
  · show instrV _ [] 0 2 [7] [x, y] 2 [] 4 0 = _
    unfold instrV
    simp [lastI, hts, hsub, endK, pcK, locK, stkK, stacksL, outK]
  · show instrV _ [] 0 2 [7] [x, y] 2 [] 8 0 = _
    unfold instrV
    simp [lastI, hts, heq, endK, pcK, locK, stkK, stacksL, outK]
  · rfl
  · rfl
  · rfl
  · show instrV _ [] 0 2 [7] [x, y] 2 [] 13 4 = _
    unfold instrV
    by_cases h0 : y = 0 <;> simp [lastI, h0, endK, pcK, locK, stkK, stacksL, outK]
  · rfl
  · show instrV _ [] 0 2 [7] [x, y] 2 [] 9 0 = _
    unfold instrV
    simp [lastI, hts, hlt, endK, pcK, locK, stkK, stacksL, outK]

end Go.Proofs.YtcngmkbgcfhmdaaGreatDoor
