/- What the document's own Heights and Verify return. -/
import Derived.Test.YtnmhoahkmampkaaDoorRefWalk2
import Derived.Test.YtnmhoahkmampkaaDoorRefReached
import Derived.Lib.QuietBelow
import Derived.Deep.QuietTactic
import Derived.BigQuiet
namespace Go.Proofs.YtnmhoahkmampkaaDoor
open Go.RowKit
set_option linter.unusedVariables false

theorem htsF_range {ps : List Fn} {f : Fn} {i : Nat} (h : firstAt (unranged ps f) f.2.2.length 0 = some i) : htsF ps f = ([], (i : Int), 501) := by unfold htsF; rw [h]
theorem htsF_end {ps : List Fn} {f : Fn} (h : firstAt (unranged ps f) f.2.2.length 0 = none) (h' : openEnd f = true) : htsF ps f = ([], ((f.2.2.length : Int) - 1), 503) := by unfold htsF; rw [h]; simp [h']
theorem htsF_walk {ps : List Fn} {f : Fn} (h : firstAt (unranged ps f) f.2.2.length 0 = none) (h' : openEnd f = false) : htsF ps f = walkV ps f.2.2 := by unfold htsF; rw [h]; simp [h']
theorem htsV_bad {ps : List Fn} {fn : Int} (h : packsB ps = false ∨ inB ps.length fn = false) : htsV ps fn = ([], 0, 500) := by
  unfold htsV; rw [if_neg]
  rintro ⟨h1, h2⟩
  rcases h with h | h
  · rw [h] at h1; cases h1
  · rw [h] at h2; cases h2
theorem htsV_ok {ps : List Fn} {fn : Nat} (h : packsB ps = true) (h' : fn < ps.length) : htsV ps (fn : Int) = htsF ps (ps.getD fn noFn) := by
  unfold htsV; rw [if_pos ⟨h, by simp [inB, h']⟩, Int.toNat_natCast]

theorem verF_bad {ps : List Fn} {k i : Nat} (h : ¬ (htsV ps i).2.2 = 0) : verF ps (k + 1) i = (htsV ps i).2.2 := by simp [verF, h]
theorem verF_go {ps : List Fn} {k i : Nat} (h : (htsV ps i).2.2 = 0) : verF ps (k + 1) i = verF ps k (i + 1) := by simp [verF, h]

end Go.Proofs.YtnmhoahkmampkaaDoor
