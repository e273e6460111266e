/- What the document's own walk returns: the whole. -/
import Derived.Test.YtnmhoahkmampkaaDoorRefWalk
import Derived.Deep.LoopGhost
namespace Go.Proofs.YtnmhoahkmampkaaDoor
open Go.RowKit
set_option linter.unusedVariables false

theorem walkF_nil (ps : List Fn) (l : List (Int × Int)) (k : Nat) (out : List Int) : walkF ps l k out [] = (out, 0, 0) := by cases k <;> rfl
theorem walkF_bad {ps : List Fn} {l : List (Int × Int)} {k p : Nat} {out ws : List Int} (h : stepH ps l out ws p = none) : walkF ps l (k + 1) out ((p : Int) :: ws) = ([], (p : Int), 502) := by simp [walkF, h]
theorem walkF_go {ps : List Fn} {l : List (Int × Int)} {k p : Nat} {out ws : List Int} {s : List Int × List Int} (h : stepH ps l out ws p = some s) : walkF ps l (k + 1) out ((p : Int) :: ws) = walkF ps l k s.1 s.2 := by simp [walkF, h]
theorem stepH_bad {ps : List Fn} {l : List (Int × Int)} {p : Nat} {out ws : List Int} (h : out.getD p 0 < takesAt ps l p ∨ 8 < goesTo ps l out p) : stepH ps l out ws p = none := if_pos h
theorem stepH_go {ps : List Fn} {l : List (Int × Int)} {p : Nat} {out ws : List Int} (h : ¬ out.getD p 0 < takesAt ps l p) (h' : ¬ 8 < goesTo ps l out p) : stepH ps l out ws p = putHs (goesTo ps l out p) (nextL l p) (out, ws) := if_neg (by omega)
theorem putHs_new {h : Int} {q : Nat} {xs out ws : List Int} (hn : out.getD q 0 < 0) : putHs h ((q : Int) :: xs) (out, ws) = putHs h xs (out.set q h, ws ++ [(q : Int)]) := by
  have : putH h (out, ws) (q : Int) = some (out.set q h, ws ++ [(q : Int)]) := by unfold putH; rw [if_pos (by simpa using hn)]; simp
  simp only [putHs, this]
theorem putHs_same {h : Int} {q : Nat} {xs out ws : List Int} (hn : ¬ out.getD q 0 < 0) (he : out.getD q 0 = h) : putHs h ((q : Int) :: xs) (out, ws) = putHs h xs (out, ws) := by
  have : putH h (out, ws) (q : Int) = some (out, ws) := by unfold putH; rw [if_neg (by simpa using hn), if_pos (by simpa using he)]
  simp only [putHs, this]
theorem putHs_other {h : Int} {q : Nat} {xs out ws : List Int} (hn : ¬ out.getD q 0 < 0) (he : ¬ out.getD q 0 = h) : putHs h ((q : Int) :: xs) (out, ws) = none := by
  have : putH h (out, ws) (q : Int) = none := by unfold putH; rw [if_neg (by simpa using hn), if_neg (by simpa using he)]
  simp only [putHs, this]
theorem takes_bd (k m : Int) (hm : 0 ≤ m ∧ m ≤ 4) : 0 ≤ takesV k m ∧ takesV k m ≤ 4 := by
  unfold takesV; split
  · omega
  split
  · omega
  split <;> omega
theorem puts_bd (k : Int) : 0 ≤ putsV k ∧ putsV k ≤ 2 := by
  unfold putsV; split
  · omega
  split <;> omega
theorem code_may {l : List (Int × Int)} {p : Nat} (hc : codeB l = true) (hp : p < l.length) : mayB (insAt l p).1 (insAt l p).2 = true := by
  unfold codeB at hc
  simp only [Bool.and_eq_true, List.all_eq_true] at hc
  exact hc.2 _ (by simp [insAt, List.getD_eq_getElem?_getD, hp])
theorem args_bd {ps : List Fn} (hk : packsB ps = true) {k A : Int} (hA : k = 14 → 0 ≤ A ∧ A < ps.length) : 0 ≤ argsOf ps k A ∧ argsOf ps k A ≤ 4 := by
  unfold argsOf
  split
  · rename_i h
    obtain ⟨h1, h2⟩ := hA h
    have := fnB_of hk (q := A.toNat) (by omega) rfl
    generalize ps.getD A.toNat noFn = f at this ⊢
    obtain ⟨x, y, l⟩ := f
    have := fnB_bd this
    show 0 ≤ x ∧ x ≤ 4
    omega
  · omega
theorem drop_at {α : Type} {l : List α} {j : Nat} {d x : α} (h : j < l.length) (e : l.getD j d = x) : l.drop j = x :: l.drop (j + 1) := by
  rw [List.drop_eq_getElem_cons h, ← e]; simp [List.getD_eq_getElem?_getD, h]

end Go.Proofs.YtnmhoahkmampkaaDoor
