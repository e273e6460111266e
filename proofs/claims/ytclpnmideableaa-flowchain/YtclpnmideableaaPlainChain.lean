/- Plain reckoning of a chain of jumps; nothing of the program is named here. -/
import Derived.Test.YtclpnmideableaaPlainFlow
namespace Go.Proofs.Ytclpnmideableaa
open Go.RowKit
set_option linter.unusedVariables false

theorem and31 (n : Int) : bits .and .i64 n 31 = n % 32 := by
  have hm : (BitVec.ofInt 64 31).toNat = 2 ^ 5 - 1 := by decide
  show IntKind.i64.wrap ((BitVec.ofInt 64 n &&& BitVec.ofInt 64 31).toNat : Nat) = n % 32
  rw [BitVec.toNat_and, BitVec.toNat_ofInt, hm, Nat.and_two_pow_sub_one_eq_mod, IntKind.wrap_i64]
  omega
/-- Below q each instruction is a jump that stays within n. -/
def Jumps (l : List (Int × Int)) (n q : Nat) : Prop := ∀ i, i < q → ∃ t : Nat, t < n ∧ l.getD i (0, 0) = (12, (t : Int))
theorem Jumps.set {l : List (Int × Int)} {n q t : Nat} (h : Jumps l n q) (hq : q < l.length) (ht : t < n) : Jumps (l.set q (12, (t : Int))) n (q + 1) := by
  intro i hi
  rcases Nat.lt_or_ge i q with hlt | hge
  · obtain ⟨s, hs, e⟩ := h i hlt
    refine ⟨s, hs, ?_⟩
    rw [← e]
    simp only [List.getD_eq_getElem?_getD]
    rw [List.getElem?_set_ne (by omega)]
  · have e : i = q := by omega
    subst e
    exact ⟨t, ht, by simp [List.getD_eq_getElem?_getD, hq]⟩
theorem Jumps.code {l : List (Int × Int)} (h : Jumps l l.length l.length) (h1 : 1 ≤ l.length) (h2 : l.length ≤ 64) : codeB l = true := by
  refine codeB_yes ⟨h1, h2⟩ ?_
  rw [List.all_eq_true]
  intro p hp
  obtain ⟨i, hi, e⟩ := List.getElem_of_mem hp
  obtain ⟨t, ht, e2⟩ := h i hi
  have : p = (12, (t : Int)) := by rw [← e2, ← e]; simp [List.getD_eq_getElem?_getD, hi]
  subst this
  simp [may12, belowB]
  omega
theorem Jumps.next {l : List (Int × Int)} (h : Jumps l l.length l.length) {i t : Nat} (hi : i < l.length) (e : l.getD i (0, 0) = (12, (t : Int))) : nextL l i = [(t : Int)] := by
  obtain ⟨s, hs, e2⟩ := h i hi
  rw [e] at e2
  have : t = s := by simp at e2; omega
  subst this
  rw [nextL_at rfl e, nextOf_br rfl, fallL_no (.inl rfl), addN_yes (by simp [inB]; omega) rfl]
  rfl
theorem Jumps.lead {l : List (Int × Int)} (h : Jumps l l.length l.length) (hc : codeB l = true) {i : Nat} (hi : i < l.length) : (leadL l).getD i false = true := by
  rw [show leadL l = leadSt l l.length by simp [leadL, hc]]
  exact lead_jumps (fun j hj => by obtain ⟨t, _, e⟩ := h j hj; rw [e]) l.length (Nat.le_refl _) i (by omega) hi
theorem leadL_len {l : List (Int × Int)} (hc : codeB l = true) : (leadL l).length = l.length := by
  rw [show leadL l = leadSt l l.length by simp [leadL, hc], leadSt_len]
theorem flat2_set (l : List (Int × Int)) (q : Nat) (x y : Int) : ((flat2 l).set (q * 2) (.int .i64 x)).set (q * 2 + 1) (.int .i64 y) = flat2 (l.set q (x, y)) := by
  induction l generalizing q with
  | nil => simp [flat2]
  | cons p r ih =>
    cases q with
    | zero => simp [flat2]
    | succ q =>
      have := ih q
      rw [show (q + 1) * 2 = q * 2 + 1 + 1 by omega]
      simp only [flat2, List.set_cons_succ]
      rw [this]

end Go.Proofs.Ytclpnmideableaa
