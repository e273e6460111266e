/- A row of operations upon a number, reckoned. Nothing of the program is named here. -/
import Derived.Test.YtbbfgdkjgolieabGreatDoorJ8
import Derived.Test.YtbbfgdkjgolieabGreatDoorPlainVer4
namespace Go.Proofs.YtbbfgdkjgolieabGreatDoor
open Go.RowKit
set_option linter.unusedVariables false

def pairC (r : Int × Int) : List (Int × Int) := [(0, r.2), (r.1, 0)]
/-- A row of operations, each with its second number; then a return. -/
def tailC : List (Int × Int) → List (Int × Int)
  | [] => [(16, 0)]
  | r :: rs => (0, r.2) :: (r.1, 0) :: tailC rs
def rowsC (v : Int) (rs : List (Int × Int)) : List (Int × Int) := (0, v) :: tailC rs
def headC (v : Int) (rs : List (Int × Int)) : List (Int × Int) := (0, v) :: rs.flatMap pairC
theorem tailC_eq : ∀ rs : List (Int × Int), tailC rs = rs.flatMap pairC ++ [(16, 0)]
  | [] => rfl
  | r :: rs => by rw [tailC, tailC_eq rs, List.flatMap_cons]; rfl
theorem rowsC_eq (v : Int) (rs : List (Int × Int)) : rowsC v rs = headC v rs ++ [(16, 0)] := by unfold rowsC headC; rw [tailC_eq]; rfl
theorem headC_snoc (v : Int) (rs : List (Int × Int)) (r : Int × Int) : headC v (rs ++ [r]) = headC v rs ++ [(0, r.2), (r.1, 0)] := by
  unfold headC; rw [List.flatMap_append]; simp [pairC]
theorem headC_len (v : Int) : ∀ rs : List (Int × Int), (headC v rs).length = 1 + 2 * rs.length
  | [] => rfl
  | r :: rs => by
    have := headC_len v rs
    unfold headC at this ⊢
    simp only [List.flatMap_cons, List.length_cons, List.length_append, pairC, List.length_nil] at this ⊢
    omega
theorem rowsC_len (v : Int) (rs : List (Int × Int)) : (rowsC v rs).length = 2 + 2 * rs.length := by rw [rowsC_eq, List.length_append, headC_len]; simp; omega
theorem drop_head {l t : List (Int × Int)} {p : Nat} {a : Int × Int} (h : l.drop p = a :: t) : insAt l p = a ∧ l.drop (p + 1) = t ∧ p + t.length + 1 = l.length := by
  have hl := congrArg List.length h
  rw [List.length_drop, List.length_cons] at hl
  refine ⟨?_, ?_, by omega⟩
  · have h0 := congrArg (fun x => x[0]?) h
    simp only [List.getElem?_drop, List.getElem?_cons_zero, Nat.add_zero] at h0
    unfold insAt
    rw [List.getD_eq_getElem?_getD, h0]; rfl
  · rw [← List.drop_drop, h]; rfl
/-- The operations are some. -/
def OpsOk (rs : List (Int × Int)) : Prop := ∀ r ∈ rs, 3 ≤ r.1 ∧ r.1 ≤ 9 ∧ isNum r.2 = true
theorem next_line {l : List (Int × Int)} {p : Nat} (h : p + 1 < l.length) (h1 : ¬ (insAt l p).1 = 12) (h2 : ¬ (insAt l p).1 = 13) (h3 : ¬ (insAt l p).1 = 16) : nextL l p = [((p + 1 : Nat) : Int)] := by
  have e : l.getD p (0, 0) = ((insAt l p).1, (insAt l p).2) := rfl
  rw [nextL_at rfl e, nextOf_no (by unfold isBr; rw [decide_eq_false (by omega)]), fallL_yes h1 h3, addN_yes (by simp [inB]; omega) (by simp [hasB])]
  simp
theorem next_ret {l : List (Int × Int)} {p : Nat} (h3 : (insAt l p).1 = 16) : nextL l p = [] := by
  have e : l.getD p (0, 0) = ((insAt l p).1, (insAt l p).2) := rfl
  rw [nextL_at rfl e, h3, nextOf_no rfl, fallL_no (.inr rfl)]
theorem step_line {ps : List Fn} {l : List (Int × Int)} {out : List Int} {p : Nat} {h g : Int} (hp : p + 1 < l.length) (h1 : ¬ (insAt l p).1 = 12) (h2 : ¬ (insAt l p).1 = 13) (h3 : ¬ (insAt l p).1 = 16) (ho : out.getD p 0 = h) (ht : takesAt ps l p ≤ h) (hg : h - takesAt ps l p + putsV (insAt l p).1 = g) (h8 : g ≤ 8)
    (hn : out.getD (p + 1) 0 < 0) : stepH ps l out [] p = some (out.set (p + 1) g, [((p + 1 : Nat) : Int)]) := by
  unfold stepH
  have eg : goesTo ps l out p = g := by unfold goesTo; rw [ho]; exact hg
  rw [eg, if_neg (by omega), next_line hp h1 h2 h3]
  simp only [putHs, putH, Int.toNat_natCast]
  rw [if_pos hn]
  rfl
theorem tail_pos' : ∀ rs : List (Int × Int), 0 < (tailC rs).length
  | [] => by simp [tailC]
  | r :: rs => by simp [tailC]
theorem walk_rows {ps : List Fn} {l : List (Int × Int)} : ∀ (rs : List (Int × Int)) (i k : Nat) (out : List Int), l.drop i = tailC rs → OpsOk rs → out.length = l.length → out.getD i 0 = 1 → (∀ j, i < j → j < l.length → out.getD j 0 < 0) → (walkF ps l k out [(i : Int)]).2.2 = 0
  | [], i, k, out, hd, ho, hl, h1, hn => by
    cases k with
    | zero => rfl
    | succ k =>
      obtain ⟨e, e2, e3⟩ := drop_head (a := (16, 0)) hd
      have est : stepH ps l out [] i = some (out, []) := by
        unfold stepH
        have et : takesAt ps l i = 1 := by unfold takesAt; rw [e]; rfl
        have eg : goesTo ps l out i = 0 := by unfold goesTo; rw [h1, et, e]; rfl
        rw [eg, et, h1, if_neg (by omega), next_ret (by rw [e])]
        rfl
      simp only [walkF, Int.toNat_natCast]
      rw [est]
      cases k <;> rfl
  | r :: rs, i, k, out, hd, ho, hl, h1, hn => by
    obtain ⟨e, e2, e3⟩ := drop_head hd
    obtain ⟨f, f2, f3⟩ := drop_head e2
    have hr := ho r (by simp)
    cases k with
    | zero => rfl
    | succ k =>
      have s1 := step_line (ps := ps) (l := l) (out := out) (p := i) (h := 1) (g := 2) (by simp at e3; omega) (by rw [e]; show ¬ (0 : Int) = 12; decide) (by rw [e]; show ¬ (0 : Int) = 13; decide) (by rw [e]; show ¬ (0 : Int) = 16; decide) h1 (by unfold takesAt; rw [e]; show (0 : Int) ≤ 1; decide) (by unfold takesAt; rw [e]; rfl) (by decide) (hn _ (by omega) (by simp at e3; omega))
      simp only [walkF, Int.toNat_natCast]
      rw [s1]
      cases k with
      | zero => rfl
      | succ k =>
        have hpos := tail_pos' rs
        have et : takesV r.1 (argsOf ps r.1 0) = 2 := by unfold takesV; rw [if_neg (by omega), if_neg (by omega), if_pos (by omega)]
        have ep : putsV r.1 = 1 := by unfold putsV; rw [if_pos (by omega)]
        have eta : takesAt ps l (i + 1) = 2 := by unfold takesAt; rw [f]; exact et
        have s2 := step_line (ps := ps) (l := l) (out := out.set (i + 1) 2) (p := i + 1) (h := 2) (g := 1) (by omega) (by rw [f]; show ¬ r.1 = 12; omega) (by rw [f]; show ¬ r.1 = 13; omega) (by rw [f]; show ¬ r.1 = 16; omega) (by rw [getD_set_i, if_pos ⟨rfl, by omega⟩]) (by rw [eta]; decide) (by rw [eta, f]; simp only []; rw [ep]; rfl) (by decide)
          (by rw [getD_set_i, if_neg (by omega)]; exact hn _ (by omega) (by omega))
        simp only [walkF, Int.toNat_natCast]
        rw [s2]
        refine walk_rows rs (i + 1 + 1) k _ f2 (fun q hq => ho q (by simp [hq])) (by simp [hl]) (by rw [getD_set_i, if_pos ⟨rfl, by simp; omega⟩]) (fun j h2 h3 => ?_)
        rw [getD_set_i, if_neg (by omega), getD_set_i, if_neg (by omega)]
        exact hn _ (by omega) h3
theorem tail_all {P : Int × Int → Prop} (h16 : P (16, 0)) : ∀ {rs : List (Int × Int)}, (∀ r ∈ rs, P (0, r.2) ∧ P (r.1, 0)) → ∀ p ∈ tailC rs, P p
  | [], _, p, hp => by simp [tailC] at hp; rw [hp]; exact h16
  | r :: rs, h, p, hp => by
    simp only [tailC, List.mem_cons] at hp
    rcases hp with rfl | rfl | hp
    · exact (h r (by simp)).1
    · exact (h r (by simp)).2
    · exact tail_all h16 (fun q hq => h q (by simp [hq])) p hp
def ToGo (p : Int × Int) : Prop := mayB p.1 p.2 = true ∧ ¬ p.1 = 1 ∧ ¬ p.1 = 2 ∧ ¬ p.1 = 12 ∧ ¬ p.1 = 13 ∧ ¬ p.1 = 14
/-- The program is verified. -/
theorem rows_ver {v : Int} {rs : List (Int × Int)} (hv : isNum v = true) (ho : OpsOk rs) (hl : rs.length ≤ 25) : verV [(0, 0, rowsC v rs)] = 0 := by
  have hlen := rowsC_len v rs
  have zero : ∀ {x : Int}, isNum x = true → ToGo (0, x) := fun {x} hx => ⟨hx, by show ¬ (0 : Int) = 1; decide, by show ¬ (0 : Int) = 2; decide, by show ¬ (0 : Int) = 12; decide, by show ¬ (0 : Int) = 13; decide, by show ¬ (0 : Int) = 14; decide⟩
  have hall : ∀ p ∈ rowsC v rs, ToGo p := by
    intro p hp
    unfold rowsC at hp
    rcases List.mem_cons.1 hp with rfl | hp
    · exact zero hv
    · refine tail_all (P := ToGo) ⟨by decide, by decide, by decide, by decide, by decide, by decide⟩ (fun r hr => ⟨zero (ho r hr).2.2, ?_⟩) p hp
      obtain ⟨h1, h2, h3⟩ := ho r hr
      refine ⟨?_, by show ¬ r.1 = 1; omega, by show ¬ r.1 = 2; omega, by show ¬ r.1 = 12; omega, by show ¬ r.1 = 13; omega, by show ¬ r.1 = 14; omega⟩
      show mayB r.1 0 = true
      rcases (show r.1 = 3 ∨ r.1 = 4 ∨ r.1 = 5 ∨ r.1 = 6 ∨ r.1 = 7 ∨ r.1 = 8 ∨ r.1 = 9 by omega) with h | h | h | h | h | h | h <;> rw [h] <;> decide
  have hcode : codeB (rowsC v rs) = true := codeB_yes (by omega) (List.all_eq_true.2 (fun p hp => (hall p hp).1))
  have hfn : fnB (0, 0, rowsC v rs) = true := by unfold fnB; rw [hcode]; rfl
  have hp : packsB [(0, 0, rowsC v rs)] = true := packsB_yes (by simp) (List.all_eq_true.2 (fun f hf => by simp at hf; rw [hf]; exact hfn))
  refine ver_all (by simp) (fun i hi => ?_)
  obtain rfl : i = 0 := by simpa using hi
  unfold htsV
  rw [if_pos ⟨hp, rfl⟩]
  show (htsF [(0, 0, rowsC v rs)] (0, 0, rowsC v rs)).2.2 = 0
  unfold htsF
  have hmem : ∀ j, j < (rowsC v rs).length → insAt (rowsC v rs) j ∈ rowsC v rs := fun j hj => by
    unfold insAt
    rw [List.getD_eq_getElem?_getD, List.getElem?_eq_getElem hj]
    exact List.getElem_mem _
  rw [show firstAt (unranged [(0, 0, rowsC v rs)] (0, 0, rowsC v rs)) (0, 0, rowsC v rs).2.2.length 0 = none from firstAt_all _ _ (fun j _ hj => by
    obtain ⟨_, h1, h2, h3, h4, h5⟩ := hall _ (hmem j (by simpa using hj))
    unfold unranged
    simp only []
    have hr : rangedB [(0, 0, rowsC v rs)].length (0 : Int) (rowsC v rs).length (insAt (rowsC v rs) j).1 (insAt (rowsC v rs) j).2 = true := by
      unfold rangedB
      rw [if_neg (by omega), if_neg (by omega), if_neg h5]
    rw [Bool.and_eq_false_iff]
    right
    rw [Bool.not_eq_false']
    exact hr)]
  simp only []
  have hlast : insAt (rowsC v rs) ((rowsC v rs).length - 1) = (16, 0) := by
    rw [rowsC_eq]
    unfold insAt
    rw [List.length_append, List.length_singleton, Nat.add_sub_cancel, List.getD_eq_getElem?_getD, List.getElem?_append_right (Nat.le_refl _)]
    simp
  have hoe : openEnd (0, 0, rowsC v rs) = false := by
    unfold openEnd
    simp only []
    rw [hlast]
    simp
  rw [hoe]
  simp only [Bool.false_eq_true, if_false]
  unfold walkV
  have hpos : 1 < (rowsC v rs).length := by omega
  have e0 : insAt (rowsC v rs) 0 = (0, v) := rfl
  obtain ⟨K, hK⟩ : ∃ K, (rowsC v rs).length = K + 1 := ⟨(rowsC v rs).length - 1, by omega⟩
  have g : ∀ j : Nat, j < (rowsC v rs).length → ((List.replicate (rowsC v rs).length (-1 : Int)).set 0 0).getD j 0 = if j = 0 then 0 else -1 := by
    intro j hj
    rw [getD_set_i]
    by_cases h : j = 0
    · subst h; rw [if_pos ⟨rfl, by simpa using hj⟩]; rfl
    · rw [if_neg (fun hc => h hc.1.symm), if_neg h]; simp [List.getD_eq_getElem?_getD, hj]
  have s0 := step_line (ps := [(0, 0, rowsC v rs)]) (l := rowsC v rs) (out := (List.replicate (rowsC v rs).length (-1)).set 0 0) (p := 0) (h := 0) (g := 1) hpos (by rw [e0]; show ¬ (0 : Int) = 12; decide) (by rw [e0]; show ¬ (0 : Int) = 13; decide) (by rw [e0]; show ¬ (0 : Int) = 16; decide) (by rw [g 0 (by omega)]; rfl) (by unfold takesAt; rw [e0]; show (0 : Int) ≤ 0; decide) (by unfold takesAt; rw [e0]; rfl) (by decide) (by rw [g _ (by omega)]; decide)
  have key : ∀ k, (walkF [(0, 0, rowsC v rs)] (rowsC v rs) (k + 1) ((List.replicate (rowsC v rs).length (-1)).set 0 0) [0]).2.2 = 0 := by
    intro k
    show (match stepH [(0, 0, rowsC v rs)] (rowsC v rs) ((List.replicate (rowsC v rs).length (-1)).set 0 0) [] (0 : Int).toNat with
      | none => ([], (0 : Int), (502 : Int))
      | some s => walkF [(0, 0, rowsC v rs)] (rowsC v rs) k s.1 s.2).2.2 = 0
    rw [show (0 : Int).toNat = 0 from rfl, s0]
    refine walk_rows rs (0 + 1) k _ rfl ho (by simp) (by rw [getD_set_i, if_pos ⟨rfl, by simp; omega⟩]) (fun j h2 h3 => ?_)
    rw [getD_set_i, if_neg (by omega), g j h3, if_neg (by omega)]
    decide
  have := key K
  rw [← hK] at this
  exact this
/-- How it goes on from a number. -/
def endR : List (Int × Int) → Int → Int → St
  | [], v, fu => ([], fu - 1, [], 1, v)
  | r :: rs, v, fu => if trapB r.1 v r.2 = true then ([], fu - 2, [], 2, 0) else endR rs (doV r.1 v r.2) (fu - 2)
theorem rows_run {l : List (Int × Int)} : ∀ (rs : List (Int × Int)) (p : Nat) (v fu : Int), l.drop p = tailC rs → OpsOk rs → 2 * rs.length < fu → ∃ n, goV [(0, 0, l)] n ([(0, (p : Int), [], [v])], fu, [], 0, 0) = endR rs v fu
  | [], p, v, fu, hd, ho, hf => by
    obtain ⟨e, e2, e3⟩ := drop_head (a := (16, 0)) hd
    refine ⟨1, ?_⟩
    show stepV [(0, 0, l)] ([] ++ [(0, (p : Int), [], [v])], fu, [], 0, 0) = _
    rw [stepV_top (by omega)]
    have et : topI [(0, 0, l)] (0, (p : Int), [], [v]) = (16, 0) := e
    rw [et]
    rfl
  | r :: rs, p, v, fu, hd, ho, hf => by
    obtain ⟨e, e2, e3⟩ := drop_head hd
    obtain ⟨f, f2, f3⟩ := drop_head e2
    have hr := ho r (by simp)
    simp only [List.length_cons] at hf
    have s1 : stepV [(0, 0, l)] ([(0, (p : Int), [], [v])], fu, [], 0, 0) = ([(0, ((p + 1 : Nat) : Int), [], [v, r.2])], fu - 1, [], 0, 0) := by
      show stepV [(0, 0, l)] ([] ++ [(0, (p : Int), [], [v])], fu, [], 0, 0) = _
      rw [stepV_top (by omega)]
      have et : topI [(0, 0, l)] (0, (p : Int), [], [v]) = (0, r.2) := e
      rw [et]
      rfl
    have s2 : stepV [(0, 0, l)] ([(0, ((p + 1 : Nat) : Int), [], [v, r.2])], fu - 1, [], 0, 0) = if trapB r.1 v r.2 = true then ([], fu - 2, [], 2, 0) else ([(0, ((p + 1 + 1 : Nat) : Int), [], [doV r.1 v r.2])], fu - 2, [], 0, 0) := by
      show stepV [(0, 0, l)] ([] ++ [(0, ((p + 1 : Nat) : Int), [], [v, r.2])], fu - 1, [], 0, 0) = _
      rw [stepV_top (by omega)]
      have et : topI [(0, 0, l)] (0, ((p + 1 : Nat) : Int), [], [v, r.2]) = (r.1, 0) := f
      rw [et]
      unfold instrV
      simp only []
      rw [if_neg (by omega), if_neg (by omega), if_neg (by omega), if_pos ⟨hr.1, hr.2.1⟩, show fu - 1 - 1 = fu - 2 by omega]
      rfl
    unfold endR
    by_cases ht : trapB r.1 v r.2 = true
    · refine ⟨2, ?_⟩
      show stepV [(0, 0, l)] (stepV [(0, 0, l)] _) = _
      rw [s1, s2, if_pos ht, if_pos ht]
    · obtain ⟨n, hn⟩ := rows_run rs (p + 1 + 1) (doV r.1 v r.2) (fu - 2) f2 (fun q hq => ho q (by simp [hq])) (by omega)
      refine ⟨n + 2, ?_⟩
      show goV [(0, 0, l)] n (stepV [(0, 0, l)] (stepV [(0, 0, l)] _)) = _
      rw [s1, s2, if_neg ht, if_neg ht, hn]
/-- One row more: whether it has come to a trap, the number, the cost. -/
def rowN (s : Bool × Int × Int) (r : Int × Int) : Bool × Int × Int := if s.1 = true then s else (trapB r.1 s.2.1 r.2, doV r.1 s.2.1 r.2, s.2.2 + 2)
def rowsN (s : Bool × Int × Int) (rs : List (Int × Int)) : Bool × Int × Int := rs.foldl rowN s
theorem rowsN_snoc (s : Bool × Int × Int) (rs : List (Int × Int)) (r : Int × Int) : rowsN s (rs ++ [r]) = rowN (rowsN s rs) r := by unfold rowsN; rw [List.foldl_append]; rfl
theorem rowsN_over {s : Bool × Int × Int} (h : s.1 = true) : ∀ rs, rowsN s rs = s
  | [] => rfl
  | r :: rs => by
    show rowsN (rowN s r) rs = s
    rw [show rowN s r = s from if_pos h]
    exact rowsN_over h rs
theorem end_rows : ∀ (rs : List (Int × Int)) (v fu c : Int), endR rs v fu = if (rowsN (false, v, c) rs).1 = true then ([], fu - ((rowsN (false, v, c) rs).2.2 - c), [], 2, 0) else ([], fu - ((rowsN (false, v, c) rs).2.2 - c) - 1, [], 1, (rowsN (false, v, c) rs).2.1)
  | [], v, fu, c => by
    rw [show rowsN (false, v, c) [] = (false, v, c) from rfl]
    simp [endR]
  | r :: rs, v, fu, c => by
    have e : rowsN (false, v, c) (r :: rs) = rowsN (trapB r.1 v r.2, doV r.1 v r.2, c + 2) rs := rfl
    rw [e]
    unfold endR
    by_cases ht : trapB r.1 v r.2 = true
    · rw [rowsN_over (by exact ht)]
      simp only []
      rw [if_pos ht, if_pos ht]
      rw [show fu - (c + 2 - c) = fu - 2 by omega]
    · have hf : trapB r.1 v r.2 = false := by simpa using ht
      rw [if_neg ht, hf, end_rows rs (doV r.1 v r.2) (fu - 2) (c + 2)]
      generalize rowsN (false, doV r.1 v r.2, c + 2) rs = s
      obtain ⟨t, u, d⟩ := s
      simp only []
      rw [show fu - 2 - (d - (c + 2)) = fu - (d - c) by omega]
/-- What it comes to. -/
theorem rows_eval {v : Int} {rs : List (Int × Int)} (hv : isNum v = true) (ho : OpsOk rs) (hl : rs.length ≤ 25) : evalE [(0, 0, rowsC v rs)] [] 200 = 0 ∧
    evalR [(0, 0, rowsC v rs)] [] 200 = if (rowsN (false, v, 1) rs).1 = true then (2, 0, [], 200 - (rowsN (false, v, 1) rs).2.2) else (1, (rowsN (false, v, 1) rs).2.1, [], 200 - (rowsN (false, v, 1) rs).2.2 - 1) := by
  have h : startB [(0, 0, rowsC v rs)] [] 200 = true := by
    unfold startB
    rw [rows_ver hv ho hl]
    rfl
  have e1 : evalR [(0, 0, rowsC v rs)] [] 200 = resV (runV [(0, 0, rowsC v rs)] (startV [(0, 0, rowsC v rs)] [] 200)) := if_pos h
  have hs := start_state h
  have es : startV [(0, 0, rowsC v rs)] [] 200 = ([(0, 0, [], [])], 200, [], 0, 0) := (start_yes h).1
  refine ⟨if_pos h, ?_⟩
  rw [e1]
  rw [es] at hs ⊢
  have s1 : goV [(0, 0, rowsC v rs)] 1 ([(0, 0, [], [])], 200, [], 0, 0) = ([(0, ((1 : Nat) : Int), [], [v])], 199, [], 0, 0) := by
    show stepV [(0, 0, rowsC v rs)] ([] ++ [(0, 0, [], [])], 200, [], 0, 0) = _
    rw [stepV_top (by omega)]
    have et : topI [(0, 0, rowsC v rs)] (0, 0, [], []) = (0, v) := rfl
    rw [et]
    rfl
  obtain ⟨n, hn⟩ := rows_run (l := rowsC v rs) rs 1 v 199 rfl ho (by omega)
  have hE := end_rows rs v 199 1
  have hg : goV [(0, 0, rowsC v rs)] (1 + n) ([(0, 0, [], [])], 200, [], 0, 0) = endR rs v 199 := by rw [goV_add, s1, hn]
  generalize rowsN (false, v, 1) rs = q at *
  obtain ⟨t, u, d⟩ := q
  simp only [] at *
  rw [run_at hs (n := 1 + n) (by rw [hg, hE]; split <;> simp), hg, hE]
  by_cases ht : t = true
  · rw [if_pos ht, if_pos ht]
    unfold resV
    simp only [Prod.mk.injEq, true_and]
    omega
  · rw [if_neg ht, if_neg ht]
    unfold resV
    simp only [Prod.mk.injEq, true_and]
    omega

end Go.Proofs.YtbbfgdkjgolieabGreatDoor
