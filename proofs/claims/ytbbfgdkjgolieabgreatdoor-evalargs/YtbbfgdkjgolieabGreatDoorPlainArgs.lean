/- An argument that is never loaded turns nothing. Nothing of the program is named here. -/
import Derived.Test.YtbbfgdkjgolieabGreatDoorJ8
namespace Go.Proofs.YtbbfgdkjgolieabGreatDoor
open Go.RowKit
set_option linter.unusedVariables false

/-- Its code loads a local somewhere. -/
def Reads (ps : List Fn) (x : Int) (i : Nat) : Prop := ((1 : Int), (i : Int)) ∈ (ps.getD x.toNat noFn).2.2
/-- Frames alike: but for locals of the first one that are never loaded. -/
def AF (ps : List Fn) (fs gs : List Fr) : Prop := fs = gs ∨ ∃ x y l l' k r, fs = (x, y, l, k) :: r ∧ gs = (x, y, l', k) :: r ∧ l.length = l'.length ∧ ∀ i, Reads ps x i → l.getD i 0 = l'.getD i 0
theorem AF.len {ps : List Fn} {fs gs : List Fr} (h : AF ps fs gs) : fs.length = gs.length := by
  rcases h with rfl | ⟨_, _, _, _, _, _, rfl, rfl, _⟩
  · rfl
  · rfl
theorem AF.snoc {ps : List Fn} {fs gs : List Fr} (h : AF ps fs gs) (t : Fr) : AF ps (fs ++ [t]) (gs ++ [t]) := by
  rcases h with rfl | ⟨x, y, l, l', k, r, rfl, rfl, h1, h2⟩
  · exact .inl rfl
  · exact .inr ⟨x, y, l, l', k, r ++ [t], rfl, rfl, h1, h2⟩
theorem getD_set_any (l : List Int) (i j : Nat) (z : Int) (hl : i < l.length) : (l.set i z).getD j 0 = if i = j then z else l.getD j 0 := by
  rw [getD_set_i]
  by_cases h : i = j
  · subst h; rw [if_pos ⟨rfl, hl⟩, if_pos rfl]
  · rw [if_neg (fun c => h c.1), if_neg h]
/-- The last ones. -/
theorem AF.last {ps : List Fn} {fs gs : List Fr} {x y : Int} {ll sl : List Int} (h : AF ps (fs ++ [(x, y, ll, sl)]) gs) : ∃ fs' ll', gs = fs' ++ [(x, y, ll', sl)] ∧ AF ps fs fs' ∧ (∀ y2 sl2, AF ps (fs ++ [(x, y2, ll, sl2)]) (fs' ++ [(x, y2, ll', sl2)])) ∧
    (∀ i, Reads ps x i → ll.getD i 0 = ll'.getD i 0) ∧ (∀ i z y2 sl2, i < ll.length → AF ps (fs ++ [(x, y2, ll.set i z, sl2)]) (fs' ++ [(x, y2, ll'.set i z, sl2)])) := by
  rcases h with rfl | ⟨x0, y0, l, l', k, r, e, rfl, h1, h2⟩
  · exact ⟨fs, ll, rfl, .inl rfl, fun _ _ => .inl rfl, fun _ _ => rfl, fun _ _ _ _ _ => .inl rfl⟩
  · cases fs with
    | nil =>
      simp only [List.nil_append, List.cons.injEq, Prod.mk.injEq] at e
      obtain ⟨⟨rfl, rfl, rfl, rfl⟩, rfl⟩ := e
      refine ⟨[], l', rfl, .inl rfl, fun y2 sl2 => .inr ⟨x, y2, ll, l', sl2, [], rfl, rfl, h1, h2⟩, h2, fun i z y2 sl2 hi => .inr ⟨x, y2, _, _, sl2, [], rfl, rfl, by simp [h1], fun j hj => ?_⟩⟩
      rw [getD_set_any _ _ _ _ hi, getD_set_any _ _ _ _ (by omega), h2 j hj]
    | cons f fs =>
      simp only [List.cons_append, List.cons.injEq] at e
      obtain ⟨rfl, rfl⟩ := e
      exact ⟨(x0, y0, l', k) :: fs, ll, rfl, .inr ⟨x0, y0, l, l', k, fs, rfl, rfl, h1, h2⟩, fun y2 sl2 => .inr ⟨x0, y0, l, l', k, fs ++ [(x, y2, ll, sl2)], rfl, rfl, h1, h2⟩, fun _ _ => rfl, fun i z y2 sl2 _ => .inr ⟨x0, y0, l, l', k, fs ++ [(x, y2, ll.set i z, sl2)], rfl, rfl, h1, h2⟩⟩
/-- States alike. -/
def AS (ps : List Fn) (s t : St) : Prop := AF ps s.1 t.1 ∧ s.2 = t.2
theorem ite_two {α β : Type} {c : Prop} [Decidable c] {a b : α} {a' b' : β} (P : α → β → Prop) (h1 : c → P a a') (h2 : ¬ c → P b b') : P (if c then a else b) (if c then a' else b') := by
  by_cases h : c
  · rw [if_pos h, if_pos h]; exact h1 h
  · rw [if_neg h, if_neg h]; exact h2 h
theorem ret_alike {ps : List Fn} {fs gs : List Fr} (h : AF ps fs gs) (z fu : Int) (out : List Int) : AS ps (retV fs z fu out) (retV gs z fu out) := by
  unfold retV
  by_cases h0 : fs = []
  · have h0' : gs = [] := List.length_eq_zero_iff.1 (by rw [← h.len, h0]; rfl)
    rw [if_pos h0, if_pos h0']
    exact ⟨.inl rfl, rfl⟩
  · have h0' : ¬ gs = [] := fun e => h0 (List.length_eq_zero_iff.1 (by rw [h.len, e]; rfl))
    rw [if_neg h0, if_neg h0']
    obtain ⟨f0, ⟨gx, gy, gl, gk⟩, rfl⟩ : ∃ f0 g, fs = f0 ++ [g] := by
      rcases List.eq_nil_or_concat fs with h1 | ⟨a, b, h1⟩
      · exact absurd h1 h0
      · exact ⟨a, b, by simpa using h1⟩
    obtain ⟨f1, l1, rfl, h1, h2, _⟩ := h.last
    simp only [List.dropLast_concat, List.getLastD_concat]
    exact ⟨h2 _ _, rfl⟩
theorem instr_alike {ps : List Fn} {fs gs : List Fr} {x y : Int} {ll l' sl : List Int} {k a : Int} (ok : Ok ps fs x y ll sl k a) (h : AF ps (fs ++ [(x, y, ll, sl)]) (gs ++ [(x, y, l', sl)])) (fu : Int) (out : List Int) :
    AS ps (instrV ps fs x y ll sl fu out k a) (instrV ps gs x y l' sl fu out k a) := by
  obtain ⟨fs', ll', e, h1, h2, h3, h4⟩ := h.last
  obtain ⟨e8, e9⟩ := List.append_inj' e rfl
  subst e8
  cases e9
  unfold instrV
  refine ite_two (AS ps) (fun _ => ⟨h2 _ _, rfl⟩) (fun _ => ?_)
  refine ite_two (AS ps) (fun hk => ?_) (fun _ => ?_)
  · have hlo := ok.loc (.inl hk)
    have hpy := ok.py
    have hr : Reads ps x a.toNat := by
      unfold Reads
      have hin := ok.ins
      rw [hk] at hin
      rw [Int.toNat_of_nonneg hlo.1, ← hin]
      have hlt : y.toNat < (ps.getD x.toNat noFn).2.2.length := by omega
      generalize (ps.getD x.toNat noFn).2.2 = C at hlt ⊢
      unfold insAt
      rw [List.getD_eq_getElem?_getD, List.getElem?_eq_getElem hlt]
      exact List.getElem_mem _
    rw [h3 _ hr]
    exact ⟨h2 _ _, rfl⟩
  refine ite_two (AS ps) (fun hk => ⟨h4 _ _ _ _ (by have := ok.loc (.inr hk); omega), rfl⟩) (fun _ => ?_)
  refine ite_two (AS ps) (fun _ => ite_two (AS ps) (fun _ => ⟨.inl rfl, rfl⟩) (fun _ => ⟨h2 _ _, rfl⟩)) (fun _ => ?_)
  refine ite_two (AS ps) (fun _ => ⟨h2 _ _, rfl⟩) (fun _ => ?_)
  refine ite_two (AS ps) (fun _ => ⟨h2 _ _, rfl⟩) (fun _ => ?_)
  refine ite_two (AS ps) (fun _ => ⟨h2 _ _, rfl⟩) (fun _ => ?_)
  refine ite_two (AS ps) (fun _ => ⟨h2 _ _, rfl⟩) (fun _ => ?_)
  refine ite_two (AS ps) (fun _ => ?_) (fun _ => ?_)
  · rw [h1.len]
    refine ite_two (AS ps) (fun _ => ⟨.inl rfl, rfl⟩) (fun _ => ⟨(h2 _ _).snoc _, rfl⟩)
  refine ite_two (AS ps) (fun _ => ⟨h2 _ _, rfl⟩) (fun _ => ?_)
  exact ret_alike h1 _ _ _
theorem step_alike {ps : List Fn} {s t : St} (hs : stateB ps s = true) (h : AS ps s t) : AS ps (stepV ps s) (stepV ps t) := by
  obtain ⟨fs, fu, out, dn, vl⟩ := s
  obtain ⟨gs, t2⟩ := t
  obtain ⟨hf, e⟩ := h
  simp only [] at e
  subst e
  by_cases hd : dn = 0
  · subst hd
    by_cases h0 : fu = 0
    · subst h0
      exact ⟨.inl (by simp [stepV]), by simp [stepV]⟩
    · obtain ⟨f0, x, y, ll, sl, e, _, ok⟩ := ok_of hs rfl
      simp only [] at e hf
      subst e
      obtain ⟨g0, l', e2, _⟩ := hf.last
      subst e2
      rw [stepV_top h0, stepV_top h0]
      exact instr_alike ok hf _ _
  · rw [step_over hd, step_over hd]
    exact ⟨hf, rfl⟩
theorem goV_alike {ps : List Fn} : ∀ (n : Nat) {s t : St}, stateB ps s = true → AS ps s t → AS ps (goV ps n s) (goV ps n t)
  | 0, _, _, _, h => h
  | n + 1, _, _, hs, h => goV_alike n (step_keeps hs) (step_alike hs h)
theorem fresh_alike {ps : List Fn} {x : Int} {k : Nat} {xs zs : List Int} (hl : xs.length = zs.length) (h : ∀ i, Reads ps x i → xs.getD i 0 = zs.getD i 0) : ∀ i, Reads ps x i → (freshL k xs).getD i 0 = (freshL k zs).getD i 0 := by
  intro i hi
  have h1 := h i hi
  have key : ∀ l : List Int, (freshL k l).getD i 0 = if i < k then l.getD i 0 else 0 := by
    intro l
    unfold freshL
    simp only [List.getD_eq_getElem?_getD, List.getElem?_take]
    by_cases hk : i < k
    · rw [if_pos hk, if_pos hk]
      rcases Nat.lt_or_ge i l.length with h2 | h2
      · rw [List.getElem?_append_left h2]
      · rw [List.getElem?_append_right h2, List.getElem?_eq_none h2]
        rcases Nat.lt_or_ge (i - l.length) k with h3 | h3
        · rw [List.getElem?_replicate, if_pos h3]; rfl
        · rw [List.getElem?_replicate, if_neg (by omega)]
    · rw [if_neg hk, if_neg hk]; rfl
  rw [key, key, h1]
/-- Arguments that part only where nothing is loaded come to the same. -/
theorem args_run {ps : List Fn} {xs zs : List Int} {m : Int} (h : startB ps xs m = true) (hl : xs.length = zs.length) (hn : numsB zs = true) (hr : ∀ i, Reads ps 0 i → xs.getD i 0 = zs.getD i 0) :
    evalR ps zs m = evalR ps xs m ∧ evalE ps zs m = 0 ∧ evalE ps xs m = 0 := by
  have h' : startB ps zs m = true := by
    obtain ⟨h1, h2, h3, _⟩ := start_parts h
    unfold startB lenB
    simp only [Bool.and_eq_true, decide_eq_true_eq]
    exact ⟨h1, h2, by omega, hn⟩
  refine ⟨?_, if_pos h', if_pos h⟩
  have e1 : evalR ps xs m = resV (runV ps (startV ps xs m)) := if_pos h
  have e2 : evalR ps zs m = resV (runV ps (startV ps zs m)) := if_pos h'
  have hs := start_state h
  rw [e1, e2]
  rw [(start_yes h).1] at hs ⊢
  rw [(start_yes h').1]
  have ha : AS ps ([(0, 0, freshL (ps.getD 0 noFn).2.1.toNat xs, [])], m, [], 0, 0) ([(0, 0, freshL (ps.getD 0 noFn).2.1.toNat zs, [])], m, [], 0, 0) :=
    ⟨.inr ⟨0, 0, _, _, [], [], rfl, rfl, by simp [freshL], fresh_alike hl hr⟩, rfl⟩
  have hg := goV_alike (m.toNat + 1) hs ha
  have e3 := hg.2
  unfold runV resV
  simp only [] at e3 ⊢
  rw [← e3]

end Go.Proofs.YtbbfgdkjgolieabGreatDoor
