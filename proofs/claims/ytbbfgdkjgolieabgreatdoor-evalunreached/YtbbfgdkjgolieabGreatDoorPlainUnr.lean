/- Code that is never come to turns nothing. Nothing of the program is named here. -/
import Derived.Test.YtbbfgdkjgolieabGreatDoorJ8
import Derived.Test.YtbbfgdkjgolieabGreatDoorPlainVer4
namespace Go.Proofs.YtbbfgdkjgolieabGreatDoor
open Go.RowKit
set_option linter.unusedVariables false

/-- Returns behind a function's code. -/
def Rets (t : List (Int × Int)) : Prop := ∀ p ∈ t, p = (16, 0)
/-- The same functions, but for returns behind their code. -/
structure Ext (ps qs : List Fn) : Prop where
  len : qs.length = ps.length
  at' : ∀ i, i < ps.length → ∃ t, Rets t ∧ ((ps.getD i noFn).2.2 ++ t).length ≤ 64 ∧ qs.getD i noFn = ((ps.getD i noFn).1, (ps.getD i noFn).2.1, (ps.getD i noFn).2.2 ++ t)
theorem Ext.refl {ps : List Fn} (h : ∀ i, i < ps.length → (ps.getD i noFn).2.2.length ≤ 64) : Ext ps ps :=
  ⟨rfl, fun i hi => ⟨[], (fun p hp => (by cases hp)), (by rw [List.append_nil]; exact h i hi), (by rw [List.append_nil])⟩⟩
theorem Ext.more {ps qs : List Fn} (h : Ext ps qs) {k : Nat} (hk : k < ps.length) {x y : Int} {l : List (Int × Int)} (e : qs.getD k noFn = (x, y, l)) (hl : l.length < 64) : Ext ps (qs.set k (x, y, l ++ [(16, 0)])) := by
  refine ⟨by simp [h.len], fun i hi => ?_⟩
  obtain ⟨t, h1, h2, h3⟩ := h.at' i hi
  by_cases hik : k = i
  · subst hik
    rw [e] at h3
    simp only [Prod.mk.injEq] at h3
    obtain ⟨rfl, rfl, rfl⟩ := h3
    refine ⟨t ++ [(16, 0)], fun p hp => ?_, by simp at hl ⊢; omega, ?_⟩
    · rcases List.mem_append.1 hp with hp | hp
      · exact h1 p hp
      · simpa using hp
    · rw [List.getD_eq_getElem?_getD, List.getElem?_set_self (by rw [h.len]; exact hi)]
      simp
  · refine ⟨t, h1, h2, ?_⟩
    rw [← h3, List.getD_eq_getElem?_getD, List.getElem?_set_ne hik, ← List.getD_eq_getElem?_getD]
theorem codeB_rets {l t : List (Int × Int)} (h : codeB l = true) (ht : Rets t) (hl : (l ++ t).length ≤ 64) : codeB (l ++ t) = true := by
  unfold codeB at h ⊢
  simp only [Bool.and_eq_true, List.all_append, decide_eq_true_eq, List.all_eq_true] at h ⊢
  refine ⟨⟨by simp; omega, hl⟩, h.2, fun p hp => ?_⟩
  rw [ht p hp]
  decide
theorem Ext.packs {ps qs : List Fn} (h : Ext ps qs) (hp : packsB ps = true) : packsB qs = true := by
  have h0 := hp
  unfold packsB at hp ⊢
  simp only [Bool.and_eq_true, List.all_eq_true, decide_eq_true_eq] at hp ⊢
  refine ⟨by rw [h.len]; exact hp.1, fun f hf => ?_⟩
  obtain ⟨i, hi, rfl⟩ := List.getElem_of_mem hf
  have hi' : i < ps.length := by rw [← h.len]; exact hi
  obtain ⟨t, h1, h2, h3⟩ := h.at' i hi'
  have e : qs[i] = qs.getD i noFn := by simp [List.getD_eq_getElem?_getD, hi]
  have hB := fnB_of h0 hi' rfl
  rw [e, h3]
  unfold fnB at hB ⊢
  simp only [Bool.and_eq_true] at hB ⊢
  exact ⟨hB.1, codeB_rets hB.2 h1 h2⟩
theorem Ext.same {ps qs : List Fn} (h : Ext ps qs) : SameArgs ps qs := fun i hi => by
  obtain ⟨t, _, _, h3⟩ := h.at' i hi
  rw [h3]
theorem Ext.hts {ps qs : List Fn} (h : Ext ps qs) {k : Nat} (hk : k < ps.length) (h0 : (htsV ps k).2.2 = 0) : (htsV qs k).2.2 = 0 := by
  obtain ⟨hpk, f', ef, hf', wi, _, hrg, hop⟩ := hts_ok h0
  have e0 : f' = k := by omega
  subst e0
  obtain ⟨t, h1, h2, h3⟩ := h.at' f' hk
  have hB := fnB_of hpk hk rfl
  have hpq := h.packs hpk
  have sa := h.same
  have hlen := h.len
  generalize hg : ps.getD f' noFn = F at *
  obtain ⟨x, y, l⟩ := F
  simp only [] at *
  have hl := codeB_pos hB
  have g : Good ps y l := good_of (by omega) hl (firstAt_all _ _ (fun j _ hj => by
    show ((reachL l).getD j false && !rangedB ps.length y l.length (insAt l j).1 (insAt l j).2) = false
    cases hr : (reachL l).getD j false
    · rfl
    · have := hrg j (((reachL_marked hl).2 j (by omega)).1 hr)
      rw [this]; rfl)) hop
  have hin : inB qs.length (f' : Int) = true := by simp [inB]; omega
  have hin0 : inB ps.length (f' : Int) = true := by simp [inB]; omega
  have hw : htsV ps f' = walkV ps l := by
    unfold htsV
    rw [if_pos ⟨hpk, hin0⟩, Int.toNat_natCast, hg]
    unfold htsF
    rw [show firstAt (unranged ps (x, y, l)) (x, y, l).2.2.length 0 = none from firstAt_all _ _ (fun j _ hj => by
      show ((reachL l).getD j false && !rangedB ps.length y l.length (insAt l j).1 (insAt l j).2) = false
      cases hr : (reachL l).getD j false
      · rfl
      · rw [g.ranged j (((reachL_marked hl).2 j (by simpa using hj)).1 hr)]; rfl)]
    simp only []
    rw [if_neg (by rw [hop]; simp)]
  have hl' : 0 < (l ++ t).length := by simp; omega
  have hM := reachL_marked hl'
  rw [hw] at h0
  unfold htsV
  rw [if_pos ⟨hpq, hin⟩, Int.toNat_natCast, h3]
  unfold htsF
  rw [show firstAt (unranged qs (x, y, l ++ t)) (x, y, l ++ t).2.2.length 0 = none from firstAt_all _ _ (fun j _ hj => by
    show ((reachL (l ++ t)).getD j false && !rangedB qs.length y (l ++ t).length (insAt (l ++ t) j).1 (insAt (l ++ t) j).2) = false
    cases hr : (reachL (l ++ t)).getD j false
    · rfl
    · have hj' : Reach l j := (g.reach t).1 ((hM.2 j (by simpa using hj)).1 hr)
      rw [insAt_app (hj'.lt hl), ranged_wide (g.ranged j hj') (by omega) (by simp)]; rfl)]
  simp only []
  have hoe : openEnd (x, y, l ++ t) = false := by
    show ((reachL (l ++ t)).getD ((l ++ t).length - 1) false && !decide ((insAt (l ++ t) ((l ++ t).length - 1)).1 = 12 ∨ (insAt (l ++ t) ((l ++ t).length - 1)).1 = 16)) = false
    cases hr : (reachL (l ++ t)).getD ((l ++ t).length - 1) false
    · rfl
    · have hj' : Reach l ((l ++ t).length - 1) := (g.reach t).1 ((hM.2 _ (by omega)).1 hr)
      have hlt := hj'.lt hl
      have := g.last _ hj' (by simp at hlt ⊢; omega)
      rw [insAt_app hlt, decide_eq_true this]
      rfl
  rw [hoe]
  simp only [Bool.false_eq_true, if_false]
  have hs := negs_start l.length hl
  have e := walkF_app (m := t) (List.replicate t.length (-1)) g sa l.length t.length ((List.replicate l.length (-1)).set 0 0) [0] (WInv.start hl) (by show _ + 1 ≤ _; omega) h0
  unfold walkV
  have e2 : walkF qs (l ++ t) (l ++ t).length ((List.replicate (l ++ t).length (-1)).set 0 0) [0] = walkF qs (l ++ t) (l.length + t.length) ((List.replicate l.length (-1)).set 0 0 ++ List.replicate t.length (-1)) [0] := by
    congr 1
    · simp
    · rw [List.length_append, ← List.replicate_append_replicate, List.set_append_left _ _ (by simpa using hl)]
  rw [e2, e]
theorem Ext.ver {ps qs : List Fn} (h : Ext ps qs) (hv : verV ps = 0) : verV qs = 0 :=
  ver_all (by rw [h.len]; have := ver_some hv; omega) (fun i hi => h.hts (by rw [← h.len]; exact hi) (ver_at hv (by rw [← h.len]; exact hi)))
theorem Ext.step {ps qs : List Fn} (h : Ext ps qs) {s : St} (hs : stateB ps s = true) : stepV qs s = stepV ps s := by
  obtain ⟨fs, fu, out, dn, vl⟩ := s
  by_cases hd : dn = 0
  · subst hd
    by_cases h0 : fu = 0
    · subst h0
      simp [stepV]
    · obtain ⟨f0, x, y, ll, sl, e, _, ok⟩ := ok_of hs rfl
      simp only [] at e
      subst e
      rw [stepV_top h0, stepV_top h0]
      have hfx := ok.fx
      have hpy := ok.py
      have htop : topI qs (x, y, ll, sl) = topI ps (x, y, ll, sl) := by
        obtain ⟨t, _, _, h3⟩ := h.at' x.toNat (by omega)
        unfold topI
        simp only []
        rw [h3]
        exact insAt_app (by omega)
      rw [htop]
      have hca := ok.call
      generalize topI ps (x, y, ll, sl) = ka at *
      obtain ⟨k, a⟩ := ka
      simp only [] at *
      by_cases hk : k = 14
      · obtain ⟨t, _, _, h3⟩ := h.at' a.toNat (by have := hca hk; omega)
        unfold instrV
        rw [h3]
      · unfold instrV
        rw [if_neg hk, if_neg hk]
  · rw [step_over hd, step_over hd]
theorem Ext.goes {ps qs : List Fn} (h : Ext ps qs) : ∀ (n : Nat) {s : St}, stateB ps s = true → goV qs n s = goV ps n s
  | 0, _, _ => rfl
  | n + 1, s, hs => by
    show goV qs n (stepV qs s) = goV ps n (stepV ps s)
    rw [h.step hs]
    exact h.goes n (step_keeps hs)
theorem Ext.start {ps qs : List Fn} (h : Ext ps qs) (hv : verV ps = 0) (args : List Int) (m : Int) : startB qs args m = startB ps args m ∧ (qs.getD 0 noFn).2.1 = (ps.getD 0 noFn).2.1 := by
  obtain ⟨t, _, _, h3⟩ := h.at' 0 (by have := ver_some hv; omega)
  unfold startB
  rw [hv, h.ver hv, h3]
  exact ⟨rfl, rfl⟩
/-- It comes to the same. -/
theorem Ext.eval {ps qs : List Fn} (h : Ext ps qs) (hv : verV ps = 0) (args : List Int) (m : Int) : evalR qs args m = evalR ps args m ∧ evalE qs args m = evalE ps args m := by
  obtain ⟨h1, h2⟩ := h.start hv args m
  cases hb : startB ps args m
  · rw [hb] at h1
    rw [(evalR_no hb).1, (evalR_no hb).2, (evalR_no h1).1, (evalR_no h1).2]
    exact ⟨rfl, rfl⟩
  · rw [hb] at h1
    have hs := start_state hb
    have e1 : evalR ps args m = resV (runV ps (startV ps args m)) := if_pos hb
    have e2 : evalR qs args m = resV (runV qs (startV qs args m)) := if_pos h1
    have e3 : evalE ps args m = 0 := if_pos hb
    have e4 : evalE qs args m = 0 := if_pos h1
    rw [e1, e2, e3, e4]
    rw [(start_yes hb).1] at hs ⊢
    rw [(start_yes h1).1, h2]
    unfold runV
    rw [h.goes _ hs]
    exact ⟨rfl, rfl⟩

end Go.Proofs.YtbbfgdkjgolieabGreatDoor
