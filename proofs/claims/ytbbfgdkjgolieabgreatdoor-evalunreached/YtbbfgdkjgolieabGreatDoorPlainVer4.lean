/- Heights of a program with a function more, or of a function with an instruction more behind its end. Nothing of the program is named here. -/
import Derived.Test.YtbbfgdkjgolieabGreatDoorPlainVer3
namespace Go.Proofs.YtbbfgdkjgolieabGreatDoor
open Go.RowKit
set_option linter.unusedVariables false

/-- Two programs whose functions, as far as the first one goes, take as many arguments. -/
def SameArgs (ps qs : List Fn) : Prop := ∀ i, i < ps.length → (qs.getD i noFn).1 = (ps.getD i noFn).1
theorem argsOf_same {ps qs : List Fn} (h : SameArgs ps qs) {y : Int} {n : Nat} {k a : Int} (h0 : 0 < ps.length) (hr : rangedB ps.length y n k a = true) : argsOf qs k a = argsOf ps k a := by
  unfold argsOf
  split
  · rename_i h14
    subst h14
    have : a < ps.length := by simpa [rangedB] using hr
    exact h a.toNat (by omega)
  · rfl

/-- Code, and code with something behind it: what a pc that lies in the first one, and names what there is, leads to. -/
theorem insAt_app {l m : List (Int × Int)} {p : Nat} (hp : p < l.length) : insAt (l ++ m) p = insAt l p := by unfold insAt; simp [List.getD_eq_getElem?_getD, List.getElem?_append_left hp]
theorem inB_wide {n m : Nat} {a : Int} (h : a < n) (hm : n ≤ m) : inB m a = inB n a := by
  unfold inB; rw [Bool.eq_iff_iff]; simp; omega
theorem nextL_app {l m : List (Int × Int)} {nf : Nat} {y : Int} {p : Nat} (hp : p < l.length) (hr : rangedB nf y l.length (insAt l p).1 (insAt l p).2 = true) (he : p + 1 = l.length → (insAt l p).1 = 12 ∨ (insAt l p).1 = 16) : nextL (l ++ m) p = nextL l p := by
  have e := insAt_app (m := m) hp
  unfold insAt at e hr he
  unfold nextL
  rw [e]
  generalize hi : l.getD p (0, 0) = i at hr he
  obtain ⟨k, a⟩ := i
  simp only [] at hr he ⊢
  have hm : l.length ≤ (l ++ m).length := by simp
  have hf : fallL (l ++ m).length p k = fallL l.length p k := by
    unfold fallL
    split
    · rfl
    · rename_i hk
      have : (p : Int) + 1 < l.length := by
        rcases Nat.lt_or_ge (p + 1) l.length with h | h
        · omega
        · exact absurd (he (by omega)) hk
      unfold addN
      rw [inB_wide this hm]
  unfold nextOf
  rw [hf]
  split
  · rename_i hb
    have : a < l.length := by
      have h2 : k = 12 ∨ k = 13 := by simpa [isBr] using hb
      rcases h2 with rfl | rfl <;> simpa [rangedB] using hr
    unfold addN
    rw [inB_wide this hm]
  · rfl

/-- The heights of code with an instruction more that is not come to. -/
theorem putH_app {h : Int} {out ws : List Int} {q : Nat} (t : List Int) (hq : q < out.length) : putH h (out ++ t, ws) (q : Int) = (putH h (out, ws) (q : Int)).map (fun s => (s.1 ++ t, s.2)) := by
  have e : (out ++ t).getD q 0 = out.getD q 0 := by simp [List.getD_eq_getElem?_getD, List.getElem?_append_left hq]
  unfold putH
  simp only [Int.toNat_natCast, e]
  split
  · simp [List.set_append_left _ _ hq]
  · split <;> rfl
theorem putH_len {h : Int} {s s' : List Int × List Int} {x : Int} (hp : putH h s x = some s') : s'.1.length = s.1.length := by
  unfold putH at hp
  split at hp
  · simp only [Option.some.injEq] at hp; rw [← hp]; simp
  · split at hp
    · simp only [Option.some.injEq] at hp; rw [← hp]
    · cases hp
theorem putHs_app {h : Int} (t : List Int) : ∀ (xs out ws : List Int), (∀ x ∈ xs, 0 ≤ x ∧ x < out.length) → putHs h xs (out ++ t, ws) = (putHs h xs (out, ws)).map (fun s => (s.1 ++ t, s.2))
  | [], out, ws, _ => rfl
  | x :: xs, out, ws, hx => by
    obtain ⟨h0, h1⟩ := hx x (by simp)
    obtain ⟨q, rfl⟩ : ∃ q : Nat, x = q := ⟨x.toNat, by omega⟩
    simp only [putHs]
    rw [putH_app t (by omega)]
    cases hp : putH h (out, ws) (q : Int) with
    | none => rfl
    | some s =>
      obtain ⟨o', w'⟩ := s
      have hl := putH_len hp
      simp only [] at hl
      simp only [Option.map_some]
      exact putHs_app t xs o' w' (fun y hy => by rw [hl]; exact hx y (by simp [hy]))
theorem stepH_app {ps qs : List Fn} {l m : List (Int × Int)} {out ws t : List Int} {p : Nat} (hp : p < out.length) (hl : out.length = l.length) (ha : takesAt qs (l ++ m) p = takesAt ps l p) (hn : nextL (l ++ m) p = nextL l p) : stepH qs (l ++ m) (out ++ t) ws p = (stepH ps l out ws p).map (fun s => (s.1 ++ t, s.2)) := by
  have e : (out ++ t).getD p 0 = out.getD p 0 := by simp [List.getD_eq_getElem?_getD, List.getElem?_append_left hp]
  have g : goesTo qs (l ++ m) (out ++ t) p = goesTo ps l out p := by unfold goesTo; rw [e, ha, insAt_app (by omega)]
  unfold stepH
  rw [e, ha, g, hn]
  split
  · rfl
  · exact putHs_app t _ _ _ (fun x hx => by have := nextL_in x hx; omega)

/-- What makes the walks alike: every reached pc names what there is, and the last one does not fall out. -/
structure Good (ps : List Fn) (y : Int) (l : List (Int × Int)) : Prop where
  pos : 0 < ps.length
  len : 0 < l.length
  ranged : ∀ i, Reach l i → rangedB ps.length y l.length (insAt l i).1 (insAt l i).2 = true
  last : ∀ i, Reach l i → i + 1 = l.length → (insAt l i).1 = 12 ∨ (insAt l i).1 = 16
theorem Good.next {ps : List Fn} {y : Int} {l : List (Int × Int)} (g : Good ps y l) (m : List (Int × Int)) {p : Nat} (hr : Reach l p) : nextL (l ++ m) p = nextL l p :=
  nextL_app (hr.lt g.len) (g.ranged p hr) (g.last p hr)
theorem Good.takes {ps qs : List Fn} {y : Int} {l : List (Int × Int)} (g : Good ps y l) (h : SameArgs ps qs) (m : List (Int × Int)) {p : Nat} (hr : Reach l p) : takesAt qs (l ++ m) p = takesAt ps l p := by
  unfold takesAt
  rw [insAt_app (hr.lt g.len), argsOf_same h g.pos (g.ranged p hr)]
theorem Good.reach {ps : List Fn} {y : Int} {l : List (Int × Int)} (g : Good ps y l) (m : List (Int × Int)) {p : Nat} : Reach (l ++ m) p ↔ Reach l p := by
  constructor
  · intro h
    exact h (Reach l) (Reach.zero l) (fun p q hp hq => hp.step (by rw [← g.next m hp]; exact hq))
  · intro h
    have := h (fun p => Reach l p ∧ Reach (l ++ m) p) ⟨Reach.zero l, Reach.zero _⟩ (fun p q hp hq => ⟨hp.1.step hq, hp.2.step (by rw [g.next m hp.1]; exact hq)⟩)
    exact this.2
theorem stepH_HInv {ps : List Fn} {l : List (Int × Int)} {out ws : List Int} {p : Nat} {s : List Int × List Int} (h : WInv ps l out ((p : Int) :: ws)) (hs : stepH ps l out ws p = some s) : WInv ps l s.1 s.2 ∧ negs s.1 + s.2.length = negs out + ws.length := h.step hs
theorem walkF_app {ps qs : List Fn} {y : Int} {l m : List (Int × Int)} (t : List Int) (g : Good ps y l) (h : SameArgs ps qs) : ∀ (k d : Nat) (out ws : List Int), WInv ps l out ws → negs out + ws.length ≤ k → 
    (walkF ps l k out ws).2.2 = 0 → walkF qs (l ++ m) (k + d) (out ++ t) ws = ((walkF ps l k out ws).1 ++ t, 0, 0)
  | 0, d, out, ws, hI, hk, h0 => by
    have : ws = [] := List.length_eq_zero_iff.1 (by omega)
    subst this
    cases d <;> rfl
  | k + 1, d, out, [], hI, hk, h0 => by
    rw [show k + 1 + d = (k + d) + 1 by omega]; rfl
  | k + 1, d, out, x :: ws, hI, hk, h0 => by
    obtain ⟨p, rfl, hpl, hp0⟩ := hI.work x (by simp)
    have hr := hI.only p hpl hp0
    have e := stepH_app (ps := ps) (qs := qs) (l := l) (m := m) (out := out) (ws := ws) (t := t) (p := p) (by rw [hI.len]; exact hpl) hI.len (g.takes h m hr) (g.next m hr)
    rw [show k + 1 + d = (k + d) + 1 by omega]
    simp only [walkF, Int.toNat_natCast] at h0 ⊢
    rw [e]
    cases hs : stepH ps l out ws p with
    | none => rw [hs] at h0; simp at h0
    | some s =>
      rw [hs] at h0
      obtain ⟨h1, h2⟩ := hI.step hs
      simp only [Option.map_some]
      exact walkF_app t g h k d s.1 s.2 h1 (by simp at hk; omega) h0

/-- .. and with another program alone, whatever comes out. -/
theorem walkF_same {ps qs : List Fn} {y : Int} {l : List (Int × Int)} (g : Good ps y l) (h : SameArgs ps qs) : ∀ (k : Nat) (out ws : List Int), WInv ps l out ws → walkF qs l k out ws = walkF ps l k out ws
  | 0, out, ws, hI => rfl
  | k + 1, out, [], hI => rfl
  | k + 1, out, x :: ws, hI => by
    obtain ⟨p, rfl, hpl, hp0⟩ := hI.work x (by simp)
    have hr := hI.only p hpl hp0
    have e := stepH_app (ps := ps) (qs := qs) (l := l) (m := []) (out := out) (ws := ws) (t := []) (p := p) (by rw [hI.len]; exact hpl) hI.len (g.takes h [] hr) (g.next [] hr)
    rw [List.append_nil, List.append_nil] at e
    simp only [walkF, Int.toNat_natCast]
    rw [e]
    cases hs : stepH ps l out ws p with
    | none => rfl
    | some s =>
      obtain ⟨h1, h2⟩ := hI.step hs
      simp only [Option.map_some, List.append_nil]
      exact walkF_same g h k s.1 s.2 h1

theorem firstAt_all {p : Nat → Bool} : ∀ (k i : Nat), (∀ j, i ≤ j → j < i + k → p j = false) → firstAt p k i = none
  | 0, i, _ => rfl
  | k + 1, i, h => by rw [firstAt_step (h i (Nat.le_refl _) (by omega))]; exact firstAt_all k (i + 1) (fun j h1 h2 => h j (by omega) (by omega))
theorem ranged_wide {nf nf' n n' : Nat} {y k a : Int} (h : rangedB nf y n k a = true) (h1 : nf ≤ nf') (h2 : n ≤ n') : rangedB nf' y n' k a = true := by
  unfold rangedB at h ⊢
  split
  · rename_i hc; rw [if_pos hc] at h; exact h
  · rename_i hc; rw [if_neg hc] at h
    split
    · rename_i hd; rw [if_pos hd] at h; simp at h ⊢; omega
    · rename_i hd; rw [if_neg hd] at h
      split
      · rename_i he; rw [if_pos he] at h; simp at h ⊢; omega
      · rfl
theorem good_of {ps : List Fn} {x y : Int} {l : List (Int × Int)} (hp : 0 < ps.length) (hl : 0 < l.length) (hf : firstAt (unranged ps (x, y, l)) l.length 0 = none) (ho : openEnd (x, y, l) = false) : Good ps y l := by
  refine ⟨hp, hl, fun i hi => ?_, fun i hi he => ?_⟩
  · have h1 := firstAt_none _ _ hf i (Nat.zero_le _) (by have := hi.lt hl; omega)
    have h2 : (reachL l).getD i false = true := ((reachL_marked hl).2 i (hi.lt hl)).2 hi
    have h3 : ((reachL l).getD i false && !rangedB ps.length y l.length (insAt l i).1 (insAt l i).2) = false := h1
    rw [h2] at h3
    simpa using h3
  · have h1 : ((reachL l).getD (l.length - 1) false && !decide ((insAt l (l.length - 1)).1 = 12 ∨ (insAt l (l.length - 1)).1 = 16)) = false := ho
    rw [show l.length - 1 = i by omega, ((reachL_marked hl).2 i (hi.lt hl)).2 hi] at h1
    simp only [Bool.true_and, Bool.not_eq_false', decide_eq_true_eq] at h1
    exact h1
/-- A row of functions with one more that calls nothing. -/
def oneFn : Fn := (0, 0, [(0, 1), (16, 0)])
theorem packs_more {ps : List Fn} (h1 : 1 ≤ ps.length) (h2 : ps.length ≤ 7) : packsB (ps ++ [oneFn]) = packsB ps := by
  unfold packsB
  rw [List.all_append, show [oneFn].all fnB = true by decide, Bool.and_true]
  rw [decide_eq_true (p := 1 ≤ (ps ++ [oneFn]).length ∧ (ps ++ [oneFn]).length ≤ 8) (by rw [List.length_append, List.length_singleton]; omega), decide_eq_true (p := 1 ≤ ps.length ∧ ps.length ≤ 8) (by omega)]
theorem sameArgs_more (ps : List Fn) : SameArgs ps (ps ++ [oneFn]) := fun i hi => by simp [List.getD_eq_getElem?_getD, List.getElem?_append_left hi]
theorem codeB_pos {x y : Int} {l : List (Int × Int)} (h : fnB (x, y, l) = true) : 0 < l.length := by have := fnB_bd h; omega
theorem hts_more {ps : List Fn} (h1 : 1 ≤ ps.length) (h2 : ps.length ≤ 7) {i : Nat} (hi : i < ps.length) (hne : (htsV ps i).2.2 ≠ 501) : htsV (ps ++ [oneFn]) i = htsV ps i := by
  have hpk := packs_more h1 h2
  cases hk : packsB ps
  · unfold htsV
    rw [hpk, hk]
    simp
  · have hin : inB ps.length (i : Int) = true := by simp [inB]; omega
    have hin' : inB (ps ++ [oneFn]).length (i : Int) = true := by simp [inB]; omega
    have hg : (ps ++ [oneFn]).getD i noFn = ps.getD i noFn := by simp [List.getD_eq_getElem?_getD, List.getElem?_append_left hi]
    unfold htsV at hne ⊢
    rw [if_pos ⟨hk, hin⟩, Int.toNat_natCast] at hne
    rw [if_pos ⟨by rw [hpk]; exact hk, hin'⟩, if_pos ⟨hk, hin⟩, Int.toNat_natCast, hg]
    have hB := fnB_of hk hi rfl
    generalize ps.getD i noFn = f at hne hB ⊢
    obtain ⟨x, y, l⟩ := f
    have hl := codeB_pos hB
    cases hf : firstAt (unranged ps (x, y, l)) l.length 0 with
    | some j =>
      have e : (htsF ps (x, y, l)).2.2 = 501 := by unfold htsF; rw [show firstAt (unranged ps (x, y, l)) (x, y, l).2.2.length 0 = some j from hf]
      exact absurd e hne
    | none =>
      have hf' : firstAt (unranged (ps ++ [oneFn]) (x, y, l)) l.length 0 = none := firstAt_all _ _ (fun j _ hj => by
        have h3 := firstAt_none _ _ hf j (Nat.zero_le _) hj
        have h4 : ((reachL l).getD j false && !rangedB ps.length y l.length (insAt l j).1 (insAt l j).2) = false := h3
        show ((reachL l).getD j false && !rangedB (ps ++ [oneFn]).length y l.length (insAt l j).1 (insAt l j).2) = false
        cases hr : (reachL l).getD j false
        · rfl
        · rw [hr] at h4
          rw [ranged_wide (by simpa using h4) (by simp) (Nat.le_refl _)]
          rfl)
      unfold htsF
      rw [show firstAt (unranged ps (x, y, l)) (x, y, l).2.2.length 0 = none from hf, show firstAt (unranged (ps ++ [oneFn]) (x, y, l)) (x, y, l).2.2.length 0 = none from hf']
      simp only []
      cases ho : openEnd (x, y, l)
      · have g := good_of (by omega) hl hf ho
        simp only [Bool.false_eq_true, if_false]
        exact walkF_same g (sameArgs_more ps) _ _ _ (WInv.start hl)
      · simp
/-- An instruction more, behind code that does not fall out of its end. -/
theorem hts_ins {ps : List Fn} (h1 : 1 ≤ ps.length) (h2 : ps.length ≤ 7) {k : Nat} (hk : k < ps.length) {x y : Int} {l : List (Int × Int)} (hg : ps.getD k noFn = (x, y, l)) (hl63 : l.length ≤ 63) (h0 : (htsV ps k).2.2 = 0) :
    htsV ((ps ++ [oneFn]).set k (x, y, l ++ [(16, 0)])) k = ((htsV ps k).1 ++ [-1], 0, 0) ∧ (htsV ps k).1.length = l.length := by
  obtain ⟨hpk, f', ef, hf', wi, _, hrg, hop⟩ := hts_ok h0
  have e0 : f' = k := by omega
  subst e0
  rw [hg] at wi hrg hop
  have hB := fnB_of hpk hk hg
  have hl := codeB_pos hB
  have g : Good ps y l := good_of (by omega) hl (firstAt_all _ _ (fun j _ hj => by
    show ((reachL l).getD j false && !rangedB ps.length y l.length (insAt l j).1 (insAt l j).2) = false
    cases hr : (reachL l).getD j false
    · rfl
    · have := hrg j (((reachL_marked hl).2 j (by omega)).1 hr)
      simp only [] at this
      rw [this]; rfl)) hop
  have hlen : (htsV ps f').1.length = l.length := wi.len
  refine ⟨?_, hlen⟩
  generalize hq : (ps ++ [oneFn]).set f' (x, y, l ++ [(16, 0)]) = qs
  have hql : qs.length = ps.length + 1 := by rw [← hq]; simp
  have hqg : ∀ i, qs.getD i noFn = if i = f' then (x, y, l ++ [(16, 0)]) else (ps ++ [oneFn]).getD i noFn := by
    intro i
    rw [← hq]
    simp only [List.getD_eq_getElem?_getD, List.getElem?_set]
    by_cases h : f' = i
    · subst h; rw [if_pos rfl, if_pos rfl, if_pos (by simp; omega)]; rfl
    · rw [if_neg h, if_neg (fun e => h e.symm)]
  have sa : SameArgs ps qs := fun i hi => by
    rw [hqg i]
    split
    · rename_i e; rw [e, hg]
    · simp [List.getD_eq_getElem?_getD, List.getElem?_append_left hi]
  have hB' : fnB (x, y, l ++ [(16, 0)]) = true := by
    unfold fnB codeB at hB ⊢
    simp only [Bool.and_eq_true, List.all_append, decide_eq_true_eq, List.length_append, List.length_singleton] at hB ⊢
    exact ⟨hB.1, by omega, hB.2.2, by decide⟩
  have hpq : packsB qs = true := by
    have hpm := packs_more h1 h2
    rw [hpk] at hpm
    unfold packsB at hpm ⊢
    simp only [Bool.and_eq_true, List.all_eq_true, decide_eq_true_eq] at hpm ⊢
    refine ⟨by omega, fun a ha => ?_⟩
    rw [← hq] at ha
    rcases List.mem_or_eq_of_mem_set ha with h | h
    · exact hpm.2 a h
    · rw [h]; exact hB'
  have hin : inB qs.length (f' : Int) = true := by simp [inB]; omega
  have hin0 : inB ps.length (f' : Int) = true := by simp [inB]; omega
  have hw : htsV ps f' = walkV ps l := by
    unfold htsV
    rw [if_pos ⟨hpk, hin0⟩, Int.toNat_natCast, hg]
    unfold htsF
    rw [show firstAt (unranged ps (x, y, l)) (x, y, l).2.2.length 0 = none from firstAt_all _ _ (fun j _ hj => by
      show ((reachL l).getD j false && !rangedB ps.length y l.length (insAt l j).1 (insAt l j).2) = false
      cases hr : (reachL l).getD j false
      · rfl
      · rw [g.ranged j (((reachL_marked hl).2 j (by simpa using hj)).1 hr)]; rfl)]
    simp only []
    rw [if_neg (by rw [hop]; simp)]
  have hl' : 0 < (l ++ [((16 : Int), (0 : Int))]).length := by simp
  have hM := reachL_marked hl'
  rw [hw] at h0 ⊢
  unfold htsV
  rw [if_pos ⟨hpq, hin⟩, Int.toNat_natCast, hqg f', if_pos rfl]
  unfold htsF
  rw [show firstAt (unranged qs (x, y, l ++ [(16, 0)])) (x, y, l ++ [((16 : Int), (0 : Int))]).2.2.length 0 = none from firstAt_all _ _ (fun j _ hj => by
    show ((reachL (l ++ [(16, 0)])).getD j false && !rangedB qs.length y (l ++ [((16 : Int), (0 : Int))]).length (insAt (l ++ [(16, 0)]) j).1 (insAt (l ++ [(16, 0)]) j).2) = false
    cases hr : (reachL (l ++ [(16, 0)])).getD j false
    · rfl
    · have hj' : Reach l j := (g.reach [(16, 0)]).1 ((hM.2 j (by simpa using hj)).1 hr)
      rw [insAt_app (hj'.lt hl), ranged_wide (g.ranged j hj') (by omega) (by simp)]; rfl)]
  simp only []
  have hoe : openEnd (x, y, l ++ [((16 : Int), (0 : Int))]) = false := by
    show ((reachL (l ++ [(16, 0)])).getD ((l ++ [((16 : Int), (0 : Int))]).length - 1) false && _) = false
    rw [show (l ++ [((16 : Int), (0 : Int))]).length - 1 = l.length by simp]
    have : (reachL (l ++ [(16, 0)])).getD l.length false = false := by
      cases hr : (reachL (l ++ [(16, 0)])).getD l.length false
      · rfl
      · have hj' : Reach l l.length := (g.reach [(16, 0)]).1 ((hM.2 l.length (by simp)).1 hr)
        have := hj'.lt hl
        omega
    rw [this, Bool.false_and]
  rw [hoe]
  simp only [Bool.false_eq_true, if_false]
  have hs := negs_start l.length hl
  have e := walkF_app (m := [(16, 0)]) [-1] g sa l.length 1 ((List.replicate l.length (-1)).set 0 0) [0] (WInv.start hl) (by show _ + 1 ≤ _; omega) h0
  unfold walkV
  rw [← e]
  congr 1
  · simp
  · rw [List.length_append, List.length_singleton, List.replicate_succ', List.set_append_left _ _ (by simpa using hl)]

end Go.Proofs.YtbbfgdkjgolieabGreatDoor
