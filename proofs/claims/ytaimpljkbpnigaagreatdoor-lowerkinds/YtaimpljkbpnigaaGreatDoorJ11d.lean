/- One instruction, reckoned: what comes of a state. Nothing of the program is named here. Lower, reckoned: its steps, where jumps lead, the places put right one by one. Nothing of the program is named here. What Lower makes may be; its polls. Nothing of the program is named here. What stands where in what Lower makes. Nothing of the program is named here. What Lower makes is code that may be; what goes back has a poll ahead; as many polls as metas. Nothing of the program is named here. -/
import Derived.Test.YtaimpljkbpnigaaGreatDoorPlainFrame
import Derived.Test.YtaimpljkbpnigaaGreatDoorJ10g
namespace Go.Proofs.YtaimpljkbpnigaaGreatDoor
open Go.RowKit
set_option linter.unusedVariables false

def lastI (l : List Int) : Int := l.getLastD 0
def retV (fs : List Fr) (z fu : Int) (out : List Int) : St :=
  if fs = [] then ([], fu, out, 1, z) else (fs.dropLast ++ [((fs.getLastD noFr).1, (fs.getLastD noFr).2.1, (fs.getLastD noFr).2.2.1, (fs.getLastD noFr).2.2.2 ++ [z])], fu, out, 0, 0)
/-- What comes of the last frame's instruction (k, a); x, y, ll, sl: that frame; fs: those below. -/
def instrV (ps : List Fn) (fs : List Fr) (x y : Int) (ll sl : List Int) (fu : Int) (out : List Int) (k a : Int) : St :=
  if k = 0 then (fs ++ [(x, y + 1, ll, sl ++ [a])], fu, out, 0, 0)
  else if k = 1 then (fs ++ [(x, y + 1, ll, sl ++ [ll.getD a.toNat 0])], fu, out, 0, 0)
  else if k = 2 then (fs ++ [(x, y + 1, ll.set a.toNat (lastI sl), sl.dropLast)], fu, out, 0, 0)
  else if 3 ≤ k ∧ k ≤ 9 then
    (if trapB k (lastI sl.dropLast) (lastI sl) = true then ([], fu, out, 2, 0) else (fs ++ [(x, y + 1, ll, sl.dropLast.dropLast ++ [doV k (lastI sl.dropLast) (lastI sl)])], fu, out, 0, 0))
  else if k = 10 then (fs ++ [(x, y + 1, ll, sl.dropLast ++ [lastI sl] ++ [lastI sl])], fu, out, 0, 0)
  else if k = 11 then (fs ++ [(x, y + 1, ll, sl.dropLast)], fu, out, 0, 0)
  else if k = 12 then (fs ++ [(x, a, ll, sl)], fu, out, 0, 0)
  else if k = 13 then (fs ++ [(x, if lastI sl = 0 then a else y + 1, ll, sl.dropLast)], fu, out, 0, 0)
  else if k = 14 then
    (if fs.length + 1 = 12 then ([], fu, out, 3, 0) else
      (fs ++ [(x, y + 1, ll, sl.take (sl.length - (ps.getD a.toNat noFn).1.toNat))] ++ [(a, 0, freshL (ps.getD a.toNat noFn).2.1.toNat (sl.drop (sl.length - (ps.getD a.toNat noFn).1.toNat)), [])], fu, out, 0, 0))
  else if k = 15 then (fs ++ [(x, y + 1, ll, sl.dropLast)], fu, out ++ [lastI sl], 0, 0)
  else retV fs (lastI sl) fu out
def topI (ps : List Fn) (f : Fr) : Int × Int := insAt (ps.getD f.1.toNat noFn).2.2 f.2.1.toNat
def stepV (ps : List Fn) (s : St) : St :=
  if ¬ s.2.2.2.1 = 0 then s else if s.2.1 = 0 then ([], 0, s.2.2.1, 4, 0) else
    instrV ps s.1.dropLast (s.1.getLastD noFr).1 (s.1.getLastD noFr).2.1 (s.1.getLastD noFr).2.2.1 (s.1.getLastD noFr).2.2.2 (s.2.1 - 1) s.2.2.1 (topI ps (s.1.getLastD noFr)).1 (topI ps (s.1.getLastD noFr)).2
def stepS (ps : List Fn) (s : St) : St := if stateB ps s = true then stepV ps s else noSt
def stepE (ps : List Fn) (s : St) : Int := if stateB ps s = true then 0 else 700
theorem lastI_snoc (l : List Int) (z : Int) : lastI (l ++ [z]) = z := by simp [lastI]
theorem stepV_top {ps : List Fn} {fs : List Fr} {x y : Int} {ll sl out : List Int} {fu vl : Int} (h : ¬ fu = 0) : stepV ps (fs ++ [(x, y, ll, sl)], fu, out, 0, vl) = instrV ps fs x y ll sl (fu - 1) out (topI ps (x, y, ll, sl)).1 (topI ps (x, y, ll, sl)).2 := by
  unfold stepV
  simp [h]

theorem numsB_at {l : List Int} (h : numsB l = true) (i : Nat) (hi : i < l.length) : isNum (l.getD i 0) = true := by
  have := (List.all_eq_true.1 h) (l.getD i 0) (by rw [List.getD_eq_getElem?_getD, List.getElem?_eq_getElem hi]; exact List.getElem_mem _)
  exact this
theorem numsB_app (l k : List Int) : numsB (l ++ k) = (numsB l && numsB k) := by simp [numsB]
theorem numsB_take {l : List Int} (h : numsB l = true) (n : Nat) : numsB (l.take n) = true := List.all_eq_true.2 (fun x hx => List.all_eq_true.1 h x (List.mem_of_mem_take hx))
theorem numsB_drop {l : List Int} (h : numsB l = true) (n : Nat) : numsB (l.drop n) = true := List.all_eq_true.2 (fun x hx => List.all_eq_true.1 h x (List.mem_of_mem_drop hx))
theorem callsB_iff {ps : List Fn} {fs : List Fr} : callsB ps fs = true ↔ ∀ i, i < fs.length → callAt ps fs i = true := by
  unfold callsB
  constructor
  · intro h i hi
    have h0 : firstAt (fun i => !callAt ps fs i) fs.length 0 = none := by simpa using h
    have := firstAt_none _ _ h0 i (Nat.zero_le _) (by omega)
    simpa using this
  · intro h
    have key : ∀ k i, i + k ≤ fs.length → firstAt (fun i => !callAt ps fs i) k i = none := by
      intro k
      induction k with
      | zero => intro i _; rfl
      | succ k ih => intro i hi; rw [firstAt_step (by rw [h i (by omega)]; rfl)]; exact ih (i + 1) (by omega)
    rw [key fs.length 0 (by omega)]; rfl
/-- What is so of the last frame and its instruction. -/
structure Ok (ps : List Fn) (fs : List Fr) (x y : Int) (ll sl : List Int) (k a : Int) : Prop where
  ver : verV ps = 0
  fx : 0 ≤ x ∧ x < ps.length
  py : 0 ≤ y ∧ y < (ps.getD x.toNat noFn).2.2.length
  ins : insAt (ps.getD x.toNat noFn).2.2 y.toNat = (k, a)
  kind : 0 ≤ k ∧ k ≤ 16
  locs : (ll.length : Int) = (ps.getD x.toNat noFn).2.1 ∧ ll.length ≤ 8
  stk : (sl.length : Int) = heightV ps x y ∧ sl.length ≤ 8
  takes : takesV k (argsOf ps k a) ≤ sl.length
  loc : k = 1 ∨ k = 2 → 0 ≤ a ∧ a < ll.length
  jmp : k = 12 ∨ k = 13 → 0 ≤ a ∧ a < (ps.getD x.toNat noFn).2.2.length
  call : k = 14 → 0 ≤ a ∧ a < ps.length
  num : k = 0 → isNum a = true
  numl : numsB ll = true
  nums : numsB sl = true
  deep : fs.length + 1 ≤ 12
theorem WInv.high {ps : List Fn} {l : List (Int × Int)} {out : List Int} (h : WInv ps l out []) (hl : 0 < l.length) {i : Nat} (hr : Reach l i) : out.getD i 0 ≤ 8 := by
  refine (hr (fun i => i < l.length ∧ 0 ≤ out.getD i 0 ∧ out.getD i 0 ≤ 8) ⟨hl, by rw [h.first]; omega, by rw [h.first]; omega⟩ (fun p q hp hq => ?_)).2.2
  have hq' := nextL_in _ hq
  rcases h.gone p hp.1 hp.2.1 with h1 | h1
  · cases h1
  · exact ⟨by omega, by rw [h1.2.2 q hq]; exact goes_nonneg h1.1, by rw [h1.2.2 q hq]; exact h1.2.1⟩
/-- What a reached pc of a verified program is. -/
theorem at_reached {ps : List Fn} {x y : Int} (hv : verV ps = 0) (h : 0 ≤ heightV ps x y) : ∃ f q : Nat, x = f ∧ y = q ∧ f < ps.length ∧ q < (ps.getD f noFn).2.2.length ∧ heightV ps x y = (htsV ps x).1.getD q 0 ∧ WInv ps (ps.getD f noFn).2.2 (htsV ps x).1 [] ∧
    Gone ps (ps.getD f noFn).2.2 (htsV ps x).1 q ∧ Reach (ps.getD f noFn).2.2 q ∧ heightV ps x y ≤ 8 ∧
    rangedB ps.length (ps.getD f noFn).2.1 (ps.getD f noFn).2.2.length (insAt (ps.getD f noFn).2.2 q).1 (insAt (ps.getD f noFn).2.2 q).2 = true ∧ openEnd (ps.getD f noFn) = false := by
  obtain ⟨f, q, rfl, rfl, hf, hq, he, hq', hh⟩ := reached_in h
  obtain ⟨_, f', e, _, hw, _, hr, ho⟩ := hts_ok he
  have : f' = f := by omega
  subst this
  have h0 : 0 ≤ (htsV ps (f' : Int)).1.getD q 0 := by rw [← hh]; exact h
  have hR := hw.only q hq h0
  refine ⟨f', q, rfl, rfl, hf, hq, hh, hw, ?_, hR, by rw [hh]; exact hw.high (by omega) hR, hr q hR, ho⟩
  rcases hw.gone q hq h0 with h1 | h1
  · cases h1
  · exact h1
/-- The heights of those behind it. -/
theorem next_height {ps : List Fn} {x y : Int} {q' : Nat} (hv : verV ps = 0) (h : 0 ≤ heightV ps x y) (hn : (q' : Int) ∈ nextL (ps.getD x.toNat noFn).2.2 y.toNat) :
    heightV ps x q' = heightV ps x y - takesV (insAt (ps.getD x.toNat noFn).2.2 y.toNat).1 (argsOf ps (insAt (ps.getD x.toNat noFn).2.2 y.toNat).1 (insAt (ps.getD x.toNat noFn).2.2 y.toNat).2) + putsV (insAt (ps.getD x.toNat noFn).2.2 y.toNat).1 ∧ 0 ≤ heightV ps x q' := by
  obtain ⟨f, q, rfl, rfl, hf, hq, hh, hw, hg, hR, h8, hr, ho⟩ := at_reached hv h
  rw [Int.toNat_natCast, Int.toNat_natCast] at *
  have hin := nextL_in _ hn
  have he : (htsV ps (f : Int)).2.2 = 0 := ver_at hv hf
  have e1 : heightV ps (f : Int) (q' : Int) = (htsV ps (f : Int)).1.getD q' 0 := height_at he (by rw [hw.len]; omega)
  rw [e1, hg.2.2 q' hn, hh]
  exact ⟨rfl, goes_nonneg hg.1⟩
/-- Where it does not end, there is a next one. -/
theorem next_in {ps : List Fn} {x y : Int} (hv : verV ps = 0) (h : 0 ≤ heightV ps x y) :
    (¬ (insAt (ps.getD x.toNat noFn).2.2 y.toNat).1 = 12 → ¬ (insAt (ps.getD x.toNat noFn).2.2 y.toNat).1 = 16 → ((y.toNat + 1 : Nat) : Int) ∈ nextL (ps.getD x.toNat noFn).2.2 y.toNat) ∧
    ((insAt (ps.getD x.toNat noFn).2.2 y.toNat).1 = 12 ∨ (insAt (ps.getD x.toNat noFn).2.2 y.toNat).1 = 13 → 0 ≤ (insAt (ps.getD x.toNat noFn).2.2 y.toNat).2 → (insAt (ps.getD x.toNat noFn).2.2 y.toNat).2 ∈ nextL (ps.getD x.toNat noFn).2.2 y.toNat) := by
  obtain ⟨f, q, rfl, rfl, hf, hq, hh, hw, hg, hR, h8, hr, ho⟩ := at_reached hv h
  rw [Int.toNat_natCast, Int.toNat_natCast] at *
  generalize ps.getD f noFn = F at *
  obtain ⟨fa, fl, l⟩ := F
  simp only at *
  have hkk : l.getD q (0, 0) = insAt l q := rfl
  constructor
  · intro h12 h16
    have hlt : q + 1 < l.length := by
      rcases Nat.lt_or_ge (q + 1) l.length with h1 | h1
      · exact h1
      · exfalso
        have hql : q = l.length - 1 := by omega
        unfold openEnd at ho
        simp only at ho
        rw [← hql, ((reachL_marked (by omega)).2 q hq).2 hR] at ho
        simp [h12, h16] at ho
    have h1 : ((q + 1 : Nat) : Int) ∈ fallL l.length q (insAt l q).1 := by
      rw [fallL_yes h12 h16, addN_yes (by simp [inB]; omega) (by simp [hasB])]; simp
    unfold nextL nextOf
    rw [hkk]
    split
    · unfold addN; split
      · exact List.mem_append_left _ h1
      · exact h1
    · exact h1
  · intro hj h0
    have hlt : (insAt l q).2 < l.length := by
      unfold rangedB at hr
      rw [if_neg (by omega), if_pos hj] at hr
      simpa using hr
    unfold nextL nextOf
    rw [hkk, if_pos (by simp [isBr]; exact hj)]
    unfold addN; split
    · simp
    · rename_i hc
      have hi : inB l.length (insAt l q).2 = true := by simp [inB]; omega
      cases hb : hasB (fallL l.length q (insAt l q).1) (insAt l q).2
      · exact absurd ⟨hi, hb⟩ hc
      · simpa [hasB] using hb
theorem ver_may {ps : List Fn} (hv : verV ps = 0) {f q : Nat} (hf : f < ps.length) (hq : q < (ps.getD f noFn).2.2.length) : mayB (insAt (ps.getD f noFn).2.2 q).1 (insAt (ps.getD f noFn).2.2 q).2 = true := by
  have h1 := fnB_of (ver_packs hv) hf rfl
  generalize ps.getD f noFn = F at h1 hq ⊢
  obtain ⟨a, b, l⟩ := F
  exact mayB_of h1 hq rfl
theorem state_parts {ps : List Fn} {s : St} (h : stateB ps s = true) : verV ps = 0 ∧ fuelB s.2.1 s.2.2.1.length = true ∧ numsB s.2.2.1 = true ∧ outB s.2.2.2.1 s.2.2.2.2 s.1.length = true ∧ ∀ i, i < s.1.length → callAt ps s.1 i = true := by
  unfold stateB at h
  simp only [Bool.and_eq_true, decide_eq_true_eq] at h
  exact ⟨h.2.2.2.1, h.1, h.2.1, h.2.2.1, callsB_iff.1 h.2.2.2.2⟩
theorem frParts {ps : List Fn} {less : Int} {f : Fr} (h : frB ps less f = true) : 0 ≤ heightV ps f.1 f.2.1 ∧ (f.2.2.1.length : Int) = (ps.getD f.1.toNat noFn).2.1 ∧ (f.2.2.2.length : Int) = heightV ps f.1 f.2.1 - less ∧ numsB f.2.2.1 = true ∧ numsB f.2.2.2 = true := by
  unfold frB reachedB lenB at h
  simp only [Bool.and_eq_true, decide_eq_true_eq] at h
  exact h
theorem frB_of {ps : List Fn} {less x y : Int} {ll sl : List Int} (h : 0 ≤ heightV ps x y) (h1 : (ll.length : Int) = (ps.getD x.toNat noFn).2.1) (h2 : (sl.length : Int) = heightV ps x y - less) (h3 : numsB ll = true) (h4 : numsB sl = true) : frB ps less (x, y, ll, sl) = true := by
  unfold frB reachedB lenB
  simp only [Bool.and_eq_true, decide_eq_true_eq]
  exact ⟨h, h1, h2, h3, h4⟩
/-- A state that may be and is not done: its last frame. -/
theorem ok_of {ps : List Fn} {s : St} (h : stateB ps s = true) (hd : s.2.2.2.1 = 0) : ∃ fs x y ll sl, s.1 = fs ++ [(x, y, ll, sl)] ∧ s.2.2.2.2 = 0 ∧ Ok ps fs x y ll sl (topI ps (x, y, ll, sl)).1 (topI ps (x, y, ll, sl)).2 := by
  obtain ⟨hv, hf, hn, ho, hc⟩ := state_parts h
  unfold outB at ho
  rw [if_pos hd] at ho
  simp at ho
  obtain ⟨fs, p, e⟩ : ∃ fs p, s.1 = fs ++ [p] := by
    rcases List.eq_nil_or_concat s.1 with h0 | ⟨a, b, h0⟩
    · rw [h0] at ho; simp at ho
    · exact ⟨a, b, by simpa using h0⟩
  obtain ⟨x, y, ll, sl⟩ := p
  refine ⟨fs, x, y, ll, sl, e, ho.1, ?_⟩
  have h1 := hc fs.length (by rw [e]; simp)
  unfold callAt at h1
  rw [e, if_pos (by simp), getD_snoc_eq _ _ _ _ rfl] at h1
  obtain ⟨k1, k2, k3, k4, k5⟩ := frParts h1
  simp only [] at k1 k2 k3 k4 k5
  obtain ⟨f, q, rfl, rfl, hf', hq, hh, hw, hg, hR, h8, hr, hoe⟩ := at_reached hv k1
  have hm := ver_may hv hf' hq
  have hk := may_kind hm
  have hfn := ver_fn hv hf' (x := (ps.getD f noFn).1) (y := (ps.getD f noFn).2.1) (l := (ps.getD f noFn).2.2) rfl
  have htk := hg.1
  unfold takesAt at htk
  have e0 : topI ps ((f : Int), (q : Int), ll, sl) = insAt (ps.getD f noFn).2.2 q := rfl
  rw [e0]
  simp only [Int.toNat_natCast] at k2
  have hlen : (fs ++ [((f : Int), (q : Int), ll, sl)]).length ≤ 12 := by rw [← e]; omega
  simp at hlen
  refine ⟨hv, ⟨by omega, by omega⟩, by simp only [Int.toNat_natCast]; omega, rfl, hk, by simp only [Int.toNat_natCast]; omega, by omega, by omega, fun h1 => ?_, fun h1 => ?_, fun h1 => ?_, fun h1 => ?_, k4, k5, by omega⟩
  · unfold rangedB at hr
    rw [if_pos h1] at hr
    have hm2 : belowB (insAt (ps.getD f noFn).2.2 q).2 8 = true := by rcases h1 with h1 | h1 <;> (rw [h1] at hm; exact hm)
    have hm3 := of_decide_eq_true hm2
    have hr3 := of_decide_eq_true hr
    omega
  · unfold rangedB at hr
    rw [if_neg (by omega), if_pos h1] at hr
    have hm2 : belowB (insAt (ps.getD f noFn).2.2 q).2 64 = true := by rcases h1 with h1 | h1 <;> (rw [h1] at hm; exact hm)
    have hm3 := of_decide_eq_true hm2
    have hr3 := of_decide_eq_true hr
    simp only [Int.toNat_natCast]
    omega
  · unfold rangedB at hr
    rw [if_neg (by omega), if_neg (by omega), if_pos h1] at hr
    rw [h1] at hm
    have hm2 : belowB (insAt (ps.getD f noFn).2.2 q).2 8 = true := hm
    have hm3 := of_decide_eq_true hm2
    have hr3 := of_decide_eq_true hr
    omega
  · rw [h1] at hm
    exact hm

end Go.Proofs.YtaimpljkbpnigaaGreatDoor

namespace Go.Proofs.YtaimpljkbpnigaaGreatDoor
open Go.RowKit
set_option linter.unusedVariables false

theorem lowN_gone {ps : List Fn} {fn : Nat} {f : Fn} {q : Nat} (h : heightV ps (fn : Int) (q : Int) < 0) : lowN ps fn f (q + 1) = ((lowN ps fn f q).1, (lowN ps fn f q).2.1, (lowN ps fn f q).2.2 ++ [((lowN ps fn f q).1.length : Int)]) := by
  rw [lowN, lowStep, if_pos h]
theorem lowN_back {ps : List Fn} {fn : Nat} {gx gy : Int} {fl : List (Int × Int)} {q : Nat} {x : Int × Int} (h : ¬ heightV ps (fn : Int) (q : Int) < 0) (hx : fl[q]? = some x) (hb : backB (q : Int) x = true) : lowN ps fn (gx, gy, fl) (q + 1) =
    ((lowN ps fn (gx, gy, fl) q).1 ++ [(10, 0, 0, 0, 0, [], 0, ((lowN ps fn (gx, gy, fl) q).2.1.length : Int), (q : Int))] ++ [oneV ps (gy + heightV ps (fn : Int) (q : Int)) (q : Int) x], (lowN ps fn (gx, gy, fl) q).2.1 ++ [[plainV ps (fn : Int) (q : Int) 0 0]], (lowN ps fn (gx, gy, fl) q).2.2 ++ [((lowN ps fn (gx, gy, fl) q).1.length : Int)]) := by
  have e : insAt fl q = x := by unfold insAt; rw [List.getD_eq_getElem?_getD, hx]; rfl
  rw [lowN, lowStep, if_neg h]
  simp only [e, hb, if_true, List.append_assoc, List.cons_append, List.nil_append]
theorem lowN_on {ps : List Fn} {fn : Nat} {gx gy : Int} {fl : List (Int × Int)} {q : Nat} {x : Int × Int} (h : ¬ heightV ps (fn : Int) (q : Int) < 0) (hx : fl[q]? = some x) (hb : backB (q : Int) x = false) : lowN ps fn (gx, gy, fl) (q + 1) =
    ((lowN ps fn (gx, gy, fl) q).1 ++ [oneV ps (gy + heightV ps (fn : Int) (q : Int)) (q : Int) x], (lowN ps fn (gx, gy, fl) q).2.1, (lowN ps fn (gx, gy, fl) q).2.2 ++ [((lowN ps fn (gx, gy, fl) q).1.length : Int)]) := by
  have e : insAt fl q = x := by unfold insAt; rw [List.getD_eq_getElem?_getD, hx]; rfl
  rw [lowN, lowStep, if_neg h]
  simp only [e, hb, Bool.false_eq_true, if_false]
/-- A call's callee is there; a jump leads to a pc. -/
theorem ins_in {ps : List Fn} (hv : verV ps = 0) {f q : Nat} (hh : 0 ≤ heightV ps (f : Int) (q : Int)) {gx gy : Int} {fl : List (Int × Int)} (e3 : ps.getD f noFn = (gx, gy, fl)) {K A : Int} (hx : fl[q]? = some (K, A)) :
    (K = 14 → ∃ aN : Nat, A = aN ∧ aN < ps.length ∧ 0 ≤ (ps.getD aN noFn).1 ∧ (ps.getD aN noFn).1 ≤ 4) ∧ (K = 12 ∨ K = 13 → 0 ≤ A ∧ A < fl.length) := by
  obtain ⟨f', q', hf', hq', hf, hq, _, _, _, _, _, hr, _⟩ := at_reached hv hh
  obtain rfl : f = f' := by omega
  obtain rfl : q = q' := by omega
  have hm := ver_may hv hf hq
  rw [e3] at hq hr hm
  have e : insAt fl q = (K, A) := by unfold insAt; rw [List.getD_eq_getElem?_getD, hx]; rfl
  simp only [e] at hr hm
  refine ⟨fun hk => ?_, fun hk => ?_⟩
  · subst hk
    have h1 : A < ps.length := by simpa [rangedB] using hr
    have h2 : 0 ≤ A := by
      have h3 : belowB A 8 = true := hm
      unfold belowB at h3
      simp at h3
      omega
    obtain ⟨aN, rfl⟩ : ∃ aN : Nat, A = aN := ⟨A.toNat, by omega⟩
    have ha : aN < ps.length := by omega
    obtain ⟨⟨kx, ky, kl⟩, e4⟩ : ∃ x, ps.getD aN noFn = x := ⟨_, rfl⟩
    have hb := ver_fn hv ha e4
    exact ⟨aN, rfl, ha, by rw [e4]; exact hb.1, by rw [e4]; exact hb.2.1⟩
  · have h1 : A < fl.length := by
      unfold rangedB at hr
      rw [if_neg (by omega), if_pos hk] at hr
      simpa using hr
    have h2 : 0 ≤ A := by
      have h3 : belowB A 64 = true := by rcases hk with rfl | rfl <;> exact hm
      unfold belowB at h3
      simp at h3
      omega
    exact ⟨h2, h1⟩
/-- What becomes a jump or a zero. -/
theorem one_jump {ps : List Fn} {T pc : Int} {K A : Int} (h : (oneV ps T pc (K, A)).1 = 4 ∨ (oneV ps T pc (K, A)).1 = 5) : (K = 12 ∨ K = 13) ∧ (oneV ps T pc (K, A)).2.2.2.2.1 = A := by
  by_cases h12 : K = 12
  · subst h12; exact ⟨.inl rfl, rfl⟩
  by_cases h13 : K = 13
  · subst h13; exact ⟨.inr rfl, rfl⟩
  exfalso
  unfold oneV at h
  simp only [h12, h13, if_false] at h
  revert h
  repeat' split
  all_goals simp
theorem low_kinds {ps : List Fn} (hv : verV ps = 0) {f : Nat} {gx gy : Int} {fl : List (Int × Int)} (e3 : ps.getD f noFn = (gx, gy, fl)) : ∀ q, q ≤ fl.length → ∀ x ∈ (lowN ps f (gx, gy, fl) q).1, x.1 = 4 ∨ x.1 = 5 → 0 ≤ x.2.2.2.2.1 ∧ x.2.2.2.2.1 < fl.length
  | 0, _, x, hx, _ => by cases hx
  | q + 1, hq, x, hx, hk => by
    have ih := low_kinds hv e3 q (by omega)
    have hl : fl[q]? = some fl[q] := List.getElem?_eq_getElem (by omega)
    obtain ⟨⟨K, A⟩, hKA⟩ : ∃ y, fl[q] = y := ⟨_, rfl⟩
    rw [hKA] at hl
    by_cases h : heightV ps (f : Int) (q : Int) < 0
    · rw [lowN_gone h] at hx
      exact ih x hx hk
    · have hone : x = oneV ps (gy + heightV ps (f : Int) (q : Int)) (q : Int) (K, A) → 0 ≤ x.2.2.2.2.1 ∧ x.2.2.2.2.1 < fl.length := by
        intro e
        subst e
        obtain ⟨h1, h2⟩ := one_jump hk
        rw [h2]
        exact (ins_in hv (by omega) e3 hl).2 h1
      by_cases hb : backB (q : Int) (K, A) = true
      · rw [lowN_back h hl hb] at hx
        simp only [List.mem_append, List.mem_singleton] at hx
        rcases hx with (hx | hx) | hx
        · exact ih x hx hk
        · subst hx; simp at hk
        · exact hone hx
      · rw [lowN_on h hl (by simpa using hb)] at hx
        simp only [List.mem_append, List.mem_singleton] at hx
        rcases hx with hx | hx
        · exact ih x hx hk
        · exact hone hx
/-- The places put right up to j. -/
def mixP (pl : List Int) (l : List IrT) (j : Nat) : List IrT := (l.take j).map (toPlace pl) ++ l.drop j
theorem mixP_zero (pl : List Int) (l : List IrT) : mixP pl l 0 = l := by simp [mixP]
theorem mixP_all (pl : List Int) (l : List IrT) : mixP pl l l.length = l.map (toPlace pl) := by simp [mixP]
theorem mixP_len (pl : List Int) (l : List IrT) (j : Nat) : (mixP pl l j).length = l.length := by simp [mixP]; omega
theorem mixP_at {pl : List Int} {l : List IrT} {j : Nat} {x : IrT} (h : l[j]? = some x) : (mixP pl l j)[j]? = some x := by
  have hj := (List.getElem?_eq_some_iff.1 h).1
  unfold mixP
  rw [List.getElem?_append_right (by simp; omega)]
  simp only [List.length_map, List.length_take, Nat.min_eq_left (Nat.le_of_lt hj), Nat.sub_self, List.getElem?_drop, Nat.add_zero]
  exact h
theorem mixP_succ {pl : List Int} {l : List IrT} {j : Nat} {x : IrT} (h : l[j]? = some x) : mixP pl l (j + 1) = (mixP pl l j).set j (toPlace pl x) := by
  have hj := (List.getElem?_eq_some_iff.1 h).1
  have hx := (List.getElem?_eq_some_iff.1 h).2
  unfold mixP
  rw [List.set_append_right _ _ (by simp; omega)]
  simp only [List.length_map, List.length_take, Nat.min_eq_left (Nat.le_of_lt hj), Nat.sub_self]
  rw [List.drop_eq_getElem_cons hj, List.take_add_one, h, hx]
  simp
theorem mixP_stay {pl : List Int} {l : List IrT} {j : Nat} {x : IrT} (h : l[j]? = some x) (hx : ¬ (x.1 = 4 ∨ x.1 = 5)) : mixP pl l (j + 1) = mixP pl l j := by
  rw [mixP_succ h]
  have : toPlace pl x = x := if_neg hx
  rw [this]
  have hj := (List.getElem?_eq_some_iff.1 (mixP_at (pl := pl) h)).1
  have hx' := (List.getElem?_eq_some_iff.1 (mixP_at (pl := pl) h)).2
  have hs := List.set_getElem_self hj
  rw [hx'] at hs
  exact hs

end Go.Proofs.YtaimpljkbpnigaaGreatDoor

namespace Go.Proofs.YtaimpljkbpnigaaGreatDoor
open Go.RowKit
set_option linter.unusedVariables false

/-- What is so of a reached instruction. -/
structure InsOk (ps : List Fn) (f q : Nat) (gy : Int) (fl : List (Int × Int)) (K A H : Int) : Prop where
  hq : q < fl.length ∧ fl.length ≤ 64
  hg : 0 ≤ gy ∧ gy ≤ 8
  kind : 0 ≤ K ∧ K ≤ 16
  ht : 0 ≤ H ∧ H ≤ 8
  takes : takesV K (argsOf ps K A) ≤ H
  goes : H - takesV K (argsOf ps K A) + putsV K ≤ 8
  loc : K = 1 ∨ K = 2 → 0 ≤ A ∧ A < gy
  jmp : K = 12 ∨ K = 13 → 0 ≤ A ∧ A < fl.length
  call : K = 14 → 0 ≤ A ∧ A < ps.length ∧ 0 ≤ (ps.getD A.toNat noFn).1 ∧ (ps.getD A.toNat noFn).1 ≤ 4
  num : K = 0 → isNum A = true
  op : 3 ≤ K ∧ K ≤ 16 ∧ ¬ K = 12 ∧ ¬ K = 13 ∧ ¬ K = 14 → A = 0
variable {ps : List Fn} {f : Nat} {gx gy : Int} {fl : List (Int × Int)}
theorem ins_ok (hv : verV ps = 0) {q : Nat} (hh : 0 ≤ heightV ps (f : Int) (q : Int)) (e3 : ps.getD f noFn = (gx, gy, fl)) {K A : Int} (hx : fl[q]? = some (K, A)) : InsOk ps f q gy fl K A (heightV ps (f : Int) (q : Int)) := by
  obtain ⟨hcall, hjmp⟩ := ins_in hv hh e3 hx
  obtain ⟨f', q', hf', hq', hf, hq, he, hw, hg, hR, h8, hr, ho⟩ := at_reached hv hh
  obtain rfl : f = f' := by omega
  obtain rfl : q = q' := by omega
  have hm := ver_may hv hf hq
  have hb := ver_fn hv hf e3
  rw [e3] at hq hr hm hg
  have e : insAt fl q = (K, A) := by unfold insAt; rw [List.getD_eq_getElem?_getD, hx]; rfl
  simp only [e] at hr hm
  obtain ⟨g1, g2, -⟩ := hg
  unfold goesTo at g2
  unfold takesAt at g1 g2
  simp only [e] at g1 g2
  rw [← he] at g1 g2
  have hk := may_kind hm
  refine ⟨⟨hq, hb.2.2.2.2.2⟩, ⟨by omega, hb.2.2.2.1⟩, hk, ⟨hh, h8⟩, g1, g2, fun h => ?_, hjmp, fun h => ?_, fun h => ?_, fun h => ?_⟩
  · have h1 : A < gy := by
      unfold rangedB at hr
      rw [if_pos h] at hr
      simpa using hr
    have h2 : belowB A 8 = true := by rcases h with rfl | rfl <;> exact hm
    unfold belowB at h2
    simp at h2
    exact ⟨by omega, h1⟩
  · obtain ⟨aN, rfl, ha, h0, h4⟩ := hcall h
    exact ⟨by omega, by omega, by simpa using h0, by simpa using h4⟩
  · subst h; exact hm
  · unfold mayB at hm
    rw [if_neg (by omega), if_neg (by omega), if_neg (by omega), if_neg (by omega)] at hm
    exact (of_decide_eq_true hm).2.2
/-- The height at the start. -/
theorem height_zero (hv : verV ps = 0) (hf : f < ps.length) (e3 : ps.getD f noFn = (gx, gy, fl)) : heightV ps (f : Int) (0 : Int) = 0 := by
  have he := ver_at hv hf
  obtain ⟨_, f', e, _, hw, _⟩ := hts_ok he
  have : f' = f := by omega
  subst this
  have hb := ver_fn hv hf e3
  have hl : (htsV ps (f' : Int)).1.length = fl.length := by rw [hw.len, e3]
  have h := height_at (ps := ps) (fn := (f' : Int)) (pc := 0) he (by omega)
  rw [hw.first] at h
  exact h
/-- A register. -/
theorem reg_ok {g x : Int} (h0 : 0 ≤ x) (h1 : x < g) : regB g x = true := decide_eq_true ⟨h0, h1⟩
/-- What an instruction becomes may be, its place put right. -/
theorem one_may {q : Nat} {K A H : Int} (h : InsOk ps f q gy fl K A H) (pl : List Int) (n m at_ : Nat) (hp : K = 12 ∨ K = 13 → 0 ≤ pl.getD A.toNat 0 ∧ pl.getD A.toNat 0 < n) : irB ps (gy + 8) n m at_ (toPlace pl (oneV ps (gy + H) (q : Int) (K, A))) = true := by
  obtain ⟨hq, hg, hk, ht, tk, gs, loc, jmp, call, num, op⟩ := h
  have hI : headI 1 (q : Int) = true := decide_eq_true (by omega)
  have hcases : K = 0 ∨ K = 1 ∨ K = 2 ∨ (3 ≤ K ∧ K ≤ 9) ∨ K = 10 ∨ K = 11 ∨ K = 12 ∨ K = 13 ∨ K = 14 ∨ K = 15 ∨ K = 16 := by omega
  rcases hcases with rfl | rfl | rfl | h39 | rfl | rfl | rfl | rfl | rfl | rfl | rfl
  · have e : toPlace pl (oneV ps (gy + H) (q : Int) (0, A)) = (1, gy + H, 0, 0, A, [], 1, 0, (q : Int)) := rfl
    rw [e]
    show (headI 1 (q : Int) && ((regB (gy + 8) (gy + H) && isNum A) && decide ((gy + H, (0 : Int), (0 : Int), A, ([] : List Int), (0 : Int)) = (gy + H, 0, 0, A, [], 0)))) = true
    rw [hI, num rfl, reg_ok (by omega) (by simp [takesV, putsV] at gs; omega)]; simp
  · have e : toPlace pl (oneV ps (gy + H) (q : Int) (1, A)) = (2, gy + H, A, 0, 0, [], 1, 0, (q : Int)) := rfl
    rw [e]
    obtain ⟨l0, l1⟩ := loc (.inl rfl)
    show (headI 1 (q : Int) && ((regB (gy + 8) (gy + H) && regB (gy + 8) A) && decide ((gy + H, A, (0 : Int), (0 : Int), ([] : List Int), (0 : Int)) = (gy + H, A, 0, 0, [], 0)))) = true
    rw [hI, reg_ok (x := gy + H) (by omega) (by simp [takesV, putsV] at gs; omega), reg_ok (x := A) l0 (by omega)]; simp
  · have e : toPlace pl (oneV ps (gy + H) (q : Int) (2, A)) = (2, A, gy + H - 1, 0, 0, [], 1, 0, (q : Int)) := rfl
    rw [e]
    obtain ⟨l0, l1⟩ := loc (.inr rfl)
    show (headI 1 (q : Int) && ((regB (gy + 8) A && regB (gy + 8) (gy + H - 1)) && decide ((A, gy + H - 1, (0 : Int), (0 : Int), ([] : List Int), (0 : Int)) = (A, gy + H - 1, 0, 0, [], 0)))) = true
    rw [hI, reg_ok (x := A) l0 (by omega), reg_ok (x := gy + H - 1) (by simp [takesV] at tk; omega) (by omega)]; simp
  · have e0 : oneV ps (gy + H) (q : Int) (K, A) = (3, gy + H - 2, gy + H - 2, gy + H - 1, K, [], 1, 0, (q : Int)) := by
      unfold oneV
      simp only []
      repeat (rw [if_neg (by omega)])
    have e : toPlace pl (oneV ps (gy + H) (q : Int) (K, A)) = (3, gy + H - 2, gy + H - 2, gy + H - 1, K, [], 1, 0, (q : Int)) := by rw [e0]; rfl
    rw [e]
    have ht2 : takesV K (argsOf ps K A) = 2 := by unfold takesV; rw [if_neg (by omega), if_neg (by omega), if_pos h39]
    rw [ht2] at tk
    show (headI 1 (q : Int) && ((regB (gy + 8) (gy + H - 2) && (regB (gy + 8) (gy + H - 2) && (regB (gy + 8) (gy + H - 1) && decide (3 ≤ K ∧ K ≤ 9)))) && decide ((gy + H - 2, gy + H - 2, gy + H - 1, K, ([] : List Int), (0 : Int)) = (gy + H - 2, gy + H - 2, gy + H - 1, K, [], 0)))) = true
    rw [hI, reg_ok (x := gy + H - 2) (by omega) (by omega), reg_ok (x := gy + H - 1) (by omega) (by omega), decide_eq_true h39]; simp
  · have e : toPlace pl (oneV ps (gy + H) (q : Int) (10, A)) = (2, gy + H, gy + H - 1, 0, 0, [], 1, 0, (q : Int)) := rfl
    rw [e]
    show (headI 1 (q : Int) && ((regB (gy + 8) (gy + H) && regB (gy + 8) (gy + H - 1)) && decide ((gy + H, gy + H - 1, (0 : Int), (0 : Int), ([] : List Int), (0 : Int)) = (gy + H, gy + H - 1, 0, 0, [], 0)))) = true
    rw [hI, reg_ok (x := gy + H) (by omega) (by simp [takesV, putsV] at gs; omega), reg_ok (x := gy + H - 1) (by simp [takesV] at tk; omega) (by omega)]; simp
  · have e : toPlace pl (oneV ps (gy + H) (q : Int) (11, A)) = (0, 0, 0, 0, 0, [], 1, 0, (q : Int)) := rfl
    rw [e]
    show (headI 1 (q : Int) && (true && decide (((0 : Int), (0 : Int), (0 : Int), (0 : Int), ([] : List Int), (0 : Int)) = (0, 0, 0, 0, [], 0)))) = true
    rw [hI]; simp
  · have e : toPlace pl (oneV ps (gy + H) (q : Int) (12, A)) = (4, 0, 0, 0, pl.getD A.toNat 0, [], 1, 0, (q : Int)) := rfl
    rw [e]
    obtain ⟨p0, p1⟩ := hp (.inl rfl)
    show (headI 1 (q : Int) && (placeOk n at_ (pl.getD A.toNat 0) 1 && decide (((0 : Int), (0 : Int), (0 : Int), pl.getD A.toNat 0, ([] : List Int), (0 : Int)) = (0, 0, 0, pl.getD A.toNat 0, [], 0)))) = true
    rw [hI, show placeOk n at_ (pl.getD A.toNat 0) 1 = true from decide_eq_true ⟨p0, p1, .inr (by omega)⟩]; simp
  · have e : toPlace pl (oneV ps (gy + H) (q : Int) (13, A)) = (5, 0, gy + H - 1, 0, pl.getD A.toNat 0, [], 1, 0, (q : Int)) := rfl
    rw [e]
    obtain ⟨p0, p1⟩ := hp (.inr rfl)
    show (headI 1 (q : Int) && ((regB (gy + 8) (gy + H - 1) && placeOk n at_ (pl.getD A.toNat 0) 1) && decide (((0 : Int), gy + H - 1, (0 : Int), pl.getD A.toNat 0, ([] : List Int), (0 : Int)) = (0, gy + H - 1, 0, pl.getD A.toNat 0, [], 0)))) = true
    rw [hI, show placeOk n at_ (pl.getD A.toNat 0) 1 = true from decide_eq_true ⟨p0, p1, .inr (by omega)⟩, reg_ok (x := gy + H - 1) (by simp [takesV] at tk; omega) (by omega)]; simp
  · obtain ⟨a0, a1, k0, k4⟩ := call rfl
    have ht : takesV 14 (argsOf ps 14 A) = (ps.getD A.toNat noFn).1 := rfl
    have hpu : putsV 14 = 1 := rfl
    rw [ht] at tk gs
    rw [hpu] at gs
    generalize hkx : (ps.getD A.toNat noFn).1 = kx at *
    have e : toPlace pl (oneV ps (gy + H) (q : Int) (14, A)) = (6, gy + H - kx, 0, 0, A, (List.range kx.toNat).map (fun i : Nat => gy + H - kx + (i : Int)), 1, 0, (q : Int)) := by rw [← hkx]; rfl
    rw [e]
    show (headI 1 (q : Int) && ((regB (gy + 8) (gy + H - kx) && (inB ps.length A && (decide ((0 : Int) < 1) && (decide ((((List.range kx.toNat).map (fun i : Nat => gy + H - kx + (i : Int))).length : Int) = (ps.getD A.toNat noFn).1) && ((List.range kx.toNat).map (fun i : Nat => gy + H - kx + (i : Int))).all (regB (gy + 8)))))) && decide ((gy + H - kx, (0 : Int), (0 : Int), A, (List.range kx.toNat).map (fun i : Nat => gy + H - kx + (i : Int)), (0 : Int)) = (gy + H - kx, 0, 0, A, (List.range kx.toNat).map (fun i : Nat => gy + H - kx + (i : Int)), 0)))) = true
    have hall : ((List.range kx.toNat).map (fun i : Nat => gy + H - kx + (i : Int))).all (regB (gy + 8)) = true := by
      rw [List.all_eq_true]
      intro x hx
      obtain ⟨i, hi, rfl⟩ := List.mem_map.1 hx
      have hi' := List.mem_range.1 hi
      exact reg_ok (by omega) (by omega)
    rw [hI, reg_ok (x := gy + H - kx) (by omega) (by omega), show inB ps.length A = true from decide_eq_true ⟨a0, a1⟩, hall, hkx]
    simp
    omega
  · have e : toPlace pl (oneV ps (gy + H) (q : Int) (15, A)) = (7, 0, gy + H - 1, 0, 0, [], 1, 0, (q : Int)) := rfl
    rw [e]
    show (headI 1 (q : Int) && ((regB (gy + 8) (gy + H - 1) && decide ((0 : Int) < 1)) && decide (((0 : Int), gy + H - 1, (0 : Int), (0 : Int), ([] : List Int), (0 : Int)) = (0, gy + H - 1, 0, 0, [], 0)))) = true
    rw [hI, reg_ok (x := gy + H - 1) (by simp [takesV] at tk; omega) (by omega)]; simp
  · have e : toPlace pl (oneV ps (gy + H) (q : Int) (16, A)) = (8, 0, gy + H - 1, 0, 0, [], 1, 0, (q : Int)) := rfl
    rw [e]
    show (headI 1 (q : Int) && (regB (gy + 8) (gy + H - 1) && decide (((0 : Int), gy + H - 1, (0 : Int), (0 : Int), ([] : List Int), (0 : Int)) = (0, gy + H - 1, 0, 0, [], 0)))) = true
    rw [hI, reg_ok (x := gy + H - 1) (by simp [takesV] at tk; omega) (by omega)]; simp

end Go.Proofs.YtaimpljkbpnigaaGreatDoor

namespace Go.Proofs.YtaimpljkbpnigaaGreatDoor
open Go.RowKit
set_option linter.unusedVariables false
variable {ps : List Fn} {f : Nat} {gx gy : Int} {fl : List (Int × Int)}

def pollI (mt q : Int) : IrT := (10, 0, 0, 0, 0, [], 0, mt, q)
theorem one_no10 (T pc : Int) (x : Int × Int) : ¬ (oneV ps T pc x).1 = 10 ∧ (oneV ps T pc x).2.2.2.2.2.2.1 = 1 := by
  unfold oneV
  refine ⟨?_, ?_⟩ <;> (repeat' split) <;> simp
/-- The three ways of a step. -/
theorem low_step {q : Nat} (hq : q < fl.length) : ∃ K A : Int, fl[q]? = some (K, A) ∧
    ((heightV ps (f : Int) (q : Int) < 0 ∧ (lowN ps f (gx, gy, fl) (q + 1)).1 = (lowN ps f (gx, gy, fl) q).1 ∧ (lowN ps f (gx, gy, fl) (q + 1)).2.1 = (lowN ps f (gx, gy, fl) q).2.1 ∧ (lowN ps f (gx, gy, fl) (q + 1)).2.2 = (lowN ps f (gx, gy, fl) q).2.2 ++ [((lowN ps f (gx, gy, fl) q).1.length : Int)]) ∨
     (0 ≤ heightV ps (f : Int) (q : Int) ∧ backB (q : Int) (K, A) = true ∧ (lowN ps f (gx, gy, fl) (q + 1)).1 = (lowN ps f (gx, gy, fl) q).1 ++ [pollI ((lowN ps f (gx, gy, fl) q).2.1.length : Int) (q : Int)] ++ [oneV ps (gy + heightV ps (f : Int) (q : Int)) (q : Int) (K, A)] ∧ (lowN ps f (gx, gy, fl) (q + 1)).2.1 = (lowN ps f (gx, gy, fl) q).2.1 ++ [[plainV ps (f : Int) (q : Int) 0 0]] ∧ (lowN ps f (gx, gy, fl) (q + 1)).2.2 = (lowN ps f (gx, gy, fl) q).2.2 ++ [((lowN ps f (gx, gy, fl) q).1.length : Int)]) ∨
     (0 ≤ heightV ps (f : Int) (q : Int) ∧ backB (q : Int) (K, A) = false ∧ (lowN ps f (gx, gy, fl) (q + 1)).1 = (lowN ps f (gx, gy, fl) q).1 ++ [oneV ps (gy + heightV ps (f : Int) (q : Int)) (q : Int) (K, A)] ∧ (lowN ps f (gx, gy, fl) (q + 1)).2.1 = (lowN ps f (gx, gy, fl) q).2.1 ∧ (lowN ps f (gx, gy, fl) (q + 1)).2.2 = (lowN ps f (gx, gy, fl) q).2.2 ++ [((lowN ps f (gx, gy, fl) q).1.length : Int)])) := by
  have hl : fl[q]? = some fl[q] := List.getElem?_eq_getElem hq
  obtain ⟨⟨K, A⟩, hKA⟩ : ∃ y, fl[q] = y := ⟨_, rfl⟩
  rw [hKA] at hl
  refine ⟨K, A, hl, ?_⟩
  by_cases h : heightV ps (f : Int) (q : Int) < 0
  · exact .inl ⟨h, by rw [lowN_gone h], by rw [lowN_gone h], by rw [lowN_gone h]⟩
  · cases hb : backB (q : Int) (K, A)
    · exact .inr (.inr ⟨by omega, rfl, by rw [lowN_on h hl hb], by rw [lowN_on h hl hb], by rw [lowN_on h hl hb]⟩)
    · exact .inr (.inl ⟨by omega, rfl, by rw [lowN_back h hl hb]; rfl, by rw [lowN_back h hl hb], by rw [lowN_back h hl hb]⟩)
theorem low_grow {q : Nat} (hq : q < fl.length) : (lowN ps f (gx, gy, fl) q).1.length ≤ (lowN ps f (gx, gy, fl) (q + 1)).1.length ∧ (0 ≤ heightV ps (f : Int) (q : Int) → (lowN ps f (gx, gy, fl) q).1.length < (lowN ps f (gx, gy, fl) (q + 1)).1.length) ∧ (lowN ps f (gx, gy, fl) q).2.1.length ≤ (lowN ps f (gx, gy, fl) (q + 1)).2.1.length := by
  obtain ⟨K, A, hx, h | h | h⟩ := low_step (ps := ps) (f := f) (gx := gx) (gy := gy) hq
  · rw [h.2.1, h.2.2.1]; exact ⟨Nat.le_refl _, fun h0 => by omega, Nat.le_refl _⟩
  · rw [h.2.2.1, h.2.2.2.1]; simp
  · rw [h.2.2.1, h.2.2.2.1]; simp
theorem low_mono {i : Nat} : ∀ j, i ≤ j → j ≤ fl.length → (lowN ps f (gx, gy, fl) i).1.length ≤ (lowN ps f (gx, gy, fl) j).1.length ∧ (lowN ps f (gx, gy, fl) i).2.1.length ≤ (lowN ps f (gx, gy, fl) j).2.1.length
  | 0, hi, _ => by obtain rfl : i = 0 := by omega
                   exact ⟨Nat.le_refl _, Nat.le_refl _⟩
  | j + 1, hi, hj => by
    by_cases h : i = j + 1
    · subst h; exact ⟨Nat.le_refl _, Nat.le_refl _⟩
    · have h1 := low_mono (i := i) j (by omega) (by omega)
      have h2 := low_grow (ps := ps) (f := f) (gx := gx) (gy := gy) (q := j) (fl := fl) (by omega)
      omega
theorem low_place {i : Nat} : ∀ q, i < q → q ≤ fl.length → (lowN ps f (gx, gy, fl) q).2.2.getD i 0 = ((lowN ps f (gx, gy, fl) i).1.length : Int)
  | 0, hi, _ => by omega
  | q + 1, hi, hq => by
    have hl := low_places ps f (gx, gy, fl) q
    have e : (lowN ps f (gx, gy, fl) (q + 1)).2.2 = (lowN ps f (gx, gy, fl) q).2.2 ++ [((lowN ps f (gx, gy, fl) q).1.length : Int)] := by
      obtain ⟨K, A, hx, h | h | h⟩ := low_step (ps := ps) (f := f) (gx := gx) (gy := gy) (q := q) (fl := fl) (by omega)
      · exact h.2.2.2
      · exact h.2.2.2.2
      · exact h.2.2.2.2
    rw [e, List.getD_eq_getElem?_getD]
    by_cases h : i < q
    · rw [List.getElem?_append_left (by omega), ← List.getD_eq_getElem?_getD]
      exact low_place q h (by omega)
    · obtain rfl : i = q := by omega
      rw [List.getElem?_append_right (by omega), hl, Nat.sub_self]; rfl
/-- What stands at place j behind q steps. -/
def Stands (ps : List Fn) (f : Nat) (gx gy : Int) (fl : List (Int × Int)) (q j : Nat) (x : IrT) : Prop :=
  ∃ (i : Nat) (K A : Int), i < q ∧ 0 ≤ heightV ps (f : Int) (i : Int) ∧ fl[i]? = some (K, A) ∧ (lowN ps f (gx, gy, fl) i).1.length ≤ j ∧
    ((∃ mt : Nat, x = pollI (mt : Int) (i : Int) ∧ mt < (lowN ps f (gx, gy, fl) q).2.1.length ∧ j + 1 < (lowN ps f (gx, gy, fl) (i + 1)).1.length) ∨
     (x = oneV ps (gy + heightV ps (f : Int) (i : Int)) (i : Int) (K, A) ∧ j + 1 = (lowN ps f (gx, gy, fl) (i + 1)).1.length ∧ (backB (i : Int) (K, A) = true → 1 ≤ j ∧ ∃ mt : Int, (lowN ps f (gx, gy, fl) q).1[j - 1]? = some (pollI mt (i : Int)))))
theorem low_stands : ∀ q, q ≤ fl.length → ∀ j x, (lowN ps f (gx, gy, fl) q).1[j]? = some x → Stands ps f gx gy fl q j x
  | 0, _, j, x, h => by simp [lowN] at h
  | q + 1, hq, j, x, h => by
    have hg := low_grow (ps := ps) (f := f) (gx := gx) (gy := gy) (q := q) (fl := fl) (by omega)
    -- what stood ahead of the step
    have old : ∀ d, (lowN ps f (gx, gy, fl) (q + 1)).1 = (lowN ps f (gx, gy, fl) q).1 ++ d → (lowN ps f (gx, gy, fl) q).1[j]? = some x → Stands ps f gx gy fl (q + 1) j x := by
      intro d e ho
      have hj := (List.getElem?_eq_some_iff.1 ho).1
      obtain ⟨i, K, A, hi, hh, hx, hl, hc⟩ := low_stands q (by omega) j x ho
      refine ⟨i, K, A, by omega, hh, hx, hl, ?_⟩
      rcases hc with ⟨mt, h1, h2, h3⟩ | ⟨h1, h2, h3⟩
      · exact .inl ⟨mt, h1, by omega, h3⟩
      · refine .inr ⟨h1, h2, fun hb => ?_⟩
        obtain ⟨h4, mt, h5⟩ := h3 hb
        exact ⟨h4, mt, by rw [e, List.getElem?_append_left (by omega)]; exact h5⟩
    obtain ⟨K, A, hx, hs | hs | hs⟩ := low_step (ps := ps) (f := f) (gx := gx) (gy := gy) (q := q) (fl := fl) (by omega)
    · refine old [] (by rw [hs.2.1]; simp) ?_
      rw [hs.2.1] at h
      exact h
    · have e := hs.2.2.1
      rw [e] at h
      by_cases h1 : j < (lowN ps f (gx, gy, fl) q).1.length
      · refine old _ (by rw [e, List.append_assoc]) ?_
        rw [List.append_assoc, List.getElem?_append_left h1] at h
        exact h
      · have hlen : (lowN ps f (gx, gy, fl) (q + 1)).1.length = (lowN ps f (gx, gy, fl) q).1.length + 2 := by rw [e]; simp
        have hm : (lowN ps f (gx, gy, fl) (q + 1)).2.1.length = (lowN ps f (gx, gy, fl) q).2.1.length + 1 := by rw [hs.2.2.2.1]; simp
        by_cases h2 : j = (lowN ps f (gx, gy, fl) q).1.length
        · subst h2
          rw [List.append_assoc, List.getElem?_append_right (Nat.le_refl _), Nat.sub_self] at h
          have hx' : x = pollI ((lowN ps f (gx, gy, fl) q).2.1.length : Int) (q : Int) := (Option.some.inj h).symm
          exact ⟨q, K, A, by omega, hs.1, hx, Nat.le_refl _, .inl ⟨_, hx', by omega, by omega⟩⟩
        · have hj : j = (lowN ps f (gx, gy, fl) q).1.length + 1 := by
            have := (List.getElem?_eq_some_iff.1 h).1
            simp at this
            omega
          subst hj
          rw [List.getElem?_append_right (by simp)] at h
          simp only [List.length_append, List.length_cons, List.length_nil, Nat.sub_self] at h
          have hx' : x = oneV ps (gy + heightV ps (f : Int) (q : Int)) (q : Int) (K, A) := (Option.some.inj h).symm
          refine ⟨q, K, A, by omega, hs.1, hx, by omega, .inr ⟨hx', by omega, fun _ => ⟨by omega, ((lowN ps f (gx, gy, fl) q).2.1.length : Int), ?_⟩⟩⟩
          rw [e, Nat.add_sub_cancel, List.append_assoc, List.getElem?_append_right (Nat.le_refl _), Nat.sub_self]
          rfl
    · have e := hs.2.2.1
      rw [e] at h
      by_cases h1 : j < (lowN ps f (gx, gy, fl) q).1.length
      · refine old _ e ?_
        rw [List.getElem?_append_left h1] at h
        exact h
      · have hlen : (lowN ps f (gx, gy, fl) (q + 1)).1.length = (lowN ps f (gx, gy, fl) q).1.length + 1 := by rw [e]; simp
        have hj : j = (lowN ps f (gx, gy, fl) q).1.length := by
          have := (List.getElem?_eq_some_iff.1 h).1
          simp at this
          omega
        subst hj
        rw [List.getElem?_append_right (Nat.le_refl _), Nat.sub_self] at h
        have hx' : x = oneV ps (gy + heightV ps (f : Int) (q : Int)) (q : Int) (K, A) := (Option.some.inj h).symm
        exact ⟨q, K, A, by omega, hs.1, hx, Nat.le_refl _, .inr ⟨hx', by omega, fun hb => by rw [hs.2.1] at hb; cases hb⟩⟩
/-- As many polls as metas. -/
theorem low_count : ∀ q, q ≤ fl.length → (lowN ps f (gx, gy, fl) q).1.countP (fun x => decide (x.1 = 10)) = (lowN ps f (gx, gy, fl) q).2.1.length
  | 0, _ => rfl
  | q + 1, hq => by
    have ih := low_count q (by omega)
    have n10 : ∀ T pc x, ([oneV ps T pc x].countP (fun x => decide (x.1 = 10))) = 0 := fun T pc x => by
      rw [List.countP_cons, List.countP_nil]
      simp [(one_no10 (ps := ps) T pc x).1]
    obtain ⟨K, A, hx, h | h | h⟩ := low_step (ps := ps) (f := f) (gx := gx) (gy := gy) (q := q) (fl := fl) (by omega)
    · rw [h.2.1, h.2.2.1]; exact ih
    · rw [h.2.2.1, h.2.2.2.1, List.countP_append, List.countP_append, ih, n10]
      simp [pollI]
    · rw [h.2.2.1, h.2.2.2.1, List.countP_append, ih, n10]
      exact Nat.add_zero _
/-- Each meta is the plain part of a pc that goes back. -/
theorem low_metas : ∀ q, q ≤ fl.length → ∀ m ∈ (lowN ps f (gx, gy, fl) q).2.1, ∃ i : Nat, i < q ∧ 0 ≤ heightV ps (f : Int) (i : Int) ∧ m = [plainV ps (f : Int) (i : Int) 0 0]
  | 0, _, m, h => by simp [lowN] at h
  | q + 1, hq, m, hm => by
    obtain ⟨K, A, hx, h | h | h⟩ := low_step (ps := ps) (f := f) (gx := gx) (gy := gy) (q := q) (fl := fl) (by omega)
    · rw [h.2.2.1] at hm
      obtain ⟨i, h1, h2⟩ := low_metas q (by omega) m hm
      exact ⟨i, by omega, h2⟩
    · rw [h.2.2.2.1] at hm
      rcases List.mem_append.1 hm with hm | hm
      · obtain ⟨i, h1, h2⟩ := low_metas q (by omega) m hm
        exact ⟨i, by omega, h2⟩
      · exact ⟨q, by omega, h.1, by simpa using hm⟩
    · rw [h.2.2.2.1] at hm
      obtain ⟨i, h1, h2⟩ := low_metas q (by omega) m hm
      exact ⟨i, by omega, h2⟩

end Go.Proofs.YtaimpljkbpnigaaGreatDoor

namespace Go.Proofs.YtaimpljkbpnigaaGreatDoor
open Go.RowKit
set_option linter.unusedVariables false
variable {ps : List Fn} {f : Nat} {gx gy : Int} {fl : List (Int × Int)}

theorem lower_eq (hv : verV ps = 0) (hf : f < ps.length) (e3 : ps.getD f noFn = (gx, gy, fl)) : lowerV ps (f : Int) = ((f : Int), gy + 8, (lowN ps f (gx, gy, fl) fl.length).1.map (toPlace (lowN ps f (gx, gy, fl) fl.length).2.2), (lowN ps f (gx, gy, fl) fl.length).2.1) ∧ lowerE ps (f : Int) = 0 := by
  have h : lowOk ps (f : Int) = true := by
    unfold lowOk inB
    rw [Bool.and_eq_true, decide_eq_true_eq]
    exact ⟨hv, decide_eq_true ⟨by omega, by omega⟩⟩
  refine ⟨?_, if_pos h⟩
  unfold lowerV
  rw [if_pos h, Int.toNat_natCast, e3]
theorem place_kind (pl : List Int) (x : IrT) : (toPlace pl x).1 = x.1 ∧ (toPlace pl x).2.2.2.2.2.2.1 = x.2.2.2.2.2.2.1 := by
  unfold toPlace; split <;> exact ⟨rfl, rfl⟩
/-- Where a jump of a reached pc leads: a place of the code. -/
theorem jump_place (hv : verV ps = 0) (e3 : ps.getD f noFn = (gx, gy, fl)) {i : Nat} (hh : 0 ≤ heightV ps (f : Int) (i : Int)) {K A : Int} (hx : fl[i]? = some (K, A)) (hj : K = 12 ∨ K = 13) :
    ∃ a : Nat, A = a ∧ a < fl.length ∧ 0 ≤ heightV ps (f : Int) (a : Int) ∧ (lowN ps f (gx, gy, fl) fl.length).2.2.getD a 0 = ((lowN ps f (gx, gy, fl) a).1.length : Int) ∧ (lowN ps f (gx, gy, fl) a).1.length < (lowN ps f (gx, gy, fl) fl.length).1.length := by
  have hok := ins_ok hv hh e3 hx
  obtain ⟨a0, a1⟩ := hok.jmp hj
  obtain ⟨a, rfl⟩ : ∃ a : Nat, A = a := ⟨A.toNat, by omega⟩
  have ha : a < fl.length := by omega
  have e : insAt fl i = (K, (a : Int)) := by unfold insAt; rw [List.getD_eq_getElem?_getD, hx]; rfl
  have hn := (next_in hv hh).2
  have h1 := next_height (q' := a) hv hh
  rw [Int.toNat_natCast, Int.toNat_natCast, e3] at hn h1
  simp only [e] at hn h1
  have h2 := h1 (hn hj (by omega))
  have hg := (low_grow (ps := ps) (f := f) (gx := gx) (gy := gy) ha).2.1 h2.2
  have hm := (low_mono (ps := ps) (f := f) (gx := gx) (gy := gy) (fl := fl) (i := a + 1) fl.length (by omega) (Nat.le_refl _)).1
  exact ⟨a, rfl, ha, h2.2, low_place fl.length ha (Nat.le_refl _), by omega⟩
/-- Each place of the code: a poll, which costs nothing; or what costs one, and where it goes back, has a poll ahead. -/
theorem low_walk (hv : verV ps = 0) (e3 : ps.getD f noFn = (gx, gy, fl)) {j : Nat} {x : IrT} (h : (lowN ps f (gx, gy, fl) fl.length).1[j]? = some x) :
    (x.1 = 10 ∧ x.2.2.2.2.2.2.1 = 0) ∨ (¬ x.1 = 10 ∧ x.2.2.2.2.2.2.1 = 1 ∧ ((x.1 = 4 ∨ x.1 = 5) → (toPlace (lowN ps f (gx, gy, fl) fl.length).2.2 x).2.2.2.2.1 ≤ (j : Int) → 1 ≤ j ∧ ∃ y, (lowN ps f (gx, gy, fl) fl.length).1[j - 1]? = some y ∧ y.1 = 10)) := by
  obtain ⟨i, K, A, hi, hh, hx, hl, hc⟩ := low_stands fl.length (Nat.le_refl _) j x h
  rcases hc with ⟨mt, rfl, _, _⟩ | ⟨rfl, hj, hb⟩
  · exact .inl ⟨rfl, rfl⟩
  · refine .inr ⟨(one_no10 _ _ _).1, (one_no10 _ _ _).2, fun hk hle => ?_⟩
    obtain ⟨hkk, hA⟩ := one_jump hk
    obtain ⟨a, rfl, ha, h0, hp, hlt⟩ := jump_place hv e3 hh hx hkk
    have hpl : (toPlace (lowN ps f (gx, gy, fl) fl.length).2.2 (oneV ps (gy + heightV ps (f : Int) (i : Int)) (i : Int) (K, (a : Int)))).2.2.2.2.1 = (lowN ps f (gx, gy, fl) fl.length).2.2.getD a 0 := by
      unfold toPlace
      rw [if_pos hk, hA, Int.toNat_natCast]
    rw [hpl, hp] at hle
    have hai : a ≤ i := by
      rcases Nat.lt_or_ge i a with h1 | h1
      · have := (low_mono (ps := ps) (f := f) (gx := gx) (gy := gy) (fl := fl) (i := i + 1) a (by omega) (by omega)).1
        omega
      · exact h1
    obtain ⟨h1, mt, h2⟩ := hb (by unfold backB; exact decide_eq_true ⟨hkk, by omega⟩)
    exact ⟨h1, _, h2, rfl⟩
theorem srcs_rows {base : Int} {k : Nat} {regs : Int} (h0 : 0 ≤ base) (h1 : base + k ≤ regs) : srcsB regs (rowsV base k) (k : Int) = true := by
  unfold srcsB
  rw [Bool.and_eq_true]
  refine ⟨?_, by simp [rowsV]⟩
  rw [List.all_eq_true]
  intro s hs
  obtain ⟨i, hi, rfl⟩ := List.mem_map.1 hs
  have hi' := List.mem_range.1 hi
  show regB regs (base + (i : Int)) = true
  exact decide_eq_true ⟨by omega, by omega⟩
/-- What Lower makes may be. -/
theorem low_may (hv : verV ps = 0) (hf : f < ps.length) (e3 : ps.getD f noFn = (gx, gy, fl)) : codeMayB ps (lowerV ps (f : Int)) = true := by
  rw [(lower_eq hv hf e3).1]
  have hb := ver_fn hv hf e3
  have hz := height_zero hv hf e3
  have h64 := hb.2.2.2.2.2
  have h1 : 0 < (lowN ps f (gx, gy, fl) fl.length).1.length := by
    have h2 := (low_grow (ps := ps) (f := f) (gx := gx) (gy := gy) (fl := fl) (q := 0) (by omega)).2.1 (by rw [show ((0 : Nat) : Int) = 0 from rfl, hz]; exact Int.le_refl _)
    have h3 := (low_mono (ps := ps) (f := f) (gx := gx) (gy := gy) (fl := fl) (i := 0 + 1) fl.length (by omega) (Nat.le_refl _)).1
    omega
  have hll := low_len ps f (gx, gy, fl) fl.length
  obtain ⟨L, hL⟩ : ∃ L, (lowN ps f (gx, gy, fl) fl.length).1 = L := ⟨_, rfl⟩
  obtain ⟨pl, hpl⟩ : ∃ pl, (lowN ps f (gx, gy, fl) fl.length).2.2 = pl := ⟨_, rfl⟩
  obtain ⟨M, hM⟩ : ∃ M, (lowN ps f (gx, gy, fl) fl.length).2.1 = M := ⟨_, rfl⟩
  have hst := low_stands (ps := ps) (f := f) (gx := gx) (gy := gy) (fl := fl) fl.length (Nat.le_refl _)
  have hmt := low_metas (ps := ps) (f := f) (gx := gx) (gy := gy) (fl := fl) fl.length (Nat.le_refl _)
  rw [hL] at h1 hst hll
  rw [hM] at hmt hll
  rw [hL, hpl, hM]
  have e3' : (ps.getD (f : Int).toNat noFn) = (gx, gy, fl) := by rw [Int.toNat_natCast]; exact e3
  unfold codeMayB
  simp only [Bool.and_eq_true]
  refine ⟨decide_eq_true hv, ?_, ?_, ?_, ?_⟩
  · unfold headC
    rw [Bool.and_eq_true]
    refine ⟨decide_eq_true ⟨by omega, by show (f : Int) < (ps.length : Int); omega⟩, ?_⟩
    simp only [e3', List.length_map]
    exact decide_eq_true ⟨by omega, by omega, by omega, by omega, by omega, by omega⟩
  · unfold irsB
    rw [List.all_eq_true]
    intro j hj
    have hj' : j < L.length := by simpa using List.mem_range.1 hj
    obtain ⟨x, hx⟩ : ∃ x, L[j]? = some x := ⟨_, List.getElem?_eq_getElem hj'⟩
    have hg : (L.map (toPlace pl)).getD j noIr = toPlace pl x := by rw [List.getD_eq_getElem?_getD, List.getElem?_map, hx]; rfl
    simp only [hg, List.length_map]
    obtain ⟨i, K, A, hi, hh, hxi, hl, hc⟩ := hst j x hx
    rcases hc with ⟨mt, rfl, hm, _⟩ | ⟨rfl, _, _⟩
    · rw [hM] at hm
      have e : toPlace pl (pollI (mt : Int) (i : Int)) = (10, 0, 0, 0, 0, [], 0, (mt : Int), (i : Int)) := rfl
      rw [e]
      show (headI 0 (i : Int) && (inB M.length (mt : Int) && decide (((0 : Int), (0 : Int), (0 : Int), (0 : Int), ([] : List Int), (mt : Int)) = (0, 0, 0, 0, [], (mt : Int))))) = true
      rw [show headI 0 (i : Int) = true from decide_eq_true (by omega), show inB M.length (mt : Int) = true from decide_eq_true ⟨by omega, by omega⟩]
      simp
    · refine one_may (ins_ok hv hh e3 hxi) pl _ _ _ (fun hk => ?_)
      obtain ⟨a, rfl, ha, h0, hp, hlt⟩ := jump_place hv e3 hh hxi hk
      rw [Int.toNat_natCast, ← hpl, hp]
      rw [hL] at hlt
      exact ⟨by omega, by omega⟩
  · rw [List.all_eq_true]
    intro m hm
    obtain ⟨i, hi, hh, rfl⟩ := hmt m hm
    obtain ⟨_, _, _, _, _, _, _, _, _, _, hht, _, _⟩ := at_reached hv hh
    show (decide ((f : Int) = (f : Int)) && (reachedB ps (f : Int) (i : Int) && (srcsB (gy + 8) (rowsV 0 (ps.getD (f : Int).toNat noFn).2.1.toNat) (ps.getD (f : Int).toNat noFn).2.1 && srcsB (gy + 8) (rowsV (0 + (ps.getD (f : Int).toNat noFn).2.1) (heightV ps (f : Int) (i : Int) - 0).toNat) (heightV ps (f : Int) (i : Int) - 0)))) = true
    simp only [e3']
    obtain ⟨g, rfl⟩ : ∃ g : Nat, gy = g := ⟨gy.toNat, by omega⟩
    obtain ⟨h, hH⟩ : ∃ h : Nat, heightV ps (f : Int) (i : Int) = h := ⟨(heightV ps (f : Int) (i : Int)).toNat, by omega⟩
    rw [show reachedB ps (f : Int) (i : Int) = true from decide_eq_true hh, hH]
    simp only [Int.toNat_natCast, Int.sub_zero, Int.zero_add]
    rw [srcs_rows (by omega) (by omega), srcs_rows (by omega) (by omega)]
    simp
  · have hx : L[L.length - 1]? = some L[L.length - 1] := List.getElem?_eq_getElem (by omega)
    obtain ⟨x, hxx⟩ : ∃ x, L[L.length - 1] = x := ⟨_, rfl⟩
    rw [hxx] at hx
    have hg : (L.map (toPlace pl)).getD ((L.map (toPlace pl)).length - 1) noIr = toPlace pl x := by rw [List.length_map, List.getD_eq_getElem?_getD, List.getElem?_map, hx]; rfl
    unfold lastB
    simp only [hg, (place_kind pl x).1]
    obtain ⟨i, K, A, hi, hh, hxi, hl, hc⟩ := hst _ x hx
    have hmono := (low_mono (ps := ps) (f := f) (gx := gx) (gy := gy) (fl := fl) (i := i + 1) fl.length (by omega) (Nat.le_refl _)).1
    rw [hL] at hmono
    rcases hc with ⟨mt, rfl, hm, h2⟩ | ⟨rfl, h2, _⟩
    · omega
    · have hend : K = 12 ∨ K = 16 := by
        by_cases h12 : K = 12
        · exact .inl h12
        by_cases h16 : K = 16
        · exact .inr h16
        exfalso
        have e : insAt fl i = (K, A) := by unfold insAt; rw [List.getD_eq_getElem?_getD, hxi]; rfl
        have hn := (next_in hv hh).1
        have hnh := next_height (q' := i + 1) hv hh
        rw [Int.toNat_natCast, Int.toNat_natCast, e3] at hn hnh
        simp only [e] at hn hnh
        have hmem := hn h12 h16
        have h3 := hnh hmem
        have h4 : i + 1 < fl.length := by have := (nextL_in _ hmem).2; omega
        have h5 := (low_grow (ps := ps) (f := f) (gx := gx) (gy := gy) h4).2.1 h3.2
        have h6 := (low_mono (ps := ps) (f := f) (gx := gx) (gy := gy) (fl := fl) (i := i + 1 + 1) fl.length (by omega) (Nat.le_refl _)).1
        rw [hL] at h6
        omega
      rcases hend with rfl | rfl
      · exact decide_eq_true (.inl rfl)
      · exact decide_eq_true (.inr rfl)

end Go.Proofs.YtaimpljkbpnigaaGreatDoor
