/- Plain reckoning of what comes next: where an instruction leads, where pieces begin, what is reached; nothing of the program is named here. -/
import Derived.Test.YtaimpljkbpnigaaGreatDoorPlain3
namespace Go.Proofs.YtaimpljkbpnigaaGreatDoor
open Go.RowKit
set_option linter.unusedVariables false

def isBr (k : Int) : Bool := decide (k = 12 ∨ k = 13)
def inB (n : Nat) (a : Int) : Bool := decide (0 ≤ a ∧ a < n)
def hasB (xs : List Int) (a : Int) : Bool := decide (a ∈ xs)
def addN (n : Nat) (xs : List Int) (a : Int) : List Int := if inB n a = true ∧ hasB xs a = false then xs ++ [a] else xs
def fallL (n p : Nat) (k : Int) : List Int := if k = 12 ∨ k = 16 then [] else addN n [] (p + 1)
def nextOf (n p : Nat) (k a : Int) : List Int := if isBr k = true then addN n (fallL n p k) a else fallL n p k
def nextL (l : List (Int × Int)) (p : Nat) : List Int := nextOf l.length p (l.getD p (0, 0)).1 (l.getD p (0, 0)).2
theorem nextL_at {l : List (Int × Int)} {p n : Nat} {k a : Int} (hn : n = l.length) (e : l.getD p (0, 0) = (k, a)) : nextL l p = nextOf n p k a := by unfold nextL; rw [e, hn]

theorem addN_in {n : Nat} {xs : List Int} {a : Int} (h : ∀ x ∈ xs, 0 ≤ x ∧ x < n) : ∀ x ∈ addN n xs a, 0 ≤ x ∧ x < n := by
  intro x hx
  unfold addN at hx
  split at hx
  · rename_i hc
    rcases List.mem_append.1 hx with hx | hx
    · exact h x hx
    · simp at hx; subst hx; have := hc.1; simp [inB] at this; exact this
  · exact h x hx
theorem addN_len (n : Nat) (xs : List Int) (a : Int) : (addN n xs a).length ≤ xs.length + 1 := by unfold addN; split <;> simp
theorem fallL_in (n p : Nat) (k : Int) : ∀ x ∈ fallL n p k, 0 ≤ x ∧ x < n := by
  unfold fallL; split
  · intro x hx; cases hx
  · exact addN_in (fun x hx => by cases hx)
theorem fallL_len (n p : Nat) (k : Int) : (fallL n p k).length ≤ 1 := by
  unfold fallL; split
  · simp
  · exact addN_len _ _ _
theorem nextOf_in (n p : Nat) (k a : Int) : ∀ x ∈ nextOf n p k a, 0 ≤ x ∧ x < n := by
  unfold nextOf; split
  · exact addN_in (fallL_in n p k)
  · exact fallL_in n p k
theorem nextOf_len (n p : Nat) (k a : Int) : (nextOf n p k a).length ≤ 2 := by
  have := fallL_len n p k
  have := addN_len n (fallL n p k) a
  unfold nextOf; split <;> omega
theorem nextL_in {l : List (Int × Int)} {p : Nat} : ∀ x ∈ nextL l p, 0 ≤ x ∧ x < l.length := nextOf_in _ _ _ _
theorem nextL_len (l : List (Int × Int)) (p : Nat) : (nextL l p).length ≤ 2 := nextOf_len _ _ _ _
theorem addN_yes {n : Nat} {xs : List Int} {a : Int} (h : inB n a = true) (h' : hasB xs a = false) : addN n xs a = xs ++ [a] := if_pos ⟨h, h'⟩
theorem addN_out {n : Nat} {xs : List Int} {a : Int} (h : inB n a = false) : addN n xs a = xs := if_neg (by rw [h]; simp)
theorem addN_has {n : Nat} {xs : List Int} {a : Int} (h : hasB xs a = true) : addN n xs a = xs := if_neg (by rw [h]; simp)
theorem fallL_no {n p : Nat} {k : Int} (h : k = 12 ∨ k = 16) : fallL n p k = [] := if_pos h
theorem fallL_yes {n p : Nat} {k : Int} (h : ¬ k = 12) (h' : ¬ k = 16) : fallL n p k = addN n [] (p + 1) := if_neg (by omega)
theorem nextOf_br {n p : Nat} {k a : Int} (h : isBr k = true) : nextOf n p k a = addN n (fallL n p k) a := if_pos h
theorem nextOf_no {n p : Nat} {k a : Int} (h : isBr k = false) : nextOf n p k a = fallL n p k := if_neg (by rw [h]; simp)

/- what Next answers -/
def nxOk (l : List (Int × Int)) (pc : Int) : Bool := codeB l && inB l.length pc
def nxL (l : List (Int × Int)) (pc : Int) : List Int := if nxOk l pc = true then nextL l pc.toNat else []
def nxE (l : List (Int × Int)) (pc : Int) : Int := if nxOk l pc = true then 0 else 400
theorem nxL_len (l : List (Int × Int)) (pc : Int) : (nxL l pc).length ≤ 2 := by
  unfold nxL; split
  · exact nextL_len _ _
  · simp
def cE (l : List (Int × Int)) : Int := if codeB l = true then 0 else 400

/- marks -/
def setB (bs : List Bool) (a : Int) : List Bool := if inB bs.length a = true then bs.set a.toNat true else bs
theorem setB_len (bs : List Bool) (a : Int) : (setB bs a).length = bs.length := by unfold setB; split <;> simp
def leadStep (bs : List Bool) (p : Nat) (k a : Int) : List Bool :=
  if isBr k = true then setB (setB bs a) (p + 1) else if k = 16 then setB bs (p + 1) else bs
def leadSt (l : List (Int × Int)) : Nat → List Bool
  | 0 => setB (List.replicate l.length false) 0
  | j + 1 => leadStep (leadSt l j) j (l.getD j (0, 0)).1 (l.getD j (0, 0)).2
theorem leadStep_len (bs : List Bool) (p : Nat) (k a : Int) : (leadStep bs p k a).length = bs.length := by unfold leadStep; split <;> (try split) <;> simp [setB_len]
theorem leadSt_len (l : List (Int × Int)) (j : Nat) : (leadSt l j).length = l.length := by
  induction j with
  | zero => simp [leadSt, setB_len]
  | succ j ih => simp [leadSt, leadStep_len, ih]
theorem leadSt_succ {l : List (Int × Int)} {j : Nat} {k a : Int} (e : l.getD j (0, 0) = (k, a)) : leadSt l (j + 1) = leadStep (leadSt l j) j k a := by simp only [leadSt, e]
theorem leadStep_br {bs : List Bool} {p : Nat} {k a : Int} (h : isBr k = true) : leadStep bs p k a = setB (setB bs a) (p + 1) := if_pos h
theorem leadStep_ret {bs : List Bool} {p : Nat} {a : Int} : leadStep bs p 16 a = setB bs (p + 1) := rfl
theorem leadStep_no {bs : List Bool} {p : Nat} {k a : Int} (h : isBr k = false) (h' : ¬ k = 16) : leadStep bs p k a = bs := by unfold leadStep; rw [if_neg (by rw [h]; simp), if_neg h']
def leadL (l : List (Int × Int)) : List Bool := if codeB l = true then leadSt l l.length else []
theorem getD_set_b (bs : List Bool) (i j : Nat) : (bs.set i true).getD j false = if i = j ∧ j < bs.length then true else bs.getD j false := by
  simp only [List.getD_eq_getElem?_getD, List.getElem?_set]
  by_cases h : i = j
  · subst h
    by_cases h2 : i < bs.length
    · simp [h2]
    · simp [h2]
  · simp [h]
theorem setB_mono {bs : List Bool} {a : Int} {i : Nat} (h : bs.getD i false = true) : (setB bs a).getD i false = true := by
  unfold setB; split
  · rw [getD_set_b]; split
    · rfl
    · exact h
  · exact h
theorem setB_at {bs : List Bool} {i : Nat} (h : i < bs.length) : (setB bs (i : Int)).getD i false = true := by
  have : inB bs.length (i : Int) = true := by simp [inB, h]
  unfold setB; rw [if_pos this, getD_set_b]; simp [h]
theorem leadStep_mono {bs : List Bool} {p : Nat} {k a : Int} {i : Nat} (h : bs.getD i false = true) : (leadStep bs p k a).getD i false = true := by
  unfold leadStep; split
  · exact setB_mono (setB_mono h)
  · split
    · exact setB_mono h
    · exact h
theorem lead_jumps {l : List (Int × Int)} (h : ∀ j, j < l.length → (l.getD j (0, 0)).1 = 12) : ∀ j, j ≤ l.length → ∀ i, i ≤ j → i < l.length → (leadSt l j).getD i false = true := by
  intro j
  induction j with
  | zero =>
    intro _ i hi hil
    have : i = 0 := by omega
    subst this
    exact setB_at (by simpa using hil)
  | succ j ih =>
    intro hj i hi hil
    rcases Nat.lt_or_ge i (j + 1) with hlt | hge
    · exact leadStep_mono (ih (by omega) i (by omega) hil)
    · have e : i = j + 1 := by omega
      subst e
      have hk := h j (by omega)
      show (leadStep (leadSt l j) j _ _).getD (j + 1) false = true
      unfold leadStep
      rw [if_pos (by rw [hk]; rfl)]
      have := setB_at (bs := setB (leadSt l j) (l.getD j (0, 0)).2) (i := j + 1) (by rw [setB_len, leadSt_len]; exact hil)
      simpa using this

/- what is reached -/
def Reach (l : List (Int × Int)) (i : Nat) : Prop := ∀ S : Nat → Prop, S 0 → (∀ p q : Nat, S p → (q : Int) ∈ nextL l p → S q) → S i
theorem Reach.zero (l : List (Int × Int)) : Reach l 0 := fun S h0 _ => h0
theorem Reach.step {l : List (Int × Int)} {p q : Nat} (h : Reach l p) (hq : (q : Int) ∈ nextL l p) : Reach l q := fun S h0 hs => hs p q (h S h0 hs) hq
theorem Reach.cases {l : List (Int × Int)} {q : Nat} (h : Reach l q) : q = 0 ∨ ∃ p : Nat, Reach l p ∧ (q : Int) ∈ nextL l p := by
  have := h (fun q => Reach l q ∧ (q = 0 ∨ ∃ p : Nat, Reach l p ∧ (q : Int) ∈ nextL l p)) ⟨Reach.zero l, .inl rfl⟩ (fun p q hp hq => ⟨hp.1.step hq, .inr ⟨p, hp.1, hq⟩⟩)
  exact this.2
theorem Reach.lt {l : List (Int × Int)} {q : Nat} (hl : 0 < l.length) (h : Reach l q) : q < l.length := by
  rcases h.cases with rfl | ⟨p, _, hq⟩
  · exact hl
  · have := nextL_in _ hq; omega
def Marked (l : List (Int × Int)) (bs : List Bool) : Prop := bs.length = l.length ∧ ∀ i, i < l.length → (bs.getD i false = true ↔ Reach l i)
theorem list_ext_b {a b : List Bool} (hl : a.length = b.length) (h : ∀ i, i < a.length → (a.getD i false = true ↔ b.getD i false = true)) : a = b := by
  apply List.ext_getElem hl
  intro i h1 h2
  have := h i h1
  simp only [List.getD_eq_getElem?_getD, List.getElem?_eq_getElem h1, List.getElem?_eq_getElem h2, Option.getD_some] at this
  exact Bool.eq_iff_iff.2 this
theorem Marked.eq {l : List (Int × Int)} {a b : List Bool} (h : Marked l a) (k : Marked l b) : a = b :=
  list_ext_b (h.1.trans k.1.symm) (fun i hi => (h.2 i (by rw [← h.1]; exact hi)).trans (k.2 i (by rw [← h.1]; exact hi)).symm)

def unm (bs : List Bool) : Nat := bs.count false
theorem unm_set {bs : List Bool} {i : Nat} (hi : i < bs.length) (h : bs.getD i false = false) : unm (bs.set i true) + 1 = unm bs := by
  induction bs generalizing i with
  | nil => simp at hi
  | cons b r ih =>
    cases i with
    | zero => simp at h; subst h; simp [unm]
    | succ i =>
      have := ih (i := i) (by simpa using hi) (by simpa using h)
      simp only [unm, List.set_cons_succ, List.count_cons] at *
      omega
theorem unm_rep (n : Nat) : unm (List.replicate n false) = n := by simp [unm]
theorem getD_true_lt {bs : List Bool} {i : Nat} (h : bs.getD i false = true) : i < bs.length := by
  rcases Nat.lt_or_ge i bs.length with h' | h'
  · exact h'
  · simp [List.getD_eq_getElem?_getD, List.getElem?_eq_none h'] at h

/-- The program's work list: each pc on it is marked; whatever is marked is on it, or leads to marked ones alone. -/
structure RInv (l : List (Int × Int)) (bs : List Bool) (ws : List Int) : Prop where
  len : bs.length = l.length
  first : bs.getD 0 false = true
  only : ∀ i, bs.getD i false = true → Reach l i
  work : ∀ x ∈ ws, ∃ i : Nat, x = i ∧ bs.getD i false = true
  closed : ∀ p : Nat, bs.getD p false = true → (p : Int) ∈ ws ∨ ∀ q : Nat, (q : Int) ∈ nextL l p → bs.getD q false = true
theorem RInv.done {l : List (Int × Int)} {bs : List Bool} (h : RInv l bs []) : Marked l bs := by
  refine ⟨h.len, fun i hi => ⟨h.only i, fun hr => ?_⟩⟩
  refine hr (fun i => bs.getD i false = true) h.first (fun p q hp hq => ?_)
  rcases h.closed p hp with h' | h'
  · cases h'
  · exact h' q hq
def rch (s : List Bool × List Int) (a : Int) : List Bool × List Int := if s.1.getD a.toNat false = true then s else (s.1.set a.toNat true, s.2 ++ [a])
theorem rch_len (s : List Bool × List Int) (a : Int) : (rch s a).1.length = s.1.length := by unfold rch; split <;> simp
theorem rch_sum {s : List Bool × List Int} {a : Int} (h : 0 ≤ a ∧ a < s.1.length) : unm (rch s a).1 + (rch s a).2.length = unm s.1 + s.2.length := by
  unfold rch
  split
  · rfl
  · rename_i hc
    have := unm_set (bs := s.1) (i := a.toNat) (by omega) (by simpa using hc)
    simp
    omega
theorem rch_mono {s : List Bool × List Int} {a : Int} {i : Nat} (h : s.1.getD i false = true) : (rch s a).1.getD i false = true := by
  unfold rch; split
  · exact h
  · simp only []
    rw [getD_set_b]; split
    · rfl
    · exact h
theorem rch_at {s : List Bool × List Int} {a : Int} (h : 0 ≤ a ∧ a < s.1.length) : (rch s a).1.getD a.toNat false = true := by
  unfold rch; split
  · assumption
  · simp only []
    rw [getD_set_b, if_pos ⟨rfl, by omega⟩]
theorem rch_only {s : List Bool × List Int} {a : Int} {i : Nat} (h : (rch s a).1.getD i false = true) : s.1.getD i false = true ∨ i = a.toNat := by
  unfold rch at h; split at h
  · exact .inl h
  · simp only [] at h
    rw [getD_set_b] at h; split at h
    · rename_i hc; exact .inr hc.1.symm
    · exact .inl h
theorem rch_work {s : List Bool × List Int} {a : Int} {x : Int} (h : x ∈ (rch s a).2) : x ∈ s.2 ∨ x = a := by
  unfold rch at h; split at h
  · exact .inl h
  · simpa using h
theorem rch_keep {s : List Bool × List Int} {a : Int} {x : Int} (h : x ∈ s.2) : x ∈ (rch s a).2 := by
  unfold rch; split
  · exact h
  · simp [h]
theorem rch_new {s : List Bool × List Int} {a : Int} {i : Nat} (ha : 0 ≤ a) (h : (rch s a).1.getD i false = true) (hn : ¬ s.1.getD i false = true) : (i : Int) ∈ (rch s a).2 := by
  unfold rch at h ⊢
  split at h
  · exact absurd h hn
  · rename_i hc
    rw [if_neg hc]
    simp only [] at h
    rw [getD_set_b] at h
    split at h
    · rename_i h2
      have : (i : Int) = a := by omega
      simp [this]
    · exact absurd h hn
def rchs (s : List Bool × List Int) (xs : List Int) : List Bool × List Int := xs.foldl rch s
theorem rchs_snoc (s : List Bool × List Int) (xs : List Int) (a : Int) : rchs s (xs ++ [a]) = rch (rchs s xs) a := by simp [rchs]
theorem rchs_all {s : List Bool × List Int} {xs : List Int} (h : ∀ x ∈ xs, 0 ≤ x ∧ x < s.1.length) :
    (rchs s xs).1.length = s.1.length ∧ unm (rchs s xs).1 + (rchs s xs).2.length = unm s.1 + s.2.length ∧ (∀ i, s.1.getD i false = true → (rchs s xs).1.getD i false = true) ∧
    (∀ x ∈ xs, (rchs s xs).1.getD x.toNat false = true) ∧ (∀ i, (rchs s xs).1.getD i false = true → s.1.getD i false = true ∨ (i : Int) ∈ xs) ∧
    (∀ x ∈ s.2, x ∈ (rchs s xs).2) ∧ (∀ x ∈ (rchs s xs).2, x ∈ s.2 ∨ x ∈ xs) ∧ (∀ i : Nat, (rchs s xs).1.getD i false = true → s.1.getD i false = true ∨ (i : Int) ∈ (rchs s xs).2) := by
  induction xs generalizing s with
  | nil => exact ⟨rfl, rfl, fun _ h => h, fun _ h => (by cases h), fun _ h => .inl h, fun _ h => h, fun _ h => .inl h, fun _ h => .inl h⟩
  | cons a r ih =>
    have ha := h a (by simp)
    obtain ⟨i1, i2, i3, i4, i5, i6, i7, i8⟩ := ih (s := rch s a) (fun x hx => by rw [rch_len]; exact h x (by simp [hx]))
    have e : rchs s (a :: r) = rchs (rch s a) r := rfl
    rw [e]
    refine ⟨by rw [i1, rch_len], by rw [i2, rch_sum ha], fun i hi => i3 i (rch_mono hi), fun x hx => ?_, fun i hi => ?_, fun x hx => i6 x (rch_keep hx), fun x hx => ?_, fun i hi => ?_⟩
    · rcases List.mem_cons.1 hx with rfl | hx
      · exact i3 _ (rch_at ha)
      · exact i4 x hx
    · rcases i5 i hi with h' | h'
      · rcases rch_only h' with h'' | h''
        · exact .inl h''
        · right; simp; left; omega
      · right; simp [h']
    · rcases i7 x hx with h' | h'
      · rcases rch_work h' with h'' | h''
        · exact .inl h''
        · right; simp [h'']
      · right; simp [h']
    · rcases i8 i hi with h' | h'
      · by_cases h2 : s.1.getD i false = true
        · exact .inl h2
        · exact .inr (i6 _ (rch_new ha.1 h' h2))
      · exact .inr h'
theorem RInv.step {l : List (Int × Int)} {bs : List Bool} {ws : List Int} {p : Nat} (h : RInv l bs (ws ++ [(p : Int)])) :
    RInv l (rchs (bs, ws) (nextL l p)).1 (rchs (bs, ws) (nextL l p)).2 := by
  have hp : bs.getD p false = true := by
    obtain ⟨i, e, hi⟩ := h.work p (by simp)
    have : i = p := by omega
    rw [← this]; exact hi
  obtain ⟨i1, i2, i3, i4, i5, i6, i7, i8⟩ := rchs_all (s := (bs, ws)) (xs := nextL l p) (fun x hx => by have := nextL_in x hx; rw [← h.len] at this; exact this)
  refine ⟨i1.trans h.len, i3 0 h.first, fun i hi => ?_, fun x hx => ?_, fun q hq => ?_⟩
  · rcases i5 i hi with h' | h'
    · exact h.only i h'
    · exact (h.only p hp).step h'
  · rcases i7 x hx with h' | h'
    · obtain ⟨i, e, hi⟩ := h.work x (by simp [h'])
      exact ⟨i, e, i3 i hi⟩
    · have := nextL_in x h'
      exact ⟨x.toNat, by omega, i4 x h'⟩
  · rcases i8 q hq with h' | h'
    · rcases h.closed q h' with h2 | h2
      · rcases List.mem_append.1 h2 with h3 | h3
        · exact .inl (i6 _ h3)
        · have e : q = p := by simp at h3; omega
          subst e
          exact .inr (fun q' hq' => by have := i4 _ hq'; simpa using this)
      · exact .inr (fun q' hq' => i3 _ (h2 q' hq'))
    · exact .inl h'
theorem RInv.start {l : List (Int × Int)} (hl : 0 < l.length) : RInv l ((List.replicate l.length false).set 0 true) [0] := by
  have g : ∀ i, ((List.replicate l.length false).set 0 true).getD i false = true → i = 0 := by
    intro i hi
    rw [getD_set_b] at hi
    split at hi
    · omega
    · simp [List.getD_eq_getElem?_getD, List.getElem?_replicate] at hi
      split at hi <;> simp at hi
  have g0 : ((List.replicate l.length false).set 0 true).getD 0 false = true := by rw [getD_set_b, if_pos ⟨rfl, by simpa using hl⟩]
  refine ⟨by simp, g0, fun i hi => by rw [g i hi]; exact Reach.zero l, fun x hx => ⟨0, by simpa using hx, g0⟩, fun p hp => .inl (by rw [g p hp]; simp)⟩

/-- The document's work list: what is on it is marked when it is taken off. -/
structure QInv (l : List (Int × Int)) (bs : List Bool) (ws : List Int) : Prop where
  len : bs.length = l.length
  first : bs.getD 0 false = true ∨ (0 : Int) ∈ ws
  only : ∀ i, bs.getD i false = true → Reach l i
  work : ∀ x ∈ ws, ∃ i : Nat, x = i ∧ i < l.length ∧ Reach l i
  closed : ∀ p : Nat, bs.getD p false = true → ∀ q : Nat, (q : Int) ∈ nextL l p → bs.getD q false = true ∨ (q : Int) ∈ ws
theorem QInv.done {l : List (Int × Int)} {bs : List Bool} (h : QInv l bs []) : Marked l bs := by
  refine ⟨h.len, fun i hi => ⟨h.only i, fun hr => ?_⟩⟩
  refine hr (fun i => bs.getD i false = true) ?_ (fun p q hp hq => ?_)
  · rcases h.first with h' | h'
    · exact h'
    · cases h'
  · rcases h.closed p hp q hq with h' | h'
    · exact h'
    · cases h'
theorem QInv.start {l : List (Int × Int)} (hl : 0 < l.length) : QInv l (List.replicate l.length false) [0] := by
  have g : ∀ i, ¬ (List.replicate l.length false).getD i false = true := by
    intro i hi
    simp [List.getD_eq_getElem?_getD, List.getElem?_replicate] at hi
    split at hi <;> simp at hi
  exact ⟨by simp, .inr (by simp), fun i hi => absurd hi (g i), fun x hx => ⟨0, by simpa using hx, hl, Reach.zero l⟩, fun p hp => absurd hp (g p)⟩
theorem QInv.skip {l : List (Int × Int)} {bs : List Bool} {x : Nat} {ws : List Int} (h : QInv l bs ((x : Int) :: ws)) (hx : bs.getD x false = true) : QInv l bs ws := by
  refine ⟨h.len, ?_, h.only, fun y hy => h.work y (by simp [hy]), fun p hp q hq => ?_⟩
  · rcases h.first with h' | h'
    · exact .inl h'
    · rcases List.mem_cons.1 h' with h2 | h2
      · have : x = 0 := by omega
        rw [this] at hx; exact .inl hx
      · exact .inr h2
  · rcases h.closed p hp q hq with h' | h'
    · exact .inl h'
    · rcases List.mem_cons.1 h' with h2 | h2
      · have : q = x := by omega
        rw [this]; exact .inl hx
      · exact .inr h2
theorem QInv.take {l : List (Int × Int)} {bs : List Bool} {x : Nat} {ws : List Int} (h : QInv l bs ((x : Int) :: ws)) : QInv l (bs.set x true) (ws ++ nextL l x) := by
  obtain ⟨i, e, hi, hr⟩ := h.work x (by simp)
  have e' : i = x := by omega
  subst e'
  have m : ∀ j, bs.getD j false = true → (bs.set i true).getD j false = true := by
    intro j hj; rw [getD_set_b]; split
    · rfl
    · exact hj
  have at' : (bs.set i true).getD i false = true := by rw [getD_set_b, if_pos ⟨rfl, by rw [h.len]; exact hi⟩]
  have o : ∀ j, (bs.set i true).getD j false = true → bs.getD j false = true ∨ j = i := by
    intro j hj; rw [getD_set_b] at hj; split at hj
    · rename_i hc; exact .inr hc.1.symm
    · exact .inl hj
  have tr : ∀ q : Nat, (bs.getD q false = true ∨ (q : Int) ∈ (i : Int) :: ws) → (bs.set i true).getD q false = true ∨ (q : Int) ∈ ws ++ nextL l i := by
    intro q hq
    rcases hq with h' | h'
    · exact .inl (m q h')
    · rcases List.mem_cons.1 h' with h2 | h2
      · have : q = i := by omega
        rw [this]; exact .inl at'
      · exact .inr (by simp [h2])
  refine ⟨by simp [h.len], ?_, fun j hj => ?_, fun y hy => ?_, fun p hp q hq => ?_⟩
  · have := tr 0 (by simpa using h.first); simpa using this
  · rcases o j hj with h' | h'
    · exact h.only j h'
    · rw [h']; exact hr
  · rcases List.mem_append.1 hy with h' | h'
    · exact h.work y (by simp [h'])
    · have := nextL_in y h'
      refine ⟨y.toNat, by omega, by omega, hr.step ?_⟩
      rw [show ((y.toNat : Nat) : Int) = y by omega]; exact h'
  · rcases o p hp with h' | h'
    · exact tr q (h.closed p h' q hq)
    · rw [h'] at hq
      exact .inr (by simp [hq])

end Go.Proofs.YtaimpljkbpnigaaGreatDoor
