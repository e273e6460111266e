/- Plain reckoning of heights: what is reached, by a program; which instructions name what there is; heights, pc by pc, in the row in which they are come to; nothing of the program is named here. More of heights: how many there are. What heights say, where there is no error: each reached pc has what it takes, and leaves to each one next to it what that has. -/
import Derived.Test.YtaimpljkbpnigaaGreatDoorPlainFlow
namespace Go.Proofs.YtaimpljkbpnigaaGreatDoor
open Go.RowKit
set_option linter.unusedVariables false

/- what is reached, reckoned -/
def reachQ (l : List (Int × Int)) : Nat → List Bool → List Int → List Bool
  | 0, bs, _ => bs
  | _ + 1, bs, [] => bs
  | k + 1, bs, x :: ws => if bs.getD x.toNat false = true then reachQ l k bs ws else reachQ l k (bs.set x.toNat true) (ws ++ nextL l x.toNat)
def reachL (l : List (Int × Int)) : List Bool := reachQ l (3 * l.length + 1) (List.replicate l.length false) [0]
theorem reachQ_marked {l : List (Int × Int)} (k : Nat) (bs : List Bool) (ws : List Int) (h : QInv l bs ws) (hk : 3 * unm bs + ws.length ≤ k) : Marked l (reachQ l k bs ws) := by
  induction k generalizing bs ws with
  | zero =>
    have : ws = [] := List.length_eq_zero_iff.1 (by omega)
    subst this
    exact h.done
  | succ k ih =>
    cases ws with
    | nil => exact h.done
    | cons x ws =>
      obtain ⟨i, rfl, hi, _⟩ := h.work x (by simp)
      simp only [reachQ, Int.toNat_natCast]
      by_cases hb : bs.getD i false = true
      · rw [if_pos hb]
        exact ih bs ws (h.skip hb) (by simp at hk; omega)
      · rw [if_neg hb]
        refine ih _ _ h.take ?_
        have h1 := unm_set (bs := bs) (i := i) (by rw [h.len]; exact hi) (by simpa using hb)
        have h2 := nextL_len l i
        simp at hk ⊢
        omega
theorem reachL_marked {l : List (Int × Int)} (hl : 0 < l.length) : Marked l (reachL l) := reachQ_marked _ _ _ (QInv.start hl) (by rw [unm_rep]; simp)

/- which instructions name what there is -/
def rangedB (nf : Nat) (locals : Int) (n : Nat) (k a : Int) : Bool :=
  if k = 1 ∨ k = 2 then decide (a < locals) else if k = 12 ∨ k = 13 then decide (a < n) else if k = 14 then decide (a < nf) else true
def insAt (l : List (Int × Int)) (i : Nat) : Int × Int := l.getD i (0, 0)
/-- The first pc below n of which p holds. -/
def firstAt (p : Nat → Bool) : Nat → Nat → Option Nat
  | 0, _ => none
  | k + 1, i => if p i = true then some i else firstAt p k (i + 1)
def unranged (ps : List Fn) (f : Fn) (i : Nat) : Bool := (reachL f.2.2).getD i false && !rangedB ps.length f.2.1 f.2.2.length (insAt f.2.2 i).1 (insAt f.2.2 i).2
def openEnd (f : Fn) : Bool := (reachL f.2.2).getD (f.2.2.length - 1) false && !decide ((insAt f.2.2 (f.2.2.length - 1)).1 = 12 ∨ (insAt f.2.2 (f.2.2.length - 1)).1 = 16)

/- heights -/
def argsOf (ps : List Fn) (k a : Int) : Int := if k = 14 then (ps.getD a.toNat noFn).1 else 0
def putH (h : Int) (s : List Int × List Int) (x : Int) : Option (List Int × List Int) :=
  if s.1.getD x.toNat 0 < 0 then some (s.1.set x.toNat h, s.2 ++ [x]) else if s.1.getD x.toNat 0 = h then some s else none
def putHs (h : Int) : List Int → List Int × List Int → Option (List Int × List Int)
  | [], s => some s
  | x :: xs, s => match putH h s x with
    | none => none
    | some s' => putHs h xs s'
def takesAt (ps : List Fn) (l : List (Int × Int)) (x : Nat) : Int := takesV (insAt l x).1 (argsOf ps (insAt l x).1 (insAt l x).2)
def goesTo (ps : List Fn) (l : List (Int × Int)) (out : List Int) (x : Nat) : Int := out.getD x 0 - takesAt ps l x + putsV (insAt l x).1
def stepH (ps : List Fn) (l : List (Int × Int)) (out : List Int) (ws : List Int) (x : Nat) : Option (List Int × List Int) :=
  if out.getD x 0 < takesAt ps l x ∨ 8 < goesTo ps l out x then none else putHs (goesTo ps l out x) (nextL l x) (out, ws)
def walkF (ps : List Fn) (l : List (Int × Int)) : Nat → List Int → List Int → List Int × Int × Int
  | 0, out, _ => (out, 0, 0)
  | _ + 1, out, [] => (out, 0, 0)
  | k + 1, out, x :: ws => match stepH ps l out ws x.toNat with
    | none => ([], x, 502)
    | some s => walkF ps l k s.1 s.2
def walkV (ps : List Fn) (l : List (Int × Int)) : List Int × Int × Int := walkF ps l l.length ((List.replicate l.length (-1)).set 0 0) [0]
def htsF (ps : List Fn) (f : Fn) : List Int × Int × Int := match firstAt (unranged ps f) f.2.2.length 0 with
  | some i => ([], (i : Int), 501)
  | none => if openEnd f = true then ([], ((f.2.2.length : Int) - 1), 503) else walkV ps f.2.2
def htsV (ps : List Fn) (fn : Int) : List Int × Int × Int := if packsB ps = true ∧ inB ps.length fn = true then htsF ps (ps.getD fn.toNat noFn) else ([], 0, 500)
/-- The first error, function by function, from i on. -/
def verF (ps : List Fn) : Nat → Nat → Int
  | 0, _ => 0
  | k + 1, i => if (htsV ps i).2.2 = 0 then verF ps k (i + 1) else (htsV ps i).2.2
def verV (ps : List Fn) : Int := if packsB ps = true then verF ps ps.length 0 else 500

theorem firstAt_none {p : Nat → Bool} : ∀ (k i : Nat), firstAt p k i = none → ∀ j, i ≤ j → j < i + k → p j = false
  | 0, i, _, j, h1, h2 => by omega
  | k + 1, i, h, j, h1, h2 => by
    simp only [firstAt] at h
    by_cases hp : p i = true
    · rw [if_pos hp] at h; cases h
    · rw [if_neg hp] at h
      rcases Nat.lt_or_ge i j with h3 | h3
      · exact firstAt_none k (i + 1) h j (by omega) (by omega)
      · have : j = i := by omega
        rw [this]; simpa using hp
theorem firstAt_step {p : Nat → Bool} {k i : Nat} (h : p i = false) : firstAt p (k + 1) i = firstAt p k (i + 1) := by simp [firstAt, h]
theorem firstAt_hit {p : Nat → Bool} {k i : Nat} (h : p i = true) : firstAt p (k + 1) i = some i := by simp [firstAt, h]

def negs (out : List Int) : Nat := out.countP (fun x => decide (x < 0))
theorem negs_set {out : List Int} {i : Nat} {h : Int} (hi : i < out.length) (hn : out.getD i 0 < 0) (hh : 0 ≤ h) : negs (out.set i h) + 1 = negs out := by
  induction out generalizing i with
  | nil => simp at hi
  | cons x r ih =>
    cases i with
    | zero =>
      simp at hn
      have h1 : ¬ h < 0 := by omega
      simp [negs, hn, h1]
    | succ i =>
      have := ih (i := i) (by simpa using hi) (by simpa using hn)
      simp only [negs, List.set_cons_succ, List.countP_cons] at *
      omega
theorem negs_start (n : Nat) (hn : 0 < n) : negs ((List.replicate n (-1)).set 0 0) + 1 = n := by
  have h := negs_set (out := List.replicate n (-1)) (i := 0) (h := 0) (by simpa using hn) (by simp [List.getD_eq_getElem?_getD, hn]) (by omega)
  rw [h]
  simp [negs, List.countP_replicate]
theorem getD_set_i (out : List Int) (i j : Nat) (h : Int) : (out.set i h).getD j 0 = if i = j ∧ j < out.length then h else out.getD j 0 := by
  simp only [List.getD_eq_getElem?_getD, List.getElem?_set]
  by_cases e : i = j
  · subst e
    by_cases h2 : i < out.length
    · simp [h2]
    · simp [h2]
  · simp [e]

/-- The work list of heights: what is on it is reached and has a height. -/
structure HInv (l : List (Int × Int)) (out ws : List Int) : Prop where
  len : out.length = l.length
  high : ∀ i, i < l.length → -1 ≤ out.getD i 0 ∧ out.getD i 0 ≤ 8
  work : ∀ x ∈ ws, ∃ i : Nat, x = i ∧ i < l.length ∧ Reach l i ∧ 0 ≤ out.getD i 0
theorem HInv.start {l : List (Int × Int)} (hl : 0 < l.length) : HInv l ((List.replicate l.length (-1)).set 0 0) [0] := by
  refine ⟨by simp, fun i hi => ?_, fun x hx => ⟨0, by simpa using hx, hl, Reach.zero l, ?_⟩⟩
  · rw [getD_set_i]; split
    · omega
    · simp [List.getD_eq_getElem?_getD, hi]
  · rw [getD_set_i, if_pos ⟨rfl, by simpa using hl⟩]; omega
theorem HInv.tail {l : List (Int × Int)} {out ws : List Int} {x : Int} (h : HInv l out (x :: ws)) : HInv l out ws := ⟨h.len, h.high, fun y hy => h.work y (by simp [hy])⟩
theorem HInv.put {l : List (Int × Int)} {out ws : List Int} {p q : Nat} {h : Int} (hI : HInv l out ws) (hr : Reach l p) (hq : (q : Int) ∈ nextL l p) (h0 : 0 ≤ h) (h8 : h ≤ 8) (hn : out.getD q 0 < 0) : HInv l (out.set q h) (ws ++ [(q : Int)]) := by
  have hql := nextL_in _ hq
  have m : ∀ i, 0 ≤ out.getD i 0 → 0 ≤ (out.set q h).getD i 0 := by
    intro i hi; rw [getD_set_i]; split
    · exact h0
    · exact hi
  refine ⟨by simp [hI.len], fun i hi => ?_, fun x hx => ?_⟩
  · rw [getD_set_i]; split
    · omega
    · exact hI.high i hi
  · rcases List.mem_append.1 hx with hx | hx
    · obtain ⟨i, e, h1, h2, h3⟩ := hI.work x hx
      exact ⟨i, e, h1, h2, m i h3⟩
    · simp at hx
      refine ⟨q, hx, by omega, hr.step hq, ?_⟩
      rw [getD_set_i, if_pos ⟨rfl, by rw [hI.len]; omega⟩]; exact h0

end Go.Proofs.YtaimpljkbpnigaaGreatDoor

namespace Go.Proofs.YtaimpljkbpnigaaGreatDoor
open Go.RowKit
set_option linter.unusedVariables false

theorem putHs_len {h : Int} : ∀ (xs : List Int) (s s' : List Int × List Int), putHs h xs s = some s' → s'.1.length = s.1.length
  | [], s, s', e => by simp only [putHs, Option.some.injEq] at e; rw [e]
  | x :: xs, s, s', e => by
    simp only [putHs] at e
    cases hp : putH h s x with
    | none => rw [hp] at e; cases e
    | some t =>
      rw [hp] at e
      have h1 := putHs_len xs t s' e
      rw [h1]
      unfold putH at hp
      split at hp
      · simp only [Option.some.injEq] at hp; rw [← hp]; simp
      · split at hp
        · simp only [Option.some.injEq] at hp; rw [← hp]
        · cases hp
theorem walkF_len (ps : List Fn) (l : List (Int × Int)) : ∀ (k : Nat) (out ws : List Int), (walkF ps l k out ws).1.length ≤ out.length
  | 0, out, ws => by simp [walkF]
  | k + 1, out, [] => by simp [walkF]
  | k + 1, out, x :: ws => by
    simp only [walkF]
    cases hs : stepH ps l out ws x.toNat with
    | none => simp
    | some s =>
      have h1 := walkF_len ps l k s.1 s.2
      unfold stepH at hs
      split at hs
      · cases hs
      · have h2 := putHs_len _ _ _ hs
        show (walkF ps l k s.1 s.2).1.length ≤ out.length
        simp only [] at h2
        omega
theorem hts_len {ps : List Fn} {fn : Int} : (htsV ps fn).1.length ≤ 64 := by
  unfold htsV
  split
  · rename_i hc
    obtain ⟨h1, h2⟩ := hc
    have hi : fn.toNat < ps.length := by simp [inB] at h2; omega
    have hf := fnB_of h1 hi rfl
    generalize ps.getD fn.toNat noFn = f at hf ⊢
    obtain ⟨x, y, l⟩ := f
    have hb := fnB_bd hf
    unfold htsF
    split
    · simp
    · split
      · simp
      · have := walkF_len ps l l.length ((List.replicate l.length (-1)).set 0 0) [0]
        show (walkV ps l).1.length ≤ 64
        unfold walkV
        simp at this
        omega
  · simp

end Go.Proofs.YtaimpljkbpnigaaGreatDoor

namespace Go.Proofs.YtaimpljkbpnigaaGreatDoor
open Go.RowKit
set_option linter.unusedVariables false

theorem putH_some {h : Int} {s s' : List Int × List Int} {q : Nat} (h0 : 0 ≤ h) (hq : q < s.1.length) (e : putH h s (q : Int) = some s') :
    s'.1.length = s.1.length ∧ (∀ i : Nat, 0 ≤ s.1.getD i 0 → i < s.1.length → s'.1.getD i 0 = s.1.getD i 0) ∧ (∀ i : Nat, i < s.1.length → 0 ≤ s'.1.getD i 0 → 0 ≤ s.1.getD i 0 ∨ i = q) ∧ s'.1.getD q 0 = h ∧
    (∀ y ∈ s.2, y ∈ s'.2) ∧ (∀ y ∈ s'.2, y ∈ s.2 ∨ y = (q : Int)) ∧ (∀ i : Nat, i < s.1.length → 0 ≤ s'.1.getD i 0 → 0 ≤ s.1.getD i 0 ∨ (i : Int) ∈ s'.2) ∧ negs s'.1 + s'.2.length = negs s.1 + s.2.length := by
  unfold putH at e
  simp only [Int.toNat_natCast] at e
  split at e
  · rename_i hn
    simp only [Option.some.injEq] at e
    subst e
    have hs := negs_set hq hn h0
    refine ⟨by simp, fun i hi hl => ?_, fun i hl hi => ?_, ?_, fun y hy => by simp [hy], fun y hy => by simpa using hy, fun i hl hi => ?_, ?_⟩
    · simp only []; rw [getD_set_i]; split
      · rename_i hc; rw [← hc.1] at hi; omega
      · rfl
    · simp only [] at hi; rw [getD_set_i] at hi; split at hi
      · rename_i hc; exact .inr hc.1.symm
      · exact .inl hi
    · simp only []; rw [getD_set_i, if_pos ⟨rfl, hq⟩]
    · simp only [] at hi; rw [getD_set_i] at hi; split at hi
      · rename_i hc; right; rw [← hc.1]; simp
      · exact .inl hi
    · simp; omega
  · split at e
    · rename_i hn he
      simp only [Option.some.injEq] at e
      subst e
      exact ⟨rfl, fun _ _ _ => rfl, fun i _ hi => .inl hi, he, fun _ hy => hy, fun _ hy => .inl hy, fun i _ hi => .inl hi, rfl⟩
    · cases e
theorem putHs_some {h : Int} (h0 : 0 ≤ h) : ∀ (xs : List Int) (s s' : List Int × List Int), (∀ x ∈ xs, 0 ≤ x ∧ x < s.1.length) → putHs h xs s = some s' →
    s'.1.length = s.1.length ∧ (∀ i : Nat, 0 ≤ s.1.getD i 0 → i < s.1.length → s'.1.getD i 0 = s.1.getD i 0) ∧ (∀ i : Nat, i < s.1.length → 0 ≤ s'.1.getD i 0 → 0 ≤ s.1.getD i 0 ∨ (i : Int) ∈ xs) ∧ (∀ q : Nat, (q : Int) ∈ xs → s'.1.getD q 0 = h) ∧
    (∀ y ∈ s.2, y ∈ s'.2) ∧ (∀ y ∈ s'.2, y ∈ s.2 ∨ y ∈ xs) ∧ (∀ i : Nat, i < s.1.length → 0 ≤ s'.1.getD i 0 → 0 ≤ s.1.getD i 0 ∨ (i : Int) ∈ s'.2) ∧ negs s'.1 + s'.2.length = negs s.1 + s.2.length
  | [], s, s', _, e => by
    simp only [putHs, Option.some.injEq] at e
    subst e
    exact ⟨rfl, fun _ _ _ => rfl, fun i _ hi => .inl hi, fun q hq => (by cases hq), fun _ hy => hy, fun _ hy => .inl hy, fun i _ hi => .inl hi, rfl⟩
  | x :: xs, s, s', hx, e => by
    simp only [putHs] at e
    cases hp : putH h s x with
    | none => rw [hp] at e; cases e
    | some t =>
      rw [hp] at e
      obtain ⟨hx0, hx1⟩ := hx x (by simp)
      obtain ⟨q, rfl⟩ : ∃ q : Nat, x = q := ⟨x.toNat, by omega⟩
      obtain ⟨a1, a2, a3, a4, a5, a6, a7, a8⟩ := putH_some h0 (by omega) hp
      obtain ⟨b1, b2, b3, b4, b5, b6, b7, b8⟩ := putHs_some h0 xs t s' (fun y hy => by rw [a1]; exact hx y (by simp [hy])) e
      refine ⟨b1.trans a1, fun i hi hl => ?_, fun i hl hi => ?_, fun p hp' => ?_, fun y hy => b5 y (a5 y hy), fun y hy => ?_, fun i hl hi => ?_, b8.trans a8⟩
      · have e1 := a2 i hi hl
        rw [b2 i (by omega) (by omega), e1]
      · rcases b3 i (by omega) hi with h1 | h1
        · rcases a3 i hl h1 with h2 | h2
          · exact .inl h2
          · right; simp [h2]
        · right; simp [h1]
      · rcases List.mem_cons.1 hp' with h1 | h1
        · have : p = q := by omega
          subst this
          rw [b2 p (by omega) (by omega), a4]
        · exact b4 p h1
      · rcases b6 y hy with h1 | h1
        · rcases a6 y h1 with h2 | h2
          · exact .inl h2
          · right; simp [h2]
        · right; simp [h1]
      · rcases b7 i (by omega) hi with h1 | h1
        · rcases a7 i hl h1 with h2 | h2
          · exact .inl h2
          · exact .inr (b5 _ h2)
        · exact .inr h1

/-- A pc that has been gone on from. -/
def Gone (ps : List Fn) (l : List (Int × Int)) (out : List Int) (p : Nat) : Prop :=
  takesAt ps l p ≤ out.getD p 0 ∧ goesTo ps l out p ≤ 8 ∧ ∀ q : Nat, (q : Int) ∈ nextL l p → out.getD q 0 = goesTo ps l out p
structure WInv (ps : List Fn) (l : List (Int × Int)) (out ws : List Int) : Prop where
  len : out.length = l.length
  first : out.getD 0 0 = 0
  only : ∀ i : Nat, i < l.length → 0 ≤ out.getD i 0 → Reach l i
  low : ∀ i : Nat, i < l.length → -1 ≤ out.getD i 0
  work : ∀ x ∈ ws, ∃ i : Nat, x = i ∧ i < l.length ∧ 0 ≤ out.getD i 0
  gone : ∀ p : Nat, p < l.length → 0 ≤ out.getD p 0 → (p : Int) ∈ ws ∨ Gone ps l out p
theorem WInv.start {ps : List Fn} {l : List (Int × Int)} (hl : 0 < l.length) : WInv ps l ((List.replicate l.length (-1)).set 0 0) [0] := by
  have g : ∀ i : Nat, i < l.length → ((List.replicate l.length (-1 : Int)).set 0 0).getD i 0 = if i = 0 then 0 else -1 := by
    intro i hi
    rw [getD_set_i]
    by_cases h : i = 0
    · subst h; rw [if_pos ⟨rfl, by simpa using hl⟩]; rfl
    · rw [if_neg (fun hc => h hc.1.symm), if_neg h]; simp [List.getD_eq_getElem?_getD, hi]
  refine ⟨by simp, by rw [g 0 hl]; rfl, fun i hi h => ?_, fun i hi => ?_, fun x hx => ⟨0, by simpa using hx, hl, by rw [g 0 hl]; simp⟩, fun p hp h => ?_⟩
  · rw [g i hi] at h
    by_cases h0 : i = 0
    · rw [h0]; exact Reach.zero l
    · rw [if_neg h0] at h; omega
  · rw [g i hi]; split <;> omega
  · rw [g p hp] at h
    by_cases h0 : p = 0
    · left; simp [h0]
    · rw [if_neg h0] at h; omega
theorem goes_nonneg {ps : List Fn} {l : List (Int × Int)} {out : List Int} {p : Nat} (h : takesAt ps l p ≤ out.getD p 0) : 0 ≤ goesTo ps l out p := by
  have : 0 ≤ putsV (insAt l p).1 := by unfold putsV; split; · omega
                                       · split <;> omega
  unfold goesTo
  omega
theorem goes_same {ps : List Fn} {l : List (Int × Int)} {out out' : List Int} {p : Nat} (h : out'.getD p 0 = out.getD p 0) : goesTo ps l out' p = goesTo ps l out p := by unfold goesTo; rw [h]
theorem low_kept {ps : List Fn} {l : List (Int × Int)} {xs out ws : List Int} {h : Int} {s : List Int × List Int} {j : Nat} (e : putHs h xs (out, ws) = some s) (h1 : -1 ≤ out.getD j 0) (h0 : -1 ≤ h) : -1 ≤ s.1.getD j 0 := by
  induction xs generalizing out ws with
  | nil => simp only [putHs, Option.some.injEq] at e; rw [← e]; exact h1
  | cons x xs ih =>
    simp only [putHs] at e
    cases hp : putH h (out, ws) x with
    | none => rw [hp] at e; cases e
    | some t =>
      rw [hp] at e
      refine ih (out := t.1) (ws := t.2) e ?_
      unfold putH at hp
      split at hp
      · simp only [Option.some.injEq] at hp; rw [← hp]
        show -1 ≤ (out.set x.toNat h).getD j 0
        rw [getD_set_i]; split
        · exact h0
        · exact h1
      · split at hp
        · simp only [Option.some.injEq] at hp; rw [← hp]; exact h1
        · cases hp
theorem WInv.step {ps : List Fn} {l : List (Int × Int)} {out ws : List Int} {p : Nat} {s : List Int × List Int} (h : WInv ps l out ((p : Int) :: ws)) (e : stepH ps l out ws p = some s) : WInv ps l s.1 s.2 ∧ negs s.1 + s.2.length = negs out + ws.length := by
  unfold stepH at e
  split at e
  · cases e
  rename_i hc
  have ht : takesAt ps l p ≤ out.getD p 0 := by omega
  have hg : goesTo ps l out p ≤ 8 := by omega
  obtain ⟨i, ei, hpl, hp0⟩ := h.work (p : Int) (by simp)
  have : i = p := by omega
  subst this
  obtain ⟨b1, b2, b3, b4, b5, b6, b7, b8⟩ := putHs_some (goes_nonneg ht) (nextL l i) (out, ws) s (fun x hx => by have := nextL_in x hx; rw [← h.len] at this; exact this) e
  simp only [] at b1 b2 b3 b5 b6 b7 b8
  have hlen := h.len
  have hr := h.only i hpl hp0
  refine ⟨⟨by omega, ?_, fun j hj hj0 => ?_, fun j hj => ?_, fun x hx => ?_, fun j hj hj0 => ?_⟩, b8⟩
  · rw [b2 0 (by rw [h.first]; omega) (by omega), h.first]
  · rcases b3 j (by omega) hj0 with h1 | h1
    · exact h.only j hj h1
    · exact hr.step h1
  · exact low_kept (ps := ps) (l := l) e (h.low j hj) (by have := goes_nonneg ht; omega)
  · rcases b6 x hx with h1 | h1
    · obtain ⟨k, ek, hk1, hk2⟩ := h.work x (by simp [h1])
      exact ⟨k, ek, hk1, by rw [b2 k hk2 (by omega)]; exact hk2⟩
    · have h2 := nextL_in x h1
      refine ⟨x.toNat, by omega, by omega, ?_⟩
      rw [b4 x.toNat (by rw [show ((x.toNat : Nat) : Int) = x by omega]; exact h1)]
      exact goes_nonneg ht
  · rcases b7 j (by omega) hj0 with h1 | h1
    · rcases h.gone j hj h1 with h2 | h2
      · rcases List.mem_cons.1 h2 with h3 | h3
        · have : j = i := by omega
          subst this
          right
          have e1 := b2 j h1 (by omega)
          exact ⟨by rw [e1]; exact ht, by rw [goes_same e1]; exact hg, fun q hq => by rw [goes_same e1]; exact b4 q hq⟩
        · exact .inl (b5 _ h3)
      · right
        have e1 := b2 j h1 (by omega)
        refine ⟨by rw [e1]; exact h2.1, by rw [goes_same e1]; exact h2.2.1, fun q hq => ?_⟩
        have hq' := nextL_in _ hq
        rw [goes_same e1, b2 q (by rw [h2.2.2 q hq]; exact goes_nonneg h2.1) (by omega)]
        exact h2.2.2 q hq
    · exact .inl h1
theorem walkF_ok {ps : List Fn} {l : List (Int × Int)} : ∀ (k : Nat) (out ws : List Int), WInv ps l out ws → negs out + ws.length ≤ k → (walkF ps l k out ws).2.2 = 0 → WInv ps l (walkF ps l k out ws).1 []
  | 0, out, ws, h, hk, _ => by
    have : ws = [] := List.length_eq_zero_iff.1 (by omega)
    subst this
    exact h
  | k + 1, out, [], h, hk, _ => h
  | k + 1, out, x :: ws, h, hk, h0 => by
    obtain ⟨p, rfl, _, _⟩ := h.work x (by simp)
    simp only [walkF, Int.toNat_natCast] at h0 ⊢
    cases hs : stepH ps l out ws p with
    | none => rw [hs] at h0; simp at h0
    | some s =>
      rw [hs] at h0
      obtain ⟨h1, h2⟩ := h.step hs
      exact walkF_ok k s.1 s.2 h1 (by simp at hk; omega) h0

theorem walkF_pc {ps : List Fn} {l : List (Int × Int)} : ∀ (k : Nat) (out ws : List Int), (walkF ps l k out ws).2.2 = 0 → (walkF ps l k out ws).2.1 = 0
  | 0, out, ws, _ => rfl
  | k + 1, out, [], _ => rfl
  | k + 1, out, x :: ws, h => by
    simp only [walkF] at h ⊢
    cases hs : stepH ps l out ws x.toNat with
    | none => rw [hs] at h; simp at h
    | some s => rw [hs] at h; exact walkF_pc k s.1 s.2 h
theorem WInv.reach {ps : List Fn} {l : List (Int × Int)} {out : List Int} (h : WInv ps l out []) (hl : 0 < l.length) {i : Nat} (hr : Reach l i) : i < l.length ∧ 0 ≤ out.getD i 0 := by
  refine hr (fun i => i < l.length ∧ 0 ≤ out.getD i 0) ⟨hl, by rw [h.first]; omega⟩ (fun p q hp hq => ?_)
  have hq' := nextL_in _ hq
  rcases h.gone p hp.1 hp.2 with h1 | h1
  · cases h1
  · exact ⟨by omega, by rw [h1.2.2 q hq]; exact goes_nonneg h1.1⟩
theorem hts_ok {ps : List Fn} {fn : Int} (h : (htsV ps fn).2.2 = 0) : packsB ps = true ∧ ∃ f : Nat, fn = f ∧ f < ps.length ∧ WInv ps (ps.getD f noFn).2.2 (htsV ps fn).1 [] ∧ (htsV ps fn).2.1 = 0 ∧
    (∀ i, Reach (ps.getD f noFn).2.2 i → rangedB ps.length (ps.getD f noFn).2.1 (ps.getD f noFn).2.2.length (insAt (ps.getD f noFn).2.2 i).1 (insAt (ps.getD f noFn).2.2 i).2 = true) ∧ openEnd (ps.getD f noFn) = false := by
  by_cases hc : packsB ps = true ∧ inB ps.length fn = true
  · obtain ⟨h1, h2⟩ := hc
    obtain ⟨f, rfl⟩ : ∃ f : Nat, fn = f := ⟨fn.toNat, by simp [inB] at h2; omega⟩
    have hf : f < ps.length := by simp [inB] at h2; omega
    have e : htsV ps (f : Int) = htsF ps (ps.getD f noFn) := by unfold htsV; rw [if_pos ⟨h1, h2⟩, Int.toNat_natCast]
    have hB := fnB_of h1 hf rfl
    rw [e] at h ⊢
    refine ⟨h1, f, rfl, hf, ?_⟩
    generalize ps.getD f noFn = fn at h hB ⊢
    obtain ⟨x, y, l⟩ := fn
    have hb := fnB_bd hB
    have hl : 0 < l.length := by omega
    unfold htsF at h ⊢
    cases hfa : firstAt (unranged ps (x, y, l)) (x, y, l).2.2.length 0 with
    | some i => rw [hfa] at h; simp at h
    | none =>
      rw [hfa] at h
      simp only [] at h ⊢
      by_cases ho : openEnd (x, y, l) = true
      · rw [if_pos ho] at h; simp at h
      · rw [if_neg ho] at h ⊢
        have hs := negs_start l.length hl
        refine ⟨walkF_ok l.length _ _ (WInv.start hl) (by show _ + 1 ≤ _; omega) h, ?_, fun i hi => ?_, by simpa using ho⟩
        · exact walkF_pc _ _ _ h
        · have hil := hi.lt hl
          have h3 := firstAt_none _ _ hfa i (Nat.zero_le _) (by show i < 0 + l.length; omega)
          have h4 : (reachL l).getD i false = true := ((reachL_marked hl).2 i hil).2 hi
          have h5 : ((reachL l).getD i false && !rangedB ps.length y l.length (insAt l i).1 (insAt l i).2) = false := h3
          rw [h4] at h5
          simpa using h5
  · unfold htsV at h
    rw [if_neg hc] at h
    simp at h

end Go.Proofs.YtaimpljkbpnigaaGreatDoor
