/- Plain reckoning of heights: what is reached, by a program; which instructions name what there is; heights, pc by pc, in the row in which they are come to; nothing of the program is named here. -/
import Derived.Test.YtcngmkbgcfhmdaaGreatDoorPlainFlow
namespace Go.Proofs.YtcngmkbgcfhmdaaGreatDoor
open Go.RowKit
set_option linter.unusedVariables false

/- what is reached, reckoned -/
def reachQ (l : List (Int × Int)) : Nat → List Bool → List Int → List Bool
  | 0, bs, _ => bs
  | _ + 1, bs, [] => bs
  | k + 1, bs, x :: ws => if bs.getD x.toNat false = true then reachQ l k bs ws else reachQ l k (bs.set x.toNat true) (ws ++ nextL l x.toNat)
def reachL (l : List (Int × Int)) : List Bool := reachQ l (3 * l.length + 1) (List.replicate l.length false) [0]
theorem reachQ_marked {l : List (Int × Int)} (k : Nat) (bs : List Bool) (ws : List Int) (h : QInv l bs ws) (hk : 3 * unm bs + ws.length ≤ k) : Marked l (reachQ l k bs ws) := by
  induction k generalizing bs ws with
  | zero =>
    have : ws = [] := List.length_eq_zero_iff.1 (by omega)
    subst this
    exact h.done
  | succ k ih =>
    cases ws with
    | nil => exact h.done
    | cons x ws =>
      obtain ⟨i, rfl, hi, _⟩ := h.work x (by simp)
      simp only [reachQ, Int.toNat_natCast]
      by_cases hb : bs.getD i false = true
      · rw [if_pos hb]
        exact ih bs ws (h.skip hb) (by simp at hk; omega)
      · rw [if_neg hb]
        refine ih _ _ h.take ?_
        have h1 := unm_set (bs := bs) (i := i) (by rw [h.len]; exact hi) (by simpa using hb)
        have h2 := nextL_len l i
        simp at hk ⊢
        omega
theorem reachL_marked {l : List (Int × Int)} (hl : 0 < l.length) : Marked l (reachL l) := reachQ_marked _ _ _ (QInv.start hl) (by rw [unm_rep]; simp)

/- which instructions name what there is -/
def rangedB (nf : Nat) (locals : Int) (n : Nat) (k a : Int) : Bool :=
  if k = 1 ∨ k = 2 then decide (a < locals) else if k = 12 ∨ k = 13 then decide (a < n) else if k = 14 then decide (a < nf) else true
def insAt (l : List (Int × Int)) (i : Nat) : Int × Int := l.getD i (0, 0)
/-- The first pc below n of which p holds. -/
def firstAt (p : Nat → Bool) : Nat → Nat → Option Nat
  | 0, _ => none
  | k + 1, i => if p i = true then some i else firstAt p k (i + 1)
def unranged (ps : List Fn) (f : Fn) (i : Nat) : Bool := (reachL f.2.2).getD i false && !rangedB ps.length f.2.1 f.2.2.length (insAt f.2.2 i).1 (insAt f.2.2 i).2
def openEnd (f : Fn) : Bool := (reachL f.2.2).getD (f.2.2.length - 1) false && !decide ((insAt f.2.2 (f.2.2.length - 1)).1 = 12 ∨ (insAt f.2.2 (f.2.2.length - 1)).1 = 16)

/- heights -/
def argsOf (ps : List Fn) (k a : Int) : Int := if k = 14 then (ps.getD a.toNat noFn).1 else 0
def putH (h : Int) (s : List Int × List Int) (x : Int) : Option (List Int × List Int) :=
  if s.1.getD x.toNat 0 < 0 then some (s.1.set x.toNat h, s.2 ++ [x]) else if s.1.getD x.toNat 0 = h then some s else none
def putHs (h : Int) : List Int → List Int × List Int → Option (List Int × List Int)
  | [], s => some s
  | x :: xs, s => match putH h s x with
    | none => none
    | some s' => putHs h xs s'
def takesAt (ps : List Fn) (l : List (Int × Int)) (x : Nat) : Int := takesV (insAt l x).1 (argsOf ps (insAt l x).1 (insAt l x).2)
def goesTo (ps : List Fn) (l : List (Int × Int)) (out : List Int) (x : Nat) : Int := out.getD x 0 - takesAt ps l x + putsV (insAt l x).1
def stepH (ps : List Fn) (l : List (Int × Int)) (out : List Int) (ws : List Int) (x : Nat) : Option (List Int × List Int) :=
  if out.getD x 0 < takesAt ps l x ∨ 8 < goesTo ps l out x then none else putHs (goesTo ps l out x) (nextL l x) (out, ws)
def walkF (ps : List Fn) (l : List (Int × Int)) : Nat → List Int → List Int → List Int × Int × Int
  | 0, out, _ => (out, 0, 0)
  | _ + 1, out, [] => (out, 0, 0)
  | k + 1, out, x :: ws => match stepH ps l out ws x.toNat with
    | none => ([], x, 502)
    | some s => walkF ps l k s.1 s.2
def walkV (ps : List Fn) (l : List (Int × Int)) : List Int × Int × Int := walkF ps l l.length ((List.replicate l.length (-1)).set 0 0) [0]
def htsF (ps : List Fn) (f : Fn) : List Int × Int × Int := match firstAt (unranged ps f) f.2.2.length 0 with
  | some i => ([], (i : Int), 501)
  | none => if openEnd f = true then ([], ((f.2.2.length : Int) - 1), 503) else walkV ps f.2.2
def htsV (ps : List Fn) (fn : Int) : List Int × Int × Int := if packsB ps = true ∧ inB ps.length fn = true then htsF ps (ps.getD fn.toNat noFn) else ([], 0, 500)
/-- The first error, function by function, from i on. -/
def verF (ps : List Fn) : Nat → Nat → Int
  | 0, _ => 0
  | k + 1, i => if (htsV ps i).2.2 = 0 then verF ps k (i + 1) else (htsV ps i).2.2
def verV (ps : List Fn) : Int := if packsB ps = true then verF ps ps.length 0 else 500

theorem firstAt_none {p : Nat → Bool} : ∀ (k i : Nat), firstAt p k i = none → ∀ j, i ≤ j → j < i + k → p j = false
  | 0, i, _, j, h1, h2 => by omega
  | k + 1, i, h, j, h1, h2 => by
    simp only [firstAt] at h
    by_cases hp : p i = true
    · rw [if_pos hp] at h; cases h
    · rw [if_neg hp] at h
      rcases Nat.lt_or_ge i j with h3 | h3
      · exact firstAt_none k (i + 1) h j (by omega) (by omega)
      · have : j = i := by omega
        rw [this]; simpa using hp
theorem firstAt_step {p : Nat → Bool} {k i : Nat} (h : p i = false) : firstAt p (k + 1) i = firstAt p k (i + 1) := by simp [firstAt, h]
theorem firstAt_hit {p : Nat → Bool} {k i : Nat} (h : p i = true) : firstAt p (k + 1) i = some i := by simp [firstAt, h]

def negs (out : List Int) : Nat := out.countP (fun x => decide (x < 0))
theorem negs_set {out : List Int} {i : Nat} {h : Int} (hi : i < out.length) (hn : out.getD i 0 < 0) (hh : 0 ≤ h) : negs (out.set i h) + 1 = negs out := by
  induction out generalizing i with
  | nil => simp at hi
  | cons x r ih =>
    cases i with
    | zero =>
      simp at hn
      have h1 : ¬ h < 0 := by omega
      simp [negs, hn, h1]
    | succ i =>
      have := ih (i := i) (by simpa using hi) (by simpa using hn)
      simp only [negs, List.set_cons_succ, List.countP_cons] at *
      omega
theorem negs_start (n : Nat) (hn : 0 < n) : negs ((List.replicate n (-1)).set 0 0) + 1 = n := by
  have h := negs_set (out := List.replicate n (-1)) (i := 0) (h := 0) (by simpa using hn) (by simp [List.getD_eq_getElem?_getD, hn]) (by omega)
  rw [h]
  simp [negs, List.countP_replicate]
theorem getD_set_i (out : List Int) (i j : Nat) (h : Int) : (out.set i h).getD j 0 = if i = j ∧ j < out.length then h else out.getD j 0 := by
  simp only [List.getD_eq_getElem?_getD, List.getElem?_set]
  by_cases e : i = j
  · subst e
    by_cases h2 : i < out.length
    · simp [h2]
    · simp [h2]
  · simp [e]

/-- The work list of heights: what is on it is reached and has a height. -/
structure HInv (l : List (Int × Int)) (out ws : List Int) : Prop where
  len : out.length = l.length
  high : ∀ i, i < l.length → -1 ≤ out.getD i 0 ∧ out.getD i 0 ≤ 8
  work : ∀ x ∈ ws, ∃ i : Nat, x = i ∧ i < l.length ∧ Reach l i ∧ 0 ≤ out.getD i 0
theorem HInv.start {l : List (Int × Int)} (hl : 0 < l.length) : HInv l ((List.replicate l.length (-1)).set 0 0) [0] := by
  refine ⟨by simp, fun i hi => ?_, fun x hx => ⟨0, by simpa using hx, hl, Reach.zero l, ?_⟩⟩
  · rw [getD_set_i]; split
    · omega
    · simp [List.getD_eq_getElem?_getD, hi]
  · rw [getD_set_i, if_pos ⟨rfl, by simpa using hl⟩]; omega
theorem HInv.tail {l : List (Int × Int)} {out ws : List Int} {x : Int} (h : HInv l out (x :: ws)) : HInv l out ws := ⟨h.len, h.high, fun y hy => h.work y (by simp [hy])⟩
theorem HInv.put {l : List (Int × Int)} {out ws : List Int} {p q : Nat} {h : Int} (hI : HInv l out ws) (hr : Reach l p) (hq : (q : Int) ∈ nextL l p) (h0 : 0 ≤ h) (h8 : h ≤ 8) (hn : out.getD q 0 < 0) : HInv l (out.set q h) (ws ++ [(q : Int)]) := by
  have hql := nextL_in _ hq
  have m : ∀ i, 0 ≤ out.getD i 0 → 0 ≤ (out.set q h).getD i 0 := by
    intro i hi; rw [getD_set_i]; split
    · exact h0
    · exact hi
  refine ⟨by simp [hI.len], fun i hi => ?_, fun x hx => ?_⟩
  · rw [getD_set_i]; split
    · omega
    · exact hI.high i hi
  · rcases List.mem_append.1 hx with hx | hx
    · obtain ⟨i, e, h1, h2, h3⟩ := hI.work x hx
      exact ⟨i, e, h1, h2, m i h3⟩
    · simp at hx
      refine ⟨q, hx, by omega, hr.step hq, ?_⟩
      rw [getD_set_i, if_pos ⟨rfl, by rw [hI.len]; omega⟩]; exact h0

end Go.Proofs.YtcngmkbgcfhmdaaGreatDoor
