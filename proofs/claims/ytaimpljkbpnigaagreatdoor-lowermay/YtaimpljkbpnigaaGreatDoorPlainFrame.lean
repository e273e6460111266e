/- Frames and states, reckoned: which ones may be, where a program begins. Nothing of the program is named here. -/
import Derived.Test.YtaimpljkbpnigaaGreatDoorJ5p
namespace Go.Proofs.YtaimpljkbpnigaaGreatDoor
open Go.RowKit
set_option linter.unusedVariables false

/-- A frame: its function, its pc, its locals, its stack. -/
abbrev Fr := Int × Int × List Int × List Int
def noFr : Fr := (0, 0, [], [])
/-- A state: its frames, its fuel, what it printed, how it is done, its value. -/
abbrev St := List Fr × Int × List Int × Int × Int

def numsB (l : List Int) : Bool := l.all isNum
/-- How many stand on the stack at a pc; -1: it is not reached, or there is none. -/
def heightV (ps : List Fn) (fn pc : Int) : Int := if (htsV ps fn).2.2 = 0 ∧ inB (htsV ps fn).1.length pc = true then (htsV ps fn).1.getD pc.toNat 0 else -1
def reachedB (ps : List Fn) (fn pc : Int) : Bool := decide (0 ≤ heightV ps fn pc)
def lenB (l : List Int) (k : Int) : Bool := decide ((l.length : Int) = k)
def frB (ps : List Fn) (less : Int) (f : Fr) : Bool :=
  reachedB ps f.1 f.2.1 && (lenB f.2.2.1 (ps.getD f.1.toNat noFn).2.1 && (lenB f.2.2.2 (heightV ps f.1 f.2.1 - less) && (numsB f.2.2.1 && numsB f.2.2.2)))
def mayFr (ps : List Fn) (f : Fr) : Bool := decide (verV ps = 0) && frB ps 0 f
def callB (ps : List Fn) (fn pc called : Int) : Bool := decide (insAt (ps.getD fn.toNat noFn).2.2 (pc - 1).toNat = (14, called))
def behindB (ps : List Fn) (fn pc called : Int) : Bool := reachedB ps fn (pc - 1) && callB ps fn pc called
def waitB (ps : List Fn) (f : Fr) (called : Int) : Bool := frB ps 1 f && behindB ps f.1 f.2.1 called
/-- The frame at i: it waits for the one behind it, or it is the last one. -/
def callAt (ps : List Fn) (fs : List Fr) (i : Nat) : Bool := if i + 1 = fs.length then frB ps 0 (fs.getD i noFr) else waitB ps (fs.getD i noFr) (fs.getD (i + 1) noFr).1
def callsB (ps : List Fn) (fs : List Fr) : Bool := (firstAt (fun i => !callAt ps fs i) fs.length 0).isNone
def fuelB (fuel : Int) (n : Nat) : Bool := decide (0 ≤ fuel ∧ fuel ≤ 100000 - n)
def outB (done value : Int) (k : Nat) : Bool :=
  if done = 0 then decide (value = 0 ∧ 1 ≤ k ∧ k ≤ 12) else if done = 1 then (isNum value && decide (k = 0)) else decide ((done = 2 ∨ done = 3 ∨ done = 4) ∧ value = 0 ∧ k = 0)
def stateB (ps : List Fn) (s : St) : Bool :=
  fuelB s.2.1 s.2.2.1.length && (numsB s.2.2.1 && (outB s.2.2.2.1 s.2.2.2.2 s.1.length && (decide (verV ps = 0) && callsB ps s.1)))
/-- A function's first locals: its arguments, then 0. -/
def freshL (k : Nat) (args : List Int) : List Int := (args ++ List.replicate k 0).take k
def startB (ps : List Fn) (args : List Int) (fuel : Int) : Bool :=
  decide (0 ≤ fuel ∧ fuel ≤ 100000) && (decide (verV ps = 0) && (lenB args (ps.getD 0 noFn).1 && numsB args))
def noSt : St := ([], 0, [], 0, 0)
def startV (ps : List Fn) (args : List Int) (fuel : Int) : St :=
  if startB ps args fuel = true then ([(0, 0, freshL (ps.getD 0 noFn).2.1.toNat args, [])], fuel, [], 0, 0) else noSt
def startE (ps : List Fn) (args : List Int) (fuel : Int) : Int := if startB ps args fuel = true then 0 else 600

theorem numsB_nil : numsB [] = true := rfl
theorem height_bad {ps : List Fn} {fn pc : Int} (h : ¬ (htsV ps fn).2.2 = 0) : heightV ps fn pc = -1 := if_neg (fun k => h k.1)
theorem height_out {ps : List Fn} {fn pc : Int} (h : inB (htsV ps fn).1.length pc = false) : heightV ps fn pc = -1 := if_neg (fun k => by rw [h] at k; exact absurd k.2 (by simp))
theorem height_at {ps : List Fn} {fn : Int} {pc : Nat} (h : (htsV ps fn).2.2 = 0) (h' : pc < (htsV ps fn).1.length) : heightV ps fn pc = (htsV ps fn).1.getD pc 0 := by
  unfold heightV; rw [if_pos ⟨h, by simp [inB, h']⟩, Int.toNat_natCast]
/-- Every function's heights. -/
def htsAll (ps : List Fn) : List (List Int) := (List.range ps.length).map (fun i : Nat => (htsV ps (i : Int)).1)
theorem htsAll_len (ps : List Fn) : (htsAll ps).length = ps.length := by simp [htsAll]
theorem htsAll_at {ps : List Fn} {i : Nat} (h : i < ps.length) : (htsAll ps).getD i [] = (htsV ps (i : Int)).1 := by
  simp [htsAll, List.getD_eq_getElem?_getD, h]
theorem htsAll_take {ps : List Fn} {i : Nat} (h : i < ps.length) : (htsAll ps).take (i + 1) = (htsAll ps).take i ++ [(htsV ps (i : Int)).1] :=
  take_snoc_getD (d := []) (by rw [htsAll_len]; exact h) (htsAll_at h)
theorem verF_zero {ps : List Fn} : ∀ (k i : Nat), verF ps k i = 0 ↔ ∀ j, i ≤ j → j < i + k → (htsV ps (j : Int)).2.2 = 0
  | 0, i => by simp [verF]; intro j h1 h2; omega
  | k + 1, i => by
    simp only [verF]
    by_cases h : (htsV ps (i : Int)).2.2 = 0
    · rw [if_pos h, verF_zero k (i + 1)]
      constructor
      · intro a j h1 h2
        rcases Nat.lt_or_ge i j with h3 | h3
        · exact a j h3 (by omega)
        · have : j = i := by omega
          rw [this]; exact h
      · intro a j h1 h2; exact a j (by omega) (by omega)
    · rw [if_neg h]
      constructor
      · intro a; exact absurd a h
      · intro a; exact absurd (a i (Nat.le_refl _) (by omega)) h
theorem ver_packs {ps : List Fn} (h : verV ps = 0) : packsB ps = true := by
  unfold verV at h; split at h
  · assumption
  · omega
theorem ver_at {ps : List Fn} (h : verV ps = 0) {i : Nat} (hi : i < ps.length) : (htsV ps (i : Int)).2.2 = 0 := by
  have hp := ver_packs h
  unfold verV at h; rw [if_pos hp] at h
  exact (verF_zero _ _).1 h i (Nat.zero_le _) (by omega)
theorem ver_bad {ps : List Fn} {i : Nat} (hi : i < ps.length) (h : ¬ (htsV ps (i : Int)).2.2 = 0) : ¬ verV ps = 0 := fun k => h (ver_at k hi)
theorem ver_all {ps : List Fn} (h0 : 0 < ps.length) (h : ∀ i, i < ps.length → (htsV ps (i : Int)).2.2 = 0) : verV ps = 0 := by
  have hp := (hts_ok (h 0 h0)).1
  unfold verV; rw [if_pos hp]
  exact (verF_zero _ _).2 (fun j _ hj => h j (by omega))
theorem ver_some {ps : List Fn} (h : verV ps = 0) : 1 ≤ ps.length ∧ ps.length ≤ 8 := by
  have := ver_packs h
  simp [packsB] at this; omega
/-- A function of a verified program: what its numbers are. -/
theorem ver_fn {ps : List Fn} (h : verV ps = 0) {i : Nat} (hi : i < ps.length) {x y : Int} {l : List (Int × Int)} (e : ps.getD i noFn = (x, y, l)) : 0 ≤ x ∧ x ≤ 4 ∧ x ≤ y ∧ y ≤ 8 ∧ 1 ≤ l.length ∧ l.length ≤ 64 :=
  fnB_bd (fnB_of (ver_packs h) hi e)
theorem hts_inb {ps : List Fn} {fn : Int} (h : (htsV ps fn).2.2 = 0) : ∃ f : Nat, fn = f ∧ f < ps.length ∧ (htsV ps fn).1.length = (ps.getD f noFn).2.2.length := by
  obtain ⟨_, f, e, hf, hw, _⟩ := hts_ok h
  exact ⟨f, e, hf, hw.len⟩
theorem reached_out {ps : List Fn} {fn pc : Int} (h : fn < 0 ∨ (ps.length : Int) ≤ fn) : heightV ps fn pc = -1 := by
  refine height_bad (fun k => ?_)
  obtain ⟨f, e, hf, _⟩ := hts_inb k
  omega
theorem reached_in {ps : List Fn} {fn pc : Int} (h : 0 ≤ heightV ps fn pc) : ∃ f q : Nat, fn = f ∧ pc = q ∧ f < ps.length ∧ q < (ps.getD f noFn).2.2.length ∧ (htsV ps fn).2.2 = 0 ∧ q < (htsV ps fn).1.length ∧ heightV ps fn pc = (htsV ps fn).1.getD q 0 := by
  unfold heightV at h ⊢
  split at h
  · rename_i hc
    obtain ⟨f, e, hf, hl⟩ := hts_inb hc.1
    have h2 := hc.2
    simp [inB] at h2
    refine ⟨f, pc.toNat, e, by omega, hf, by omega, hc.1, by omega, ?_⟩
    rw [if_pos hc]
  · omega
theorem frB_reached {ps : List Fn} {less : Int} {f : Fr} (h : frB ps less f = true) : 0 ≤ heightV ps f.1 f.2.1 := by
  simp [frB, reachedB] at h; exact h.1

end Go.Proofs.YtaimpljkbpnigaaGreatDoor
