/- A function one for one as register code, reckoned. Nothing of the program is named here. -/
import Derived.Test.YtfnfbebkeoilfaaGreatDoorPlainIr
namespace Go.Proofs.YtfnfbebkeoilfaaGreatDoor
open Go.RowKit
set_option linter.unusedVariables false

/-- So many registers from one on. -/
def rowsV (base : Int) (k : Nat) : List SrcT := (List.range k).map (fun i : Nat => (false, base + (i : Int)))
/-- The plain part of a pc, with so many less on the stack, registers so much more. -/
def plainV (ps : List Fn) (fn pc less base : Int) : PartT :=
  (fn, pc, rowsV base (ps.getD fn.toNat noFn).2.1.toNat, rowsV (base + (ps.getD fn.toNat noFn).2.1) (heightV ps fn pc - less).toNat)
/-- What an instruction becomes; top: the first register above the stack. -/
def oneV (ps : List Fn) (top pc : Int) (x : Int × Int) : IrT :=
  if x.1 = 0 then (1, top, 0, 0, x.2, [], 1, 0, pc)
  else if x.1 = 1 then (2, top, x.2, 0, 0, [], 1, 0, pc)
  else if x.1 = 2 then (2, x.2, top - 1, 0, 0, [], 1, 0, pc)
  else if x.1 = 10 then (2, top, top - 1, 0, 0, [], 1, 0, pc)
  else if x.1 = 11 then (0, 0, 0, 0, 0, [], 1, 0, pc)
  else if x.1 = 12 then (4, 0, 0, 0, x.2, [], 1, 0, pc)
  else if x.1 = 13 then (5, 0, top - 1, 0, x.2, [], 1, 0, pc)
  else if x.1 = 15 then (7, 0, top - 1, 0, 0, [], 1, 0, pc)
  else if x.1 = 16 then (8, 0, top - 1, 0, 0, [], 1, 0, pc)
  else if x.1 = 14 then (6, top - (ps.getD x.2.toNat noFn).1, 0, 0, x.2, (List.range (ps.getD x.2.toNat noFn).1.toNat).map (fun i : Nat => top - (ps.getD x.2.toNat noFn).1 + (i : Int)), 1, 0, pc)
  else (3, top - 2, top - 2, top - 1, x.1, [], 1, 0, pc)
/-- Does it go back? -/
def backB (pc : Int) (x : Int × Int) : Bool := decide ((x.1 = 12 ∨ x.1 = 13) ∧ x.2 ≤ pc)
/-- What stands in the code ahead of pc k: the code so far, its metas, the places. -/
abbrev LowT := List IrT × List (List PartT) × List Int
def lowStep (ps : List Fn) (fn : Nat) (f : Fn) (s : LowT) (pc : Nat) : LowT :=
  if heightV ps (fn : Int) (pc : Int) < 0 then (s.1, s.2.1, s.2.2 ++ [(s.1.length : Int)])
  else
    let x := insAt f.2.2 pc
    let y := oneV ps (f.2.1 + heightV ps (fn : Int) (pc : Int)) (pc : Int) x
    if backB (pc : Int) x = true then (s.1 ++ [(10, 0, 0, 0, 0, [], 0, (s.2.1.length : Int), (pc : Int)), y], s.2.1 ++ [[plainV ps (fn : Int) (pc : Int) 0 0]], s.2.2 ++ [(s.1.length : Int)])
    else (s.1 ++ [y], s.2.1, s.2.2 ++ [(s.1.length : Int)])
def lowN (ps : List Fn) (fn : Nat) (f : Fn) : Nat → LowT
  | 0 => ([], [], [])
  | k + 1 => lowStep ps fn f (lowN ps fn f k) k
/-- The places put right. -/
def toPlace (places : List Int) (x : IrT) : IrT :=
  if x.1 = 4 ∨ x.1 = 5 then (x.1, x.2.1, x.2.2.1, x.2.2.2.1, places.getD x.2.2.2.2.1.toNat 0, x.2.2.2.2.2) else x
def lowOk (ps : List Fn) (fn : Int) : Bool := decide (verV ps = 0) && inB ps.length fn
def lowerV (ps : List Fn) (fn : Int) : CdT :=
  if lowOk ps fn = true then
    let f := ps.getD fn.toNat noFn
    let s := lowN ps fn.toNat f f.2.2.length
    (fn, f.2.1 + 8, s.1.map (toPlace s.2.2), s.2.1)
  else noCd
def lowerE (ps : List Fn) (fn : Int) : Int := if lowOk ps fn = true then 0 else 1100
theorem low_places (ps : List Fn) (fn : Nat) (f : Fn) : ∀ k, (lowN ps fn f k).2.2.length = k
  | 0 => rfl
  | k + 1 => by
    simp only [lowN, lowStep]
    split
    · simp [low_places ps fn f k]
    · split <;> simp [low_places ps fn f k]
theorem low_len (ps : List Fn) (fn : Nat) (f : Fn) : ∀ k, (lowN ps fn f k).1.length ≤ 2 * k ∧ (lowN ps fn f k).2.1.length ≤ k
  | 0 => by simp [lowN]
  | k + 1 => by
    have := low_len ps fn f k
    simp only [lowN, lowStep]
    split
    · simp; omega
    · split <;> simp <;> omega

end Go.Proofs.YtfnfbebkeoilfaaGreatDoor
