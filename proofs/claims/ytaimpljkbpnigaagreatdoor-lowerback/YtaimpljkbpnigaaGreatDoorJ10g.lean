/- Register code, reckoned: which code may be, which of its places are leaders. Nothing of the program is named here. A function one for one as register code, reckoned. Nothing of the program is named here. Register code, reckoned by its kinds' fields: the same answer. Nothing of the program is named here. What may be, kind by kind. Nothing of the program is named here. -/
import Derived.Test.YtaimpljkbpnigaaGreatDoorPlainFrame
namespace Go.Proofs.YtaimpljkbpnigaaGreatDoor
open Go.RowKit
set_option linter.unusedVariables false

/-- A source: is it a number, which number or register. -/
abbrev SrcT := Bool × Int
/-- A frame to be built: function, pc, locals, stack. -/
abbrev PartT := Int × Int × List SrcT × List SrcT
/-- An instruction: kind, R, A, B, K, arguments, cost, its meta, pc. -/
abbrev IrT := Int × Int × Int × Int × Int × List Int × Int × Int × Int
/-- Code: function, registers, instructions, metas. -/
abbrev CdT := Int × Int × List IrT × List (List PartT)
def noSrc : SrcT := (false, 0)
def noPart : PartT := (0, 0, [], [])
def noIr : IrT := (0, 0, 0, 0, 0, [], 0, 0, 0)
def noCd : CdT := (0, 0, [], [])

def regB (regs x : Int) : Bool := decide (0 ≤ x ∧ x < regs)
def placeOk (n at_ : Nat) (k cost : Int) : Bool := decide (0 ≤ k ∧ k < n ∧ ((at_ : Int) < k ∨ 0 < cost))
/-- All fields but the kind, the cost and the pc. -/
abbrev Flds := Int × Int × Int × Int × List Int × Int
/-- What a kind asks of its fields: is it so, and which fields it names (as they are; the others 0). -/
def kindAsk (ps : List Fn) (regs : Int) (n m at_ : Nat) (x : IrT) : Bool × Flds :=
  match x with
  | (kd, r, a, b, k, args, cost, mt, _) =>
    if kd = 0 ∨ kd = 11 then (true, 0, 0, 0, 0, [], 0)
    else if kd = 1 then (regB regs r && isNum k, r, 0, 0, k, [], 0)
    else if kd = 2 then (regB regs r && regB regs a, r, a, 0, 0, [], 0)
    else if kd = 3 then (regB regs r && (regB regs a && (regB regs b && decide (3 ≤ k ∧ k ≤ 9))), r, a, b, k, [], 0)
    else if kd = 4 then (placeOk n at_ k cost, 0, 0, 0, k, [], 0)
    else if kd = 5 then (regB regs a && placeOk n at_ k cost, 0, a, 0, k, [], 0)
    else if kd = 6 then (regB regs r && (inB ps.length k && (decide (0 < cost) && (decide ((args.length : Int) = (ps.getD k.toNat noFn).1) && args.all (regB regs)))), r, 0, 0, k, args, 0)
    else if kd = 7 then (regB regs a && decide (0 < cost), 0, a, 0, 0, [], 0)
    else if kd = 8 then (regB regs a, 0, a, 0, 0, [], 0)
    else if kd = 9 then (regB regs a && (decide (b = 0 ∨ b = 1) && (isNum k && inB m mt)), 0, a, b, k, [], mt)
    else if kd = 10 then (inB m mt, 0, 0, 0, 0, [], mt)
    else (false, 0, 0, 0, 0, [], 0)
def headI (cost pc : Int) : Bool := decide (0 ≤ cost ∧ cost ≤ 256 ∧ 0 ≤ pc ∧ pc < 64)
def irB (ps : List Fn) (regs : Int) (n m at_ : Nat) (x : IrT) : Bool :=
  match x with
  | (kd, r, a, b, k, args, cost, mt, pc) => headI cost pc && ((kindAsk ps regs n m at_ x).1 && decide ((r, a, b, k, args, mt) = (kindAsk ps regs n m at_ x).2))
def srcB (regs : Int) (s : SrcT) : Bool := if s.1 = true then isNum s.2 else regB regs s.2
def srcsB (regs : Int) (l : List SrcT) (k : Int) : Bool := l.all (srcB regs) && decide ((l.length : Int) = k)
def partB (ps : List Fn) (regs : Int) (less : Int) (x : PartT) : Bool :=
  reachedB ps x.1 x.2.1 && (srcsB regs x.2.2.1 (ps.getD x.1.toNat noFn).2.1 && srcsB regs x.2.2.2 (heightV ps x.1 x.2.1 - less))
def metaB (ps : List Fn) (fn regs : Int) (m : List PartT) : Bool :=
  match m with
  | [x] => decide (x.1 = fn) && partB ps regs 0 x
  | [x, y] => decide (x.1 = fn) && (partB ps regs 1 x && (behindB ps x.1 x.2.1 y.1 && partB ps regs 0 y))
  | _ => false
def headC (ps : List Fn) (c : CdT) : Bool :=
  inB ps.length c.1 && decide (1 ≤ c.2.1 ∧ (ps.getD c.1.toNat noFn).2.1 ≤ c.2.1 ∧ c.2.1 ≤ 64 ∧ 1 ≤ c.2.2.1.length ∧ c.2.2.1.length ≤ 256 ∧ c.2.2.2.length ≤ 64)
def irsB (ps : List Fn) (c : CdT) (n : Nat) : Bool := (List.range n).all fun i => irB ps c.2.1 c.2.2.1.length c.2.2.2.length i (c.2.2.1.getD i noIr)
def lastB (c : CdT) : Bool := decide ((c.2.2.1.getD (c.2.2.1.length - 1) noIr).1 = 4 ∨ (c.2.2.1.getD (c.2.2.1.length - 1) noIr).1 = 8)
/-- May the code be? -/
def codeMayB (ps : List Fn) (c : CdT) : Bool := decide (verV ps = 0) && (headC ps c && (irsB ps c c.2.2.1.length && (c.2.2.2.all (metaB ps c.1 c.2.1) && lastB c)))
/-- Is the place i a leader? -/
def gotoB (x : IrT) (i : Nat) : Bool := decide ((x.1 = 4 ∨ x.1 = 5) ∧ x.2.2.2.2.1 = i)
def endsB (x : IrT) : Bool := decide (x.1 = 4 ∨ x.1 = 5 ∨ x.1 = 8)
def leaderB (code : List IrT) (i : Nat) : Bool := decide (i = 0) || (code.any (fun x => gotoB x i) || (decide (1 ≤ i) && endsB (code.getD (i - 1) noIr)))
def leadsB (code : List IrT) : List Bool := (List.range code.length).map (leaderB code)

end Go.Proofs.YtaimpljkbpnigaaGreatDoor

namespace Go.Proofs.YtaimpljkbpnigaaGreatDoor
open Go.RowKit
set_option linter.unusedVariables false

/-- So many registers from one on. -/
def rowsV (base : Int) (k : Nat) : List SrcT := (List.range k).map (fun i : Nat => (false, base + (i : Int)))
/-- The plain part of a pc, with so many less on the stack, registers so much more. -/
def plainV (ps : List Fn) (fn pc less base : Int) : PartT :=
  (fn, pc, rowsV base (ps.getD fn.toNat noFn).2.1.toNat, rowsV (base + (ps.getD fn.toNat noFn).2.1) (heightV ps fn pc - less).toNat)
/-- What an instruction becomes; top: the first register above the stack. -/
def oneV (ps : List Fn) (top pc : Int) (x : Int × Int) : IrT :=
  if x.1 = 0 then (1, top, 0, 0, x.2, [], 1, 0, pc)
  else if x.1 = 1 then (2, top, x.2, 0, 0, [], 1, 0, pc)
  else if x.1 = 2 then (2, x.2, top - 1, 0, 0, [], 1, 0, pc)
  else if x.1 = 10 then (2, top, top - 1, 0, 0, [], 1, 0, pc)
  else if x.1 = 11 then (0, 0, 0, 0, 0, [], 1, 0, pc)
  else if x.1 = 12 then (4, 0, 0, 0, x.2, [], 1, 0, pc)
  else if x.1 = 13 then (5, 0, top - 1, 0, x.2, [], 1, 0, pc)
  else if x.1 = 15 then (7, 0, top - 1, 0, 0, [], 1, 0, pc)
  else if x.1 = 16 then (8, 0, top - 1, 0, 0, [], 1, 0, pc)
  else if x.1 = 14 then (6, top - (ps.getD x.2.toNat noFn).1, 0, 0, x.2, (List.range (ps.getD x.2.toNat noFn).1.toNat).map (fun i : Nat => top - (ps.getD x.2.toNat noFn).1 + (i : Int)), 1, 0, pc)
  else (3, top - 2, top - 2, top - 1, x.1, [], 1, 0, pc)
/-- Does it go back? -/
def backB (pc : Int) (x : Int × Int) : Bool := decide ((x.1 = 12 ∨ x.1 = 13) ∧ x.2 ≤ pc)
/-- What stands in the code ahead of pc k: the code so far, its metas, the places. -/
abbrev LowT := List IrT × List (List PartT) × List Int
def lowStep (ps : List Fn) (fn : Nat) (f : Fn) (s : LowT) (pc : Nat) : LowT :=
  if heightV ps (fn : Int) (pc : Int) < 0 then (s.1, s.2.1, s.2.2 ++ [(s.1.length : Int)])
  else
    let x := insAt f.2.2 pc
    let y := oneV ps (f.2.1 + heightV ps (fn : Int) (pc : Int)) (pc : Int) x
    if backB (pc : Int) x = true then (s.1 ++ [(10, 0, 0, 0, 0, [], 0, (s.2.1.length : Int), (pc : Int)), y], s.2.1 ++ [[plainV ps (fn : Int) (pc : Int) 0 0]], s.2.2 ++ [(s.1.length : Int)])
    else (s.1 ++ [y], s.2.1, s.2.2 ++ [(s.1.length : Int)])
def lowN (ps : List Fn) (fn : Nat) (f : Fn) : Nat → LowT
  | 0 => ([], [], [])
  | k + 1 => lowStep ps fn f (lowN ps fn f k) k
/-- The places put right. -/
def toPlace (places : List Int) (x : IrT) : IrT :=
  if x.1 = 4 ∨ x.1 = 5 then (x.1, x.2.1, x.2.2.1, x.2.2.2.1, places.getD x.2.2.2.2.1.toNat 0, x.2.2.2.2.2) else x
def lowOk (ps : List Fn) (fn : Int) : Bool := decide (verV ps = 0) && inB ps.length fn
def lowerV (ps : List Fn) (fn : Int) : CdT :=
  if lowOk ps fn = true then
    let f := ps.getD fn.toNat noFn
    let s := lowN ps fn.toNat f f.2.2.length
    (fn, f.2.1 + 8, s.1.map (toPlace s.2.2), s.2.1)
  else noCd
def lowerE (ps : List Fn) (fn : Int) : Int := if lowOk ps fn = true then 0 else 1100
theorem low_places (ps : List Fn) (fn : Nat) (f : Fn) : ∀ k, (lowN ps fn f k).2.2.length = k
  | 0 => rfl
  | k + 1 => by
    simp only [lowN, lowStep]
    split
    · simp [low_places ps fn f k]
    · split <;> simp [low_places ps fn f k]
theorem low_len (ps : List Fn) (fn : Nat) (f : Fn) : ∀ k, (lowN ps fn f k).1.length ≤ 2 * k ∧ (lowN ps fn f k).2.1.length ≤ k
  | 0 => by simp [lowN]
  | k + 1 => by
    have := low_len ps fn f k
    simp only [lowN, lowStep]
    split
    · simp; omega
    · split <;> simp <;> omega

end Go.Proofs.YtaimpljkbpnigaaGreatDoor

namespace Go.Proofs.YtaimpljkbpnigaaGreatDoor
open Go.RowKit
set_option linter.unusedVariables false

/-- The sorts of a kind's fields (R, A, B, K, Args, Meta): 0 nothing, 1 a register, 2 a number, 3 an operation, 4 a place, 5 a function, 6 a meta, 7 a turn. -/
abbrev Srts := Int × Int × Int × Int × Int × Int
def noSrt : Srts := (0, 0, 0, 0, 0, 0)
def sortsT (kd : Int) : Srts :=
  if kd = 0 then noSrt else if kd = 1 then (1, 0, 0, 2, 0, 0) else if kd = 2 then (1, 1, 0, 0, 0, 0) else if kd = 3 then (1, 1, 1, 3, 0, 0) else if kd = 4 then (0, 0, 0, 4, 0, 0)
  else if kd = 5 then (0, 1, 0, 4, 0, 0) else if kd = 6 then (1, 0, 0, 5, 1, 0) else if kd = 7 then (0, 1, 0, 0, 0, 0) else if kd = 8 then (0, 1, 0, 0, 0, 0) else if kd = 9 then (0, 1, 7, 2, 0, 6)
  else if kd = 10 then (0, 0, 0, 0, 0, 6) else noSrt
def irKindB (kd : Int) : Bool := decide (0 ≤ kd ∧ kd ≤ 11)
/-- May x stand in a field of that sort? -/
def holdsB (np : Nat) (regs : Int) (n m : Nat) (s x : Int) : Bool :=
  if s = 1 then regB regs x else if s = 2 then isNum x else if s = 3 then decide (3 ≤ x ∧ x ≤ 9) else if s = 4 then inB n x else if s = 5 then inB np x else if s = 6 then inB m x else if s = 7 then inB 2 x else decide (x = 0)
/-- As many arguments as K asks for, each one that may stand there. -/
def argsOk (ps : List Fn) (regs : Int) (n m : Nat) (sk sa k : Int) (args : List Int) : Bool :=
  decide ((args.length : Int) = (if sk = 5 then (ps.getD k.toNat noFn).1 else 0)) && args.all (holdsB ps.length regs n m sa)
/-- What the kind asks of the fields, one by one. -/
def fieldsB (ps : List Fn) (regs : Int) (n m : Nat) (x : IrT) : Bool :=
  match x with
  | (kd, r, a, b, k, args, cost, mt, pc) =>
    match sortsT kd with
    | (sr, sa, sb, sk, sg, sm) =>
      irKindB kd && (inB 257 cost && (inB 64 pc && (holdsB ps.length regs n m sr r && (holdsB ps.length regs n m sa a && (holdsB ps.length regs n m sb b && (holdsB ps.length regs n m sk k && (holdsB ps.length regs n m sm mt && argsOk ps regs n m sk sg k args)))))))
def leastV (at_ : Nat) (kd k : Int) : Int := if kd = 4 ∨ kd = 5 then (if (at_ : Int) < k then 0 else 1) else if kd = 6 ∨ kd = 7 then 1 else 0
theorem holds_zero {np : Nat} {regs : Int} {n m : Nat} {x : Int} : holdsB np regs n m 0 x = decide (x = 0) := rfl
theorem args_zero {ps : List Fn} {regs : Int} {n m : Nat} {k sk : Int} {args : List Int} (h : ¬ sk = 5) : argsOk ps regs n m sk 0 k args = decide (args = []) := by
  unfold argsOk
  rw [if_neg h]
  cases args with
  | nil => simp
  | cons a l => simp; omega
theorem ir_same {ps : List Fn} {regs : Int} {n m at_ : Nat} {x : IrT} : (fieldsB ps regs n m x && decide (leastV at_ x.1 x.2.2.2.2.1 ≤ x.2.2.2.2.2.2.1)) = irB ps regs n m at_ x := by
  obtain ⟨kd, r, a, b, k, args, cost, mt, pc⟩ := x
  by_cases hk : 0 ≤ kd ∧ kd ≤ 11
  · have hc : kd = 0 ∨ kd = 1 ∨ kd = 2 ∨ kd = 3 ∨ kd = 4 ∨ kd = 5 ∨ kd = 6 ∨ kd = 7 ∨ kd = 8 ∨ kd = 9 ∨ kd = 10 ∨ kd = 11 := by omega
    by_cases hp : (at_ : Int) < k
    all_goals
      rw [Bool.eq_iff_iff]
      rcases hc with rfl | rfl | rfl | rfl | rfl | rfl | rfl | rfl | rfl | rfl | rfl | rfl <;>
        simp only [fieldsB, sortsT, noSrt, irB, kindAsk, headI, leastV, irKindB, placeOk, inB, regB, holdsB, argsOk, Bool.and_eq_true, decide_eq_true_eq, Prod.mk.injEq, if_true, if_false, Int.reduceEq, Int.reduceLE, true_and, and_true, or_true, true_or, or_false, false_or, List.all_eq_true, hp] <;>
        (refine ⟨fun h => ?_, fun h => ?_⟩) <;> simp_all <;> omega
  · have e1 : irKindB kd = false := by unfold irKindB; exact decide_eq_false hk
    have e2 : (kindAsk ps regs n m at_ (kd, r, a, b, k, args, cost, mt, pc)).1 = false := by
      simp only [kindAsk]
      repeat (rw [if_neg (by omega)])
    simp only [fieldsB, irB, e1, e2, Bool.false_and, Bool.and_false]

end Go.Proofs.YtaimpljkbpnigaaGreatDoor

namespace Go.Proofs.YtaimpljkbpnigaaGreatDoor
open Go.RowKit
set_option linter.unusedVariables false
variable {ps : List Fn} {rg : Int} {cn mn q : Nat} {r ra rb k cost mt ip : Int} {args : List Int}

theorem irB_k0 : irB ps rg cn mn q (0, r, ra, rb, k, args, cost, mt, ip) = (headI cost ip && (true && decide ((r, ra, rb, k, args, mt) = (0, 0, 0, 0, [], 0)))) := rfl
theorem irB_k1 : irB ps rg cn mn q (1, r, ra, rb, k, args, cost, mt, ip) = (headI cost ip && ((regB rg r && isNum k) && decide ((r, ra, rb, k, args, mt) = (r, 0, 0, k, [], 0)))) := rfl
theorem irB_k2 : irB ps rg cn mn q (2, r, ra, rb, k, args, cost, mt, ip) = (headI cost ip && ((regB rg r && regB rg ra) && decide ((r, ra, rb, k, args, mt) = (r, ra, 0, 0, [], 0)))) := rfl
theorem irB_k3 : irB ps rg cn mn q (3, r, ra, rb, k, args, cost, mt, ip) = (headI cost ip && ((regB rg r && (regB rg ra && (regB rg rb && decide (3 ≤ k ∧ k ≤ 9)))) && decide ((r, ra, rb, k, args, mt) = (r, ra, rb, k, [], 0)))) := rfl
theorem irB_k4 : irB ps rg cn mn q (4, r, ra, rb, k, args, cost, mt, ip) = (headI cost ip && (placeOk cn q k cost && decide ((r, ra, rb, k, args, mt) = (0, 0, 0, k, [], 0)))) := rfl
theorem irB_k5 : irB ps rg cn mn q (5, r, ra, rb, k, args, cost, mt, ip) = (headI cost ip && ((regB rg ra && placeOk cn q k cost) && decide ((r, ra, rb, k, args, mt) = (0, ra, 0, k, [], 0)))) := rfl
theorem irB_k6 : irB ps rg cn mn q (6, r, ra, rb, k, args, cost, mt, ip) = (headI cost ip && ((regB rg r && (inB ps.length k && (decide (0 < cost) && (decide ((args.length : Int) = (ps.getD k.toNat noFn).1) && args.all (regB rg))))) && decide ((r, ra, rb, k, args, mt) = (r, 0, 0, k, args, 0)))) := rfl
theorem irB_k7 : irB ps rg cn mn q (7, r, ra, rb, k, args, cost, mt, ip) = (headI cost ip && ((regB rg ra && decide (0 < cost)) && decide ((r, ra, rb, k, args, mt) = (0, ra, 0, 0, [], 0)))) := rfl
theorem irB_k8 : irB ps rg cn mn q (8, r, ra, rb, k, args, cost, mt, ip) = (headI cost ip && (regB rg ra && decide ((r, ra, rb, k, args, mt) = (0, ra, 0, 0, [], 0)))) := rfl
theorem irB_k9 : irB ps rg cn mn q (9, r, ra, rb, k, args, cost, mt, ip) = (headI cost ip && ((regB rg ra && (decide (rb = 0 ∨ rb = 1) && (isNum k && inB mn mt))) && decide ((r, ra, rb, k, args, mt) = (0, ra, rb, k, [], mt)))) := rfl
theorem irB_k10 : irB ps rg cn mn q (10, r, ra, rb, k, args, cost, mt, ip) = (headI cost ip && (inB mn mt && decide ((r, ra, rb, k, args, mt) = (0, 0, 0, 0, [], mt)))) := rfl
theorem irB_k11 : irB ps rg cn mn q (11, r, ra, rb, k, args, cost, mt, ip) = (headI cost ip && (true && decide ((r, ra, rb, k, args, mt) = (0, 0, 0, 0, [], 0)))) := rfl
theorem irB_no {kd : Int} (h : ¬ (0 ≤ kd ∧ kd ≤ 11)) : irB ps rg cn mn q (kd, r, ra, rb, k, args, cost, mt, ip) = false := by
  have e2 : (kindAsk ps rg cn mn q (kd, r, ra, rb, k, args, cost, mt, ip)).1 = false := by
    simp only [kindAsk]
    repeat (rw [if_neg (by omega)])
  simp only [irB, e2, Bool.false_and, Bool.and_false]

end Go.Proofs.YtaimpljkbpnigaaGreatDoor
