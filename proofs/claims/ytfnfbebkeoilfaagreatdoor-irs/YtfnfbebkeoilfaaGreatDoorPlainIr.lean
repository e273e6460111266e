/- Register code, reckoned: which code may be, which of its places are leaders. Nothing of the program is named here. -/
import Derived.Test.YtfnfbebkeoilfaaGreatDoorPlainFrame
namespace Go.Proofs.YtfnfbebkeoilfaaGreatDoor
open Go.RowKit
set_option linter.unusedVariables false

/-- A source: is it a number, which number or register. -/
abbrev SrcT := Bool × Int
/-- A frame to be built: function, pc, locals, stack. -/
abbrev PartT := Int × Int × List SrcT × List SrcT
/-- An instruction: kind, R, A, B, K, arguments, cost, its meta, pc. -/
abbrev IrT := Int × Int × Int × Int × Int × List Int × Int × Int × Int
/-- Code: function, registers, instructions, metas. -/
abbrev CdT := Int × Int × List IrT × List (List PartT)
def noSrc : SrcT := (false, 0)
def noPart : PartT := (0, 0, [], [])
def noIr : IrT := (0, 0, 0, 0, 0, [], 0, 0, 0)
def noCd : CdT := (0, 0, [], [])

def regB (regs x : Int) : Bool := decide (0 ≤ x ∧ x < regs)
def placeOk (n at_ : Nat) (k cost : Int) : Bool := decide (0 ≤ k ∧ k < n ∧ ((at_ : Int) < k ∨ 0 < cost))
/-- All fields but the kind, the cost and the pc. -/
abbrev Flds := Int × Int × Int × Int × List Int × Int
/-- What a kind asks of its fields: is it so, and which fields it names (as they are; the others 0). -/
def kindAsk (ps : List Fn) (regs : Int) (n m at_ : Nat) (x : IrT) : Bool × Flds :=
  match x with
  | (kd, r, a, b, k, args, cost, mt, _) =>
    if kd = 0 ∨ kd = 11 then (true, 0, 0, 0, 0, [], 0)
    else if kd = 1 then (regB regs r && isNum k, r, 0, 0, k, [], 0)
    else if kd = 2 then (regB regs r && regB regs a, r, a, 0, 0, [], 0)
    else if kd = 3 then (regB regs r && (regB regs a && (regB regs b && decide (3 ≤ k ∧ k ≤ 9))), r, a, b, k, [], 0)
    else if kd = 4 then (placeOk n at_ k cost, 0, 0, 0, k, [], 0)
    else if kd = 5 then (regB regs a && placeOk n at_ k cost, 0, a, 0, k, [], 0)
    else if kd = 6 then (regB regs r && (inB ps.length k && (decide (0 < cost) && (decide ((args.length : Int) = (ps.getD k.toNat noFn).1) && args.all (regB regs)))), r, 0, 0, k, args, 0)
    else if kd = 7 then (regB regs a && decide (0 < cost), 0, a, 0, 0, [], 0)
    else if kd = 8 then (regB regs a, 0, a, 0, 0, [], 0)
    else if kd = 9 then (regB regs a && (decide (b = 0 ∨ b = 1) && (isNum k && inB m mt)), 0, a, b, k, [], mt)
    else if kd = 10 then (inB m mt, 0, 0, 0, 0, [], mt)
    else (false, 0, 0, 0, 0, [], 0)
def headI (cost pc : Int) : Bool := decide (0 ≤ cost ∧ cost ≤ 256 ∧ 0 ≤ pc ∧ pc < 64)
def irB (ps : List Fn) (regs : Int) (n m at_ : Nat) (x : IrT) : Bool :=
  match x with
  | (kd, r, a, b, k, args, cost, mt, pc) => headI cost pc && ((kindAsk ps regs n m at_ x).1 && decide ((r, a, b, k, args, mt) = (kindAsk ps regs n m at_ x).2))
def srcB (regs : Int) (s : SrcT) : Bool := if s.1 = true then isNum s.2 else regB regs s.2
def srcsB (regs : Int) (l : List SrcT) (k : Int) : Bool := l.all (srcB regs) && decide ((l.length : Int) = k)
def partB (ps : List Fn) (regs : Int) (less : Int) (x : PartT) : Bool :=
  reachedB ps x.1 x.2.1 && (srcsB regs x.2.2.1 (ps.getD x.1.toNat noFn).2.1 && srcsB regs x.2.2.2 (heightV ps x.1 x.2.1 - less))
def metaB (ps : List Fn) (fn regs : Int) (m : List PartT) : Bool :=
  match m with
  | [x] => decide (x.1 = fn) && partB ps regs 0 x
  | [x, y] => decide (x.1 = fn) && (partB ps regs 1 x && (behindB ps x.1 x.2.1 y.1 && partB ps regs 0 y))
  | _ => false
def headC (ps : List Fn) (c : CdT) : Bool :=
  inB ps.length c.1 && decide (1 ≤ c.2.1 ∧ (ps.getD c.1.toNat noFn).2.1 ≤ c.2.1 ∧ c.2.1 ≤ 64 ∧ 1 ≤ c.2.2.1.length ∧ c.2.2.1.length ≤ 256 ∧ c.2.2.2.length ≤ 64)
def irsB (ps : List Fn) (c : CdT) (n : Nat) : Bool := (List.range n).all fun i => irB ps c.2.1 c.2.2.1.length c.2.2.2.length i (c.2.2.1.getD i noIr)
def lastB (c : CdT) : Bool := decide ((c.2.2.1.getD (c.2.2.1.length - 1) noIr).1 = 4 ∨ (c.2.2.1.getD (c.2.2.1.length - 1) noIr).1 = 8)
/-- May the code be? -/
def codeMayB (ps : List Fn) (c : CdT) : Bool := decide (verV ps = 0) && (headC ps c && (irsB ps c c.2.2.1.length && (c.2.2.2.all (metaB ps c.1 c.2.1) && lastB c)))
/-- Is the place i a leader? -/
def gotoB (x : IrT) (i : Nat) : Bool := decide ((x.1 = 4 ∨ x.1 = 5) ∧ x.2.2.2.2.1 = i)
def endsB (x : IrT) : Bool := decide (x.1 = 4 ∨ x.1 = 5 ∨ x.1 = 8)
def leaderB (code : List IrT) (i : Nat) : Bool := decide (i = 0) || (code.any (fun x => gotoB x i) || (decide (1 ≤ i) && endsB (code.getD (i - 1) noIr)))
def leadsB (code : List IrT) : List Bool := (List.range code.length).map (leaderB code)

end Go.Proofs.YtfnfbebkeoilfaaGreatDoor
