/- Where straight pieces of register code begin, reckoned as a walk over the code. Nothing of the program is named here. -/
import Derived.Test.YtfnfbebkeoilfaaGreatDoorPlainIr
namespace Go.Proofs.YtfnfbebkeoilfaaGreatDoor
open Go.RowKit
set_option linter.unusedVariables false

def irLead (l : List Bool) (x : IrT) (at_ : Nat) : List Bool :=
  if x.1 = 4 ∨ x.1 = 5 then setB (setB l x.2.2.2.2.1) ((at_ : Int) + 1) else if x.1 = 8 then setB l ((at_ : Int) + 1) else l
def irLeadN (code : List IrT) : Nat → List Bool
  | 0 => setB (List.replicate code.length false) 0
  | q + 1 => irLead (irLeadN code q) (code.getD q noIr) q
def irLeads (code : List IrT) : List Bool := irLeadN code code.length
theorem irLead_len (l : List Bool) (x : IrT) (at_ : Nat) : (irLead l x at_).length = l.length := by
  unfold irLead; split
  · rw [setB_len, setB_len]
  · split
    · rw [setB_len]
    · rfl
theorem irLeadN_len (code : List IrT) : ∀ q, (irLeadN code q).length = code.length
  | 0 => by rw [irLeadN, setB_len, List.length_replicate]
  | q + 1 => by rw [irLeadN, irLead_len, irLeadN_len code q]
theorem irLead_jump {l : List Bool} {x : IrT} {q : Nat} (h : x.1 = 4 ∨ x.1 = 5) : irLead l x q = setB (setB l x.2.2.2.2.1) ((q : Int) + 1) := if_pos h
theorem irLead_ret {l : List Bool} {x : IrT} {q : Nat} (h : x.1 = 8) : irLead l x q = setB l ((q : Int) + 1) := by unfold irLead; rw [if_neg (by omega), if_pos h]
theorem irLead_no {l : List Bool} {x : IrT} {q : Nat} (h : ¬ x.1 = 4) (h5 : ¬ x.1 = 5) (h8 : ¬ x.1 = 8) : irLead l x q = l := by unfold irLead; rw [if_neg (by omega), if_neg h8]
theorem irLeadN_next {code : List IrT} {q : Nat} {x : IrT} (h : code[q]? = some x) : irLeadN code (q + 1) = irLead (irLeadN code q) x q := by
  rw [irLeadN, List.getD_eq_getElem?_getD, h]; rfl
theorem irLeadN_congr {code code' : List IrT} (hl : code.length = code'.length) : ∀ q, (∀ i, i < q → code.getD i noIr = code'.getD i noIr) → irLeadN code q = irLeadN code' q
  | 0, _ => by rw [irLeadN, irLeadN, hl]
  | q + 1, h => by rw [irLeadN, irLeadN, irLeadN_congr hl q (fun i hi => h i (by omega)), h q (by omega)]

end Go.Proofs.YtfnfbebkeoilfaaGreatDoor
