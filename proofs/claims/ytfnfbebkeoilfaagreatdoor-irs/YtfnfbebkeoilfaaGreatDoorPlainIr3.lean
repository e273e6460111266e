/- What may be, kind by kind. Nothing of the program is named here. -/
import Derived.Test.YtfnfbebkeoilfaaGreatDoorPlainIr
namespace Go.Proofs.YtfnfbebkeoilfaaGreatDoor
open Go.RowKit
set_option linter.unusedVariables false
variable {ps : List Fn} {rg : Int} {cn mn q : Nat} {r ra rb k cost mt ip : Int} {args : List Int}

theorem irB_k0 : irB ps rg cn mn q (0, r, ra, rb, k, args, cost, mt, ip) = (headI cost ip && (true && decide ((r, ra, rb, k, args, mt) = (0, 0, 0, 0, [], 0)))) := rfl
theorem irB_k1 : irB ps rg cn mn q (1, r, ra, rb, k, args, cost, mt, ip) = (headI cost ip && ((regB rg r && isNum k) && decide ((r, ra, rb, k, args, mt) = (r, 0, 0, k, [], 0)))) := rfl
theorem irB_k2 : irB ps rg cn mn q (2, r, ra, rb, k, args, cost, mt, ip) = (headI cost ip && ((regB rg r && regB rg ra) && decide ((r, ra, rb, k, args, mt) = (r, ra, 0, 0, [], 0)))) := rfl
theorem irB_k3 : irB ps rg cn mn q (3, r, ra, rb, k, args, cost, mt, ip) = (headI cost ip && ((regB rg r && (regB rg ra && (regB rg rb && decide (3 ≤ k ∧ k ≤ 9)))) && decide ((r, ra, rb, k, args, mt) = (r, ra, rb, k, [], 0)))) := rfl
theorem irB_k4 : irB ps rg cn mn q (4, r, ra, rb, k, args, cost, mt, ip) = (headI cost ip && (placeOk cn q k cost && decide ((r, ra, rb, k, args, mt) = (0, 0, 0, k, [], 0)))) := rfl
theorem irB_k5 : irB ps rg cn mn q (5, r, ra, rb, k, args, cost, mt, ip) = (headI cost ip && ((regB rg ra && placeOk cn q k cost) && decide ((r, ra, rb, k, args, mt) = (0, ra, 0, k, [], 0)))) := rfl
theorem irB_k6 : irB ps rg cn mn q (6, r, ra, rb, k, args, cost, mt, ip) = (headI cost ip && ((regB rg r && (inB ps.length k && (decide (0 < cost) && (decide ((args.length : Int) = (ps.getD k.toNat noFn).1) && args.all (regB rg))))) && decide ((r, ra, rb, k, args, mt) = (r, 0, 0, k, args, 0)))) := rfl
theorem irB_k7 : irB ps rg cn mn q (7, r, ra, rb, k, args, cost, mt, ip) = (headI cost ip && ((regB rg ra && decide (0 < cost)) && decide ((r, ra, rb, k, args, mt) = (0, ra, 0, 0, [], 0)))) := rfl
theorem irB_k8 : irB ps rg cn mn q (8, r, ra, rb, k, args, cost, mt, ip) = (headI cost ip && (regB rg ra && decide ((r, ra, rb, k, args, mt) = (0, ra, 0, 0, [], 0)))) := rfl
theorem irB_k9 : irB ps rg cn mn q (9, r, ra, rb, k, args, cost, mt, ip) = (headI cost ip && ((regB rg ra && (decide (rb = 0 ∨ rb = 1) && (isNum k && inB mn mt))) && decide ((r, ra, rb, k, args, mt) = (0, ra, rb, k, [], mt)))) := rfl
theorem irB_k10 : irB ps rg cn mn q (10, r, ra, rb, k, args, cost, mt, ip) = (headI cost ip && (inB mn mt && decide ((r, ra, rb, k, args, mt) = (0, 0, 0, 0, [], mt)))) := rfl
theorem irB_k11 : irB ps rg cn mn q (11, r, ra, rb, k, args, cost, mt, ip) = (headI cost ip && (true && decide ((r, ra, rb, k, args, mt) = (0, 0, 0, 0, [], 0)))) := rfl
theorem irB_no {kd : Int} (h : ¬ (0 ≤ kd ∧ kd ≤ 11)) : irB ps rg cn mn q (kd, r, ra, rb, k, args, cost, mt, ip) = false := by
  have e2 : (kindAsk ps rg cn mn q (kd, r, ra, rb, k, args, cost, mt, ip)).1 = false := by
    simp only [kindAsk]
    repeat (rw [if_neg (by omega)])
  simp only [irB, e2, Bool.false_and, Bool.and_false]

end Go.Proofs.YtfnfbebkeoilfaaGreatDoor
