/- The document's own answer: may the instruction at a place be? Written by refcodegen.py. -/
import Derived.Test.YtfnfbebkeoilfaaGreatDoorRefIr0
import Derived.Test.YtfnfbebkeoilfaaGreatDoorRefIr1
import Derived.Test.YtfnfbebkeoilfaaGreatDoorRefIr2
import Derived.Test.YtfnfbebkeoilfaaGreatDoorRefIr3
import Derived.Test.YtfnfbebkeoilfaaGreatDoorRefIr4
import Derived.Test.YtfnfbebkeoilfaaGreatDoorRefIr5
import Derived.Test.YtfnfbebkeoilfaaGreatDoorRefIr6
import Derived.Test.YtfnfbebkeoilfaaGreatDoorRefIr7
import Derived.Test.YtfnfbebkeoilfaaGreatDoorRefIr8
import Derived.Test.YtfnfbebkeoilfaaGreatDoorRefIr9
import Derived.Test.YtfnfbebkeoilfaaGreatDoorRefIr10
import Derived.Test.YtfnfbebkeoilfaaGreatDoorRefIr11
import Derived.Test.YtfnfbebkeoilfaaGreatDoorRefIrN
namespace Go.Proofs.YtfnfbebkeoilfaaGreatDoor
open Go.RowKit
set_option linter.unusedVariables false

theorem refIrMay_any (pa : Option Addr) (pn pc : Nat) (ca : Option Addr) (cn cc : Nat) (ma : Option Addr) (mn mc : Nat) (ps : List Fn) (cf rg : Int) (q : Nat) (cl : List IrT) (w : World) (hp : Fns w pa pn pc ps) (hc : Sl layIr 88 w ca cn cc cl) (hm : mn * 24 ≤ 140737488351232) (hq : q < cn) :
    Calls Tryz.prog 21 #[.agg #[.slice pa pn pc], .agg #[.int .i64 cf, .int .i64 rg, .slice ca cn cc, .slice ma mn mc], .int .i64 (q : Int)] w fun e w' => ∃ x, cl[q]? = some x ∧ e = .returned (.bool (irB ps rg cn mn q x)) ∧ Below w.heap.size w w' := by
  have hr := hc.room
  have hcc := hc.cap
  obtain ⟨b, o, kd, r, ra, rb, k, xa, xn, xc, args, cost, mt, ip, rfl, hxq, e0, e1, e2, e3, e4, e5, e6, e7, e8, hx⟩ := ir_at hc q hq
  have fin : ∀ {e : Ending} {w' : World}, (e = .returned (.bool (irB ps rg cn mn q (kd, r, ra, rb, k, args, cost, mt, ip))) ∧ Below w.heap.size w w') → ∃ x, cl[q]? = some x ∧ e = .returned (.bool (irB ps rg cn mn q x)) ∧ Below w.heap.size w w' := fun h => ⟨_, hxq, h⟩
  by_cases hk : 0 ≤ kd ∧ kd ≤ 11
  · have hc : kd = 0 ∨ kd = 1 ∨ kd = 2 ∨ kd = 3 ∨ kd = 4 ∨ kd = 5 ∨ kd = 6 ∨ kd = 7 ∨ kd = 8 ∨ kd = 9 ∨ kd = 10 ∨ kd = 11 := by omega
    rcases hc with rfl | rfl | rfl | rfl | rfl | rfl | rfl | rfl | rfl | rfl | rfl | rfl
    · exact (refIr0_any pa pn pc cn cc ma mn mc ps cf rg q b o r ra rb k xa xn xc args cost mt ip w hp hq hr hcc hm e0 e1 e2 e3 e4 e5 e6 e7 e8 hx).mono (fun _ _ h => fin h)
    · exact (refIr1_any pa pn pc cn cc ma mn mc ps cf rg q b o r ra rb k xa xn xc args cost mt ip w hp hq hr hcc hm e0 e1 e2 e3 e4 e5 e6 e7 e8 hx).mono (fun _ _ h => fin h)
    · exact (refIr2_any pa pn pc cn cc ma mn mc ps cf rg q b o r ra rb k xa xn xc args cost mt ip w hp hq hr hcc hm e0 e1 e2 e3 e4 e5 e6 e7 e8 hx).mono (fun _ _ h => fin h)
    · exact (refIr3_any pa pn pc cn cc ma mn mc ps cf rg q b o r ra rb k xa xn xc args cost mt ip w hp hq hr hcc hm e0 e1 e2 e3 e4 e5 e6 e7 e8 hx).mono (fun _ _ h => fin h)
    · exact (refIr4_any pa pn pc cn cc ma mn mc ps cf rg q b o r ra rb k xa xn xc args cost mt ip w hp hq hr hcc hm e0 e1 e2 e3 e4 e5 e6 e7 e8 hx).mono (fun _ _ h => fin h)
    · exact (refIr5_any pa pn pc cn cc ma mn mc ps cf rg q b o r ra rb k xa xn xc args cost mt ip w hp hq hr hcc hm e0 e1 e2 e3 e4 e5 e6 e7 e8 hx).mono (fun _ _ h => fin h)
    · exact (refIr6_any pa pn pc cn cc ma mn mc ps cf rg q b o r ra rb k xa xn xc args cost mt ip w hp hq hr hcc hm e0 e1 e2 e3 e4 e5 e6 e7 e8 hx).mono (fun _ _ h => fin h)
    · exact (refIr7_any pa pn pc cn cc ma mn mc ps cf rg q b o r ra rb k xa xn xc args cost mt ip w hp hq hr hcc hm e0 e1 e2 e3 e4 e5 e6 e7 e8 hx).mono (fun _ _ h => fin h)
    · exact (refIr8_any pa pn pc cn cc ma mn mc ps cf rg q b o r ra rb k xa xn xc args cost mt ip w hp hq hr hcc hm e0 e1 e2 e3 e4 e5 e6 e7 e8 hx).mono (fun _ _ h => fin h)
    · exact (refIr9_any pa pn pc cn cc ma mn mc ps cf rg q b o r ra rb k xa xn xc args cost mt ip w hp hq hr hcc hm e0 e1 e2 e3 e4 e5 e6 e7 e8 hx).mono (fun _ _ h => fin h)
    · exact (refIr10_any pa pn pc cn cc ma mn mc ps cf rg q b o r ra rb k xa xn xc args cost mt ip w hp hq hr hcc hm e0 e1 e2 e3 e4 e5 e6 e7 e8 hx).mono (fun _ _ h => fin h)
    · exact (refIr11_any pa pn pc cn cc ma mn mc ps cf rg q b o r ra rb k xa xn xc args cost mt ip w hp hq hr hcc hm e0 e1 e2 e3 e4 e5 e6 e7 e8 hx).mono (fun _ _ h => fin h)
  · exact (refIrNo_any pa pn pc cn cc ma mn mc ps cf rg q b o kd r ra rb k xa xn xc args cost mt ip w hp hq hr hcc hm e0 e1 e2 e3 e4 e5 e6 e7 e8 hx hk).mono (fun _ _ h => fin h)

end Go.Proofs.YtfnfbebkeoilfaaGreatDoor
