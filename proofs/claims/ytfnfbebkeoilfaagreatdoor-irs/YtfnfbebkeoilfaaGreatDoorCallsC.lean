/- Package calls: Waits. -/
import Derived.Test.YtfnfbebkeoilfaaGreatDoorCallsB
namespace Go.Proofs.YtfnfbebkeoilfaaGreatDoor
open Go.RowKit
set_option linter.unusedVariables false

/-- May a call wait there for one of called? -/
def waitsB (ps : List Fn) (fn pc ln sn called : Int) : Bool := runB ps fn pc ln (sn + 1) && isCallB ps fn (pc - 1) called
set_option maxRecDepth 100000 in
set_option maxHeartbeats 4000000 in
theorem tabWaits_any (pa : Option Addr) (pn pc : Nat) (ha : Option Addr) (hn hc : Nat) (ps : List Fn) (fn x ln sn called : Int) (w : World) (hp : Fns w pa pn pc ps) (hh : Hts w ha hn hc (htsAll ps)) (hv : verV ps = 0) (hs0 : 0 ≤ sn) (hs1 : sn ≤ 140737488351232) :
    Calls Tryz.prog 68 #[.agg #[.slice pa pn pc, .slice ha hn hc], .int .i64 fn, .int .i64 x, .int .i64 ln, .int .i64 sn, .int .i64 called] w fun e w' => e = .returned (.bool (waitsB ps fn x ln sn called)) ∧ Below w.heap.size w w' := by
  have HP := hid hp
  have HH := hid hh
  have HV := hid hv
  clear hv hp hh
  go_enter Tryz.func68, Tryz.ntmps68
  go_wp2_with fail
  refine (tabRuns_any _ _ _ _ _ _ ps fn x ln (sn + 1) _ (HP.out.kept (by go_grown)) (HH.out.kept (by go_grown)) HV.out).mono ?_
  rintro e U ⟨rfl, bU⟩
  have B : Hid (Below w.heap.size w U) := hid (kt (by go_grown) bU)
  have p0 := kept_cell bU (b := w.heap.size) (o := 0) (v := .slice pa pn pc) (by simp [go_sem])
  have p1 := kept_cell bU (b := w.heap.size) (o := 1) (v := .slice ha hn hc) (by simp [go_sem])
  clear bU
  cases hrb : runB ps fn x ln (sn + 1)
  · have E : Hid (waitsB ps fn x ln sn called = false) := hid (by unfold waitsB; rw [hrb]; rfl)
    clear hrb
    go_wp2_with fail
    go_ret
    exact ⟨ret_bool E.out.symm, B.out⟩
  · have hh0 : 0 ≤ heightV ps fn x := by
      have : reachedB ps fn x = true := by unfold runB at hrb; exact (Bool.and_eq_true_iff.1 hrb).1
      simpa [reachedB] using this
    have E : Hid (waitsB ps fn x ln sn called = isCallB ps fn (x - 1) called) := hid (by unfold waitsB; rw [hrb]; rfl)
    obtain ⟨f, q, -, rfl, -, hq, -, -, -⟩ := reached_in hh0
    have hq64 : q < 64 := (reached_small hh0)
    clear hrb hh0 hq
    go_wp2_with fail
    refine (tabIsCall_any _ _ _ _ _ _ ps fn ((q : Int) - 1) called _ (HP.out.kept B.out) (HH.out.kept B.out) HV.out).mono ?_
    rintro e U2 ⟨rfl, b2⟩
    go_wp2_with fail
    go_ret
    exact ⟨ret_bool E.out.symm, kt B.out b2⟩

end Go.Proofs.YtfnfbebkeoilfaaGreatDoor
