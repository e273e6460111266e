/- The document's own answer: may sources be so many? Written by refmetagen.py. -/
import Derived.Test.YtfnfbebkeoilfaaGreatDoorRefIrA
import Derived.Test.YtfnfbebkeoilfaaGreatDoorPlainIr
import Derived.Lib.QuietBelow
namespace Go.Proofs.YtfnfbebkeoilfaaGreatDoor
open Go.RowKit
set_option linter.unusedVariables false

set_option maxRecDepth 100000 in
set_option maxHeartbeats 4000000 in
theorem refSrcs_any (cf rg : Int) (ca : Option Addr) (cn cc : Nat) (ma : Option Addr) (mn mc : Nat) (la : Option Addr) (ln lc : Nat) (ll : List SrcT) (k0 : Int) (w : World) (hl : Sl laySrcs 16 w la ln lc ll) :
    Calls Tryz.prog 41 #[.agg #[.int .i64 cf, .int .i64 rg, .slice ca cn cc, .slice ma mn mc], .slice la ln lc, .int .i64 k0] w fun e w' => e = .returned (.bool (srcsB rg ll k0)) ∧ Below w.heap.size w w' := by
  have L := hid hl.len
  have hlr := hl.room
  have hlc := hl.cap
  have HL := hid hl
  clear hl
  go_enter Tryz.func41, Tryz.ntmps41
  go_wp2_with fail
  go_loopw [7] (fun i wr => ∃ q : Nat, q ≤ ln ∧ i = .int .i64 q ∧ (ll.take q).all (srcB rg) = true ∧ wr.cell? ⟨w.heap.size, 0, none⟩ = some (.int .i64 cf) ∧ wr.cell? ⟨w.heap.size, 1, none⟩ = some (.int .i64 rg) ∧ wr.cell? ⟨w.heap.size, 2, none⟩ = some (.slice ca cn cc) ∧ wr.cell? ⟨w.heap.size, 3, none⟩ = some (.slice ma mn mc) ∧ Below w.heap.size w wr) (fun i _ => ln - (intOf i).toNat)
  case atStart => exact ⟨0, Nat.zero_le _, rfl, by simp, by simp [go_sem], by simp [go_sem], by simp [go_sem], by simp [go_sem], by go_grown⟩
  case round =>
    obtain ⟨q, hq, rfl, ht, z0, z1, z2, z3, hb⟩ := hrel
    have HT := hid ht
    clear ht
    by_cases hlt : q < ln
    · obtain ⟨b, o, k, v, rfl, hx, c0, c1⟩ := src_at (HL.out.kept hb) q hlt
      have HX := hid hx
      have d0 := cell_regrown c0
      have d1 := cell_regrown c1
      have r0 := cell_regrown z0
      have r1 := cell_regrown z1
      have r2 := cell_regrown z2
      have r3 := cell_regrown z3
      have q0 : (0 : Int) ≤ (q : Int) := by omega
      have q1 : (q : Int) < (ln : Int) := by omega
      clear hx
      go_wp2_with fail
      cases k
      · cases hv : regB rg v
        case false =>
          have SR : Hid (∀ u, Calls Tryz.prog 38 #[.agg #[.int .i64 cf, .int .i64 rg, .slice ca cn cc, .slice ma mn mc], .int .i64 v] u fun e w' => e = .returned (.bool false) ∧ Below u.heap.size u w') := hid (fun u => (refReg_any cf rg _ _ _ _ _ _ v u).mono (fun _ _ h => ⟨by rw [h.1, hv], h.2⟩))
          have F : Hid (srcsB rg ll k0 = false) := hid (by unfold srcsB; rw [List.all_eq_false.2 ⟨_, List.mem_of_getElem? HX.out, by rw [show srcB rg (false, v) = false from hv]; simp⟩]; rfl)
          clear hv
          refine wp_region_quiet_below (by kernel_rfl) (by kernel_rfl) ?_
          repeat (go_big_quiet_step (first | fail | (go_at_call 38; exact Calls.regrown_of (SR.out _))))
          refine wpQuiet_nil ?_
          intro _ hw'
          obtain ⟨⟨dq, osq⟩, hw''⟩ := hw'
          subst hw''
          go_wp2_with fail
          go_ret
          exact ⟨ret_bool F.out.symm, kt hb (below_regrown _ _ _)⟩
        case true =>
          have SR : Hid (∀ u, Calls Tryz.prog 38 #[.agg #[.int .i64 cf, .int .i64 rg, .slice ca cn cc, .slice ma mn mc], .int .i64 v] u fun e w' => e = .returned (.bool true) ∧ Below u.heap.size u w') := hid (fun u => (refReg_any cf rg _ _ _ _ _ _ v u).mono (fun _ _ h => ⟨by rw [h.1, hv], h.2⟩))
          have F : Hid ((ll.take (q + 1)).all (srcB rg) = true) := hid (by rw [List.take_add_one, List.all_append, HT.out, HX.out]; show (true && (srcB rg (false, v) && true)) = true; rw [show srcB rg (false, v) = true from hv]; rfl)
          clear hv
          refine wp_region_quiet_below (by kernel_rfl) (by kernel_rfl) ?_
          repeat (go_big_quiet_step (first | fail | (go_at_call 38; exact Calls.regrown_of (SR.out _))))
          refine wpQuiet_nil ?_
          intro _ hw'
          obtain ⟨⟨dq, osq⟩, hw''⟩ := hw'
          subst hw''
          go_wp2_with fail
          go_roundw
          case rel => exact ⟨q + 1, by omega, by go_num, F.out, kept_cell (below_regrown _ _ _) z0, kept_cell (below_regrown _ _ _) z1, kept_cell (below_regrown _ _ _) z2, kept_cell (below_regrown _ _ _) z3, kt hb (below_regrown _ _ _)⟩
          case measure => simp [intOf]; omega
      · cases hv : isNum v
        case false =>
          have SN : Hid (∀ u, Calls Tryz.prog 39 #[.int .i64 v] u fun e w' => e = .returned (.bool false) ∧ Below u.heap.size u w') := hid (fun u => (refNumber_any v u).mono (fun _ _ h => ⟨by rw [h.1, hv], h.2 ▸ Below.refl _ _⟩))
          have F : Hid (srcsB rg ll k0 = false) := hid (by unfold srcsB; rw [List.all_eq_false.2 ⟨_, List.mem_of_getElem? HX.out, by rw [show srcB rg (true, v) = false from hv]; simp⟩]; rfl)
          clear hv
          refine wp_region_quiet_below (by kernel_rfl) (by kernel_rfl) ?_
          repeat (go_big_quiet_step (first | (go_at_call 39; exact Calls.regrown_of (SN.out _)) | fail))
          refine wpQuiet_nil ?_
          intro _ hw'
          obtain ⟨⟨dq, osq⟩, hw''⟩ := hw'
          subst hw''
          go_wp2_with fail
          go_ret
          exact ⟨ret_bool F.out.symm, kt hb (below_regrown _ _ _)⟩
        case true =>
          have SN : Hid (∀ u, Calls Tryz.prog 39 #[.int .i64 v] u fun e w' => e = .returned (.bool true) ∧ Below u.heap.size u w') := hid (fun u => (refNumber_any v u).mono (fun _ _ h => ⟨by rw [h.1, hv], h.2 ▸ Below.refl _ _⟩))
          have F : Hid ((ll.take (q + 1)).all (srcB rg) = true) := hid (by rw [List.take_add_one, List.all_append, HT.out, HX.out]; show (true && (srcB rg (true, v) && true)) = true; rw [show srcB rg (true, v) = true from hv]; rfl)
          clear hv
          refine wp_region_quiet_below (by kernel_rfl) (by kernel_rfl) ?_
          repeat (go_big_quiet_step (first | (go_at_call 39; exact Calls.regrown_of (SN.out _)) | fail))
          refine wpQuiet_nil ?_
          intro _ hw'
          obtain ⟨⟨dq, osq⟩, hw''⟩ := hw'
          subst hw''
          go_wp2_with fail
          go_roundw
          case rel => exact ⟨q + 1, by omega, by go_num, F.out, kept_cell (below_regrown _ _ _) z0, kept_cell (below_regrown _ _ _) z1, kept_cell (below_regrown _ _ _) z2, kept_cell (below_regrown _ _ _) z3, kt hb (below_regrown _ _ _)⟩
          case measure => simp [intOf]; omega
    · have hqn : q = ln := by omega
      subst hqn
      have ha : Hid (ll.all (srcB rg) = true) := hid (by have h := HT.out; rwa [List.take_of_length_le (by have := L.out; omega)] at h)
      by_cases hk : (q : Int) = k0
      · have F : Hid (srcsB rg ll k0 = true) := hid (by unfold srcsB; rw [ha.out, decide_eq_true (by rw [← L.out]; exact hk)]; rfl)
        have hk' : ((q : Int) == k0) = true := by simpa using hk
        clear hk
        go_wp2_with fail
        go_ret
        exact ⟨ret_bool F.out.symm, hb⟩
      · have F : Hid (srcsB rg ll k0 = false) := hid (by unfold srcsB; rw [ha.out, decide_eq_false (by rw [← L.out]; exact hk)]; rfl)
        have hk' : ((q : Int) == k0) = false := by simpa using hk
        clear hk
        go_wp2_with fail
        go_ret
        exact ⟨ret_bool F.out.symm, hb⟩

end Go.Proofs.YtfnfbebkeoilfaaGreatDoor
