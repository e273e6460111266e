/- Package ir: metas that may be. Written by irgen.py. -/
import Derived.Test.YtfnfbebkeoilfaaGreatDoorIrF
namespace Go.Proofs.YtfnfbebkeoilfaaGreatDoor
open Go.RowKit
set_option linter.unusedVariables false

set_option maxRecDepth 100000 in
set_option maxHeartbeats 8000000 in
theorem irMeta_any (pa : Option Addr) (pn pc : Nat) (ha : Option Addr) (hn hc : Nat) (ca : Option Addr) (cn cc : Nat) (ma : Option Addr) (mn mc : Nat) (ps : List Fn) (cl : List IrT) (ml : List (List PartT)) (cf rg : Int) (w : World) (K : Chk w pa pn pc ha hn hc ca cn cc ma mn mc ps cl ml) (ta : Option Addr) (tn tc : Nat) (tl : List PartT) (ht : Sl layPart 64 w ta tn tc tl) (hv : verV ps = 0) :
    Calls Tryz.prog 35 #[.agg #[.slice pa pn pc, .slice ha hn hc, .int .i64 cf, .int .i64 rg, .slice ca cn cc, .slice ma mn mc], .agg #[.slice ta tn tc]] w fun e w' => e = .returned (.bool (metaB ps cf rg tl)) ∧ Below w.heap.size w w' := by
  have HK := hid K
  have HV := hid hv
  have htr := ht.room
  have htc := ht.cap
  have LT := ht.len
  clear K hv
  by_cases h1 : tn = 1
  · subst h1
    obtain ⟨b0, o0, fn0, x0, la0, ln0, lc0, ll0, sa0, sn0, sc0, sl0, rfl, e0, t00, t01, t02, t03, hl0, hs0⟩ := part_at ht 0 (by omega)
    have E : Hid (metaB ps cf rg tl = (decide (fn0 = cf) && runP ps rg (fn0, x0, ll0, sl0))) := hid (by
      obtain ⟨y, rfl⟩ : ∃ y, tl = [y] := List.length_eq_one_iff.1 LT.symm
      cases e0
      rw [runP_eq]
      rfl)
    have HL0 := hid hl0
    have HS0 := hid hs0
    simp only [Nat.zero_mul, Nat.add_zero] at t00 t01 t02 t03
    clear e0 hl0 hs0 ht LT
    have z0 := lt_of_cell t00
    go_enter Tryz.func35, Tryz.ntmps35
    go_upto_region 3 with fail
    refine wp_name ?_
    intro U hU
    have B : Hid (Below w.heap.size w U) := hid (by rw [hU]; go_grown)
    have p0 : U.cell? ⟨w.heap.size, 0, none⟩ = some (.slice pa pn pc) := by rw [hU]; simp [go_sem]
    have p1 : U.cell? ⟨w.heap.size, 1, none⟩ = some (.slice ha hn hc) := by rw [hU]; simp [go_sem]
    have p2 : U.cell? ⟨w.heap.size, 2, none⟩ = some (.int .i64 cf) := by rw [hU]; simp [go_sem]
    have p3 : U.cell? ⟨w.heap.size, 3, none⟩ = some (.int .i64 rg) := by rw [hU]; simp [go_sem]
    have p4 : U.cell? ⟨w.heap.size, 4, none⟩ = some (.slice ca cn cc) := by rw [hU]; simp [go_sem]
    have p5 : U.cell? ⟨w.heap.size, 5, none⟩ = some (.slice ma mn mc) := by rw [hU]; simp [go_sem]
    have m0 : U.cell? ⟨w.heap.size + 1, 0, none⟩ = some (.slice (some ⟨b0, o0, none⟩) 1 tc) := by rw [hU]; simp [go_sem]
    replace t00 := kept_cell B.out t00
    replace t01 := kept_cell B.out t01
    replace t02 := kept_cell B.out t02
    replace t03 := kept_cell B.out t03
    replace p0 := cell_regrown p0
    replace p1 := cell_regrown p1
    replace p2 := cell_regrown p2
    replace p3 := cell_regrown p3
    replace p4 := cell_regrown p4
    replace p5 := cell_regrown p5
    replace m0 := cell_regrown m0
    replace t00 := cell_regrown t00
    replace t01 := cell_regrown t01
    replace t02 := cell_regrown t02
    replace t03 := cell_regrown t03
    clear hU z0
    have SR : Hid (∀ u, Below U.heap.size U u → Calls Tryz.prog 53 #[.agg #[.slice pa pn pc, .slice ha hn hc, .int .i64 cf, .int .i64 rg, .slice ca cn cc, .slice ma mn mc], .agg #[.int .i64 fn0, .int .i64 x0, .slice la0 ln0 lc0, .slice sa0 sn0 sc0]] u fun e w' => e = .returned (.bool (runP ps rg (fn0, x0, ll0, sl0))) ∧ Below u.heap.size u w') := hid (fun u hu => irRuns_any _ _ _ _ _ _ _ _ _ _ _ _ ps cl ml cf rg _ (HK.out.kept (kt B.out hu)) fn0 x0 _ _ _ ll0 _ _ _ sl0 (HL0.out.kept (kt B.out hu)) (HS0.out.kept (kt B.out hu)) HV.out)
    by_cases hf : fn0 = cf
    · subst hf
      replace E : Hid (metaB ps fn0 rg tl = runP ps rg (fn0, x0, ll0, sl0)) := hid (by rw [E.out]; simp)
      refine wp_region_quiet_below (by kernel_rfl) (by kernel_rfl) ?_
      repeat (go_big_quiet_step (first | (go_at_call 53; exact Calls.regrown_of (SR.out _ (below_regrown _ _ _))) | (go_at_call 54; exact Calls.regrown_of (SW.out _ (below_regrown _ _ _)))))
      refine wpQuiet_nil ?_
      intro _ hw'
      obtain ⟨⟨dq, osq⟩, hw''⟩ := hw'
      subst hw''
      go_wp2_with fail
      go_ret
      exact ⟨ret_bool E.out.symm, kt B.out (below_regrown _ _ _)⟩
    · have hf' : (fn0 == cf) = false := by simpa using hf
      replace E : Hid (metaB ps cf rg tl = false) := hid (by rw [E.out, decide_eq_false hf]; rfl)
      clear hf
      refine wp_region_quiet_below (by kernel_rfl) (by kernel_rfl) ?_
      repeat (go_big_quiet_step (first | (go_at_call 53; exact Calls.regrown_of (SR.out _ (below_regrown _ _ _))) | (go_at_call 54; exact Calls.regrown_of (SW.out _ (below_regrown _ _ _)))))
      refine wpQuiet_nil ?_
      intro _ hw'
      obtain ⟨⟨dq, osq⟩, hw''⟩ := hw'
      subst hw''
      go_wp2_with fail
      go_ret
      exact ⟨ret_bool E.out.symm, kt B.out (below_regrown _ _ _)⟩
  by_cases h2 : tn = 2
  · subst h2
    obtain ⟨b0, o0, fn0, x0, la0, ln0, lc0, ll0, sa0, sn0, sc0, sl0, rfl, e0, t00, t01, t02, t03, hl0, hs0⟩ := part_at ht 0 (by omega)
    obtain ⟨b1, o1, fn1, x1, la1, ln1, lc1, ll1, sa1, sn1, sc1, sl1, eb, e1, t10, t11, t12, t13, hl1, hs1⟩ := part_at ht 1 (by omega)
    have eb' := Option.some.inj eb
    obtain ⟨eb1, eb2⟩ : b0 = b1 ∧ o0 = o1 := by cases eb'; exact ⟨rfl, rfl⟩
    subst eb1 eb2
    clear eb eb'
    have E : Hid (metaB ps cf rg tl = (decide (fn0 = cf) && (waitP ps rg (fn0, x0, ll0, sl0) fn1 && runP ps rg (fn1, x1, ll1, sl1)))) := hid (by
      obtain ⟨y, z, rfl⟩ : ∃ y z, tl = [y, z] := by
        match tl, LT with
        | [y, z], _ => exact ⟨y, z, rfl⟩
      cases e0
      cases e1
      rw [runP_eq, waitP_eq, Bool.and_assoc]
      rfl)
    have HL0 := hid hl0
    have HS0 := hid hs0
    have HL1 := hid hl1
    have HS1 := hid hs1
    simp only [Nat.zero_mul, Nat.one_mul, Nat.add_zero] at t00 t01 t02 t03 t10 t11 t12 t13
    clear e0 hl0 hs0 ht LT e1 hl1 hs1 h1
    have z0 := lt_of_cell t00
    go_enter Tryz.func35, Tryz.ntmps35
    go_upto_region 5 with fail
    refine wp_name ?_
    intro U hU
    have B : Hid (Below w.heap.size w U) := hid (by rw [hU]; go_grown)
    have p0 : U.cell? ⟨w.heap.size, 0, none⟩ = some (.slice pa pn pc) := by rw [hU]; simp [go_sem]
    have p1 : U.cell? ⟨w.heap.size, 1, none⟩ = some (.slice ha hn hc) := by rw [hU]; simp [go_sem]
    have p2 : U.cell? ⟨w.heap.size, 2, none⟩ = some (.int .i64 cf) := by rw [hU]; simp [go_sem]
    have p3 : U.cell? ⟨w.heap.size, 3, none⟩ = some (.int .i64 rg) := by rw [hU]; simp [go_sem]
    have p4 : U.cell? ⟨w.heap.size, 4, none⟩ = some (.slice ca cn cc) := by rw [hU]; simp [go_sem]
    have p5 : U.cell? ⟨w.heap.size, 5, none⟩ = some (.slice ma mn mc) := by rw [hU]; simp [go_sem]
    have m0 : U.cell? ⟨w.heap.size + 1, 0, none⟩ = some (.slice (some ⟨b0, o0, none⟩) 2 tc) := by rw [hU]; simp [go_sem]
    replace t00 := kept_cell B.out t00
    replace t01 := kept_cell B.out t01
    replace t02 := kept_cell B.out t02
    replace t03 := kept_cell B.out t03
    replace t10 := kept_cell B.out t10
    replace t11 := kept_cell B.out t11
    replace t12 := kept_cell B.out t12
    replace t13 := kept_cell B.out t13
    replace p0 := cell_regrown p0
    replace p1 := cell_regrown p1
    replace p2 := cell_regrown p2
    replace p3 := cell_regrown p3
    replace p4 := cell_regrown p4
    replace p5 := cell_regrown p5
    replace m0 := cell_regrown m0
    replace t00 := cell_regrown t00
    replace t01 := cell_regrown t01
    replace t02 := cell_regrown t02
    replace t03 := cell_regrown t03
    replace t10 := cell_regrown t10
    replace t11 := cell_regrown t11
    replace t12 := cell_regrown t12
    replace t13 := cell_regrown t13
    clear hU z0
    have SR : Hid (∀ u, Below U.heap.size U u → Calls Tryz.prog 53 #[.agg #[.slice pa pn pc, .slice ha hn hc, .int .i64 cf, .int .i64 rg, .slice ca cn cc, .slice ma mn mc], .agg #[.int .i64 fn1, .int .i64 x1, .slice la1 ln1 lc1, .slice sa1 sn1 sc1]] u fun e w' => e = .returned (.bool (runP ps rg (fn1, x1, ll1, sl1))) ∧ Below u.heap.size u w') := hid (fun u hu => irRuns_any _ _ _ _ _ _ _ _ _ _ _ _ ps cl ml cf rg _ (HK.out.kept (kt B.out hu)) fn1 x1 _ _ _ ll1 _ _ _ sl1 (HL1.out.kept (kt B.out hu)) (HS1.out.kept (kt B.out hu)) HV.out)
    have SW : Hid (∀ u, Below U.heap.size U u → Calls Tryz.prog 54 #[.agg #[.slice pa pn pc, .slice ha hn hc, .int .i64 cf, .int .i64 rg, .slice ca cn cc, .slice ma mn mc], .agg #[.int .i64 fn0, .int .i64 x0, .slice la0 ln0 lc0, .slice sa0 sn0 sc0], .int .i64 fn1] u fun e w' => e = .returned (.bool (waitP ps rg (fn0, x0, ll0, sl0) fn1)) ∧ Below u.heap.size u w') := hid (fun u hu => irWaits_any _ _ _ _ _ _ _ _ _ _ _ _ ps cl ml cf rg _ (HK.out.kept (kt B.out hu)) fn0 x0 _ _ _ ll0 _ _ _ sl0 fn1 (HL0.out.kept (kt B.out hu)) (HS0.out.kept (kt B.out hu)) HV.out)
    by_cases hf : fn0 = cf
    rotate_left
    · have hf' : (fn0 == cf) = false := by simpa using hf
      replace E : Hid (metaB ps cf rg tl = false) := hid (by rw [E.out, decide_eq_false hf]; rfl)
      clear hf
      refine wp_region_quiet_below (by kernel_rfl) (by kernel_rfl) ?_
      repeat (go_big_quiet_step (first | (go_at_call 53; exact Calls.regrown_of (SR.out _ (below_regrown _ _ _))) | (go_at_call 54; exact Calls.regrown_of (SW.out _ (below_regrown _ _ _)))))
      refine wpQuiet_nil ?_
      intro _ hw'
      obtain ⟨⟨dq, osq⟩, hw''⟩ := hw'
      subst hw''
      go_wp2_with fail
      go_ret
      exact ⟨ret_bool E.out.symm, kt B.out (below_regrown _ _ _)⟩
    · subst hf
      replace E : Hid (metaB ps fn0 rg tl = (waitP ps rg (fn0, x0, ll0, sl0) fn1 && runP ps rg (fn1, x1, ll1, sl1))) := hid (by rw [E.out]; simp)
      cases hw : waitP ps rg (fn0, x0, ll0, sl0) fn1
      · rw [hw] at SW
        replace E : Hid (metaB ps fn0 rg tl = false) := hid (by rw [E.out, hw]; rfl)
        clear hw
        refine wp_region_quiet_below (by kernel_rfl) (by kernel_rfl) ?_
        repeat (go_big_quiet_step (first | (go_at_call 53; exact Calls.regrown_of (SR.out _ (below_regrown _ _ _))) | (go_at_call 54; exact Calls.regrown_of (SW.out _ (below_regrown _ _ _)))))
        refine wpQuiet_nil ?_
        intro _ hw'
        obtain ⟨⟨dq, osq⟩, hw''⟩ := hw'
        subst hw''
        go_wp2_with fail
        go_ret
        exact ⟨ret_bool E.out.symm, kt B.out (below_regrown _ _ _)⟩
      · rw [hw] at SW
        replace E : Hid (metaB ps fn0 rg tl = runP ps rg (fn1, x1, ll1, sl1)) := hid (by rw [E.out, hw]; rfl)
        clear hw
        refine wp_region_quiet_below (by kernel_rfl) (by kernel_rfl) ?_
        repeat (go_big_quiet_step (first | (go_at_call 53; exact Calls.regrown_of (SR.out _ (below_regrown _ _ _))) | (go_at_call 54; exact Calls.regrown_of (SW.out _ (below_regrown _ _ _)))))
        refine wpQuiet_nil ?_
        intro _ hw'
        obtain ⟨⟨dq, osq⟩, hw''⟩ := hw'
        subst hw''
        go_wp2_with fail
        go_ret
        exact ⟨ret_bool E.out.symm, kt B.out (below_regrown _ _ _)⟩
  · have E : Hid (metaB ps cf rg tl = false) := hid (by
      match tl, LT with
      | [], _ => rfl
      | [_], h => exact absurd h h1
      | [_, _], h => exact absurd h h2
      | _ :: _ :: _ :: _, _ => rfl)
    have h1' : ((tn : Int) == 1) = false := by simp; omega
    have h2' : ((tn : Int) == 2) = false := by simp; omega
    clear h1 h2 LT ht
    go_enter Tryz.func35, Tryz.ntmps35
    go_wp2_with fail
    go_ret
    exact ⟨ret_bool E.out.symm, by go_grown⟩

end Go.Proofs.YtfnfbebkeoilfaaGreatDoor
