/- Package ir: areAll: each instruction may be. Written by irgen.py. -/
import Derived.Test.YtfnfbebkeoilfaaGreatDoorIrD
namespace Go.Proofs.YtfnfbebkeoilfaaGreatDoor
open Go.RowKit
set_option linter.unusedVariables false

theorem irs_step {ps : List Fn} {c : CdT} {q : Nat} {x : IrT} (hx : c.2.2.1[q]? = some x) : irsB ps c (q + 1) = (irsB ps c q && irB ps c.2.1 c.2.2.1.length c.2.2.2.length q x) := by
  unfold irsB
  rw [List.range_succ, List.all_append]
  simp [List.getD_eq_getElem?_getD, hx]
theorem irs_no {ps : List Fn} {c : CdT} {q n : Nat} {x : IrT} (hx : c.2.2.1[q]? = some x) (h : irB ps c.2.1 c.2.2.1.length c.2.2.2.length q x = false) (hq : q < n) : irsB ps c n = false := by
  unfold irsB
  refine List.all_eq_false.2 ⟨q, List.mem_range.2 hq, ?_⟩
  rw [List.getD_eq_getElem?_getD, hx]
  show ¬ irB ps c.2.1 c.2.2.1.length c.2.2.2.length q x = true
  rw [h]; simp

set_option maxRecDepth 100000 in
set_option maxHeartbeats 4000000 in
theorem irAll_any (pa : Option Addr) (pn pc : Nat) (ha : Option Addr) (hn hc : Nat) (ca : Option Addr) (cn cc : Nat) (ma : Option Addr) (mn mc : Nat) (ps : List Fn) (cl : List IrT) (ml : List (List PartT)) (cf rg : Int) (w : World) (K : Chk w pa pn pc ha hn hc ca cn cc ma mn mc ps cl ml) :
    Calls Tryz.prog 32 #[.agg #[.slice pa pn pc, .slice ha hn hc, .int .i64 cf, .int .i64 rg, .slice ca cn cc, .slice ma mn mc]] w fun e w' => e = .returned (.bool (irsB ps (cf, rg, cl, ml) cn)) ∧ Below w.heap.size w w' := by
  have HK := hid K
  have LC := hid K.c.len
  have LM := hid K.m.len
  have hcr := K.c.room
  have hcc := K.c.cap
  clear K
  go_enter Tryz.func32, Tryz.ntmps32
  go_wp2_with fail
  go_loopw [9] (fun i wr => ∃ q : Nat, q ≤ cn ∧ i = .int .i64 q ∧ irsB ps (cf, rg, cl, ml) q = true ∧ Ckb wr w.heap.size pa pn pc ha hn hc ca cn cc ma mn mc cf rg ∧ Below w.heap.size w wr) (fun i _ => cn - (intOf i).toNat)
  case atStart => exact ⟨0, Nat.zero_le _, rfl, rfl, ⟨by simp [go_sem], by simp [go_sem], by simp [go_sem], by simp [go_sem], by simp [go_sem], by simp [go_sem]⟩, by go_grown⟩
  case round =>
    obtain ⟨q, hq, rfl, ht, hc, hb⟩ := hrel
    have HT := hid ht
    have HC := hid hc
    have HB := hid hb
    clear ht
    by_cases hlt : q < cn
    · obtain ⟨b, o, kd, r, ra, rb, k, xa, xn, xc, args, cost, mt, ip, rfl, hx, e0, e1, e2, e3, e4, e5, e6, e7, e8, hi⟩ := ir_at (HK.out.c.kept hb) q hlt
      have HX := hid hx
      have HI := hid hi
      clear hx hi hc hb
      go_upto_region 4 with fail
      refine wp_name ?_
      intro U hU
      have A : Hid (Below wr.heap.size wr U) := hid (by rw [hU]; go_grown)
      have j0 : U.cell? ⟨wr.heap.size, 0, none⟩ = some (.int .i64 kd) := by rw [hU]; simp [go_sem]
      replace j0 := cell_regrown j0
      have j1 : U.cell? ⟨wr.heap.size, 1, none⟩ = some (.int .i64 r) := by rw [hU]; simp [go_sem]
      replace j1 := cell_regrown j1
      have j2 : U.cell? ⟨wr.heap.size, 2, none⟩ = some (.int .i64 ra) := by rw [hU]; simp [go_sem]
      replace j2 := cell_regrown j2
      have j3 : U.cell? ⟨wr.heap.size, 3, none⟩ = some (.int .i64 rb) := by rw [hU]; simp [go_sem]
      replace j3 := cell_regrown j3
      have j4 : U.cell? ⟨wr.heap.size, 4, none⟩ = some (.int .i64 k) := by rw [hU]; simp [go_sem]
      replace j4 := cell_regrown j4
      have j5 : U.cell? ⟨wr.heap.size, 5, none⟩ = some (.slice xa xn xc) := by rw [hU]; simp [go_sem]
      replace j5 := cell_regrown j5
      have j6 : U.cell? ⟨wr.heap.size, 6, none⟩ = some (.int .i64 cost) := by rw [hU]; simp [go_sem]
      replace j6 := cell_regrown j6
      have j7 : U.cell? ⟨wr.heap.size, 7, none⟩ = some (.int .i64 mt) := by rw [hU]; simp [go_sem]
      replace j7 := cell_regrown j7
      have j8 : U.cell? ⟨wr.heap.size, 8, none⟩ = some (.int .i64 ip) := by rw [hU]; simp [go_sem]
      replace j8 := cell_regrown j8
      have B := hid (kt HB.out A.out)
      obtain ⟨c0, c1, c2, c3, c4, c5⟩ := HC.out.kept A.out
      replace c0 := cell_regrown c0
      replace c1 := cell_regrown c1
      replace c2 := cell_regrown c2
      replace c3 := cell_regrown c3
      replace c4 := cell_regrown c4
      replace c5 := cell_regrown c5
      clear hU e0 e1 e2 e3 e4 e5 e6 e7 e8
      have EI : Hid (irB ps rg cl.length ml.length q (kd, r, ra, rb, k, args, cost, mt, ip) = (fieldsB ps rg cn mn (kd, r, ra, rb, k, args, cost, mt, ip) && decide (leastV q kd k ≤ cost))) := hid (by rw [LC.out, LM.out]; exact ir_same.symm)
      have ST : Hid (∀ u, Below U.heap.size U u → Calls Tryz.prog 50 #[.agg #[.slice pa pn pc, .slice ha hn hc, .int .i64 cf, .int .i64 rg, .slice (some ⟨b, o, none⟩) cn cc, .slice ma mn mc], .agg #[.int .i64 kd, .int .i64 r, .int .i64 ra, .int .i64 rb, .int .i64 k, .slice xa xn xc, .int .i64 cost, .int .i64 mt, .int .i64 ip]] u fun e w' => e = .returned (.bool (fieldsB ps rg cn mn (kd, r, ra, rb, k, args, cost, mt, ip))) ∧ Below u.heap.size u w') := hid (fun u hu => irIsIr_any _ _ _ _ _ _ _ _ _ _ _ _ ps cl ml cf rg _ (HK.out.kept (kt B.out hu)) kd r ra rb k _ _ _ args cost mt ip ((HI.out.kept A.out).kept hu))
      cases hf : fieldsB ps rg cn mn (kd, r, ra, rb, k, args, cost, mt, ip)
      · rw [hf] at ST
        have F : Hid (irsB ps (cf, rg, cl, ml) cn = false) := hid (irs_no HX.out (by show irB ps rg cl.length ml.length q _ = false; rw [EI.out, hf]; rfl) hlt)
        clear hf
        refine wp_region_quiet_below (by kernel_rfl) (by kernel_rfl) ?_
        repeat (go_big_quiet_step (first | (go_at_call 50; exact Calls.regrown_of (ST.out _ (below_regrown _ _ _))) | (go_at_call 51; exact Calls.regrown_of (irLeast_any _ _ _ _ _ _ _ _ _ _ _ _ _))))
        refine wpQuiet_nil ?_
        intro _ hw'
        obtain ⟨⟨dq, osq⟩, hw''⟩ := hw'
        subst hw''
        go_wp2_with fail
        go_ret
        exact ⟨ret_bool F.out.symm, kt B.out (below_regrown _ _ _)⟩
      · rw [hf] at ST
        have EI2 : Hid (irB ps rg cl.length ml.length q (kd, r, ra, rb, k, args, cost, mt, ip) = decide (leastV q kd k ≤ cost)) := hid (by rw [EI.out, hf]; rfl)
        clear hf EI
        by_cases hl : cost < leastV q kd k
        · have F : Hid (irsB ps (cf, rg, cl, ml) cn = false) := hid (irs_no HX.out (by show irB ps rg cl.length ml.length q _ = false; rw [EI2.out]; simp; omega) hlt)
          refine wp_region_quiet_below (by kernel_rfl) (by kernel_rfl) ?_
          repeat (go_big_quiet_step (first | (go_at_call 50; exact Calls.regrown_of (ST.out _ (below_regrown _ _ _))) | (go_at_call 51; exact Calls.regrown_of (irLeast_any _ _ _ _ _ _ _ _ _ _ _ _ _))))
          refine wpQuiet_nil ?_
          intro _ hw'
          obtain ⟨⟨dq, osq⟩, hw''⟩ := hw'
          subst hw''
          go_wp2_with fail
          go_ret
          exact ⟨ret_bool F.out.symm, kt B.out (below_regrown _ _ _)⟩
        · have F : Hid (irsB ps (cf, rg, cl, ml) (q + 1) = true) := hid (by rw [irs_step HX.out, HT.out]; show (true && irB ps rg cl.length ml.length q _) = true; rw [EI2.out]; simp; omega)
          have hl' : decide (cost < leastV q kd k) = false := by simpa using hl
          refine wp_region_quiet_below (by kernel_rfl) (by kernel_rfl) ?_
          repeat (go_big_quiet_step (first | (go_at_call 50; exact Calls.regrown_of (ST.out _ (below_regrown _ _ _))) | (go_at_call 51; exact Calls.regrown_of (irLeast_any _ _ _ _ _ _ _ _ _ _ _ _ _))))
          refine wpQuiet_nil ?_
          intro _ hw'
          obtain ⟨⟨dq, osq⟩, hw''⟩ := hw'
          subst hw''
          go_wp2_with fail
          go_roundw
          case rel => exact ⟨q + 1, by omega, by go_num, F.out, (HC.out.kept A.out).kept (below_regrown _ _ _), kt B.out (below_regrown _ _ _)⟩
          case measure => simp [intOf]; omega
    · have hqn : q = cn := by omega
      subst hqn
      go_wp2_with fail
      go_ret
      exact ⟨ret_bool HT.out.symm, hb⟩

end Go.Proofs.YtfnfbebkeoilfaaGreatDoor
