/- The document's own answer: which code may be (CodeMay). Written by refcodegen.py. -/
import Derived.Test.YtfnfbebkeoilfaaGreatDoorRefIrM
import Derived.Test.YtfnfbebkeoilfaaGreatDoorRefIrC
namespace Go.Proofs.YtfnfbebkeoilfaaGreatDoor
open Go.RowKit
set_option linter.unusedVariables false

theorem codeMay_no {ps : List Fn} {c : CdT} (h : headC ps c = false) : codeMayB ps c = false := by unfold codeMayB; rw [h]; simp
theorem headC_no {ps : List Fn} {cf rg : Int} {cl : List IrT} {ml : List (List PartT)} (h : ¬ (inB ps.length cf = true ∧ (1 ≤ rg ∧ (ps.getD cf.toNat noFn).2.1 ≤ rg ∧ rg ≤ 64 ∧ 1 ≤ cl.length ∧ cl.length ≤ 256 ∧ ml.length ≤ 64))) : headC ps (cf, rg, cl, ml) = false := by
  rw [Bool.eq_false_iff]; intro k; unfold headC at k; rw [Bool.and_eq_true, decide_eq_true_eq] at k; exact h k
theorem irs_go {ps : List Fn} {c : CdT} {q : Nat} {x : IrT} (hx : c.2.2.1[q]? = some x) (h : irsB ps c q = true) (h' : irB ps c.2.1 c.2.2.1.length c.2.2.2.length q x = true) : irsB ps c (q + 1) = true := by
  unfold irsB at h ⊢
  rw [List.range_succ, List.all_append, h]
  simp [List.getD_eq_getElem?_getD, hx, h']
theorem irs_bad {ps : List Fn} {c : CdT} {q n : Nat} {x : IrT} (hx : c.2.2.1[q]? = some x) (h : irB ps c.2.1 c.2.2.1.length c.2.2.2.length q x = false) (hq : q < n) : irsB ps c n = false := by
  unfold irsB
  refine List.all_eq_false.2 ⟨q, List.mem_range.2 hq, ?_⟩
  rw [List.getD_eq_getElem?_getD, hx]
  show ¬ irB ps c.2.1 c.2.2.1.length c.2.2.2.length q x = true
  rw [h]; simp

set_option maxRecDepth 100000 in
set_option maxHeartbeats 16000000 in
theorem refCodeMay_any (pa : Option Addr) (pn pc : Nat) (ca : Option Addr) (cn cc : Nat) (ma : Option Addr) (mn mc : Nat) (ps : List Fn) (cl : List IrT) (ml : List (List PartT)) (cf rg : Int) (w : World) (hp : Fns w pa pn pc ps) (hcl : Sl layIr 88 w ca cn cc cl) (hml : Sl layMeta 24 w ma mn mc ml) :
    Calls Tryz.prog 8 #[.agg #[.slice pa pn pc], .agg #[.int .i64 cf, .int .i64 rg, .slice ca cn cc, .slice ma mn mc]] w fun e w' => e = .returned (.bool (codeMayB ps (cf, rg, cl, ml))) ∧ Below w.heap.size w w' := by
  have HP := hid hp
  have LP := hid hp.len
  have hpr := hp.room
  have hpc := hp.cap
  have HC := hid hcl
  have LC := hid hcl.len
  have hcr := hcl.room
  have hcc := hcl.cap
  have HM := hid hml
  have LM := hid hml.len
  have hmr := hml.room
  have hmc := hml.cap
  clear hp hcl hml
  go_enter Tryz.func8, Tryz.ntmps8
  go_upto_region 1 with fail
  refine wp_name ?_
  intro U hU
  have B : Hid (Below w.heap.size w U) := hid (by rw [hU]; go_grown)
  have p0 : U.cell? ⟨w.heap.size, 0, none⟩ = some (.slice pa pn pc) := by rw [hU]; simp [go_sem]
  have c0 : U.cell? ⟨w.heap.size + 1, 0, none⟩ = some (.int .i64 cf) := by rw [hU]; simp [go_sem]
  have c1 : U.cell? ⟨w.heap.size + 1, 1, none⟩ = some (.int .i64 rg) := by rw [hU]; simp [go_sem]
  have c2 : U.cell? ⟨w.heap.size + 1, 2, none⟩ = some (.slice ca cn cc) := by rw [hU]; simp [go_sem]
  have c3 : U.cell? ⟨w.heap.size + 1, 3, none⟩ = some (.slice ma mn mc) := by rw [hU]; simp [go_sem]
  clear hU
  have gp0 := cell_regrown p0
  have gc0 := cell_regrown c0
  have gc1 := cell_regrown c1
  have gc2 := cell_regrown c2
  have gc3 := cell_regrown c3
  have SV : Hid (∀ u, Below U.heap.size U u → Calls Tryz.prog 20 #[.agg #[.slice pa pn pc]] u fun e w' => e = .returned (.int .i64 (verV ps)) ∧ Below u.heap.size u w') := hid (fun u hu => refVerify_any _ _ _ ps u (HP.out.kept (kt B.out hu)))
  have EX : Hid (∀ b, (codeMayB ps (cf, rg, cl, ml)) = b → True) := hid (fun _ _ => trivial)
  clear EX
  by_cases hv : verV ps = 0
  rotate_left
  · have F : Hid (codeMayB ps (cf, rg, cl, ml) = false) := hid (by unfold codeMayB; rw [decide_eq_false hv]; rfl)
    have hv' : (verV ps != 0) = true := by simpa using hv
    clear hv
    refine wp_region_quiet_below (by kernel_rfl) (by kernel_rfl) ?_
    repeat (go_big_quiet_step (first | (go_at_call 20; exact Calls.regrown_of (SV.out _ (below_regrown _ _ _)))))
    refine wpQuiet_nil ?_
    intro _ hw'
    obtain ⟨⟨dq, osq⟩, hw''⟩ := hw'
    subst hw''
    go_wp2_with fail
    go_ret
    exact ⟨ret_bool F.out.symm, kt B.out (below_regrown _ _ _)⟩
  have hv' : (verV ps != 0) = false := by simpa using hv
  have HV := hid hv
  clear hv
  by_cases h1 : cf < 0
  · have F : Hid (codeMayB ps (cf, rg, cl, ml) = false) := hid (codeMay_no (headC_no (by rintro ⟨hi, h⟩; simp only [inB, decide_eq_true_eq] at hi; have := LP.out; have := LC.out; have := LM.out; omega)))
    have d1 : decide (cf < 0) = true := by simp; omega
    refine wp_region_quiet_below (by kernel_rfl) (by kernel_rfl) ?_
    repeat (go_big_quiet_step (first | (go_at_call 20; exact Calls.regrown_of (SV.out _ (below_regrown _ _ _)))))
    refine wpQuiet_nil ?_
    intro _ hw'
    obtain ⟨⟨dq, osq⟩, hw''⟩ := hw'
    subst hw''
    go_wp2_with fail
    go_ret
    exact ⟨ret_bool F.out.symm, kt B.out (below_regrown _ _ _)⟩
  have d1 : decide (cf < 0) = false := by simp; omega
  by_cases h2 : (pn : Int) ≤ cf
  · have F : Hid (codeMayB ps (cf, rg, cl, ml) = false) := hid (codeMay_no (headC_no (by rintro ⟨hi, h⟩; simp only [inB, decide_eq_true_eq] at hi; have := LP.out; have := LC.out; have := LM.out; omega)))
    have d2 : decide ((pn : Int) ≤ cf) = true := by simp; omega
    refine wp_region_quiet_below (by kernel_rfl) (by kernel_rfl) ?_
    repeat (go_big_quiet_step (first | (go_at_call 20; exact Calls.regrown_of (SV.out _ (below_regrown _ _ _)))))
    refine wpQuiet_nil ?_
    intro _ hw'
    obtain ⟨⟨dq, osq⟩, hw''⟩ := hw'
    subst hw''
    go_wp2_with fail
    go_ret
    exact ⟨ret_bool F.out.symm, kt B.out (below_regrown _ _ _)⟩
  have d2 : decide ((pn : Int) ≤ cf) = false := by simp; omega
  by_cases h3 : rg < 1
  · have F : Hid (codeMayB ps (cf, rg, cl, ml) = false) := hid (codeMay_no (headC_no (by rintro ⟨hi, h⟩; simp only [inB, decide_eq_true_eq] at hi; have := LP.out; have := LC.out; have := LM.out; omega)))
    have d3 : decide (rg < 1) = true := by simp; omega
    refine wp_region_quiet_below (by kernel_rfl) (by kernel_rfl) ?_
    repeat (go_big_quiet_step (first | (go_at_call 20; exact Calls.regrown_of (SV.out _ (below_regrown _ _ _)))))
    refine wpQuiet_nil ?_
    intro _ hw'
    obtain ⟨⟨dq, osq⟩, hw''⟩ := hw'
    subst hw''
    go_wp2_with fail
    go_ret
    exact ⟨ret_bool F.out.symm, kt B.out (below_regrown _ _ _)⟩
  have d3 : decide (rg < 1) = false := by simp; omega
  obtain ⟨fN, rfl⟩ : ∃ fN : Nat, cf = fN := ⟨cf.toNat, by omega⟩
  have hfn : fN < pn := by omega
  obtain ⟨bp, op, gx, gy, ga, gn, gc, gl, rfl, e3, j0, j1, j2, -⟩ := (HP.out.kept B.out).at fN hfn
  have gj1 := cell_regrown j1
  have q0 : (0 : Int) ≤ (fN : Int) := by omega
  have q1 : (fN : Int) < (pn : Int) := by omega
  have E3 := hid e3
  clear e3 j0 j1 j2
  by_cases h4 : rg < gy
  · have F : Hid (codeMayB ps ((fN : Int), rg, cl, ml) = false) := hid (codeMay_no (headC_no (by rintro ⟨hi, h⟩; simp only [Int.toNat_natCast, E3.out] at h; have := LC.out; have := LM.out; omega)))
    have d4 : decide (rg < gy) = true := by simp; omega
    refine wp_region_quiet_below (by kernel_rfl) (by kernel_rfl) ?_
    repeat (go_big_quiet_step (first | (go_at_call 20; exact Calls.regrown_of (SV.out _ (below_regrown _ _ _)))))
    refine wpQuiet_nil ?_
    intro _ hw'
    obtain ⟨⟨dq, osq⟩, hw''⟩ := hw'
    subst hw''
    go_wp2_with fail
    go_ret
    exact ⟨ret_bool F.out.symm, kt B.out (below_regrown _ _ _)⟩
  have d4 : decide (rg < gy) = false := by simp; omega
  by_cases h5 : 64 < rg
  · have F : Hid (codeMayB ps ((fN : Int), rg, cl, ml) = false) := hid (codeMay_no (headC_no (by rintro ⟨hi, h⟩; simp only [Int.toNat_natCast, E3.out] at h; have := LC.out; have := LM.out; omega)))
    have d5 : decide (64 < rg) = true := by simp; omega
    refine wp_region_quiet_below (by kernel_rfl) (by kernel_rfl) ?_
    repeat (go_big_quiet_step (first | (go_at_call 20; exact Calls.regrown_of (SV.out _ (below_regrown _ _ _)))))
    refine wpQuiet_nil ?_
    intro _ hw'
    obtain ⟨⟨dq, osq⟩, hw''⟩ := hw'
    subst hw''
    go_wp2_with fail
    go_ret
    exact ⟨ret_bool F.out.symm, kt B.out (below_regrown _ _ _)⟩
  have d5 : decide (64 < rg) = false := by simp; omega
  by_cases h6 : cn < 1
  · have F : Hid (codeMayB ps ((fN : Int), rg, cl, ml) = false) := hid (codeMay_no (headC_no (by rintro ⟨hi, h⟩; simp only [Int.toNat_natCast, E3.out] at h; have := LC.out; have := LM.out; omega)))
    have d6 : decide ((cn : Int) < 1) = true := by simp; omega
    refine wp_region_quiet_below (by kernel_rfl) (by kernel_rfl) ?_
    repeat (go_big_quiet_step (first | (go_at_call 20; exact Calls.regrown_of (SV.out _ (below_regrown _ _ _)))))
    refine wpQuiet_nil ?_
    intro _ hw'
    obtain ⟨⟨dq, osq⟩, hw''⟩ := hw'
    subst hw''
    go_wp2_with fail
    go_ret
    exact ⟨ret_bool F.out.symm, kt B.out (below_regrown _ _ _)⟩
  have d6 : decide ((cn : Int) < 1) = false := by simp; omega
  by_cases h7 : 256 < cn
  · have F : Hid (codeMayB ps ((fN : Int), rg, cl, ml) = false) := hid (codeMay_no (headC_no (by rintro ⟨hi, h⟩; simp only [Int.toNat_natCast, E3.out] at h; have := LC.out; have := LM.out; omega)))
    have d7 : decide ((256 : Int) < (cn : Int)) = true := by simp; omega
    refine wp_region_quiet_below (by kernel_rfl) (by kernel_rfl) ?_
    repeat (go_big_quiet_step (first | (go_at_call 20; exact Calls.regrown_of (SV.out _ (below_regrown _ _ _)))))
    refine wpQuiet_nil ?_
    intro _ hw'
    obtain ⟨⟨dq, osq⟩, hw''⟩ := hw'
    subst hw''
    go_wp2_with fail
    go_ret
    exact ⟨ret_bool F.out.symm, kt B.out (below_regrown _ _ _)⟩
  have d7 : decide ((256 : Int) < (cn : Int)) = false := by simp; omega
  by_cases h8 : 64 < mn
  · have F : Hid (codeMayB ps ((fN : Int), rg, cl, ml) = false) := hid (codeMay_no (headC_no (by rintro ⟨hi, h⟩; simp only [Int.toNat_natCast, E3.out] at h; have := LC.out; have := LM.out; omega)))
    have d8 : decide ((64 : Int) < (mn : Int)) = true := by simp; omega
    refine wp_region_quiet_below (by kernel_rfl) (by kernel_rfl) ?_
    repeat (go_big_quiet_step (first | (go_at_call 20; exact Calls.regrown_of (SV.out _ (below_regrown _ _ _)))))
    refine wpQuiet_nil ?_
    intro _ hw'
    obtain ⟨⟨dq, osq⟩, hw''⟩ := hw'
    subst hw''
    go_wp2_with fail
    go_ret
    exact ⟨ret_bool F.out.symm, kt B.out (below_regrown _ _ _)⟩
  have d8 : decide ((64 : Int) < (mn : Int)) = false := by simp; omega
  have EG : Hid (codeMayB ps ((fN : Int), rg, cl, ml) = (irsB ps ((fN : Int), rg, cl, ml) cl.length && (ml.all (metaB ps (fN : Int) rg) && lastB ((fN : Int), rg, cl, ml)))) := hid (by
    unfold codeMayB
    rw [HV.out, show headC ps ((fN : Int), rg, cl, ml) = true by
      unfold headC
      simp only [Int.toNat_natCast, E3.out, Bool.and_eq_true, decide_eq_true_eq]
      refine ⟨by unfold inB; have := LP.out; exact decide_eq_true (by omega), ?_⟩
      have := LC.out; have := LM.out; omega]
    rfl)
  refine wp_region_quiet_below (by kernel_rfl) (by kernel_rfl) ?_
  repeat (go_big_quiet_step (first | (go_at_call 20; exact Calls.regrown_of (SV.out _ (below_regrown _ _ _)))))
  refine wpQuiet_nil ?_
  intro _ hw'
  obtain ⟨⟨dq, osq⟩, hw''⟩ := hw'
  subst hw''
  have B2 := hid (kt B.out (below_regrown U dq osq))
  replace p0 := kept_cell (below_regrown U dq osq) p0
  replace c0 := kept_cell (below_regrown U dq osq) c0
  replace c1 := kept_cell (below_regrown U dq osq) c1
  replace c2 := kept_cell (below_regrown U dq osq) c2
  replace c3 := kept_cell (below_regrown U dq osq) c3
  clear gp0 gc0 gc1 gc2 gc3 gj1 SV
  go_wp2_with fail
  go_loopw [5] (fun i wr => ∃ q : Nat, q ≤ cn ∧ i = .int .i64 q ∧ irsB ps ((fN : Int), rg, cl, ml) q = true ∧ wr.cell? ⟨w.heap.size, 0, none⟩ = some (.slice (some ⟨bp, op, none⟩) pn pc) ∧ wr.cell? ⟨w.heap.size + 1, 0, none⟩ = some (.int .i64 (fN : Int)) ∧ wr.cell? ⟨w.heap.size + 1, 1, none⟩ = some (.int .i64 rg) ∧ wr.cell? ⟨w.heap.size + 1, 2, none⟩ = some (.slice ca cn cc) ∧ wr.cell? ⟨w.heap.size + 1, 3, none⟩ = some (.slice ma mn mc) ∧ Below w.heap.size w wr) (fun i _ => cn - (intOf i).toNat)
  case atStart => exact ⟨0, Nat.zero_le _, rfl, rfl, p0, c0, c1, c2, c3, B2.out⟩
  case round =>
    clear p0 c0 c1 c2 c3 B B2
    obtain ⟨q, hq, rfl, hall, p0, c0, c1, c2, c3, hb⟩ := hrel
    have HA := hid hall
    have HB := hid hb
    clear hall
    by_cases hlt : q < cn
    · clear hb
      go_wp2_with fail
      refine (refIrMay_any _ _ _ _ _ _ _ _ _ ps (fN : Int) rg q cl _ (HP.out.kept HB.out) (HC.out.kept HB.out) hmr hlt).mono ?_
      rintro e V ⟨x, hx, rfl, bV⟩
      have BV := hid (kt HB.out bV)
      have HX := hid hx
      replace p0 := kept_cell bV p0
      replace c0 := kept_cell bV c0
      replace c1 := kept_cell bV c1
      replace c2 := kept_cell bV c2
      replace c3 := kept_cell bV c3
      clear bV hx
      cases hi : irB ps rg cn mn q x
      · have F : Hid (codeMayB ps ((fN : Int), rg, cl, ml) = false) := hid (by rw [EG.out, irs_bad (n := cl.length) HX.out (by show irB ps rg cl.length ml.length q x = false; rw [← LC.out, ← LM.out]; exact hi) (by rw [← LC.out]; exact hlt)]; rfl)
        clear hi
        go_wp2_with fail
        go_ret
        exact ⟨ret_bool F.out.symm, BV.out⟩
      · have F : Hid (irsB ps ((fN : Int), rg, cl, ml) (q + 1) = true) := hid (irs_go HX.out HA.out (by show irB ps rg cl.length ml.length q x = true; rw [← LC.out, ← LM.out]; exact hi))
        clear hi
        go_wp2_with fail
        go_roundw
        case rel => exact ⟨q + 1, by omega, by go_num, F.out, p0, c0, c1, c2, c3, BV.out⟩
        case measure => simp [intOf]; omega
    · have hqn : q = cn := by omega
      subst hqn
      have EG2 : Hid (codeMayB ps ((fN : Int), rg, cl, ml) = (ml.all (metaB ps (fN : Int) rg) && lastB ((fN : Int), rg, cl, ml))) := hid (by rw [EG.out, ← LC.out, HA.out]; rfl)
      clear hb hq hlt
      go_wp2_with fail
      go_loopw [6] (fun i wr => ∃ j : Nat, j ≤ mn ∧ i = .int .i64 j ∧ (ml.take j).all (metaB ps (fN : Int) rg) = true ∧ wr.cell? ⟨w.heap.size, 0, none⟩ = some (.slice (some ⟨bp, op, none⟩) pn pc) ∧ wr.cell? ⟨w.heap.size + 1, 0, none⟩ = some (.int .i64 (fN : Int)) ∧ wr.cell? ⟨w.heap.size + 1, 1, none⟩ = some (.int .i64 rg) ∧ wr.cell? ⟨w.heap.size + 1, 2, none⟩ = some (.slice ca q cc) ∧ wr.cell? ⟨w.heap.size + 1, 3, none⟩ = some (.slice ma mn mc) ∧ Below w.heap.size w wr) (fun i _ => mn - (intOf i).toNat)
      case atStart => exact ⟨0, Nat.zero_le _, rfl, by simp, p0, c0, c1, c2, c3, HB.out⟩
      case round =>
        clear p0 c0 c1 c2 c3 HB
        obtain ⟨j, hj, rfl, hall, p0, c0, c1, c2, c3, hb⟩ := hrel
        have HT := hid hall
        have HB := hid hb
        clear hall
        by_cases hlt : j < mn
        · obtain ⟨bm, om, xa, xn, xc, parts, rfl, hx, m0, hpar⟩ := meta_at (HM.out.kept hb) j hlt
          rw [Nat.mul_one] at m0
          have HX := hid hx
          have HPAR := hid hpar
          have gm0 := cell_regrown m0
          have t0 : (0 : Int) ≤ (j : Int) := by omega
          have t1 : (j : Int) < (mn : Int) := by omega
          clear hx hpar hb
          go_upto_region 11 with fail
          have gp0 := cell_regrown p0
          have gc0 := cell_regrown c0
          have gc1 := cell_regrown c1
          have gc2 := cell_regrown c2
          have gc3 := cell_regrown c3
          have SM : Hid (∀ u, Below wr.heap.size wr u → Calls Tryz.prog 22 #[.agg #[.slice (some ⟨bp, op, none⟩) pn pc], .agg #[.int .i64 (fN : Int), .int .i64 rg, .slice ca q cc, .slice (some ⟨bm, om, none⟩) mn mc], .agg #[.slice xa xn xc]] u fun e w' => e = .returned (.bool (metaB ps (fN : Int) rg parts)) ∧ Below u.heap.size u w') := hid (fun u hu => refMeta_any _ _ _ ps (fN : Int) rg _ _ _ _ _ _ _ _ _ parts u (HP.out.kept (kt HB.out hu)) (HPAR.out.kept hu))
          cases hm : metaB ps (fN : Int) rg parts
          · have F : Hid (codeMayB ps ((fN : Int), rg, cl, ml) = false) := hid (by rw [EG2.out, List.all_eq_false.2 ⟨_, List.mem_of_getElem? HX.out, by rw [hm]; simp⟩]; rfl)
            rw [hm] at SM
            clear hm
            refine wp_region_quiet_below (by kernel_rfl) (by kernel_rfl) ?_
            repeat (go_big_quiet_step (first | (go_at_call 22; exact Calls.regrown_of (SM.out _ (below_regrown _ _ _)))))
            refine wpQuiet_nil ?_
            intro _ hw'
            obtain ⟨⟨dq, osq⟩, hw''⟩ := hw'
            subst hw''
            go_wp2_with fail
            go_ret
            exact ⟨ret_bool F.out.symm, kt HB.out (below_regrown _ _ _)⟩
          · have F : Hid ((ml.take (j + 1)).all (metaB ps (fN : Int) rg) = true) := hid (by rw [List.take_add_one, List.all_append, HT.out, HX.out]; simp [hm])
            rw [hm] at SM
            clear hm
            refine wp_region_quiet_below (by kernel_rfl) (by kernel_rfl) ?_
            repeat (go_big_quiet_step (first | (go_at_call 22; exact Calls.regrown_of (SM.out _ (below_regrown _ _ _)))))
            refine wpQuiet_nil ?_
            intro _ hw'
            obtain ⟨⟨dq, osq⟩, hw''⟩ := hw'
            subst hw''
            go_wp2_with fail
            go_roundw
            case rel => exact ⟨j + 1, by omega, by go_num, F.out, kept_cell (below_regrown _ _ _) p0, kept_cell (below_regrown _ _ _) c0, kept_cell (below_regrown _ _ _) c1, kept_cell (below_regrown _ _ _) c2, kept_cell (below_regrown _ _ _) c3, kt HB.out (below_regrown _ _ _)⟩
            case measure => simp [intOf]; omega
        · have hjn : j = mn := by omega
          subst hjn
          have EG3 : Hid (codeMayB ps ((fN : Int), rg, cl, ml) = lastB ((fN : Int), rg, cl, ml)) := hid (by
            have h := HT.out
            rw [List.take_of_length_le (by have := LM.out; omega)] at h
            rw [EG2.out, h]; rfl)
          obtain ⟨n, rfl⟩ : ∃ n, q = n + 1 := ⟨q - 1, by omega⟩
          obtain ⟨bi, oi, kd, r, ra, rb, k, xa, xn, xc, args, cost, mt, ip, rfl, hx, i0, -, -, -, -, -, -, -, -, -⟩ := ir_at (HC.out.kept hb) n (by omega)
          have E : Hid (codeMayB ps ((fN : Int), rg, cl, ml) = decide (kd = 4 ∨ kd = 8)) := hid (by
            rw [EG3.out]
            unfold lastB
            have : cl.length - 1 = n := by have := LC.out; omega
            simp only [this, List.getD_eq_getElem?_getD, hx]
            rfl)
          clear hx
          by_cases h4 : kd = 4
          · subst h4
            go_wp2_with fail
            go_ret
            exact ⟨ret_bool (by rw [E.out]; simp), HB.out⟩
          · have h4' : (kd == 4) = false := by simpa using h4
            go_wp2_with fail
            go_ret
            exact ⟨ret_bool (by rw [E.out, Bool.eq_iff_iff]; simp [h4]), HB.out⟩

end Go.Proofs.YtfnfbebkeoilfaaGreatDoor
