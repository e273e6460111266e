/- The document's own answer: may a meta be? Written by refmetagen.py. -/
import Derived.Test.YtfnfbebkeoilfaaGreatDoorRefIrB
import Derived.Test.YtfnfbebkeoilfaaGreatDoorRefBehind
namespace Go.Proofs.YtfnfbebkeoilfaaGreatDoor
open Go.RowKit
set_option linter.unusedVariables false

def chkAt (ps : List Fn) (rg : Int) (tl : List PartT) (i : Nat) : Bool :=
  partB ps rg ((tl.length : Int) - 1 - (i : Int)) (tl.getD i noPart) && (!decide ((tl.length : Int) - 1 - (i : Int) = 1) || behindB ps (tl.getD i noPart).1 (tl.getD i noPart).2.1 (tl.getD 1 noPart).1)
theorem metaB_two {ps : List Fn} {fn rg : Int} {tl : List PartT} (h : 1 ≤ tl.length) (h2 : tl.length ≤ 2) : metaB ps fn rg tl = (decide ((tl.getD 0 noPart).1 = fn) && (List.range tl.length).all (chkAt ps rg tl)) := by
  match tl, h, h2 with
  | [x], _, _ => simp [metaB, chkAt, List.range_succ]
  | [x, y], _, _ => simp [metaB, chkAt, List.range_succ, Bool.and_assoc]
theorem metaB_off {ps : List Fn} {fn rg : Int} {tl : List PartT} (h : ¬ (1 ≤ tl.length ∧ tl.length ≤ 2)) : metaB ps fn rg tl = false := by
  match tl, h with
  | [], _ => rfl
  | [_], h => exact absurd ⟨by simp, by simp⟩ h
  | [_, _], h => exact absurd ⟨by simp, by simp⟩ h
  | _ :: _ :: _ :: _, _ => rfl
theorem hall_no {p : Nat → Bool} {n q : Nat} (hq : q < n) (h : p q = false) : (List.range n).all p = false := List.all_eq_false.2 ⟨q, List.mem_range.2 hq, by rw [h]; simp⟩
theorem hall_yes {p : Nat → Bool} {q : Nat} (h : (List.range q).all p = true) (h' : p q = true) : (List.range (q + 1)).all p = true := by rw [List.range_succ, List.all_append, h]; simp [h']

set_option maxRecDepth 100000 in
set_option maxHeartbeats 8000000 in
theorem refMeta_any (pa : Option Addr) (pn pc : Nat) (ps : List Fn) (cf rg : Int) (ca : Option Addr) (cn cc : Nat) (ma : Option Addr) (mn mc : Nat) (ta : Option Addr) (tn tc : Nat) (tl : List PartT) (w : World) (hp : Fns w pa pn pc ps) (ht : Sl layPart 64 w ta tn tc tl) :
    Calls Tryz.prog 22 #[.agg #[.slice pa pn pc], .agg #[.int .i64 cf, .int .i64 rg, .slice ca cn cc, .slice ma mn mc], .agg #[.slice ta tn tc]] w fun e w' => e = .returned (.bool (metaB ps cf rg tl)) ∧ Below w.heap.size w w' := by
  have HP := hid hp
  have LP := hid hp.len
  have hpr := hp.room
  have hpc := hp.cap
  have HT := hid ht
  have LT := hid ht.len
  have htr := ht.room
  have htc := ht.cap
  clear hp ht
  go_enter Tryz.func22, Tryz.ntmps22
  go_upto_region 1 with fail
  refine wp_name ?_
  intro U hU
  have B : Hid (Below w.heap.size w U) := hid (by rw [hU]; go_grown)
  have p0 : U.cell? ⟨w.heap.size, 0, none⟩ = some (.slice pa pn pc) := by rw [hU]; simp [go_sem]
  have c0 : U.cell? ⟨w.heap.size + 1, 0, none⟩ = some (.int .i64 cf) := by rw [hU]; simp [go_sem]
  have c1 : U.cell? ⟨w.heap.size + 1, 1, none⟩ = some (.int .i64 rg) := by rw [hU]; simp [go_sem]
  have c2 : U.cell? ⟨w.heap.size + 1, 2, none⟩ = some (.slice ca cn cc) := by rw [hU]; simp [go_sem]
  have c3 : U.cell? ⟨w.heap.size + 1, 3, none⟩ = some (.slice ma mn mc) := by rw [hU]; simp [go_sem]
  have m0 : U.cell? ⟨w.heap.size + 1 + 1, 0, none⟩ = some (.slice ta tn tc) := by rw [hU]; simp [go_sem]
  clear hU
  have gp0 := cell_regrown p0
  have gc0 := cell_regrown c0
  have gc1 := cell_regrown c1
  have gc2 := cell_regrown c2
  have gc3 := cell_regrown c3
  have gm0 := cell_regrown m0
  by_cases h1 : 1 ≤ tn
  rotate_left
  · have F : Hid (metaB ps cf rg tl = false) := hid (metaB_off (by have := LT.out; omega))
    obtain rfl : tn = 0 := by omega
    refine wp_region_quiet_below (by kernel_rfl) (by kernel_rfl) ?_
    repeat (go_big_quiet_step (fail))
    refine wpQuiet_nil ?_
    intro _ hw'
    obtain ⟨⟨dq, osq⟩, hw''⟩ := hw'
    subst hw''
    go_wp2_with fail
    go_ret
    exact ⟨ret_bool F.out.symm, kt B.out (below_regrown _ _ _)⟩
  by_cases h2 : tn ≤ 2
  rotate_left
  · have F : Hid (metaB ps cf rg tl = false) := hid (metaB_off (by have := LT.out; omega))
    have d1 : decide ((tn : Int) < 1) = false := by simp; omega
    have d2 : decide ((2 : Int) < (tn : Int)) = true := by simp; omega
    refine wp_region_quiet_below (by kernel_rfl) (by kernel_rfl) ?_
    repeat (go_big_quiet_step (fail))
    refine wpQuiet_nil ?_
    intro _ hw'
    obtain ⟨⟨dq, osq⟩, hw''⟩ := hw'
    subst hw''
    go_wp2_with fail
    go_ret
    exact ⟨ret_bool F.out.symm, kt B.out (below_regrown _ _ _)⟩
  obtain ⟨b, o, f0, x0, la, ln, lc, ll, sa, sn, sc, sl, eta, ex, t0, t1, t2, t3, -, -⟩ := part_at (HT.out.kept B.out) 0 (by omega)
  subst eta
  simp only [Nat.zero_mul, Nat.add_zero] at t0
  have gt0 := cell_regrown t0
  have EM : Hid (metaB ps cf rg tl = (decide (f0 = cf) && (List.range tn).all (chkAt ps rg tl))) := hid (by rw [metaB_two (by have := LT.out; omega) (by have := LT.out; omega), LT.out, List.getD_eq_getElem?_getD, ex]; rfl)
  have d1 : decide ((tn : Int) < 1) = false := by simp; omega
  have d2 : decide ((2 : Int) < (tn : Int)) = false := by simp; omega
  clear t1 t2 t3 ex
  by_cases hf : f0 = cf
  rotate_left
  · have F : Hid (metaB ps cf rg tl = false) := hid (by rw [EM.out, decide_eq_false hf]; rfl)
    have hf' : (f0 != cf) = true := by simpa using hf
    refine wp_region_quiet_below (by kernel_rfl) (by kernel_rfl) ?_
    repeat (go_big_quiet_step (fail))
    refine wpQuiet_nil ?_
    intro _ hw'
    obtain ⟨⟨dq, osq⟩, hw''⟩ := hw'
    subst hw''
    go_wp2_with fail
    go_ret
    exact ⟨ret_bool F.out.symm, kt B.out (below_regrown _ _ _)⟩
  subst hf
  replace EM : Hid (metaB ps f0 rg tl = (List.range tn).all (chkAt ps rg tl)) := hid (by rw [EM.out]; simp)
  refine wp_region_quiet_below (by kernel_rfl) (by kernel_rfl) ?_
  repeat (go_big_quiet_step (fail))
  refine wpQuiet_nil ?_
  intro _ hw'
  obtain ⟨⟨dq, osq⟩, hw''⟩ := hw'
  subst hw''
  have B2 := hid (kt B.out (below_regrown U dq osq))
  replace p0 := kept_cell (below_regrown U dq osq) p0
  replace c0 := kept_cell (below_regrown U dq osq) c0
  replace c1 := kept_cell (below_regrown U dq osq) c1
  replace c2 := kept_cell (below_regrown U dq osq) c2
  replace c3 := kept_cell (below_regrown U dq osq) c3
  replace m0 := kept_cell (below_regrown U dq osq) m0
  clear gp0 gc0 gc1 gc2 gc3 gm0 gt0 t0 d1 d2
  go_wp2_with fail
  go_loopw [7] (fun i wr => ∃ q : Nat, q ≤ tn ∧ i = .int .i64 q ∧ (List.range q).all (chkAt ps rg tl) = true ∧ wr.cell? ⟨w.heap.size, 0, none⟩ = some (.slice pa pn pc) ∧ wr.cell? ⟨w.heap.size + 1, 0, none⟩ = some (.int .i64 f0) ∧ wr.cell? ⟨w.heap.size + 1, 1, none⟩ = some (.int .i64 rg) ∧ wr.cell? ⟨w.heap.size + 1, 2, none⟩ = some (.slice ca cn cc) ∧ wr.cell? ⟨w.heap.size + 1, 3, none⟩ = some (.slice ma mn mc) ∧ wr.cell? ⟨w.heap.size + 1 + 1, 0, none⟩ = some (.slice (some ⟨b, o, none⟩) tn tc) ∧ Below w.heap.size w wr) (fun i _ => tn - (intOf i).toNat)
  case atStart => exact ⟨0, Nat.zero_le _, rfl, rfl, p0, c0, c1, c2, c3, m0, B2.out⟩
  case round =>
    clear p0 c0 c1 c2 c3 m0 B B2
    obtain ⟨q, hq, rfl, hall, p0, c0, c1, c2, c3, m0, hb⟩ := hrel
    have HA := hid hall
    have HB := hid hb
    clear hall
    by_cases hlt : q < tn
    · obtain ⟨b', o', f1, x1, la1, ln1, lc1, ll1, sa1, sn1, sc1, sl1, eta, ex, t0, t1, t2, t3, hl, hs⟩ := part_at (HT.out.kept hb) q hlt
      have eo := Option.some.inj eta
      obtain ⟨rfl, rfl⟩ : b = b' ∧ o = o' := by cases eo; exact ⟨rfl, rfl⟩
      clear eta eo
      obtain ⟨L, hL⟩ : ∃ L : Int, (tn : Int) - 1 - (q : Int) = L := ⟨_, rfl⟩
      have EC : Hid (chkAt ps rg tl q = (partB ps rg L (f1, x1, ll1, sl1) && (!decide (L = 1) || behindB ps f1 x1 (tl.getD 1 noPart).1))) := hid (by unfold chkAt; rw [← LT.out, hL, List.getD_eq_getElem?_getD, ex]; rfl)
      have hL0 : 0 ≤ L ∧ L ≤ 1 := by omega
      have HLL := hid hl
      have HSS := hid hs
      have hlr := hl.room
      have hsr := hs.room
      clear ex hl hs hb
      have zp := lt_of_cell p0
      have zc := lt_of_cell c0
      have zm := lt_of_cell m0
      go_wp2_with fail
      refine (refHeight_any _ _ _ ps f1 x1 _ (HP.out.kept (kt HB.out (by go_grown)))).mono ?_
      rintro e V ⟨rfl, bV⟩
      have BV := hid (kt (Below.alloc (Below.refl wr.heap.size wr) (Nat.le_refl _) _) bV)
      have y0 := kept_cell bV (b := wr.heap.size) (o := 0) (v := .int .i64 f1) (by simp [go_sem])
      have y1 := kept_cell bV (b := wr.heap.size) (o := 1) (v := .int .i64 x1) (by simp [go_sem])
      have y2 := kept_cell bV (b := wr.heap.size) (o := 2) (v := .slice la1 ln1 lc1) (by simp [go_sem])
      have y3 := kept_cell bV (b := wr.heap.size) (o := 3) (v := .slice sa1 sn1 sc1) (by simp [go_sem])
      replace p0 := kept_cell BV.out p0
      replace c0 := kept_cell BV.out c0
      replace c1 := kept_cell BV.out c1
      replace c2 := kept_cell BV.out c2
      replace c3 := kept_cell BV.out c3
      replace m0 := kept_cell BV.out m0
      replace t0 := kept_cell BV.out t0
      replace t1 := kept_cell BV.out t1
      replace t2 := kept_cell BV.out t2
      replace t3 := kept_cell BV.out t3
      clear bV
      have BW := hid (kt HB.out BV.out)
      go_upto_region 9 with fail
      have gp0 := cell_regrown p0
      have gc0 := cell_regrown c0
      have gc1 := cell_regrown c1
      have gc2 := cell_regrown c2
      have gc3 := cell_regrown c3
      have gm0 := cell_regrown m0
      have gy0 := cell_regrown y0
      have gy1 := cell_regrown y1
      have gy2 := cell_regrown y2
      have gy3 := cell_regrown y3
      cases hrb : reachedB ps f1 x1
      · have F : Hid (metaB ps f0 rg tl = false) := hid (by rw [EM.out]; exact hall_no hlt (by rw [EC.out]; unfold partB; simp only [hrb]; rfl))
        have hh : heightV ps f1 x1 < 0 := by
          have : ¬ 0 ≤ heightV ps f1 x1 := by simpa [reachedB] using hrb
          omega
        have hh' : decide (heightV ps f1 x1 < 0) = true := by simpa using hh
        clear hrb
        refine wp_region_quiet_below (by kernel_rfl) (by kernel_rfl) ?_
        repeat (go_big_quiet_step (fail))
        refine wpQuiet_nil ?_
        intro _ hw'
        obtain ⟨⟨dq, osq⟩, hw''⟩ := hw'
        subst hw''
        go_wp2_with fail
        go_ret
        exact ⟨ret_bool F.out.symm, kt BW.out (below_regrown _ _ _)⟩
      · have hh : 0 ≤ heightV ps f1 x1 := by simpa [reachedB] using hrb
        have hbd := height_le ps f1 x1
        obtain ⟨fN, qN, rfl, rfl, hf, -, -, -, -⟩ := reached_in hh
        have hfn : fN < pn := by rw [LP.out]; exact hf
        obtain ⟨bp, op, gx, gy, ga, gn, gc, gl, rfl, e3, d0, d1, d2, i3⟩ := (HP.out.kept BW.out).at fN hfn
        have HH := hid hh
        generalize hG : heightV ps (fN : Int) (qN : Int) = H at hh hbd
        have EC2 : Hid (chkAt ps rg tl q = (srcsB rg ll1 gy && (srcsB rg sl1 (H - L) && (!decide (L = 1) || behindB ps (fN : Int) (qN : Int) (tl.getD 1 noPart).1)))) := hid (by rw [EC.out]; unfold partB; simp only [hrb, Int.toNat_natCast, e3, hG, Bool.true_and, Bool.and_assoc])
        have hh' : decide (H < 0) = false := by simpa using hh
        have gd1 := cell_regrown d1
        have qf0 : (0 : Int) ≤ (fN : Int) := by omega
        have qf1 : (fN : Int) < (pn : Int) := by omega
        have SL : Hid (∀ u, Below V.heap.size V u → Calls Tryz.prog 41 #[.agg #[.int .i64 f0, .int .i64 rg, .slice ca cn cc, .slice ma mn mc], .slice la1 ln1 lc1, .int .i64 gy] u fun e w' => e = .returned (.bool (srcsB rg ll1 gy)) ∧ Below u.heap.size u w') := hid (fun u hu => refSrcs_any f0 rg _ _ _ _ _ _ _ _ _ ll1 gy u (HLL.out.kept (kt BV.out hu)))
        have SS : Hid (∀ u, Below V.heap.size V u → Calls Tryz.prog 41 #[.agg #[.int .i64 f0, .int .i64 rg, .slice ca cn cc, .slice ma mn mc], .slice sa1 sn1 sc1, .int .i64 (H - L)] u fun e w' => e = .returned (.bool (srcsB rg sl1 (H - L))) ∧ Below u.heap.size u w') := hid (fun u hu => refSrcs_any f0 rg _ _ _ _ _ _ _ _ _ sl1 (H - L) u (HSS.out.kept (kt BV.out hu)))
        clear hrb e3 i3 d0 d2

        cases h1 : srcsB rg ll1 gy
        · have F : Hid (metaB ps f0 rg tl = false) := hid (by rw [EM.out]; exact hall_no hlt (by rw [EC2.out, h1]; rfl))
          rw [h1] at SL
          clear h1 SS
          refine wp_region_quiet_below (by kernel_rfl) (by kernel_rfl) ?_
          repeat (go_big_quiet_step (first | (go_at_call 41; exact Calls.regrown_of (SL.out _ (below_regrown _ _ _)))))
          refine wpQuiet_nil ?_
          intro _ hw'
          obtain ⟨⟨dq, osq⟩, hw''⟩ := hw'
          subst hw''
          go_wp2_with fail
          go_ret
          exact ⟨ret_bool F.out.symm, kt BW.out (below_regrown _ _ _)⟩
        rw [h1] at SL
        cases h2' : srcsB rg sl1 (H - L)
        · have F : Hid (metaB ps f0 rg tl = false) := hid (by rw [EM.out]; exact hall_no hlt (by rw [EC2.out, h1, h2']; rfl))
          rw [h2'] at SS
          clear h1 h2'
          refine wp_region_quiet_below (by kernel_rfl) (by kernel_rfl) ?_
          repeat (go_big_quiet_step (first | (go_at_call 41; first | with_reducible exact Calls.regrown_of (SL.out _ (below_regrown _ _ _)) | with_reducible exact Calls.regrown_of (SS.out _ (below_regrown _ _ _)))))
          refine wpQuiet_nil ?_
          intro _ hw'
          obtain ⟨⟨dq, osq⟩, hw''⟩ := hw'
          subst hw''
          go_wp2_with fail
          go_ret
          exact ⟨ret_bool F.out.symm, kt BW.out (below_regrown _ _ _)⟩
        rw [h2'] at SS
        have EC3 : Hid (chkAt ps rg tl q = (!decide (L = 1) || behindB ps (fN : Int) (qN : Int) (tl.getD 1 noPart).1)) := hid (by rw [EC2.out, h1, h2']; rfl)
        clear h1 h2'
        refine wp_region_quiet_below (by kernel_rfl) (by kernel_rfl) ?_
        repeat (go_big_quiet_step (first | (go_at_call 41; first | with_reducible exact Calls.regrown_of (SL.out _ (below_regrown _ _ _)) | with_reducible exact Calls.regrown_of (SS.out _ (below_regrown _ _ _)))))
        refine wpQuiet_nil ?_
        intro _ hw'
        obtain ⟨⟨dq, osq⟩, hw''⟩ := hw'
        subst hw''
        have BX := hid (kt BW.out (below_regrown V dq osq))
        have BY := hid (kt BV.out (below_regrown V dq osq))
        replace p0 := kept_cell (below_regrown V dq osq) p0
        replace c0 := kept_cell (below_regrown V dq osq) c0
        replace c1 := kept_cell (below_regrown V dq osq) c1
        replace c2 := kept_cell (below_regrown V dq osq) c2
        replace c3 := kept_cell (below_regrown V dq osq) c3
        replace m0 := kept_cell (below_regrown V dq osq) m0
        replace y0 := kept_cell (below_regrown V dq osq) y0
        replace y1 := kept_cell (below_regrown V dq osq) y1
        replace y2 := kept_cell (below_regrown V dq osq) y2
        replace y3 := kept_cell (below_regrown V dq osq) y3
        clear gp0 gc0 gc1 gc2 gc3 gm0 gy0 gy1 gy2 gy3 gd1 d1 t0 t1 t2 t3 SL SS
        go_upto_region 11 with fail
        have gp0 := cell_regrown p0
        have gc0 := cell_regrown c0
        have gc1 := cell_regrown c1
        have gc2 := cell_regrown c2
        have gc3 := cell_regrown c3
        have gm0 := cell_regrown m0
        have gy0 := cell_regrown y0
        have gy1 := cell_regrown y1
        have gy2 := cell_regrown y2
        have gy3 := cell_regrown y3
        by_cases hL1 : L = 1
        · have hq0 : q = 0 := by omega
          have htn : tn = 2 := by omega
          obtain ⟨b', o', f2, x2, la2, ln2, lc2, ll2, sa2, sn2, sc2, sl2, eta, ex, t0, -, -, -, -, -⟩ := part_at (HT.out.kept BX.out) 1 (by omega)
          have eo := Option.some.inj eta
          obtain ⟨rfl, rfl⟩ : b = b' ∧ o = o' := by cases eo; exact ⟨rfl, rfl⟩
          clear eta eo
          simp only [Nat.one_mul] at t0
          have gt0 := cell_regrown t0
          have EC4 : Hid (chkAt ps rg tl q = behindB ps (fN : Int) (qN : Int) f2) := hid (by rw [EC3.out, hL1, List.getD_eq_getElem?_getD, ex]; rfl)
          have SB : Hid (∀ u, Below V.heap.size V u → Calls Tryz.prog 42 #[.agg #[.slice (some ⟨bp, op, none⟩) pn pc], .int .i64 (fN : Int), .int .i64 (qN : Int), .int .i64 f2] u fun e w' => e = .returned (.bool (behindB ps (fN : Int) (qN : Int) f2)) ∧ Below u.heap.size u w') := hid (fun u hu => refBehind_any _ _ _ ps fN qN f2 u (HP.out.kept (kt BW.out hu)) HH.out)
          have hL1' : (L == 1) = true := by simpa using hL1
          have z1 : (1 : Int) < (tn : Int) := by omega
          clear ex hL hL0 hL1 hq0 htn
          cases hbh : behindB ps (fN : Int) (qN : Int) f2
          · have F : Hid (metaB ps f0 rg tl = false) := hid (by rw [EM.out]; exact hall_no hlt (by rw [EC4.out, hbh]))
            rw [hbh] at SB
            clear hbh
            refine wp_region_quiet_below (by kernel_rfl) (by kernel_rfl) ?_
            repeat (go_big_quiet_step (first | (go_at_call 42; exact Calls.regrown_of (SB.out _ (kt (below_regrown V dq osq) (below_regrown _ _ _))))))
            refine wpQuiet_nil ?_
            intro _ hw'
            obtain ⟨⟨dr, osr⟩, hw''⟩ := hw'
            subst hw''
            go_wp2_with fail
            go_ret
            exact ⟨ret_bool F.out.symm, kt BX.out (below_regrown _ _ _)⟩
          · have F : Hid ((List.range (q + 1)).all (chkAt ps rg tl) = true) := hid (hall_yes HA.out (by rw [EC4.out, hbh]))
            rw [hbh] at SB
            clear hbh
            refine wp_region_quiet_below (by kernel_rfl) (by kernel_rfl) ?_
            repeat (go_big_quiet_step (first | (go_at_call 42; exact Calls.regrown_of (SB.out _ (kt (below_regrown V dq osq) (below_regrown _ _ _))))))
            refine wpQuiet_nil ?_
            intro _ hw'
            obtain ⟨⟨dr, osr⟩, hw''⟩ := hw'
            subst hw''
            go_wp2_with fail
            go_roundw
            case rel => exact ⟨q + 1, by omega, by go_num, F.out, kept_cell (below_regrown _ _ _) p0, kept_cell (below_regrown _ _ _) c0, kept_cell (below_regrown _ _ _) c1, kept_cell (below_regrown _ _ _) c2, kept_cell (below_regrown _ _ _) c3, kept_cell (below_regrown _ _ _) m0, kt BX.out (below_regrown _ _ _)⟩
            case measure => simp [intOf]; omega
        · have hL1' : (L == 1) = false := by simpa using hL1
          have F : Hid ((List.range (q + 1)).all (chkAt ps rg tl) = true) := hid (hall_yes HA.out (by rw [EC3.out, decide_eq_false hL1]; rfl))
          clear hL1 hL
          refine wp_region_quiet_below (by kernel_rfl) (by kernel_rfl) ?_
          repeat (go_big_quiet_step (fail))
          refine wpQuiet_nil ?_
          intro _ hw'
          obtain ⟨⟨dr, osr⟩, hw''⟩ := hw'
          subst hw''
          go_wp2_with fail
          go_roundw
          case rel => exact ⟨q + 1, by omega, by go_num, F.out, kept_cell (below_regrown _ _ _) p0, kept_cell (below_regrown _ _ _) c0, kept_cell (below_regrown _ _ _) c1, kept_cell (below_regrown _ _ _) c2, kept_cell (below_regrown _ _ _) c3, kept_cell (below_regrown _ _ _) m0, kt BX.out (below_regrown _ _ _)⟩
          case measure => simp [intOf]; omega
    · have hqn : q = tn := by omega
      subst hqn
      have F : Hid (metaB ps f0 rg tl = true) := hid (by rw [EM.out]; exact HA.out)
      go_wp2_with fail
      go_ret
      exact ⟨ret_bool F.out.symm, hb⟩

end Go.Proofs.YtfnfbebkeoilfaaGreatDoor
