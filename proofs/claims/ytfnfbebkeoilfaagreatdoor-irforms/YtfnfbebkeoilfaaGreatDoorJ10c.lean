/- The document's own answer: may sources be so many? Written by refmetagen.py. The document's own answer: may a meta be? Written by refmetagen.py. The document's own answer: which code may be (CodeMay). Written by refcodegen.py. The document's own answer: where straight pieces of code begin (Leaders). Written by reflead10gen.py. -/
import Derived.Test.YtfnfbebkeoilfaaGreatDoorJ10b
import Derived.Test.YtfnfbebkeoilfaaGreatDoorJ10g
import Derived.Lib.QuietBelow
import Derived.Test.YtfnfbebkeoilfaaGreatDoorRefBehind
import Derived.Test.YtfnfbebkeoilfaaGreatDoorJ10i
import Derived.Test.YtfnfbebkeoilfaaGreatDoorJ4
import Derived.Test.YtfnfbebkeoilfaaGreatDoorJ10h
import Derived.Test.YtfnfbebkeoilfaaGreatDoorWpName
import Derived.Test.YtfnfbebkeoilfaaGreatDoorJ6b
import Derived.Deep.DeepCutAuto
namespace Go.Proofs.YtfnfbebkeoilfaaGreatDoor
open Go.RowKit
set_option linter.unusedVariables false

set_option maxRecDepth 100000 in
set_option maxHeartbeats 4000000 in
theorem refSrcs_any (cf rg : Int) (ca : Option Addr) (cn cc : Nat) (ma : Option Addr) (mn mc : Nat) (la : Option Addr) (ln lc : Nat) (ll : List SrcT) (k0 : Int) (w : World) (hl : Sl laySrcs 16 w la ln lc ll) :
    Calls Tryz.prog 41 #[.agg #[.int .i64 cf, .int .i64 rg, .slice ca cn cc, .slice ma mn mc], .slice la ln lc, .int .i64 k0] w fun e w' => e = .returned (.bool (srcsB rg ll k0)) ∧ Below w.heap.size w w' := by
  have L := hid hl.len
  have hlr := hl.room
  have hlc := hl.cap
  have HL := hid hl
  clear hl
  go_enter Tryz.func41, Tryz.ntmps41
  go_wp2_with fail
  go_loopw [7] (fun i wr => ∃ q : Nat, q ≤ ln ∧ i = .int .i64 q ∧ (ll.take q).all (srcB rg) = true ∧ wr.cell? ⟨w.heap.size, 0, none⟩ = some (.int .i64 cf) ∧ wr.cell? ⟨w.heap.size, 1, none⟩ = some (.int .i64 rg) ∧ wr.cell? ⟨w.heap.size, 2, none⟩ = some (.slice ca cn cc) ∧ wr.cell? ⟨w.heap.size, 3, none⟩ = some (.slice ma mn mc) ∧ Below w.heap.size w wr) (fun i _ => ln - (intOf i).toNat)
  case atStart => exact ⟨0, Nat.zero_le _, rfl, by simp, by simp [go_sem], by simp [go_sem], by simp [go_sem], by simp [go_sem], by go_grown⟩
  case round =>
    obtain ⟨q, hq, rfl, ht, z0, z1, z2, z3, hb⟩ := hrel
    have HT := hid ht
    clear ht
    by_cases hlt : q < ln
    · obtain ⟨b, o, k, v, rfl, hx, c0, c1⟩ := src_at (HL.out.kept hb) q hlt
      have HX := hid hx
      have d0 := cell_regrown c0
      have d1 := cell_regrown c1
      have r0 := cell_regrown z0
      have r1 := cell_regrown z1
      have r2 := cell_regrown z2
      have r3 := cell_regrown z3
      have q0 : (0 : Int) ≤ (q : Int) := by omega
      have q1 : (q : Int) < (ln : Int) := by omega
      clear hx
      go_wp2_with fail
      cases k
      · cases hv : regB rg v
        case false =>
          have SR : Hid (∀ u, Calls Tryz.prog 38 #[.agg #[.int .i64 cf, .int .i64 rg, .slice ca cn cc, .slice ma mn mc], .int .i64 v] u fun e w' => e = .returned (.bool false) ∧ Below u.heap.size u w') := hid (fun u => (refReg_any cf rg _ _ _ _ _ _ v u).mono (fun _ _ h => ⟨by rw [h.1, hv], h.2⟩))
          have F : Hid (srcsB rg ll k0 = false) := hid (by unfold srcsB; rw [List.all_eq_false.2 ⟨_, List.mem_of_getElem? HX.out, by rw [show srcB rg (false, v) = false from hv]; simp⟩]; rfl)
          clear hv
          refine wp_region_quiet_below (by kernel_rfl) (by kernel_rfl) ?_
          repeat (go_big_quiet_step (first | fail | (go_at_call 38; exact Calls.regrown_of (SR.out _))))
          refine wpQuiet_nil ?_
          intro _ hw'
          obtain ⟨⟨dq, osq⟩, hw''⟩ := hw'
          subst hw''
          go_wp2_with fail
          go_ret
          exact ⟨ret_bool F.out.symm, kt hb (below_regrown _ _ _)⟩
        case true =>
          have SR : Hid (∀ u, Calls Tryz.prog 38 #[.agg #[.int .i64 cf, .int .i64 rg, .slice ca cn cc, .slice ma mn mc], .int .i64 v] u fun e w' => e = .returned (.bool true) ∧ Below u.heap.size u w') := hid (fun u => (refReg_any cf rg _ _ _ _ _ _ v u).mono (fun _ _ h => ⟨by rw [h.1, hv], h.2⟩))
          have F : Hid ((ll.take (q + 1)).all (srcB rg) = true) := hid (by rw [List.take_add_one, List.all_append, HT.out, HX.out]; show (true && (srcB rg (false, v) && true)) = true; rw [show srcB rg (false, v) = true from hv]; rfl)
          clear hv
          refine wp_region_quiet_below (by kernel_rfl) (by kernel_rfl) ?_
          repeat (go_big_quiet_step (first | fail | (go_at_call 38; exact Calls.regrown_of (SR.out _))))
          refine wpQuiet_nil ?_
          intro _ hw'
          obtain ⟨⟨dq, osq⟩, hw''⟩ := hw'
          subst hw''
          go_wp2_with fail
          go_roundw
          case rel => exact ⟨q + 1, by omega, by go_num, F.out, kept_cell (below_regrown _ _ _) z0, kept_cell (below_regrown _ _ _) z1, kept_cell (below_regrown _ _ _) z2, kept_cell (below_regrown _ _ _) z3, kt hb (below_regrown _ _ _)⟩
          case measure => simp [intOf]; omega
      · cases hv : isNum v
        case false =>
          have SN : Hid (∀ u, Calls Tryz.prog 39 #[.int .i64 v] u fun e w' => e = .returned (.bool false) ∧ Below u.heap.size u w') := hid (fun u => (refNumber_any v u).mono (fun _ _ h => ⟨by rw [h.1, hv], h.2 ▸ Below.refl _ _⟩))
          have F : Hid (srcsB rg ll k0 = false) := hid (by unfold srcsB; rw [List.all_eq_false.2 ⟨_, List.mem_of_getElem? HX.out, by rw [show srcB rg (true, v) = false from hv]; simp⟩]; rfl)
          clear hv
          refine wp_region_quiet_below (by kernel_rfl) (by kernel_rfl) ?_
          repeat (go_big_quiet_step (first | (go_at_call 39; exact Calls.regrown_of (SN.out _)) | fail))
          refine wpQuiet_nil ?_
          intro _ hw'
          obtain ⟨⟨dq, osq⟩, hw''⟩ := hw'
          subst hw''
          go_wp2_with fail
          go_ret
          exact ⟨ret_bool F.out.symm, kt hb (below_regrown _ _ _)⟩
        case true =>
          have SN : Hid (∀ u, Calls Tryz.prog 39 #[.int .i64 v] u fun e w' => e = .returned (.bool true) ∧ Below u.heap.size u w') := hid (fun u => (refNumber_any v u).mono (fun _ _ h => ⟨by rw [h.1, hv], h.2 ▸ Below.refl _ _⟩))
          have F : Hid ((ll.take (q + 1)).all (srcB rg) = true) := hid (by rw [List.take_add_one, List.all_append, HT.out, HX.out]; show (true && (srcB rg (true, v) && true)) = true; rw [show srcB rg (true, v) = true from hv]; rfl)
          clear hv
          refine wp_region_quiet_below (by kernel_rfl) (by kernel_rfl) ?_
          repeat (go_big_quiet_step (first | (go_at_call 39; exact Calls.regrown_of (SN.out _)) | fail))
          refine wpQuiet_nil ?_
          intro _ hw'
          obtain ⟨⟨dq, osq⟩, hw''⟩ := hw'
          subst hw''
          go_wp2_with fail
          go_roundw
          case rel => exact ⟨q + 1, by omega, by go_num, F.out, kept_cell (below_regrown _ _ _) z0, kept_cell (below_regrown _ _ _) z1, kept_cell (below_regrown _ _ _) z2, kept_cell (below_regrown _ _ _) z3, kt hb (below_regrown _ _ _)⟩
          case measure => simp [intOf]; omega
    · have hqn : q = ln := by omega
      subst hqn
      have ha : Hid (ll.all (srcB rg) = true) := hid (by have h := HT.out; rwa [List.take_of_length_le (by have := L.out; omega)] at h)
      by_cases hk : (q : Int) = k0
      · have F : Hid (srcsB rg ll k0 = true) := hid (by unfold srcsB; rw [ha.out, decide_eq_true (by rw [← L.out]; exact hk)]; rfl)
        have hk' : ((q : Int) == k0) = true := by simpa using hk
        clear hk
        go_wp2_with fail
        go_ret
        exact ⟨ret_bool F.out.symm, hb⟩
      · have F : Hid (srcsB rg ll k0 = false) := hid (by unfold srcsB; rw [ha.out, decide_eq_false (by rw [← L.out]; exact hk)]; rfl)
        have hk' : ((q : Int) == k0) = false := by simpa using hk
        clear hk
        go_wp2_with fail
        go_ret
        exact ⟨ret_bool F.out.symm, hb⟩

end Go.Proofs.YtfnfbebkeoilfaaGreatDoor

namespace Go.Proofs.YtfnfbebkeoilfaaGreatDoor
open Go.RowKit
set_option linter.unusedVariables false

def chkAt (ps : List Fn) (rg : Int) (tl : List PartT) (i : Nat) : Bool :=
  partB ps rg ((tl.length : Int) - 1 - (i : Int)) (tl.getD i noPart) && (!decide ((tl.length : Int) - 1 - (i : Int) = 1) || behindB ps (tl.getD i noPart).1 (tl.getD i noPart).2.1 (tl.getD 1 noPart).1)
theorem metaB_two {ps : List Fn} {fn rg : Int} {tl : List PartT} (h : 1 ≤ tl.length) (h2 : tl.length ≤ 2) : metaB ps fn rg tl = (decide ((tl.getD 0 noPart).1 = fn) && (List.range tl.length).all (chkAt ps rg tl)) := by
  match tl, h, h2 with
  | [x], _, _ => simp [metaB, chkAt, List.range_succ]
  | [x, y], _, _ => simp [metaB, chkAt, List.range_succ, Bool.and_assoc]
theorem metaB_off {ps : List Fn} {fn rg : Int} {tl : List PartT} (h : ¬ (1 ≤ tl.length ∧ tl.length ≤ 2)) : metaB ps fn rg tl = false := by
  match tl, h with
  | [], _ => rfl
  | [_], h => exact absurd ⟨by simp, by simp⟩ h
  | [_, _], h => exact absurd ⟨by simp, by simp⟩ h
  | _ :: _ :: _ :: _, _ => rfl
theorem hall_no {p : Nat → Bool} {n q : Nat} (hq : q < n) (h : p q = false) : (List.range n).all p = false := List.all_eq_false.2 ⟨q, List.mem_range.2 hq, by rw [h]; simp⟩
theorem hall_yes {p : Nat → Bool} {q : Nat} (h : (List.range q).all p = true) (h' : p q = true) : (List.range (q + 1)).all p = true := by rw [List.range_succ, List.all_append, h]; simp [h']

set_option maxRecDepth 100000 in
set_option maxHeartbeats 8000000 in
theorem refMeta_any (pa : Option Addr) (pn pc : Nat) (ps : List Fn) (cf rg : Int) (ca : Option Addr) (cn cc : Nat) (ma : Option Addr) (mn mc : Nat) (ta : Option Addr) (tn tc : Nat) (tl : List PartT) (w : World) (hp : Fns w pa pn pc ps) (ht : Sl layPart 64 w ta tn tc tl) :
    Calls Tryz.prog 22 #[.agg #[.slice pa pn pc], .agg #[.int .i64 cf, .int .i64 rg, .slice ca cn cc, .slice ma mn mc], .agg #[.slice ta tn tc]] w fun e w' => e = .returned (.bool (metaB ps cf rg tl)) ∧ Below w.heap.size w w' := by
  have HP := hid hp
  have LP := hid hp.len
  have hpr := hp.room
  have hpc := hp.cap
  have HT := hid ht
  have LT := hid ht.len
  have htr := ht.room
  have htc := ht.cap
  clear hp ht
  go_enter Tryz.func22, Tryz.ntmps22
  go_upto_region 1 with fail
  refine wp_name ?_
  intro U hU
  have B : Hid (Below w.heap.size w U) := hid (by rw [hU]; go_grown)
  have p0 : U.cell? ⟨w.heap.size, 0, none⟩ = some (.slice pa pn pc) := by rw [hU]; simp [go_sem]
  have c0 : U.cell? ⟨w.heap.size + 1, 0, none⟩ = some (.int .i64 cf) := by rw [hU]; simp [go_sem]
  have c1 : U.cell? ⟨w.heap.size + 1, 1, none⟩ = some (.int .i64 rg) := by rw [hU]; simp [go_sem]
  have c2 : U.cell? ⟨w.heap.size + 1, 2, none⟩ = some (.slice ca cn cc) := by rw [hU]; simp [go_sem]
  have c3 : U.cell? ⟨w.heap.size + 1, 3, none⟩ = some (.slice ma mn mc) := by rw [hU]; simp [go_sem]
  have m0 : U.cell? ⟨w.heap.size + 1 + 1, 0, none⟩ = some (.slice ta tn tc) := by rw [hU]; simp [go_sem]
  clear hU
  have gp0 := cell_regrown p0
  have gc0 := cell_regrown c0
  have gc1 := cell_regrown c1
  have gc2 := cell_regrown c2
  have gc3 := cell_regrown c3
  have gm0 := cell_regrown m0
  by_cases h1 : 1 ≤ tn
  rotate_left
  · have F : Hid (metaB ps cf rg tl = false) := hid (metaB_off (by have := LT.out; omega))
    obtain rfl : tn = 0 := by omega
    refine wp_region_quiet_below (by kernel_rfl) (by kernel_rfl) ?_
    repeat (go_big_quiet_step (fail))
    refine wpQuiet_nil ?_
    intro _ hw'
    obtain ⟨⟨dq, osq⟩, hw''⟩ := hw'
    subst hw''
    go_wp2_with fail
    go_ret
    exact ⟨ret_bool F.out.symm, kt B.out (below_regrown _ _ _)⟩
  by_cases h2 : tn ≤ 2
  rotate_left
  · have F : Hid (metaB ps cf rg tl = false) := hid (metaB_off (by have := LT.out; omega))
    have d1 : decide ((tn : Int) < 1) = false := by simp; omega
    have d2 : decide ((2 : Int) < (tn : Int)) = true := by simp; omega
    refine wp_region_quiet_below (by kernel_rfl) (by kernel_rfl) ?_
    repeat (go_big_quiet_step (fail))
    refine wpQuiet_nil ?_
    intro _ hw'
    obtain ⟨⟨dq, osq⟩, hw''⟩ := hw'
    subst hw''
    go_wp2_with fail
    go_ret
    exact ⟨ret_bool F.out.symm, kt B.out (below_regrown _ _ _)⟩
  obtain ⟨b, o, f0, x0, la, ln, lc, ll, sa, sn, sc, sl, eta, ex, t0, t1, t2, t3, -, -⟩ := part_at (HT.out.kept B.out) 0 (by omega)
  subst eta
  simp only [Nat.zero_mul, Nat.add_zero] at t0
  have gt0 := cell_regrown t0
  have EM : Hid (metaB ps cf rg tl = (decide (f0 = cf) && (List.range tn).all (chkAt ps rg tl))) := hid (by rw [metaB_two (by have := LT.out; omega) (by have := LT.out; omega), LT.out, List.getD_eq_getElem?_getD, ex]; rfl)
  have d1 : decide ((tn : Int) < 1) = false := by simp; omega
  have d2 : decide ((2 : Int) < (tn : Int)) = false := by simp; omega
  clear t1 t2 t3 ex
  by_cases hf : f0 = cf
  rotate_left
  · have F : Hid (metaB ps cf rg tl = false) := hid (by rw [EM.out, decide_eq_false hf]; rfl)
    have hf' : (f0 != cf) = true := by simpa using hf
    refine wp_region_quiet_below (by kernel_rfl) (by kernel_rfl) ?_
    repeat (go_big_quiet_step (fail))
    refine wpQuiet_nil ?_
    intro _ hw'
    obtain ⟨⟨dq, osq⟩, hw''⟩ := hw'
    subst hw''
    go_wp2_with fail
    go_ret
    exact ⟨ret_bool F.out.symm, kt B.out (below_regrown _ _ _)⟩
  subst hf
  replace EM : Hid (metaB ps f0 rg tl = (List.range tn).all (chkAt ps rg tl)) := hid (by rw [EM.out]; simp)
  refine wp_region_quiet_below (by kernel_rfl) (by kernel_rfl) ?_
  repeat (go_big_quiet_step (fail))
  refine wpQuiet_nil ?_
  intro _ hw'
  obtain ⟨⟨dq, osq⟩, hw''⟩ := hw'
  subst hw''
  have B2 := hid (kt B.out (below_regrown U dq osq))
  replace p0 := kept_cell (below_regrown U dq osq) p0
  replace c0 := kept_cell (below_regrown U dq osq) c0
  replace c1 := kept_cell (below_regrown U dq osq) c1
  replace c2 := kept_cell (below_regrown U dq osq) c2
  replace c3 := kept_cell (below_regrown U dq osq) c3
  replace m0 := kept_cell (below_regrown U dq osq) m0
  clear gp0 gc0 gc1 gc2 gc3 gm0 gt0 t0 d1 d2
  go_wp2_with fail
  go_loopw [7] (fun i wr => ∃ q : Nat, q ≤ tn ∧ i = .int .i64 q ∧ (List.range q).all (chkAt ps rg tl) = true ∧ wr.cell? ⟨w.heap.size, 0, none⟩ = some (.slice pa pn pc) ∧ wr.cell? ⟨w.heap.size + 1, 0, none⟩ = some (.int .i64 f0) ∧ wr.cell? ⟨w.heap.size + 1, 1, none⟩ = some (.int .i64 rg) ∧ wr.cell? ⟨w.heap.size + 1, 2, none⟩ = some (.slice ca cn cc) ∧ wr.cell? ⟨w.heap.size + 1, 3, none⟩ = some (.slice ma mn mc) ∧ wr.cell? ⟨w.heap.size + 1 + 1, 0, none⟩ = some (.slice (some ⟨b, o, none⟩) tn tc) ∧ Below w.heap.size w wr) (fun i _ => tn - (intOf i).toNat)
  case atStart => exact ⟨0, Nat.zero_le _, rfl, rfl, p0, c0, c1, c2, c3, m0, B2.out⟩
  case round =>
    clear p0 c0 c1 c2 c3 m0 B B2
    obtain ⟨q, hq, rfl, hall, p0, c0, c1, c2, c3, m0, hb⟩ := hrel
    have HA := hid hall
    have HB := hid hb
    clear hall
    by_cases hlt : q < tn
    · obtain ⟨b', o', f1, x1, la1, ln1, lc1, ll1, sa1, sn1, sc1, sl1, eta, ex, t0, t1, t2, t3, hl, hs⟩ := part_at (HT.out.kept hb) q hlt
      have eo := Option.some.inj eta
      obtain ⟨rfl, rfl⟩ : b = b' ∧ o = o' := by cases eo; exact ⟨rfl, rfl⟩
      clear eta eo
      obtain ⟨L, hL⟩ : ∃ L : Int, (tn : Int) - 1 - (q : Int) = L := ⟨_, rfl⟩
      have EC : Hid (chkAt ps rg tl q = (partB ps rg L (f1, x1, ll1, sl1) && (!decide (L = 1) || behindB ps f1 x1 (tl.getD 1 noPart).1))) := hid (by unfold chkAt; rw [← LT.out, hL, List.getD_eq_getElem?_getD, ex]; rfl)
      have hL0 : 0 ≤ L ∧ L ≤ 1 := by omega
      have HLL := hid hl
      have HSS := hid hs
      have hlr := hl.room
      have hsr := hs.room
      clear ex hl hs hb
      have zp := lt_of_cell p0
      have zc := lt_of_cell c0
      have zm := lt_of_cell m0
      go_wp2_with fail
      refine (refHeight_any _ _ _ ps f1 x1 _ (HP.out.kept (kt HB.out (by go_grown)))).mono ?_
      rintro e V ⟨rfl, bV⟩
      have BV := hid (kt (Below.alloc (Below.refl wr.heap.size wr) (Nat.le_refl _) _) bV)
      have y0 := kept_cell bV (b := wr.heap.size) (o := 0) (v := .int .i64 f1) (by simp [go_sem])
      have y1 := kept_cell bV (b := wr.heap.size) (o := 1) (v := .int .i64 x1) (by simp [go_sem])
      have y2 := kept_cell bV (b := wr.heap.size) (o := 2) (v := .slice la1 ln1 lc1) (by simp [go_sem])
      have y3 := kept_cell bV (b := wr.heap.size) (o := 3) (v := .slice sa1 sn1 sc1) (by simp [go_sem])
      replace p0 := kept_cell BV.out p0
      replace c0 := kept_cell BV.out c0
      replace c1 := kept_cell BV.out c1
      replace c2 := kept_cell BV.out c2
      replace c3 := kept_cell BV.out c3
      replace m0 := kept_cell BV.out m0
      replace t0 := kept_cell BV.out t0
      replace t1 := kept_cell BV.out t1
      replace t2 := kept_cell BV.out t2
      replace t3 := kept_cell BV.out t3
      clear bV
      have BW := hid (kt HB.out BV.out)
      go_upto_region 9 with fail
      have gp0 := cell_regrown p0
      have gc0 := cell_regrown c0
      have gc1 := cell_regrown c1
      have gc2 := cell_regrown c2
      have gc3 := cell_regrown c3
      have gm0 := cell_regrown m0
      have gy0 := cell_regrown y0
      have gy1 := cell_regrown y1
      have gy2 := cell_regrown y2
      have gy3 := cell_regrown y3
      cases hrb : reachedB ps f1 x1
      · have F : Hid (metaB ps f0 rg tl = false) := hid (by rw [EM.out]; exact hall_no hlt (by rw [EC.out]; unfold partB; simp only [hrb]; rfl))
        have hh : heightV ps f1 x1 < 0 := by
          have : ¬ 0 ≤ heightV ps f1 x1 := by simpa [reachedB] using hrb
          omega
        have hh' : decide (heightV ps f1 x1 < 0) = true := by simpa using hh
        clear hrb
        refine wp_region_quiet_below (by kernel_rfl) (by kernel_rfl) ?_
        repeat (go_big_quiet_step (fail))
        refine wpQuiet_nil ?_
        intro _ hw'
        obtain ⟨⟨dq, osq⟩, hw''⟩ := hw'
        subst hw''
        go_wp2_with fail
        go_ret
        exact ⟨ret_bool F.out.symm, kt BW.out (below_regrown _ _ _)⟩
      · have hh : 0 ≤ heightV ps f1 x1 := by simpa [reachedB] using hrb
        have hbd := height_le ps f1 x1
        obtain ⟨fN, qN, rfl, rfl, hf, -, -, -, -⟩ := reached_in hh
        have hfn : fN < pn := by rw [LP.out]; exact hf
        obtain ⟨bp, op, gx, gy, ga, gn, gc, gl, rfl, e3, d0, d1, d2, i3⟩ := (HP.out.kept BW.out).at fN hfn
        have HH := hid hh
        generalize hG : heightV ps (fN : Int) (qN : Int) = H at hh hbd
        have EC2 : Hid (chkAt ps rg tl q = (srcsB rg ll1 gy && (srcsB rg sl1 (H - L) && (!decide (L = 1) || behindB ps (fN : Int) (qN : Int) (tl.getD 1 noPart).1)))) := hid (by rw [EC.out]; unfold partB; simp only [hrb, Int.toNat_natCast, e3, hG, Bool.true_and, Bool.and_assoc])
        have hh' : decide (H < 0) = false := by simpa using hh
        have gd1 := cell_regrown d1
        have qf0 : (0 : Int) ≤ (fN : Int) := by omega
        have qf1 : (fN : Int) < (pn : Int) := by omega
        have SL : Hid (∀ u, Below V.heap.size V u → Calls Tryz.prog 41 #[.agg #[.int .i64 f0, .int .i64 rg, .slice ca cn cc, .slice ma mn mc], .slice la1 ln1 lc1, .int .i64 gy] u fun e w' => e = .returned (.bool (srcsB rg ll1 gy)) ∧ Below u.heap.size u w') := hid (fun u hu => refSrcs_any f0 rg _ _ _ _ _ _ _ _ _ ll1 gy u (HLL.out.kept (kt BV.out hu)))
        have SS : Hid (∀ u, Below V.heap.size V u → Calls Tryz.prog 41 #[.agg #[.int .i64 f0, .int .i64 rg, .slice ca cn cc, .slice ma mn mc], .slice sa1 sn1 sc1, .int .i64 (H - L)] u fun e w' => e = .returned (.bool (srcsB rg sl1 (H - L))) ∧ Below u.heap.size u w') := hid (fun u hu => refSrcs_any f0 rg _ _ _ _ _ _ _ _ _ sl1 (H - L) u (HSS.out.kept (kt BV.out hu)))
        clear hrb e3 i3 d0 d2

        cases h1 : srcsB rg ll1 gy
        · have F : Hid (metaB ps f0 rg tl = false) := hid (by rw [EM.out]; exact hall_no hlt (by rw [EC2.out, h1]; rfl))
          rw [h1] at SL
          clear h1 SS
          refine wp_region_quiet_below (by kernel_rfl) (by kernel_rfl) ?_
          repeat (go_big_quiet_step (first | (go_at_call 41; exact Calls.regrown_of (SL.out _ (below_regrown _ _ _)))))
          refine wpQuiet_nil ?_
          intro _ hw'
          obtain ⟨⟨dq, osq⟩, hw''⟩ := hw'
          subst hw''
          go_wp2_with fail
          go_ret
          exact ⟨ret_bool F.out.symm, kt BW.out (below_regrown _ _ _)⟩
        rw [h1] at SL
        cases h2' : srcsB rg sl1 (H - L)
        · have F : Hid (metaB ps f0 rg tl = false) := hid (by rw [EM.out]; exact hall_no hlt (by rw [EC2.out, h1, h2']; rfl))
          rw [h2'] at SS
          clear h1 h2'
          refine wp_region_quiet_below (by kernel_rfl) (by kernel_rfl) ?_
          repeat (go_big_quiet_step (first | (go_at_call 41; first | with_reducible exact Calls.regrown_of (SL.out _ (below_regrown _ _ _)) | with_reducible exact Calls.regrown_of (SS.out _ (below_regrown _ _ _)))))
          refine wpQuiet_nil ?_
          intro _ hw'
          obtain ⟨⟨dq, osq⟩, hw''⟩ := hw'
          subst hw''
          go_wp2_with fail
          go_ret
          exact ⟨ret_bool F.out.symm, kt BW.out (below_regrown _ _ _)⟩
        rw [h2'] at SS
        have EC3 : Hid (chkAt ps rg tl q = (!decide (L = 1) || behindB ps (fN : Int) (qN : Int) (tl.getD 1 noPart).1)) := hid (by rw [EC2.out, h1, h2']; rfl)
        clear h1 h2'
        refine wp_region_quiet_below (by kernel_rfl) (by kernel_rfl) ?_
        repeat (go_big_quiet_step (first | (go_at_call 41; first | with_reducible exact Calls.regrown_of (SL.out _ (below_regrown _ _ _)) | with_reducible exact Calls.regrown_of (SS.out _ (below_regrown _ _ _)))))
        refine wpQuiet_nil ?_
        intro _ hw'
        obtain ⟨⟨dq, osq⟩, hw''⟩ := hw'
        subst hw''
        have BX := hid (kt BW.out (below_regrown V dq osq))
        have BY := hid (kt BV.out (below_regrown V dq osq))
        replace p0 := kept_cell (below_regrown V dq osq) p0
        replace c0 := kept_cell (below_regrown V dq osq) c0
        replace c1 := kept_cell (below_regrown V dq osq) c1
        replace c2 := kept_cell (below_regrown V dq osq) c2
        replace c3 := kept_cell (below_regrown V dq osq) c3
        replace m0 := kept_cell (below_regrown V dq osq) m0
        replace y0 := kept_cell (below_regrown V dq osq) y0
        replace y1 := kept_cell (below_regrown V dq osq) y1
        replace y2 := kept_cell (below_regrown V dq osq) y2
        replace y3 := kept_cell (below_regrown V dq osq) y3
        clear gp0 gc0 gc1 gc2 gc3 gm0 gy0 gy1 gy2 gy3 gd1 d1 t0 t1 t2 t3 SL SS
        go_upto_region 11 with fail
        have gp0 := cell_regrown p0
        have gc0 := cell_regrown c0
        have gc1 := cell_regrown c1
        have gc2 := cell_regrown c2
        have gc3 := cell_regrown c3
        have gm0 := cell_regrown m0
        have gy0 := cell_regrown y0
        have gy1 := cell_regrown y1
        have gy2 := cell_regrown y2
        have gy3 := cell_regrown y3
        by_cases hL1 : L = 1
        · have hq0 : q = 0 := by omega
          have htn : tn = 2 := by omega
          obtain ⟨b', o', f2, x2, la2, ln2, lc2, ll2, sa2, sn2, sc2, sl2, eta, ex, t0, -, -, -, -, -⟩ := part_at (HT.out.kept BX.out) 1 (by omega)
          have eo := Option.some.inj eta
          obtain ⟨rfl, rfl⟩ : b = b' ∧ o = o' := by cases eo; exact ⟨rfl, rfl⟩
          clear eta eo
          simp only [Nat.one_mul] at t0
          have gt0 := cell_regrown t0
          have EC4 : Hid (chkAt ps rg tl q = behindB ps (fN : Int) (qN : Int) f2) := hid (by rw [EC3.out, hL1, List.getD_eq_getElem?_getD, ex]; rfl)
          have SB : Hid (∀ u, Below V.heap.size V u → Calls Tryz.prog 42 #[.agg #[.slice (some ⟨bp, op, none⟩) pn pc], .int .i64 (fN : Int), .int .i64 (qN : Int), .int .i64 f2] u fun e w' => e = .returned (.bool (behindB ps (fN : Int) (qN : Int) f2)) ∧ Below u.heap.size u w') := hid (fun u hu => refBehind_any _ _ _ ps fN qN f2 u (HP.out.kept (kt BW.out hu)) HH.out)
          have hL1' : (L == 1) = true := by simpa using hL1
          have z1 : (1 : Int) < (tn : Int) := by omega
          clear ex hL hL0 hL1 hq0 htn
          cases hbh : behindB ps (fN : Int) (qN : Int) f2
          · have F : Hid (metaB ps f0 rg tl = false) := hid (by rw [EM.out]; exact hall_no hlt (by rw [EC4.out, hbh]))
            rw [hbh] at SB
            clear hbh
            refine wp_region_quiet_below (by kernel_rfl) (by kernel_rfl) ?_
            repeat (go_big_quiet_step (first | (go_at_call 42; exact Calls.regrown_of (SB.out _ (kt (below_regrown V dq osq) (below_regrown _ _ _))))))
            refine wpQuiet_nil ?_
            intro _ hw'
            obtain ⟨⟨dr, osr⟩, hw''⟩ := hw'
            subst hw''
            go_wp2_with fail
            go_ret
            exact ⟨ret_bool F.out.symm, kt BX.out (below_regrown _ _ _)⟩
          · have F : Hid ((List.range (q + 1)).all (chkAt ps rg tl) = true) := hid (hall_yes HA.out (by rw [EC4.out, hbh]))
            rw [hbh] at SB
            clear hbh
            refine wp_region_quiet_below (by kernel_rfl) (by kernel_rfl) ?_
            repeat (go_big_quiet_step (first | (go_at_call 42; exact Calls.regrown_of (SB.out _ (kt (below_regrown V dq osq) (below_regrown _ _ _))))))
            refine wpQuiet_nil ?_
            intro _ hw'
            obtain ⟨⟨dr, osr⟩, hw''⟩ := hw'
            subst hw''
            go_wp2_with fail
            go_roundw
            case rel => exact ⟨q + 1, by omega, by go_num, F.out, kept_cell (below_regrown _ _ _) p0, kept_cell (below_regrown _ _ _) c0, kept_cell (below_regrown _ _ _) c1, kept_cell (below_regrown _ _ _) c2, kept_cell (below_regrown _ _ _) c3, kept_cell (below_regrown _ _ _) m0, kt BX.out (below_regrown _ _ _)⟩
            case measure => simp [intOf]; omega
        · have hL1' : (L == 1) = false := by simpa using hL1
          have F : Hid ((List.range (q + 1)).all (chkAt ps rg tl) = true) := hid (hall_yes HA.out (by rw [EC3.out, decide_eq_false hL1]; rfl))
          clear hL1 hL
          refine wp_region_quiet_below (by kernel_rfl) (by kernel_rfl) ?_
          repeat (go_big_quiet_step (fail))
          refine wpQuiet_nil ?_
          intro _ hw'
          obtain ⟨⟨dr, osr⟩, hw''⟩ := hw'
          subst hw''
          go_wp2_with fail
          go_roundw
          case rel => exact ⟨q + 1, by omega, by go_num, F.out, kept_cell (below_regrown _ _ _) p0, kept_cell (below_regrown _ _ _) c0, kept_cell (below_regrown _ _ _) c1, kept_cell (below_regrown _ _ _) c2, kept_cell (below_regrown _ _ _) c3, kept_cell (below_regrown _ _ _) m0, kt BX.out (below_regrown _ _ _)⟩
          case measure => simp [intOf]; omega
    · have hqn : q = tn := by omega
      subst hqn
      have F : Hid (metaB ps f0 rg tl = true) := hid (by rw [EM.out]; exact HA.out)
      go_wp2_with fail
      go_ret
      exact ⟨ret_bool F.out.symm, hb⟩

end Go.Proofs.YtfnfbebkeoilfaaGreatDoor

namespace Go.Proofs.YtfnfbebkeoilfaaGreatDoor
open Go.RowKit
set_option linter.unusedVariables false

theorem codeMay_no {ps : List Fn} {c : CdT} (h : headC ps c = false) : codeMayB ps c = false := by unfold codeMayB; rw [h]; simp
theorem headC_no {ps : List Fn} {cf rg : Int} {cl : List IrT} {ml : List (List PartT)} (h : ¬ (inB ps.length cf = true ∧ (1 ≤ rg ∧ (ps.getD cf.toNat noFn).2.1 ≤ rg ∧ rg ≤ 64 ∧ 1 ≤ cl.length ∧ cl.length ≤ 256 ∧ ml.length ≤ 64))) : headC ps (cf, rg, cl, ml) = false := by
  rw [Bool.eq_false_iff]; intro k; unfold headC at k; rw [Bool.and_eq_true, decide_eq_true_eq] at k; exact h k
theorem irs_go {ps : List Fn} {c : CdT} {q : Nat} {x : IrT} (hx : c.2.2.1[q]? = some x) (h : irsB ps c q = true) (h' : irB ps c.2.1 c.2.2.1.length c.2.2.2.length q x = true) : irsB ps c (q + 1) = true := by
  unfold irsB at h ⊢
  rw [List.range_succ, List.all_append, h]
  simp [List.getD_eq_getElem?_getD, hx, h']
theorem irs_bad {ps : List Fn} {c : CdT} {q n : Nat} {x : IrT} (hx : c.2.2.1[q]? = some x) (h : irB ps c.2.1 c.2.2.1.length c.2.2.2.length q x = false) (hq : q < n) : irsB ps c n = false := by
  unfold irsB
  refine List.all_eq_false.2 ⟨q, List.mem_range.2 hq, ?_⟩
  rw [List.getD_eq_getElem?_getD, hx]
  show ¬ irB ps c.2.1 c.2.2.1.length c.2.2.2.length q x = true
  rw [h]; simp

set_option maxRecDepth 100000 in
set_option maxHeartbeats 16000000 in
theorem refCodeMay_any (pa : Option Addr) (pn pc : Nat) (ca : Option Addr) (cn cc : Nat) (ma : Option Addr) (mn mc : Nat) (ps : List Fn) (cl : List IrT) (ml : List (List PartT)) (cf rg : Int) (w : World) (hp : Fns w pa pn pc ps) (hcl : Sl layIr 88 w ca cn cc cl) (hml : Sl layMeta 24 w ma mn mc ml) :
    Calls Tryz.prog 8 #[.agg #[.slice pa pn pc], .agg #[.int .i64 cf, .int .i64 rg, .slice ca cn cc, .slice ma mn mc]] w fun e w' => e = .returned (.bool (codeMayB ps (cf, rg, cl, ml))) ∧ Below w.heap.size w w' := by
  have HP := hid hp
  have LP := hid hp.len
  have hpr := hp.room
  have hpc := hp.cap
  have HC := hid hcl
  have LC := hid hcl.len
  have hcr := hcl.room
  have hcc := hcl.cap
  have HM := hid hml
  have LM := hid hml.len
  have hmr := hml.room
  have hmc := hml.cap
  clear hp hcl hml
  go_enter Tryz.func8, Tryz.ntmps8
  go_upto_region 1 with fail
  refine wp_name ?_
  intro U hU
  have B : Hid (Below w.heap.size w U) := hid (by rw [hU]; go_grown)
  have p0 : U.cell? ⟨w.heap.size, 0, none⟩ = some (.slice pa pn pc) := by rw [hU]; simp [go_sem]
  have c0 : U.cell? ⟨w.heap.size + 1, 0, none⟩ = some (.int .i64 cf) := by rw [hU]; simp [go_sem]
  have c1 : U.cell? ⟨w.heap.size + 1, 1, none⟩ = some (.int .i64 rg) := by rw [hU]; simp [go_sem]
  have c2 : U.cell? ⟨w.heap.size + 1, 2, none⟩ = some (.slice ca cn cc) := by rw [hU]; simp [go_sem]
  have c3 : U.cell? ⟨w.heap.size + 1, 3, none⟩ = some (.slice ma mn mc) := by rw [hU]; simp [go_sem]
  clear hU
  have gp0 := cell_regrown p0
  have gc0 := cell_regrown c0
  have gc1 := cell_regrown c1
  have gc2 := cell_regrown c2
  have gc3 := cell_regrown c3
  have SV : Hid (∀ u, Below U.heap.size U u → Calls Tryz.prog 20 #[.agg #[.slice pa pn pc]] u fun e w' => e = .returned (.int .i64 (verV ps)) ∧ Below u.heap.size u w') := hid (fun u hu => refVerify_any _ _ _ ps u (HP.out.kept (kt B.out hu)))
  have EX : Hid (∀ b, (codeMayB ps (cf, rg, cl, ml)) = b → True) := hid (fun _ _ => trivial)
  clear EX
  by_cases hv : verV ps = 0
  rotate_left
  · have F : Hid (codeMayB ps (cf, rg, cl, ml) = false) := hid (by unfold codeMayB; rw [decide_eq_false hv]; rfl)
    have hv' : (verV ps != 0) = true := by simpa using hv
    clear hv
    refine wp_region_quiet_below (by kernel_rfl) (by kernel_rfl) ?_
    repeat (go_big_quiet_step (first | (go_at_call 20; exact Calls.regrown_of (SV.out _ (below_regrown _ _ _)))))
    refine wpQuiet_nil ?_
    intro _ hw'
    obtain ⟨⟨dq, osq⟩, hw''⟩ := hw'
    subst hw''
    go_wp2_with fail
    go_ret
    exact ⟨ret_bool F.out.symm, kt B.out (below_regrown _ _ _)⟩
  have hv' : (verV ps != 0) = false := by simpa using hv
  have HV := hid hv
  clear hv
  by_cases h1 : cf < 0
  · have F : Hid (codeMayB ps (cf, rg, cl, ml) = false) := hid (codeMay_no (headC_no (by rintro ⟨hi, h⟩; simp only [inB, decide_eq_true_eq] at hi; have := LP.out; have := LC.out; have := LM.out; omega)))
    have d1 : decide (cf < 0) = true := by simp; omega
    refine wp_region_quiet_below (by kernel_rfl) (by kernel_rfl) ?_
    repeat (go_big_quiet_step (first | (go_at_call 20; exact Calls.regrown_of (SV.out _ (below_regrown _ _ _)))))
    refine wpQuiet_nil ?_
    intro _ hw'
    obtain ⟨⟨dq, osq⟩, hw''⟩ := hw'
    subst hw''
    go_wp2_with fail
    go_ret
    exact ⟨ret_bool F.out.symm, kt B.out (below_regrown _ _ _)⟩
  have d1 : decide (cf < 0) = false := by simp; omega
  by_cases h2 : (pn : Int) ≤ cf
  · have F : Hid (codeMayB ps (cf, rg, cl, ml) = false) := hid (codeMay_no (headC_no (by rintro ⟨hi, h⟩; simp only [inB, decide_eq_true_eq] at hi; have := LP.out; have := LC.out; have := LM.out; omega)))
    have d2 : decide ((pn : Int) ≤ cf) = true := by simp; omega
    refine wp_region_quiet_below (by kernel_rfl) (by kernel_rfl) ?_
    repeat (go_big_quiet_step (first | (go_at_call 20; exact Calls.regrown_of (SV.out _ (below_regrown _ _ _)))))
    refine wpQuiet_nil ?_
    intro _ hw'
    obtain ⟨⟨dq, osq⟩, hw''⟩ := hw'
    subst hw''
    go_wp2_with fail
    go_ret
    exact ⟨ret_bool F.out.symm, kt B.out (below_regrown _ _ _)⟩
  have d2 : decide ((pn : Int) ≤ cf) = false := by simp; omega
  by_cases h3 : rg < 1
  · have F : Hid (codeMayB ps (cf, rg, cl, ml) = false) := hid (codeMay_no (headC_no (by rintro ⟨hi, h⟩; simp only [inB, decide_eq_true_eq] at hi; have := LP.out; have := LC.out; have := LM.out; omega)))
    have d3 : decide (rg < 1) = true := by simp; omega
    refine wp_region_quiet_below (by kernel_rfl) (by kernel_rfl) ?_
    repeat (go_big_quiet_step (first | (go_at_call 20; exact Calls.regrown_of (SV.out _ (below_regrown _ _ _)))))
    refine wpQuiet_nil ?_
    intro _ hw'
    obtain ⟨⟨dq, osq⟩, hw''⟩ := hw'
    subst hw''
    go_wp2_with fail
    go_ret
    exact ⟨ret_bool F.out.symm, kt B.out (below_regrown _ _ _)⟩
  have d3 : decide (rg < 1) = false := by simp; omega
  obtain ⟨fN, rfl⟩ : ∃ fN : Nat, cf = fN := ⟨cf.toNat, by omega⟩
  have hfn : fN < pn := by omega
  obtain ⟨bp, op, gx, gy, ga, gn, gc, gl, rfl, e3, j0, j1, j2, -⟩ := (HP.out.kept B.out).at fN hfn
  have gj1 := cell_regrown j1
  have q0 : (0 : Int) ≤ (fN : Int) := by omega
  have q1 : (fN : Int) < (pn : Int) := by omega
  have E3 := hid e3
  clear e3 j0 j1 j2
  by_cases h4 : rg < gy
  · have F : Hid (codeMayB ps ((fN : Int), rg, cl, ml) = false) := hid (codeMay_no (headC_no (by rintro ⟨hi, h⟩; simp only [Int.toNat_natCast, E3.out] at h; have := LC.out; have := LM.out; omega)))
    have d4 : decide (rg < gy) = true := by simp; omega
    refine wp_region_quiet_below (by kernel_rfl) (by kernel_rfl) ?_
    repeat (go_big_quiet_step (first | (go_at_call 20; exact Calls.regrown_of (SV.out _ (below_regrown _ _ _)))))
    refine wpQuiet_nil ?_
    intro _ hw'
    obtain ⟨⟨dq, osq⟩, hw''⟩ := hw'
    subst hw''
    go_wp2_with fail
    go_ret
    exact ⟨ret_bool F.out.symm, kt B.out (below_regrown _ _ _)⟩
  have d4 : decide (rg < gy) = false := by simp; omega
  by_cases h5 : 64 < rg
  · have F : Hid (codeMayB ps ((fN : Int), rg, cl, ml) = false) := hid (codeMay_no (headC_no (by rintro ⟨hi, h⟩; simp only [Int.toNat_natCast, E3.out] at h; have := LC.out; have := LM.out; omega)))
    have d5 : decide (64 < rg) = true := by simp; omega
    refine wp_region_quiet_below (by kernel_rfl) (by kernel_rfl) ?_
    repeat (go_big_quiet_step (first | (go_at_call 20; exact Calls.regrown_of (SV.out _ (below_regrown _ _ _)))))
    refine wpQuiet_nil ?_
    intro _ hw'
    obtain ⟨⟨dq, osq⟩, hw''⟩ := hw'
    subst hw''
    go_wp2_with fail
    go_ret
    exact ⟨ret_bool F.out.symm, kt B.out (below_regrown _ _ _)⟩
  have d5 : decide (64 < rg) = false := by simp; omega
  by_cases h6 : cn < 1
  · have F : Hid (codeMayB ps ((fN : Int), rg, cl, ml) = false) := hid (codeMay_no (headC_no (by rintro ⟨hi, h⟩; simp only [Int.toNat_natCast, E3.out] at h; have := LC.out; have := LM.out; omega)))
    have d6 : decide ((cn : Int) < 1) = true := by simp; omega
    refine wp_region_quiet_below (by kernel_rfl) (by kernel_rfl) ?_
    repeat (go_big_quiet_step (first | (go_at_call 20; exact Calls.regrown_of (SV.out _ (below_regrown _ _ _)))))
    refine wpQuiet_nil ?_
    intro _ hw'
    obtain ⟨⟨dq, osq⟩, hw''⟩ := hw'
    subst hw''
    go_wp2_with fail
    go_ret
    exact ⟨ret_bool F.out.symm, kt B.out (below_regrown _ _ _)⟩
  have d6 : decide ((cn : Int) < 1) = false := by simp; omega
  by_cases h7 : 256 < cn
  · have F : Hid (codeMayB ps ((fN : Int), rg, cl, ml) = false) := hid (codeMay_no (headC_no (by rintro ⟨hi, h⟩; simp only [Int.toNat_natCast, E3.out] at h; have := LC.out; have := LM.out; omega)))
    have d7 : decide ((256 : Int) < (cn : Int)) = true := by simp; omega
    refine wp_region_quiet_below (by kernel_rfl) (by kernel_rfl) ?_
    repeat (go_big_quiet_step (first | (go_at_call 20; exact Calls.regrown_of (SV.out _ (below_regrown _ _ _)))))
    refine wpQuiet_nil ?_
    intro _ hw'
    obtain ⟨⟨dq, osq⟩, hw''⟩ := hw'
    subst hw''
    go_wp2_with fail
    go_ret
    exact ⟨ret_bool F.out.symm, kt B.out (below_regrown _ _ _)⟩
  have d7 : decide ((256 : Int) < (cn : Int)) = false := by simp; omega
  by_cases h8 : 64 < mn
  · have F : Hid (codeMayB ps ((fN : Int), rg, cl, ml) = false) := hid (codeMay_no (headC_no (by rintro ⟨hi, h⟩; simp only [Int.toNat_natCast, E3.out] at h; have := LC.out; have := LM.out; omega)))
    have d8 : decide ((64 : Int) < (mn : Int)) = true := by simp; omega
    refine wp_region_quiet_below (by kernel_rfl) (by kernel_rfl) ?_
    repeat (go_big_quiet_step (first | (go_at_call 20; exact Calls.regrown_of (SV.out _ (below_regrown _ _ _)))))
    refine wpQuiet_nil ?_
    intro _ hw'
    obtain ⟨⟨dq, osq⟩, hw''⟩ := hw'
    subst hw''
    go_wp2_with fail
    go_ret
    exact ⟨ret_bool F.out.symm, kt B.out (below_regrown _ _ _)⟩
  have d8 : decide ((64 : Int) < (mn : Int)) = false := by simp; omega
  have EG : Hid (codeMayB ps ((fN : Int), rg, cl, ml) = (irsB ps ((fN : Int), rg, cl, ml) cl.length && (ml.all (metaB ps (fN : Int) rg) && lastB ((fN : Int), rg, cl, ml)))) := hid (by
    unfold codeMayB
    rw [HV.out, show headC ps ((fN : Int), rg, cl, ml) = true by
      unfold headC
      simp only [Int.toNat_natCast, E3.out, Bool.and_eq_true, decide_eq_true_eq]
      refine ⟨by unfold inB; have := LP.out; exact decide_eq_true (by omega), ?_⟩
      have := LC.out; have := LM.out; omega]
    rfl)
  refine wp_region_quiet_below (by kernel_rfl) (by kernel_rfl) ?_
  repeat (go_big_quiet_step (first | (go_at_call 20; exact Calls.regrown_of (SV.out _ (below_regrown _ _ _)))))
  refine wpQuiet_nil ?_
  intro _ hw'
  obtain ⟨⟨dq, osq⟩, hw''⟩ := hw'
  subst hw''
  have B2 := hid (kt B.out (below_regrown U dq osq))
  replace p0 := kept_cell (below_regrown U dq osq) p0
  replace c0 := kept_cell (below_regrown U dq osq) c0
  replace c1 := kept_cell (below_regrown U dq osq) c1
  replace c2 := kept_cell (below_regrown U dq osq) c2
  replace c3 := kept_cell (below_regrown U dq osq) c3
  clear gp0 gc0 gc1 gc2 gc3 gj1 SV
  go_wp2_with fail
  go_loopw [5] (fun i wr => ∃ q : Nat, q ≤ cn ∧ i = .int .i64 q ∧ irsB ps ((fN : Int), rg, cl, ml) q = true ∧ wr.cell? ⟨w.heap.size, 0, none⟩ = some (.slice (some ⟨bp, op, none⟩) pn pc) ∧ wr.cell? ⟨w.heap.size + 1, 0, none⟩ = some (.int .i64 (fN : Int)) ∧ wr.cell? ⟨w.heap.size + 1, 1, none⟩ = some (.int .i64 rg) ∧ wr.cell? ⟨w.heap.size + 1, 2, none⟩ = some (.slice ca cn cc) ∧ wr.cell? ⟨w.heap.size + 1, 3, none⟩ = some (.slice ma mn mc) ∧ Below w.heap.size w wr) (fun i _ => cn - (intOf i).toNat)
  case atStart => exact ⟨0, Nat.zero_le _, rfl, rfl, p0, c0, c1, c2, c3, B2.out⟩
  case round =>
    clear p0 c0 c1 c2 c3 B B2
    obtain ⟨q, hq, rfl, hall, p0, c0, c1, c2, c3, hb⟩ := hrel
    have HA := hid hall
    have HB := hid hb
    clear hall
    by_cases hlt : q < cn
    · clear hb
      go_wp2_with fail
      refine (refIrMay_any _ _ _ _ _ _ _ _ _ ps (fN : Int) rg q cl _ (HP.out.kept HB.out) (HC.out.kept HB.out) hmr hlt).mono ?_
      rintro e V ⟨x, hx, rfl, bV⟩
      have BV := hid (kt HB.out bV)
      have HX := hid hx
      replace p0 := kept_cell bV p0
      replace c0 := kept_cell bV c0
      replace c1 := kept_cell bV c1
      replace c2 := kept_cell bV c2
      replace c3 := kept_cell bV c3
      clear bV hx
      cases hi : irB ps rg cn mn q x
      · have F : Hid (codeMayB ps ((fN : Int), rg, cl, ml) = false) := hid (by rw [EG.out, irs_bad (n := cl.length) HX.out (by show irB ps rg cl.length ml.length q x = false; rw [← LC.out, ← LM.out]; exact hi) (by rw [← LC.out]; exact hlt)]; rfl)
        clear hi
        go_wp2_with fail
        go_ret
        exact ⟨ret_bool F.out.symm, BV.out⟩
      · have F : Hid (irsB ps ((fN : Int), rg, cl, ml) (q + 1) = true) := hid (irs_go HX.out HA.out (by show irB ps rg cl.length ml.length q x = true; rw [← LC.out, ← LM.out]; exact hi))
        clear hi
        go_wp2_with fail
        go_roundw
        case rel => exact ⟨q + 1, by omega, by go_num, F.out, p0, c0, c1, c2, c3, BV.out⟩
        case measure => simp [intOf]; omega
    · have hqn : q = cn := by omega
      subst hqn
      have EG2 : Hid (codeMayB ps ((fN : Int), rg, cl, ml) = (ml.all (metaB ps (fN : Int) rg) && lastB ((fN : Int), rg, cl, ml))) := hid (by rw [EG.out, ← LC.out, HA.out]; rfl)
      clear hb hq hlt
      go_wp2_with fail
      go_loopw [6] (fun i wr => ∃ j : Nat, j ≤ mn ∧ i = .int .i64 j ∧ (ml.take j).all (metaB ps (fN : Int) rg) = true ∧ wr.cell? ⟨w.heap.size, 0, none⟩ = some (.slice (some ⟨bp, op, none⟩) pn pc) ∧ wr.cell? ⟨w.heap.size + 1, 0, none⟩ = some (.int .i64 (fN : Int)) ∧ wr.cell? ⟨w.heap.size + 1, 1, none⟩ = some (.int .i64 rg) ∧ wr.cell? ⟨w.heap.size + 1, 2, none⟩ = some (.slice ca q cc) ∧ wr.cell? ⟨w.heap.size + 1, 3, none⟩ = some (.slice ma mn mc) ∧ Below w.heap.size w wr) (fun i _ => mn - (intOf i).toNat)
      case atStart => exact ⟨0, Nat.zero_le _, rfl, by simp, p0, c0, c1, c2, c3, HB.out⟩
      case round =>
        clear p0 c0 c1 c2 c3 HB
        obtain ⟨j, hj, rfl, hall, p0, c0, c1, c2, c3, hb⟩ := hrel
        have HT := hid hall
        have HB := hid hb
        clear hall
        by_cases hlt : j < mn
        · obtain ⟨bm, om, xa, xn, xc, parts, rfl, hx, m0, hpar⟩ := meta_at (HM.out.kept hb) j hlt
          rw [Nat.mul_one] at m0
          have HX := hid hx
          have HPAR := hid hpar
          have gm0 := cell_regrown m0
          have t0 : (0 : Int) ≤ (j : Int) := by omega
          have t1 : (j : Int) < (mn : Int) := by omega
          clear hx hpar hb
          go_upto_region 11 with fail
          have gp0 := cell_regrown p0
          have gc0 := cell_regrown c0
          have gc1 := cell_regrown c1
          have gc2 := cell_regrown c2
          have gc3 := cell_regrown c3
          have SM : Hid (∀ u, Below wr.heap.size wr u → Calls Tryz.prog 22 #[.agg #[.slice (some ⟨bp, op, none⟩) pn pc], .agg #[.int .i64 (fN : Int), .int .i64 rg, .slice ca q cc, .slice (some ⟨bm, om, none⟩) mn mc], .agg #[.slice xa xn xc]] u fun e w' => e = .returned (.bool (metaB ps (fN : Int) rg parts)) ∧ Below u.heap.size u w') := hid (fun u hu => refMeta_any _ _ _ ps (fN : Int) rg _ _ _ _ _ _ _ _ _ parts u (HP.out.kept (kt HB.out hu)) (HPAR.out.kept hu))
          cases hm : metaB ps (fN : Int) rg parts
          · have F : Hid (codeMayB ps ((fN : Int), rg, cl, ml) = false) := hid (by rw [EG2.out, List.all_eq_false.2 ⟨_, List.mem_of_getElem? HX.out, by rw [hm]; simp⟩]; rfl)
            rw [hm] at SM
            clear hm
            refine wp_region_quiet_below (by kernel_rfl) (by kernel_rfl) ?_
            repeat (go_big_quiet_step (first | (go_at_call 22; exact Calls.regrown_of (SM.out _ (below_regrown _ _ _)))))
            refine wpQuiet_nil ?_
            intro _ hw'
            obtain ⟨⟨dq, osq⟩, hw''⟩ := hw'
            subst hw''
            go_wp2_with fail
            go_ret
            exact ⟨ret_bool F.out.symm, kt HB.out (below_regrown _ _ _)⟩
          · have F : Hid ((ml.take (j + 1)).all (metaB ps (fN : Int) rg) = true) := hid (by rw [List.take_add_one, List.all_append, HT.out, HX.out]; simp [hm])
            rw [hm] at SM
            clear hm
            refine wp_region_quiet_below (by kernel_rfl) (by kernel_rfl) ?_
            repeat (go_big_quiet_step (first | (go_at_call 22; exact Calls.regrown_of (SM.out _ (below_regrown _ _ _)))))
            refine wpQuiet_nil ?_
            intro _ hw'
            obtain ⟨⟨dq, osq⟩, hw''⟩ := hw'
            subst hw''
            go_wp2_with fail
            go_roundw
            case rel => exact ⟨j + 1, by omega, by go_num, F.out, kept_cell (below_regrown _ _ _) p0, kept_cell (below_regrown _ _ _) c0, kept_cell (below_regrown _ _ _) c1, kept_cell (below_regrown _ _ _) c2, kept_cell (below_regrown _ _ _) c3, kt HB.out (below_regrown _ _ _)⟩
            case measure => simp [intOf]; omega
        · have hjn : j = mn := by omega
          subst hjn
          have EG3 : Hid (codeMayB ps ((fN : Int), rg, cl, ml) = lastB ((fN : Int), rg, cl, ml)) := hid (by
            have h := HT.out
            rw [List.take_of_length_le (by have := LM.out; omega)] at h
            rw [EG2.out, h]; rfl)
          obtain ⟨n, rfl⟩ : ∃ n, q = n + 1 := ⟨q - 1, by omega⟩
          obtain ⟨bi, oi, kd, r, ra, rb, k, xa, xn, xc, args, cost, mt, ip, rfl, hx, i0, -, -, -, -, -, -, -, -, -⟩ := ir_at (HC.out.kept hb) n (by omega)
          have E : Hid (codeMayB ps ((fN : Int), rg, cl, ml) = decide (kd = 4 ∨ kd = 8)) := hid (by
            rw [EG3.out]
            unfold lastB
            have : cl.length - 1 = n := by have := LC.out; omega
            simp only [this, List.getD_eq_getElem?_getD, hx]
            rfl)
          clear hx
          by_cases h4 : kd = 4
          · subst h4
            go_wp2_with fail
            go_ret
            exact ⟨ret_bool (by rw [E.out]; simp), HB.out⟩
          · have h4' : (kd == 4) = false := by simpa using h4
            go_wp2_with fail
            go_ret
            exact ⟨ret_bool (by rw [E.out, Bool.eq_iff_iff]; simp [h4]), HB.out⟩

end Go.Proofs.YtfnfbebkeoilfaaGreatDoor

namespace Go.Proofs.YtfnfbebkeoilfaaGreatDoor
open Go.RowKit
set_option linter.unusedVariables false

theorem setB_put {bs : List Bool} {i : Nat} (h : i < bs.length) : setB bs (i : Int) = bs.set i true := by
  unfold setB; rw [if_pos (by simp [inB, h])]; simp
theorem setB_stay {bs : List Bool} {a : Int} (h : a < 0 ∨ (bs.length : Int) ≤ a) : setB bs a = bs := by
  unfold setB; rw [if_neg (by simp [inB]; omega)]
/-- The marks ahead of round q: none ahead of the first one. -/
def leadR (code : List IrT) (q : Nat) : List Bool := if q = 0 then List.replicate code.length false else irLeadN code q
theorem leadR_succ {code : List IrT} {q : Nat} : leadR code (q + 1) = irLeadN code (q + 1) := rfl
theorem leadR_pos {code : List IrT} {q : Nat} (h : ¬ q = 0) : leadR code q = irLeadN code q := if_neg h

set_option maxRecDepth 100000 in
set_option maxHeartbeats 8000000 in
theorem refIrLeaders_any (ca : Option Addr) (cn cc : Nat) (ma : Option Addr) (mn mc : Nat) (cl : List IrT) (cf rg : Int) (w : World) (h : Sl layIr 88 w ca cn cc cl) :
    Calls Tryz.prog 11 #[.agg #[.int .i64 cf, .int .i64 rg, .slice ca cn cc, .slice ma mn mc]] w fun e w' => ∃ v, e = .returned v ∧ w'.ownsRow w.heap.size 4 1 v (irLeads cl).length (bools (irLeads cl)) ∧ Below w.heap.size w w' := by
  have L := hid h.len
  have hcp := h.cap
  have hr := h.room
  have hmk := run_make_row' (P := Tryz.prog) 32 4 (.bool false) 1 Tryz.underlying32 Tryz.infoBool rfl .i64 .i64 cn (by omega) (by omega)
  have HI := hid h
  clear h
  have st0 := MarkSt.make (w.alloc (.cells #[.int .i64 cf, .int .i64 rg, .slice ca cn cc, .slice ma mn mc] 28)) cn w.heap.size (by simp) (by unfold maxLen; omega)
  rw [World.size_alloc] at st0
  have ST0 := hid st0
  clear st0
  go_enter Tryz.func11, Tryz.ntmps11
  go_wp2_with fail
  go_loopw [4] (fun i wr => ∃ q : Nat, q ≤ cn ∧ i = .int .i64 q ∧ wr.cell? ⟨w.heap.size, 2, none⟩ = some (.slice ca cn cc) ∧ MarkSt wr (w.heap.size + 1) cn w.heap.size (leadR cl q) ∧ Below w.heap.size w wr) (fun i _ => cn - (intOf i).toNat)
  case atStart => exact ⟨0, Nat.zero_le _, rfl, by simp [go_sem], by rw [show leadR cl 0 = List.replicate cn false by rw [L.out]; rfl]; exact ST0.out, by go_grown⟩
  case round =>
    clear hmk ST0
    obtain ⟨q, hq, rfl, c2, st, hb⟩ := hrel
    by_cases hlt : q < cn
    · obtain ⟨b, o, kd, r, ra, rb, k, xa, xn, xc, args, cost, mt, ip, rfl, hx, e0, e1, e2, e3, e4, e5, e6, e7, e8, hi⟩ := ir_at (HI.out.kept hb) q hlt
      have hbold : b < w.heap.size := by
        obtain ⟨b', o', eq', hr'⟩ := HI.out.row (by omega)
        cases eq'
        exact lt_of_cell (hr' q _ hx).1
      have EX := hid (irLeadN_next hx)
      have hzs := st.lt
      have hwb := hb.size
      have z0 : (0 : Int) < (cn : Int) := by omega
      clear hx hi e1 e2 e3 e5 e6 e7 e8
      by_cases hq0 : q = 0
      · have hq0' : ((q : Int) == 0) = true := by simp; omega
        have s1 := st.at 0 (by omega)
        have s2 := st.free 0
        have ST : Hid (MarkSt (wr.setCell ⟨w.heap.size + 1, 0, none⟩ (.bool true)) (w.heap.size + 1) cn w.heap.size (irLeadN cl q)) := hid (by
          have := st.put 0
          rw [hq0] at this ⊢
          rw [show irLeadN cl 0 = (leadR cl 0).set 0 true by
            show setB (List.replicate cl.length false) ((0 : Nat) : Int) = _
            rw [setB_put (by rw [List.length_replicate, ← L.out]; omega)]; rfl]
          exact this)
        have C2 : Hid ((wr.setCell ⟨w.heap.size + 1, 0, none⟩ (.bool true)).cell? ⟨w.heap.size, 2, none⟩ = some (.slice (some ⟨b, o, none⟩) cn cc)) := hid (cell_set_far c2 (by simp))
        have BU : Hid (Below w.heap.size w (wr.setCell ⟨w.heap.size + 1, 0, none⟩ (.bool true))) := hid (Below.setCell hb (by simp) _)
        have E0 := hid e0
        have E4 := hid e4
        clear st hq0
        go_upto_region 8 with fail
        refine wp_world (U := wr.setCell ⟨w.heap.size + 1, 0, none⟩ (.bool true)) rfl ?_
        generalize hU : wr.setCell ⟨w.heap.size + 1, 0, none⟩ (.bool true) = U at ST C2 BU
        have e0' : U.cell? ⟨b, o + q * 9, none⟩ = some (.int .i64 kd) := by rw [← hU]; exact cell_set_far e0 (by simp; omega)
        have e4' : U.cell? ⟨b, o + q * 9 + 4, none⟩ = some (.int .i64 k) := by rw [← hU]; exact cell_set_far e4 (by simp; omega)
        have c2' := C2.out
        have hzu := ST.out.lt
        clear hU s1 s2 e0 e4 c2 hb E0 E4
        by_cases h4 : kd = 4
        · have hkd := hid h4
          have h4' : (kd == 4) = true := by simpa using h4
          clear h4
          by_cases g1 : 0 ≤ k
          rotate_left
          · have g1' : decide (0 ≤ k) = false := by simpa using g1
            have EQ : Hid (irLead (irLeadN cl q) (kd, r, ra, rb, k, args, cost, mt, ip) q = setB (irLeadN cl q) ((q : Int) + 1)) := hid (by rw [irLead_jump (by simp [hkd.out])]; show setB (setB (irLeadN cl q) k) _ = _; rw [setB_stay (a := k) (.inl (by omega))])
            by_cases hf : q + 1 < cn
            · have t1 := (ST.out).at (q + 1) hf
              have t2 := (ST.out).free (q + 1)
              have RW : Hid (irLead (irLeadN cl q) (kd, r, ra, rb, k, args, cost, mt, ip) q = (irLeadN cl q).set (q + 1) true) := hid (by rw [EQ.out, show ((q : Int) + 1) = ((q + 1 : Nat) : Int) by omega]; exact setB_put (by rw [(ST.out).len]; exact hf))
              have hf' : decide ((q : Int) + 1 < (cn : Int)) = true := by simp; omega
              go_wp2_with fail
              go_roundw
              case rel => exact ⟨q + 1, by omega, by go_num, cell_set_far (C2.out) (by simp), by rw [leadR_succ, EX.out]; exact (by rw [RW.out]; exact (ST.out).put (q + 1)), Below.setCell (BU.out) (by simp) _⟩
              case measure => simp [intOf]; omega
            · have RW : Hid (irLead (irLeadN cl q) (kd, r, ra, rb, k, args, cost, mt, ip) q = irLeadN cl q) := hid (by rw [EQ.out]; exact setB_stay (.inr (by rw [(ST.out).len]; omega)))
              have hf' : decide ((q : Int) + 1 < (cn : Int)) = false := by simp; omega
              go_wp2_with fail
              go_roundw
              case rel => exact ⟨q + 1, by omega, by go_num, C2.out, by rw [leadR_succ, EX.out]; exact (by rw [RW.out]; exact ST.out), BU.out⟩
              case measure => simp [intOf]; omega
          by_cases g2 : k < (cn : Int)
          rotate_left
          · have g2' : decide (k < (cn : Int)) = false := by simpa using g2
            have EQ : Hid (irLead (irLeadN cl q) (kd, r, ra, rb, k, args, cost, mt, ip) q = setB (irLeadN cl q) ((q : Int) + 1)) := hid (by rw [irLead_jump (by simp [hkd.out])]; show setB (setB (irLeadN cl q) k) _ = _; rw [setB_stay (bs := irLeadN cl q) (a := k) (.inr (by rw [ST.out.len]; omega))])
            by_cases hf : q + 1 < cn
            · have t1 := (ST.out).at (q + 1) hf
              have t2 := (ST.out).free (q + 1)
              have RW : Hid (irLead (irLeadN cl q) (kd, r, ra, rb, k, args, cost, mt, ip) q = (irLeadN cl q).set (q + 1) true) := hid (by rw [EQ.out, show ((q : Int) + 1) = ((q + 1 : Nat) : Int) by omega]; exact setB_put (by rw [(ST.out).len]; exact hf))
              have hf' : decide ((q : Int) + 1 < (cn : Int)) = true := by simp; omega
              go_wp2_with fail
              go_roundw
              case rel => exact ⟨q + 1, by omega, by go_num, cell_set_far (C2.out) (by simp), by rw [leadR_succ, EX.out]; exact (by rw [RW.out]; exact (ST.out).put (q + 1)), Below.setCell (BU.out) (by simp) _⟩
              case measure => simp [intOf]; omega
            · have RW : Hid (irLead (irLeadN cl q) (kd, r, ra, rb, k, args, cost, mt, ip) q = irLeadN cl q) := hid (by rw [EQ.out]; exact setB_stay (.inr (by rw [(ST.out).len]; omega)))
              have hf' : decide ((q : Int) + 1 < (cn : Int)) = false := by simp; omega
              go_wp2_with fail
              go_roundw
              case rel => exact ⟨q + 1, by omega, by go_num, C2.out, by rw [leadR_succ, EX.out]; exact (by rw [RW.out]; exact ST.out), BU.out⟩
              case measure => simp [intOf]; omega
          obtain ⟨kN, rfl⟩ : ∃ kN : Nat, k = kN := ⟨k.toNat, by omega⟩
          have hkN : kN < cn := by omega
          have s1 := ST.out.at kN hkN
          have s2 := ST.out.free kN
          have S1 := hid (ST.out.put kN)
          have EQ : Hid (irLead (irLeadN cl q) (kd, r, ra, rb, (kN : Int), args, cost, mt, ip) q = setB ((irLeadN cl q).set kN true) ((q : Int) + 1)) := hid (by rw [irLead_jump (by simp [hkd.out])]; show setB (setB (irLeadN cl q) (kN : Int)) _ = _; rw [setB_put (bs := irLeadN cl q) (i := kN) (by rw [ST.out.len]; exact hkN)])
          by_cases hf : q + 1 < cn
          · have t1 := (S1.out).at (q + 1) hf
            have t2 := (S1.out).free (q + 1)
            have RW : Hid (irLead (irLeadN cl q) (kd, r, ra, rb, (kN : Int), args, cost, mt, ip) q = ((irLeadN cl q).set kN true).set (q + 1) true) := hid (by rw [EQ.out, show ((q : Int) + 1) = ((q + 1 : Nat) : Int) by omega]; exact setB_put (by rw [(S1.out).len]; exact hf))
            have hf' : decide ((q : Int) + 1 < (cn : Int)) = true := by simp; omega
            go_wp2_with fail
            go_roundw
            case rel => exact ⟨q + 1, by omega, by go_num, cell_set_far (cell_set_far (C2.out) (by simp)) (by simp), by rw [leadR_succ, EX.out]; exact (by rw [RW.out]; exact (S1.out).put (q + 1)), Below.setCell (Below.setCell (BU.out) (by simp) _) (by simp) _⟩
            case measure => simp [intOf]; omega
          · have RW : Hid (irLead (irLeadN cl q) (kd, r, ra, rb, (kN : Int), args, cost, mt, ip) q = (irLeadN cl q).set kN true) := hid (by rw [EQ.out]; exact setB_stay (.inr (by rw [(S1.out).len]; omega)))
            have hf' : decide ((q : Int) + 1 < (cn : Int)) = false := by simp; omega
            go_wp2_with fail
            go_roundw
            case rel => exact ⟨q + 1, by omega, by go_num, cell_set_far (C2.out) (by simp), by rw [leadR_succ, EX.out]; exact (by rw [RW.out]; exact S1.out), Below.setCell (BU.out) (by simp) _⟩
            case measure => simp [intOf]; omega
        have h4' : (kd == 4) = false := by simpa using h4
        by_cases h5 : kd = 5
        · have hkd := hid h5
          have h5' : (kd == 5) = true := by simpa using h5
          clear h5
          by_cases g1 : 0 ≤ k
          rotate_left
          · have g1' : decide (0 ≤ k) = false := by simpa using g1
            have EQ : Hid (irLead (irLeadN cl q) (kd, r, ra, rb, k, args, cost, mt, ip) q = setB (irLeadN cl q) ((q : Int) + 1)) := hid (by rw [irLead_jump (by simp [hkd.out])]; show setB (setB (irLeadN cl q) k) _ = _; rw [setB_stay (a := k) (.inl (by omega))])
            by_cases hf : q + 1 < cn
            · have t1 := (ST.out).at (q + 1) hf
              have t2 := (ST.out).free (q + 1)
              have RW : Hid (irLead (irLeadN cl q) (kd, r, ra, rb, k, args, cost, mt, ip) q = (irLeadN cl q).set (q + 1) true) := hid (by rw [EQ.out, show ((q : Int) + 1) = ((q + 1 : Nat) : Int) by omega]; exact setB_put (by rw [(ST.out).len]; exact hf))
              have hf' : decide ((q : Int) + 1 < (cn : Int)) = true := by simp; omega
              go_wp2_with fail
              go_roundw
              case rel => exact ⟨q + 1, by omega, by go_num, cell_set_far (C2.out) (by simp), by rw [leadR_succ, EX.out]; exact (by rw [RW.out]; exact (ST.out).put (q + 1)), Below.setCell (BU.out) (by simp) _⟩
              case measure => simp [intOf]; omega
            · have RW : Hid (irLead (irLeadN cl q) (kd, r, ra, rb, k, args, cost, mt, ip) q = irLeadN cl q) := hid (by rw [EQ.out]; exact setB_stay (.inr (by rw [(ST.out).len]; omega)))
              have hf' : decide ((q : Int) + 1 < (cn : Int)) = false := by simp; omega
              go_wp2_with fail
              go_roundw
              case rel => exact ⟨q + 1, by omega, by go_num, C2.out, by rw [leadR_succ, EX.out]; exact (by rw [RW.out]; exact ST.out), BU.out⟩
              case measure => simp [intOf]; omega
          by_cases g2 : k < (cn : Int)
          rotate_left
          · have g2' : decide (k < (cn : Int)) = false := by simpa using g2
            have EQ : Hid (irLead (irLeadN cl q) (kd, r, ra, rb, k, args, cost, mt, ip) q = setB (irLeadN cl q) ((q : Int) + 1)) := hid (by rw [irLead_jump (by simp [hkd.out])]; show setB (setB (irLeadN cl q) k) _ = _; rw [setB_stay (bs := irLeadN cl q) (a := k) (.inr (by rw [ST.out.len]; omega))])
            by_cases hf : q + 1 < cn
            · have t1 := (ST.out).at (q + 1) hf
              have t2 := (ST.out).free (q + 1)
              have RW : Hid (irLead (irLeadN cl q) (kd, r, ra, rb, k, args, cost, mt, ip) q = (irLeadN cl q).set (q + 1) true) := hid (by rw [EQ.out, show ((q : Int) + 1) = ((q + 1 : Nat) : Int) by omega]; exact setB_put (by rw [(ST.out).len]; exact hf))
              have hf' : decide ((q : Int) + 1 < (cn : Int)) = true := by simp; omega
              go_wp2_with fail
              go_roundw
              case rel => exact ⟨q + 1, by omega, by go_num, cell_set_far (C2.out) (by simp), by rw [leadR_succ, EX.out]; exact (by rw [RW.out]; exact (ST.out).put (q + 1)), Below.setCell (BU.out) (by simp) _⟩
              case measure => simp [intOf]; omega
            · have RW : Hid (irLead (irLeadN cl q) (kd, r, ra, rb, k, args, cost, mt, ip) q = irLeadN cl q) := hid (by rw [EQ.out]; exact setB_stay (.inr (by rw [(ST.out).len]; omega)))
              have hf' : decide ((q : Int) + 1 < (cn : Int)) = false := by simp; omega
              go_wp2_with fail
              go_roundw
              case rel => exact ⟨q + 1, by omega, by go_num, C2.out, by rw [leadR_succ, EX.out]; exact (by rw [RW.out]; exact ST.out), BU.out⟩
              case measure => simp [intOf]; omega
          obtain ⟨kN, rfl⟩ : ∃ kN : Nat, k = kN := ⟨k.toNat, by omega⟩
          have hkN : kN < cn := by omega
          have s1 := ST.out.at kN hkN
          have s2 := ST.out.free kN
          have S1 := hid (ST.out.put kN)
          have EQ : Hid (irLead (irLeadN cl q) (kd, r, ra, rb, (kN : Int), args, cost, mt, ip) q = setB ((irLeadN cl q).set kN true) ((q : Int) + 1)) := hid (by rw [irLead_jump (by simp [hkd.out])]; show setB (setB (irLeadN cl q) (kN : Int)) _ = _; rw [setB_put (bs := irLeadN cl q) (i := kN) (by rw [ST.out.len]; exact hkN)])
          by_cases hf : q + 1 < cn
          · have t1 := (S1.out).at (q + 1) hf
            have t2 := (S1.out).free (q + 1)
            have RW : Hid (irLead (irLeadN cl q) (kd, r, ra, rb, (kN : Int), args, cost, mt, ip) q = ((irLeadN cl q).set kN true).set (q + 1) true) := hid (by rw [EQ.out, show ((q : Int) + 1) = ((q + 1 : Nat) : Int) by omega]; exact setB_put (by rw [(S1.out).len]; exact hf))
            have hf' : decide ((q : Int) + 1 < (cn : Int)) = true := by simp; omega
            go_wp2_with fail
            go_roundw
            case rel => exact ⟨q + 1, by omega, by go_num, cell_set_far (cell_set_far (C2.out) (by simp)) (by simp), by rw [leadR_succ, EX.out]; exact (by rw [RW.out]; exact (S1.out).put (q + 1)), Below.setCell (Below.setCell (BU.out) (by simp) _) (by simp) _⟩
            case measure => simp [intOf]; omega
          · have RW : Hid (irLead (irLeadN cl q) (kd, r, ra, rb, (kN : Int), args, cost, mt, ip) q = (irLeadN cl q).set kN true) := hid (by rw [EQ.out]; exact setB_stay (.inr (by rw [(S1.out).len]; omega)))
            have hf' : decide ((q : Int) + 1 < (cn : Int)) = false := by simp; omega
            go_wp2_with fail
            go_roundw
            case rel => exact ⟨q + 1, by omega, by go_num, cell_set_far (C2.out) (by simp), by rw [leadR_succ, EX.out]; exact (by rw [RW.out]; exact S1.out), Below.setCell (BU.out) (by simp) _⟩
            case measure => simp [intOf]; omega
        have h5' : (kd == 5) = false := by simpa using h5
        by_cases h8 : kd = 8
        · have hkd := hid h8
          have h8' : (kd == 8) = true := by simpa using h8
          have EQ : Hid (irLead (irLeadN cl q) (kd, r, ra, rb, k, args, cost, mt, ip) q = setB (irLeadN cl q) ((q : Int) + 1)) := hid (by rw [irLead_ret (by simp [hkd.out])])
          clear h8
          by_cases hf : q + 1 < cn
          · have t1 := (ST.out).at (q + 1) hf
            have t2 := (ST.out).free (q + 1)
            have RW : Hid (irLead (irLeadN cl q) (kd, r, ra, rb, k, args, cost, mt, ip) q = (irLeadN cl q).set (q + 1) true) := hid (by rw [EQ.out, show ((q : Int) + 1) = ((q + 1 : Nat) : Int) by omega]; exact setB_put (by rw [(ST.out).len]; exact hf))
            have hf' : decide ((q : Int) + 1 < (cn : Int)) = true := by simp; omega
            go_wp2_with fail
            go_roundw
            case rel => exact ⟨q + 1, by omega, by go_num, cell_set_far (C2.out) (by simp), by rw [leadR_succ, EX.out]; exact (by rw [RW.out]; exact (ST.out).put (q + 1)), Below.setCell (BU.out) (by simp) _⟩
            case measure => simp [intOf]; omega
          · have RW : Hid (irLead (irLeadN cl q) (kd, r, ra, rb, k, args, cost, mt, ip) q = irLeadN cl q) := hid (by rw [EQ.out]; exact setB_stay (.inr (by rw [(ST.out).len]; omega)))
            have hf' : decide ((q : Int) + 1 < (cn : Int)) = false := by simp; omega
            go_wp2_with fail
            go_roundw
            case rel => exact ⟨q + 1, by omega, by go_num, C2.out, by rw [leadR_succ, EX.out]; exact (by rw [RW.out]; exact ST.out), BU.out⟩
            case measure => simp [intOf]; omega
        have h8' : (kd == 8) = false := by simpa using h8
        have RW : Hid (irLead (irLeadN cl q) (kd, r, ra, rb, k, args, cost, mt, ip) q = irLeadN cl q) := hid (irLead_no h4 h5 h8)
        clear h4 h5 h8
        go_wp2_with fail
        go_roundw
        case rel => exact ⟨q + 1, by omega, by go_num, C2.out, by rw [leadR_succ, EX.out]; exact (by rw [RW.out]; exact ST.out), BU.out⟩
        case measure => simp [intOf]; omega
      · have hq0' : ((q : Int) == 0) = false := by simp; omega
        have ST : Hid (MarkSt wr (w.heap.size + 1) cn w.heap.size (irLeadN cl q)) := hid (by rw [← leadR_pos hq0]; exact st)
        have C2 := hid c2
        have BU := hid hb
        clear st hq0
        by_cases h4 : kd = 4
        · have hkd := hid h4
          have h4' : (kd == 4) = true := by simpa using h4
          clear h4
          by_cases g1 : 0 ≤ k
          rotate_left
          · have g1' : decide (0 ≤ k) = false := by simpa using g1
            have EQ : Hid (irLead (irLeadN cl q) (kd, r, ra, rb, k, args, cost, mt, ip) q = setB (irLeadN cl q) ((q : Int) + 1)) := hid (by rw [irLead_jump (by simp [hkd.out])]; show setB (setB (irLeadN cl q) k) _ = _; rw [setB_stay (a := k) (.inl (by omega))])
            by_cases hf : q + 1 < cn
            · have t1 := (ST.out).at (q + 1) hf
              have t2 := (ST.out).free (q + 1)
              have RW : Hid (irLead (irLeadN cl q) (kd, r, ra, rb, k, args, cost, mt, ip) q = (irLeadN cl q).set (q + 1) true) := hid (by rw [EQ.out, show ((q : Int) + 1) = ((q + 1 : Nat) : Int) by omega]; exact setB_put (by rw [(ST.out).len]; exact hf))
              have hf' : decide ((q : Int) + 1 < (cn : Int)) = true := by simp; omega
              go_wp2_with fail
              go_roundw
              case rel => exact ⟨q + 1, by omega, by go_num, cell_set_far (C2.out) (by simp), by rw [leadR_succ, EX.out]; exact (by rw [RW.out]; exact (ST.out).put (q + 1)), Below.setCell (BU.out) (by simp) _⟩
              case measure => simp [intOf]; omega
            · have RW : Hid (irLead (irLeadN cl q) (kd, r, ra, rb, k, args, cost, mt, ip) q = irLeadN cl q) := hid (by rw [EQ.out]; exact setB_stay (.inr (by rw [(ST.out).len]; omega)))
              have hf' : decide ((q : Int) + 1 < (cn : Int)) = false := by simp; omega
              go_wp2_with fail
              go_roundw
              case rel => exact ⟨q + 1, by omega, by go_num, C2.out, by rw [leadR_succ, EX.out]; exact (by rw [RW.out]; exact ST.out), BU.out⟩
              case measure => simp [intOf]; omega
          by_cases g2 : k < (cn : Int)
          rotate_left
          · have g2' : decide (k < (cn : Int)) = false := by simpa using g2
            have EQ : Hid (irLead (irLeadN cl q) (kd, r, ra, rb, k, args, cost, mt, ip) q = setB (irLeadN cl q) ((q : Int) + 1)) := hid (by rw [irLead_jump (by simp [hkd.out])]; show setB (setB (irLeadN cl q) k) _ = _; rw [setB_stay (bs := irLeadN cl q) (a := k) (.inr (by rw [ST.out.len]; omega))])
            by_cases hf : q + 1 < cn
            · have t1 := (ST.out).at (q + 1) hf
              have t2 := (ST.out).free (q + 1)
              have RW : Hid (irLead (irLeadN cl q) (kd, r, ra, rb, k, args, cost, mt, ip) q = (irLeadN cl q).set (q + 1) true) := hid (by rw [EQ.out, show ((q : Int) + 1) = ((q + 1 : Nat) : Int) by omega]; exact setB_put (by rw [(ST.out).len]; exact hf))
              have hf' : decide ((q : Int) + 1 < (cn : Int)) = true := by simp; omega
              go_wp2_with fail
              go_roundw
              case rel => exact ⟨q + 1, by omega, by go_num, cell_set_far (C2.out) (by simp), by rw [leadR_succ, EX.out]; exact (by rw [RW.out]; exact (ST.out).put (q + 1)), Below.setCell (BU.out) (by simp) _⟩
              case measure => simp [intOf]; omega
            · have RW : Hid (irLead (irLeadN cl q) (kd, r, ra, rb, k, args, cost, mt, ip) q = irLeadN cl q) := hid (by rw [EQ.out]; exact setB_stay (.inr (by rw [(ST.out).len]; omega)))
              have hf' : decide ((q : Int) + 1 < (cn : Int)) = false := by simp; omega
              go_wp2_with fail
              go_roundw
              case rel => exact ⟨q + 1, by omega, by go_num, C2.out, by rw [leadR_succ, EX.out]; exact (by rw [RW.out]; exact ST.out), BU.out⟩
              case measure => simp [intOf]; omega
          obtain ⟨kN, rfl⟩ : ∃ kN : Nat, k = kN := ⟨k.toNat, by omega⟩
          have hkN : kN < cn := by omega
          have s1 := ST.out.at kN hkN
          have s2 := ST.out.free kN
          have S1 := hid (ST.out.put kN)
          have EQ : Hid (irLead (irLeadN cl q) (kd, r, ra, rb, (kN : Int), args, cost, mt, ip) q = setB ((irLeadN cl q).set kN true) ((q : Int) + 1)) := hid (by rw [irLead_jump (by simp [hkd.out])]; show setB (setB (irLeadN cl q) (kN : Int)) _ = _; rw [setB_put (bs := irLeadN cl q) (i := kN) (by rw [ST.out.len]; exact hkN)])
          by_cases hf : q + 1 < cn
          · have t1 := (S1.out).at (q + 1) hf
            have t2 := (S1.out).free (q + 1)
            have RW : Hid (irLead (irLeadN cl q) (kd, r, ra, rb, (kN : Int), args, cost, mt, ip) q = ((irLeadN cl q).set kN true).set (q + 1) true) := hid (by rw [EQ.out, show ((q : Int) + 1) = ((q + 1 : Nat) : Int) by omega]; exact setB_put (by rw [(S1.out).len]; exact hf))
            have hf' : decide ((q : Int) + 1 < (cn : Int)) = true := by simp; omega
            go_wp2_with fail
            go_roundw
            case rel => exact ⟨q + 1, by omega, by go_num, cell_set_far (cell_set_far (C2.out) (by simp)) (by simp), by rw [leadR_succ, EX.out]; exact (by rw [RW.out]; exact (S1.out).put (q + 1)), Below.setCell (Below.setCell (BU.out) (by simp) _) (by simp) _⟩
            case measure => simp [intOf]; omega
          · have RW : Hid (irLead (irLeadN cl q) (kd, r, ra, rb, (kN : Int), args, cost, mt, ip) q = (irLeadN cl q).set kN true) := hid (by rw [EQ.out]; exact setB_stay (.inr (by rw [(S1.out).len]; omega)))
            have hf' : decide ((q : Int) + 1 < (cn : Int)) = false := by simp; omega
            go_wp2_with fail
            go_roundw
            case rel => exact ⟨q + 1, by omega, by go_num, cell_set_far (C2.out) (by simp), by rw [leadR_succ, EX.out]; exact (by rw [RW.out]; exact S1.out), Below.setCell (BU.out) (by simp) _⟩
            case measure => simp [intOf]; omega
        have h4' : (kd == 4) = false := by simpa using h4
        by_cases h5 : kd = 5
        · have hkd := hid h5
          have h5' : (kd == 5) = true := by simpa using h5
          clear h5
          by_cases g1 : 0 ≤ k
          rotate_left
          · have g1' : decide (0 ≤ k) = false := by simpa using g1
            have EQ : Hid (irLead (irLeadN cl q) (kd, r, ra, rb, k, args, cost, mt, ip) q = setB (irLeadN cl q) ((q : Int) + 1)) := hid (by rw [irLead_jump (by simp [hkd.out])]; show setB (setB (irLeadN cl q) k) _ = _; rw [setB_stay (a := k) (.inl (by omega))])
            by_cases hf : q + 1 < cn
            · have t1 := (ST.out).at (q + 1) hf
              have t2 := (ST.out).free (q + 1)
              have RW : Hid (irLead (irLeadN cl q) (kd, r, ra, rb, k, args, cost, mt, ip) q = (irLeadN cl q).set (q + 1) true) := hid (by rw [EQ.out, show ((q : Int) + 1) = ((q + 1 : Nat) : Int) by omega]; exact setB_put (by rw [(ST.out).len]; exact hf))
              have hf' : decide ((q : Int) + 1 < (cn : Int)) = true := by simp; omega
              go_wp2_with fail
              go_roundw
              case rel => exact ⟨q + 1, by omega, by go_num, cell_set_far (C2.out) (by simp), by rw [leadR_succ, EX.out]; exact (by rw [RW.out]; exact (ST.out).put (q + 1)), Below.setCell (BU.out) (by simp) _⟩
              case measure => simp [intOf]; omega
            · have RW : Hid (irLead (irLeadN cl q) (kd, r, ra, rb, k, args, cost, mt, ip) q = irLeadN cl q) := hid (by rw [EQ.out]; exact setB_stay (.inr (by rw [(ST.out).len]; omega)))
              have hf' : decide ((q : Int) + 1 < (cn : Int)) = false := by simp; omega
              go_wp2_with fail
              go_roundw
              case rel => exact ⟨q + 1, by omega, by go_num, C2.out, by rw [leadR_succ, EX.out]; exact (by rw [RW.out]; exact ST.out), BU.out⟩
              case measure => simp [intOf]; omega
          by_cases g2 : k < (cn : Int)
          rotate_left
          · have g2' : decide (k < (cn : Int)) = false := by simpa using g2
            have EQ : Hid (irLead (irLeadN cl q) (kd, r, ra, rb, k, args, cost, mt, ip) q = setB (irLeadN cl q) ((q : Int) + 1)) := hid (by rw [irLead_jump (by simp [hkd.out])]; show setB (setB (irLeadN cl q) k) _ = _; rw [setB_stay (bs := irLeadN cl q) (a := k) (.inr (by rw [ST.out.len]; omega))])
            by_cases hf : q + 1 < cn
            · have t1 := (ST.out).at (q + 1) hf
              have t2 := (ST.out).free (q + 1)
              have RW : Hid (irLead (irLeadN cl q) (kd, r, ra, rb, k, args, cost, mt, ip) q = (irLeadN cl q).set (q + 1) true) := hid (by rw [EQ.out, show ((q : Int) + 1) = ((q + 1 : Nat) : Int) by omega]; exact setB_put (by rw [(ST.out).len]; exact hf))
              have hf' : decide ((q : Int) + 1 < (cn : Int)) = true := by simp; omega
              go_wp2_with fail
              go_roundw
              case rel => exact ⟨q + 1, by omega, by go_num, cell_set_far (C2.out) (by simp), by rw [leadR_succ, EX.out]; exact (by rw [RW.out]; exact (ST.out).put (q + 1)), Below.setCell (BU.out) (by simp) _⟩
              case measure => simp [intOf]; omega
            · have RW : Hid (irLead (irLeadN cl q) (kd, r, ra, rb, k, args, cost, mt, ip) q = irLeadN cl q) := hid (by rw [EQ.out]; exact setB_stay (.inr (by rw [(ST.out).len]; omega)))
              have hf' : decide ((q : Int) + 1 < (cn : Int)) = false := by simp; omega
              go_wp2_with fail
              go_roundw
              case rel => exact ⟨q + 1, by omega, by go_num, C2.out, by rw [leadR_succ, EX.out]; exact (by rw [RW.out]; exact ST.out), BU.out⟩
              case measure => simp [intOf]; omega
          obtain ⟨kN, rfl⟩ : ∃ kN : Nat, k = kN := ⟨k.toNat, by omega⟩
          have hkN : kN < cn := by omega
          have s1 := ST.out.at kN hkN
          have s2 := ST.out.free kN
          have S1 := hid (ST.out.put kN)
          have EQ : Hid (irLead (irLeadN cl q) (kd, r, ra, rb, (kN : Int), args, cost, mt, ip) q = setB ((irLeadN cl q).set kN true) ((q : Int) + 1)) := hid (by rw [irLead_jump (by simp [hkd.out])]; show setB (setB (irLeadN cl q) (kN : Int)) _ = _; rw [setB_put (bs := irLeadN cl q) (i := kN) (by rw [ST.out.len]; exact hkN)])
          by_cases hf : q + 1 < cn
          · have t1 := (S1.out).at (q + 1) hf
            have t2 := (S1.out).free (q + 1)
            have RW : Hid (irLead (irLeadN cl q) (kd, r, ra, rb, (kN : Int), args, cost, mt, ip) q = ((irLeadN cl q).set kN true).set (q + 1) true) := hid (by rw [EQ.out, show ((q : Int) + 1) = ((q + 1 : Nat) : Int) by omega]; exact setB_put (by rw [(S1.out).len]; exact hf))
            have hf' : decide ((q : Int) + 1 < (cn : Int)) = true := by simp; omega
            go_wp2_with fail
            go_roundw
            case rel => exact ⟨q + 1, by omega, by go_num, cell_set_far (cell_set_far (C2.out) (by simp)) (by simp), by rw [leadR_succ, EX.out]; exact (by rw [RW.out]; exact (S1.out).put (q + 1)), Below.setCell (Below.setCell (BU.out) (by simp) _) (by simp) _⟩
            case measure => simp [intOf]; omega
          · have RW : Hid (irLead (irLeadN cl q) (kd, r, ra, rb, (kN : Int), args, cost, mt, ip) q = (irLeadN cl q).set kN true) := hid (by rw [EQ.out]; exact setB_stay (.inr (by rw [(S1.out).len]; omega)))
            have hf' : decide ((q : Int) + 1 < (cn : Int)) = false := by simp; omega
            go_wp2_with fail
            go_roundw
            case rel => exact ⟨q + 1, by omega, by go_num, cell_set_far (C2.out) (by simp), by rw [leadR_succ, EX.out]; exact (by rw [RW.out]; exact S1.out), Below.setCell (BU.out) (by simp) _⟩
            case measure => simp [intOf]; omega
        have h5' : (kd == 5) = false := by simpa using h5
        by_cases h8 : kd = 8
        · have hkd := hid h8
          have h8' : (kd == 8) = true := by simpa using h8
          have EQ : Hid (irLead (irLeadN cl q) (kd, r, ra, rb, k, args, cost, mt, ip) q = setB (irLeadN cl q) ((q : Int) + 1)) := hid (by rw [irLead_ret (by simp [hkd.out])])
          clear h8
          by_cases hf : q + 1 < cn
          · have t1 := (ST.out).at (q + 1) hf
            have t2 := (ST.out).free (q + 1)
            have RW : Hid (irLead (irLeadN cl q) (kd, r, ra, rb, k, args, cost, mt, ip) q = (irLeadN cl q).set (q + 1) true) := hid (by rw [EQ.out, show ((q : Int) + 1) = ((q + 1 : Nat) : Int) by omega]; exact setB_put (by rw [(ST.out).len]; exact hf))
            have hf' : decide ((q : Int) + 1 < (cn : Int)) = true := by simp; omega
            go_wp2_with fail
            go_roundw
            case rel => exact ⟨q + 1, by omega, by go_num, cell_set_far (C2.out) (by simp), by rw [leadR_succ, EX.out]; exact (by rw [RW.out]; exact (ST.out).put (q + 1)), Below.setCell (BU.out) (by simp) _⟩
            case measure => simp [intOf]; omega
          · have RW : Hid (irLead (irLeadN cl q) (kd, r, ra, rb, k, args, cost, mt, ip) q = irLeadN cl q) := hid (by rw [EQ.out]; exact setB_stay (.inr (by rw [(ST.out).len]; omega)))
            have hf' : decide ((q : Int) + 1 < (cn : Int)) = false := by simp; omega
            go_wp2_with fail
            go_roundw
            case rel => exact ⟨q + 1, by omega, by go_num, C2.out, by rw [leadR_succ, EX.out]; exact (by rw [RW.out]; exact ST.out), BU.out⟩
            case measure => simp [intOf]; omega
        have h8' : (kd == 8) = false := by simpa using h8
        have RW : Hid (irLead (irLeadN cl q) (kd, r, ra, rb, k, args, cost, mt, ip) q = irLeadN cl q) := hid (irLead_no h4 h5 h8)
        clear h4 h5 h8
        go_wp2_with fail
        go_roundw
        case rel => exact ⟨q + 1, by omega, by go_num, C2.out, by rw [leadR_succ, EX.out]; exact (by rw [RW.out]; exact ST.out), BU.out⟩
        case measure => simp [intOf]; omega
    · have hqn : q = cn := by omega
      subst hqn
      have st' : MarkSt wr (w.heap.size + 1) q w.heap.size (irLeads cl) := by
        by_cases hq0 : q = 0
        · have : leadR cl q = irLeads cl := by
            have hl : cl = [] := List.length_eq_zero_iff.1 (by rw [← L.out]; exact hq0)
            rw [hl, hq0]; rfl
          rw [← this]; exact st
        · rw [irLeads, ← L.out, ← leadR_pos hq0]; exact st
      have LR : Hid ((irLeads cl).length = q) := hid st'.len
      have ROW := hid st'.row
      clear st st'
      go_wp2_with fail
      go_ret
      exact ⟨_, rfl, by rw [LR.out]; exact ROW.out, hb⟩

end Go.Proofs.YtfnfbebkeoilfaaGreatDoor
