/- SameIr, sameParts, SameCode: of two that read alike. -/
import Derived.Test.YtfnfbebkeoilfaaGreatDoorMemIr
import Derived.Test.YtfnfbebkeoilfaaGreatDoorFlatSrcs
import Derived.Test.YtfnfbebkeoilfaaGreatDoorLawInts
import Derived.Test.YtfnfbebkeoilfaaGreatDoorWpName
import Derived.Deep.DeepCutAuto
import Derived.Lib.QuietBelow
namespace Go.Proofs.YtfnfbebkeoilfaaGreatDoor
open Go.RowKit
set_option linter.unusedVariables false

set_option maxRecDepth 100000 in
set_option maxHeartbeats 4000000 in
theorem sameIr_same (kd r ra rb k : Int) (xa : Option Addr) (xn xc : Nat) (ya : Option Addr) (yn yc : Nat) (args : List Int) (cost mt ip : Int) (w : World) (hx : Ints w xa xn xc args) (hy : Ints w ya yn yc args) :
    Calls Tryz.prog 25 #[.agg #[.int .i64 kd, .int .i64 r, .int .i64 ra, .int .i64 rb, .int .i64 k, .slice xa xn xc, .int .i64 cost, .int .i64 mt, .int .i64 ip], .agg #[.int .i64 kd, .int .i64 r, .int .i64 ra, .int .i64 rb, .int .i64 k, .slice ya yn yc, .int .i64 cost, .int .i64 mt, .int .i64 ip]] w fun e w' => e = .returned (.bool true) ∧ Below w.heap.size w w' := by
  have HX := hid hx
  have HY := hid hy
  clear hx hy
  go_enter Tryz.func25, Tryz.ntmps25
  go_wp2_with fail
  refine (sameInts_any _ _ _ _ _ _ args args _ (HX.out.kept (by go_grown)) (HY.out.kept (by go_grown))).mono ?_
  rintro e w1 ⟨rfl, b1⟩
  go_wp2_with fail
  go_ret
  exact ⟨ret_bool (by simp), kt (by go_grown) b1⟩

set_option maxRecDepth 100000 in
set_option maxHeartbeats 4000000 in
theorem sameParts_same (a : Option Addr) (n c : Nat) (b : Option Addr) (m d : Nat) (l : List PartT) (w : World) (h1 : Sl layPart 64 w a n c l) (h2 : Sl layPart 64 w b m d l) :
    Calls Tryz.prog 26 #[.slice a n c, .slice b m d] w fun e w' => e = .returned (.bool true) ∧ Below w.heap.size w w' := by
  have hr := h1.room
  have hr2 := h2.room
  have hc := h1.cap
  have hc2 := h2.cap
  obtain rfl : n = m := by rw [h1.len, h2.len]
  have H1 := hid h1
  have H2 := hid h2
  clear h1 h2
  go_enter Tryz.func26, Tryz.ntmps26
  go_wp2_with fail
  go_loopw [5] (fun i wr => ∃ q : Nat, q ≤ n ∧ i = .int .i64 q ∧ Below w.heap.size w wr) (fun i _ => n - (intOf i).toNat)
  case atStart => exact ⟨0, Nat.zero_le _, rfl, Below.refl _ _⟩
  case round =>
    obtain ⟨q, hq, rfl, hb⟩ := hrel
    by_cases hlt : q < n
    · obtain ⟨b1, o1, f0, x0, la, ln, lc, ll, sa, sn, sc, sl, rfl, ex, s0, s1, s2, s3, hl, hs⟩ := part_at (H1.out.kept hb) q hlt
      obtain ⟨b2, o2, f0', x0', la', ln', lc', ll', sa', sn', sc', sl', rfl, ex', t0, t1, t2, t3, hl', hs'⟩ := part_at (H2.out.kept hb) q hlt
      have e := Option.some.inj (ex.symm.trans ex')
      obtain ⟨rfl, rfl, rfl, rfl⟩ : f0 = f0' ∧ x0 = x0' ∧ ll = ll' ∧ sl = sl' := by cases e; exact ⟨rfl, rfl, rfl, rfl⟩
      have HL := hid hl
      have HS := hid hs
      have HL' := hid hl'
      have HS' := hid hs'
      have HB := hid hb
      clear ex ex' e hl hs hl' hs'
      replace s0 := cell_regrown s0
      replace s1 := cell_regrown s1
      replace s2 := cell_regrown s2
      replace s3 := cell_regrown s3
      replace t0 := cell_regrown t0
      replace t1 := cell_regrown t1
      replace t2 := cell_regrown t2
      replace t3 := cell_regrown t3
      have q0 : (0 : Int) ≤ (q : Int) := by omega
      have q1 : (q : Int) < (n : Int) := by omega
      have SL : Hid (∀ u, Below wr.heap.size wr u → Calls Tryz.prog 44 #[.slice la ln lc, .slice la' ln' lc'] u fun e w' => e = .returned (.bool true) ∧ Below u.heap.size u w') := hid (fun u hu => (sameSrcs_any _ _ _ _ _ _ ll ll u (HL.out.kept hu) (HL'.out.kept hu)).mono (fun _ _ h => ⟨by rw [h.1]; simp, h.2⟩))
      have SS : Hid (∀ u, Below wr.heap.size wr u → Calls Tryz.prog 44 #[.slice sa sn sc, .slice sa' sn' sc'] u fun e w' => e = .returned (.bool true) ∧ Below u.heap.size u w') := hid (fun u hu => (sameSrcs_any _ _ _ _ _ _ sl sl u (HS.out.kept hu) (HS'.out.kept hu)).mono (fun _ _ h => ⟨by rw [h.1]; simp, h.2⟩))
      go_upto_region 6 with fail
      refine wp_region_quiet_below (by kernel_rfl) (by kernel_rfl) ?_
      repeat (go_big_quiet_step (first | (go_at_call 44; first | with_reducible exact Calls.regrown_of (SL.out _ (below_regrown _ _ _)) | with_reducible exact Calls.regrown_of (SS.out _ (below_regrown _ _ _)))))
      refine wpQuiet_nil ?_
      intro _ hw'
      obtain ⟨⟨dq, osq⟩, hw''⟩ := hw'
      subst hw''
      go_wp2_with fail
      go_roundw
      case rel => exact ⟨q + 1, by omega, by go_num, kt HB.out (below_regrown _ _ _)⟩
      case measure => simp [intOf]; omega
    · go_wp2_with fail
      go_ret
      exact ⟨rfl, hb⟩

set_option maxRecDepth 100000 in
set_option maxHeartbeats 8000000 in
theorem sameCode_same (cf rg : Int) (ca : Option Addr) (cn cc : Nat) (ma : Option Addr) (mn mc : Nat) (ca' : Option Addr) (cn' cc' : Nat) (ma' : Option Addr) (mn' mc' : Nat) (cl : List IrT) (ml : List (List PartT)) (w : World) (h1 : Sl layIr 88 w ca cn cc cl) (h2 : Sl layMeta 24 w ma mn mc ml) (k1 : Sl layIr 88 w ca' cn' cc' cl) (k2 : Sl layMeta 24 w ma' mn' mc' ml) :
    Calls Tryz.prog 12 #[.agg #[.int .i64 cf, .int .i64 rg, .slice ca cn cc, .slice ma mn mc], .agg #[.int .i64 cf, .int .i64 rg, .slice ca' cn' cc', .slice ma' mn' mc']] w fun e w' => e = .returned (.bool true) ∧ Below w.heap.size w w' := by
  have hr := h1.room
  have hr2 := h2.room
  have hc := h1.cap
  have hc2 := h2.cap
  have kc := k1.cap
  have kc2 := k2.cap
  obtain rfl : cn = cn' := by rw [h1.len, k1.len]
  obtain rfl : mn = mn' := by rw [h2.len, k2.len]
  have H1 := hid h1
  have H2 := hid h2
  have K1 := hid k1
  have K2 := hid k2
  clear h1 h2 k1 k2
  go_enter Tryz.func12, Tryz.ntmps12
  go_wp2_with fail
  go_loopw [5] (fun i wr => ∃ q : Nat, q ≤ cn ∧ i = .int .i64 q ∧ wr.cell? ⟨w.heap.size, 2, none⟩ = some (.slice ca cn cc) ∧ wr.cell? ⟨w.heap.size, 3, none⟩ = some (.slice ma mn mc) ∧ wr.cell? ⟨w.heap.size + 1, 2, none⟩ = some (.slice ca' cn cc') ∧ wr.cell? ⟨w.heap.size + 1, 3, none⟩ = some (.slice ma' mn mc') ∧ Below w.heap.size w wr) (fun i _ => cn - (intOf i).toNat)
  case atStart => exact ⟨0, Nat.zero_le _, rfl, by simp [go_sem], by simp [go_sem], by simp [go_sem], by simp [go_sem], by go_grown⟩
  case round =>
    obtain ⟨q, hq, rfl, p2, p3, r2, r3, hb⟩ := hrel
    by_cases hlt : q < cn
    · obtain ⟨b1, o1, kd, r, ra, rb, k, xa, xn, xc, args, cost, mt, ip, rfl, ex, e0, e1, e2, e3, e4, e5, e6, e7, e8, hx⟩ := ir_at (H1.out.kept hb) q hlt
      obtain ⟨b2, o2, kd', r', ra', rb', k', ya, yn, yc, args', cost', mt', ip', rfl, ey, f0, f1, f2, f3, f4, f5, f6, f7, f8, hy⟩ := ir_at (K1.out.kept hb) q hlt
      have e := Option.some.inj (ex.symm.trans ey)
      obtain ⟨rfl, rfl, rfl, rfl, rfl, rfl, rfl, rfl, rfl⟩ : kd = kd' ∧ r = r' ∧ ra = ra' ∧ rb = rb' ∧ k = k' ∧ args = args' ∧ cost = cost' ∧ mt = mt' ∧ ip = ip' := by cases e; exact ⟨rfl, rfl, rfl, rfl, rfl, rfl, rfl, rfl, rfl⟩
      have HX := hid hx
      have HY := hid hy
      have HB := hid hb
      have P := hid (And.intro p2 (And.intro p3 (And.intro r2 r3)))
      clear ex ey e hx hy
      replace e0 := cell_regrown e0
      replace e1 := cell_regrown e1
      replace e2 := cell_regrown e2
      replace e3 := cell_regrown e3
      replace e4 := cell_regrown e4
      replace e5 := cell_regrown e5
      replace e6 := cell_regrown e6
      replace e7 := cell_regrown e7
      replace e8 := cell_regrown e8
      replace f0 := cell_regrown f0
      replace f1 := cell_regrown f1
      replace f2 := cell_regrown f2
      replace f3 := cell_regrown f3
      replace f4 := cell_regrown f4
      replace f5 := cell_regrown f5
      replace f6 := cell_regrown f6
      replace f7 := cell_regrown f7
      replace f8 := cell_regrown f8
      have q0 : (0 : Int) ≤ (q : Int) := by omega
      have q1 : (q : Int) < (cn : Int) := by omega
      have SI : Hid (∀ u, Below wr.heap.size wr u → Calls Tryz.prog 25 #[.agg #[.int .i64 kd, .int .i64 r, .int .i64 ra, .int .i64 rb, .int .i64 k, .slice xa xn xc, .int .i64 cost, .int .i64 mt, .int .i64 ip], .agg #[.int .i64 kd, .int .i64 r, .int .i64 ra, .int .i64 rb, .int .i64 k, .slice ya yn yc, .int .i64 cost, .int .i64 mt, .int .i64 ip]] u fun e w' => e = .returned (.bool true) ∧ Below u.heap.size u w') := hid (fun u hu => sameIr_same _ _ _ _ _ _ _ _ _ _ _ args _ _ _ u (HX.out.kept hu) (HY.out.kept hu))
      go_upto_region 6 with fail
      replace p2 := cell_regrown p2
      replace r2 := cell_regrown r2
      refine wp_region_quiet_below (by kernel_rfl) (by kernel_rfl) ?_
      repeat (go_big_quiet_step (first | (go_at_call 25; exact Calls.regrown_of (SI.out _ (below_regrown _ _ _)))))
      refine wpQuiet_nil ?_
      intro _ hw'
      obtain ⟨⟨dq, osq⟩, hw''⟩ := hw'
      subst hw''
      go_wp2_with fail
      go_roundw
      case rel => exact ⟨q + 1, by omega, by go_num, kept_cell (below_regrown _ _ _) P.out.1, kept_cell (below_regrown _ _ _) P.out.2.1, kept_cell (below_regrown _ _ _) P.out.2.2.1, kept_cell (below_regrown _ _ _) P.out.2.2.2, kt HB.out (below_regrown _ _ _)⟩
      case measure => simp [intOf]; omega
    · have hqn : q = cn := by omega
      subst hqn
      have HB := hid hb
      clear hb hlt hq
      go_wp2_with fail
      go_loopw [6] (fun i ws => ∃ j : Nat, j ≤ mn ∧ i = .int .i64 j ∧ ws.cell? ⟨w.heap.size, 3, none⟩ = some (.slice ma mn mc) ∧ ws.cell? ⟨w.heap.size + 1, 3, none⟩ = some (.slice ma' mn mc') ∧ Below w.heap.size w ws) (fun i _ => mn - (intOf i).toNat)
      case atStart => exact ⟨0, Nat.zero_le _, rfl, p3, r3, HB.out⟩
      case round =>
        clear p2 p3 r2 r3 HB
        obtain ⟨j, hj, rfl, p3, r3, hb⟩ := hrel
        by_cases hlt : j < mn
        · obtain ⟨b1, o1, pa, pn, pc, parts, rfl, ex, e0, hx⟩ := meta_at (H2.out.kept hb) j hlt
          obtain ⟨b2, o2, pa', pn', pc', parts', rfl, ey, f0, hy⟩ := meta_at (K2.out.kept hb) j hlt
          obtain rfl : parts = parts' := Option.some.inj (ex.symm.trans ey)
          rw [Nat.mul_one] at e0 f0
          have HX := hid hx
          have HY := hid hy
          have HB := hid hb
          have P := hid (And.intro p3 r3)
          clear ex ey hx hy
          replace e0 := cell_regrown e0
          replace f0 := cell_regrown f0
          have q0 : (0 : Int) ≤ (j : Int) := by omega
          have q1 : (j : Int) < (mn : Int) := by omega
          have SP : Hid (∀ u, Below wr.heap.size wr u → Calls Tryz.prog 26 #[.slice pa pn pc, .slice pa' pn' pc'] u fun e w' => e = .returned (.bool true) ∧ Below u.heap.size u w') := hid (fun u hu => sameParts_same _ _ _ _ _ _ parts u (HX.out.kept hu) (HY.out.kept hu))
          go_upto_region 11 with fail
          replace p3 := cell_regrown p3
          replace r3 := cell_regrown r3
          refine wp_region_quiet_below (by kernel_rfl) (by kernel_rfl) ?_
          repeat (go_big_quiet_step (first | (go_at_call 26; exact Calls.regrown_of (SP.out _ (below_regrown _ _ _)))))
          refine wpQuiet_nil ?_
          intro _ hw'
          obtain ⟨⟨dq, osq⟩, hw''⟩ := hw'
          subst hw''
          go_wp2_with fail
          go_roundw
          case rel => exact ⟨j + 1, by omega, by go_num, kept_cell (below_regrown _ _ _) P.out.1, kept_cell (below_regrown _ _ _) P.out.2, kt HB.out (below_regrown _ _ _)⟩
          case measure => simp [intOf]; omega
        · go_wp2_with fail
          go_ret
          exact ⟨rfl, hb⟩

end Go.Proofs.YtfnfbebkeoilfaaGreatDoor
