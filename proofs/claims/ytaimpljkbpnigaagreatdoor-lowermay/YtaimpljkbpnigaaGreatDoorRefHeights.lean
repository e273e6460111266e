/- What the document's own Heights and Verify return. -/
import Derived.Test.YtaimpljkbpnigaaGreatDoorRefWalk2
import Derived.Test.YtaimpljkbpnigaaGreatDoorJ4r
import Derived.Lib.QuietBelow
import Derived.Deep.QuietTactic
import Derived.BigQuiet
namespace Go.Proofs.YtaimpljkbpnigaaGreatDoor
open Go.RowKit
set_option linter.unusedVariables false

theorem htsF_range {ps : List Fn} {f : Fn} {i : Nat} (h : firstAt (unranged ps f) f.2.2.length 0 = some i) : htsF ps f = ([], (i : Int), 501) := by unfold htsF; rw [h]
theorem htsF_end {ps : List Fn} {f : Fn} (h : firstAt (unranged ps f) f.2.2.length 0 = none) (h' : openEnd f = true) : htsF ps f = ([], ((f.2.2.length : Int) - 1), 503) := by unfold htsF; rw [h]; simp [h']
theorem htsF_walk {ps : List Fn} {f : Fn} (h : firstAt (unranged ps f) f.2.2.length 0 = none) (h' : openEnd f = false) : htsF ps f = walkV ps f.2.2 := by unfold htsF; rw [h]; simp [h']
theorem htsV_bad {ps : List Fn} {fn : Int} (h : packsB ps = false ∨ inB ps.length fn = false) : htsV ps fn = ([], 0, 500) := by
  unfold htsV; rw [if_neg]
  rintro ⟨h1, h2⟩
  rcases h with h | h
  · rw [h] at h1; cases h1
  · rw [h] at h2; cases h2
theorem htsV_ok {ps : List Fn} {fn : Nat} (h : packsB ps = true) (h' : fn < ps.length) : htsV ps (fn : Int) = htsF ps (ps.getD fn noFn) := by
  unfold htsV; rw [if_pos ⟨h, by simp [inB, h']⟩, Int.toNat_natCast]

set_option maxRecDepth 100000 in
set_option maxHeartbeats 8000000 in
theorem refHeights_any (pa : Option Addr) (pn pc : Nat) (ps : List Fn) (fn : Int) (w : World) (hp : Fns w pa pn pc ps) :
    Calls Tryz.prog 46 #[.agg #[.slice pa pn pc], .int .i64 fn] w fun e w' => ∃ v, e = .returned (.tuple #[v, .int .i64 (htsV ps fn).2.1, .int .i64 (htsV ps fn).2.2]) ∧ w'.ownsRow w.heap.size 3 1 v (htsV ps fn).1.length (ints (htsV ps fn).1) ∧ Below w.heap.size w w' := by
  have LP := hid hp.len
  have hpr := hp.room
  have hpc := hp.cap
  cases hk : packsB ps
  · rw [htsV_bad (.inl hk)]
    go_enter Tryz.func46, Tryz.ntmps46
    go_wp2_with fail
    refine (refPacks_any _ _ _ ps _ (hp.kept (by go_grown))).mono ?_
    rintro e w1 ⟨rfl, hb⟩
    have B : Hid (Below w.heap.size w w1) := hid (kt (by go_grown) hb)
    clear hb
    go_wp2_with fail
    go_ret3
    exact ⟨_, rfl, World.ownsRow_nil _ _ _ _, B.out⟩
  by_cases hneg : fn < 0
  · rw [htsV_bad (.inr (by simp [inB]; omega))]
    go_enter Tryz.func46, Tryz.ntmps46
    go_wp2_with fail
    refine (refPacks_any _ _ _ ps _ (hp.kept (by go_grown))).mono ?_
    rintro e w1 ⟨rfl, hb⟩
    have B : Hid (Below w.heap.size w w1) := hid (kt (by go_grown) hb)
    clear hb
    go_wp2_with fail
    go_ret3
    exact ⟨_, rfl, World.ownsRow_nil _ _ _ _, B.out⟩
  obtain ⟨f, rfl⟩ : ∃ f : Nat, fn = f := ⟨fn.toNat, by omega⟩
  clear hneg
  by_cases hfn : f < pn
  rotate_left
  · rw [htsV_bad (.inr (by simp [inB]; have := LP.out; omega))]
    go_enter Tryz.func46, Tryz.ntmps46
    go_wp2_with fail
    refine (refPacks_any _ _ _ ps _ (hp.kept (by go_grown))).mono ?_
    rintro e w1 ⟨rfl, hb⟩
    have B : Hid (Below w.heap.size w w1) := hid (kt (by go_grown) hb)
    have d := kept_cell hb (b := w.heap.size) (o := 0) (v := .slice pa pn pc) (by simp [go_sem])
    clear hb
    go_wp2_with fail
    go_ret3
    exact ⟨_, rfl, World.ownsRow_nil _ _ _ _, B.out⟩
  rw [htsV_ok hk (by have := LP.out; omega)]
  have hfB := fnB_of hk (q := f) (by have := LP.out; omega) rfl
  obtain ⟨b0, o0, x, y, a, n, c, l, rfl, e3, d0, d1, d2, i3⟩ := hp.at f hfn
  rw [e3] at hfB ⊢
  have hbd := fnB_bd hfB
  have hcode : codeB l = true := by simp [fnB] at hfB; exact hfB.2
  have L := hid i3.len
  have hlen : 1 ≤ n ∧ n ≤ 64 := by rw [L.out]; omega
  have HK := hid hk
  have HC := hid hcode
  have HP := hid hp
  have HI := hid i3
  have hcp := i3.cap
  have hr := i3.room
  have zl := lt_of_cell d0
  generalize hV : htsF ps (x, y, l) = V
  have HV := hid hV
  obtain ⟨V1, V2, V3⟩ := V
  clear hV hfB hcode hp i3 e3
  go_enter Tryz.func46, Tryz.ntmps46
  go_wp2_with fail
  refine (refPacks_any _ _ _ ps _ (HP.out.kept (by go_grown))).mono ?_
  rintro e w1 ⟨rfl, hb⟩
  rw [HK.out]
  have B : Hid (Below w.heap.size w w1) := hid (kt (by go_grown) hb)
  have p0 := kept_cell hb (b := w.heap.size) (o := 0) (v := .slice (some ⟨b0, o0, none⟩) pn pc) (by simp [go_sem])
  have hs : w.heap.size < w1.heap.size := lt_of_cell p0
  replace d0 := kept_cell B.out d0
  replace d1 := kept_cell B.out d1
  replace d2 := kept_cell B.out d2
  clear hb hk
  have hA : Below w1.heap.size w1 (w1.alloc (.cells #[.int .i64 x, .int .i64 y, .slice a n c] 51)) := Below.alloc (Below.refl _ _) (Nat.le_refl _) _
  have B2 : Hid (Below w.heap.size w (w1.alloc (.cells #[.int .i64 x, .int .i64 y, .slice a n c] 51))) := hid (kt B.out hA)
  have F2 : Hid (FB5 (w1.alloc (.cells #[.int .i64 x, .int .i64 y, .slice a n c] 51)) w1.heap.size x y (.slice a n c)) := hid ⟨by simp [go_sem], by simp [go_sem], by simp [go_sem]⟩
  have P2 := hid (kept_cell hA p0)
  clear hA
  go_wp2_with fail
  refine (refReached_any x y a n c l _ (HI.out.kept B2.out)).mono ?_
  rintro e w3 ⟨vr, br, rfl, rr, orr, b3⟩
  have hM : Marked l br := by
    rcases rr with ⟨_, h⟩ | ⟨h, _⟩
    · exact h
    · rw [HC.out] at h; cases h
  obtain rfl : reachL l = br := (reachL_marked (by have := L.out; omega)).eq hM
  have hbl : (reachL l).length = n := by rw [hM.1, L.out]
  have OR : w3.ownsRow (w1.alloc (.cells #[.int .i64 x, .int .i64 y, .slice a n c] 51)).heap.size 4 1 vr n (bools (reachL l)) := by rw [hbl] at orr; exact orr
  obtain ⟨gr, cr, rfl, hg1, hg2⟩ := OR.form (by omega)
  have hcr : n ≤ cr := cap_of OR
  have O3 := hid OR
  have HM := hid hM
  have B3 : Hid (Below w.heap.size w w3) := hid (kt B2.out b3)
  have F3 := hid (F2.out.kept b3)
  have P3 := hid (kept_cell b3 P2.out)
  clear orr rr b3 OR hM p0 d0 d1 d2
  go_wp2_with fail
  go_loopw [10] (fun s wr => ∃ q : Nat, q ≤ n ∧ s = .int .i64 q ∧ firstAt (unranged ps (x, y, l)) (n - q) q = firstAt (unranged ps (x, y, l)) n 0 ∧ wr.cell? ⟨w.heap.size, 0, none⟩ = some (.slice (some ⟨b0, o0, none⟩) pn pc) ∧ FB5 wr w1.heap.size x y (.slice a n c) ∧ wr.ownsRow 0 4 1 (.slice (some ⟨gr, 0, none⟩) n cr) n (bools (reachL l)) ∧ Below w.heap.size w wr) (fun s _ => n - (intOf s).toNat)
  case atStart => exact ⟨0, Nat.zero_le _, rfl, rfl, P3.out, F3.out, owns_base O3.out (Nat.zero_le _), B3.out⟩
  case round =>
    clear P3 F3 O3 B3
    obtain ⟨q, hq, rfl, hfa, pb, fb, oo, hb⟩ := hrel
    by_cases hlt : q < n
    · obtain ⟨b1, o1, K, A, rfl, e1, c1, c2⟩ := (HI.out.kept hb).at q hlt
      have cB := oo.cellAt q (by omega)
      rw [bools_at (reachL l) q (by omega)] at cB
      have UN : Hid (unranged ps (x, y, l) q = ((reachL l).getD q false && !rangedB pn y n K A)) := hid (by
        show ((reachL l).getD q false && !rangedB ps.length y l.length (l.getD q (0, 0)).1 (l.getD q (0, 0)).2) = _
        rw [e1, ← LP.out, ← L.out])
      obtain ⟨g0, g1, g2⟩ := fb
      have FBh : Hid (FB5 wr w1.heap.size x y (.slice (some ⟨b1, o1, none⟩) n c)) := hid ⟨g0, g1, g2⟩
      have OO := hid oo
      have HFA := hid hfa
      clear e1 oo hfa
      cases hrb : (reachL l).getD q false
      · rw [hrb] at cB UN
        go_wp2_with fail
        go_quiet (fail)
        go_wp2_with fail
        go_roundw
        case rel => exact ⟨q + 1, by omega, by go_num, by rw [← HFA.out, show n - q = (n - (q + 1)) + 1 by omega, firstAt_step (by rw [UN.out]; rfl)], pb, FBh.out, OO.out, below_drewN hb _⟩
        case measure => simp [intOf]; omega
      · rw [hrb] at cB UN
        have r0 := cell_regrown pb
        have r1 := cell_regrown g0
        have r2 := cell_regrown g1
        have r3 := cell_regrown g2
        have r4 := cell_regrown c1
        have r5 := cell_regrown c2
        have r6 := cell_regrown cB
        have PBh := hid pb
        clear pb g0 g1 g2 c1 c2 cB
        cases hrn : rangedB pn y n K A
        · have e9 : htsF ps (x, y, l) = ([], (q : Int), 501) := htsF_range (by show firstAt _ l.length 0 = _; rw [← L.out, ← HFA.out, show n - q = (n - (q + 1)) + 1 by omega]; exact firstAt_hit (by rw [UN.out, hrn]; rfl))
          rw [HV.out] at e9
          simp only [Prod.mk.injEq] at e9
          obtain ⟨rfl, rfl, rfl⟩ := e9
          go_wp2_with fail
          refine wp_region_quiet_below (by kernel_rfl) (by kernel_rfl) ?_
          repeat (go_big_quiet_step (first | (go_at_call 62; exact Calls.regrown_of (refRanged_any _ _ _ _ _ _ _ _ _ _ _ hr))))
          refine wpQuiet_nil ?_
          intro _ hw'
          obtain ⟨⟨dq, osq⟩, hw''⟩ := hw'
          subst hw''
          go_wp2_with fail
          go_ret3
          exact ⟨_, rfl, World.ownsRow_nil _ _ _ _, kt hb (below_regrown _ _ _)⟩
        · go_wp2_with fail
          refine wp_region_quiet_below (by kernel_rfl) (by kernel_rfl) ?_
          repeat (go_big_quiet_step (first | (go_at_call 62; exact Calls.regrown_of (refRanged_any _ _ _ _ _ _ _ _ _ _ _ hr))))
          refine wpQuiet_nil ?_
          intro _ hw'
          obtain ⟨⟨dq, osq⟩, hw''⟩ := hw'
          subst hw''
          go_wp2_with fail
          go_roundw
          case rel => exact ⟨q + 1, by omega, by go_num, by rw [← HFA.out, show n - q = (n - (q + 1)) + 1 by omega, firstAt_step (by rw [UN.out, hrn]; rfl)], kept_cell (below_regrown _ _ _) PBh.out, FBh.out.kept (below_regrown _ _ _), owns_kept OO.out (below_regrown _ _ _), kt hb (below_regrown _ _ _)⟩
          case measure => simp [intOf]; omega
    · have hqn : q = n := by omega
      subst hqn
      rw [show q - q = 0 by omega] at hfa
      have hnone : firstAt (unranged ps (x, y, l)) l.length 0 = none := by rw [← L.out]; exact hfa.symm
      obtain ⟨m, rfl⟩ : ∃ m, q = m + 1 := ⟨q - 1, by omega⟩
      have HN := hid hnone
      have HR : Hid (∀ i, Reach l i → rangedB pn y (m + 1) (insAt l i).1 (insAt l i).2 = true) := hid (by
        intro i hi
        have hil := hi.lt (by have := L.out; omega)
        have h1 := firstAt_none _ _ hnone i (Nat.zero_le _) (by omega)
        have h2 : (reachL l).getD i false = true := (HM.out.2 i hil).2 hi
        have h3 : ((reachL l).getD i false && !rangedB ps.length y l.length (insAt l i).1 (insAt l i).2) = false := h1
        rw [h2, ← LP.out, ← L.out] at h3
        simpa using h3)
      obtain ⟨b1, o1, K, A, rfl, e1, c1, c2⟩ := (HI.out.kept hb).at m (by omega)
      have cB := oo.cellAt m (by omega)
      rw [bools_at (reachL l) m (by omega)] at cB
      have OE : Hid (openEnd (x, y, l) = ((reachL l).getD m false && !decide (K = 12 ∨ K = 16))) := hid (by
        show ((reachL l).getD (l.length - 1) false && !decide ((l.getD (l.length - 1) (0, 0)).1 = 12 ∨ (l.getD (l.length - 1) (0, 0)).1 = 16)) = _
        rw [← L.out, show m + 1 - 1 = m by omega, e1])
      obtain ⟨g0, g1, g2⟩ := fb
      have FBh : Hid (FB5 wr w1.heap.size x y (.slice (some ⟨b1, o1, none⟩) (m + 1) c)) := hid ⟨g0, g1, g2⟩
      clear e1 oo hfa hnone
      by_cases hoe : (reachL l).getD m false = true ∧ ¬ K = 12 ∧ ¬ K = 16
      · obtain ⟨h1, h2, h3⟩ := hoe
        rw [h1] at cB
        have n12 : (K != 12) = true := by simp [h2]
        have n16 : (K != 16) = true := by simp [h3]
        have e9 := htsF_end HN.out (by rw [OE.out, h1]; simp [h2, h3])
        rw [HV.out] at e9
        simp only [Prod.mk.injEq] at e9
        obtain ⟨rfl, e10, rfl⟩ := e9
        obtain rfl : V2 = (m : Int) := by rw [e10]; show (l.length : Int) - 1 = m; have := L.out; omega
        clear e10
        go_wp2_with fail
        go_ret3
        exact ⟨_, rfl, World.ownsRow_nil _ _ _ _, hb⟩
      · have hop : openEnd (x, y, l) = false := by
          rw [OE.out]
          cases h1 : (reachL l).getD m false
          · rfl
          · simp only [Bool.true_and, Bool.not_eq_false', decide_eq_true_eq]
            by_cases h2 : K = 12
            · exact .inl h2
            · by_cases h3 : K = 16
              · exact .inr h3
              · exact absurd ⟨h1, h2, h3⟩ hoe
        have e9 := htsF_walk HN.out hop
        rw [HV.out] at e9
        have WV : Hid (walkV ps l = (V1, V2, V3)) := hid e9.symm
        clear hop e9
        cases h1 : (reachL l).getD m false
        · rw [h1] at cB
          go_wp2_with fail
          refine (refWalk_any _ pn pc ps x y _ (m + 1) c l wr (HP.out.kept hb) (HI.out.kept hb) HK.out HC.out HR.out).mono ?_
          rintro e w9 ⟨v9, rfl, o9, b9⟩
          rw [WV.out] at o9 ⊢
          go_wp2_with fail
          go_ret3
          exact ⟨_, rfl, owns_base o9 hb.size, kt hb b9⟩
        · rw [h1] at cB
          by_cases h2 : K = 12
          · subst h2
            go_wp2_with fail
            refine (refWalk_any _ pn pc ps x y _ (m + 1) c l wr (HP.out.kept hb) (HI.out.kept hb) HK.out HC.out HR.out).mono ?_
            rintro e w9 ⟨v9, rfl, o9, b9⟩
            rw [WV.out] at o9 ⊢
            go_wp2_with fail
            go_ret3
            exact ⟨_, rfl, owns_base o9 hb.size, kt hb b9⟩
          · have h3 : K = 16 := by
              by_cases h3 : K = 16
              · exact h3
              · exact absurd ⟨h1, h2, h3⟩ hoe
            subst h3
            go_wp2_with fail
            refine (refWalk_any _ pn pc ps x y _ (m + 1) c l wr (HP.out.kept hb) (HI.out.kept hb) HK.out HC.out HR.out).mono ?_
            rintro e w9 ⟨v9, rfl, o9, b9⟩
            rw [WV.out] at o9 ⊢
            go_wp2_with fail
            go_ret3
            exact ⟨_, rfl, owns_base o9 hb.size, kt hb b9⟩

theorem verF_bad {ps : List Fn} {k i : Nat} (h : ¬ (htsV ps i).2.2 = 0) : verF ps (k + 1) i = (htsV ps i).2.2 := by simp [verF, h]
theorem verF_go {ps : List Fn} {k i : Nat} (h : (htsV ps i).2.2 = 0) : verF ps (k + 1) i = verF ps k (i + 1) := by simp [verF, h]

set_option maxHeartbeats 2000000 in
theorem refVerify_any (pa : Option Addr) (pn pc : Nat) (ps : List Fn) (w : World) (hp : Fns w pa pn pc ps) :
    Calls Tryz.prog 25 #[.agg #[.slice pa pn pc]] w fun e w' => e = .returned (.int .i64 (verV ps)) ∧ Below w.heap.size w w' := by
  have LP := hid hp.len
  have hpr := hp.room
  have hpc := hp.cap
  have HP := hid hp
  clear hp
  cases hk : packsB ps
  · rw [show verV ps = 500 by simp [verV, hk]]
    go_enter Tryz.func25, Tryz.ntmps25
    go_wp2_with fail
    refine (refPacks_any _ _ _ ps _ (HP.out.kept (by go_grown))).mono ?_
    rintro e w1 ⟨rfl, hb⟩
    have B : Hid (Below w.heap.size w w1) := hid (kt (by go_grown) hb)
    clear hb
    go_wp2_with fail
    go_ret
    exact ⟨rfl, B.out⟩
  · have HV : Hid (verV ps = verF ps pn 0) := hid (by simp [verV, hk, ← LP.out])
    have HK := hid hk
    go_enter Tryz.func25, Tryz.ntmps25
    go_wp2_with fail
    refine (refPacks_any _ _ _ ps _ (HP.out.kept (by go_grown))).mono ?_
    rintro e w1 ⟨rfl, hb⟩
    rw [hk]
    have B : Hid (Below w.heap.size w w1) := hid (kt (by go_grown) hb)
    have p0 := hid (kept_cell hb (b := w.heap.size) (o := 0) (v := .slice pa pn pc) (by simp [go_sem]))
    clear hb hk
    go_wp2_with fail
    go_loopw [3] (fun s wr => ∃ q : Nat, q ≤ pn ∧ s = .int .i64 q ∧ verF ps (pn - q) q = verV ps ∧ wr.cell? ⟨w.heap.size, 0, none⟩ = some (.slice pa pn pc) ∧ Below w.heap.size w wr) (fun s _ => pn - (intOf s).toNat)
    case atStart => exact ⟨0, Nat.zero_le _, rfl, HV.out.symm, p0.out, B.out⟩
    case round =>
      obtain ⟨q, hq, rfl, hv, pb, hb⟩ := hrel
      have HQ := hid hv
      clear hv
      by_cases hlt : q < pn
      · go_wp2_with fail
        refine (refHeights_any _ _ _ ps q wr (HP.out.kept hb)).mono ?_
        rintro e w2 ⟨v2, rfl, -, b2⟩
        have pb2 := kept_cell b2 pb
        have HB2 := hid (kt hb b2)
        clear b2
        by_cases h0 : (htsV ps q).2.2 = 0
        · have HQ2 : Hid (verF ps (pn - (q + 1)) (q + 1) = verV ps) := hid (by rw [← HQ.out, show pn - q = (pn - (q + 1)) + 1 by omega, verF_go h0])
          rw [h0]
          clear h0
          go_wp2_with fail
          go_roundw
          case rel => exact ⟨q + 1, by omega, by go_num, HQ2.out, pb2, HB2.out⟩
          case measure => simp [intOf]; omega
        · have HQ2 : Hid (verV ps = (htsV ps q).2.2) := hid (by rw [← HQ.out, show pn - q = (pn - (q + 1)) + 1 by omega, verF_bad h0])
          generalize hz : (htsV ps q).2.2 = z at *
          have nz : (z != 0) = true := by simp [h0]
          go_wp2_with fail
          go_ret
          exact ⟨by rw [HQ2.out]; rfl, HB2.out⟩
      · have hqn : q = pn := by omega
        subst hqn
        have e0 := HQ.out
        rw [show q - q = 0 by omega] at e0
        have HQ2 : Hid (verV ps = 0) := hid e0.symm
        clear e0
        go_wp2_with fail
        go_ret
        exact ⟨by rw [HQ2.out]; rfl, hb⟩

end Go.Proofs.YtaimpljkbpnigaaGreatDoor
