/- CopyCode of package swagelaw0. Written by copycodegen.py. -/
import Derived.Test.YtfnfbebkeoilfaaGreatDoorMakeIr
import Derived.Test.YtfnfbebkeoilfaaGreatDoorHeapBits
import Derived.Test.YtfnfbebkeoilfaaGreatDoorFlatSrcs
import Derived.Test.YtfnfbebkeoilfaaGreatDoorWpName
import Derived.Deep.DeepCutAuto
namespace Go.Proofs.YtfnfbebkeoilfaaGreatDoor
open Go.RowKit
set_option linter.unusedVariables false

set_option maxRecDepth 100000 in
set_option maxHeartbeats 16000000 in
theorem copyCode_any (ca : Option Addr) (cn cc : Nat) (ma : Option Addr) (mn mc : Nat) (cl : List IrT) (ml : List (List PartT)) (cf rg : Int) (w : World) (hcl : Sl layIr 88 w ca cn cc cl) (hml : Sl layMeta 24 w ma mn mc ml) :
    Calls Tryz.prog 6 #[.agg #[.int .i64 cf, .int .i64 rg, .slice ca cn cc, .slice ma mn mc]] w fun e w' => ∃ v u s, e = .returned (.agg #[.int .i64 cf, .int .i64 rg, v, u]) ∧ OSl layIr 42 88 w' (fun b => w.heap.size ≤ b ∧ b < s) v cl ∧ OSl layMeta 47 24 w' (fun b => w.heap.size ≤ b ∧ s ≤ b) u ml ∧ Below w.heap.size w w' := by
  obtain ⟨i0, hi, hz0, hz1, hz2⟩ := info_parts Tryz.infoIr
  obtain ⟨j0, hj, jz0, jz1, jz2⟩ := info_parts Tryz.infoIntC
  obtain ⟨p0, hp, pz0, pz1, pz2⟩ := info_parts Tryz.infoPart
  obtain ⟨m0, hm, mz0, mz1, mz2⟩ := info_parts Tryz.infoMeta
  have LC := hid hcl.len
  have hcr := hcl.room
  have hcc := hcl.cap
  have HC := hid hcl
  have LM := hid hml.len
  have hmr := hml.room
  have hmc := hml.cap
  have HM := hid hml
  clear hcl hml
  have W3 : Hid (∃ U : World, U = (((w.alloc (.cells #[.int .i64 cf, .int .i64 rg, .slice ca cn cc, .slice ma mn mc] 28)).alloc (.cells #[.int .i64 0, .int .i64 0, .slice none 0 0, .slice none 0 0] 28)).alloc (.cells #[.int .i64 cf, .int .i64 rg, .slice none 0 0, .slice none 0 0] 28))) := hid ⟨_, rfl⟩
  obtain ⟨w3, hw3⟩ := W3.out
  have B3 : Hid (Below w.heap.size w w3) := hid (by rw [hw3]; go_grown)
  have R3 : Hid (w3.cell? ⟨w.heap.size, 2, none⟩ = some (.slice ca cn cc) ∧ w3.cell? ⟨w.heap.size, 3, none⟩ = some (.slice ma mn mc)) := hid (by rw [hw3]; exact ⟨by simp [go_sem], by simp [go_sem]⟩)
  have Q3 : Hid ((w3.cell? ⟨w.heap.size + 1, 0, none⟩ = some (.int .i64 0) ∧ w3.cell? ⟨w.heap.size + 1, 1, none⟩ = some (.int .i64 0) ∧ w3.cell? ⟨w.heap.size + 1, 2, none⟩ = some (.slice none 0 0) ∧ w3.cell? ⟨w.heap.size + 1, 3, none⟩ = some (.slice none 0 0)) ∧ ∀ j, w3.frozen? ⟨w.heap.size + 1, j, none⟩ = false) := hid (by rw [hw3]; exact ⟨⟨by simp [go_sem], by simp [go_sem], by simp [go_sem], by simp [go_sem]⟩, fun j => by simp [go_sem]⟩)
  have O3 : Hid (OutC w3 (w.heap.size + 1 + 1) cf rg (.slice none 0 0) (.slice none 0 0)) := hid (by rw [hw3]; exact ⟨by simp [go_sem], by simp [go_sem], by simp [go_sem], by simp [go_sem], by simp [go_sem], by simp [go_sem]⟩)
  have HS3 : Hid (w3.heap.size = w.heap.size + 3) := hid (by rw [hw3]; simp)
  have E3 := hid hw3
  clear hw3 W3
  go_enter Tryz.func6, Tryz.ntmps6
  go_wp2_with fail
  refine wp_world (U := w3) (by rw [E3.out]) ?_
  go_loopw [4] (fun i wr => ∃ (q : Nat) (va : Option Addr) (vn vc : Nat), q ≤ cn ∧ i = .int .i64 q ∧ OutC wr (w.heap.size + 1 + 1) cf rg (.slice va vn vc) (.slice none 0 0) ∧ OSl layIr 42 88 wr (fun b => w.heap.size + 2 < b) (.slice va vn vc) (cl.take q) ∧ Below (w.heap.size + 2) w3 wr) (fun i _ => cn - (intOf i).toNat)
  case atStart => exact ⟨0, none, 0, 0, Nat.zero_le _, rfl, O3.out, OSl.nil _ _ _ _ _, Below.refl _ _⟩
  case round =>
    clear E3 O3
    obtain ⟨q, va, vn, vc, hq, rfl, oc, ho, hb⟩ := hrel
    obtain ⟨V, hV⟩ : ∃ V : World, V = wr := ⟨_, rfl⟩
    subst hV
    have HO := hid ho
    have HB := hid hb
    have OCV := hid oc
    have r2 : V.cell? ⟨w.heap.size, 2, none⟩ = some (.slice ca cn cc) := (hb.cell (p := ⟨w.heap.size, 2, none⟩) (by show w.heap.size < w.heap.size + 2; omega)).trans R3.out.1
    have r3 : V.cell? ⟨w.heap.size, 3, none⟩ = some (.slice ma mn mc) := (hb.cell (p := ⟨w.heap.size, 3, none⟩) (by show w.heap.size < w.heap.size + 2; omega)).trans R3.out.2
    have RV := hid (And.intro r2 r3)
    have hsv : w.heap.size + 3 ≤ V.heap.size := by have := hb.size; have := HS3.out; omega
    have BW : Hid (Below w.heap.size w V) := hid (B3.out.trans (hb.mono (by omega)))
    clear ho oc r3
    by_cases hlt : q < cn
    · obtain ⟨b0, o0, kd, r, ra, rb, k, xa, xn, xc, args, cost, mt, ip, rfl, hx, e0, e1, e2, e3, e4, e5, e6, e7, e8, hargs⟩ := ir_at (HC.out.kept BW.out) q hlt
      have HX := hid hx
      obtain ⟨U0, hU0⟩ : ∃ U : World, U = V.alloc (.cells #[.int .i64 kd, .int .i64 r, .int .i64 ra, .int .i64 rb, .int .i64 k, .slice xa xn xc, .int .i64 cost, .int .i64 mt, .int .i64 ip] 42) := ⟨_, rfl⟩
      have L0 : Hid (Below V.heap.size V U0) := hid (by rw [hU0]; exact Below.alloc (Below.refl _ _) (Nat.le_refl _) _)
      have h0 : U0.heap[V.heap.size]? = some (.cells #[.int .i64 kd, .int .i64 r, .int .i64 ra, .int .i64 rb, .int .i64 k, .slice xa xn xc, .int .i64 cost, .int .i64 mt, .int .i64 ip] 42) := by rw [hU0]; exact heap_alloc_new _ _
      have hu0 : U0.heap.size = V.heap.size + 1 := by rw [hU0]; simp
      have IA := hid hargs
      have EU := hid hU0
      have HU0 := hid hu0
      clear hx hargs hU0 hb hu0
      go_upto_region 6 with fail
      refine wp_world (U := U0) EU.out ?_
      clear e0 e1 e2 e3 e4 e5 e6 e7 e8 r2
      have x5 : (U0.alloc (.cells #[] 3)).cell? ⟨V.heap.size, 5, none⟩ = some (.slice xa xn xc) := kept_cell (Below.alloc (Below.refl _ _) (Nat.le_refl _) _) (cell_of_heap (j := 5) h0 rfl).1
      go_upto_region 7 with (at_builtin; refine wpList_copyF flatI 3 40 8 j0 (.int .i64 0) Tryz.underlying40 hj jz0 jz1 jz2 rfl (by decide) (by decide) U0 _ rfl _ _ rfl rfl U0.heap.size rfl rfl _ _ _ args rfl (IA.out.sl.kept L0.out) ?_; intro a1 n1 m1 w1 o1 b1; have g1 := heap_kept h0 b1; have y5 := (cell_of_heap (j := 5) g1 rfl); obtain ⟨y5, z5⟩ := y5; have O1 := hid o1; have B1 := hid b1; have G1 := hid g1; clear o1 b1 g1)
      obtain ⟨U1, hU1⟩ : ∃ U : World, U = w1.setCell ⟨V.heap.size, 5, none⟩ (.slice a1 n1 m1) := ⟨_, rfl⟩
      refine wp_world (U := U1) (by rw [hU1]) ?_
      have h1 : U1.heap[V.heap.size]? = some (.cells #[.int .i64 kd, .int .i64 r, .int .i64 ra, .int .i64 rb, .int .i64 k, .slice a1 n1 m1, .int .i64 cost, .int .i64 mt, .int .i64 ip] 42) := by rw [hU1]; exact heap_setCell_same _ _ 5 _ _ _ G1.out
      have L1 : Hid (Below V.heap.size V U1) := hid (by rw [hU1]; exact (kt L0.out B1.out).setCell (Nat.le_refl _) _)
      have S1 : Hid (U1.heap.size = w1.heap.size ∧ U0.heap.size ≤ w1.heap.size ∧ ∀ b, b ≠ V.heap.size → U1.heap[b]? = w1.heap[b]?) := hid ⟨by rw [hU1]; simp, B1.out.size, fun b hb => by rw [hU1]; exact Below.heap_setCell _ _ _ b hb⟩
      clear hU1 y5 z5 x5
      have c0 := (cell_of_heap (j := 0) h1 rfl).1
      have c1 := (cell_of_heap (j := 1) h1 rfl).1
      have c2 := (cell_of_heap (j := 2) h1 rfl).1
      have c3 := (cell_of_heap (j := 3) h1 rfl).1
      have c4 := (cell_of_heap (j := 4) h1 rfl).1
      have c5 := (cell_of_heap (j := 5) h1 rfl).1
      have c6 := (cell_of_heap (j := 6) h1 rfl).1
      have c7 := (cell_of_heap (j := 7) h1 rfl).1
      have c8 := (cell_of_heap (j := 8) h1 rfl).1
      have v2 := kept_cell L1.out OCV.out.c2
      have hA4 : Below U1.heap.size U1 (U1.alloc (.cells #[.int .i64 kd, .int .i64 r, .int .i64 ra, .int .i64 rb, .int .i64 k, .slice a1 n1 m1, .int .i64 cost, .int .i64 mt, .int .i64 ip] 42)) := Below.alloc (Below.refl _ _) (Nat.le_refl _) _
      have OX : Hid (layIr.owns (U1.alloc (.cells #[.int .i64 kd, .int .i64 r, .int .i64 ra, .int .i64 rb, .int .i64 k, .slice a1 n1 m1, .int .i64 cost, .int .i64 mt, .int .i64 ip] 42)) (fun b => U0.heap.size ≤ b) [.int .i64 kd, .int .i64 r, .int .i64 ra, .int .i64 rb, .int .i64 k, .slice a1 n1 m1, .int .i64 cost, .int .i64 mt, .int .i64 ip] (kd, r, ra, rb, k, args, cost, mt, ip)) := hid (ir_owns ((O1.out.frm (w' := U1) (fun b hb _ => S1.out.2.2 b (by have := HU0.out; omega))).kept hA4))
      have L4 := hid (kt L1.out hA4)
      obtain ⟨t, F, sn⟩ := HO.out.snocIn
      have SN := hid sn
      have HQ : Hid ((cl.take q).length = q) := hid (by rw [List.length_take]; have := LC.out; omega)
      have HRW : Hid (V.ownsRow 0 42 9 (.slice va vn vc) q t.flatten) := hid (by have := sn.row; rwa [HQ.out] at this)
      clear hA4 sn h0 h1
      go_wp2_with (at_builtin; refine wpList_append_lies _ rfl _ _ 25 rfl 0 42 i0 (.agg #[.int .i64 0, .int .i64 0, .int .i64 0, .int .i64 0, .int .i64 0, .slice none 0 0, .int .i64 0, .int .i64 0, .int .i64 0]) 9 88 Tryz.underlying25 hi hz0 hz1 hz2 rfl (by decide) (.slice va vn vc) q t.flatten rfl (owns_kept HRW.out L4.out) ⟨U1.heap.size, 0, none⟩ 1 1 [.int .i64 kd, .int .i64 r, .int .i64 ra, .int .i64 rb, .int .i64 k, .slice a1 n1 m1, .int .i64 cost, .int .i64 mt, .int .i64 ip] rfl rfl (news_of rfl _ 42) (by intro u hu; simp at hu; rcases hu with rfl | rfl | rfl | rfl | rfl | rfl | rfl | rfl | rfl <;> rfl) (by decide) (by unfold maxLen; omega) (by omega) (Nat.zero_le _) (U1.heap.size + 1) (by simp) ?_; intro g cap w6 ho6 hg6 hat hlt6; have P := hid (And.intro (OutC.grown OCV.out SN.out hg6 L4.out (by omega)) (SN.out.snoc (bytes := 88) HQ.out (by omega) ho6 hg6 (by simpa using hat) L4.out OX.out (fun b hb => by have := HU0.out; omega))); have PB := hid (below_grown (rb := w.heap.size + 2) hg6 L4.out (fun k hk => (SN.out.own k hk).1.1) (by omega)); obtain ⟨d2, df2⟩ := And.intro P.out.1.c2 P.out.1.f2; clear ho6 hg6 hat hlt6)
      go_roundw
      case rel =>
        refine ⟨q + 1, _, _, _, by omega, by go_num, P.out.1.set2, ?_, (HB.out.trans PB.out).setCell (by simp) _⟩
        rw [List.take_add_one, HX.out]
        exact (P.out.2.sub (fun b hb _ => by rcases hb with hb | hb; exact hb; show w.heap.size + 2 < b; omega)).set _ _ (by simp)
      case measure => simp [intOf]; omega
    · have hqn : q = cn := by omega
      subst hqn
      have OCD : Hid (OSl layIr 42 88 V (fun b => w.heap.size + 2 < b ∧ b < V.heap.size) (.slice va vn vc) cl) := hid (by
        have o := HO.out
        rw [List.take_of_length_le (by have := LC.out; omega)] at o
        exact o.clip)
      clear HO hb r2 hlt hq
      have r2 := RV.out.1
      go_wp2_with fail
      clear r2
      go_loopw [6] (fun i wr => ∃ (j : Nat) (xa : Option Addr) (xn xc : Nat), j ≤ mn ∧ i = .int .i64 j ∧ OutC wr (w.heap.size + 1 + 1) cf rg (.slice va vn vc) (.slice xa xn xc) ∧ OSl layMeta 47 24 wr (fun b => V.heap.size ≤ b) (.slice xa xn xc) (ml.take j) ∧ Frm (fun b => b = w.heap.size + 2) V wr) (fun i _ => mn - (intOf i).toNat)
      case atStart => exact ⟨0, none, 0, 0, Nat.zero_le _, rfl, OCV.out, OSl.nil _ _ _ _ _, Frm.refl _ _⟩
      case round =>
        obtain ⟨j, xa, xn, xc, hj', rfl, oc, om, fr⟩ := hrel
        obtain ⟨X, hX⟩ : ∃ X : World, X = wr := ⟨_, rfl⟩
        subst hX
        have OM := hid om
        have FR := hid fr
        have OCX := hid oc
        have hsx : V.heap.size ≤ X.heap.size := fr.size
        have BWX : Hid (Below w.heap.size w X) := hid (BW.out.trans (fr.below (by omega) (fun k hk => by omega)))
        have r3 : X.cell? ⟨w.heap.size, 3, none⟩ = some (.slice ma mn mc) := fr.cell RV.out.2 (by omega)
        have R3X := hid r3
        clear om fr oc
        by_cases hlt : j < mn
        · obtain ⟨bm, omm, ta, tn, tc, tl, rfl, hx, e0, htl⟩ := meta_at (HM.out.kept BWX.out) j hlt
          rw [Nat.mul_one] at e0
          have HX := hid hx
          have HTL := hid htl
          have LT := hid htl.len
          have htr := htl.room
          have htc := htl.cap
          have E0 := hid e0
          obtain ⟨X0, hX0⟩ : ∃ U : World, U = X.alloc (.cells #[.slice none 0 0] 47) := ⟨_, rfl⟩
          have L0 : Hid (Below X.heap.size X X0) := hid (by rw [hX0]; exact Below.alloc (Below.refl _ _) (Nat.le_refl _) _)
          have HX0 : Hid (X0.heap.size = X.heap.size + 1) := hid (by rw [hX0]; simp)
          have M0 : Hid (X0.cell? ⟨X.heap.size, 0, none⟩ = some (.slice none 0 0) ∧ X0.frozen? ⟨X.heap.size, 0, none⟩ = false) := hid (by rw [hX0]; exact ⟨by simp [go_sem], by simp [go_sem]⟩)
          have EX0 := hid hX0
          clear hx htl hX0
          go_upto_region 12 with fail
          refine wp_world (U := X0) (by rw [EX0.out]) ?_
          clear r3 e0
          go_wp2_with fail
          go_loopw [8] (fun i wr => ∃ (l : Nat) (ya : Option Addr) (yn yc : Nat), l ≤ tn ∧ i = .int .i64 l ∧ wr.cell? ⟨X.heap.size, 0, none⟩ = some (.slice ya yn yc) ∧ wr.frozen? ⟨X.heap.size, 0, none⟩ = false ∧ OSl layPart 44 64 wr (fun b => X.heap.size < b) (.slice ya yn yc) (tl.take l) ∧ Below X.heap.size X wr) (fun i _ => tn - (intOf i).toNat)
          case atStart => exact ⟨0, none, 0, 0, Nat.zero_le _, rfl, M0.out.1, M0.out.2, OSl.nil _ _ _ _ _, L0.out⟩
          case round =>
            clear M0 EX0 L0
            obtain ⟨l, ya, yn, yc, hl', rfl, y0, yf, oy, by0⟩ := hrel
            obtain ⟨Y, hY⟩ : ∃ Y : World, Y = wr := ⟨_, rfl⟩
            subst hY
            have OY := hid oy
            have BY := hid by0
            have YC := hid (And.intro y0 yf)
            have r3 := kept_cell by0 R3X.out
            have e0 := kept_cell by0 E0.out
            have hsy : X.heap.size + 1 ≤ Y.heap.size := by have := lt_of_cell y0; omega
            clear oy
            by_cases hlt2 : l < tn
            · obtain ⟨bp, op, f0, x0, la, ln, lc, ll, sa, sn, sc, sl, rfl, hx, t0, t1, t2, t3, hll, hsl⟩ := part_at (HTL.out.kept by0) l hlt2
              have HXP := hid hx
              obtain ⟨U0, hU0⟩ : ∃ U : World, U = Y.alloc (.cells #[.int .i64 f0, .int .i64 x0, .slice la ln lc, .slice sa sn sc] 44) := ⟨_, rfl⟩
              have L0 : Hid (Below Y.heap.size Y U0) := hid (by rw [hU0]; exact Below.alloc (Below.refl _ _) (Nat.le_refl _) _)
              have h0 : U0.heap[Y.heap.size]? = some (.cells #[.int .i64 f0, .int .i64 x0, .slice la ln lc, .slice sa sn sc] 44) := by rw [hU0]; exact heap_alloc_new _ _
              have HU0 : Hid (U0.heap.size = Y.heap.size + 1) := hid (by rw [hU0]; simp)
              have IL := hid hll
              have IS := hid hsl
              have EU := hid hU0
              clear hx hll hsl hU0 by0
              go_upto_region 16 with fail
              refine wp_world (U := U0) EU.out ?_
              clear t0 t1 t2 t3 r3 e0 y0 yf
              have x2 := (cell_of_heap (j := 2) h0 rfl).1
              go_wp2_with fail
              refine (copySrcs_any _ _ _ ll _ (IL.out.kept L0.out)).mono ?_
              rintro e w1 ⟨v1, rfl, o1, b1⟩
              obtain ⟨a1, n1, m1, rfl, _⟩ := o1.reads
              have g1 := heap_kept h0 b1
              obtain ⟨x2', z2⟩ := cell_of_heap (j := 2) g1 rfl
              have O1 := hid o1
              have B1 := hid b1
              have G1 := hid g1
              clear o1 b1 g1 x2
              go_upto_region 17 with fail
              obtain ⟨U1, hU1⟩ : ∃ U : World, U = w1.setCell ⟨Y.heap.size, 2, none⟩ (.slice a1 n1 m1) := ⟨_, rfl⟩
              refine wp_world (U := U1) (by rw [hU1]) ?_
              have h1 : U1.heap[Y.heap.size]? = some (.cells #[.int .i64 f0, .int .i64 x0, .slice a1 n1 m1, .slice sa sn sc] 44) := by rw [hU1]; exact heap_setCell_same _ _ 2 _ _ _ G1.out
              have L1 : Hid (Below Y.heap.size Y U1) := hid (by rw [hU1]; exact (kt L0.out B1.out).setCell (Nat.le_refl _) _)
              have S1 : Hid (U1.heap.size = w1.heap.size ∧ U0.heap.size ≤ w1.heap.size ∧ ∀ b, b ≠ Y.heap.size → U1.heap[b]? = w1.heap[b]?) := hid ⟨by rw [hU1]; simp, B1.out.size, fun b hb => by rw [hU1]; exact Below.heap_setCell _ _ _ b hb⟩
              clear hU1 x2' z2
              have x3 := (cell_of_heap (j := 3) h1 rfl).1
              go_wp2_with fail
              refine (copySrcs_any _ _ _ sl _ (IS.out.kept L1.out)).mono ?_
              rintro e w2 ⟨v2, rfl, o2, b2⟩
              obtain ⟨a2, n2, m2, rfl, _⟩ := o2.reads
              have g2 := heap_kept h1 b2
              obtain ⟨x3', z3⟩ := cell_of_heap (j := 3) g2 rfl
              have O2 := hid o2
              have B2 := hid b2
              have G2 := hid g2
              clear o2 b2 g2 x3
              go_upto_region 18 with fail
              obtain ⟨U2, hU2⟩ : ∃ U : World, U = w2.setCell ⟨Y.heap.size, 3, none⟩ (.slice a2 n2 m2) := ⟨_, rfl⟩
              refine wp_world (U := U2) (by rw [hU2]) ?_
              have h2 : U2.heap[Y.heap.size]? = some (.cells #[.int .i64 f0, .int .i64 x0, .slice a1 n1 m1, .slice a2 n2 m2] 44) := by rw [hU2]; exact heap_setCell_same _ _ 3 _ _ _ G2.out
              have L2 : Hid (Below Y.heap.size Y U2) := hid (by rw [hU2]; exact (kt L1.out B2.out).setCell (Nat.le_refl _) _)
              have S2 : Hid (U2.heap.size = w2.heap.size ∧ U1.heap.size ≤ w2.heap.size ∧ ∀ b, b ≠ Y.heap.size → U2.heap[b]? = w2.heap[b]?) := hid ⟨by rw [hU2]; simp, B2.out.size, fun b hb => by rw [hU2]; exact Below.heap_setCell _ _ _ b hb⟩
              clear hU2 x3' z3
              have c0 := (cell_of_heap (j := 0) h2 rfl).1
              have c1 := (cell_of_heap (j := 1) h2 rfl).1
              have c2 := (cell_of_heap (j := 2) h2 rfl).1
              have c3 := (cell_of_heap (j := 3) h2 rfl).1
              have y0 := kept_cell L2.out YC.out.1
              have hA4 : Below U2.heap.size U2 (U2.alloc (.cells #[.int .i64 f0, .int .i64 x0, .slice a1 n1 m1, .slice a2 n2 m2] 44)) := Below.alloc (Below.refl _ _) (Nat.le_refl _) _
              have OX : Hid (layPart.owns (U2.alloc (.cells #[.int .i64 f0, .int .i64 x0, .slice a1 n1 m1, .slice a2 n2 m2] 44)) (fun b => (U0.heap.size ≤ b ∧ b < w1.heap.size) ∨ U1.heap.size ≤ b) [.int .i64 f0, .int .i64 x0, .slice a1 n1 m1, .slice a2 n2 m2] (f0, x0, ll, sl)) := hid (by
                have hu := HU0.out
                have s1 := S1.out
                have s2 := S2.out
                have o1 := (O1.out.frm (w' := U1) (fun b hb _ => s1.2.2 b (by omega))).sub (B' := fun b => U0.heap.size ≤ b ∧ b < w1.heap.size) (fun b hb hl => ⟨hb, by omega⟩)
                have o1' := (o1.kept B2.out).frm (w' := U2) (fun b hb _ => s2.2.2 b (by omega))
                have o2 := O2.out.frm (w' := U2) (fun b hb _ => s2.2.2 b (by omega))
                exact part_owns (o1'.kept hA4) (o2.kept hA4) (fun b h k => by omega))
              have L4 := hid (kt L2.out hA4)
              obtain ⟨t, F, sn'⟩ := OY.out.snocIn
              have SN := hid sn'
              have HQ : Hid ((tl.take l).length = l) := hid (by rw [List.length_take]; have := LT.out; omega)
              have HRW : Hid (Y.ownsRow 0 44 4 (.slice ya yn yc) l t.flatten) := hid (by have := sn'.row; rwa [HQ.out] at this)
              clear hA4 sn' h0 h1 h2
              go_wp2_with (at_builtin; refine wpList_append_lies _ rfl _ _ 45 rfl 0 44 p0 (.agg #[.int .i64 0, .int .i64 0, .slice none 0 0, .slice none 0 0]) 4 64 Tryz.underlying45 hp pz0 pz1 pz2 rfl (by decide) (.slice ya yn yc) l t.flatten rfl (owns_kept HRW.out L4.out) ⟨U2.heap.size, 0, none⟩ 1 1 [.int .i64 f0, .int .i64 x0, .slice a1 n1 m1, .slice a2 n2 m2] rfl rfl (news_of rfl _ 44) (by intro u hu; simp at hu; rcases hu with rfl | rfl | rfl | rfl <;> rfl) (by decide) (by unfold maxLen; omega) (by omega) (Nat.zero_le _) (U2.heap.size + 1) (by simp) ?_; intro g cap w6 ho6 hg6 hat hlt6; have P := hid (And.intro (SN.out.cell hg6 L4.out (by omega) YC.out.1) (And.intro (SN.out.free hg6 L4.out (by omega) YC.out.1 YC.out.2) (SN.out.snoc (bytes := 64) HQ.out (by omega) ho6 hg6 (by simpa using hat) L4.out OX.out (fun b hb => by have := HU0.out; have := S1.out; omega)))); have PB := hid (below_grown (rb := X.heap.size) hg6 L4.out (fun k hk => (SN.out.own k hk).1.1) (by omega)); obtain ⟨d2, df2⟩ := And.intro P.out.1 P.out.2.1; clear ho6 hg6 hat hlt6)
              go_roundw
              case rel =>
                refine ⟨l + 1, _, _, _, by omega, by go_num, World.cell?_setCell_same _ _ _ P.out.1, by simp [P.out.2.1], ?_, (BY.out.trans PB.out).setCell (by simp) _⟩
                rw [List.take_add_one, HXP.out]
                exact (P.out.2.2.sub (fun b hb _ => by rcases hb with hb | hb; exact hb; show X.heap.size < b; omega)).set _ _ (by simp)
              case measure => simp [intOf]; omega
            · have hln : l = tn := by omega
              subst hln
              have OYD : Hid (OSl layPart 44 64 Y (fun b => X.heap.size < b) (.slice ya yn yc) tl) := hid (by
                have o := OY.out
                rwa [List.take_of_length_le (by have := LT.out; omega)] at o)
              have OCY := hid (OCX.out.kept by0)
              have v3 := OCY.out.c3
              have hA4 : Below Y.heap.size Y (Y.alloc (.cells #[.slice ya yn yc] 47)) := Below.alloc (Below.refl _ _) (Nat.le_refl _) _
              have L4 := hid (kt by0 hA4)
              have OXM : Hid (layMeta.owns (Y.alloc (.cells #[.slice ya yn yc] 47)) (fun b => X.heap.size < b) [.slice ya yn yc] tl) := hid (meta_owns (OYD.out.kept hA4))
              obtain ⟨t, F, sn'⟩ := OM.out.snocIn
              have SN := hid sn'
              have HQ : Hid ((ml.take j).length = j) := hid (by rw [List.length_take]; have := LM.out; omega)
              have HRW : Hid (X.ownsRow 0 47 1 (.slice xa xn xc) j t.flatten) := hid (by have := sn'.row; rwa [HQ.out] at this)
              clear hA4 sn' by0
              go_wp2_with (at_builtin; refine wpList_append_lies _ rfl _ _ 26 rfl 0 47 m0 (.agg #[.slice none 0 0]) 1 24 Tryz.underlying26 hm mz0 mz1 mz2 rfl (by decide) (.slice xa xn xc) j t.flatten rfl (owns_kept HRW.out L4.out) ⟨Y.heap.size, 0, none⟩ 1 1 [.slice ya yn yc] rfl rfl (news_of rfl _ 47) (by intro u hu; simp at hu; rcases hu with rfl <;> rfl) (by decide) (by unfold maxLen; omega) (by omega) (Nat.zero_le _) (Y.heap.size + 1) (by simp) ?_; intro g cap w6 ho6 hg6 hat hlt6; have P := hid (And.intro (OutC.grown OCX.out SN.out hg6 L4.out (by omega)) (And.intro (SN.out.snoc (bytes := 24) HQ.out (by omega) ho6 hg6 (by simpa using hat) L4.out OXM.out (fun b hb => by omega)) (Frm.mk (S := fun b => b = w.heap.size + 2) (w := V) (w' := w6) (by rw [hg6.os, L4.out.os, FR.out.os]) (by rw [hg6.tape, L4.out.tape, FR.out.tape]) (by rw [hg6.output, L4.out.output, FR.out.output]) (by have := hg6.size; have := L4.out.size; omega) (fun k hk hn => (SN.out.frm hg6 L4.out (by omega) (by omega)).trans (FR.out.block k hk hn))))); obtain ⟨d3, df3⟩ := And.intro P.out.1.c3 P.out.1.f3; clear ho6 hg6 hat hlt6)
              go_roundw
              case rel =>
                refine ⟨j + 1, _, _, _, by omega, by go_num, P.out.1.set3, ?_, P.out.2.2.trans (Frm.set (S := fun b => b = w.heap.size + 2) _ rfl) (fun _ _ h => h)⟩
                rw [List.take_add_one, HX.out]
                exact (P.out.2.1.sub (fun b hb _ => by rcases hb with hb | hb; exact hb; show V.heap.size ≤ b; omega)).set _ _ (by simp; omega)
              case measure => simp [intOf]; omega
        · have hjn : j = mn := by omega
          subst hjn
          have OMD : Hid (OSl layMeta 47 24 X (fun b => V.heap.size ≤ b) (.slice xa xn xc) ml) := hid (by
            have o := OM.out
            rwa [List.take_of_length_le (by have := LM.out; omega)] at o)
          have OCDX : Hid (OSl layIr 42 88 X (fun b => w.heap.size + 2 < b ∧ b < V.heap.size) (.slice va vn vc) cl) := hid (OCD.out.frm (fun b hb hlt => FR.out.block b hlt (by omega)))
          obtain ⟨c0, c1, c2, c3, f2, f3⟩ := OCX.out
          have hq3 : ∀ j u, w3.cell? ⟨w.heap.size + 1, j, none⟩ = some u → X.cell? ⟨w.heap.size + 1, j, none⟩ = some u := fun j u h => FR.out.cell ((HB.out.cell (p := ⟨w.heap.size + 1, j, none⟩) (by show w.heap.size + 1 < w.heap.size + 2; omega)).trans h) (by omega)
          have q0 := hq3 0 _ Q3.out.1.1
          have q1 := hq3 1 _ Q3.out.1.2.1
          have q2 := hq3 2 _ Q3.out.1.2.2.1
          have q3 := hq3 3 _ Q3.out.1.2.2.2
          have qf : ∀ j, X.frozen? ⟨w.heap.size + 1, j, none⟩ = false := fun j => by
            have h1 := (HB.out.frozen (p := ⟨w.heap.size + 1, j, none⟩) (by show w.heap.size + 1 < w.heap.size + 2; omega)).trans (Q3.out.2 j)
            have h2 := kept_cell (Below.refl V.heap.size V) ((HB.out.cell (p := ⟨w.heap.size + 1, 0, none⟩) (by show w.heap.size + 1 < w.heap.size + 2; omega)).trans Q3.out.1.1)
            have h3 := FR.out.block (w.heap.size + 1) (by omega) (by omega)
            simpa [World.frozen?, h3] using h1
          have BWX2 := hid BWX.out
          clear hq3 f2 f3
          go_wp2_with fail
          refine bodyPost_ret (v := .agg #[.int .i64 cf, .int .i64 rg, .slice va vn vc, .slice xa xn xc]) (by simp [results, Tryz.results6, go_sem, q0, q1, q2, q3]) rfl ⟨_, _, V.heap.size, rfl, ?_, ?_, ?_⟩
          · refine OSl.sub (B := fun b => w.heap.size + 2 < b ∧ b < V.heap.size) ?_ (fun b hb _ => ⟨by omega, hb.2⟩)
            repeat (first | exact OCDX.out | refine OSl.set ?_ _ _ (by show ¬ (w.heap.size + 2 < w.heap.size + 1 ∧ w.heap.size + 1 < V.heap.size); omega))
          · refine OSl.sub (B := fun b => V.heap.size ≤ b) ?_ (fun b hb _ => ⟨by omega, hb⟩)
            repeat (first | exact OMD.out | refine OSl.set ?_ _ _ (by show ¬ (V.heap.size ≤ w.heap.size + 1); omega))
          · repeat (first | exact BWX2.out | refine Below.setCell ?_ (by simp) _)

end Go.Proofs.YtfnfbebkeoilfaaGreatDoor
