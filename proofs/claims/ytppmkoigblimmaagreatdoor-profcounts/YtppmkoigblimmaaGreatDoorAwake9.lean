/- The opening question of the statements over profiles (awake) is answered yes; what two and small return. -/
import Derived.Test.YtppmkoigblimmaaGreatDoorTwo
import Derived.Test.YtppmkoigblimmaaGreatDoorJ9c
import Derived.Deep.RegionHeld3
import Derived.Deep.DrawnRows
import Derived.Laws.StructEq
namespace Go.Proofs.YtppmkoigblimmaaGreatDoor
open Go.RowKit
set_option linter.unusedVariables false
attribute [local go_sem ↓] Go.wp_at_zero Go.wp_at_succ

set_option maxRecDepth 100000 in
set_option maxHeartbeats 2000000 in
theorem two9_any (w : World) : Calls Tryz.prog 38 #[] w fun e w' => ∃ v vn vc, e = .returned (.agg #[.slice v vn vc]) ∧ Fns w' v vn vc twoL ∧ Below w.heap.size w w' := by
  have W : Hid (∃ u : World, u = allocs w [.cells #[.slice (some ⟨w.heap.size + 1 + 1 + 1, 0, none⟩) 2 2] 24, .cells (flat2 oneC).toArray 56, .cells (flat2 addC).toArray 56, .cells #[.int .i64 1, .int .i64 1, .slice (some ⟨w.heap.size + 1, 0, none⟩) 6 6, .int .i64 2, .int .i64 2, .slice (some ⟨w.heap.size + 1 + 1, 0, none⟩) 4 4] 48]) := hid ⟨_, rfl⟩
  obtain ⟨u, hu⟩ := W.out
  have B : Hid (Below w.heap.size w u) := hid (by rw [hu]; exact allocs_below _ _)
  have F : Hid (Fns u (some ⟨w.heap.size + 1 + 1 + 1, 0, none⟩) 2 2 twoL) := hid (by
    rw [hu]
    exact fns_two (a := some ⟨w.heap.size + 1, 0, none⟩) (n := 6) (c := 6) (a' := some ⟨w.heap.size + 2, 0, none⟩) (n' := 4) (c' := 4) (allocs_inss w _ 1 oneC 56 rfl (by decide)) (allocs_inss w _ 2 addC 56 rfl (by decide))
      (allocs_cell w _ 3 _ 48 rfl 0 _ rfl) (allocs_cell w _ 3 _ 48 rfl 1 _ rfl) (allocs_cell w _ 3 _ 48 rfl 2 _ rfl) (allocs_cell w _ 3 _ 48 rfl 3 _ rfl) (allocs_cell w _ 3 _ 48 rfl 4 _ rfl) (allocs_cell w _ 3 _ 48 rfl 5 _ rfl))
  have P0 : Hid (u.cell? ⟨w.heap.size, 0, none⟩ = some (.slice (some ⟨w.heap.size + 1 + 1 + 1, 0, none⟩) 2 2)) := hid (by rw [hu]; exact allocs_cell w _ 0 _ 24 rfl 0 _ rfl)
  have E := hid hu
  clear hu W
  go_enter Tryz.func38, Tryz.ntmps38
  go_wp2_with fail
  refine bodyPost_ret (v := .agg #[.slice (some ⟨w.heap.size + 1 + 1 + 1, 0, none⟩) 2 2]) (by simp [results, Tryz.results38, go_sem]) rfl ⟨_, _, _, rfl, ?_, ?_⟩
  · have h := F.out
    rw [E.out] at h
    exact h
  · have h := B.out
    rw [E.out] at h
    exact h


def fpZ (c a : Nat) : Fp := (0, List.replicate c 0, List.replicate c 0, List.replicate a noAp)
def pr0 : List Fp := [fpZ 6 1, fpZ 4 2]
def pr1 : List Fp := [fpZ 6 1, (1, [0, 0, 0, 0], [0, 0, 0, 0], [(4, 1, 0), (5, 1, 0)])]
def pr2 : List Fp := [fpZ 6 1, (2, [0, 0, 0, 0], [0, 0, 0, 0], [(4, 2, 0), (5, 1, 1)])]
theorem two_new : newP twoL = pr0 ∧ newE twoL = 0 := ⟨by kernel_rfl, by kernel_rfl⟩
theorem two_c1 : calledP twoL pr0 1 [4, 5] = pr1 ∧ calledE twoL pr0 1 [4, 5] = 0 := ⟨by kernel_rfl, by kernel_rfl⟩
theorem two_c2 : calledP twoL pr1 1 [4, 6] = pr2 ∧ calledE twoL pr1 1 [4, 6] = 0 := ⟨by kernel_rfl, by kernel_rfl⟩
theorem two_b : branchP twoL pr0 0 0 true = [] ∧ branchE twoL pr0 0 0 = 900 := by decide +kernel
theorem two_n : newP [] = [] ∧ newE [] = 900 := by decide +kernel
theorem two_m : profB twoL pr2 = true ∧ profB twoL [] = false := by decide +kernel
theorem fns_none (w : World) : Fns w none 0 0 [] := ⟨rfl, Nat.le_refl _, by omega, fun _ => ⟨rfl, rfl⟩, fun h => absurd h (by omega)⟩

set_option maxRecDepth 100000 in
set_option maxHeartbeats 16000000 in
theorem awake9_any (w : World) (ld : Ld w) : Calls Tryz.prog 19 #[] w fun e w' => e = .returned (.bool true) ∧ Below w.heap.size w w' := by
  have LD := hid ld
  clear ld
  go_enter Tryz.func19, Tryz.ntmps19
  go_wp2_with fail
  refine (two9_any _).mono ?_
  rintro e w1 ⟨pv, pn, pc, rfl, hp, b1⟩
  have HP := hid hp
  have B1 := hid b1
  clear hp b1
  go_upto_region 2 with fail
  refine wp_name ?_
  intro U1 hU1
  have A1 : Hid (Below w1.heap.size w1 U1) := hid (by rw [hU1]; exact Below.alloc (Below.refl _ _) (Nat.le_refl _) _)
  have BU1 := hid (kt B1.out A1.out)
  have p1 : U1.cell? ⟨w1.heap.size, 0, none⟩ = some (.slice pv pn pc) := by rw [hU1]; simp [go_sem]
  have P1 := hid p1
  have HP1 := hid (HP.out.kept A1.out)
  clear hU1
  go_wp2_with fail
  refine (prNew_any _ _ _ twoL _ HP1.out (LD.out.up BU1.out)).mono ?_
  rintro e w2 ⟨rv, rfl, o2, b2⟩
  rw [two_new.2]
  rw [two_new.1] at o2
  obtain ⟨ra, rn, rc, rfl, r2⟩ := o2.reads
  have B2 := hid b2
  have R2 := hid r2
  clear b2 r2 o2 p1
  go_upto_region 3 with fail
  refine wp_name ?_
  intro U2 hU2
  have A2 : Hid (Below w2.heap.size w2 U2) := hid (by rw [hU2]; exact Below.alloc (Below.refl _ _) (Nat.le_refl _) _)
  have C2 : Hid (Below U1.heap.size U1 U2) := hid (kt B2.out A2.out)
  have q2 : U2.cell? ⟨w2.heap.size, 0, none⟩ = some (.slice ra rn rc) := by rw [hU2]; simp [go_sem]
  have p2 := kept_cell C2.out P1.out
  have Q2 := hid q2
  clear hU2
  go_wp2_with fail
  have E3 : Hid (Below U2.heap.size U2 (U2.alloc (.cells #[.int .i64 4, .int .i64 5] 3))) := hid (Below.alloc (Below.refl _ _) (Nat.le_refl _) _)
  refine (prCalled_any _ _ _ twoL _ _ _ pr0 1 _ _ _ [4, 5] _ (HP1.out.kept (kt C2.out E3.out)) (R2.out.kept (kt A2.out E3.out)) (ints_new rfl rfl rfl (by decide)) (LD.out.up (kt BU1.out (kt C2.out E3.out)))).mono ?_
  rintro e w3 ⟨av, rfl, o3, b3⟩
  rw [two_c1.2]
  rw [two_c1.1] at o3
  obtain ⟨aa, an, ac, rfl, r3⟩ := o3.reads
  have B3 : Hid (Below U2.heap.size U2 w3) := hid (kt E3.out b3)
  have R3 := hid r3
  clear b3 r3 o3 p2 q2
  go_upto_region 4 with fail
  refine wp_name ?_
  intro U3 hU3
  have A3 : Hid (Below w3.heap.size w3 U3) := hid (by rw [hU3]; exact Below.alloc (Below.refl _ _) (Nat.le_refl _) _)
  have C3 : Hid (Below U2.heap.size U2 U3) := hid (kt B3.out A3.out)
  have q3 : U3.cell? ⟨w3.heap.size, 0, none⟩ = some (.slice aa an ac) := by rw [hU3]; simp [go_sem]
  have p3 := kept_cell (kt C2.out C3.out) P1.out
  clear hU3
  go_wp2_with fail
  have E4 : Hid (Below U3.heap.size U3 (U3.alloc (.cells #[.int .i64 4, .int .i64 6] 3))) := hid (Below.alloc (Below.refl _ _) (Nat.le_refl _) _)
  refine (prCalled_any _ _ _ twoL _ _ _ pr1 1 _ _ _ [4, 6] _ (HP1.out.kept (kt (kt C2.out C3.out) E4.out)) (R3.out.kept (kt A3.out E4.out)) (ints_new rfl rfl rfl (by decide)) (LD.out.up (kt BU1.out (kt (kt C2.out C3.out) E4.out)))).mono ?_
  rintro e w4 ⟨bv, rfl, o4, b4⟩
  rw [two_c2.2]
  rw [two_c2.1] at o4
  obtain ⟨ba, bn, bc, rfl, r4⟩ := o4.reads
  have B4 : Hid (Below U3.heap.size U3 w4) := hid (kt E4.out b4)
  have R4 := hid r4
  clear b4 r4 o4 p3 q3
  go_upto_region 5 with fail
  refine wp_name ?_
  intro U4 hU4
  have A4 : Hid (Below w4.heap.size w4 U4) := hid (by rw [hU4]; exact Below.alloc (Below.refl _ _) (Nat.le_refl _) _)
  have C4 : Hid (Below U3.heap.size U3 U4) := hid (kt B4.out A4.out)
  have q4 : U4.cell? ⟨w4.heap.size, 0, none⟩ = some (.slice ba bn bc) := by rw [hU4]; simp [go_sem]
  have Q4 := hid q4
  have CC4 : Hid (Below U1.heap.size U1 U4) := hid (kt (kt C2.out C3.out) C4.out)
  have p4 := kept_cell CC4.out P1.out
  have q42 := kept_cell (kt C3.out C4.out) Q2.out
  clear hU4 q4
  go_wp2_with fail
  refine (prBranched_any _ _ _ twoL _ _ _ pr0 0 0 true _ (HP1.out.kept CC4.out) (R2.out.kept (kt A2.out (kt C3.out C4.out))) (LD.out.up (kt BU1.out CC4.out))).mono ?_
  rintro e w5 ⟨cv, rfl, o5, b5⟩
  rw [two_b.2]
  obtain ⟨ca, cn, cc, rfl, r5⟩ := o5.reads
  have B5 := hid b5
  clear b5 r5 o5 p4 q42
  go_upto_region 6 with fail
  refine wp_name ?_
  intro U5 hU5
  have A5 : Hid (Below U4.heap.size U4 U5) := hid (by rw [hU5]; exact kt B5.out (Below.alloc (Below.refl _ _) (Nat.le_refl _) _))
  clear hU5
  go_wp2_with fail
  refine (prNew_any _ _ _ [] _ (fns_none _) (LD.out.up (kt BU1.out (kt CC4.out A5.out)))).mono ?_
  rintro e w6 ⟨dv, rfl, o6, b6⟩
  rw [two_n.2]
  obtain ⟨da, dn, dc, rfl, r6⟩ := o6.reads
  have B6 := hid b6
  clear b6 r6 o6
  go_upto_region 7 with fail
  refine wp_name ?_
  intro U6 hU6
  have A6 : Hid (Below U5.heap.size U5 U6) := hid (by rw [hU6]; exact kt B6.out (Below.alloc (Below.refl _ _) (Nat.le_refl _) _))
  have CC6 : Hid (Below U1.heap.size U1 U6) := hid (kt CC4.out (kt A5.out A6.out))
  clear hU6
  have p6 := kept_cell CC6.out P1.out
  have q6 := kept_cell (kt A5.out A6.out) Q4.out
  have R6 := hid (R4.out.kept (kt A4.out (kt A5.out A6.out)))
  obtain rfl : bn = 2 := R6.out.len
  obtain ⟨g, o, x, ja, jn, jc, jl, fa, fn, fc, fl, xa, xn, xc, al, rfl, hx, e0, e1, e2, e3, i1, i2, i3⟩ := fp_at R6.out 1 (by decide)
  cases hx
  obtain rfl : xn = 2 := i3.len
  obtain ⟨g1, o1, x1, y1, z1, ha1, hx1, k0, k1, k2⟩ := ap_at i3 0 (by decide)
  cases hx1
  subst ha1
  simp only [Nat.zero_mul, Nat.add_zero] at k0 k1 k2
  obtain ⟨g2, o2, x2, y2, z2, ha2, hx2, m0, m1, m2⟩ := ap_at i3 1 (by decide)
  cases hx2
  cases ha2
  have hbc := R6.out.cap
  have hxc := i3.cap
  have hst : Tryz.prog.stoodInHeld 53 = false := by kernel_rfl
  have hgt : Tryz.prog.eqGuardType Tryz.prog.depth 53 = false := by kernel_rfl
  clear i1 i2 i3
  go_wp2_with (first | (go_at_call 15; refine (num_any _ _).mono ?_; rintro e w' ⟨rfl, hw⟩; rw [hw]; clear hw))
  refine (prMay_any _ _ _ twoL _ _ _ pr2 _ (HP1.out.kept CC6.out) R6.out (LD.out.up (kt BU1.out CC6.out))).mono ?_
  rintro e w7 ⟨rfl, b7⟩
  rw [two_m.1]
  have p7 := kept_cell b7 p6
  have B7 := hid (kt CC6.out b7)
  clear b7
  go_wp2_with fail
  refine (prMay_any _ _ _ twoL _ _ _ [] _ (HP1.out.kept B7.out) (Sl.nil _ _ _) (LD.out.up (kt BU1.out B7.out))).mono ?_
  rintro e w8 ⟨rfl, b8⟩
  rw [two_m.2]
  have B8 := hid (kt BU1.out (kt B7.out b8))
  clear b8
  go_wp2_with fail
  go_ret
  exact ⟨rfl, B8.out⟩

end Go.Proofs.YtppmkoigblimmaaGreatDoor
