/- The opening question of the statements over package lower (awake) is answered yes; what two returns. SpoilCode: code of the call's own is written over. Written by spoilcodegen.py. -/
import Derived.Test.YtaimpljkbpnigaaGreatDoorJ11e
import Derived.Test.YtaimpljkbpnigaaGreatDoorJ11b
import Derived.Test.YtaimpljkbpnigaaGreatDoorJ10d
import Derived.Deep.DeepCutAuto
import Derived.Test.YtaimpljkbpnigaaGreatDoorMemIr
import Derived.Test.YtaimpljkbpnigaaGreatDoorJ6a
import Derived.Test.YtaimpljkbpnigaaGreatDoorJ6b
import Derived.Test.YtaimpljkbpnigaaGreatDoorJ9b
namespace Go.Proofs.YtaimpljkbpnigaaGreatDoor
open Go.RowKit
set_option linter.unusedVariables false

set_option maxRecDepth 100000 in
set_option maxHeartbeats 2000000 in
theorem two11_any (w : World) : Calls Tryz.prog 33 #[] w fun e w' => ∃ v vn vc, e = .returned (.agg #[.slice v vn vc]) ∧ Fns w' v vn vc twoL ∧ Below w.heap.size w w' := by
  have W : Hid (∃ u : World, u = allocs w [.cells #[.slice (some ⟨w.heap.size + 1 + 1 + 1, 0, none⟩) 2 2] 24, .cells (flat2 oneC).toArray 47, .cells (flat2 addC).toArray 47, .cells #[.int .i64 1, .int .i64 1, .slice (some ⟨w.heap.size + 1, 0, none⟩) 6 6, .int .i64 2, .int .i64 2, .slice (some ⟨w.heap.size + 1 + 1, 0, none⟩) 4 4] 51]) := hid ⟨_, rfl⟩
  obtain ⟨u, hu⟩ := W.out
  have B : Hid (Below w.heap.size w u) := hid (by rw [hu]; exact allocs_below _ _)
  have F : Hid (Fns u (some ⟨w.heap.size + 1 + 1 + 1, 0, none⟩) 2 2 twoL) := hid (by
    rw [hu]
    exact fns_two (a := some ⟨w.heap.size + 1, 0, none⟩) (n := 6) (c := 6) (a' := some ⟨w.heap.size + 2, 0, none⟩) (n' := 4) (c' := 4) (allocs_inss w _ 1 oneC 47 rfl (by decide)) (allocs_inss w _ 2 addC 47 rfl (by decide))
      (allocs_cell w _ 3 _ 51 rfl 0 _ rfl) (allocs_cell w _ 3 _ 51 rfl 1 _ rfl) (allocs_cell w _ 3 _ 51 rfl 2 _ rfl) (allocs_cell w _ 3 _ 51 rfl 3 _ rfl) (allocs_cell w _ 3 _ 51 rfl 4 _ rfl) (allocs_cell w _ 3 _ 51 rfl 5 _ rfl))
  have P0 : Hid (u.cell? ⟨w.heap.size, 0, none⟩ = some (.slice (some ⟨w.heap.size + 1 + 1 + 1, 0, none⟩) 2 2)) := hid (by rw [hu]; exact allocs_cell w _ 0 _ 24 rfl 0 _ rfl)
  have E := hid hu
  clear hu W
  go_enter Tryz.func33, Tryz.ntmps33
  go_wp2_with fail
  refine bodyPost_ret (v := .agg #[.slice (some ⟨w.heap.size + 1 + 1 + 1, 0, none⟩) 2 2]) (by simp [results, Tryz.results33, go_sem]) rfl ⟨_, _, _, rfl, ?_, ?_⟩
  · have h := F.out
    rw [E.out] at h
    exact h
  · have h := B.out
    rw [E.out] at h
    exact h

/-- The first function of two, one for one. -/
def oneCd : List IrT := [(2, 1, 0, 0, 0, [], 1, 0, 0), (1, 2, 0, 0, 2, [], 1, 0, 1), (6, 1, 0, 0, 1, [1, 2], 1, 0, 2), (2, 2, 1, 0, 0, [], 1, 0, 3), (7, 0, 2, 0, 0, [], 1, 0, 4), (8, 0, 1, 0, 0, [], 1, 0, 5)]
theorem two_l0 : lowerV twoL 0 = (0, 9, oneCd, []) := by kernel_rfl
theorem two_e0 : lowerE twoL 0 = 0 := by kernel_rfl
theorem two_l2 : lowerV twoL 2 = (0, 0, [], []) := by kernel_rfl
theorem two_e2 : lowerE twoL 2 = 1100 := by kernel_rfl

set_option maxRecDepth 100000 in
set_option maxHeartbeats 16000000 in
theorem awake11_any (w : World) (ld : Ld w) : Calls Tryz.prog 14 #[] w fun e w' => e = .returned (.bool true) ∧ Below w.heap.size w w' := by
  have LD := hid ld
  clear ld
  go_enter Tryz.func14, Tryz.ntmps14
  go_wp2_with fail
  refine (two11_any _).mono ?_
  rintro e w1 ⟨pv, pn, pc, rfl, hp, b1⟩
  have HP := hid hp
  have B1 := hid b1
  clear hp b1
  go_upto_region 2 with fail
  refine wp_name ?_
  intro U1 hU1
  have A1 : Hid (Below w1.heap.size w1 U1) := hid (by rw [hU1]; exact Below.alloc (Below.refl _ _) (Nat.le_refl _) _)
  have BU1 := hid (kt B1.out A1.out)
  have p1 : U1.cell? ⟨w1.heap.size, 0, none⟩ = some (.slice pv pn pc) := by rw [hU1]; simp [go_sem]
  have P1 := hid p1
  have HP1 := hid (HP.out.kept A1.out)
  clear hU1
  go_wp2_with fail
  have LO := lwrLower_any pv pn pc twoL 0 U1 HP1.out (LD.out.up BU1.out)
  rw [two_l0, two_e0] at LO
  refine LO.mono ?_
  rintro e w2 ⟨cv, cm, _, _, rfl, o2, m2, -, -, -, b2⟩
  obtain ⟨ca, cn, cc, rfl, s2⟩ := o2.reads
  obtain ⟨ma, mn, mc, rfl, sm2⟩ := m2.reads
  have hcn : cn = 6 := s2.len
  have hmn : mn = 0 := sm2.len
  subst hcn
  subst hmn
  have S2 := hid s2
  have B2 := hid b2
  replace p1 := kept_cell b2 p1
  clear s2 o2 b2 m2 sm2
  go_upto_region 3 with fail
  refine wp_name ?_
  intro U2 hU2
  have A2 : Hid (Below w2.heap.size w2 U2) := hid (by rw [hU2]; exact Below.alloc (Below.refl _ _) (Nat.le_refl _) _)
  have BU2 := hid (kt B2.out A2.out)
  have d1 : U2.cell? ⟨w2.heap.size, 1, none⟩ = some (.int .i64 9) := by rw [hU2]; simp [go_sem]
  have d2 : U2.cell? ⟨w2.heap.size, 2, none⟩ = some (.slice ca 6 cc) := by rw [hU2]; simp [go_sem]
  have d3 : U2.cell? ⟨w2.heap.size, 3, none⟩ = some (.slice ma 0 mc) := by rw [hU2]; simp [go_sem]
  replace p1 := kept_cell A2.out p1
  clear hU2
  go_wp2_with fail
  have LO2 := lwrLower_any pv pn pc twoL 2 U2 (HP1.out.kept BU2.out) (LD.out.up (kt BU1.out BU2.out))
  rw [two_l2, two_e2] at LO2
  refine LO2.mono ?_
  rintro e w3 ⟨bv, bm, _, _, rfl, o3, m3, -, -, -, b3⟩
  obtain ⟨ba, bn, bc, rfl, s3⟩ := o3.reads
  obtain ⟨na, nn, nc, rfl, sm3⟩ := m3.reads
  have B3 := hid b3
  replace d1 := kept_cell b3 d1
  replace d2 := kept_cell b3 d2
  replace d3 := kept_cell b3 d3
  clear p1 o3 m3 s3 sm3 b3
  go_upto_region 4 with fail
  refine wp_name ?_
  intro U3 hU3
  have A3 : Hid (Below w3.heap.size w3 U3) := hid (by rw [hU3]; exact Below.alloc (Below.refl _ _) (Nat.le_refl _) _)
  have C3 : Hid (Below w2.heap.size w2 U3) := hid (kt A2.out (kt B3.out A3.out))
  replace d1 := kept_cell A3.out d1
  replace d2 := kept_cell A3.out d2
  replace d3 := kept_cell A3.out d3
  have D := hid (And.intro d1 (And.intro d2 d3))
  obtain ⟨b0, o0, kd, r, ra, rb, k, xa, xn, xc, args, cost, mt, ip, rfl, hx, e0, e1, e2, e3, e4, e5, e6, e7, e8, hargs⟩ := ir_at (S2.out.kept C3.out) 2 (by omega)
  have hx' : ((6 : Int), (1 : Int), (0 : Int), (0 : Int), (1 : Int), [(1 : Int), 2], (1 : Int), (0 : Int), (2 : Int)) = (kd, r, ra, rb, k, args, cost, mt, ip) := Option.some.inj hx
  cases hx'
  have IA := hid hargs
  clear hU3 hx hargs
  go_wp2_with (first | (go_at_call 11; refine (num_any _ _).mono ?_; rintro e w' ⟨rfl, hw⟩; rw [hw]; clear hw))
  have N1 : Hid (Below U3.heap.size U3 (U3.alloc (.cells #[.int .i64 1, .int .i64 2] 3))) := hid (Below.alloc (Below.refl _ _) (Nat.le_refl _) _)
  refine (sameIr_same _ _ _ _ _ _ _ _ _ _ _ [1, 2] _ _ _ _ (IA.out.kept N1.out) (ints_new rfl rfl rfl (by decide))).mono ?_
  rintro e w4 ⟨rfl, b4⟩
  have C4 : Hid (Below U3.heap.size U3 w4) := hid (kt N1.out b4)
  clear b4 e0 e1 e2 e3 e4 e5 e6 e7 e8 d1 d2 d3
  have d2 := kept_cell C4.out D.out.2.1
  have d3 := kept_cell C4.out D.out.2.2
  obtain ⟨b0', o0', kd, r, ra, rb, k, ya, yn, yc, args, cost, mt, ip, eb, hx, e0, e1, e2, e3, e4, e5, e6, e7, e8, hargs⟩ := ir_at (S2.out.kept (kt C3.out C4.out)) 5 (by omega)
  cases eb
  have hx' : ((8 : Int), (0 : Int), (1 : Int), (0 : Int), (0 : Int), ([] : List Int), (1 : Int), (0 : Int), (5 : Int)) = (kd, r, ra, rb, k, args, cost, mt, ip) := Option.some.inj hx
  cases hx'
  have IB := hid hargs
  clear hx hargs
  go_wp2_with fail
  refine (sameIr_same _ _ _ _ _ _ _ _ _ _ _ [] _ _ _ _ IB.out (Ints.nil _)).mono ?_
  rintro e w5 ⟨rfl, b5⟩
  have d3' := kept_cell b5 d3
  have BF : Hid (Below w.heap.size w w5) := hid (kt BU1.out (kt B2.out (kt C3.out (kt C4.out b5))))
  clear b5 d2 d3 e0 e1 e2 e3 e4 e5 e6 e7 e8
  go_wp2_with fail
  go_ret
  exact ⟨rfl, BF.out⟩

end Go.Proofs.YtaimpljkbpnigaaGreatDoor

namespace Go.Proofs.YtaimpljkbpnigaaGreatDoor
open Go.RowKit
set_option linter.unusedVariables false

set_option maxRecDepth 100000 in
set_option maxHeartbeats 8000000 in
theorem spoilCode_any (cf rg : Int) (ca : Option Addr) (cn cc : Nat) (ma : Option Addr) (mn mc : Nat) (base : Nat) (w : World) (h : SSl layIr w base ca cn) (hm : SSl layMeta w base ma mn) (hn : cn * 88 ≤ 140737488351232) (hc : cn ≤ cc) (hmn : mn * 24 ≤ 140737488351232) (hmc : mn ≤ mc) (hB : base ≤ w.heap.size) :
    Calls Tryz.prog 12 #[.agg #[.int .i64 cf, .int .i64 rg, .slice ca cn cc, .slice ma mn mc]] w fun e w' => e = .returned (.tuple #[]) ∧ Like w w' ∧ Below base w w' := by
  have W1 : Hid (∃ U : World, U = w.alloc (.cells #[.int .i64 cf, .int .i64 rg, .slice ca cn cc, .slice ma mn mc] 29)) := hid ⟨_, rfl⟩
  obtain ⟨w1, hw1⟩ := W1.out
  have A1 : Hid (Below w.heap.size w w1) := hid (by rw [hw1]; exact Below.alloc (Below.refl _ _) (Nat.le_refl _) _)
  have H1 := hid (h.like (Like.of_below A1.out))
  have M1 := hid (hm.like (Like.of_below A1.out))
  have C2 : Hid (w1.cell? ⟨w.heap.size, 2, none⟩ = some (.slice ca cn cc)) := hid (by rw [hw1]; simp [go_sem])
  have C3 : Hid (w1.cell? ⟨w.heap.size, 3, none⟩ = some (.slice ma mn mc)) := hid (by rw [hw1]; simp [go_sem])
  have E1 := hid hw1
  have hs1 : base ≤ w1.heap.size := by have := A1.out.size; omega
  clear h hm hw1 W1
  go_enter Tryz.func12, Tryz.ntmps12
  go_wp2_with fail
  refine wp_world (U := w1) (by rw [E1.out]) ?_
  go_loopw [2] (fun i wr => ∃ q : Nat, q ≤ cn ∧ i = .int .i64 q ∧ Like w1 wr ∧ Below base w1 wr) (fun i _ => cn - (intOf i).toNat)
  case atStart => exact ⟨0, Nat.zero_le _, rfl, Like.refl _, Below.refl _ _⟩
  case round =>
    clear E1
    obtain ⟨q, hq, rfl, hl, hb⟩ := hrel
    have HL := hid hl
    have HB := hid hb
    have g0 := hl.slice C2.out
    have hsb := hb.size
    by_cases hlt : q < cn
    · obtain ⟨b, o, rfl, hbb, hr⟩ := (H1.out.like hl) (by omega)
      obtain ⟨-, ⟨x, hx, hf⟩, -, -, -, ⟨a1, n1, d1, k1, k2, k3, k4⟩, -⟩ := hr q hlt
      have hx' : wr.cell? ⟨b, o + q * 9 + 1, none⟩ = some (.int .i64 x) := hx
      have hf' : wr.frozen? ⟨b, o + q * 9 + 1, none⟩ = false := hf
      have k1' : wr.cell? ⟨b, o + q * 9 + 5, none⟩ = some (.slice a1 n1 d1) := k1
      have K4 := hid k4
      have X := hid (And.intro hx' hf')
      clear hr hx hf hx' hf' k1 k4 hl hb
      go_wp2_with fail
      refine (spoilIntsS_any _ _ _ base _ K4.out.softi k2 k3 (by omega)).mono ?_
      rintro e u3 ⟨rfl, l1, b1⟩
      have L3 := hid l1
      have B3 := hid b1
      have g3 := l1.slice g0
      obtain ⟨z, hz⟩ := L3.out.int X.out.1
      have hzf := (L3.out.frozen _ _ _ X.out.1).trans X.out.2
      have hq0 : (0 : Int) ≤ (q : Int) := by omega
      have hq1 : (q : Int) < (cn : Int) := by omega
      have hzs := lt_of_cell hz
      have HZ := hid hz
      clear l1 b1 g0 k1'
      go_wp2_with fail
      have GD : Hid (u3.drew.cell? ⟨w.heap.size, 2, none⟩ = some (.slice (some ⟨b, o, none⟩) cn cc) ∧ (u3.drew.cell? ⟨b, o + q * 9 + 1, none⟩ = some (.int .i64 z) ∧ u3.drew.frozen? ⟨b, o + q * 9 + 1, none⟩ = false)) := hid ⟨g3, hz, hzf⟩
      have HZ3 : Hid (∀ v : Value, (u3.setCell ⟨b, o + q * 9 + 1, none⟩ v).drew.cell? ⟨w.heap.size, 2, none⟩ = some (.slice (some ⟨b, o, none⟩) cn cc)) := hid (fun v => by
        have hne : (⟨b, o + q * 9 + 1, none⟩ : Addr) ≠ ⟨w.heap.size, 2, none⟩ := fun e => by rw [← e] at g3; rw [hz] at g3; cases g3
        show (u3.setCell ⟨b, o + q * 9 + 1, none⟩ v).cell? _ = _
        rw [World.cell?_setCell_other _ _ _ _ hne]; exact g3)
      refine wp_region_L 12 (fun w' => w'.cell? ⟨w.heap.size, 2, none⟩ = some (.slice (some ⟨b, o, none⟩) cn cc)) (fun w' => w'.cell? ⟨b, o + q * 9 + 1, none⟩ = some (.int .i64 z) ∧ w'.frozen? ⟨b, o + q * 9 + 1, none⟩ = false) (by kernel_rfl) ?_ (fun hH0 => ?_)
      · (try dsimp only); exact ⟨GD.out.1, GD.out.2⟩
      refine wpL_take (i := 0) (oi := ⟨_, _, _, _, _, _⟩) (v := ?_) rfl (by kernel_rfl) (by kernel_rfl) (by kernel_rfl) (by kernel_rfl) (by kernel_rfl) (fun _ _ _ h => h) (Or.inl ⟨by rfl, ?_⟩) (by exact hH0) ?_
      rotate_left
      · (intro x hx; (try dsimp only at hx); go_simp; try (with_reducible rfl))
      try simp only [Act.put, List.setIfInBounds_toArray, List.set_cons_zero, List.set_cons_succ]
      refine wpL_take (i := 1) (oi := ⟨_, _, _, _, _, _⟩) (v := ?_) rfl (by kernel_rfl) (by kernel_rfl) (by kernel_rfl) (by kernel_rfl) (by kernel_rfl) (fun _ _ _ h => h) (Or.inl ⟨by rfl, ?_⟩) (by exact hH0) ?_
      rotate_left
      · (intro x hx; (try dsimp only at hx); go_simp; try (with_reducible rfl))
      try simp only [Act.put, List.setIfInBounds_toArray, List.set_cons_zero, List.set_cons_succ]
      refine wpL_take (i := 2) (oi := ⟨_, _, _, _, _, _⟩) (v := ?_) rfl (by kernel_rfl) (by kernel_rfl) (by kernel_rfl) (by kernel_rfl) (by kernel_rfl) (fun _ _ _ h => h) (Or.inl ⟨by rfl, ?_⟩) (by exact hH0) ?_
      rotate_left
      · (intro x hx; (try dsimp only at hx); go_simp; try (with_reducible rfl))
      try simp only [Act.put, List.setIfInBounds_toArray, List.set_cons_zero, List.set_cons_succ]
      refine wpL_take (i := 3) (oi := ⟨_, _, _, _, _, _⟩) (v := ?_) rfl (by kernel_rfl) (by kernel_rfl) (by kernel_rfl) (by kernel_rfl) (by kernel_rfl) (fun _ _ _ h => h) (Or.inl ⟨by rfl, ?_⟩) (by exact hH0) ?_
      rotate_left
      · (intro x hx; (try dsimp only at hx); go_simp; try (with_reducible rfl))
      try simp only [Act.put, List.setIfInBounds_toArray, List.set_cons_zero, List.set_cons_succ]
      refine wpL_take (i := 4) (oi := ⟨_, _, _, _, _, _⟩) (v := ?_) rfl (by kernel_rfl) (by kernel_rfl) (by kernel_rfl) (by kernel_rfl) (by kernel_rfl) (fun _ _ _ h => h) (Or.inl ⟨by rfl, ?_⟩) (by exact hH0) ?_
      rotate_left
      · (intro x hx; (try dsimp only at hx); go_simp; try (with_reducible rfl))
      try simp only [Act.put, List.setIfInBounds_toArray, List.set_cons_zero, List.set_cons_succ]
      refine wpL_take (i := 5) (oi := ⟨_, _, _, _, _, _⟩) (v := ?_) rfl (by kernel_rfl) (by kernel_rfl) (by kernel_rfl) (by kernel_rfl) (by kernel_rfl) (fun _ _ _ h => h) (Or.inl ⟨by rfl, ?_⟩) (by exact hH0) ?_
      rotate_left
      · (intro x hx; (try dsimp only at hx); go_simp; try (with_reducible rfl))
      try simp only [Act.put, List.setIfInBounds_toArray, List.set_cons_zero, List.set_cons_succ]
      refine wpL_take (i := 6) (oi := ⟨_, _, _, _, _, _⟩) (v := ?_) rfl (by kernel_rfl) (by kernel_rfl) (by kernel_rfl) (by kernel_rfl) (by kernel_rfl) (fun _ _ _ h => h) (Or.inl ⟨by rfl, ?_⟩) (by exact hH0) ?_
      rotate_left
      · (intro x hx; (try dsimp only at hx); go_simp; try (with_reducible rfl))
      try simp only [Act.put, List.setIfInBounds_toArray, List.set_cons_zero, List.set_cons_succ]
      refine wpL_take (i := 7) (oi := ⟨_, _, _, _, _, _⟩) (v := ?_) rfl (by kernel_rfl) (by kernel_rfl) (by kernel_rfl) (by kernel_rfl) (by kernel_rfl) (fun _ _ _ h => h) (Or.inl ⟨by rfl, ?_⟩) (by exact hH0) ?_
      rotate_left
      · (intro x hx; (try dsimp only at hx); go_simp; try (with_reducible rfl))
      try simp only [Act.put, List.setIfInBounds_toArray, List.set_cons_zero, List.set_cons_succ]
      refine wpL_take (i := 8) (oi := ⟨_, _, _, _, _, _⟩) (v := ?_) rfl (by kernel_rfl) (by kernel_rfl) (by kernel_rfl) (by kernel_rfl) (by kernel_rfl) (fun _ _ _ h => h) (Or.inl ⟨by rfl, ?_⟩) (by exact hH0) ?_
      rotate_left
      · (intro x hx; (try dsimp only at hx); go_simp; try (with_reducible rfl))
      try simp only [Act.put, List.setIfInBounds_toArray, List.set_cons_zero, List.set_cons_succ]
      refine wpL_take (i := 9) (oi := ⟨_, _, _, _, _, _⟩) (v := ?_) rfl (by kernel_rfl) (by kernel_rfl) (by kernel_rfl) (by kernel_rfl) (by kernel_rfl) (fun _ _ _ h => h) (Or.inl ⟨by rfl, ?_⟩) (by exact hH0) ?_
      rotate_left
      · (intro x hx; (try dsimp only at hx); go_simp; try (with_reducible rfl))
      try simp only [Act.put, List.setIfInBounds_toArray, List.set_cons_zero, List.set_cons_succ]
      refine wpL_ready (rs := [10]) (by kernel_rfl) (by simp) ?_
      refine eachL_cons (o := ⟨_, _, _, _, _, _⟩) rfl (by rfl) (fun K hK => ?_) ?_
      · skip
        go_simp
        refine hK.out _ _ ?_ (fun hH1 => ?_)
        · (try dsimp only); exact ⟨GD.out.1, GD.out.2⟩
        clear hK K hH0
        try simp only [Act.put, List.setIfInBounds_toArray, List.set_cons_zero, List.set_cons_succ]
        refine wpL_take (i := 11) (oi := ⟨_, _, _, _, _, _⟩) (v := ?_) rfl (by kernel_rfl) (by kernel_rfl) (by kernel_rfl) (by kernel_rfl) (by kernel_rfl) (fun _ _ _ h => h) (Or.inl ⟨by rfl, ?_⟩) (by exact hH1) ?_
        rotate_left
        · (intro x hx; (try dsimp only at hx); go_simp; try (with_reducible rfl))
        try simp only [Act.put, List.setIfInBounds_toArray, List.set_cons_zero, List.set_cons_succ]
        refine wpL_ready (rs := [12]) (by kernel_rfl) (by simp) ?_
        refine eachL_last (o := ⟨_, _, _, _, _, _⟩) rfl (fun K hK => ?_)
        go_simp
        refine hK.out _ _ ?_ ?_
        · (try dsimp only); exact HZ3.out _
        clear hK K
        try simp only [Act.put, List.setIfInBounds_toArray, List.set_cons_zero, List.set_cons_succ]
        refine wpL_done (by kernel_rfl) ?_ _
        go_wp2_with fail
        go_roundw
        case rel => exact ⟨q + 1, by omega, by go_num, HL.out.trans (L3.out.trans (Like.set HZ.out).drew), Below.drew ((HB.out.trans B3.out).setCell (by simpa using hbb) _)⟩
        case measure => simp [intOf]; omega
      exact eachL_nil
    · have HQ := hid hq
      clear g0 hl hb
      obtain ⟨Z0, hZ0⟩ : ∃ X : World, X = wr := ⟨_, rfl⟩
      subst hZ0
      have g0 := HL.out.slice C3.out
      have g2 := HL.out.slice C2.out
      have hsm : base ≤ Z0.heap.size := by have := HB.out.size; omega
      go_wp2_with fail
      clear g2
      go_loopw [3] (fun i wx => ∃ q : Nat, q ≤ mn ∧ i = .int .i64 q ∧ Like Z0 wx ∧ Below base Z0 wx) (fun i _ => mn - (intOf i).toNat)
      case atStart => exact ⟨0, Nat.zero_le _, rfl, Like.refl _, Below.refl _ _⟩
      case round =>
        clear g0
        obtain ⟨i, hi, rfl, hl2, hb2⟩ := hrel
        obtain ⟨wx, hwx⟩ : ∃ X : World, X = wr := ⟨_, rfl⟩
        subst hwx
        have HL2 := hid hl2
        have HB2 := hid hb2
        have g0 := hl2.slice (HL.out.slice C3.out)
        have hsb2 := hb2.size
        by_cases hlti : i < mn
        · obtain ⟨bm, om, rfl, hbm, hrm⟩ := (M1.out.like (HL.out.trans hl2)) (by omega)
          obtain ⟨pa, pn, pc, t1, t2, t3, t4⟩ := hrm i hlti
          have t1' : wx.cell? ⟨bm, om + i, none⟩ = some (.slice pa pn pc) := by have h := t1; rw [show layMeta.size = 1 from rfl, Nat.mul_one] at h; exact h
          have T4 := hid t4
          have T1 := hid t1'
          have i0 : (0 : Int) ≤ (i : Int) := by omega
          have i1 : (i : Int) < (mn : Int) := by omega
          clear hrm t1 t4 hl2 hb2
          go_wp2_with fail
          clear t1' g0
          go_loopw [4] (fun j wy => ∃ r : Nat, r ≤ pn ∧ j = .int .i64 r ∧ Like wx wy ∧ Below base wx wy) (fun j _ => pn - (intOf j).toNat)
          case atStart => exact ⟨0, Nat.zero_le _, rfl, Like.refl _, Below.refl _ _⟩
          case round =>
            obtain ⟨r, hr, rfl, hl3, hb3⟩ := hrel
            obtain ⟨wy, hwy⟩ : ∃ X : World, X = wr := ⟨_, rfl⟩
            subst hwy
            have HL3 := hid hl3
            have HB3 := hid hb3
            have g0 := hl3.slice (HL2.out.slice (HL.out.slice C3.out))
            have t0 := hl3.slice T1.out
            have hsb3 := hb3.size
            by_cases hltr : r < pn
            · obtain ⟨b, o, rfl, hbb, hrr⟩ := (T4.out.like hl3) (by omega)
              obtain ⟨-, ⟨x, hx, hf⟩, ⟨a1, n1, d1, k1, k2, k3, k4⟩, a2, n2, d2, p1, p2, p3, p4⟩ := hrr r hltr
              have hx' : wy.cell? ⟨b, o + r * 4 + 1, none⟩ = some (.int .i64 x) := hx
              have hf' : wy.frozen? ⟨b, o + r * 4 + 1, none⟩ = false := hf
              have k1' : wy.cell? ⟨b, o + r * 4 + 2, none⟩ = some (.slice a1 n1 d1) := k1
              have p1' : wy.cell? ⟨b, o + r * 4 + 3, none⟩ = some (.slice a2 n2 d2) := p1
              have K4 := hid k4
              have P4 := hid p4
              have X := hid (And.intro hx' hf')
              have r0 : (0 : Int) ≤ (r : Int) := by omega
              have r1 : (r : Int) < (pn : Int) := by omega
              clear hrr hx hf hx' hf' k1 k4 p1 p4 hl3 hb3
              go_wp2_with fail
              refine (spoilSrcs_any _ _ _ base _ K4.out k2 k3 (by omega)).mono ?_
              rintro e u1 ⟨rfl, l1, b1⟩
              have L1 := hid l1
              have B1 := hid b1
              have g1 := l1.slice g0
              have t1 := l1.slice t0
              have p1'' := l1.slice p1'
              have hs2 := b1.size
              clear l1 b1 g0 t0 k1' p1'
              go_wp2_with fail
              refine (spoilSrcs_any _ _ _ base _ (P4.out.like L1.out) p2 p3 (by omega)).mono ?_
              rintro e u3 ⟨rfl, l2, b2⟩
              have L3 := hid (L1.out.trans l2)
              have B3 := hid (B1.out.trans b2)
              have g3 := l2.slice g1
              have t3' := l2.slice t1
              obtain ⟨z, hz⟩ := L3.out.int X.out.1
              have hzf := (L3.out.frozen _ _ _ X.out.1).trans X.out.2
              have hzs := lt_of_cell hz
              have HZ := hid hz
              clear l2 b2 g1 t1 p1''
              go_wp2_with fail
              have GD : Hid ((u3.drew.cell? ⟨w.heap.size, 3, none⟩ = some (.slice (some ⟨bm, om, none⟩) mn mc) ∧ u3.drew.cell? ⟨bm, om + i, none⟩ = some (.slice (some ⟨b, o, none⟩) pn pc)) ∧ (u3.drew.cell? ⟨b, o + r * 4 + 1, none⟩ = some (.int .i64 z) ∧ u3.drew.frozen? ⟨b, o + r * 4 + 1, none⟩ = false)) := hid ⟨⟨g3, t3'⟩, hz, hzf⟩
              have HZ3 : Hid (∀ v : Value, (u3.setCell ⟨b, o + r * 4 + 1, none⟩ v).drew.cell? ⟨w.heap.size, 3, none⟩ = some (.slice (some ⟨bm, om, none⟩) mn mc) ∧ (u3.setCell ⟨b, o + r * 4 + 1, none⟩ v).drew.cell? ⟨bm, om + i, none⟩ = some (.slice (some ⟨b, o, none⟩) pn pc)) := hid (fun v => by
                have hne : (⟨b, o + r * 4 + 1, none⟩ : Addr) ≠ ⟨w.heap.size, 3, none⟩ := fun e => by rw [← e] at g3; rw [hz] at g3; cases g3
                have hne2 : (⟨b, o + r * 4 + 1, none⟩ : Addr) ≠ ⟨bm, om + i, none⟩ := fun e => by rw [← e] at t3'; rw [hz] at t3'; cases t3'
                refine ⟨?_, ?_⟩
                · show (u3.setCell ⟨b, o + r * 4 + 1, none⟩ v).cell? _ = _
                  rw [World.cell?_setCell_other _ _ _ _ hne]; exact g3
                · show (u3.setCell ⟨b, o + r * 4 + 1, none⟩ v).cell? _ = _
                  rw [World.cell?_setCell_other _ _ _ _ hne2]; exact t3')
              refine wp_region_L 20 (fun w' => w'.cell? ⟨w.heap.size, 3, none⟩ = some (.slice (some ⟨bm, om, none⟩) mn mc) ∧ w'.cell? ⟨bm, om + i, none⟩ = some (.slice (some ⟨b, o, none⟩) pn pc)) (fun w' => w'.cell? ⟨b, o + r * 4 + 1, none⟩ = some (.int .i64 z) ∧ w'.frozen? ⟨b, o + r * 4 + 1, none⟩ = false) (by kernel_rfl) ?_ (fun hH0 => ?_)
              · (try dsimp only); exact ⟨GD.out.1, GD.out.2⟩
              refine wpL_take (i := 0) (oi := ⟨_, _, _, _, _, _⟩) (v := ?_) rfl (by kernel_rfl) (by kernel_rfl) (by kernel_rfl) (by kernel_rfl) (by kernel_rfl) (fun _ _ _ h => h) (Or.inl ⟨by rfl, ?_⟩) (by exact hH0) ?_
              rotate_left
              · (intro x hx; (try dsimp only at hx); go_simp; try (with_reducible rfl))
              try simp only [Act.put, List.setIfInBounds_toArray, List.set_cons_zero, List.set_cons_succ]
              refine wpL_take (i := 1) (oi := ⟨_, _, _, _, _, _⟩) (v := ?_) rfl (by kernel_rfl) (by kernel_rfl) (by kernel_rfl) (by kernel_rfl) (by kernel_rfl) (fun _ _ _ h => h) (Or.inl ⟨by rfl, ?_⟩) (by exact hH0) ?_
              rotate_left
              · (intro x hx; (try dsimp only at hx); go_simp; try (with_reducible rfl))
              try simp only [Act.put, List.setIfInBounds_toArray, List.set_cons_zero, List.set_cons_succ]
              refine wpL_take (i := 2) (oi := ⟨_, _, _, _, _, _⟩) (v := ?_) rfl (by kernel_rfl) (by kernel_rfl) (by kernel_rfl) (by kernel_rfl) (by kernel_rfl) (fun _ _ _ h => h) (Or.inl ⟨by rfl, ?_⟩) (by exact hH0) ?_
              rotate_left
              · (intro x hx; (try dsimp only at hx); go_simp; try (with_reducible rfl))
              try simp only [Act.put, List.setIfInBounds_toArray, List.set_cons_zero, List.set_cons_succ]
              refine wpL_take (i := 3) (oi := ⟨_, _, _, _, _, _⟩) (v := ?_) rfl (by kernel_rfl) (by kernel_rfl) (by kernel_rfl) (by kernel_rfl) (by kernel_rfl) (fun _ _ _ h => h) (Or.inl ⟨by rfl, ?_⟩) (by exact hH0) ?_
              rotate_left
              · (intro x hx; (try dsimp only at hx); go_simp; try (with_reducible rfl))
              try simp only [Act.put, List.setIfInBounds_toArray, List.set_cons_zero, List.set_cons_succ]
              refine wpL_take (i := 4) (oi := ⟨_, _, _, _, _, _⟩) (v := ?_) rfl (by kernel_rfl) (by kernel_rfl) (by kernel_rfl) (by kernel_rfl) (by kernel_rfl) (fun _ _ _ h => h) (Or.inl ⟨by rfl, ?_⟩) (by exact hH0) ?_
              rotate_left
              · (intro x hx; (try dsimp only at hx); go_simp; try (with_reducible rfl))
              try simp only [Act.put, List.setIfInBounds_toArray, List.set_cons_zero, List.set_cons_succ]
              refine wpL_take (i := 5) (oi := ⟨_, _, _, _, _, _⟩) (v := ?_) rfl (by kernel_rfl) (by kernel_rfl) (by kernel_rfl) (by kernel_rfl) (by kernel_rfl) (fun _ _ _ h => h) (Or.inl ⟨by rfl, ?_⟩) (by exact hH0) ?_
              rotate_left
              · (intro x hx; (try dsimp only at hx); go_simp; try (with_reducible rfl))
              try simp only [Act.put, List.setIfInBounds_toArray, List.set_cons_zero, List.set_cons_succ]
              refine wpL_take (i := 6) (oi := ⟨_, _, _, _, _, _⟩) (v := ?_) rfl (by kernel_rfl) (by kernel_rfl) (by kernel_rfl) (by kernel_rfl) (by kernel_rfl) (fun _ _ _ h => h) (Or.inl ⟨by rfl, ?_⟩) (by exact hH0) ?_
              rotate_left
              · (intro x hx; (try dsimp only at hx); go_simp; try (with_reducible rfl))
              try simp only [Act.put, List.setIfInBounds_toArray, List.set_cons_zero, List.set_cons_succ]
              refine wpL_take (i := 7) (oi := ⟨_, _, _, _, _, _⟩) (v := ?_) rfl (by kernel_rfl) (by kernel_rfl) (by kernel_rfl) (by kernel_rfl) (by kernel_rfl) (fun _ _ _ h => h) (Or.inl ⟨by rfl, ?_⟩) (by exact hH0) ?_
              rotate_left
              · (intro x hx; (try dsimp only at hx); go_simp; try (with_reducible rfl))
              try simp only [Act.put, List.setIfInBounds_toArray, List.set_cons_zero, List.set_cons_succ]
              refine wpL_take (i := 8) (oi := ⟨_, _, _, _, _, _⟩) (v := ?_) rfl (by kernel_rfl) (by kernel_rfl) (by kernel_rfl) (by kernel_rfl) (by kernel_rfl) (fun _ _ _ h => h) (Or.inl ⟨by rfl, ?_⟩) (by exact hH0) ?_
              rotate_left
              · (intro x hx; (try dsimp only at hx); go_simp; try (with_reducible rfl))
              try simp only [Act.put, List.setIfInBounds_toArray, List.set_cons_zero, List.set_cons_succ]
              refine wpL_take (i := 9) (oi := ⟨_, _, _, _, _, _⟩) (v := ?_) rfl (by kernel_rfl) (by kernel_rfl) (by kernel_rfl) (by kernel_rfl) (by kernel_rfl) (fun _ _ _ h => h) (Or.inl ⟨by rfl, ?_⟩) (by exact hH0) ?_
              rotate_left
              · (intro x hx; (try dsimp only at hx); go_simp; try (with_reducible rfl))
              try simp only [Act.put, List.setIfInBounds_toArray, List.set_cons_zero, List.set_cons_succ]
              refine wpL_take (i := 10) (oi := ⟨_, _, _, _, _, _⟩) (v := ?_) rfl (by kernel_rfl) (by kernel_rfl) (by kernel_rfl) (by kernel_rfl) (by kernel_rfl) (fun _ _ _ h => h) (Or.inl ⟨by rfl, ?_⟩) (by exact hH0) ?_
              rotate_left
              · (intro x hx; (try dsimp only at hx); go_simp; try (with_reducible rfl))
              try simp only [Act.put, List.setIfInBounds_toArray, List.set_cons_zero, List.set_cons_succ]
              refine wpL_take (i := 11) (oi := ⟨_, _, _, _, _, _⟩) (v := ?_) rfl (by kernel_rfl) (by kernel_rfl) (by kernel_rfl) (by kernel_rfl) (by kernel_rfl) (fun _ _ _ h => h) (Or.inl ⟨by rfl, ?_⟩) (by exact hH0) ?_
              rotate_left
              · (intro x hx; (try dsimp only at hx); go_simp; try (with_reducible rfl))
              try simp only [Act.put, List.setIfInBounds_toArray, List.set_cons_zero, List.set_cons_succ]
              refine wpL_take (i := 12) (oi := ⟨_, _, _, _, _, _⟩) (v := ?_) rfl (by kernel_rfl) (by kernel_rfl) (by kernel_rfl) (by kernel_rfl) (by kernel_rfl) (fun _ _ _ h => h) (Or.inl ⟨by rfl, ?_⟩) (by exact hH0) ?_
              rotate_left
              · (intro x hx; (try dsimp only at hx); go_simp; try (with_reducible rfl))
              try simp only [Act.put, List.setIfInBounds_toArray, List.set_cons_zero, List.set_cons_succ]
              refine wpL_take (i := 13) (oi := ⟨_, _, _, _, _, _⟩) (v := ?_) rfl (by kernel_rfl) (by kernel_rfl) (by kernel_rfl) (by kernel_rfl) (by kernel_rfl) (fun _ _ _ h => h) (Or.inl ⟨by rfl, ?_⟩) (by exact hH0) ?_
              rotate_left
              · (intro x hx; (try dsimp only at hx); go_simp; try (with_reducible rfl))
              try simp only [Act.put, List.setIfInBounds_toArray, List.set_cons_zero, List.set_cons_succ]
              refine wpL_take (i := 14) (oi := ⟨_, _, _, _, _, _⟩) (v := ?_) rfl (by kernel_rfl) (by kernel_rfl) (by kernel_rfl) (by kernel_rfl) (by kernel_rfl) (fun _ _ _ h => h) (Or.inl ⟨by rfl, ?_⟩) (by exact hH0) ?_
              rotate_left
              · (intro x hx; (try dsimp only at hx); go_simp; try (with_reducible rfl))
              try simp only [Act.put, List.setIfInBounds_toArray, List.set_cons_zero, List.set_cons_succ]
              refine wpL_take (i := 15) (oi := ⟨_, _, _, _, _, _⟩) (v := ?_) rfl (by kernel_rfl) (by kernel_rfl) (by kernel_rfl) (by kernel_rfl) (by kernel_rfl) (fun _ _ _ h => h) (Or.inl ⟨by rfl, ?_⟩) (by exact hH0) ?_
              rotate_left
              · (intro x hx; (try dsimp only at hx); go_simp; try (with_reducible rfl))
              try simp only [Act.put, List.setIfInBounds_toArray, List.set_cons_zero, List.set_cons_succ]
              refine wpL_take (i := 16) (oi := ⟨_, _, _, _, _, _⟩) (v := ?_) rfl (by kernel_rfl) (by kernel_rfl) (by kernel_rfl) (by kernel_rfl) (by kernel_rfl) (fun _ _ _ h => h) (Or.inl ⟨by rfl, ?_⟩) (by exact hH0) ?_
              rotate_left
              · (intro x hx; (try dsimp only at hx); go_simp; try (with_reducible rfl))
              try simp only [Act.put, List.setIfInBounds_toArray, List.set_cons_zero, List.set_cons_succ]
              refine wpL_take (i := 17) (oi := ⟨_, _, _, _, _, _⟩) (v := ?_) rfl (by kernel_rfl) (by kernel_rfl) (by kernel_rfl) (by kernel_rfl) (by kernel_rfl) (fun _ _ _ h => h) (Or.inl ⟨by rfl, ?_⟩) (by exact hH0) ?_
              rotate_left
              · (intro x hx; (try dsimp only at hx); go_simp; try (with_reducible rfl))
              try simp only [Act.put, List.setIfInBounds_toArray, List.set_cons_zero, List.set_cons_succ]
              refine wpL_ready (rs := [18]) (by kernel_rfl) (by simp) ?_
              refine eachL_cons (o := ⟨_, _, _, _, _, _⟩) rfl (by rfl) (fun K hK => ?_) ?_
              · skip
                go_simp
                refine hK.out _ _ ?_ (fun hH1 => ?_)
                · (try dsimp only); exact ⟨GD.out.1, GD.out.2⟩
                clear hK K hH0
                try simp only [Act.put, List.setIfInBounds_toArray, List.set_cons_zero, List.set_cons_succ]
                refine wpL_take (i := 19) (oi := ⟨_, _, _, _, _, _⟩) (v := ?_) rfl (by kernel_rfl) (by kernel_rfl) (by kernel_rfl) (by kernel_rfl) (by kernel_rfl) (fun _ _ _ h => h) (Or.inl ⟨by rfl, ?_⟩) (by exact hH1) ?_
                rotate_left
                · (intro x hx; (try dsimp only at hx); go_simp; try (with_reducible rfl))
                try simp only [Act.put, List.setIfInBounds_toArray, List.set_cons_zero, List.set_cons_succ]
                refine wpL_ready (rs := [20]) (by kernel_rfl) (by simp) ?_
                refine eachL_last (o := ⟨_, _, _, _, _, _⟩) rfl (fun K hK => ?_)
                go_simp
                refine hK.out _ _ ?_ ?_
                · (try dsimp only); exact HZ3.out _
                clear hK K
                try simp only [Act.put, List.setIfInBounds_toArray, List.set_cons_zero, List.set_cons_succ]
                refine wpL_done (by kernel_rfl) ?_ _
                go_wp2_with fail
                go_roundw
                case rel => exact ⟨r + 1, by omega, by go_num, HL3.out.trans (L3.out.trans (Like.set HZ.out).drew), Below.drew ((HB3.out.trans B3.out).setCell (by simpa using hbb) _)⟩
                case measure => simp [intOf]; omega
              exact eachL_nil
            · go_wp2_with fail
              go_roundw
              case rel => exact ⟨i + 1, by omega, by go_num, HL2.out.trans HL3.out, HB2.out.trans HB3.out⟩
              case measure => simp [intOf]; omega
        · go_wp2_with fail
          go_end0
          exact ⟨rfl, (Like.of_below A1.out).trans (HL.out.trans HL2.out), (A1.out.mono hB).trans (HB.out.trans HB2.out)⟩

end Go.Proofs.YtaimpljkbpnigaaGreatDoor
