/- Package lower: what an instruction becomes (irOf), whatever kind. Written by lwrgen.py. -/
import Derived.Test.YtaimpljkbpnigaaGreatDoorJ11a
import Derived.Deep.RegionWith
namespace Go.Proofs.YtaimpljkbpnigaaGreatDoor
open Go.RowKit
set_option linter.unusedVariables false

theorem box9 {U : World} {b : Nat} {v0 v1 v2 v3 v4 v5 v6 v7 v8 : Value} (c0 : U.cell? ⟨b, 0, none⟩ = some v0) (c1 : U.cell? ⟨b, 1, none⟩ = some v1) (c2 : U.cell? ⟨b, 2, none⟩ = some v2) (c3 : U.cell? ⟨b, 3, none⟩ = some v3) (c4 : U.cell? ⟨b, 4, none⟩ = some v4) (c5 : U.cell? ⟨b, 5, none⟩ = some v5) (c6 : U.cell? ⟨b, 6, none⟩ = some v6) (c7 : U.cell? ⟨b, 7, none⟩ = some v7) (c8 : U.cell? ⟨b, 8, none⟩ = some v8) (fz : ∀ j, U.frozen? ⟨b, j, none⟩ = false) : BoxAt U b [v0, v1, v2, v3, v4, v5, v6, v7, v8] := by
  refine ⟨fun j v hv => ?_, fz⟩
  have hj := (List.getElem?_eq_some_iff.1 hv).1
  simp only [List.length_cons, List.length_nil] at hj
  have : j = 0 ∨ j = 1 ∨ j = 2 ∨ j = 3 ∨ j = 4 ∨ j = 5 ∨ j = 6 ∨ j = 7 ∨ j = 8 := by omega
  rcases this with rfl | rfl | rfl | rfl | rfl | rfl | rfl | rfl | rfl <;> (simp at hv; subst hv; assumption)

set_option maxRecDepth 100000 in
set_option maxHeartbeats 16000000 in
theorem irOf_any {xb fb base : Nat} {pa : Option Addr} {pn pc : Nat} {ha : Option Addr} {hn hc : Nat} {gv vC vM vW : Value} {gx gy f rg : Int} {gn : Nat} {BC BM BW : Nat → Prop} {cl : List IrT} {ml : List (List PartT)} {pl : List Int} {wl : List (List Int)} (w : World) (h : WkIn w xb fb base (.slice pa pn pc) (.slice ha hn hc) gx gy gv f rg gn vC vM vW BC BM BW cl ml pl wl)
    (ps : List Fn) (hp : Fns w pa pn pc ps) (K A H : Int) (hgy : 0 ≤ gy ∧ gy ≤ 8) (hH : 0 ≤ H ∧ H ≤ 8) (hK : 0 ≤ K ∧ K ≤ 16) (hA : K = 14 → ∃ aN : Nat, A = aN ∧ aN < ps.length ∧ 0 ≤ (ps.getD aN noFn).1 ∧ (ps.getD aN noFn).1 ≤ 4) :
    Calls Tryz.prog 42 #[.pointer (some ⟨xb, 0, none⟩), .agg #[.int .i64 K, .int .i64 A], .int .i64 H] w fun e w' => ∃ kd r ra rb k a n c, e = .returned (.agg #[.int .i64 kd, .int .i64 r, .int .i64 ra, .int .i64 rb, .int .i64 k, .slice a n c, .int .i64 0, .int .i64 0, .int .i64 0]) ∧ layIr.owns w' (fun b => w.heap.size ≤ b ∧ b < w'.heap.size) [.int .i64 kd, .int .i64 r, .int .i64 ra, .int .i64 rb, .int .i64 k, .slice a n c, .int .i64 0, .int .i64 0, .int .i64 0] (lirV ps (gy + H) (K, A)) ∧ Below w.heap.size w w' := by
  have HP := hid hp
  have LP := hid hp.len
  have hpr := hp.room
  have HW := hid h
  have HAA := hid hA
  obtain ⟨T, hT⟩ : ∃ T : Int, gy + H = T := ⟨_, rfl⟩
  have HT := hid hT
  rw [hT]
  clear hp h hA
  go_enter Tryz.func42, Tryz.ntmps42
  go_upto_region 1 with fail
  refine wp_name ?_
  intro U hU
  have BU : Hid (Below w.heap.size w U) := hid (by rw [hU]; go_grown)
  have s0 : U.cell? ⟨w.heap.size, 0, none⟩ = some (.pointer (some ⟨xb, 0, none⟩)) := by rw [hU]; simp [go_sem]
  have i0 : U.cell? ⟨w.heap.size + 1, 0, none⟩ = some (.int .i64 K) := by rw [hU]; simp [go_sem]
  have i1 : U.cell? ⟨w.heap.size + 1, 1, none⟩ = some (.int .i64 A) := by rw [hU]; simp [go_sem]
  have r0 : U.cell? ⟨w.heap.size + 1 + 1, 0, none⟩ = some (.int .i64 0) := by rw [hU]; simp [go_sem]
  have r1 : U.cell? ⟨w.heap.size + 1 + 1, 1, none⟩ = some (.int .i64 0) := by rw [hU]; simp [go_sem]
  have r2 : U.cell? ⟨w.heap.size + 1 + 1, 2, none⟩ = some (.int .i64 0) := by rw [hU]; simp [go_sem]
  have r3 : U.cell? ⟨w.heap.size + 1 + 1, 3, none⟩ = some (.int .i64 0) := by rw [hU]; simp [go_sem]
  have r4 : U.cell? ⟨w.heap.size + 1 + 1, 4, none⟩ = some (.int .i64 0) := by rw [hU]; simp [go_sem]
  have r5 : U.cell? ⟨w.heap.size + 1 + 1, 5, none⟩ = some (.slice none 0 0) := by rw [hU]; simp [go_sem]
  have r6 : U.cell? ⟨w.heap.size + 1 + 1, 6, none⟩ = some (.int .i64 0) := by rw [hU]; simp [go_sem]
  have r7 : U.cell? ⟨w.heap.size + 1 + 1, 7, none⟩ = some (.int .i64 0) := by rw [hU]; simp [go_sem]
  have r8 : U.cell? ⟨w.heap.size + 1 + 1, 8, none⟩ = some (.int .i64 0) := by rw [hU]; simp [go_sem]
  have rf : ∀ j, U.frozen? ⟨w.heap.size + 1 + 1, j, none⟩ = false := by intro j; rw [hU]; simp [go_sem]
  clear hU
  have hzU : w.heap.size + 1 + 1 < U.heap.size := lt_of_cell r0
  have WU := hid (HW.out.kept BU.out)
  have c3 := WU.out.bx.c 3 _ rfl
  have g3 : -1000 ≤ gy ∧ gy ≤ 1000 := by omega
  have ST := hid (fun (j : Int) (hj : -1000 ≤ j ∧ j ≤ 1000) => stackAt_any (S := w.heap.size) (xb := xb) (gy := gy) j U s0 c3 g3 hj)
  have ST0 := hid (ST.out H (by omega))
  have ST1 := hid (ST.out (H - 1) (by omega))
  have ST2 := hid (ST.out (H - 2) (by omega))
  have e1 : gy + (H - 1) = T - 1 := by omega
  have e2 : gy + (H - 2) = T - 2 := by omega
  rw [hT] at ST0
  rw [e1] at ST1
  rw [e2] at ST2
  clear e1 e2 hT g3
  have hTb : 0 ≤ T ∧ T ≤ 16 := by have := HT.out; omega
  go_wp2_with fail
  refine ST0.out.mono ?_
  rintro e wa ⟨rfl, hwa⟩
  rw [hwa]
  clear hwa
  go_wp2_with fail
  refine ST1.out.mono ?_
  rintro e wa ⟨rfl, hwa⟩
  rw [hwa]
  clear hwa
  go_wp2_with fail
  refine ST2.out.mono ?_
  rintro e wa ⟨rfl, hwa⟩
  rw [hwa]
  clear hwa
  clear ST0 ST1 ST2
  by_cases h39 : 3 ≤ K ∧ K ≤ 9
  · have EV : Hid (lirV ps T (K, A) = (3, T - 2, T - 2, T - 1, K, [], 0, 0, 0)) := hid (by
      have e0 : oneV ps T 0 (K, A) = (3, T - 2, T - 2, T - 1, K, [], 1, 0, 0) := by
        unfold oneV
        simp only []
        repeat (rw [if_neg (by omega)])
      unfold lirV
      rw [e0]
      simp only []
      rw [if_neg (by omega)])
    have n0 : (K == 0) = false := by simp; omega
    have n1 : (K == 1) = false := by simp; omega
    have n2 : (K == 2) = false := by simp; omega
    have n10 : (K == 10) = false := by simp; omega
    have n11 : (K == 11) = false := by simp; omega
    have n12 : (K == 12) = false := by simp; omega
    have n13 : (K == 13) = false := by simp; omega
    have n14 : (K == 14) = false := by simp; omega
    have n15 : (K == 15) = false := by simp; omega
    have n16 : (K == 16) = false := by simp; omega
    clear h39 hK
    go_wp2_with fail
    refine bodyPost_ret (v := .agg #[.int .i64 3, .int .i64 (T - 2), .int .i64 (T - 2), .int .i64 (T - 1), .int .i64 K, .slice none 0 0, .int .i64 0, .int .i64 0, .int .i64 0]) (by simp [results, Tryz.results42, go_sem, r0, r1, r2, r3, r4, r5, r6, r7, r8]) rfl ⟨_, _, _, _, _, _, _, _, rfl, ?_, ?_⟩
    · rw [EV.out]
      exact layIr.subO (B := fun _ => False) (ir_owns (kd := 3) (r := (T - 2)) (ra := (T - 2)) (rb := (T - 1)) (k := K) (cost := 0) (mt := 0) (ip := 0) (OSl.nil layI 3 8 _ _)) (fun b hb _ => hb.elim)
    · repeat (first | with_reducible exact BU.out | with_reducible refine Below.setCell ?_ (by show w.heap.size ≤ w.heap.size + 1 + 1; omega) _)
  have hcs : K = 0 ∨ K = 1 ∨ K = 2 ∨ K = 10 ∨ K = 11 ∨ K = 12 ∨ K = 13 ∨ K = 15 ∨ K = 16 ∨ K = 14 := by omega
  clear h39 hK
  rcases hcs with rfl | rfl | rfl | rfl | rfl | rfl | rfl | rfl | rfl | rfl
  · have EV : Hid (lirV ps T (0, A) = (1, T, 0, 0, A, [], 0, 0, 0)) := hid rfl
    go_wp2_with fail
    refine bodyPost_ret (v := .agg #[.int .i64 1, .int .i64 T, .int .i64 0, .int .i64 0, .int .i64 A, .slice none 0 0, .int .i64 0, .int .i64 0, .int .i64 0]) (by simp [results, Tryz.results42, go_sem, r0, r1, r2, r3, r4, r5, r6, r7, r8]) rfl ⟨_, _, _, _, _, _, _, _, rfl, ?_, ?_⟩
    · rw [EV.out]
      exact layIr.subO (B := fun _ => False) (ir_owns (kd := 1) (r := T) (ra := 0) (rb := 0) (k := A) (cost := 0) (mt := 0) (ip := 0) (OSl.nil layI 3 8 _ _)) (fun b hb _ => hb.elim)
    · repeat (first | with_reducible exact BU.out | with_reducible refine Below.setCell ?_ (by show w.heap.size ≤ w.heap.size + 1 + 1; omega) _)
  · have EV : Hid (lirV ps T (1, A) = (2, T, A, 0, 0, [], 0, 0, 0)) := hid rfl
    go_wp2_with fail
    refine bodyPost_ret (v := .agg #[.int .i64 2, .int .i64 T, .int .i64 A, .int .i64 0, .int .i64 0, .slice none 0 0, .int .i64 0, .int .i64 0, .int .i64 0]) (by simp [results, Tryz.results42, go_sem, r0, r1, r2, r3, r4, r5, r6, r7, r8]) rfl ⟨_, _, _, _, _, _, _, _, rfl, ?_, ?_⟩
    · rw [EV.out]
      exact layIr.subO (B := fun _ => False) (ir_owns (kd := 2) (r := T) (ra := A) (rb := 0) (k := 0) (cost := 0) (mt := 0) (ip := 0) (OSl.nil layI 3 8 _ _)) (fun b hb _ => hb.elim)
    · repeat (first | with_reducible exact BU.out | with_reducible refine Below.setCell ?_ (by show w.heap.size ≤ w.heap.size + 1 + 1; omega) _)
  · have EV : Hid (lirV ps T (2, A) = (2, A, (T - 1), 0, 0, [], 0, 0, 0)) := hid rfl
    go_wp2_with fail
    refine bodyPost_ret (v := .agg #[.int .i64 2, .int .i64 A, .int .i64 (T - 1), .int .i64 0, .int .i64 0, .slice none 0 0, .int .i64 0, .int .i64 0, .int .i64 0]) (by simp [results, Tryz.results42, go_sem, r0, r1, r2, r3, r4, r5, r6, r7, r8]) rfl ⟨_, _, _, _, _, _, _, _, rfl, ?_, ?_⟩
    · rw [EV.out]
      exact layIr.subO (B := fun _ => False) (ir_owns (kd := 2) (r := A) (ra := (T - 1)) (rb := 0) (k := 0) (cost := 0) (mt := 0) (ip := 0) (OSl.nil layI 3 8 _ _)) (fun b hb _ => hb.elim)
    · repeat (first | with_reducible exact BU.out | with_reducible refine Below.setCell ?_ (by show w.heap.size ≤ w.heap.size + 1 + 1; omega) _)
  · have EV : Hid (lirV ps T (10, A) = (2, T, (T - 1), 0, 0, [], 0, 0, 0)) := hid rfl
    go_wp2_with fail
    refine bodyPost_ret (v := .agg #[.int .i64 2, .int .i64 T, .int .i64 (T - 1), .int .i64 0, .int .i64 0, .slice none 0 0, .int .i64 0, .int .i64 0, .int .i64 0]) (by simp [results, Tryz.results42, go_sem, r0, r1, r2, r3, r4, r5, r6, r7, r8]) rfl ⟨_, _, _, _, _, _, _, _, rfl, ?_, ?_⟩
    · rw [EV.out]
      exact layIr.subO (B := fun _ => False) (ir_owns (kd := 2) (r := T) (ra := (T - 1)) (rb := 0) (k := 0) (cost := 0) (mt := 0) (ip := 0) (OSl.nil layI 3 8 _ _)) (fun b hb _ => hb.elim)
    · repeat (first | with_reducible exact BU.out | with_reducible refine Below.setCell ?_ (by show w.heap.size ≤ w.heap.size + 1 + 1; omega) _)
  · have EV : Hid (lirV ps T (11, A) = (0, 0, 0, 0, 0, [], 0, 0, 0)) := hid rfl
    go_wp2_with fail
    refine bodyPost_ret (v := .agg #[.int .i64 0, .int .i64 0, .int .i64 0, .int .i64 0, .int .i64 0, .slice none 0 0, .int .i64 0, .int .i64 0, .int .i64 0]) (by simp [results, Tryz.results42, go_sem, r0, r1, r2, r3, r4, r5, r6, r7, r8]) rfl ⟨_, _, _, _, _, _, _, _, rfl, ?_, ?_⟩
    · rw [EV.out]
      exact layIr.subO (B := fun _ => False) (ir_owns (kd := 0) (r := 0) (ra := 0) (rb := 0) (k := 0) (cost := 0) (mt := 0) (ip := 0) (OSl.nil layI 3 8 _ _)) (fun b hb _ => hb.elim)
    · repeat (first | with_reducible exact BU.out | with_reducible refine Below.setCell ?_ (by show w.heap.size ≤ w.heap.size + 1 + 1; omega) _)
  · have EV : Hid (lirV ps T (12, A) = (4, 0, 0, 0, 0, [], 0, 0, 0)) := hid rfl
    go_wp2_with fail
    refine bodyPost_ret (v := .agg #[.int .i64 4, .int .i64 0, .int .i64 0, .int .i64 0, .int .i64 0, .slice none 0 0, .int .i64 0, .int .i64 0, .int .i64 0]) (by simp [results, Tryz.results42, go_sem, r0, r1, r2, r3, r4, r5, r6, r7, r8]) rfl ⟨_, _, _, _, _, _, _, _, rfl, ?_, ?_⟩
    · rw [EV.out]
      exact layIr.subO (B := fun _ => False) (ir_owns (kd := 4) (r := 0) (ra := 0) (rb := 0) (k := 0) (cost := 0) (mt := 0) (ip := 0) (OSl.nil layI 3 8 _ _)) (fun b hb _ => hb.elim)
    · repeat (first | with_reducible exact BU.out | with_reducible refine Below.setCell ?_ (by show w.heap.size ≤ w.heap.size + 1 + 1; omega) _)
  · have EV : Hid (lirV ps T (13, A) = (5, 0, (T - 1), 0, 0, [], 0, 0, 0)) := hid rfl
    go_wp2_with fail
    refine bodyPost_ret (v := .agg #[.int .i64 5, .int .i64 0, .int .i64 (T - 1), .int .i64 0, .int .i64 0, .slice none 0 0, .int .i64 0, .int .i64 0, .int .i64 0]) (by simp [results, Tryz.results42, go_sem, r0, r1, r2, r3, r4, r5, r6, r7, r8]) rfl ⟨_, _, _, _, _, _, _, _, rfl, ?_, ?_⟩
    · rw [EV.out]
      exact layIr.subO (B := fun _ => False) (ir_owns (kd := 5) (r := 0) (ra := (T - 1)) (rb := 0) (k := 0) (cost := 0) (mt := 0) (ip := 0) (OSl.nil layI 3 8 _ _)) (fun b hb _ => hb.elim)
    · repeat (first | with_reducible exact BU.out | with_reducible refine Below.setCell ?_ (by show w.heap.size ≤ w.heap.size + 1 + 1; omega) _)
  · have EV : Hid (lirV ps T (15, A) = (7, 0, (T - 1), 0, 0, [], 0, 0, 0)) := hid rfl
    go_wp2_with fail
    refine bodyPost_ret (v := .agg #[.int .i64 7, .int .i64 0, .int .i64 (T - 1), .int .i64 0, .int .i64 0, .slice none 0 0, .int .i64 0, .int .i64 0, .int .i64 0]) (by simp [results, Tryz.results42, go_sem, r0, r1, r2, r3, r4, r5, r6, r7, r8]) rfl ⟨_, _, _, _, _, _, _, _, rfl, ?_, ?_⟩
    · rw [EV.out]
      exact layIr.subO (B := fun _ => False) (ir_owns (kd := 7) (r := 0) (ra := (T - 1)) (rb := 0) (k := 0) (cost := 0) (mt := 0) (ip := 0) (OSl.nil layI 3 8 _ _)) (fun b hb _ => hb.elim)
    · repeat (first | with_reducible exact BU.out | with_reducible refine Below.setCell ?_ (by show w.heap.size ≤ w.heap.size + 1 + 1; omega) _)
  · have EV : Hid (lirV ps T (16, A) = (8, 0, (T - 1), 0, 0, [], 0, 0, 0)) := hid rfl
    go_wp2_with fail
    refine bodyPost_ret (v := .agg #[.int .i64 8, .int .i64 0, .int .i64 (T - 1), .int .i64 0, .int .i64 0, .slice none 0 0, .int .i64 0, .int .i64 0, .int .i64 0]) (by simp [results, Tryz.results42, go_sem, r0, r1, r2, r3, r4, r5, r6, r7, r8]) rfl ⟨_, _, _, _, _, _, _, _, rfl, ?_, ?_⟩
    · rw [EV.out]
      exact layIr.subO (B := fun _ => False) (ir_owns (kd := 8) (r := 0) (ra := (T - 1)) (rb := 0) (k := 0) (cost := 0) (mt := 0) (ip := 0) (OSl.nil layI 3 8 _ _)) (fun b hb _ => hb.elim)
    · repeat (first | with_reducible exact BU.out | with_reducible refine Below.setCell ?_ (by show w.heap.size ≤ w.heap.size + 1 + 1; omega) _)
  · obtain ⟨aN, rfl, haN, hk0, hk4⟩ := HAA.out rfl
    obtain ⟨⟨kx, ky, kl⟩, e4⟩ : ∃ x, ps.getD aN noFn = x := ⟨_, rfl⟩
    rw [e4] at hk0 hk4
    have hk0' : 0 ≤ kx := hk0
    have hk4' : kx ≤ 4 := hk4
    obtain ⟨m, rfl⟩ : ∃ m : Nat, kx = m := ⟨kx.toNat, by omega⟩
    have hm4 : m ≤ 4 := by omega
    have E4 := hid e4
    have EV : Hid (lirV ps T (14, (aN : Int)) = (6, T - (m : Int), 0, 0, (aN : Int), argsF (T - (m : Int)) m, 0, 0, 0)) := hid (by
      unfold lirV oneV argsF
      simp only [Int.toNat_natCast, e4]
      rfl)
    have hap : aN < pn := by rw [LP.out]; exact haN
    have c0 := WU.out.bx.c 0 _ rfl
    have c1 := WU.out.bx.c 1 _ rfl
    clear hk0 hk4 hk0' hk4' e4 haN
    have hWT : IntKind.i64.wrap (H - (m : Int)) = H - (m : Int) := by rw [IntKind.wrap_i64]; omega
    have XW := hid (And.intro r0 (And.intro r1 (And.intro r2 (And.intro r3 (And.intro r4 (And.intro r5 (And.intro r6 (And.intro r7 (And.intro r8 rf)))))))))
    have XS := hid s0
    have XC := hid c3
    have XI := hid i1
    go_upto_region 19 with fail
    go_region_with (go_at_call 38; refine (tabFunc_any _ _ _ _ _ _ ps aN _ (HP.out.kept (kt BU.out (by first | exact Below.refl _ _ | exact Below.drew (Below.refl _ _)))) hap).mono ?_; rintro e w1 ⟨x1, y1, fa1, fn1, fc1, fl1, rfl, e3, i3, b1⟩; have hxm : x1 = (m : Int) := (by have h := E4.out.symm.trans e3; cases h; rfl); subst hxm; have B1 : Hid (Below U.heap.size U w1) := hid (by first | exact b1 | exact kt (Below.drew (Below.refl _ _)) b1); have fA := fun (W : World) => Tryz.fieldArgs (m : Int) y1 fa1 fn1 fc1 W; clear e3 i3 b1)
    all_goals
      replace r0 := kept_cell B1.out r0
      replace r1 := kept_cell B1.out r1
      replace r2 := kept_cell B1.out r2
      replace r3 := kept_cell B1.out r3
      replace r4 := kept_cell B1.out r4
      replace r5 := kept_cell B1.out r5
      replace r6 := kept_cell B1.out r6
      replace r7 := kept_cell B1.out r7
      replace r8 := kept_cell B1.out r8
      replace i1 := kept_cell B1.out i1
      replace s0 := kept_cell B1.out s0
      replace c3 := kept_cell B1.out c3
      go_upto_region 20 with fail
      refine wp_name ?_
      intro W2 hW2
      rw [← hW2] at B1
      rw [← hW2] at r0 r1 r2 r3 r4 r5 r6 r7 r8 i1 s0 c3
      clear hW2
      have hz2 : w.heap.size + 1 + 1 < W2.heap.size := lt_of_cell r0
      have rf2 : ∀ j, W2.frozen? ⟨w.heap.size + 1 + 1, j, none⟩ = false := fun j => (B1.out.frozen (p := ⟨w.heap.size + 1 + 1, j, none⟩) hzU).trans (rf j)
      have STM : Hid (∀ u, Below W2.heap.size W2 u → Calls Tryz.prog 57 #[.int .i64 (H - (m : Int)), .pointer (some ⟨w.heap.size, 0, none⟩)] u fun e w' => e = .returned (.int .i64 (T - (m : Int))) ∧ w' = u) := hid (fun u hu => by
        have h := stackAt_any (S := w.heap.size) (xb := xb) (gy := gy) (H - (m : Int)) u (kept_cell hu s0) (kept_cell hu c3) (by omega) (by omega)
        have e5 : gy + (H - (m : Int)) = T - (m : Int) := by have := HT.out; omega
        rwa [e5] at h)
      have R2 := hid (fun (u : World) (hu : Below W2.heap.size W2 u) => And.intro (kept_cell hu r0) (And.intro (kept_cell hu r1) (And.intro (kept_cell hu r2) (And.intro (kept_cell hu r3) (And.intro (kept_cell hu r4) (And.intro (kept_cell hu r5) (And.intro (kept_cell hu r6) (And.intro (kept_cell hu r7) (And.intro (kept_cell hu r8) (fun j => (hu.frozen (p := ⟨w.heap.size + 1 + 1, j, none⟩) hz2).trans (rf2 j)))))))))))
      clear s0 c3 c0 c1 rf rf2 fA i0
      clear r0 r1 r2 r3 r4 r5 r6 r7 r8
      go_region_with (first
        | (go_at_call 57; refine (STM.out _ ?hb).mono ?_; (case hb => first | exact Below.refl _ _ | exact Below.drew (Below.refl _ _)); rintro e wz ⟨rfl, hz⟩; rw [hz]; clear hz)
        | (go_at_call 59; refine (callOf_any (aN : Int) (T - (m : Int)) m _ ?h1 ?h2).mono ?_; (case h1 => omega); (case h2 => omega); rintro e w9 ⟨a9, n9, c9, rfl, o9, b9⟩; have B9 : Hid (Below W2.heap.size W2 w9) := hid (by first | exact b9 | exact kt (Below.drew (Below.refl _ _)) b9); have O9 : Hid (OSl layI 3 8 w9 (fun b => W2.heap.size ≤ b ∧ b < w9.heap.size) (.slice a9 n9 c9) (argsF (T - (m : Int)) m)) := hid (by exact o9.clip); obtain ⟨r0, r1, r2, r3, r4, r5, r6, r7, r8, rf⟩ := R2.out w9 B9.out; clear o9 b9))
      all_goals
        go_wp2_with fail
        refine bodyPost_ret (v := .agg #[.int .i64 6, .int .i64 (T - (m : Int)), .int .i64 0, .int .i64 0, .int .i64 (aN : Int), .slice a9 n9 c9, .int .i64 0, .int .i64 0, .int .i64 0]) (by simp [results, Tryz.results42, go_sem, r0, r1, r2, r3, r4, r5, r6, r7, r8]) rfl ⟨_, _, _, _, _, _, _, _, rfl, ?_, ?_⟩
        · rw [EV.out]
          refine layIr.subO (B := fun b => W2.heap.size ≤ b ∧ b < w9.heap.size) (ir_owns ?_) (fun b hb hl => ⟨by have := hb.1; omega, hl⟩)
          repeat (first | with_reducible exact O9.out | refine OSl.set ?_ _ _ (fun hb => by have h1 : W2.heap.size ≤ w.heap.size + 1 + 1 := hb.1; omega))
        · repeat (first | with_reducible exact kt (kt BU.out B1.out) B9.out | refine Below.setCell ?_ (by show w.heap.size ≤ w.heap.size + 1 + 1; omega) _ | refine Below.drew ?_)

end Go.Proofs.YtaimpljkbpnigaaGreatDoor
