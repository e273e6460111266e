/- The document's own answer: what an instruction becomes (one), whatever it is but a call. Written by refonegen.py. -/
import Derived.Test.YtfnfbebkeoilfaaGreatDoorJ6b
import Derived.Test.YtfnfbebkeoilfaaGreatDoorPlainLow
import Derived.Test.YtfnfbebkeoilfaaGreatDoorWpName
import Derived.Deep.DeepCutAuto
namespace Go.Proofs.YtfnfbebkeoilfaaGreatDoor
open Go.RowKit
set_option linter.unusedVariables false

set_option maxRecDepth 100000 in
set_option maxHeartbeats 8000000 in
theorem refOne_any (pa : Option Addr) (pn pc : Nat) (ps : List Fn) (f q : Nat) (gx gy : Int) (fl : List (Int × Int)) (K A : Int) (w : World) (hp : Fns w pa pn pc ps) (hh : 0 ≤ heightV ps (f : Int) (q : Int)) (e3 : ps.getD f noFn = (gx, gy, fl)) (hx : fl[q]? = some (K, A)) (hk : ¬ K = 14) :
    Calls Tryz.prog 46 #[.agg #[.slice pa pn pc], .int .i64 (f : Int), .int .i64 (q : Int)] w fun e w' => ∃ kd r ra rb k, e = .returned (.agg #[.int .i64 kd, .int .i64 r, .int .i64 ra, .int .i64 rb, .int .i64 k, .slice none 0 0, .int .i64 1, .int .i64 0, .int .i64 (q : Int)]) ∧ oneV ps (gy + heightV ps (f : Int) (q : Int)) (q : Int) (K, A) = (kd, r, ra, rb, k, [], 1, 0, (q : Int)) ∧ Below w.heap.size w w' := by
  have HP := hid hp
  have LP := hid hp.len
  have hpr := hp.room
  have hpc := hp.cap
  have hbd := height_le ps (f : Int) (q : Int)
  obtain ⟨f', q', hf', hq', hf, hq, he, _, _⟩ := reached_in hh
  obtain rfl : f = f' := by omega
  obtain rfl : q = q' := by omega
  have hpk := (hts_ok he).1
  have hfn : f < pn := by rw [LP.out]; exact hf
  have hvf := fnB_bd (fnB_of hpk hf e3)
  obtain ⟨b0, o0, gx', gy', ga, gn, gc, gl, rfl, e3', d0, d1, d2, i3⟩ := hp.at f hfn
  have e := e3.symm.trans e3'
  obtain ⟨rfl, rfl, rfl⟩ : gx = gx' ∧ gy = gy' ∧ fl = gl := by cases e; exact ⟨rfl, rfl, rfl⟩
  have hqn : q < gn := by rw [i3.len]; exact (List.getElem?_eq_some_iff.1 hx).1
  have hgr := i3.room
  have hgc := i3.cap
  obtain ⟨b1, o1, K', A', rfl, e7, c0, c1⟩ := i3.at q hqn
  have ex : (K, A) = (K', A') := by
    rw [List.getD_eq_getElem?_getD, hx] at e7; exact e7
  obtain ⟨rfl, rfl⟩ : K = K' ∧ A = A' := by cases ex; exact ⟨rfl, rfl⟩
  have hk' : (K == 14) = false := by simpa using hk
  have hq64 : q < 64 := by have := i3.len; omega
  have z0 := lt_of_cell d0
  have z1 := lt_of_cell c0
  have hgy : 0 ≤ gy ∧ gy ≤ 8 := by omega
  clear hf' hq' hq he hpk hp e3' e i3 e7 ex hx hvf e3
  have HH := hid hh
  generalize hG : heightV ps (f : Int) (q : Int) = H at hh hbd
  obtain ⟨T, hT⟩ : ∃ T : Int, gy + H = T := ⟨_, rfl⟩
  have hTb : 0 ≤ T ∧ T ≤ 16 := by omega
  have HG := hid hG
  rw [hT]
  clear hG
  go_enter Tryz.func46, Tryz.ntmps46
  go_upto_region 2 with fail
  refine wp_name ?_
  intro U0 hU0
  have B0 : Hid (Below w.heap.size w U0) := hid (by rw [hU0]; go_grown)
  have q0 : U0.cell? ⟨w.heap.size, 0, none⟩ = some (.slice (some ⟨b0, o0, none⟩) pn pc) := by rw [hU0]; simp [go_sem]
  have f1 : U0.cell? ⟨w.heap.size + 1 + 1, 1, none⟩ = some (.int .i64 gy) := by rw [hU0]; simp [go_sem]
  have f2 : U0.cell? ⟨w.heap.size + 1 + 1, 2, none⟩ = some (.slice (some ⟨b1, o1, none⟩) gn gc) := by rw [hU0]; simp [go_sem]
  have s0 : U0.cell? ⟨w.heap.size + 1, 0, none⟩ = some (.int .i64 0) := by rw [hU0]; simp [go_sem]
  have s1 : U0.cell? ⟨w.heap.size + 1, 1, none⟩ = some (.int .i64 0) := by rw [hU0]; simp [go_sem]
  have s2 : U0.cell? ⟨w.heap.size + 1, 2, none⟩ = some (.int .i64 0) := by rw [hU0]; simp [go_sem]
  have s3 : U0.cell? ⟨w.heap.size + 1, 3, none⟩ = some (.int .i64 0) := by rw [hU0]; simp [go_sem]
  have s4 : U0.cell? ⟨w.heap.size + 1, 4, none⟩ = some (.int .i64 0) := by rw [hU0]; simp [go_sem]
  have s5 : U0.cell? ⟨w.heap.size + 1, 5, none⟩ = some (.slice none 0 0) := by rw [hU0]; simp [go_sem]
  have s6 : U0.cell? ⟨w.heap.size + 1, 6, none⟩ = some (.int .i64 0) := by rw [hU0]; simp [go_sem]
  have s7 : U0.cell? ⟨w.heap.size + 1, 7, none⟩ = some (.int .i64 0) := by rw [hU0]; simp [go_sem]
  have s8 : U0.cell? ⟨w.heap.size + 1, 8, none⟩ = some (.int .i64 0) := by rw [hU0]; simp [go_sem]
  have sf : ∀ j, U0.frozen? ⟨w.heap.size + 1, j, none⟩ = false := by intro j; rw [hU0]; simp [go_sem]
  have hu0 : U0.heap.size = w.heap.size + 1 + 1 + 1 := by rw [hU0]; simp
  replace c0 := kept_cell B0.out c0
  replace c1 := kept_cell B0.out c1
  clear hU0 d0 d1 d2 z0 z1
  have HU0 := hid hu0
  clear hu0
  go_upto_region 3 with fail
  refine wp_name ?_
  intro U hU
  have AU : Hid (Below U0.heap.size U0 U) := hid (by rw [hU]; exact Below.alloc (Below.refl _ _) (Nat.le_refl _) _)
  have B : Hid (Below w.heap.size w U) := hid (kt B0.out AU.out)
  have p0 := kept_cell AU.out q0
  have f1 := kept_cell AU.out f1
  have x0 : U.cell? ⟨U0.heap.size, 0, none⟩ = some (.int .i64 K) := by rw [hU]; simp [go_sem]
  have x1 : U.cell? ⟨U0.heap.size, 1, none⟩ = some (.int .i64 A) := by rw [hU]; simp [go_sem]
  have r0 := kept_cell AU.out s0
  have r1 := kept_cell AU.out s1
  have r2 := kept_cell AU.out s2
  have r3 := kept_cell AU.out s3
  have r4 := kept_cell AU.out s4
  have r5 := kept_cell AU.out s5
  have r6 := kept_cell AU.out s6
  have r7 := kept_cell AU.out s7
  have r8 := kept_cell AU.out s8
  have zs : w.heap.size + 1 < U0.heap.size := by have := HU0.out; omega
  have rf : ∀ j, U.frozen? ⟨w.heap.size + 1, j, none⟩ = false := fun j => by rw [AU.out.frozen (p := ⟨w.heap.size + 1, j, none⟩) zs]; exact sf j
  have hzu : w.heap.size + 1 < U.heap.size := lt_of_cell r0
  clear hU c0 c1 q0 f2 sf zs s0 s1 s2 s3 s4 s5 s6 s7 s8
  have gp0 := cell_regrown p0
  have gf1 := cell_regrown f1
  have SH : Hid (∀ u, Below U.heap.size U u → Calls Tryz.prog 40 #[.agg #[.slice (some ⟨b0, o0, none⟩) pn pc], .int .i64 (f : Int), .int .i64 (q : Int)] u fun e w' => e = .returned (.int .i64 H) ∧ Below u.heap.size u w') := hid (fun u hu => by have h := refHeight_any _ _ _ ps (f : Int) (q : Int) u (HP.out.kept (kt B.out hu)); rwa [HG.out] at h)
  refine wp_region_quiet_below (by kernel_rfl) (by kernel_rfl) ?_
  repeat (go_big_quiet_step (first | (go_at_call 40; exact Calls.regrown_of (SH.out _ (below_regrown _ _ _)))))
  refine wpQuiet_nil ?_
  intro _ hw'
  obtain ⟨⟨dq, osq⟩, hw''⟩ := hw'
  subst hw''
  go_upto_region 4 with fail
  refine wp_name ?_
  intro W2 hW2
  have bq : Below U.heap.size U W2 := by rw [hW2]; exact below_regrown _ _ _
  clear hW2
  have B2 := hid (kt B.out bq)
  have rf2 := fun j : Nat => (bq.frozen (p := ⟨w.heap.size + 1, j, none⟩) (by show w.heap.size + 1 < U.heap.size; omega)).trans (rf j)
  replace x0 := kept_cell bq x0
  replace x1 := kept_cell bq x1
  replace r0 := kept_cell bq r0
  replace r1 := kept_cell bq r1
  replace r2 := kept_cell bq r2
  replace r3 := kept_cell bq r3
  replace r4 := kept_cell bq r4
  replace r5 := kept_cell bq r5
  replace r6 := kept_cell bq r6
  replace r7 := kept_cell bq r7
  replace r8 := kept_cell bq r8
  have hz2 := lt_of_cell x0
  have hz3 := lt_of_cell r0
  have HSZ : Hid (w.heap.size ≤ W2.heap.size) := hid (by omega)
  clear gp0 gf1 p0 f1 SH rf bq
  by_cases h0 : K = 0
  · subst h0
    have EO : Hid (oneV ps T (q : Int) (0, A) = (1, T, 0, 0, A, [], 1, 0, (q : Int))) := hid (by simp [oneV])
    go_upto_region 51 with fail
    refine wp_name ?_
    intro Y hY
    have bY : Below W2.heap.size W2 Y := by rw [hY]; exact Below.alloc (Below.refl _ _) (Nat.le_refl _) _
    have y0 : Y.cell? ⟨W2.heap.size, 0, none⟩ = some (.int .i64 1) := by rw [hY]; simp [go_sem]
    replace r0 := kept_cell bY r0
    have y1 : Y.cell? ⟨W2.heap.size, 1, none⟩ = some (.int .i64 T) := by rw [hY]; simp [go_sem]
    replace r1 := kept_cell bY r1
    have y2 : Y.cell? ⟨W2.heap.size, 2, none⟩ = some (.int .i64 0) := by rw [hY]; simp [go_sem]
    replace r2 := kept_cell bY r2
    have y3 : Y.cell? ⟨W2.heap.size, 3, none⟩ = some (.int .i64 0) := by rw [hY]; simp [go_sem]
    replace r3 := kept_cell bY r3
    have y4 : Y.cell? ⟨W2.heap.size, 4, none⟩ = some (.int .i64 A) := by rw [hY]; simp [go_sem]
    replace r4 := kept_cell bY r4
    have y5 : Y.cell? ⟨W2.heap.size, 5, none⟩ = some (.slice none 0 0) := by rw [hY]; simp [go_sem]
    replace r5 := kept_cell bY r5
    have y6 : Y.cell? ⟨W2.heap.size, 6, none⟩ = some (.int .i64 1) := by rw [hY]; simp [go_sem]
    replace r6 := kept_cell bY r6
    have y7 : Y.cell? ⟨W2.heap.size, 7, none⟩ = some (.int .i64 0) := by rw [hY]; simp [go_sem]
    replace r7 := kept_cell bY r7
    have y8 : Y.cell? ⟨W2.heap.size, 8, none⟩ = some (.int .i64 (q : Int)) := by rw [hY]; simp [go_sem]
    replace r8 := kept_cell bY r8
    have BY := hid (kt B2.out bY)
    have yf := fun j : Nat => (bY.frozen (p := ⟨w.heap.size + 1, j, none⟩) hz3).trans (rf2 j)
    clear hY bY x0 x1 rf2 B2 B hz2 hz3 hzu
    go_wp2_with fail
    refine bodyPost_ret (v := .agg #[.int .i64 1, .int .i64 T, .int .i64 0, .int .i64 0, .int .i64 A, .slice none 0 0, .int .i64 1, .int .i64 0, .int .i64 (q : Int)]) (by simp [results, Tryz.results46, go_sem, r0, r1, r2, r3, r4, r5, r6, r7, r8]) rfl ⟨_, _, _, _, _, rfl, EO.out, ?_⟩
    repeat (first | with_reducible exact BY.out | with_reducible refine Below.setCell ?_ (by simp) _)
  have g0 : (K == 0) = false := by simpa using h0
  by_cases h1 : K = 1
  · subst h1
    have EO : Hid (oneV ps T (q : Int) (1, A) = (2, T, A, 0, 0, [], 1, 0, (q : Int))) := hid (by simp [oneV])
    go_upto_region 51 with fail
    refine wp_name ?_
    intro Y hY
    have bY : Below W2.heap.size W2 Y := by rw [hY]; exact Below.alloc (Below.refl _ _) (Nat.le_refl _) _
    have y0 : Y.cell? ⟨W2.heap.size, 0, none⟩ = some (.int .i64 2) := by rw [hY]; simp [go_sem]
    replace r0 := kept_cell bY r0
    have y1 : Y.cell? ⟨W2.heap.size, 1, none⟩ = some (.int .i64 T) := by rw [hY]; simp [go_sem]
    replace r1 := kept_cell bY r1
    have y2 : Y.cell? ⟨W2.heap.size, 2, none⟩ = some (.int .i64 A) := by rw [hY]; simp [go_sem]
    replace r2 := kept_cell bY r2
    have y3 : Y.cell? ⟨W2.heap.size, 3, none⟩ = some (.int .i64 0) := by rw [hY]; simp [go_sem]
    replace r3 := kept_cell bY r3
    have y4 : Y.cell? ⟨W2.heap.size, 4, none⟩ = some (.int .i64 0) := by rw [hY]; simp [go_sem]
    replace r4 := kept_cell bY r4
    have y5 : Y.cell? ⟨W2.heap.size, 5, none⟩ = some (.slice none 0 0) := by rw [hY]; simp [go_sem]
    replace r5 := kept_cell bY r5
    have y6 : Y.cell? ⟨W2.heap.size, 6, none⟩ = some (.int .i64 1) := by rw [hY]; simp [go_sem]
    replace r6 := kept_cell bY r6
    have y7 : Y.cell? ⟨W2.heap.size, 7, none⟩ = some (.int .i64 0) := by rw [hY]; simp [go_sem]
    replace r7 := kept_cell bY r7
    have y8 : Y.cell? ⟨W2.heap.size, 8, none⟩ = some (.int .i64 (q : Int)) := by rw [hY]; simp [go_sem]
    replace r8 := kept_cell bY r8
    have BY := hid (kt B2.out bY)
    have yf := fun j : Nat => (bY.frozen (p := ⟨w.heap.size + 1, j, none⟩) hz3).trans (rf2 j)
    clear hY bY x0 x1 rf2 B2 B hz2 hz3 hzu
    go_wp2_with fail
    refine bodyPost_ret (v := .agg #[.int .i64 2, .int .i64 T, .int .i64 A, .int .i64 0, .int .i64 0, .slice none 0 0, .int .i64 1, .int .i64 0, .int .i64 (q : Int)]) (by simp [results, Tryz.results46, go_sem, r0, r1, r2, r3, r4, r5, r6, r7, r8]) rfl ⟨_, _, _, _, _, rfl, EO.out, ?_⟩
    repeat (first | with_reducible exact BY.out | with_reducible refine Below.setCell ?_ (by simp) _)
  have g1 : (K == 1) = false := by simpa using h1
  by_cases h2 : K = 2
  · subst h2
    have EO : Hid (oneV ps T (q : Int) (2, A) = (2, A, (T - 1), 0, 0, [], 1, 0, (q : Int))) := hid (by simp [oneV])
    go_upto_region 51 with fail
    refine wp_name ?_
    intro Y hY
    have bY : Below W2.heap.size W2 Y := by rw [hY]; exact Below.alloc (Below.refl _ _) (Nat.le_refl _) _
    have y0 : Y.cell? ⟨W2.heap.size, 0, none⟩ = some (.int .i64 2) := by rw [hY]; simp [go_sem]
    replace r0 := kept_cell bY r0
    have y1 : Y.cell? ⟨W2.heap.size, 1, none⟩ = some (.int .i64 A) := by rw [hY]; simp [go_sem]
    replace r1 := kept_cell bY r1
    have y2 : Y.cell? ⟨W2.heap.size, 2, none⟩ = some (.int .i64 (T - 1)) := by rw [hY]; simp [go_sem]
    replace r2 := kept_cell bY r2
    have y3 : Y.cell? ⟨W2.heap.size, 3, none⟩ = some (.int .i64 0) := by rw [hY]; simp [go_sem]
    replace r3 := kept_cell bY r3
    have y4 : Y.cell? ⟨W2.heap.size, 4, none⟩ = some (.int .i64 0) := by rw [hY]; simp [go_sem]
    replace r4 := kept_cell bY r4
    have y5 : Y.cell? ⟨W2.heap.size, 5, none⟩ = some (.slice none 0 0) := by rw [hY]; simp [go_sem]
    replace r5 := kept_cell bY r5
    have y6 : Y.cell? ⟨W2.heap.size, 6, none⟩ = some (.int .i64 1) := by rw [hY]; simp [go_sem]
    replace r6 := kept_cell bY r6
    have y7 : Y.cell? ⟨W2.heap.size, 7, none⟩ = some (.int .i64 0) := by rw [hY]; simp [go_sem]
    replace r7 := kept_cell bY r7
    have y8 : Y.cell? ⟨W2.heap.size, 8, none⟩ = some (.int .i64 (q : Int)) := by rw [hY]; simp [go_sem]
    replace r8 := kept_cell bY r8
    have BY := hid (kt B2.out bY)
    have yf := fun j : Nat => (bY.frozen (p := ⟨w.heap.size + 1, j, none⟩) hz3).trans (rf2 j)
    clear hY bY x0 x1 rf2 B2 B hz2 hz3 hzu
    go_wp2_with fail
    refine bodyPost_ret (v := .agg #[.int .i64 2, .int .i64 A, .int .i64 (T - 1), .int .i64 0, .int .i64 0, .slice none 0 0, .int .i64 1, .int .i64 0, .int .i64 (q : Int)]) (by simp [results, Tryz.results46, go_sem, r0, r1, r2, r3, r4, r5, r6, r7, r8]) rfl ⟨_, _, _, _, _, rfl, EO.out, ?_⟩
    repeat (first | with_reducible exact BY.out | with_reducible refine Below.setCell ?_ (by simp) _)
  have g2 : (K == 2) = false := by simpa using h2
  by_cases h10 : K = 10
  · subst h10
    have EO : Hid (oneV ps T (q : Int) (10, A) = (2, T, (T - 1), 0, 0, [], 1, 0, (q : Int))) := hid (by simp [oneV])
    go_upto_region 51 with fail
    refine wp_name ?_
    intro Y hY
    have bY : Below W2.heap.size W2 Y := by rw [hY]; exact Below.alloc (Below.refl _ _) (Nat.le_refl _) _
    have y0 : Y.cell? ⟨W2.heap.size, 0, none⟩ = some (.int .i64 2) := by rw [hY]; simp [go_sem]
    replace r0 := kept_cell bY r0
    have y1 : Y.cell? ⟨W2.heap.size, 1, none⟩ = some (.int .i64 T) := by rw [hY]; simp [go_sem]
    replace r1 := kept_cell bY r1
    have y2 : Y.cell? ⟨W2.heap.size, 2, none⟩ = some (.int .i64 (T - 1)) := by rw [hY]; simp [go_sem]
    replace r2 := kept_cell bY r2
    have y3 : Y.cell? ⟨W2.heap.size, 3, none⟩ = some (.int .i64 0) := by rw [hY]; simp [go_sem]
    replace r3 := kept_cell bY r3
    have y4 : Y.cell? ⟨W2.heap.size, 4, none⟩ = some (.int .i64 0) := by rw [hY]; simp [go_sem]
    replace r4 := kept_cell bY r4
    have y5 : Y.cell? ⟨W2.heap.size, 5, none⟩ = some (.slice none 0 0) := by rw [hY]; simp [go_sem]
    replace r5 := kept_cell bY r5
    have y6 : Y.cell? ⟨W2.heap.size, 6, none⟩ = some (.int .i64 1) := by rw [hY]; simp [go_sem]
    replace r6 := kept_cell bY r6
    have y7 : Y.cell? ⟨W2.heap.size, 7, none⟩ = some (.int .i64 0) := by rw [hY]; simp [go_sem]
    replace r7 := kept_cell bY r7
    have y8 : Y.cell? ⟨W2.heap.size, 8, none⟩ = some (.int .i64 (q : Int)) := by rw [hY]; simp [go_sem]
    replace r8 := kept_cell bY r8
    have BY := hid (kt B2.out bY)
    have yf := fun j : Nat => (bY.frozen (p := ⟨w.heap.size + 1, j, none⟩) hz3).trans (rf2 j)
    clear hY bY x0 x1 rf2 B2 B hz2 hz3 hzu
    go_wp2_with fail
    refine bodyPost_ret (v := .agg #[.int .i64 2, .int .i64 T, .int .i64 (T - 1), .int .i64 0, .int .i64 0, .slice none 0 0, .int .i64 1, .int .i64 0, .int .i64 (q : Int)]) (by simp [results, Tryz.results46, go_sem, r0, r1, r2, r3, r4, r5, r6, r7, r8]) rfl ⟨_, _, _, _, _, rfl, EO.out, ?_⟩
    repeat (first | with_reducible exact BY.out | with_reducible refine Below.setCell ?_ (by simp) _)
  have g10 : (K == 10) = false := by simpa using h10
  by_cases h11 : K = 11
  · subst h11
    have EO : Hid (oneV ps T (q : Int) (11, A) = (0, 0, 0, 0, 0, [], 1, 0, (q : Int))) := hid (by simp [oneV])
    go_upto_region 51 with fail
    refine wp_name ?_
    intro Y hY
    have bY : Below W2.heap.size W2 Y := by rw [hY]; exact Below.alloc (Below.refl _ _) (Nat.le_refl _) _
    have y0 : Y.cell? ⟨W2.heap.size, 0, none⟩ = some (.int .i64 0) := by rw [hY]; simp [go_sem]
    replace r0 := kept_cell bY r0
    have y1 : Y.cell? ⟨W2.heap.size, 1, none⟩ = some (.int .i64 0) := by rw [hY]; simp [go_sem]
    replace r1 := kept_cell bY r1
    have y2 : Y.cell? ⟨W2.heap.size, 2, none⟩ = some (.int .i64 0) := by rw [hY]; simp [go_sem]
    replace r2 := kept_cell bY r2
    have y3 : Y.cell? ⟨W2.heap.size, 3, none⟩ = some (.int .i64 0) := by rw [hY]; simp [go_sem]
    replace r3 := kept_cell bY r3
    have y4 : Y.cell? ⟨W2.heap.size, 4, none⟩ = some (.int .i64 0) := by rw [hY]; simp [go_sem]
    replace r4 := kept_cell bY r4
    have y5 : Y.cell? ⟨W2.heap.size, 5, none⟩ = some (.slice none 0 0) := by rw [hY]; simp [go_sem]
    replace r5 := kept_cell bY r5
    have y6 : Y.cell? ⟨W2.heap.size, 6, none⟩ = some (.int .i64 1) := by rw [hY]; simp [go_sem]
    replace r6 := kept_cell bY r6
    have y7 : Y.cell? ⟨W2.heap.size, 7, none⟩ = some (.int .i64 0) := by rw [hY]; simp [go_sem]
    replace r7 := kept_cell bY r7
    have y8 : Y.cell? ⟨W2.heap.size, 8, none⟩ = some (.int .i64 (q : Int)) := by rw [hY]; simp [go_sem]
    replace r8 := kept_cell bY r8
    have BY := hid (kt B2.out bY)
    have yf := fun j : Nat => (bY.frozen (p := ⟨w.heap.size + 1, j, none⟩) hz3).trans (rf2 j)
    clear hY bY x0 x1 rf2 B2 B hz2 hz3 hzu
    go_wp2_with fail
    refine bodyPost_ret (v := .agg #[.int .i64 0, .int .i64 0, .int .i64 0, .int .i64 0, .int .i64 0, .slice none 0 0, .int .i64 1, .int .i64 0, .int .i64 (q : Int)]) (by simp [results, Tryz.results46, go_sem, r0, r1, r2, r3, r4, r5, r6, r7, r8]) rfl ⟨_, _, _, _, _, rfl, EO.out, ?_⟩
    repeat (first | with_reducible exact BY.out | with_reducible refine Below.setCell ?_ (by simp) _)
  have g11 : (K == 11) = false := by simpa using h11
  by_cases h12 : K = 12
  · subst h12
    have EO : Hid (oneV ps T (q : Int) (12, A) = (4, 0, 0, 0, A, [], 1, 0, (q : Int))) := hid (by simp [oneV])
    go_upto_region 51 with fail
    refine wp_name ?_
    intro Y hY
    have bY : Below W2.heap.size W2 Y := by rw [hY]; exact Below.alloc (Below.refl _ _) (Nat.le_refl _) _
    have y0 : Y.cell? ⟨W2.heap.size, 0, none⟩ = some (.int .i64 4) := by rw [hY]; simp [go_sem]
    replace r0 := kept_cell bY r0
    have y1 : Y.cell? ⟨W2.heap.size, 1, none⟩ = some (.int .i64 0) := by rw [hY]; simp [go_sem]
    replace r1 := kept_cell bY r1
    have y2 : Y.cell? ⟨W2.heap.size, 2, none⟩ = some (.int .i64 0) := by rw [hY]; simp [go_sem]
    replace r2 := kept_cell bY r2
    have y3 : Y.cell? ⟨W2.heap.size, 3, none⟩ = some (.int .i64 0) := by rw [hY]; simp [go_sem]
    replace r3 := kept_cell bY r3
    have y4 : Y.cell? ⟨W2.heap.size, 4, none⟩ = some (.int .i64 A) := by rw [hY]; simp [go_sem]
    replace r4 := kept_cell bY r4
    have y5 : Y.cell? ⟨W2.heap.size, 5, none⟩ = some (.slice none 0 0) := by rw [hY]; simp [go_sem]
    replace r5 := kept_cell bY r5
    have y6 : Y.cell? ⟨W2.heap.size, 6, none⟩ = some (.int .i64 1) := by rw [hY]; simp [go_sem]
    replace r6 := kept_cell bY r6
    have y7 : Y.cell? ⟨W2.heap.size, 7, none⟩ = some (.int .i64 0) := by rw [hY]; simp [go_sem]
    replace r7 := kept_cell bY r7
    have y8 : Y.cell? ⟨W2.heap.size, 8, none⟩ = some (.int .i64 (q : Int)) := by rw [hY]; simp [go_sem]
    replace r8 := kept_cell bY r8
    have BY := hid (kt B2.out bY)
    have yf := fun j : Nat => (bY.frozen (p := ⟨w.heap.size + 1, j, none⟩) hz3).trans (rf2 j)
    clear hY bY x0 x1 rf2 B2 B hz2 hz3 hzu
    go_wp2_with fail
    refine bodyPost_ret (v := .agg #[.int .i64 4, .int .i64 0, .int .i64 0, .int .i64 0, .int .i64 A, .slice none 0 0, .int .i64 1, .int .i64 0, .int .i64 (q : Int)]) (by simp [results, Tryz.results46, go_sem, r0, r1, r2, r3, r4, r5, r6, r7, r8]) rfl ⟨_, _, _, _, _, rfl, EO.out, ?_⟩
    repeat (first | with_reducible exact BY.out | with_reducible refine Below.setCell ?_ (by simp) _)
  have g12 : (K == 12) = false := by simpa using h12
  by_cases h13 : K = 13
  · subst h13
    have EO : Hid (oneV ps T (q : Int) (13, A) = (5, 0, (T - 1), 0, A, [], 1, 0, (q : Int))) := hid (by simp [oneV])
    go_upto_region 51 with fail
    refine wp_name ?_
    intro Y hY
    have bY : Below W2.heap.size W2 Y := by rw [hY]; exact Below.alloc (Below.refl _ _) (Nat.le_refl _) _
    have y0 : Y.cell? ⟨W2.heap.size, 0, none⟩ = some (.int .i64 5) := by rw [hY]; simp [go_sem]
    replace r0 := kept_cell bY r0
    have y1 : Y.cell? ⟨W2.heap.size, 1, none⟩ = some (.int .i64 0) := by rw [hY]; simp [go_sem]
    replace r1 := kept_cell bY r1
    have y2 : Y.cell? ⟨W2.heap.size, 2, none⟩ = some (.int .i64 (T - 1)) := by rw [hY]; simp [go_sem]
    replace r2 := kept_cell bY r2
    have y3 : Y.cell? ⟨W2.heap.size, 3, none⟩ = some (.int .i64 0) := by rw [hY]; simp [go_sem]
    replace r3 := kept_cell bY r3
    have y4 : Y.cell? ⟨W2.heap.size, 4, none⟩ = some (.int .i64 A) := by rw [hY]; simp [go_sem]
    replace r4 := kept_cell bY r4
    have y5 : Y.cell? ⟨W2.heap.size, 5, none⟩ = some (.slice none 0 0) := by rw [hY]; simp [go_sem]
    replace r5 := kept_cell bY r5
    have y6 : Y.cell? ⟨W2.heap.size, 6, none⟩ = some (.int .i64 1) := by rw [hY]; simp [go_sem]
    replace r6 := kept_cell bY r6
    have y7 : Y.cell? ⟨W2.heap.size, 7, none⟩ = some (.int .i64 0) := by rw [hY]; simp [go_sem]
    replace r7 := kept_cell bY r7
    have y8 : Y.cell? ⟨W2.heap.size, 8, none⟩ = some (.int .i64 (q : Int)) := by rw [hY]; simp [go_sem]
    replace r8 := kept_cell bY r8
    have BY := hid (kt B2.out bY)
    have yf := fun j : Nat => (bY.frozen (p := ⟨w.heap.size + 1, j, none⟩) hz3).trans (rf2 j)
    clear hY bY x0 x1 rf2 B2 B hz2 hz3 hzu
    go_wp2_with fail
    refine bodyPost_ret (v := .agg #[.int .i64 5, .int .i64 0, .int .i64 (T - 1), .int .i64 0, .int .i64 A, .slice none 0 0, .int .i64 1, .int .i64 0, .int .i64 (q : Int)]) (by simp [results, Tryz.results46, go_sem, r0, r1, r2, r3, r4, r5, r6, r7, r8]) rfl ⟨_, _, _, _, _, rfl, EO.out, ?_⟩
    repeat (first | with_reducible exact BY.out | with_reducible refine Below.setCell ?_ (by simp) _)
  have g13 : (K == 13) = false := by simpa using h13
  by_cases h15 : K = 15
  · subst h15
    have EO : Hid (oneV ps T (q : Int) (15, A) = (7, 0, (T - 1), 0, 0, [], 1, 0, (q : Int))) := hid (by simp [oneV])
    go_upto_region 51 with fail
    refine wp_name ?_
    intro Y hY
    have bY : Below W2.heap.size W2 Y := by rw [hY]; exact Below.alloc (Below.refl _ _) (Nat.le_refl _) _
    have y0 : Y.cell? ⟨W2.heap.size, 0, none⟩ = some (.int .i64 7) := by rw [hY]; simp [go_sem]
    replace r0 := kept_cell bY r0
    have y1 : Y.cell? ⟨W2.heap.size, 1, none⟩ = some (.int .i64 0) := by rw [hY]; simp [go_sem]
    replace r1 := kept_cell bY r1
    have y2 : Y.cell? ⟨W2.heap.size, 2, none⟩ = some (.int .i64 (T - 1)) := by rw [hY]; simp [go_sem]
    replace r2 := kept_cell bY r2
    have y3 : Y.cell? ⟨W2.heap.size, 3, none⟩ = some (.int .i64 0) := by rw [hY]; simp [go_sem]
    replace r3 := kept_cell bY r3
    have y4 : Y.cell? ⟨W2.heap.size, 4, none⟩ = some (.int .i64 0) := by rw [hY]; simp [go_sem]
    replace r4 := kept_cell bY r4
    have y5 : Y.cell? ⟨W2.heap.size, 5, none⟩ = some (.slice none 0 0) := by rw [hY]; simp [go_sem]
    replace r5 := kept_cell bY r5
    have y6 : Y.cell? ⟨W2.heap.size, 6, none⟩ = some (.int .i64 1) := by rw [hY]; simp [go_sem]
    replace r6 := kept_cell bY r6
    have y7 : Y.cell? ⟨W2.heap.size, 7, none⟩ = some (.int .i64 0) := by rw [hY]; simp [go_sem]
    replace r7 := kept_cell bY r7
    have y8 : Y.cell? ⟨W2.heap.size, 8, none⟩ = some (.int .i64 (q : Int)) := by rw [hY]; simp [go_sem]
    replace r8 := kept_cell bY r8
    have BY := hid (kt B2.out bY)
    have yf := fun j : Nat => (bY.frozen (p := ⟨w.heap.size + 1, j, none⟩) hz3).trans (rf2 j)
    clear hY bY x0 x1 rf2 B2 B hz2 hz3 hzu
    go_wp2_with fail
    refine bodyPost_ret (v := .agg #[.int .i64 7, .int .i64 0, .int .i64 (T - 1), .int .i64 0, .int .i64 0, .slice none 0 0, .int .i64 1, .int .i64 0, .int .i64 (q : Int)]) (by simp [results, Tryz.results46, go_sem, r0, r1, r2, r3, r4, r5, r6, r7, r8]) rfl ⟨_, _, _, _, _, rfl, EO.out, ?_⟩
    repeat (first | with_reducible exact BY.out | with_reducible refine Below.setCell ?_ (by simp) _)
  have g15 : (K == 15) = false := by simpa using h15
  by_cases h16 : K = 16
  · subst h16
    have EO : Hid (oneV ps T (q : Int) (16, A) = (8, 0, (T - 1), 0, 0, [], 1, 0, (q : Int))) := hid (by simp [oneV])
    go_upto_region 51 with fail
    refine wp_name ?_
    intro Y hY
    have bY : Below W2.heap.size W2 Y := by rw [hY]; exact Below.alloc (Below.refl _ _) (Nat.le_refl _) _
    have y0 : Y.cell? ⟨W2.heap.size, 0, none⟩ = some (.int .i64 8) := by rw [hY]; simp [go_sem]
    replace r0 := kept_cell bY r0
    have y1 : Y.cell? ⟨W2.heap.size, 1, none⟩ = some (.int .i64 0) := by rw [hY]; simp [go_sem]
    replace r1 := kept_cell bY r1
    have y2 : Y.cell? ⟨W2.heap.size, 2, none⟩ = some (.int .i64 (T - 1)) := by rw [hY]; simp [go_sem]
    replace r2 := kept_cell bY r2
    have y3 : Y.cell? ⟨W2.heap.size, 3, none⟩ = some (.int .i64 0) := by rw [hY]; simp [go_sem]
    replace r3 := kept_cell bY r3
    have y4 : Y.cell? ⟨W2.heap.size, 4, none⟩ = some (.int .i64 0) := by rw [hY]; simp [go_sem]
    replace r4 := kept_cell bY r4
    have y5 : Y.cell? ⟨W2.heap.size, 5, none⟩ = some (.slice none 0 0) := by rw [hY]; simp [go_sem]
    replace r5 := kept_cell bY r5
    have y6 : Y.cell? ⟨W2.heap.size, 6, none⟩ = some (.int .i64 1) := by rw [hY]; simp [go_sem]
    replace r6 := kept_cell bY r6
    have y7 : Y.cell? ⟨W2.heap.size, 7, none⟩ = some (.int .i64 0) := by rw [hY]; simp [go_sem]
    replace r7 := kept_cell bY r7
    have y8 : Y.cell? ⟨W2.heap.size, 8, none⟩ = some (.int .i64 (q : Int)) := by rw [hY]; simp [go_sem]
    replace r8 := kept_cell bY r8
    have BY := hid (kt B2.out bY)
    have yf := fun j : Nat => (bY.frozen (p := ⟨w.heap.size + 1, j, none⟩) hz3).trans (rf2 j)
    clear hY bY x0 x1 rf2 B2 B hz2 hz3 hzu
    go_wp2_with fail
    refine bodyPost_ret (v := .agg #[.int .i64 8, .int .i64 0, .int .i64 (T - 1), .int .i64 0, .int .i64 0, .slice none 0 0, .int .i64 1, .int .i64 0, .int .i64 (q : Int)]) (by simp [results, Tryz.results46, go_sem, r0, r1, r2, r3, r4, r5, r6, r7, r8]) rfl ⟨_, _, _, _, _, rfl, EO.out, ?_⟩
    repeat (first | with_reducible exact BY.out | with_reducible refine Below.setCell ?_ (by simp) _)
  have g16 : (K == 16) = false := by simpa using h16
  have EO : Hid (oneV ps T (q : Int) (K, A) = (3, (T - 2), (T - 2), (T - 1), K, [], 1, 0, (q : Int))) := hid (by simp [oneV, h0, h1, h2, h10, h11, h12, h13, h15, h16, hk])
  go_upto_region 51 with fail
  refine wp_name ?_
  intro Y hY
  have bY : Below W2.heap.size W2 Y := by rw [hY]; exact Below.alloc (Below.refl _ _) (Nat.le_refl _) _
  have y0 : Y.cell? ⟨W2.heap.size, 0, none⟩ = some (.int .i64 3) := by rw [hY]; simp [go_sem]
  replace r0 := kept_cell bY r0
  have y1 : Y.cell? ⟨W2.heap.size, 1, none⟩ = some (.int .i64 (T - 2)) := by rw [hY]; simp [go_sem]
  replace r1 := kept_cell bY r1
  have y2 : Y.cell? ⟨W2.heap.size, 2, none⟩ = some (.int .i64 (T - 2)) := by rw [hY]; simp [go_sem]
  replace r2 := kept_cell bY r2
  have y3 : Y.cell? ⟨W2.heap.size, 3, none⟩ = some (.int .i64 (T - 1)) := by rw [hY]; simp [go_sem]
  replace r3 := kept_cell bY r3
  have y4 : Y.cell? ⟨W2.heap.size, 4, none⟩ = some (.int .i64 K) := by rw [hY]; simp [go_sem]
  replace r4 := kept_cell bY r4
  have y5 : Y.cell? ⟨W2.heap.size, 5, none⟩ = some (.slice none 0 0) := by rw [hY]; simp [go_sem]
  replace r5 := kept_cell bY r5
  have y6 : Y.cell? ⟨W2.heap.size, 6, none⟩ = some (.int .i64 1) := by rw [hY]; simp [go_sem]
  replace r6 := kept_cell bY r6
  have y7 : Y.cell? ⟨W2.heap.size, 7, none⟩ = some (.int .i64 0) := by rw [hY]; simp [go_sem]
  replace r7 := kept_cell bY r7
  have y8 : Y.cell? ⟨W2.heap.size, 8, none⟩ = some (.int .i64 (q : Int)) := by rw [hY]; simp [go_sem]
  replace r8 := kept_cell bY r8
  have BY := hid (kt B2.out bY)
  have yf := fun j : Nat => (bY.frozen (p := ⟨w.heap.size + 1, j, none⟩) hz3).trans (rf2 j)
  clear hY bY x0 x1 rf2 B2 B hz2 hz3 hzu
  go_wp2_with fail
  refine bodyPost_ret (v := .agg #[.int .i64 3, .int .i64 (T - 2), .int .i64 (T - 2), .int .i64 (T - 1), .int .i64 K, .slice none 0 0, .int .i64 1, .int .i64 0, .int .i64 (q : Int)]) (by simp [results, Tryz.results46, go_sem, r0, r1, r2, r3, r4, r5, r6, r7, r8]) rfl ⟨_, _, _, _, _, rfl, EO.out, ?_⟩
  repeat (first | with_reducible exact BY.out | with_reducible refine Below.setCell ?_ (by simp) _)

end Go.Proofs.YtfnfbebkeoilfaaGreatDoor
