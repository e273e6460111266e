/- The document's own answer: what an instruction becomes (one), whatever it is but a call. Written by refonegen.py. The document's own Lower of a straight function: all of it reached, no jump, no call. Written by lowsgen.py. Register code that may be, and what may not be in it, one thing at a time; how it lies where it is written out. -/
import Derived.Test.YtaimpljkbpnigaaGreatDoorJ6b
import Derived.Test.YtaimpljkbpnigaaGreatDoorJ10g
import Derived.Test.YtaimpljkbpnigaaGreatDoorJ11e
import Derived.Deep.DeepCutAuto
import Derived.Test.YtaimpljkbpnigaaGreatDoorJ10d
import Derived.Test.YtaimpljkbpnigaaGreatDoorJ9b
import Derived.Deep.OwnRows
import Derived.Laws.MakeOwn
import Derived.Deep.RegionHeld3
import Derived.Deep.AppendLies
import Derived.Lib.QuietBelow
namespace Go.Proofs.YtaimpljkbpnigaaGreatDoor
open Go.RowKit
set_option linter.unusedVariables false

set_option maxRecDepth 100000 in
set_option maxHeartbeats 8000000 in
theorem refOne_any (pa : Option Addr) (pn pc : Nat) (ps : List Fn) (f q : Nat) (gx gy : Int) (fl : List (Int × Int)) (K A : Int) (w : World) (hp : Fns w pa pn pc ps) (hh : 0 ≤ heightV ps (f : Int) (q : Int)) (e3 : ps.getD f noFn = (gx, gy, fl)) (hx : fl[q]? = some (K, A)) (hk : ¬ K = 14) :
    Calls Tryz.prog 28 #[.agg #[.slice pa pn pc], .int .i64 (f : Int), .int .i64 (q : Int)] w fun e w' => ∃ kd r ra rb k, e = .returned (.agg #[.int .i64 kd, .int .i64 r, .int .i64 ra, .int .i64 rb, .int .i64 k, .slice none 0 0, .int .i64 1, .int .i64 0, .int .i64 (q : Int)]) ∧ oneV ps (gy + heightV ps (f : Int) (q : Int)) (q : Int) (K, A) = (kd, r, ra, rb, k, [], 1, 0, (q : Int)) ∧ Below w.heap.size w w' := by
  have HP := hid hp
  have LP := hid hp.len
  have hpr := hp.room
  have hpc := hp.cap
  have hbd := height_le ps (f : Int) (q : Int)
  obtain ⟨f', q', hf', hq', hf, hq, he, _, _⟩ := reached_in hh
  obtain rfl : f = f' := by omega
  obtain rfl : q = q' := by omega
  have hpk := (hts_ok he).1
  have hfn : f < pn := by rw [LP.out]; exact hf
  have hvf := fnB_bd (fnB_of hpk hf e3)
  obtain ⟨b0, o0, gx', gy', ga, gn, gc, gl, rfl, e3', d0, d1, d2, i3⟩ := hp.at f hfn
  have e := e3.symm.trans e3'
  obtain ⟨rfl, rfl, rfl⟩ : gx = gx' ∧ gy = gy' ∧ fl = gl := by cases e; exact ⟨rfl, rfl, rfl⟩
  have hqn : q < gn := by rw [i3.len]; exact (List.getElem?_eq_some_iff.1 hx).1
  have hgr := i3.room
  have hgc := i3.cap
  obtain ⟨b1, o1, K', A', rfl, e7, c0, c1⟩ := i3.at q hqn
  have ex : (K, A) = (K', A') := by
    rw [List.getD_eq_getElem?_getD, hx] at e7; exact e7
  obtain ⟨rfl, rfl⟩ : K = K' ∧ A = A' := by cases ex; exact ⟨rfl, rfl⟩
  have hk' : (K == 14) = false := by simpa using hk
  have hq64 : q < 64 := by have := i3.len; omega
  have z0 := lt_of_cell d0
  have z1 := lt_of_cell c0
  have hgy : 0 ≤ gy ∧ gy ≤ 8 := by omega
  clear hf' hq' hq he hpk hp e3' e i3 e7 ex hx hvf e3
  have HH := hid hh
  generalize hG : heightV ps (f : Int) (q : Int) = H at hh hbd
  obtain ⟨T, hT⟩ : ∃ T : Int, gy + H = T := ⟨_, rfl⟩
  have hTb : 0 ≤ T ∧ T ≤ 16 := by omega
  have HG := hid hG
  rw [hT]
  clear hG
  go_enter Tryz.func28, Tryz.ntmps28
  go_upto_region 2 with fail
  refine wp_name ?_
  intro U0 hU0
  have B0 : Hid (Below w.heap.size w U0) := hid (by rw [hU0]; go_grown)
  have q0 : U0.cell? ⟨w.heap.size, 0, none⟩ = some (.slice (some ⟨b0, o0, none⟩) pn pc) := by rw [hU0]; simp [go_sem]
  have f1 : U0.cell? ⟨w.heap.size + 1 + 1, 1, none⟩ = some (.int .i64 gy) := by rw [hU0]; simp [go_sem]
  have f2 : U0.cell? ⟨w.heap.size + 1 + 1, 2, none⟩ = some (.slice (some ⟨b1, o1, none⟩) gn gc) := by rw [hU0]; simp [go_sem]
  have s0 : U0.cell? ⟨w.heap.size + 1, 0, none⟩ = some (.int .i64 0) := by rw [hU0]; simp [go_sem]
  have s1 : U0.cell? ⟨w.heap.size + 1, 1, none⟩ = some (.int .i64 0) := by rw [hU0]; simp [go_sem]
  have s2 : U0.cell? ⟨w.heap.size + 1, 2, none⟩ = some (.int .i64 0) := by rw [hU0]; simp [go_sem]
  have s3 : U0.cell? ⟨w.heap.size + 1, 3, none⟩ = some (.int .i64 0) := by rw [hU0]; simp [go_sem]
  have s4 : U0.cell? ⟨w.heap.size + 1, 4, none⟩ = some (.int .i64 0) := by rw [hU0]; simp [go_sem]
  have s5 : U0.cell? ⟨w.heap.size + 1, 5, none⟩ = some (.slice none 0 0) := by rw [hU0]; simp [go_sem]
  have s6 : U0.cell? ⟨w.heap.size + 1, 6, none⟩ = some (.int .i64 0) := by rw [hU0]; simp [go_sem]
  have s7 : U0.cell? ⟨w.heap.size + 1, 7, none⟩ = some (.int .i64 0) := by rw [hU0]; simp [go_sem]
  have s8 : U0.cell? ⟨w.heap.size + 1, 8, none⟩ = some (.int .i64 0) := by rw [hU0]; simp [go_sem]
  have sf : ∀ j, U0.frozen? ⟨w.heap.size + 1, j, none⟩ = false := by intro j; rw [hU0]; simp [go_sem]
  have hu0 : U0.heap.size = w.heap.size + 1 + 1 + 1 := by rw [hU0]; simp
  replace c0 := kept_cell B0.out c0
  replace c1 := kept_cell B0.out c1
  clear hU0 d0 d1 d2 z0 z1
  have HU0 := hid hu0
  clear hu0
  go_upto_region 3 with fail
  refine wp_name ?_
  intro U hU
  have AU : Hid (Below U0.heap.size U0 U) := hid (by rw [hU]; exact Below.alloc (Below.refl _ _) (Nat.le_refl _) _)
  have B : Hid (Below w.heap.size w U) := hid (kt B0.out AU.out)
  have p0 := kept_cell AU.out q0
  have f1 := kept_cell AU.out f1
  have x0 : U.cell? ⟨U0.heap.size, 0, none⟩ = some (.int .i64 K) := by rw [hU]; simp [go_sem]
  have x1 : U.cell? ⟨U0.heap.size, 1, none⟩ = some (.int .i64 A) := by rw [hU]; simp [go_sem]
  have r0 := kept_cell AU.out s0
  have r1 := kept_cell AU.out s1
  have r2 := kept_cell AU.out s2
  have r3 := kept_cell AU.out s3
  have r4 := kept_cell AU.out s4
  have r5 := kept_cell AU.out s5
  have r6 := kept_cell AU.out s6
  have r7 := kept_cell AU.out s7
  have r8 := kept_cell AU.out s8
  have zs : w.heap.size + 1 < U0.heap.size := by have := HU0.out; omega
  have rf : ∀ j, U.frozen? ⟨w.heap.size + 1, j, none⟩ = false := fun j => by rw [AU.out.frozen (p := ⟨w.heap.size + 1, j, none⟩) zs]; exact sf j
  have hzu : w.heap.size + 1 < U.heap.size := lt_of_cell r0
  clear hU c0 c1 q0 f2 sf zs s0 s1 s2 s3 s4 s5 s6 s7 s8
  have gp0 := cell_regrown p0
  have gf1 := cell_regrown f1
  have SH : Hid (∀ u, Below U.heap.size U u → Calls Tryz.prog 26 #[.agg #[.slice (some ⟨b0, o0, none⟩) pn pc], .int .i64 (f : Int), .int .i64 (q : Int)] u fun e w' => e = .returned (.int .i64 H) ∧ Below u.heap.size u w') := hid (fun u hu => by have h := refHeight_any _ _ _ ps (f : Int) (q : Int) u (HP.out.kept (kt B.out hu)); rwa [HG.out] at h)
  refine wp_region_quiet_below (by kernel_rfl) (by kernel_rfl) ?_
  repeat (go_big_quiet_step (first | (go_at_call 26; exact Calls.regrown_of (SH.out _ (below_regrown _ _ _)))))
  refine wpQuiet_nil ?_
  intro _ hw'
  obtain ⟨⟨dq, osq⟩, hw''⟩ := hw'
  subst hw''
  go_upto_region 4 with fail
  refine wp_name ?_
  intro W2 hW2
  have bq : Below U.heap.size U W2 := by rw [hW2]; exact below_regrown _ _ _
  clear hW2
  have B2 := hid (kt B.out bq)
  have rf2 := fun j : Nat => (bq.frozen (p := ⟨w.heap.size + 1, j, none⟩) (by show w.heap.size + 1 < U.heap.size; omega)).trans (rf j)
  replace x0 := kept_cell bq x0
  replace x1 := kept_cell bq x1
  replace r0 := kept_cell bq r0
  replace r1 := kept_cell bq r1
  replace r2 := kept_cell bq r2
  replace r3 := kept_cell bq r3
  replace r4 := kept_cell bq r4
  replace r5 := kept_cell bq r5
  replace r6 := kept_cell bq r6
  replace r7 := kept_cell bq r7
  replace r8 := kept_cell bq r8
  have hz2 := lt_of_cell x0
  have hz3 := lt_of_cell r0
  have HSZ : Hid (w.heap.size ≤ W2.heap.size) := hid (by omega)
  clear gp0 gf1 p0 f1 SH rf bq
  by_cases h0 : K = 0
  · subst h0
    have EO : Hid (oneV ps T (q : Int) (0, A) = (1, T, 0, 0, A, [], 1, 0, (q : Int))) := hid (by simp [oneV])
    go_upto_region 51 with fail
    refine wp_name ?_
    intro Y hY
    have bY : Below W2.heap.size W2 Y := by rw [hY]; exact Below.alloc (Below.refl _ _) (Nat.le_refl _) _
    have y0 : Y.cell? ⟨W2.heap.size, 0, none⟩ = some (.int .i64 1) := by rw [hY]; simp [go_sem]
    replace r0 := kept_cell bY r0
    have y1 : Y.cell? ⟨W2.heap.size, 1, none⟩ = some (.int .i64 T) := by rw [hY]; simp [go_sem]
    replace r1 := kept_cell bY r1
    have y2 : Y.cell? ⟨W2.heap.size, 2, none⟩ = some (.int .i64 0) := by rw [hY]; simp [go_sem]
    replace r2 := kept_cell bY r2
    have y3 : Y.cell? ⟨W2.heap.size, 3, none⟩ = some (.int .i64 0) := by rw [hY]; simp [go_sem]
    replace r3 := kept_cell bY r3
    have y4 : Y.cell? ⟨W2.heap.size, 4, none⟩ = some (.int .i64 A) := by rw [hY]; simp [go_sem]
    replace r4 := kept_cell bY r4
    have y5 : Y.cell? ⟨W2.heap.size, 5, none⟩ = some (.slice none 0 0) := by rw [hY]; simp [go_sem]
    replace r5 := kept_cell bY r5
    have y6 : Y.cell? ⟨W2.heap.size, 6, none⟩ = some (.int .i64 1) := by rw [hY]; simp [go_sem]
    replace r6 := kept_cell bY r6
    have y7 : Y.cell? ⟨W2.heap.size, 7, none⟩ = some (.int .i64 0) := by rw [hY]; simp [go_sem]
    replace r7 := kept_cell bY r7
    have y8 : Y.cell? ⟨W2.heap.size, 8, none⟩ = some (.int .i64 (q : Int)) := by rw [hY]; simp [go_sem]
    replace r8 := kept_cell bY r8
    have BY := hid (kt B2.out bY)
    have yf := fun j : Nat => (bY.frozen (p := ⟨w.heap.size + 1, j, none⟩) hz3).trans (rf2 j)
    clear hY bY x0 x1 rf2 B2 B hz2 hz3 hzu
    go_wp2_with fail
    refine bodyPost_ret (v := .agg #[.int .i64 1, .int .i64 T, .int .i64 0, .int .i64 0, .int .i64 A, .slice none 0 0, .int .i64 1, .int .i64 0, .int .i64 (q : Int)]) (by simp [results, Tryz.results28, go_sem, r0, r1, r2, r3, r4, r5, r6, r7, r8]) rfl ⟨_, _, _, _, _, rfl, EO.out, ?_⟩
    repeat (first | with_reducible exact BY.out | with_reducible refine Below.setCell ?_ (by simp) _)
  have g0 : (K == 0) = false := by simpa using h0
  by_cases h1 : K = 1
  · subst h1
    have EO : Hid (oneV ps T (q : Int) (1, A) = (2, T, A, 0, 0, [], 1, 0, (q : Int))) := hid (by simp [oneV])
    go_upto_region 51 with fail
    refine wp_name ?_
    intro Y hY
    have bY : Below W2.heap.size W2 Y := by rw [hY]; exact Below.alloc (Below.refl _ _) (Nat.le_refl _) _
    have y0 : Y.cell? ⟨W2.heap.size, 0, none⟩ = some (.int .i64 2) := by rw [hY]; simp [go_sem]
    replace r0 := kept_cell bY r0
    have y1 : Y.cell? ⟨W2.heap.size, 1, none⟩ = some (.int .i64 T) := by rw [hY]; simp [go_sem]
    replace r1 := kept_cell bY r1
    have y2 : Y.cell? ⟨W2.heap.size, 2, none⟩ = some (.int .i64 A) := by rw [hY]; simp [go_sem]
    replace r2 := kept_cell bY r2
    have y3 : Y.cell? ⟨W2.heap.size, 3, none⟩ = some (.int .i64 0) := by rw [hY]; simp [go_sem]
    replace r3 := kept_cell bY r3
    have y4 : Y.cell? ⟨W2.heap.size, 4, none⟩ = some (.int .i64 0) := by rw [hY]; simp [go_sem]
    replace r4 := kept_cell bY r4
    have y5 : Y.cell? ⟨W2.heap.size, 5, none⟩ = some (.slice none 0 0) := by rw [hY]; simp [go_sem]
    replace r5 := kept_cell bY r5
    have y6 : Y.cell? ⟨W2.heap.size, 6, none⟩ = some (.int .i64 1) := by rw [hY]; simp [go_sem]
    replace r6 := kept_cell bY r6
    have y7 : Y.cell? ⟨W2.heap.size, 7, none⟩ = some (.int .i64 0) := by rw [hY]; simp [go_sem]
    replace r7 := kept_cell bY r7
    have y8 : Y.cell? ⟨W2.heap.size, 8, none⟩ = some (.int .i64 (q : Int)) := by rw [hY]; simp [go_sem]
    replace r8 := kept_cell bY r8
    have BY := hid (kt B2.out bY)
    have yf := fun j : Nat => (bY.frozen (p := ⟨w.heap.size + 1, j, none⟩) hz3).trans (rf2 j)
    clear hY bY x0 x1 rf2 B2 B hz2 hz3 hzu
    go_wp2_with fail
    refine bodyPost_ret (v := .agg #[.int .i64 2, .int .i64 T, .int .i64 A, .int .i64 0, .int .i64 0, .slice none 0 0, .int .i64 1, .int .i64 0, .int .i64 (q : Int)]) (by simp [results, Tryz.results28, go_sem, r0, r1, r2, r3, r4, r5, r6, r7, r8]) rfl ⟨_, _, _, _, _, rfl, EO.out, ?_⟩
    repeat (first | with_reducible exact BY.out | with_reducible refine Below.setCell ?_ (by simp) _)
  have g1 : (K == 1) = false := by simpa using h1
  by_cases h2 : K = 2
  · subst h2
    have EO : Hid (oneV ps T (q : Int) (2, A) = (2, A, (T - 1), 0, 0, [], 1, 0, (q : Int))) := hid (by simp [oneV])
    go_upto_region 51 with fail
    refine wp_name ?_
    intro Y hY
    have bY : Below W2.heap.size W2 Y := by rw [hY]; exact Below.alloc (Below.refl _ _) (Nat.le_refl _) _
    have y0 : Y.cell? ⟨W2.heap.size, 0, none⟩ = some (.int .i64 2) := by rw [hY]; simp [go_sem]
    replace r0 := kept_cell bY r0
    have y1 : Y.cell? ⟨W2.heap.size, 1, none⟩ = some (.int .i64 A) := by rw [hY]; simp [go_sem]
    replace r1 := kept_cell bY r1
    have y2 : Y.cell? ⟨W2.heap.size, 2, none⟩ = some (.int .i64 (T - 1)) := by rw [hY]; simp [go_sem]
    replace r2 := kept_cell bY r2
    have y3 : Y.cell? ⟨W2.heap.size, 3, none⟩ = some (.int .i64 0) := by rw [hY]; simp [go_sem]
    replace r3 := kept_cell bY r3
    have y4 : Y.cell? ⟨W2.heap.size, 4, none⟩ = some (.int .i64 0) := by rw [hY]; simp [go_sem]
    replace r4 := kept_cell bY r4
    have y5 : Y.cell? ⟨W2.heap.size, 5, none⟩ = some (.slice none 0 0) := by rw [hY]; simp [go_sem]
    replace r5 := kept_cell bY r5
    have y6 : Y.cell? ⟨W2.heap.size, 6, none⟩ = some (.int .i64 1) := by rw [hY]; simp [go_sem]
    replace r6 := kept_cell bY r6
    have y7 : Y.cell? ⟨W2.heap.size, 7, none⟩ = some (.int .i64 0) := by rw [hY]; simp [go_sem]
    replace r7 := kept_cell bY r7
    have y8 : Y.cell? ⟨W2.heap.size, 8, none⟩ = some (.int .i64 (q : Int)) := by rw [hY]; simp [go_sem]
    replace r8 := kept_cell bY r8
    have BY := hid (kt B2.out bY)
    have yf := fun j : Nat => (bY.frozen (p := ⟨w.heap.size + 1, j, none⟩) hz3).trans (rf2 j)
    clear hY bY x0 x1 rf2 B2 B hz2 hz3 hzu
    go_wp2_with fail
    refine bodyPost_ret (v := .agg #[.int .i64 2, .int .i64 A, .int .i64 (T - 1), .int .i64 0, .int .i64 0, .slice none 0 0, .int .i64 1, .int .i64 0, .int .i64 (q : Int)]) (by simp [results, Tryz.results28, go_sem, r0, r1, r2, r3, r4, r5, r6, r7, r8]) rfl ⟨_, _, _, _, _, rfl, EO.out, ?_⟩
    repeat (first | with_reducible exact BY.out | with_reducible refine Below.setCell ?_ (by simp) _)
  have g2 : (K == 2) = false := by simpa using h2
  by_cases h10 : K = 10
  · subst h10
    have EO : Hid (oneV ps T (q : Int) (10, A) = (2, T, (T - 1), 0, 0, [], 1, 0, (q : Int))) := hid (by simp [oneV])
    go_upto_region 51 with fail
    refine wp_name ?_
    intro Y hY
    have bY : Below W2.heap.size W2 Y := by rw [hY]; exact Below.alloc (Below.refl _ _) (Nat.le_refl _) _
    have y0 : Y.cell? ⟨W2.heap.size, 0, none⟩ = some (.int .i64 2) := by rw [hY]; simp [go_sem]
    replace r0 := kept_cell bY r0
    have y1 : Y.cell? ⟨W2.heap.size, 1, none⟩ = some (.int .i64 T) := by rw [hY]; simp [go_sem]
    replace r1 := kept_cell bY r1
    have y2 : Y.cell? ⟨W2.heap.size, 2, none⟩ = some (.int .i64 (T - 1)) := by rw [hY]; simp [go_sem]
    replace r2 := kept_cell bY r2
    have y3 : Y.cell? ⟨W2.heap.size, 3, none⟩ = some (.int .i64 0) := by rw [hY]; simp [go_sem]
    replace r3 := kept_cell bY r3
    have y4 : Y.cell? ⟨W2.heap.size, 4, none⟩ = some (.int .i64 0) := by rw [hY]; simp [go_sem]
    replace r4 := kept_cell bY r4
    have y5 : Y.cell? ⟨W2.heap.size, 5, none⟩ = some (.slice none 0 0) := by rw [hY]; simp [go_sem]
    replace r5 := kept_cell bY r5
    have y6 : Y.cell? ⟨W2.heap.size, 6, none⟩ = some (.int .i64 1) := by rw [hY]; simp [go_sem]
    replace r6 := kept_cell bY r6
    have y7 : Y.cell? ⟨W2.heap.size, 7, none⟩ = some (.int .i64 0) := by rw [hY]; simp [go_sem]
    replace r7 := kept_cell bY r7
    have y8 : Y.cell? ⟨W2.heap.size, 8, none⟩ = some (.int .i64 (q : Int)) := by rw [hY]; simp [go_sem]
    replace r8 := kept_cell bY r8
    have BY := hid (kt B2.out bY)
    have yf := fun j : Nat => (bY.frozen (p := ⟨w.heap.size + 1, j, none⟩) hz3).trans (rf2 j)
    clear hY bY x0 x1 rf2 B2 B hz2 hz3 hzu
    go_wp2_with fail
    refine bodyPost_ret (v := .agg #[.int .i64 2, .int .i64 T, .int .i64 (T - 1), .int .i64 0, .int .i64 0, .slice none 0 0, .int .i64 1, .int .i64 0, .int .i64 (q : Int)]) (by simp [results, Tryz.results28, go_sem, r0, r1, r2, r3, r4, r5, r6, r7, r8]) rfl ⟨_, _, _, _, _, rfl, EO.out, ?_⟩
    repeat (first | with_reducible exact BY.out | with_reducible refine Below.setCell ?_ (by simp) _)
  have g10 : (K == 10) = false := by simpa using h10
  by_cases h11 : K = 11
  · subst h11
    have EO : Hid (oneV ps T (q : Int) (11, A) = (0, 0, 0, 0, 0, [], 1, 0, (q : Int))) := hid (by simp [oneV])
    go_upto_region 51 with fail
    refine wp_name ?_
    intro Y hY
    have bY : Below W2.heap.size W2 Y := by rw [hY]; exact Below.alloc (Below.refl _ _) (Nat.le_refl _) _
    have y0 : Y.cell? ⟨W2.heap.size, 0, none⟩ = some (.int .i64 0) := by rw [hY]; simp [go_sem]
    replace r0 := kept_cell bY r0
    have y1 : Y.cell? ⟨W2.heap.size, 1, none⟩ = some (.int .i64 0) := by rw [hY]; simp [go_sem]
    replace r1 := kept_cell bY r1
    have y2 : Y.cell? ⟨W2.heap.size, 2, none⟩ = some (.int .i64 0) := by rw [hY]; simp [go_sem]
    replace r2 := kept_cell bY r2
    have y3 : Y.cell? ⟨W2.heap.size, 3, none⟩ = some (.int .i64 0) := by rw [hY]; simp [go_sem]
    replace r3 := kept_cell bY r3
    have y4 : Y.cell? ⟨W2.heap.size, 4, none⟩ = some (.int .i64 0) := by rw [hY]; simp [go_sem]
    replace r4 := kept_cell bY r4
    have y5 : Y.cell? ⟨W2.heap.size, 5, none⟩ = some (.slice none 0 0) := by rw [hY]; simp [go_sem]
    replace r5 := kept_cell bY r5
    have y6 : Y.cell? ⟨W2.heap.size, 6, none⟩ = some (.int .i64 1) := by rw [hY]; simp [go_sem]
    replace r6 := kept_cell bY r6
    have y7 : Y.cell? ⟨W2.heap.size, 7, none⟩ = some (.int .i64 0) := by rw [hY]; simp [go_sem]
    replace r7 := kept_cell bY r7
    have y8 : Y.cell? ⟨W2.heap.size, 8, none⟩ = some (.int .i64 (q : Int)) := by rw [hY]; simp [go_sem]
    replace r8 := kept_cell bY r8
    have BY := hid (kt B2.out bY)
    have yf := fun j : Nat => (bY.frozen (p := ⟨w.heap.size + 1, j, none⟩) hz3).trans (rf2 j)
    clear hY bY x0 x1 rf2 B2 B hz2 hz3 hzu
    go_wp2_with fail
    refine bodyPost_ret (v := .agg #[.int .i64 0, .int .i64 0, .int .i64 0, .int .i64 0, .int .i64 0, .slice none 0 0, .int .i64 1, .int .i64 0, .int .i64 (q : Int)]) (by simp [results, Tryz.results28, go_sem, r0, r1, r2, r3, r4, r5, r6, r7, r8]) rfl ⟨_, _, _, _, _, rfl, EO.out, ?_⟩
    repeat (first | with_reducible exact BY.out | with_reducible refine Below.setCell ?_ (by simp) _)
  have g11 : (K == 11) = false := by simpa using h11
  by_cases h12 : K = 12
  · subst h12
    have EO : Hid (oneV ps T (q : Int) (12, A) = (4, 0, 0, 0, A, [], 1, 0, (q : Int))) := hid (by simp [oneV])
    go_upto_region 51 with fail
    refine wp_name ?_
    intro Y hY
    have bY : Below W2.heap.size W2 Y := by rw [hY]; exact Below.alloc (Below.refl _ _) (Nat.le_refl _) _
    have y0 : Y.cell? ⟨W2.heap.size, 0, none⟩ = some (.int .i64 4) := by rw [hY]; simp [go_sem]
    replace r0 := kept_cell bY r0
    have y1 : Y.cell? ⟨W2.heap.size, 1, none⟩ = some (.int .i64 0) := by rw [hY]; simp [go_sem]
    replace r1 := kept_cell bY r1
    have y2 : Y.cell? ⟨W2.heap.size, 2, none⟩ = some (.int .i64 0) := by rw [hY]; simp [go_sem]
    replace r2 := kept_cell bY r2
    have y3 : Y.cell? ⟨W2.heap.size, 3, none⟩ = some (.int .i64 0) := by rw [hY]; simp [go_sem]
    replace r3 := kept_cell bY r3
    have y4 : Y.cell? ⟨W2.heap.size, 4, none⟩ = some (.int .i64 A) := by rw [hY]; simp [go_sem]
    replace r4 := kept_cell bY r4
    have y5 : Y.cell? ⟨W2.heap.size, 5, none⟩ = some (.slice none 0 0) := by rw [hY]; simp [go_sem]
    replace r5 := kept_cell bY r5
    have y6 : Y.cell? ⟨W2.heap.size, 6, none⟩ = some (.int .i64 1) := by rw [hY]; simp [go_sem]
    replace r6 := kept_cell bY r6
    have y7 : Y.cell? ⟨W2.heap.size, 7, none⟩ = some (.int .i64 0) := by rw [hY]; simp [go_sem]
    replace r7 := kept_cell bY r7
    have y8 : Y.cell? ⟨W2.heap.size, 8, none⟩ = some (.int .i64 (q : Int)) := by rw [hY]; simp [go_sem]
    replace r8 := kept_cell bY r8
    have BY := hid (kt B2.out bY)
    have yf := fun j : Nat => (bY.frozen (p := ⟨w.heap.size + 1, j, none⟩) hz3).trans (rf2 j)
    clear hY bY x0 x1 rf2 B2 B hz2 hz3 hzu
    go_wp2_with fail
    refine bodyPost_ret (v := .agg #[.int .i64 4, .int .i64 0, .int .i64 0, .int .i64 0, .int .i64 A, .slice none 0 0, .int .i64 1, .int .i64 0, .int .i64 (q : Int)]) (by simp [results, Tryz.results28, go_sem, r0, r1, r2, r3, r4, r5, r6, r7, r8]) rfl ⟨_, _, _, _, _, rfl, EO.out, ?_⟩
    repeat (first | with_reducible exact BY.out | with_reducible refine Below.setCell ?_ (by simp) _)
  have g12 : (K == 12) = false := by simpa using h12
  by_cases h13 : K = 13
  · subst h13
    have EO : Hid (oneV ps T (q : Int) (13, A) = (5, 0, (T - 1), 0, A, [], 1, 0, (q : Int))) := hid (by simp [oneV])
    go_upto_region 51 with fail
    refine wp_name ?_
    intro Y hY
    have bY : Below W2.heap.size W2 Y := by rw [hY]; exact Below.alloc (Below.refl _ _) (Nat.le_refl _) _
    have y0 : Y.cell? ⟨W2.heap.size, 0, none⟩ = some (.int .i64 5) := by rw [hY]; simp [go_sem]
    replace r0 := kept_cell bY r0
    have y1 : Y.cell? ⟨W2.heap.size, 1, none⟩ = some (.int .i64 0) := by rw [hY]; simp [go_sem]
    replace r1 := kept_cell bY r1
    have y2 : Y.cell? ⟨W2.heap.size, 2, none⟩ = some (.int .i64 (T - 1)) := by rw [hY]; simp [go_sem]
    replace r2 := kept_cell bY r2
    have y3 : Y.cell? ⟨W2.heap.size, 3, none⟩ = some (.int .i64 0) := by rw [hY]; simp [go_sem]
    replace r3 := kept_cell bY r3
    have y4 : Y.cell? ⟨W2.heap.size, 4, none⟩ = some (.int .i64 A) := by rw [hY]; simp [go_sem]
    replace r4 := kept_cell bY r4
    have y5 : Y.cell? ⟨W2.heap.size, 5, none⟩ = some (.slice none 0 0) := by rw [hY]; simp [go_sem]
    replace r5 := kept_cell bY r5
    have y6 : Y.cell? ⟨W2.heap.size, 6, none⟩ = some (.int .i64 1) := by rw [hY]; simp [go_sem]
    replace r6 := kept_cell bY r6
    have y7 : Y.cell? ⟨W2.heap.size, 7, none⟩ = some (.int .i64 0) := by rw [hY]; simp [go_sem]
    replace r7 := kept_cell bY r7
    have y8 : Y.cell? ⟨W2.heap.size, 8, none⟩ = some (.int .i64 (q : Int)) := by rw [hY]; simp [go_sem]
    replace r8 := kept_cell bY r8
    have BY := hid (kt B2.out bY)
    have yf := fun j : Nat => (bY.frozen (p := ⟨w.heap.size + 1, j, none⟩) hz3).trans (rf2 j)
    clear hY bY x0 x1 rf2 B2 B hz2 hz3 hzu
    go_wp2_with fail
    refine bodyPost_ret (v := .agg #[.int .i64 5, .int .i64 0, .int .i64 (T - 1), .int .i64 0, .int .i64 A, .slice none 0 0, .int .i64 1, .int .i64 0, .int .i64 (q : Int)]) (by simp [results, Tryz.results28, go_sem, r0, r1, r2, r3, r4, r5, r6, r7, r8]) rfl ⟨_, _, _, _, _, rfl, EO.out, ?_⟩
    repeat (first | with_reducible exact BY.out | with_reducible refine Below.setCell ?_ (by simp) _)
  have g13 : (K == 13) = false := by simpa using h13
  by_cases h15 : K = 15
  · subst h15
    have EO : Hid (oneV ps T (q : Int) (15, A) = (7, 0, (T - 1), 0, 0, [], 1, 0, (q : Int))) := hid (by simp [oneV])
    go_upto_region 51 with fail
    refine wp_name ?_
    intro Y hY
    have bY : Below W2.heap.size W2 Y := by rw [hY]; exact Below.alloc (Below.refl _ _) (Nat.le_refl _) _
    have y0 : Y.cell? ⟨W2.heap.size, 0, none⟩ = some (.int .i64 7) := by rw [hY]; simp [go_sem]
    replace r0 := kept_cell bY r0
    have y1 : Y.cell? ⟨W2.heap.size, 1, none⟩ = some (.int .i64 0) := by rw [hY]; simp [go_sem]
    replace r1 := kept_cell bY r1
    have y2 : Y.cell? ⟨W2.heap.size, 2, none⟩ = some (.int .i64 (T - 1)) := by rw [hY]; simp [go_sem]
    replace r2 := kept_cell bY r2
    have y3 : Y.cell? ⟨W2.heap.size, 3, none⟩ = some (.int .i64 0) := by rw [hY]; simp [go_sem]
    replace r3 := kept_cell bY r3
    have y4 : Y.cell? ⟨W2.heap.size, 4, none⟩ = some (.int .i64 0) := by rw [hY]; simp [go_sem]
    replace r4 := kept_cell bY r4
    have y5 : Y.cell? ⟨W2.heap.size, 5, none⟩ = some (.slice none 0 0) := by rw [hY]; simp [go_sem]
    replace r5 := kept_cell bY r5
    have y6 : Y.cell? ⟨W2.heap.size, 6, none⟩ = some (.int .i64 1) := by rw [hY]; simp [go_sem]
    replace r6 := kept_cell bY r6
    have y7 : Y.cell? ⟨W2.heap.size, 7, none⟩ = some (.int .i64 0) := by rw [hY]; simp [go_sem]
    replace r7 := kept_cell bY r7
    have y8 : Y.cell? ⟨W2.heap.size, 8, none⟩ = some (.int .i64 (q : Int)) := by rw [hY]; simp [go_sem]
    replace r8 := kept_cell bY r8
    have BY := hid (kt B2.out bY)
    have yf := fun j : Nat => (bY.frozen (p := ⟨w.heap.size + 1, j, none⟩) hz3).trans (rf2 j)
    clear hY bY x0 x1 rf2 B2 B hz2 hz3 hzu
    go_wp2_with fail
    refine bodyPost_ret (v := .agg #[.int .i64 7, .int .i64 0, .int .i64 (T - 1), .int .i64 0, .int .i64 0, .slice none 0 0, .int .i64 1, .int .i64 0, .int .i64 (q : Int)]) (by simp [results, Tryz.results28, go_sem, r0, r1, r2, r3, r4, r5, r6, r7, r8]) rfl ⟨_, _, _, _, _, rfl, EO.out, ?_⟩
    repeat (first | with_reducible exact BY.out | with_reducible refine Below.setCell ?_ (by simp) _)
  have g15 : (K == 15) = false := by simpa using h15
  by_cases h16 : K = 16
  · subst h16
    have EO : Hid (oneV ps T (q : Int) (16, A) = (8, 0, (T - 1), 0, 0, [], 1, 0, (q : Int))) := hid (by simp [oneV])
    go_upto_region 51 with fail
    refine wp_name ?_
    intro Y hY
    have bY : Below W2.heap.size W2 Y := by rw [hY]; exact Below.alloc (Below.refl _ _) (Nat.le_refl _) _
    have y0 : Y.cell? ⟨W2.heap.size, 0, none⟩ = some (.int .i64 8) := by rw [hY]; simp [go_sem]
    replace r0 := kept_cell bY r0
    have y1 : Y.cell? ⟨W2.heap.size, 1, none⟩ = some (.int .i64 0) := by rw [hY]; simp [go_sem]
    replace r1 := kept_cell bY r1
    have y2 : Y.cell? ⟨W2.heap.size, 2, none⟩ = some (.int .i64 (T - 1)) := by rw [hY]; simp [go_sem]
    replace r2 := kept_cell bY r2
    have y3 : Y.cell? ⟨W2.heap.size, 3, none⟩ = some (.int .i64 0) := by rw [hY]; simp [go_sem]
    replace r3 := kept_cell bY r3
    have y4 : Y.cell? ⟨W2.heap.size, 4, none⟩ = some (.int .i64 0) := by rw [hY]; simp [go_sem]
    replace r4 := kept_cell bY r4
    have y5 : Y.cell? ⟨W2.heap.size, 5, none⟩ = some (.slice none 0 0) := by rw [hY]; simp [go_sem]
    replace r5 := kept_cell bY r5
    have y6 : Y.cell? ⟨W2.heap.size, 6, none⟩ = some (.int .i64 1) := by rw [hY]; simp [go_sem]
    replace r6 := kept_cell bY r6
    have y7 : Y.cell? ⟨W2.heap.size, 7, none⟩ = some (.int .i64 0) := by rw [hY]; simp [go_sem]
    replace r7 := kept_cell bY r7
    have y8 : Y.cell? ⟨W2.heap.size, 8, none⟩ = some (.int .i64 (q : Int)) := by rw [hY]; simp [go_sem]
    replace r8 := kept_cell bY r8
    have BY := hid (kt B2.out bY)
    have yf := fun j : Nat => (bY.frozen (p := ⟨w.heap.size + 1, j, none⟩) hz3).trans (rf2 j)
    clear hY bY x0 x1 rf2 B2 B hz2 hz3 hzu
    go_wp2_with fail
    refine bodyPost_ret (v := .agg #[.int .i64 8, .int .i64 0, .int .i64 (T - 1), .int .i64 0, .int .i64 0, .slice none 0 0, .int .i64 1, .int .i64 0, .int .i64 (q : Int)]) (by simp [results, Tryz.results28, go_sem, r0, r1, r2, r3, r4, r5, r6, r7, r8]) rfl ⟨_, _, _, _, _, rfl, EO.out, ?_⟩
    repeat (first | with_reducible exact BY.out | with_reducible refine Below.setCell ?_ (by simp) _)
  have g16 : (K == 16) = false := by simpa using h16
  have EO : Hid (oneV ps T (q : Int) (K, A) = (3, (T - 2), (T - 2), (T - 1), K, [], 1, 0, (q : Int))) := hid (by simp [oneV, h0, h1, h2, h10, h11, h12, h13, h15, h16, hk])
  go_upto_region 51 with fail
  refine wp_name ?_
  intro Y hY
  have bY : Below W2.heap.size W2 Y := by rw [hY]; exact Below.alloc (Below.refl _ _) (Nat.le_refl _) _
  have y0 : Y.cell? ⟨W2.heap.size, 0, none⟩ = some (.int .i64 3) := by rw [hY]; simp [go_sem]
  replace r0 := kept_cell bY r0
  have y1 : Y.cell? ⟨W2.heap.size, 1, none⟩ = some (.int .i64 (T - 2)) := by rw [hY]; simp [go_sem]
  replace r1 := kept_cell bY r1
  have y2 : Y.cell? ⟨W2.heap.size, 2, none⟩ = some (.int .i64 (T - 2)) := by rw [hY]; simp [go_sem]
  replace r2 := kept_cell bY r2
  have y3 : Y.cell? ⟨W2.heap.size, 3, none⟩ = some (.int .i64 (T - 1)) := by rw [hY]; simp [go_sem]
  replace r3 := kept_cell bY r3
  have y4 : Y.cell? ⟨W2.heap.size, 4, none⟩ = some (.int .i64 K) := by rw [hY]; simp [go_sem]
  replace r4 := kept_cell bY r4
  have y5 : Y.cell? ⟨W2.heap.size, 5, none⟩ = some (.slice none 0 0) := by rw [hY]; simp [go_sem]
  replace r5 := kept_cell bY r5
  have y6 : Y.cell? ⟨W2.heap.size, 6, none⟩ = some (.int .i64 1) := by rw [hY]; simp [go_sem]
  replace r6 := kept_cell bY r6
  have y7 : Y.cell? ⟨W2.heap.size, 7, none⟩ = some (.int .i64 0) := by rw [hY]; simp [go_sem]
  replace r7 := kept_cell bY r7
  have y8 : Y.cell? ⟨W2.heap.size, 8, none⟩ = some (.int .i64 (q : Int)) := by rw [hY]; simp [go_sem]
  replace r8 := kept_cell bY r8
  have BY := hid (kt B2.out bY)
  have yf := fun j : Nat => (bY.frozen (p := ⟨w.heap.size + 1, j, none⟩) hz3).trans (rf2 j)
  clear hY bY x0 x1 rf2 B2 B hz2 hz3 hzu
  go_wp2_with fail
  refine bodyPost_ret (v := .agg #[.int .i64 3, .int .i64 (T - 2), .int .i64 (T - 2), .int .i64 (T - 1), .int .i64 K, .slice none 0 0, .int .i64 1, .int .i64 0, .int .i64 (q : Int)]) (by simp [results, Tryz.results28, go_sem, r0, r1, r2, r3, r4, r5, r6, r7, r8]) rfl ⟨_, _, _, _, _, rfl, EO.out, ?_⟩
  repeat (first | with_reducible exact BY.out | with_reducible refine Below.setCell ?_ (by simp) _)

end Go.Proofs.YtaimpljkbpnigaaGreatDoor

namespace Go.Proofs.YtaimpljkbpnigaaGreatDoor
open Go.RowKit
set_option linter.unusedVariables false

/-- A straight function as code. -/
def lowS (ps : List Fn) (f : Nat) (gy : Int) (fl : List (Int × Int)) : List IrT := (List.range fl.length).map (fun (q : Nat) => oneV ps (gy + heightV ps (f : Int) (q : Int)) (q : Int) (insAt fl q))
theorem lowS_at {ps : List Fn} {f q : Nat} {gy : Int} {fl : List (Int × Int)} {x : Int × Int} (h : fl[q]? = some x) : (lowS ps f gy fl)[q]? = some (oneV ps (gy + heightV ps (f : Int) (q : Int)) (q : Int) x) := by
  have hl := (List.getElem?_eq_some_iff.1 h).1
  have hx := (List.getElem?_eq_some_iff.1 h).2
  simp [lowS, hl, insAt, hx]
theorem lowS_len (ps : List Fn) (f : Nat) (gy : Int) (fl : List (Int × Int)) : (lowS ps f gy fl).length = fl.length := by simp [lowS]
theorem one_kind {ps : List Fn} {T pc : Int} {K A : Int} (h2 : ¬ K = 12) (h3 : ¬ K = 13) : ¬ (oneV ps T pc (K, A)).1 = 4 ∧ ¬ (oneV ps T pc (K, A)).1 = 5 := by
  unfold oneV
  simp only [h2, h3, if_false]
  refine ⟨?_, ?_⟩ <;> (repeat' split) <;> simp


/-- Places: a row of numbers of the call's own. -/
structure PlSt (w : World) (g n base : Nat) (l : List Int) : Prop where
  len : l.length = n
  row : w.ownsRow base 3 1 (.slice (some ⟨g, 0, none⟩) n n) n (ints l)
theorem PlSt.at {w : World} {g n base : Nat} {l : List Int} (h : PlSt w g n base l) (i : Nat) (hi : i < n) : w.cell? ⟨g, i, none⟩ = some (.int .i64 (l.getD i 0)) := by
  rw [h.row.cellAt i (by omega)]
  have hl : i < l.length := by rw [h.len]; exact hi
  simp [ints, hl, List.getD_eq_getElem?_getD]
theorem PlSt.free {w : World} {g n base : Nat} {l : List Int} (h : PlSt w g n base l) (i : Nat) : w.frozen? ⟨g, i, none⟩ = false := h.row.frozenAt i
theorem PlSt.put {w : World} {g n base : Nat} {l : List Int} (h : PlSt w g n base l) (i : Nat) (x : Int) : PlSt (w.setCell ⟨g, i, none⟩ (.int .i64 x)) g n base (l.set i x) := by
  refine ⟨by simpa using h.len, ?_⟩
  have := (h.row.stored i (.int .i64 x)).1
  simpa [ints, List.map_set] using this
theorem PlSt.kept {w w' : World} {g n base : Nat} {l : List Int} (h : PlSt w g n base l) (hb : Below w.heap.size w w') : PlSt w' g n base l := ⟨h.len, owns_kept h.row hb⟩
theorem PlSt.frm {w w' : World} {g n base : Nat} {l : List Int} (h : PlSt w g n base l) (hb : w'.heap[g]? = w.heap[g]?) : PlSt w' g n base l := ⟨h.len, row_frm h.row (fun b e => by cases e; exact hb)⟩
theorem PlSt.setFar {w : World} {g n base : Nat} {l : List Int} {p : Addr} {u : Value} (h : PlSt w g n base l) (hp : p.block ≠ g) : PlSt (w.setCell p u) g n base l := h.frm (Below.heap_setCell _ _ _ g (Ne.symm hp))
structure Res0 (w : World) (b : Nat) : Prop where
  c0 : w.cell? ⟨b, 0, none⟩ = some (.int .i64 0)
  c1 : w.cell? ⟨b, 1, none⟩ = some (.int .i64 0)
  c2 : w.cell? ⟨b, 2, none⟩ = some (.slice none 0 0)
  c3 : w.cell? ⟨b, 3, none⟩ = some (.slice none 0 0)
  fz : ∀ j, w.frozen? ⟨b, j, none⟩ = false
theorem Res0.frm {w w' : World} {b : Nat} (h : Res0 w b) (e : w'.heap[b]? = w.heap[b]?) : Res0 w' b := ⟨(cellFrm e).trans h.c0, (cellFrm e).trans h.c1, (cellFrm e).trans h.c2, (cellFrm e).trans h.c3, fun j => (freeFrm e).trans (h.fz j)⟩
theorem make_places (n : Nat) (hn : n ≤ 100000) (u : World) : (Instr.makeSlice 42 (.int .i64 (n : Int)) (.int .i64 (n : Int))).run Tryz.prog u = .ok (.slice (some ⟨u.heap.size, 0, none⟩) n n) (u.alloc (.cells (madeCells #[.int .i64 0] n) 3)) := by
  obtain ⟨j0, hjf, hy0, hy1, hy2⟩ := info_parts Tryz.infoIntC
  have hr := run_make (P := Tryz.prog) u 42 3 j0 (.int .i64 0) Tryz.underlying42 hjf hy0 .i64 .i64 (n : Int) (n : Int) (by omega) (Int.le_refl _) (by rw [hy2]; omega) (by omega)
  simp only [Int.toNat_natCast, hy1, Nat.mul_one] at hr
  exact hr
theorem PlSt.make (w : World) (n base : Nat) (hb : base ≤ w.heap.size) (hn : n ≤ maxLen) : PlSt (w.alloc (.cells (madeCells #[.int .i64 0] n) 3)) w.heap.size n base (List.replicate n 0) := by
  refine ⟨by simp, ?_⟩
  have := World.ownsRow_lit (e := 3) (size := 1) w (madeCells #[.int .i64 0] n) n hb hn (by simp [madeCells])
  rw [toList_madeCells_one] at this
  simpa [ints] using this

set_option maxRecDepth 100000 in
set_option maxHeartbeats 16000000 in
theorem refLowS_any (pa : Option Addr) (pn pc : Nat) (ps : List Fn) (f : Nat) (gx gy : Int) (fl : List (Int × Int)) (w : World) (hp : Fns w pa pn pc ps) (hv : verV ps = 0) (hf : f < ps.length) (e3 : ps.getD f noFn = (gx, gy, fl)) (hs : ∀ (q : Nat) (K A : Int), fl[q]? = some (K, A) → 0 ≤ heightV ps (f : Int) (q : Int) ∧ ¬ K = 12 ∧ ¬ K = 13 ∧ ¬ K = 14) :
    Calls Tryz.prog 9 #[.agg #[.slice pa pn pc], .int .i64 (f : Int)] w fun e w' => ∃ v, e = .returned (.tuple #[.agg #[.int .i64 (f : Int), .int .i64 (gy + 8), v, .slice none 0 0], .int .i64 0]) ∧ OSl layIr 44 88 w' (fun b => w.heap.size ≤ b) v (lowS ps f gy fl) ∧ Below w.heap.size w w' := by
  obtain ⟨i0, hi, hz0, hz1, hz2⟩ := info_parts Tryz.infoIr
  have HP := hid hp
  have LP := hid hp.len
  have hpr := hp.room
  have hpc := hp.cap
  have HV := hid hv
  have HS := hid hs
  have E3 := hid e3
  have hvf := ver_fn hv hf e3
  have hfn : f < pn := by rw [LP.out]; exact hf
  have hgy : 0 ≤ gy ∧ gy ≤ 8 := by omega
  clear hp hs hv e3
  have qf0 : (0 : Int) ≤ (f : Int) := by omega
  have qf1 : (f : Int) < (pn : Int) := by omega
  go_enter Tryz.func9, Tryz.ntmps9
  go_upto_region 1 with fail
  refine wp_name ?_
  intro U hU
  have B : Hid (Below w.heap.size w U) := hid (by rw [hU]; go_grown)
  have p0 : U.cell? ⟨w.heap.size, 0, none⟩ = some (.slice pa pn pc) := by rw [hU]; simp [go_sem]
  have R0 : Hid ((U.cell? ⟨w.heap.size + 1, 0, none⟩ = some (.int .i64 0) ∧ U.cell? ⟨w.heap.size + 1, 1, none⟩ = some (.int .i64 0) ∧ U.cell? ⟨w.heap.size + 1, 2, none⟩ = some (.slice none 0 0) ∧ U.cell? ⟨w.heap.size + 1, 3, none⟩ = some (.slice none 0 0)) ∧ ∀ j, U.frozen? ⟨w.heap.size + 1, j, none⟩ = false) := hid (by rw [hU]; exact ⟨⟨by simp [go_sem], by simp [go_sem], by simp [go_sem], by simp [go_sem]⟩, fun j => by simp [go_sem]⟩)
  clear hU
  have SV : Hid (∀ u, Below U.heap.size U u → Calls Tryz.prog 25 #[.agg #[.slice pa pn pc]] u fun e w' => e = .returned (.int .i64 0) ∧ Below u.heap.size u w') := hid (fun u hu => by have h := refVerify_any _ _ _ ps u (HP.out.kept (kt B.out hu)); rwa [HV.out] at h)
  have d1 : decide ((f : Int) < 0) = false := by simp
  have d2 : decide ((pn : Int) ≤ (f : Int)) = false := by simp; omega
  have d2' : decide (pn ≤ f) = false := by simp; omega
  go_wp2_with fail
  refine (SV.out _ (Below.refl _ _)).mono ?_
  rintro e X ⟨rfl, bX⟩
  have BX := hid (kt B.out bX)
  replace p0 := kept_cell bX p0
  have RX : Hid ((X.cell? ⟨w.heap.size + 1, 0, none⟩ = some (.int .i64 0) ∧ X.cell? ⟨w.heap.size + 1, 1, none⟩ = some (.int .i64 0) ∧ X.cell? ⟨w.heap.size + 1, 2, none⟩ = some (.slice none 0 0) ∧ X.cell? ⟨w.heap.size + 1, 3, none⟩ = some (.slice none 0 0)) ∧ ∀ j, X.frozen? ⟨w.heap.size + 1, j, none⟩ = false) := hid ⟨⟨kept_cell bX R0.out.1.1, kept_cell bX R0.out.1.2.1, kept_cell bX R0.out.1.2.2.1, kept_cell bX R0.out.1.2.2.2⟩, fun j => (bX.frozen (p := ⟨w.heap.size + 1, j, none⟩) (lt_of_cell R0.out.1.1)).trans (R0.out.2 j)⟩
  clear SV bX
  have D12 := hid (And.intro d1 (And.intro d2 d2'))
  clear d1 d2 d2'
  obtain ⟨bp, op, gx', gy', ga, gn, gc, gl, rfl, e3', d0, d1, d2, i3⟩ := HP.out.at f hfn
  have e := E3.out.symm.trans e3'
  obtain ⟨rfl, rfl, rfl⟩ : gx = gx' ∧ gy = gy' ∧ fl = gl := by cases e; exact ⟨rfl, rfl, rfl⟩
  have LG := hid i3.len
  have hgr := i3.room
  have hgc := i3.cap
  have hgn : gn ≤ 64 := by rw [LG.out]; omega
  have I3 := hid i3
  replace d0 := kept_cell BX.out d0
  replace d1 := kept_cell BX.out d1
  replace d2 := kept_cell BX.out d2
  have hzX := lt_of_cell d0
  have hzp := lt_of_cell p0
  have hmk := make_places gn (by omega)
  clear e3' e i3
  have D1 := D12.out.1
  have D2 := D12.out.2.1
  have D3 := D12.out.2.2
  go_upto_region 7 with fail
  refine wp_name ?_
  intro Y hY
  have AY : Hid (Below X.heap.size X Y) := hid (by rw [hY]; go_grown)
  have BY := hid (kt BX.out AY.out)
  have OCY : Hid (OutC Y (X.heap.size + 1) (f : Int) (gy + 8) (.slice none 0 0) (.slice none 0 0)) := hid (by rw [hY]; exact ⟨by simp [go_sem], by simp [go_sem], by simp [go_sem], by simp [go_sem], by simp [go_sem], by simp [go_sem]⟩)
  have f1 : Y.cell? ⟨(X.heap.size), 1, none⟩ = some (.int .i64 gy) := by rw [hY]; simp [go_sem]
  have f2 : Y.cell? ⟨(X.heap.size), 2, none⟩ = some (.slice ga gn gc) := by rw [hY]; simp [go_sem]
  have PSY : Hid (PlSt Y (X.heap.size + 1 + 1) gn w.heap.size (List.replicate gn 0)) := hid (by
    rw [hY]
    have := PlSt.make ((X.alloc (.cells #[.int .i64 gx, .int .i64 gy, .slice ga gn gc] 51)).alloc (.cells #[.int .i64 (f : Int), .int .i64 (gy + 8), .slice none 0 0, .slice none 0 0] 29)) gn w.heap.size (by have := BX.out.size; simp; omega) (by unfold maxLen; omega)
    simpa using this)
  have RSY : Hid (Res0 Y (w.heap.size + 1)) := hid ((Res0.mk RX.out.1.1 RX.out.1.2.1 RX.out.1.2.2.1 RX.out.1.2.2.2 RX.out.2).frm (AY.out.block _ (lt_of_cell RX.out.1.1)))
  have HSY : Hid (Y.heap.size = X.heap.size + 3) := hid (by rw [hY]; simp)
  have hWX : Hid (w.heap.size + 2 ≤ X.heap.size) := hid (by have := lt_of_cell RX.out.1.1; omega)
  replace p0 := kept_cell AY.out p0
  have hlt0 : w.heap.size < (X.heap.size) := by have := hWX.out; omega
  clear hY d0 d1 d2 hzX hmk D1 D2 D3
  go_loopw [9] (fun i wr => ∃ (q : Nat) (va : Option Addr) (vn vc : Nat) (pl : List Int), q ≤ gn ∧ i = .int .i64 q ∧ OutC wr (X.heap.size + 1) (f : Int) (gy + 8) (.slice va vn vc) (.slice none 0 0) ∧ OSl layIr 44 88 wr (fun b => (X.heap.size + 1 + 1) < b) (.slice va vn vc) ((lowS ps f gy fl).take q) ∧ PlSt wr (X.heap.size + 1 + 1) gn w.heap.size pl ∧ wr.cell? ⟨w.heap.size, 0, none⟩ = some (.slice (some ⟨bp, op, none⟩) pn pc) ∧ wr.cell? ⟨(X.heap.size), 1, none⟩ = some (.int .i64 gy) ∧ wr.cell? ⟨(X.heap.size), 2, none⟩ = some (.slice ga gn gc) ∧ Res0 wr (w.heap.size + 1) ∧ Below w.heap.size w wr) (fun i _ => gn - (intOf i).toNat)
  case atStart => exact ⟨0, none, 0, 0, _, Nat.zero_le _, rfl, OCY.out, OSl.nil _ _ _ _ _, PSY.out, p0, f1, f2, RSY.out, BY.out⟩
  case round =>
    clear OCY f1 f2 PSY p0 BY
    obtain ⟨q, va, vn, vc, pl, hq, rfl, oc, ho, ps1, p0, f1, f2, rs, hb⟩ := hrel
    obtain ⟨V, hV⟩ : ∃ V : World, V = wr := ⟨_, rfl⟩
    subst hV
    have HO := hid ho
    have HB := hid hb
    have HPS := hid ps1
    have OCW := hid oc
    have RS := hid rs
    have hzr := lt_of_cell rs.c0
    have hzp := lt_of_cell p0
    have hzf := lt_of_cell f1
    have hzg := ps1.row.lt (X.heap.size + 1 + 1) rfl
    have hzc := lt_of_cell oc.c2
    by_cases hlt : q < gn
    · obtain ⟨bi, oi, kN, aN, rfl, e7, k0w, k1w⟩ := I3.out.at q hlt
      have hbi := lt_of_cell k0w
      have k0 := kept_cell hb k0w
      have k1 := kept_cell hb k1w
      have hx0 : fl[q]? = some (kN, aN) := by
        rw [List.getD_eq_getElem?_getD, List.getElem?_eq_getElem (by have := LG.out; omega)] at e7
        rw [List.getElem?_eq_getElem (by have := LG.out; omega), ← e7]; rfl
      have HX := hid hx0
      obtain ⟨hh, hk12, hk13, hk14⟩ := HS.out q kN aN hx0
      have HH := hid hh
      have hvn : q = vn := by
        obtain ⟨a', n', c', e', sl⟩ := ho.reads
        cases e'
        have h1 := sl.len
        rw [List.length_take, lowS_len] at h1
        have := LG.out; omega
      subst hvn
      have s1 := ps1.at q hlt
      have s2 := ps1.free q
      have hq64 : q < 64 := by omega
      obtain ⟨c0, c1, c2, c3, cf2, cf3⟩ := oc
      have g12 : (kN == 12) = false := by simpa using hk12
      have g13 : (kN == 13) = false := by simpa using hk13
      generalize pl.getD q 0 = y at s1
      clear e7 hx0 ho ps1 hb hk12 hk13 k0w k1w
      go_upto_region 10 with fail
      refine wp_name ?_
      intro VS hVS
      have HVS := hid hVS
      have PS1 : Hid (PlSt VS (X.heap.size + 1 + 1) gn w.heap.size (pl.set q (q : Int))) := hid (by rw [hVS]; exact HPS.out.put q _)
      have OC1 : Hid (OutC VS (X.heap.size + 1) (f : Int) (gy + 8) (.slice va q vc) (.slice none 0 0)) := hid (by rw [hVS]; exact OCW.out.setFar (by first | (simp; done) | (simp; omega)))
      have HO1 : Hid (OSl layIr 44 88 VS (fun b => (X.heap.size + 1 + 1) < b) (.slice va q vc) ((lowS ps f gy fl).take q)) := hid (by rw [hVS]; exact HO.out.set _ _ (by simp))
      have BW1 : Hid (Below w.heap.size w VS) := hid (by rw [hVS]; exact Below.setCell HB.out (by first | (simp; done) | (simp; omega)) _)
      have RSS : Hid (Res0 VS (w.heap.size + 1)) := hid (by rw [hVS]; exact RS.out.frm (Below.heap_setCell _ _ _ _ (by first | (simp; done) | (simp; omega))))
      have p0' : VS.cell? ⟨w.heap.size, 0, none⟩ = some (.slice (some ⟨bp, op, none⟩) pn pc) := by rw [hVS]; exact cell_set_far p0 (by first | (simp; done) | (simp; omega))
      have f1' : VS.cell? ⟨(X.heap.size), 1, none⟩ = some (.int .i64 gy) := by rw [hVS]; exact cell_set_far f1 (by first | (simp; done) | (simp; omega))
      have f2' : VS.cell? ⟨(X.heap.size), 2, none⟩ = some (.slice (some ⟨bi, oi, none⟩) gn gc) := by rw [hVS]; exact cell_set_far f2 (by first | (simp; done) | (simp; omega))
      have k0' : VS.cell? ⟨bi, oi + q * 2, none⟩ = some (.int .i64 kN) := by rw [hVS]; exact cell_set_far k0 (by first | (simp; done) | (simp; omega))
      have k1' : VS.cell? ⟨bi, oi + q * 2 + 1, none⟩ = some (.int .i64 aN) := by rw [hVS]; exact cell_set_far k1 (by first | (simp; done) | (simp; omega))
      clear hVS p0 f1 f2 k0 k1 c0 c1 c2 c3 cf2 cf3 s1 s2 HVS hzp hzf hzg hzc hzr rs
      go_wp2_with fail
      refine (refHeight_any _ _ _ ps (f : Int) (q : Int) _ (HP.out.kept BW1.out)).mono ?_
      rintro e V1 ⟨rfl, bV1⟩
      have hh' : ¬ heightV ps (f : Int) (q : Int) < 0 := by have := HH.out; omega
      have PS2 := hid (PS1.out.kept bV1)
      have OC2 := hid (OC1.out.kept bV1)
      have HO2 := hid (HO1.out.kept bV1)
      have RS2 := hid (RSS.out.frm (bV1.block _ (lt_of_cell RSS.out.c0)))
      have BW2 := hid (kt BW1.out bV1)
      replace p0' := kept_cell bV1 p0'
      replace f1' := kept_cell bV1 f1'
      replace f2' := kept_cell bV1 f2'
      replace k0' := kept_cell bV1 k0'
      replace k1' := kept_cell bV1 k1'
      have zf := lt_of_cell f1'
      have zk := lt_of_cell k0'
      clear bV1
      generalize heightV ps (f : Int) (q : Int) = HT at hh'
      go_upto_region 15 with fail
      refine wp_name ?_
      intro V0 hV0
      have bV0 : Below V1.heap.size V1 V0 := by rw [hV0]; exact Below.alloc (Below.refl _ _) (Nat.le_refl _) _
      have PS := hid (PS2.out.kept bV0)
      have OCV := hid (OC2.out.kept bV0)
      have HOV := hid (HO2.out.kept bV0)
      have RS0 := hid (RS2.out.frm (bV0.block _ (lt_of_cell RS2.out.c0)))
      have hzr0 := lt_of_cell RS0.out.c0
      have BW := hid (kt BW2.out bV0)
      have BV0 := BW
      have q0V := hid (kept_cell bV0 p0')
      have f1V := hid (kept_cell bV0 f1')
      have f2V := hid (kept_cell bV0 f2')
      have hzG := PS.out.row.lt (X.heap.size + 1 + 1) rfl
      have hzC := lt_of_cell OCV.out.c2
      have hzF := lt_of_cell f1V.out
      have d2 := OCV.out.c2
      have df2 := OCV.out.f2
      have hzW := BW.out.size
      obtain ⟨t, F, sn⟩ := HOV.out.snocIn
      have SN := hid sn
      have HQ : Hid (((lowS ps f gy fl).take q).length = q) := hid (by rw [List.length_take, lowS_len]; have := LG.out; omega)
      have HRW : Hid (V0.ownsRow 0 44 9 (.slice va q vc) q t.flatten) := hid (by have := sn.row; rwa [HQ.out] at this)
      have SA : Hid (∀ w', Below V0.heap.size V0 w' → (w'.cell? ⟨w.heap.size, 0, none⟩ = some (.slice (some ⟨bp, op, none⟩) pn pc)) ∧ (w'.cell? ⟨(X.heap.size + 1), 2, none⟩ = some (.slice va q vc))) := hid (fun w' b => ⟨kept_cell b q0V.out, kept_cell b OCV.out.c2⟩)
      have BC : Below V0.heap.size V0 V0 := Below.refl _ _
      clear hV0 bV0 p0' f1' f2' k0' k1' sn zf zk d2 df2
      refine wp_region_L 9 (fun w' => w'.cell? ⟨w.heap.size, 0, none⟩ = some (.slice (some ⟨bp, op, none⟩) pn pc)) (fun w' => w'.cell? ⟨(X.heap.size + 1), 2, none⟩ = some (.slice va q vc)) (by kernel_rfl) ?_ (fun hH0 => ?_)
      · (try dsimp only); first | (refine SA.out _ ?_; (repeat (first | with_reducible exact BC | with_reducible refine qDrew ?_ | with_reducible refine qAlloc ?_)); done) | exact ⟨(cellFrm (P.out.2.2 _ (by omega))).trans q0V.out, P.out.1.c2⟩
      refine wpL_take (i := 0) (oi := ⟨_, _, _, _, _, _⟩) (v := ?_) rfl (by kernel_rfl) (by kernel_rfl) (by kernel_rfl) (by kernel_rfl) (by kernel_rfl) (fun _ _ _ h => h) (Or.inl ⟨by rfl, ?_⟩) (by exact hH0) ?_
      rotate_left
      · (intro x hx; (try dsimp only at hx); go_simp; try (with_reducible rfl))
      try simp only [Act.put, List.setIfInBounds_toArray, List.set_cons_zero, List.set_cons_succ]
      refine wpL_take (i := 1) (oi := ⟨_, _, _, _, _, _⟩) (v := ?_) rfl (by kernel_rfl) (by kernel_rfl) (by kernel_rfl) (by kernel_rfl) (by kernel_rfl) (fun _ _ _ h => h) (Or.inl ⟨by rfl, ?_⟩) (by exact hH0) ?_
      rotate_left
      · (intro x hx; (try dsimp only at hx); go_simp; try (with_reducible rfl))
      try simp only [Act.put, List.setIfInBounds_toArray, List.set_cons_zero, List.set_cons_succ]
      refine wpL_take (i := 2) (oi := ⟨_, _, _, _, _, _⟩) (v := ?_) rfl (by kernel_rfl) (by kernel_rfl) (by kernel_rfl) (by kernel_rfl) (by kernel_rfl) (fun _ _ _ h => h) (Or.inl ⟨by rfl, ?_⟩) (by exact hH0) ?_
      rotate_left
      · (intro x hx; (try dsimp only at hx); go_simp; try (with_reducible rfl))
      try simp only [Act.put, List.setIfInBounds_toArray, List.set_cons_zero, List.set_cons_succ]
      refine wpL_take (i := 3) (oi := ⟨_, _, _, _, _, _⟩) (v := ?_) rfl (by kernel_rfl) (by kernel_rfl) (by kernel_rfl) (by kernel_rfl) (by kernel_rfl) (fun _ _ _ h => h) (Or.inl ⟨by rfl, ?_⟩) (by exact hH0) ?_
      rotate_left
      · (intro x hx; (try dsimp only at hx); go_simp; try (with_reducible rfl))
      try simp only [Act.put, List.setIfInBounds_toArray, List.set_cons_zero, List.set_cons_succ]
      refine wpL_take (i := 4) (oi := ⟨_, _, _, _, _, _⟩) (v := ?_) rfl (by kernel_rfl) (by kernel_rfl) (by kernel_rfl) (by kernel_rfl) (by kernel_rfl) (fun _ _ _ h => h) (Or.inl ⟨by rfl, ?_⟩) (by exact hH0) ?_
      rotate_left
      · (intro x hx; (try dsimp only at hx); go_simp; try (with_reducible rfl))
      try simp only [Act.put, List.setIfInBounds_toArray, List.set_cons_zero, List.set_cons_succ]
      refine wpL_ready (rs := [5]) (by kernel_rfl) (by simp) ?_
      refine eachL_cons (o := ⟨_, _, _, _, _, _⟩) rfl (by rfl) (fun K hK => ?_) ?_
      · skip
        go_simp
        refine (refOne_any _ _ _ ps f q gx gy fl kN aN _ (HP.out.kept (kt BV0.out (by repeat (first | with_reducible exact BC | with_reducible refine qDrew ?_ | with_reducible refine qAlloc ?_)))) HH.out E3.out HX.out hk14).mono ?_; rintro e w1 ⟨kd, r, ra, rb, k, rfl, eo, b1⟩; have EO := hid eo; replace BC := kt (Below.drew BC) b1; clear eo b1
        refine hK.out _ _ ?_ (fun hH1 => ?_)
        · (try dsimp only); first | (refine SA.out _ ?_; (repeat (first | with_reducible exact BC | with_reducible refine qDrew ?_ | with_reducible refine qAlloc ?_)); done) | exact ⟨(cellFrm (P.out.2.2 _ (by omega))).trans q0V.out, P.out.1.c2⟩
        clear hK K hH0
        try simp only [Act.put, List.setIfInBounds_toArray, List.set_cons_zero, List.set_cons_succ]
        refine wpL_ready (rs := [6]) (by kernel_rfl) (by simp) ?_
        refine eachL_cons (o := ⟨_, _, _, _, _, _⟩) rfl (by rfl) (fun K hK => ?_) ?_
        · skip
          go_simp
          refine hK.out _ _ ?_ (fun hH2 => ?_)
          · (try dsimp only); first | (refine SA.out _ ?_; (repeat (first | with_reducible exact BC | with_reducible refine qDrew ?_ | with_reducible refine qAlloc ?_)); done) | exact ⟨(cellFrm (P.out.2.2 _ (by omega))).trans q0V.out, P.out.1.c2⟩
          clear hK K hH1
          try simp only [Act.put, List.setIfInBounds_toArray, List.set_cons_zero, List.set_cons_succ]
          refine wpL_ready (rs := [7]) (by kernel_rfl) (by simp) ?_
          refine eachL_cons (o := ⟨_, _, _, _, _, _⟩) rfl (by rfl) (fun K hK => ?_) ?_
          · skip
            refine step_append_lies _ rfl (.tmp 100) (.tmp 105) 26 rfl 0 44 i0 (.agg #[.int .i64 0, .int .i64 0, .int .i64 0, .int .i64 0, .int .i64 0, .slice none 0 0, .int .i64 0, .int .i64 0, .int .i64 0]) 9 88 Tryz.underlying26 hi hz0 hz1 hz2 rfl (by decide) (.slice va q vc) q t.flatten (by simp [Act.eval]) (owns_kept HRW.out (by repeat (first | with_reducible exact BC | with_reducible refine qDrew ?_ | with_reducible refine qAlloc ?_))) ⟨w1.heap.size, 0, none⟩ 1 1 [.int .i64 kd, .int .i64 r, .int .i64 ra, .int .i64 rb, .int .i64 k, .slice none 0 0, .int .i64 1, .int .i64 0, .int .i64 (q : Int)] (by simp [Act.eval]) rfl (news_of (by simp) _ 44) (by intro u hu; simp at hu; rcases hu with rfl | rfl | rfl | rfl | rfl | rfl | rfl | rfl | rfl <;> rfl) (by decide) (by unfold maxLen; omega) (by omega) (Nat.zero_le _) (w1.heap.size + 1) (by simp) ?_; intro g cap w6 ho6 hg6 hat hlt6; have L4 := hid (show Below V0.heap.size V0 (w1.alloc (.cells #[.int .i64 kd, .int .i64 r, .int .i64 ra, .int .i64 rb, .int .i64 k, .slice none 0 0, .int .i64 1, .int .i64 0, .int .i64 (q : Int)] 44)) from by repeat (first | with_reducible exact BC | with_reducible refine qDrew ?_ | with_reducible refine qAlloc ?_)); have OX := hid (ir_owns (kd := kd) (r := r) (ra := ra) (rb := rb) (k := k) (cost := 1) (mt := 0) (ip := (q : Int)) (OSl.nil layI 3 8 (w1.alloc (.cells #[.int .i64 kd, .int .i64 r, .int .i64 ra, .int .i64 rb, .int .i64 k, .slice none 0 0, .int .i64 1, .int .i64 0, .int .i64 (q : Int)] 44)) (fun _ => False))); have P := hid (And.intro (OutC.grown OCV.out SN.out hg6 L4.out (by omega)) (And.intro (SN.out.snoc (bytes := 88) HQ.out (by omega) ho6 hg6 (by simpa using hat) L4.out OX.out (fun b hb => hb.elim)) (fun b (hb : b < (X.heap.size + 1 + 1) + 1) => SN.out.frm hg6 L4.out (b := b) (by omega) (by omega)))); obtain ⟨d2, df2⟩ := And.intro P.out.1.c2 P.out.1.f2; have hs6 := hg6.size; have B6 := hid (And.intro hg6.os (And.intro hg6.tape (And.intro hg6.output hg6.size))); clear ho6 hg6 hat hlt6
            refine hK.out _ _ ?_ (fun hH3 => ?_)
            · (try dsimp only); first | (refine SA.out _ ?_; (repeat (first | with_reducible exact BC | with_reducible refine qDrew ?_ | with_reducible refine qAlloc ?_)); done) | exact ⟨(cellFrm (P.out.2.2 _ (by omega))).trans q0V.out, P.out.1.c2⟩
            clear hK K hH2
            try simp only [Act.put, List.setIfInBounds_toArray, List.set_cons_zero, List.set_cons_succ]
            refine wpL_take (i := 8) (oi := ⟨_, _, _, _, _, _⟩) (v := ?_) rfl (by kernel_rfl) (by kernel_rfl) (by kernel_rfl) (by kernel_rfl) (by kernel_rfl) (fun _ _ _ h => h) (Or.inl ⟨by rfl, ?_⟩) (by exact hH3) ?_
            rotate_left
            · (intro x hx; (try dsimp only at hx); go_simp; try (with_reducible rfl))
            try simp only [Act.put, List.setIfInBounds_toArray, List.set_cons_zero, List.set_cons_succ]
            refine wpL_ready (rs := [9]) (by kernel_rfl) (by simp) ?_
            refine eachL_last (o := ⟨_, _, _, _, _, _⟩) rfl (fun K hK => ?_)
            go_simp
            refine hK.out _ _ ?_ ?_
            · (try dsimp only); exact cell_set_far ((cellFrm (P.out.2.2 _ (by omega))).trans q0V.out) (by simp; omega)
            clear hK K
            try simp only [Act.put, List.setIfInBounds_toArray, List.set_cons_zero, List.set_cons_succ]
            refine wpL_done (by kernel_rfl) ?_ _
            go_wp2_with fail
            go_roundw
            case rel =>
              refine ⟨q + 1, _, _, _, pl.set q (q : Int), by omega, by go_num, P.out.1.set2, ?_, ?_, ?_, ?_, ?_, (RS0.out.frm (P.out.2.2 (w.heap.size + 1) (by omega))).frm (Below.heap_setCell _ _ _ _ (by first | (simp; done) | (simp; omega))), ?_⟩
              · rw [List.take_add_one, lowS_at HX.out, EO.out]
                exact (P.out.2.1.sub (fun b hb _ => by rcases hb with hb | hb; exact hb; show (X.heap.size + 1 + 1) < b; omega)).set _ _ (by first | (simp; done) | (simp; omega))
              · exact (PS.out.frm (P.out.2.2 (X.heap.size + 1 + 1) (by omega))).setFar (by first | (simp; done) | (simp; omega))
              · exact cell_set_far ((cellFrm (P.out.2.2 _ (by omega))).trans q0V.out) (by first | (simp; done) | (simp; omega))
              · exact cell_set_far ((cellFrm (P.out.2.2 _ (by omega))).trans f1V.out) (by first | (simp; done) | (simp; omega))
              · exact cell_set_far ((cellFrm (P.out.2.2 _ (by omega))).trans f2V.out) (by first | (simp; done) | (simp; omega))
              · exact Below.setCell (BW.out.trans ⟨B6.out.1.trans L4.out.os, B6.out.2.1.trans L4.out.tape, B6.out.2.2.1.trans L4.out.output, by have := L4.out.size; omega, fun b hb => P.out.2.2 b (by omega)⟩) (by first | (simp; done) | (simp; omega)) _
            case measure => simp [intOf]; omega
          exact eachL_nil
        exact eachL_nil
      exact eachL_nil
    · have hqn : q = gn := by omega
      subst hqn
      have OCD : Hid (OSl layIr 44 88 V (fun b => (X.heap.size + 1 + 1) < b) (.slice va vn vc) (lowS ps f gy fl)) := hid (by
        have o := HO.out
        rwa [List.take_of_length_le (by rw [lowS_len]; have := LG.out; omega)] at o)
      obtain ⟨va', vn', vc', ev, SLV⟩ := OCD.out.reads
      cases ev
      have HSL := hid SLV
      have hvl := SLV.len
      have hvn : vn ≤ 64 := by rw [hvl, lowS_len]; have := LG.out; omega
      have hvr := SLV.room
      have hvc := SLV.cap
      clear hq ps1 p0 f1 ho hb SLV hvl
      obtain ⟨c0, c1, c2, c3, cf2, cf3⟩ := oc
      go_wp2_with fail
      clear f2 hlt
      go_loopw [11] (fun i wr => ∃ j : Nat, j ≤ vn ∧ i = .int .i64 j ∧ wr = V) (fun i _ => vn - (intOf i).toNat)
      case atStart => exact ⟨0, Nat.zero_le _, rfl, rfl⟩
      case round =>
        obtain ⟨j, hj, rfl, rfl⟩ := hrel
        by_cases hlt : j < vn
        · obtain ⟨bj, oj, kd, r, ra, rb, k, xa, xn, xc, args, cost, mt, ip, rfl, hx, e0, -, -, -, -, -, -, -, -, -⟩ := ir_at HSL.out j hlt
          have hjn : j < fl.length := by have := HSL.out.len; rw [lowS_len] at this; omega
          have hxx := lowS_at (ps := ps) (f := f) (gy := gy) (List.getElem?_eq_getElem hjn)
          rw [hx] at hxx
          obtain ⟨-, h12, h13, -⟩ := HS.out j fl[j].1 fl[j].2 (List.getElem?_eq_getElem hjn)
          have hk := one_kind (ps := ps) (T := gy + heightV ps (f : Int) (j : Int)) (pc := (j : Int)) (A := fl[j].2) h12 h13
          have hkd : kd = (oneV ps (gy + heightV ps (f : Int) (j : Int)) (j : Int) fl[j]).1 := congrArg (fun x => x.1) (Option.some.inj hxx)
          have g4 : (kd == 4) = false := by rw [hkd]; simpa using hk.1
          have g5 : (kd == 5) = false := by rw [hkd]; simpa using hk.2
          clear hxx hx hk hkd h12 h13
          go_wp2_with fail
          go_roundw
          case rel => exact ⟨j + 1, by omega, by go_num, by first | rfl | trivial⟩
          case measure => simp [intOf]; omega
        · obtain ⟨r0, r1, r2, r3, rf⟩ := RS.out
          go_wp2_with fail
          refine bodyPost_ret (v := .tuple #[.agg #[.int .i64 (f : Int), .int .i64 (gy + 8), .slice va vn vc, .slice none 0 0], .int .i64 0]) (by simp [results, Tryz.results9, go_sem, r0, r1, r2, r3]) rfl ⟨_, rfl, ?_, ?_⟩
          · refine OSl.sub (B := fun b => (X.heap.size + 1 + 1) < b) ?_ (fun b hb _ => by have h : X.heap.size + 1 + 1 < b := hb; have := hWX.out; show w.heap.size ≤ b; omega)
            repeat (first | exact OCD.out | refine OSl.set ?_ _ _ (by have := hWX.out; show ¬ (X.heap.size + 1 + 1 < w.heap.size + 1); omega))
          · repeat (first | exact HB.out | refine Below.setCell ?_ (by simp) _)

end Go.Proofs.YtaimpljkbpnigaaGreatDoor

namespace Go.Proofs.YtaimpljkbpnigaaGreatDoor
open Go.RowKit
set_option linter.unusedVariables false

def fmC : List IrT := [(10, 0, 0, 0, 0, [], 0, 0, 0), (1, 1, 0, 0, 4, [], 0, 0, 0), (3, 2, 1, 0, 3, [], 0, 0, 0), (9, 0, 2, 1, 5, [], 0, 0, 0), (5, 0, 2, 0, 0, [], 1, 0, 0), (6, 1, 0, 0, 1, [0, 1], 1, 0, 0), (7, 0, 1, 0, 0, [], 1, 0, 0), (11, 0, 0, 0, 0, [], 0, 0, 0), (2, 0, 1, 0, 0, [], 0, 0, 0), (0, 0, 0, 0, 0, [], 0, 0, 0), (8, 0, 0, 0, 0, [], 0, 0, 0)]
def fmM : List (List PartT) := [[(0, 1, [(false, 0)], [(true, 7)])]]
theorem fm_ok : codeMayB twoL (0, 3, fmC, fmM) = true := by kernel_rfl

theorem may_ir {ps : List Fn} {cf rg : Int} {cl : List IrT} {ml : List (List PartT)} (q : Nat) (x : IrT) (hx : cl[q]? = some x) (h : irB ps rg cl.length ml.length q x = false) : codeMayB ps (cf, rg, cl, ml) = false := by
  have hi : irsB ps (cf, rg, cl, ml) cl.length = false := by
    unfold irsB
    refine List.all_eq_false.2 ⟨q, List.mem_range.2 (List.getElem?_eq_some_iff.1 hx).1, ?_⟩
    show ¬ irB ps rg cl.length ml.length q (cl.getD q noIr) = true
    rw [List.getD_eq_getElem?_getD, hx]
    show ¬ irB ps rg cl.length ml.length q x = true
    rw [h]; simp
  unfold codeMayB
  show (_ && (_ && (irsB ps (cf, rg, cl, ml) cl.length && _))) = false
  rw [hi]; simp
theorem may_head {ps : List Fn} {cf rg : Int} {cl : List IrT} {ml : List (List PartT)} (h : headC ps (cf, rg, cl, ml) = false) : codeMayB ps (cf, rg, cl, ml) = false := by unfold codeMayB; rw [h]; simp
theorem may_meta {ps : List Fn} {cf rg : Int} {cl : List IrT} {ml : List (List PartT)} (h : ml.all (metaB ps cf rg) = false) : codeMayB ps (cf, rg, cl, ml) = false := by
  unfold codeMayB
  show (_ && (_ && (_ && (ml.all (metaB ps cf rg) && _)))) = false
  rw [h]; simp
theorem ir_head {ps : List Fn} {rg : Int} {n m q : Nat} {kd r a b k : Int} {args : List Int} {cost mt pc : Int} (h : headI cost pc = false) : irB ps rg n m q (kd, r, a, b, k, args, cost, mt, pc) = false := by
  show (headI cost pc && _) = false
  rw [h]; rfl
theorem set_at {l : List IrT} {q : Nat} {x : IrT} (h : q < l.length) : (l.set q x)[q]? = some x := by simp [h]

theorem no_0 : codeMayB twoL (2, 3, fmC, fmM) = false := by kernel_rfl
theorem no_1 : codeMayB twoL (0, 0, fmC, fmM) = false := by kernel_rfl
theorem no_2 (d : Int) (h : 1 ≤ d) : codeMayB twoL (0, 64 + d, fmC, fmM) = false := may_head (by
  unfold headC
  have : decide (1 ≤ (64 + d) ∧ (twoL.getD (0 : Int).toNat noFn).2.1 ≤ (64 + d) ∧ (64 + d) ≤ 64 ∧ 1 ≤ fmC.length ∧ fmC.length ≤ 256 ∧ fmM.length ≤ 64) = false := decide_eq_false (by omega)
  show (_ && decide (1 ≤ (64 + d) ∧ (twoL.getD (0 : Int).toNat noFn).2.1 ≤ (64 + d) ∧ (64 + d) ≤ 64 ∧ 1 ≤ fmC.length ∧ fmC.length ≤ 256 ∧ fmM.length ≤ 64)) = false
  rw [this]; simp)
theorem no_3 : codeMayB twoL (0, 3, [], fmM) = false := by kernel_rfl
theorem no_4 : codeMayB twoL (0, 3, fmC.take 10, fmM) = false := by kernel_rfl
theorem no_5 : codeMayB twoL (0, 3, fmC, []) = false := by kernel_rfl
/-- The place q of fmC, but for its cost, its pc, its kind. -/
def fmCost (q : Nat) (c : Int) : List IrT := fmC.set q (match fmC.getD q noIr with | (kd, r, a, b, k, args, _, mt, pc) => (kd, r, a, b, k, args, c, mt, pc))
def fmPc (q : Nat) (c : Int) : List IrT := fmC.set q (match fmC.getD q noIr with | (kd, r, a, b, k, args, cost, mt, _) => (kd, r, a, b, k, args, cost, mt, c))
def fmKind (q : Nat) (c : Int) : List IrT := fmC.set q (match fmC.getD q noIr with | (_, r, a, b, k, args, cost, mt, pc) => (c, r, a, b, k, args, cost, mt, pc))
theorem no_6 (q : Nat) (hq : q < 11) (d : Int) (h : 1 ≤ d) : codeMayB twoL (0, 3, fmCost q (256 + d), fmM) = false :=
  may_ir q _ (set_at hq) (ir_head (by unfold headI; exact decide_eq_false (by omega)))
theorem no_7 (q : Nat) (hq : q < 11) (d : Int) (h : 1 ≤ d) : codeMayB twoL (0, 3, fmPc q (63 + d), fmM) = false :=
  may_ir q _ (set_at hq) (ir_head (by unfold headI; exact decide_eq_false (by omega)))
theorem no_8 (q : Nat) (hq : q < 11) (d : Int) (h : 1 ≤ d) : codeMayB twoL (0, 3, fmKind q (11 + d), fmM) = false :=
  may_ir q _ (set_at hq) (irB_no (by omega))
theorem no_9 (d : Int) (h : 1 ≤ d) : codeMayB twoL (0, 3, fmC.set 1 (1, 1, 0, 0, 2147483647 + d, [], 0, 0, 0), fmM) = false :=
  may_ir 1 _ (set_at (by decide)) (by rw [irB_k1, show isNum (2147483647 + d) = false by unfold isNum; simp; omega]; simp)
theorem no_10 (d : Int) (h : 1 ≤ d) : codeMayB twoL (0, 3, fmC.set 1 (1, 1, d, 0, 4, [], 0, 0, 0), fmM) = false :=
  may_ir 1 _ (set_at (by decide)) (by rw [irB_k1, show decide (((1 : Int), d, (0 : Int), (4 : Int), ([] : List Int), (0 : Int)) = (1, 0, 0, 4, [], 0)) = false from decide_eq_false (fun e => by simp at e; omega)]; simp)
theorem no_11 (d : Int) (h : 1 ≤ d) : codeMayB twoL (0, 3, fmC.set 2 (3, 2, 1, 0, 9 + d, [], 0, 0, 0), fmM) = false :=
  may_ir 2 _ (set_at (by decide)) (by rw [irB_k3, show decide (3 ≤ 9 + d ∧ 9 + d ≤ 9) = false from decide_eq_false (by omega)]; simp)
theorem no_12 (d : Int) (h : 1 ≤ d) : codeMayB twoL (0, 3, fmC.set 2 (3, 2 + d, 1, 0, 3, [], 0, 0, 0), fmM) = false :=
  may_ir 2 _ (set_at (by decide)) (by rw [irB_k3, show regB 3 (2 + d) = false by unfold regB; exact decide_eq_false (by omega)]; simp)
theorem no_13 (d : Int) (h : 1 ≤ d) : codeMayB twoL (0, 3, fmC.set 3 (9, 0, 2, 1 + d, 5, [], 0, 0, 0), fmM) = false :=
  may_ir 3 _ (set_at (by decide)) (by rw [irB_k9, show decide (1 + d = 0 ∨ 1 + d = 1) = false from decide_eq_false (by omega)]; simp)
theorem no_14 (d : Int) (h : 1 ≤ d) : codeMayB twoL (0, 3, fmC.set 3 (9, 0, 2, 1, 5, [], 0, d, 0), fmM) = false :=
  may_ir 3 _ (set_at (by decide)) (by rw [irB_k9, show inB fmM.length d = false by unfold inB; exact decide_eq_false (by show ¬ (0 ≤ d ∧ d < ((1 : Nat) : Int)); omega)]; simp)
theorem no_15 : codeMayB twoL (0, 3, fmC.set 4 (5, 0, 2, 0, 0, [], 0, 0, 0), fmM) = false := by kernel_rfl
theorem no_16 (d : Int) (h : 1 ≤ d) : codeMayB twoL (0, 3, fmC.set 4 (5, 0, 2, 0, 10 + d, [], 1, 0, 0), fmM) = false :=
  may_ir 4 _ (set_at (by decide)) (by rw [irB_k5, show placeOk (fmC.set 4 (5, 0, 2, 0, 10 + d, [], 1, 0, 0)).length 4 (10 + d) 1 = false by unfold placeOk; exact decide_eq_false (by show ¬ (0 ≤ 10 + d ∧ 10 + d < ((11 : Nat) : Int) ∧ _); omega)]; simp)
theorem no_17 : codeMayB twoL (0, 3, fmC.set 5 (6, 1, 0, 0, 1, [0], 1, 0, 0), fmM) = false := by kernel_rfl
theorem no_18 : codeMayB twoL (0, 3, fmC.set 5 (6, 1, 0, 0, 1, [0, 1], 0, 0, 0), fmM) = false := by kernel_rfl
theorem no_19 : codeMayB twoL (0, 3, fmC.set 6 (7, 0, 1, 0, 0, [], 0, 0, 0), fmM) = false := by kernel_rfl
theorem no_part {x : PartT} (h : partB twoL 3 0 x = false) : codeMayB twoL (0, 3, fmC, [[x]]) = false := may_meta (by
  show ((decide (x.1 = 0) && partB twoL 3 0 x) && true) = false
  rw [h]; simp)
theorem no_20 (d : Int) (h : 1 ≤ d) : codeMayB twoL (0, 3, fmC, [[(0, 6 + d, [(false, 0)], [(true, 7)])]]) = false := no_part (by
  have : reachedB twoL 0 (6 + d) = false := by
    rw [Bool.eq_false_iff]
    intro k
    obtain ⟨f, q, hf, hq, _, hl, _⟩ := reached_in (of_decide_eq_true k)
    obtain rfl : f = 0 := by omega
    have h6 : q < 6 := hl
    omega
  unfold partB
  show (reachedB twoL 0 (6 + d) && _) = false
  rw [this]; rfl)
theorem no_21 : codeMayB twoL (0, 3, fmC, [[(0, 1, [(false, 0)], [])]]) = false := by kernel_rfl
theorem no_22 (d : Int) (h : 1 ≤ d) : codeMayB twoL (0, 3, fmC, [[(0, 1, [(false, 2 + d)], [(true, 7)])]]) = false := no_part (by
  have : srcsB 3 [(false, 2 + d)] (twoL.getD (0 : Int).toNat noFn).2.1 = false := by
    unfold srcsB
    have : srcB 3 (false, 2 + d) = false := by show regB 3 (2 + d) = false; unfold regB; exact decide_eq_false (by omega)
    simp [this]
  unfold partB
  show (_ && (srcsB 3 [(false, 2 + d)] (twoL.getD (0 : Int).toNat noFn).2.1 && _)) = false
  rw [this]; simp)
theorem no_23 : codeMayB twoL (0, 3, fmC, [[(1, 1, [(false, 0)], [(true, 7)])]]) = false := by kernel_rfl

/-- Instructions as cells, where one slice of arguments serves all. -/
def irV (v : Value) (x : IrT) : List Value := [.int .i64 x.1, .int .i64 x.2.1, .int .i64 x.2.2.1, .int .i64 x.2.2.2.1, .int .i64 x.2.2.2.2.1, (if x.2.2.2.2.2.1 = [] then .slice none 0 0 else v), .int .i64 x.2.2.2.2.2.2.1, .int .i64 x.2.2.2.2.2.2.2.1, .int .i64 x.2.2.2.2.2.2.2.2]
def irsV (v : Value) (l : List IrT) : List Value := (l.map (irV v)).flatten
/-- The cells of a block from its start on. -/
def CellsAt (w : World) (g : Nat) (l : List Value) : Prop := ∀ j u, l[j]? = some u → w.cell? ⟨g, j, none⟩ = some u
theorem CellsAt.kept {w w' : World} {g : Nat} {l : List Value} (h : CellsAt w g l) (b : Below w.heap.size w w') : CellsAt w' g l := fun j u hj => kept_cell b (h j u hj)
theorem CellsAt.set {w : World} {g : Nat} {l : List Value} (h : CellsAt w g l) (i : Nat) (v : Value) : CellsAt (w.setCell ⟨g, i, none⟩ v) g (l.set i v) := by
  intro j u hj
  by_cases hij : i = j
  · subst hij
    have hl : i < l.length := by have := (List.getElem?_eq_some_iff.1 hj).1; simpa using this
    rw [List.getElem?_set_self hl] at hj
    cases hj
    exact World.cell?_setCell_same _ _ _ (h i _ (List.getElem?_eq_getElem hl))
  · rw [List.getElem?_set_ne hij] at hj
    have := h j u hj
    rw [World.cell?_setCell_other _ _ _ _ (fun e => hij (by cases e; rfl))]
    exact this
theorem CellsAt.far {w : World} {g : Nat} {l : List Value} (h : CellsAt w g l) (p : Addr) (hp : p.block ≠ g) (v : Value) : CellsAt (w.setCell p v) g l := fun j u hj => cell_set_far (h j u hj) (fun e => hp e.symm)
theorem CellsAt.irs {w : World} {g c : Nat} {v : Value} {l : List IrT} (h : CellsAt w g (irsV v l)) (hv : ∀ x ∈ l, ¬ x.2.2.2.2.2.1 = [] → ∃ a n c, v = .slice a n c ∧ Ints w a n c x.2.2.2.2.2.1) (hl : l.length * 88 ≤ 140737488351232) (hc : l.length ≤ c) : Sl layIr 88 w (some ⟨g, 0, none⟩) l.length c l := by
  refine ⟨rfl, hc, hl, fun e => (by cases e), fun _ => ⟨g, 0, rfl, fun i x hx => ?_⟩⟩
  have h9 : ∀ y ∈ l.map (irV v), y.length = 9 := by
    intro y hy
    obtain ⟨z, _, rfl⟩ := List.mem_map.1 hy
    rfl
  have hi : i < l.length := (List.getElem?_eq_some_iff.1 hx).1
  have e : (l.map (irV v)).getD i [] = irV v x := by rw [List.getD_eq_getElem?_getD, List.getElem?_map, hx]; rfl
  have hcell : ∀ j u, j < 9 → (irV v x)[j]? = some u → w.cell? ⟨g, 0 + i * 9 + j, none⟩ = some u := by
    intro j u hj hu
    rw [Nat.zero_add]
    exact h _ _ (by unfold irsV; rw [flat_at h9 i j (by simpa using hi) hj, e]; exact hu)
  have hx' := hv x (List.mem_of_getElem? hx)
  obtain ⟨kd, r, a, b, k, args, cost, mt, pc⟩ := x
  refine ⟨hcell 0 _ (by decide) rfl, hcell 1 _ (by decide) rfl, hcell 2 _ (by decide) rfl, hcell 3 _ (by decide) rfl, hcell 4 _ (by decide) rfl, ?_, hcell 6 _ (by decide) rfl, hcell 7 _ (by decide) rfl, hcell 8 _ (by decide) rfl⟩
  by_cases ha : args = []
  · subst ha
    exact ⟨none, 0, 0, hcell 5 _ (by decide) rfl, Sl.nil _ _ _⟩
  · obtain ⟨a', n', c', e', hi'⟩ := hx' ha
    refine ⟨a', n', c', ?_, hi'.sl⟩
    rw [← e']
    exact hcell 5 v (by decide) (by show some (if args = [] then _ else v) = some v; rw [if_neg ha])
theorem fmv_cost {v : Value} {q : Nat} (hq : q < 11) (c : Int) : (irsV v fmC).set (q * 9 + 6) (.int .i64 c) = irsV v (fmCost q c) := by
  have h : q = 0 ∨ q = 1 ∨ q = 2 ∨ q = 3 ∨ q = 4 ∨ q = 5 ∨ q = 6 ∨ q = 7 ∨ q = 8 ∨ q = 9 ∨ q = 10 := by omega
  rcases h with rfl | rfl | rfl | rfl | rfl | rfl | rfl | rfl | rfl | rfl | rfl <;> rfl
theorem fmv_pc {v : Value} {q : Nat} (hq : q < 11) (c : Int) : (irsV v fmC).set (q * 9 + 8) (.int .i64 c) = irsV v (fmPc q c) := by
  have h : q = 0 ∨ q = 1 ∨ q = 2 ∨ q = 3 ∨ q = 4 ∨ q = 5 ∨ q = 6 ∨ q = 7 ∨ q = 8 ∨ q = 9 ∨ q = 10 := by omega
  rcases h with rfl | rfl | rfl | rfl | rfl | rfl | rfl | rfl | rfl | rfl | rfl <;> rfl
theorem fmv_kind {v : Value} {q : Nat} (hq : q < 11) (c : Int) : (irsV v fmC).set (q * 9) (.int .i64 c) = irsV v (fmKind q c) := by
  have h : q = 0 ∨ q = 1 ∨ q = 2 ∨ q = 3 ∨ q = 4 ∨ q = 5 ∨ q = 6 ∨ q = 7 ∨ q = 8 ∨ q = 9 ∨ q = 10 := by omega
  rcases h with rfl | rfl | rfl | rfl | rfl | rfl | rfl | rfl | rfl | rfl | rfl <;> rfl
theorem allocs_heap (u : World) (bs : List Obj) (i : Nat) (o : Obj) (h : bs[i]? = some o) : (allocs u bs).heap[u.heap.size + i]? = some o := by
  induction bs generalizing u i with
  | nil => simp at h
  | cons b r ih =>
    cases i with
    | zero =>
      have e : b = o := by simpa using h
      subst e
      show (allocs (u.alloc b) r).heap[u.heap.size]? = _
      rw [(allocs_below (u.alloc b) r).block u.heap.size (by simp)]
      exact heap_alloc_new u b
    | succ i =>
      have := ih (u.alloc b) i (by simpa using h)
      simp only [World.size_alloc] at this
      rw [show u.heap.size + (i + 1) = u.heap.size + 1 + i by omega]
      exact this
theorem allocs_cells (u : World) (bs : List Obj) (i : Nat) (c : Array Value) (t : TypeId) (h : bs[i]? = some (.cells c t)) : CellsAt (allocs u bs) (u.heap.size + i) c.toList ∧ ∀ j, (allocs u bs).frozen? ⟨u.heap.size + i, j, none⟩ = false := by
  have hh := allocs_heap u bs i _ h
  refine ⟨fun j v hj => (cell_of_heap hh (by simpa using hj)).1, fun j => ?_⟩
  simp [World.frozen?, hh]
theorem heap_cells {w : World} {g : Nat} {c : Array Value} {t : TypeId} (h : w.heap[g]? = some (.cells c t)) : CellsAt w g c.toList ∧ ∀ j, w.frozen? ⟨g, j, none⟩ = false :=
  ⟨fun j v hj => (cell_of_heap h (by simpa using hj)).1, fun j => by simp [World.frozen?, h]⟩
theorem CellsAt.away {w : World} {g : Nat} {l : List Value} (h : CellsAt w g l) (b o : Nat) (v : Value) (hb : b ≠ g) : CellsAt (w.setCell ⟨b, o, none⟩ v) g l := h.far _ hb v
theorem ints_cells {w : World} {g : Nat} {l : List Int} (h : CellsAt w g (ints l)) (hl : l.length * 8 ≤ 140737488351232) : Ints w (some ⟨g, 0, none⟩) l.length l.length l := by
  have : Sl layI 8 w (some ⟨g, 0, none⟩) l.length l.length l := ⟨rfl, Nat.le_refl _, hl, fun e => (by cases e), fun _ => ⟨g, 0, rfl, fun i x hx => by
    show w.cell? ⟨g, 0 + i * 1, none⟩ = some (.int .i64 x)
    rw [Nat.zero_add, Nat.mul_one]
    refine h i _ ?_
    unfold ints
    rw [List.getElem?_map, hx]; rfl⟩⟩
  exact this.ints
theorem CellsAt.pre {w : World} {g : Nat} {l l' : List Value} (h : CellsAt w g l) (n : Nat) (hl : l' = l.take n) : CellsAt w g l' := by
  intro j u hj
  subst hl
  refine h j u ?_
  rw [List.getElem?_take] at hj
  split at hj
  · exact hj
  · cases hj
theorem fm_args {x : IrT} (h : x ∈ fmC) : x.2.2.2.2.2.1 = [] ∨ x.2.2.2.2.2.1 = [0, 1] := by
  revert x; decide
theorem fm_set (q : Nat) (y : IrT) (hy : y.2.2.2.2.2.1 = [] ∨ y.2.2.2.2.2.1 = [0, 1]) : ∀ x ∈ fmC.set q y, x.2.2.2.2.2.1 = [] ∨ x.2.2.2.2.2.1 = [0, 1] := by
  intro x hx
  rcases List.mem_or_eq_of_mem_set hx with h | rfl
  · exact fm_args h
  · exact hy
theorem fm_getD (q : Nat) : (fmC.getD q noIr).2.2.2.2.2.1 = [] ∨ (fmC.getD q noIr).2.2.2.2.2.1 = [0, 1] := by
  rw [List.getD_eq_getElem?_getD]
  cases h : fmC[q]? with
  | none => exact .inl rfl
  | some x => exact fm_args (List.mem_of_getElem? h)
theorem fm_argsCost {q : Nat} {c : Int} : ∀ x ∈ fmCost q c, x.2.2.2.2.2.1 = [] ∨ x.2.2.2.2.2.1 = [0, 1] := fm_set _ _ (fm_getD q)
theorem fm_argsPc {q : Nat} {c : Int} : ∀ x ∈ fmPc q c, x.2.2.2.2.2.1 = [] ∨ x.2.2.2.2.2.1 = [0, 1] := fm_set _ _ (fm_getD q)
theorem fm_argsKind {q : Nat} {c : Int} : ∀ x ∈ fmKind q c, x.2.2.2.2.2.1 = [] ∨ x.2.2.2.2.2.1 = [0, 1] := fm_set _ _ (fm_getD q)
theorem fmCost_len (q : Nat) (c : Int) : (fmCost q c).length = 11 := by unfold fmCost; rw [List.length_set]; rfl
theorem fmPc_len (q : Nat) (c : Int) : (fmPc q c).length = 11 := by unfold fmPc; rw [List.length_set]; rfl
theorem fmKind_len (q : Nat) (c : Int) : (fmKind q c).length = 11 := by unfold fmKind; rw [List.length_set]; rfl
theorem fm_args17 : ∀ x ∈ fmC.set 5 (6, 1, 0, 0, 1, [0], 1, 0, 0), x.2.2.2.2.2.1 = [] ∨ x.2.2.2.2.2.1 = [0] := by decide
theorem fmv_int {v : Value} {q j : Nat} (hq : q < 11) (hj : j = 0 ∨ j = 6 ∨ j = 8) : ∃ z : Int, (irsV v fmC)[q * 9 + j]? = some (.int .i64 z) := by
  have h : q = 0 ∨ q = 1 ∨ q = 2 ∨ q = 3 ∨ q = 4 ∨ q = 5 ∨ q = 6 ∨ q = 7 ∨ q = 8 ∨ q = 9 ∨ q = 10 := by omega
  rcases h with rfl | rfl | rfl | rfl | rfl | rfl | rfl | rfl | rfl | rfl | rfl <;> rcases hj with rfl | rfl | rfl <;> exact ⟨_, rfl⟩
theorem fmv_at {w : World} {g q j : Nat} {v : Value} {t : TypeId} (h : w.heap[g]? = some (.cells (irsV v fmC).toArray t)) (hq : q < 11) (hj : j = 0 ∨ j = 6 ∨ j = 8) : ∃ z : Int, w.cell? ⟨g, q * 9 + j, none⟩ = some (.int .i64 z) := by
  obtain ⟨z, hz⟩ := fmv_int (v := v) hq hj
  exact ⟨z, (heap_cells h).1 _ _ hz⟩
/-- One meta of one part, written out. -/
theorem metas_of {w : World} {gM gP : Nat} {fn pc : Int} {la : Option Addr} {ln lc : Nat} {sa : Option Addr} {sn sc : Nat} {ll sl : List SrcT} (hM : w.cell? ⟨gM, 0, none⟩ = some (.slice (some ⟨gP, 0, none⟩) 1 1)) (h : CellsAt w gP [.int .i64 fn, .int .i64 pc, .slice la ln lc, .slice sa sn sc]) (hl : Sl laySrcs 16 w la ln lc ll) (hs : Sl laySrcs 16 w sa sn sc sl) :
    Sl layMeta 24 w (some ⟨gM, 0, none⟩) 1 1 [[(fn, pc, ll, sl)]] := by
  refine ⟨rfl, Nat.le_refl _, by omega, fun e => (by cases e), fun _ => ⟨gM, 0, rfl, fun i x hx => ?_⟩⟩
  obtain rfl : i = 0 := by have := (List.getElem?_eq_some_iff.1 hx).1; simpa using this
  cases hx
  refine ⟨_, _, _, hM, rfl, Nat.le_refl _, by omega, fun e => (by cases e), fun _ => ⟨gP, 0, rfl, fun i x hx => ?_⟩⟩
  obtain rfl : i = 0 := by have := (List.getElem?_eq_some_iff.1 hx).1; simpa using this
  cases hx
  exact ⟨h 0 _ rfl, h 1 _ rfl, ⟨la, ln, lc, h 2 _ rfl, hl⟩, ⟨sa, sn, sc, h 3 _ rfl, hs⟩⟩
/-- One source, written out. -/
theorem src_one {w : World} {g : Nat} {k : Bool} {v : Int} (h : CellsAt w g [.bool k, .int .i64 v]) : Sl laySrcs 16 w (some ⟨g, 0, none⟩) 1 1 [(k, v)] := by
  refine ⟨rfl, Nat.le_refl _, by omega, fun e => (by cases e), fun _ => ⟨g, 0, rfl, fun i x hx => ?_⟩⟩
  obtain rfl : i = 0 := by have := (List.getElem?_eq_some_iff.1 hx).1; simpa using this
  cases hx
  exact ⟨h 0 _ rfl, h 1 _ rfl⟩

end Go.Proofs.YtaimpljkbpnigaaGreatDoor
