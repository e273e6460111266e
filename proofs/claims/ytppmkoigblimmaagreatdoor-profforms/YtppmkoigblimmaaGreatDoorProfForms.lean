/- For any two integers the law ProfForms returns true: what is no function, no argument, no pc, no branch, or no profile of a program is refused by prof.Called, prof.Branched and prof.May as the document says. (The package's variables hold what the program's text lays.) -/
import Derived.Test.YtppmkoigblimmaaGreatDoorRows
import Derived.WalkKit
import Derived.ProofKit
import Derived.OpenShut
import Derived.ShutString
import Derived.ChangeOld
import Derived.Below
import Derived.Carry
import Derived.Lib.SmallJoins
import Derived.Handy
import Derived.WalkSmall
import Derived.SizedLaws
import Derived.Test.YtppmkoigblimmaaGreatDoorLaidOpenV
import Derived.Test.YtppmkoigblimmaaGreatDoorCards
import Derived.Test.YtppmkoigblimmaaGreatDoorTie
import Derived.SevenTiedAt
import Derived.LaidMore
import Derived.Stop.Joined
import Derived.Test.YtppmkoigblimmaaGreatDoorAwake9
import Derived.Test.YtppmkoigblimmaaGreatDoorOneProf
import Derived.Test.YtppmkoigblimmaaGreatDoorJ9d
namespace Go.Proofs.YtppmkoigblimmaaGreatDoor.profForms
open Go.ChangeShapes Go.WideShapes Go.ChangeAt Go.RowKit
open Go.ChangeMaps (open_string shut_string)
set_option linter.unusedVariables false

theorem own : ownKnob Tryz.prog.godebug = none := by kernel_rfl
theorem laidOut : laidOutB Tryz.prog = true := by kernel_rfl

def zL : List Fp := [(0, [0, 0, 0, 0], [0, 0, 0, 0], [(0, 0, 0)])]
theorem z_new : newP brL = zL ∧ newE brL = 0 := ⟨by kernel_rfl, by kernel_rfl⟩
theorem z_f : calledE brL zL 1 [1] = 900 := by kernel_rfl
theorem z_g : calledE brL zL 0 [] = 900 := by kernel_rfl
theorem z_h (x : Int) (hx : 2147483647 < x) : calledE brL zL 0 [x] = 900 := by
  have h : numsB [x] = false := by unfold numsB isNum; simp; omega
  have hb : calledB brL zL 0 [x] = false := by unfold calledB; rw [h]; simp
  unfold calledE; rw [hb]; rfl
theorem z_i : branchE brL zL 0 0 = 900 := by kernel_rfl
theorem z_j : branchE brL zL 0 4 = 900 := by kernel_rfl
theorem z_k (x : Int) (hx : x < 0) : branchE brL zL x 1 = 900 := by
  have h : inB brL.length x = false := by unfold inB; simp; omega
  have hb : branchB brL zL x 1 = false := by unfold branchB; rw [h]; simp
  unfold branchE; rw [hb]; rfl
theorem z_m : branchP brL zL 0 1 true = [(0, [0, 1, 0, 0], [0, 0, 0, 0], [(0, 0, 0)])] ∧ branchE brL zL 0 1 = 0 := ⟨by kernel_rfl, by kernel_rfl⟩
theorem prof_no {l : List Fp} (h : l.length = 1 → fpB (1, 1, brC) (l.getD 0 noFp) = false) : profB brL l = false := by
  by_cases hl : l.length = 1
  · have h1 : fpsB brL l 1 = false := by
      show (fpB (brL.getD 0 noFn) (l.getD 0 noFp) && true) = false
      rw [show brL.getD 0 noFn = (1, 1, brC) from rfl, h hl]
      rfl
    unfold profB
    rw [hl, h1]
    simp
  · unfold profB
    rw [decide_eq_false (show ¬ l.length = brL.length from hl)]
    simp
theorem called_no {l : List Fp} (h : profB brL l = false) : calledE brL l 0 [1] = 900 ∧ calledP brL l 0 [1] = [] := by
  have hb : calledB brL l 0 [1] = false := by unfold calledB; rw [h]; rfl
  unfold calledE calledP; rw [hb]; exact ⟨rfl, rfl⟩
theorem cnt_neg {x : Int} (h : x < 0) : cntB x = false := by unfold cntB; simp; omega
theorem cnt_big {x : Int} (h : 1073741824 < x) : cntB x = false := by unfold cntB; simp; omega
theorem z_0 (d : Int) (h : 0 < d) : profB brL [(-d, [0, 0, 0, 0], [0, 0, 0, 0], [(0, 0, 0)])] = false := prof_no (fun _ => by rw [show ([(-d, [0, 0, 0, 0], [0, 0, 0, 0], [(0, 0, 0)])] : List Fp).getD 0 noFp = (-d, [0, 0, 0, 0], [0, 0, 0, 0], [(0, 0, 0)]) from rfl, fpB_eq, cnt_neg (by omega)]; rfl)
theorem z_1 (d : Int) (h : 0 < d) : profB brL [(1073741824 + d, [0, 0, 0, 0], [0, 0, 0, 0], [(0, 0, 0)])] = false := prof_no (fun _ => by rw [show ([(1073741824 + d, [0, 0, 0, 0], [0, 0, 0, 0], [(0, 0, 0)])] : List Fp).getD 0 noFp = (1073741824 + d, [0, 0, 0, 0], [0, 0, 0, 0], [(0, 0, 0)]) from rfl, fpB_eq, cnt_big (by omega)]; rfl)
theorem z_2 : profB brL [(0, [], [0, 0, 0, 0], [(0, 0, 0)])] = false := by kernel_rfl
theorem z_3 (d : Int) (h : 0 < d) : profB brL [(0, [0, 0, 0, 0], [0, 0, -d, 0], [(0, 0, 0)])] = false := by
  refine prof_no (fun _ => ?_)
  rw [show ([(0, [0, 0, 0, 0], [0, 0, -d, 0], [(0, 0, 0)])] : List Fp).getD 0 noFp = (0, [0, 0, 0, 0], [0, 0, -d, 0], [(0, 0, 0)]) from rfl, fpB_eq]
  have : cntsB [0, 0, -d, 0] brC.length = false := by unfold cntsB; simp [cnt_neg (show -d < 0 by omega)]
  rw [this]
  simp
theorem z_4 : profB brL [(0, [0, 0, 0, 0], [0, 0, 0, 0], [])] = false := by kernel_rfl
theorem ap_no {a b c : Int} (h : apB (a, b, c) = false) : profB brL [(0, [0, 0, 0, 0], [0, 0, 0, 0], [(a, b, c)])] = false := by
  refine prof_no (fun _ => ?_)
  rw [show ([(0, [0, 0, 0, 0], [0, 0, 0, 0], [(a, b, c)])] : List Fp).getD 0 noFp = (0, [0, 0, 0, 0], [0, 0, 0, 0], [(a, b, c)]) from rfl, fpB_eq]
  have : apsB [(a, b, c)] 1 = false := by unfold apsB; simp [h]
  rw [this]
  simp
theorem z_5 (d : Int) (h : 0 < d) : profB brL [(0, [0, 0, 0, 0], [0, 0, 0, 0], [(2147483647 + d, 0, 0)])] = false := ap_no (by rw [apB_eq, show isNum (2147483647 + d) = false by unfold isNum; simp; omega]; rfl)
theorem z_6 (d : Int) (h : 0 < d) : profB brL [(0, [0, 0, 0, 0], [0, 0, 0, 0], [(0, 1073741824 + d, 0)])] = false := ap_no (by rw [apB_eq, cnt_big (by omega)]; simp)
theorem z_7 (d : Int) (h : 0 < d) : profB brL [(0, [0, 0, 0, 0], [0, 0, 0, 0], [(0, 0, -d)])] = false := ap_no (by rw [apB_eq, cnt_neg (x := -d) (by omega)]; simp)
theorem z_8 : profB brL [] = false := by kernel_rfl
set_option maxRecDepth 100000 in
set_option maxHeartbeats 20000000 in
theorem walk (a0 : Int) (a1 : Int) (w : World) (w0 : (Lit.int .i64 a0).wf = true) (w1 : (Lit.int .i64 a1).wf = true) (ld : Ld w) :
    Calls Tryz.prog 5 #[.int .i64 a0, .int .i64 a1] w fun e w' => e = .returned (.bool true) ∧ Below w.heap.size w w' := by
  have LD0 := hid ld
  clear ld
  have hm := and1023 a1
  have hd0 : 0 ≤ a1 % 1024 := Int.emod_nonneg _ (by omega)
  have hd1 : a1 % 1024 < 1024 := Int.emod_lt_of_pos _ (by omega)
  generalize a1 % 1024 = d0 at hm hd0 hd1
  obtain ⟨hk0, hk1⟩ := umod_bd a0 9 (by decide)
  have KB := hid (And.intro hk0 hk1)
  clear hk0 hk1
  go_enter Tryz.func5, Tryz.ntmps5
  go_wp2_with fail
  refine (awake9_any _ LD0.out).mono ?_
  rintro e w1 ⟨rfl, b1⟩
  have B1 := hid b1
  clear b1
  go_upto_region 5 with fail
  refine wp_name ?_
  intro U3 hU3
  have A3 : Hid (Below w1.heap.size w1 U3) := hid (by rw [hU3]; go_grown)
  have F3 : Hid (Fns U3 (some ⟨w1.heap.size + 1, 0, none⟩) 1 1 brL) := hid (by
    rw [hU3]
    have h := (fns_one (inss_new (u := w1) (l := brC) (t := 56) rfl rfl rfl (by decide)) 1 1 48).kept (Below.alloc (Below.refl _ _) (Nat.le_refl _) (.cells #[.slice (some ⟨w1.heap.size + 1, 0, none⟩) 1 1] 24))
    rw [World.size_alloc] at h
    exact h)
  have p3 : U3.cell? ⟨w1.heap.size + 1 + 1, 0, none⟩ = some (.slice (some ⟨w1.heap.size + 1, 0, none⟩) 1 1) := by rw [hU3]; simp [go_sem]
  have P3 := hid p3
  have B3 := hid (kt B1.out A3.out)
  have L3 := hid (LD0.out.up B3.out)
  clear hU3
  go_wp2_with fail
  refine (prNew_any _ _ _ brL _ F3.out L3.out).mono ?_
  rintro e w4 ⟨rv, rfl, o4, b4⟩
  rw [z_new.2]
  rw [z_new.1] at o4
  obtain ⟨ra, rn, rc, rfl, r4⟩ := o4.reads
  obtain rfl : rn = 1 := r4.len
  have B4 := hid b4
  have R4 := hid r4
  clear b4 r4 o4 p3
  go_upto_region 6 with fail
  refine wp_name ?_
  intro V hV
  have A4 : Hid (Below w4.heap.size w4 V) := hid (by rw [hV]; exact Below.alloc (Below.refl _ _) (Nat.le_refl _) _)
  have BV : Hid (Below U3.heap.size U3 V) := hid (kt B4.out A4.out)
  have QV : Hid (V.cell? ⟨w4.heap.size, 0, none⟩ = some (.slice ra 1 rc)) := hid (by rw [hV]; simp [go_sem])
  have PV := hid (kept_cell BV.out P3.out)
  have RV := hid (R4.out.kept A4.out)
  have FV := hid (F3.out.kept BV.out)
  have LV := hid (L3.out.up BV.out)
  have D0 : Hid (Below V.heap.size V V) := hid (Below.refl _ _)
  clear hV R4 F3 L3 P3
  have p := PV.out
  have q := QV.out
  go_wp2_with (first | (go_at_call 15; refine (num_any _ _).mono ?_; rintro e w' ⟨rfl, hw⟩; rw [hw]; clear hw))
  have N0 : Hid (Below V.heap.size V (V.alloc (.cells #[.int .i64 (1)] 3))) := hid (Below.alloc (Below.refl _ _) (Nat.le_refl _) _)
  refine (prCalled_any _ _ _ brL _ _ _ zL (1) _ _ _ [1] _ (FV.out.kept (kt D0.out N0.out)) (RV.out.kept (kt D0.out N0.out)) (ints_new rfl rfl rfl (by simp)) (LV.out.up (kt D0.out N0.out))).mono ?_
  rintro e v0 ⟨z0, rfl, o0, b0⟩
  rw [z_f]
  obtain ⟨sa0, sn0, sc0, rfl, r0⟩ := o0.reads
  clear o0 r0 p q
  go_upto_region 9 with fail
  refine wp_name ?_
  intro Y1 hY1
  have K0 : Hid (Below v0.heap.size v0 Y1) := hid (by rw [hY1]; exact Below.alloc (Below.refl _ _) (Nat.le_refl _) _)
  have D1 : Hid (Below V.heap.size V Y1) := hid (kt D0.out (kt N0.out (kt b0 K0.out)))
  clear hY1 b0
  have p := kept_cell D1.out PV.out
  have q := kept_cell D1.out QV.out
  go_wp2_with fail
  refine (prCalled_any _ _ _ brL _ _ _ zL (0) _ _ _ [] _ (FV.out.kept D1.out) (RV.out.kept D1.out) (Ints.nil _) (LV.out.up D1.out)).mono ?_
  rintro e v1 ⟨z1, rfl, o1, b1⟩
  rw [z_g]
  obtain ⟨sa1, sn1, sc1, rfl, r1⟩ := o1.reads
  clear o1 r1 p q
  go_upto_region 10 with fail
  refine wp_name ?_
  intro Y2 hY2
  have K1 : Hid (Below v1.heap.size v1 Y2) := hid (by rw [hY2]; exact Below.alloc (Below.refl _ _) (Nat.le_refl _) _)
  have D2 : Hid (Below V.heap.size V Y2) := hid (kt D1.out (kt b1 K1.out))
  clear hY2 b1
  have p := kept_cell D2.out PV.out
  have q := kept_cell D2.out QV.out
  go_wp2_with fail
  have N2 : Hid (Below Y2.heap.size Y2 (Y2.alloc (.cells #[.int .i64 (2147483647 + (1 + d0))] 3))) := hid (Below.alloc (Below.refl _ _) (Nat.le_refl _) _)
  refine (prCalled_any _ _ _ brL _ _ _ zL (0) _ _ _ [2147483647 + (1 + d0)] _ (FV.out.kept (kt D2.out N2.out)) (RV.out.kept (kt D2.out N2.out)) (ints_new rfl rfl rfl (by simp)) (LV.out.up (kt D2.out N2.out))).mono ?_
  rintro e v2 ⟨z2, rfl, o2, b2⟩
  rw [(z_h _ (by omega))]
  obtain ⟨sa2, sn2, sc2, rfl, r2⟩ := o2.reads
  clear o2 r2 p q
  go_upto_region 11 with fail
  refine wp_name ?_
  intro Y3 hY3
  have K2 : Hid (Below v2.heap.size v2 Y3) := hid (by rw [hY3]; exact Below.alloc (Below.refl _ _) (Nat.le_refl _) _)
  have D3 : Hid (Below V.heap.size V Y3) := hid (kt D2.out (kt N2.out (kt b2 K2.out)))
  clear hY3 b2
  have p := kept_cell D3.out PV.out
  have q := kept_cell D3.out QV.out
  go_wp2_with fail
  refine (prBranched_any _ _ _ brL _ _ _ zL (0) (0) true _ (FV.out.kept D3.out) (RV.out.kept D3.out) (LV.out.up D3.out)).mono ?_
  rintro e v3 ⟨z3, rfl, o3, b3⟩
  rw [z_i]
  obtain ⟨sa3, sn3, sc3, rfl, r3⟩ := o3.reads
  clear o3 r3 p q
  go_upto_region 12 with fail
  refine wp_name ?_
  intro Y4 hY4
  have K3 : Hid (Below v3.heap.size v3 Y4) := hid (by rw [hY4]; exact Below.alloc (Below.refl _ _) (Nat.le_refl _) _)
  have D4 : Hid (Below V.heap.size V Y4) := hid (kt D3.out (kt b3 K3.out))
  clear hY4 b3
  have p := kept_cell D4.out PV.out
  have q := kept_cell D4.out QV.out
  go_wp2_with fail
  refine (prBranched_any _ _ _ brL _ _ _ zL (0) (4) true _ (FV.out.kept D4.out) (RV.out.kept D4.out) (LV.out.up D4.out)).mono ?_
  rintro e v4 ⟨z4, rfl, o4, b4⟩
  rw [z_j]
  obtain ⟨sa4, sn4, sc4, rfl, r4⟩ := o4.reads
  clear o4 r4 p q
  go_upto_region 13 with fail
  refine wp_name ?_
  intro Y5 hY5
  have K4 : Hid (Below v4.heap.size v4 Y5) := hid (by rw [hY5]; exact Below.alloc (Below.refl _ _) (Nat.le_refl _) _)
  have D5 : Hid (Below V.heap.size V Y5) := hid (kt D4.out (kt b4 K4.out))
  clear hY5 b4
  have p := kept_cell D5.out PV.out
  have q := kept_cell D5.out QV.out
  go_wp2_with fail
  refine (prBranched_any _ _ _ brL _ _ _ zL ((-(1 + d0))) (1) true _ (FV.out.kept D5.out) (RV.out.kept D5.out) (LV.out.up D5.out)).mono ?_
  rintro e v5 ⟨z5, rfl, o5, b5⟩
  rw [(z_k _ (by omega))]
  obtain ⟨sa5, sn5, sc5, rfl, r5⟩ := o5.reads
  clear o5 r5 p q
  go_upto_region 14 with fail
  refine wp_name ?_
  intro Y6 hY6
  have K5 : Hid (Below v5.heap.size v5 Y6) := hid (by rw [hY6]; exact Below.alloc (Below.refl _ _) (Nat.le_refl _) _)
  have D6 : Hid (Below V.heap.size V Y6) := hid (kt D5.out (kt b5 K5.out))
  clear hY6 b5
  have p := kept_cell D6.out PV.out
  have q := kept_cell D6.out QV.out
  go_wp2_with fail
  refine (prBranched_any _ _ _ brL _ _ _ zL (0) (1) true _ (FV.out.kept D6.out) (RV.out.kept D6.out) (LV.out.up D6.out)).mono ?_
  rintro e v6 ⟨z6, rfl, o6, b6⟩
  rw [z_m.2]
  obtain ⟨sa6, sn6, sc6, rfl, r6⟩ := o6.reads
  rw [z_m.1] at r6
  obtain rfl : sn6 = 1 := r6.len
  have hc6 := r6.cap
  clear o6 r6 p q
  go_upto_region 15 with fail
  refine wp_name ?_
  intro Y7 hY7
  have K6 : Hid (Below v6.heap.size v6 Y7) := hid (by rw [hY7]; exact Below.alloc (Below.refl _ _) (Nat.le_refl _) _)
  have D7 : Hid (Below V.heap.size V Y7) := hid (kt D6.out (kt b6 K6.out))
  have GM : Hid (Y7.cell? ⟨v6.heap.size, 0, none⟩ = some (.slice sa6 1 sc6)) := hid (by rw [hY7]; simp [go_sem])
  clear hY7 b6
  have p := kept_cell D7.out PV.out
  have q := kept_cell D7.out QV.out
  go_wp2_with fail
  refine (copyProf_any _ _ _ zL _ (RV.out.kept D7.out)).mono ?_
  rintro e w8 ⟨bv, rfl, o8, b8⟩
  have O8 := hid o8
  have B8 := hid b8
  obtain ⟨x8, y8, c8, rfl, r8⟩ := o8.reads
  obtain rfl : y8 = 1 := r8.len
  clear b8 o8 r8 p q
  go_upto_region 16 with fail
  refine wp_name ?_
  intro X hX
  have AX : Hid (Below w8.heap.size w8 X) := hid (by rw [hX]; exact Below.alloc (Below.refl _ _) (Nat.le_refl _) _)
  have xb : X.cell? ⟨w8.heap.size, 0, none⟩ = some (.slice x8 1 c8) := by rw [hX]; simp [go_sem]
  have xf : X.frozen? ⟨w8.heap.size, 0, none⟩ = false := by rw [hX]; simp [go_sem]
  have OX : Hid (OSl layFp 51 80 X (fun b => Y7.heap.size ≤ b ∧ b < w8.heap.size) (.slice x8 1 c8) zL) := hid (O8.out.clip.kept AX.out)
  have DX : Hid (Below V.heap.size V X) := hid (kt D7.out (kt B8.out AX.out))
  have GX := hid (kept_cell (kt B8.out AX.out) GM.out)
  have hsX : Y7.heap.size ≤ w8.heap.size := B8.out.size
  have hsV : V.heap.size ≤ Y7.heap.size := D7.out.size
  have hs7 : v6.heap.size < Y7.heap.size := lt_of_cell GM.out
  clear hX O8 GM
  obtain ⟨g, cap, vj, vf, va, Bj, Bf, Ba, e8, hcap, hBg, ⟨c0, c1, c2, c3⟩, hfz, ⟨oj, of, oa⟩, hsub, p0, pj, pf, pa⟩ := fp_elem OX.out (k := 0) rfl
  cases e8
  simp only [Nat.zero_mul, Nat.zero_add] at c0 c1 c2 c3
  obtain ⟨gf, cf, rfl, hcf, hBf, df, ff, sf⟩ := int_elem of (k := 2) rfl
  have hgf := hsub gf (.inr (.inl hBf))
  obtain ⟨ga, ca, csa, Bka, rfl, hca, hBa, hga, _⟩ := oa.elem 0 _ rfl
  have hga' := hsub ga (.inr (.inr hBa))
  obtain ⟨i0, i1, i2, hfa, q0, q1, q2⟩ := ap_cells oa (i := 0) rfl
  simp only [Nat.zero_mul, Nat.zero_add] at i0 i1 i2 q0 q1 q2
  obtain ⟨ja, jn, jc, rfl, _⟩ := oj.reads
  have f0 := hfz 0
  have f1 := hfz 1
  have f2 := hfz 2
  have f3 := hfz 3
  have ff2 := ff 2
  have fa0 := hfa 0
  have fa1 := hfa 1
  have fa2 := hfa 2
  have P0 := hid p0
  have PJ := hid pj
  have PF := hid pf
  have PA := hid pa
  have SF := hid sf
  have Q0 := hid q0
  have Q1 := hid q1
  have Q2 := hid q2
  clear p0 pj pf pa sf q0 q1 q2 hfz ff hfa oj of oa hsub
  obtain ⟨k, hK⟩ : ∃ k, (IntKind.u64.wrap a0).tmod 9 = k := ⟨_, rfl⟩
  have hkb := KB.out
  rw [hK] at hkb
  have hcases : k = 0 ∨ k = 1 ∨ k = 2 ∨ k = 3 ∨ k = 4 ∨ k = 5 ∨ k = 6 ∨ k = 7 ∨ k = 8 := by omega
  rcases hcases with rfl | rfl | rfl | rfl | rfl | rfl | rfl | rfl | rfl
  · go_upto_region 34 with fail
    refine wp_name ?_
    intro Z hZ
    have DZ : Hid (Below Y7.heap.size X Z) := hid (by rw [hZ]; exact (Below.refl _ _).setCell (by show Y7.heap.size ≤ g; exact hBg.1) _)
    have EZ : Hid (Below V.heap.size V Z) := hid (DX.out.trans (DZ.out.mono hsV))
    have zb : Z.cell? ⟨w8.heap.size, 0, none⟩ = some (.slice (some ⟨g, 0, none⟩) 1 c8) := by rw [hZ]; exact cell_set_far xb (by show w8.heap.size ≠ g; have := hBg.2; omega)
    have SZ : Hid (Sl layFp 80 Z (some ⟨g, 0, none⟩) 1 c8 [(-(1 + d0), [0, 0, 0, 0], [0, 0, 0, 0], [(0, 0, 0)])]) := hid (by
      rw [hZ]
      obtain ⟨_, _, _, e3, r3⟩ := (P0.out (-(1 + d0))).reads
      cases e3
      exact r3)
    have zp := kept_cell EZ.out PV.out
    have zg := DZ.out.cell (p := ⟨v6.heap.size, 0, none⟩) (by show v6.heap.size < Y7.heap.size; omega)
    have zg' := zg.trans GX.out
    have ZB := hid zb
    clear hZ zg P0 PJ PF PA SF Q0 Q1 Q2 c0 c1 c2 c3 i0 i1 i2 df f0 f1 f2 f3 ff2 fa0 fa1 fa2 xb xf
    go_wp2_with fail
    have NZ : Hid (Below Z.heap.size Z (Z.alloc (.cells #[.int .i64 1] 3))) := hid (Below.alloc (Below.refl _ _) (Nat.le_refl _) _)
    refine (prCalled_any _ _ _ brL _ _ _ [(-(1 + d0), [0, 0, 0, 0], [0, 0, 0, 0], [(0, 0, 0)])] 0 _ _ _ [1] _ (FV.out.kept (kt EZ.out NZ.out)) (SZ.out.kept NZ.out) (ints_new rfl rfl rfl (by decide)) (LV.out.up (kt EZ.out NZ.out))).mono ?_
    rintro e t1 ⟨tv, rfl, ot, bt⟩
    rw [(called_no (z_0 _ (by omega))).1]
    obtain ⟨ta, tn, tc, rfl, _⟩ := ot.reads
    have BT := hid (kt NZ.out bt)
    clear ot bt zp zb zg'
    go_upto_region 35 with fail
    refine wp_name ?_
    intro T hT
    have DT : Hid (Below Z.heap.size Z T) := hid (by rw [hT]; exact kt BT.out (Below.alloc (Below.refl _ _) (Nat.le_refl _) _))
    have tp := kept_cell (kt EZ.out DT.out) PV.out
    have tb := kept_cell DT.out ZB.out
    have tg : T.cell? ⟨v6.heap.size, 0, none⟩ = some (.slice sa6 1 sc6) := kept_cell DT.out ((DZ.out.cell (p := ⟨v6.heap.size, 0, none⟩) (by show v6.heap.size < Y7.heap.size; omega)).trans GX.out)
    clear hT
    go_wp2_with (first | (go_at_call 15; refine (num_any _ _).mono ?_; rintro e w' ⟨rfl, hw⟩; rw [hw]; clear hw))
    refine (prMay_any _ _ _ brL _ _ _ [(-(1 + d0), [0, 0, 0, 0], [0, 0, 0, 0], [(0, 0, 0)])] _ (FV.out.kept (kt EZ.out DT.out)) (SZ.out.kept DT.out) (LV.out.up (kt EZ.out DT.out))).mono ?_
    rintro e t2 ⟨rfl, bt2⟩
    rw [(z_0 _ (by omega))]
    have BF := hid (kt (kt B3.out BV.out) (kt (kt EZ.out DT.out) bt2))
    clear bt2 tp tb tg
    go_wp2_with (first | (go_at_call 15; refine (num_any _ _).mono ?_; rintro e w' ⟨rfl, hw⟩; rw [hw]; clear hw))
    go_ret
    exact ⟨rfl, BF.out⟩
  · go_upto_region 34 with fail
    refine wp_name ?_
    intro Z hZ
    have DZ : Hid (Below Y7.heap.size X Z) := hid (by rw [hZ]; exact (Below.refl _ _).setCell (by show Y7.heap.size ≤ g; exact hBg.1) _)
    have EZ : Hid (Below V.heap.size V Z) := hid (DX.out.trans (DZ.out.mono hsV))
    have zb : Z.cell? ⟨w8.heap.size, 0, none⟩ = some (.slice (some ⟨g, 0, none⟩) 1 c8) := by rw [hZ]; exact cell_set_far xb (by show w8.heap.size ≠ g; have := hBg.2; omega)
    have SZ : Hid (Sl layFp 80 Z (some ⟨g, 0, none⟩) 1 c8 [(1073741824 + (1 + d0), [0, 0, 0, 0], [0, 0, 0, 0], [(0, 0, 0)])]) := hid (by
      rw [hZ]
      obtain ⟨_, _, _, e3, r3⟩ := (P0.out (1073741824 + (1 + d0))).reads
      cases e3
      exact r3)
    have zp := kept_cell EZ.out PV.out
    have zg := DZ.out.cell (p := ⟨v6.heap.size, 0, none⟩) (by show v6.heap.size < Y7.heap.size; omega)
    have zg' := zg.trans GX.out
    have ZB := hid zb
    clear hZ zg P0 PJ PF PA SF Q0 Q1 Q2 c0 c1 c2 c3 i0 i1 i2 df f0 f1 f2 f3 ff2 fa0 fa1 fa2 xb xf
    go_wp2_with fail
    have NZ : Hid (Below Z.heap.size Z (Z.alloc (.cells #[.int .i64 1] 3))) := hid (Below.alloc (Below.refl _ _) (Nat.le_refl _) _)
    refine (prCalled_any _ _ _ brL _ _ _ [(1073741824 + (1 + d0), [0, 0, 0, 0], [0, 0, 0, 0], [(0, 0, 0)])] 0 _ _ _ [1] _ (FV.out.kept (kt EZ.out NZ.out)) (SZ.out.kept NZ.out) (ints_new rfl rfl rfl (by decide)) (LV.out.up (kt EZ.out NZ.out))).mono ?_
    rintro e t1 ⟨tv, rfl, ot, bt⟩
    rw [(called_no (z_1 _ (by omega))).1]
    obtain ⟨ta, tn, tc, rfl, _⟩ := ot.reads
    have BT := hid (kt NZ.out bt)
    clear ot bt zp zb zg'
    go_upto_region 35 with fail
    refine wp_name ?_
    intro T hT
    have DT : Hid (Below Z.heap.size Z T) := hid (by rw [hT]; exact kt BT.out (Below.alloc (Below.refl _ _) (Nat.le_refl _) _))
    have tp := kept_cell (kt EZ.out DT.out) PV.out
    have tb := kept_cell DT.out ZB.out
    have tg : T.cell? ⟨v6.heap.size, 0, none⟩ = some (.slice sa6 1 sc6) := kept_cell DT.out ((DZ.out.cell (p := ⟨v6.heap.size, 0, none⟩) (by show v6.heap.size < Y7.heap.size; omega)).trans GX.out)
    clear hT
    go_wp2_with (first | (go_at_call 15; refine (num_any _ _).mono ?_; rintro e w' ⟨rfl, hw⟩; rw [hw]; clear hw))
    refine (prMay_any _ _ _ brL _ _ _ [(1073741824 + (1 + d0), [0, 0, 0, 0], [0, 0, 0, 0], [(0, 0, 0)])] _ (FV.out.kept (kt EZ.out DT.out)) (SZ.out.kept DT.out) (LV.out.up (kt EZ.out DT.out))).mono ?_
    rintro e t2 ⟨rfl, bt2⟩
    rw [(z_1 _ (by omega))]
    have BF := hid (kt (kt B3.out BV.out) (kt (kt EZ.out DT.out) bt2))
    clear bt2 tp tb tg
    go_wp2_with (first | (go_at_call 15; refine (num_any _ _).mono ?_; rintro e w' ⟨rfl, hw⟩; rw [hw]; clear hw))
    go_ret
    exact ⟨rfl, BF.out⟩
  · go_upto_region 34 with fail
    refine wp_name ?_
    intro Z hZ
    have DZ : Hid (Below Y7.heap.size X Z) := hid (by rw [hZ]; exact (Below.refl _ _).setCell (by show Y7.heap.size ≤ g; exact hBg.1) _)
    have EZ : Hid (Below V.heap.size V Z) := hid (DX.out.trans (DZ.out.mono hsV))
    have zb : Z.cell? ⟨w8.heap.size, 0, none⟩ = some (.slice (some ⟨g, 0, none⟩) 1 c8) := by rw [hZ]; exact cell_set_far xb (by show w8.heap.size ≠ g; have := hBg.2; omega)
    have SZ : Hid (Sl layFp 80 Z (some ⟨g, 0, none⟩) 1 c8 [(0, [], [0, 0, 0, 0], [(0, 0, 0)])]) := hid (by
      rw [hZ]
      have := OX.out.elem 0 _ rfl
      obtain ⟨g', cap', cs', Bk', e', _, _, _, _, _, ho', _, _, hput'⟩ := this
      cases e'
      obtain ⟨cc, dd, E1, E2, rfl, s1, s2, s3, h1, cc', dd', E3, E4, rfl, t1, t2, t3, ⟨vj', rfl, oj'⟩, c2', d2', E5, E6, rfl, u1, u2, u3, ⟨vf', rfl, of'⟩, va', rfl, oa'⟩ := ho'
      obtain rfl : cc = [.int .i64 0] := h1
      have := hput' 1 (.slice none 0 0) (0, [], [0, 0, 0, 0], [(0, 0, 0)]) (by decide) ⟨[.int .i64 0], _, E1, E2, rfl, s1, s2, s3, rfl, [.slice none 0 0], _, E3, E4, rfl, t1, t2, t3, ⟨_, rfl, OSl.nil _ _ _ _ _⟩, [vf'], [va'], E5, E6, rfl, u1, u2, u3, ⟨vf', rfl, of'⟩, _, rfl, oa'⟩
      obtain ⟨_, _, _, e3, r3⟩ := this.reads
      cases e3
      exact r3)
    have zp := kept_cell EZ.out PV.out
    have zg := DZ.out.cell (p := ⟨v6.heap.size, 0, none⟩) (by show v6.heap.size < Y7.heap.size; omega)
    have zg' := zg.trans GX.out
    have ZB := hid zb
    clear hZ zg P0 PJ PF PA SF Q0 Q1 Q2 c0 c1 c2 c3 i0 i1 i2 df f0 f1 f2 f3 ff2 fa0 fa1 fa2 xb xf
    go_wp2_with fail
    have NZ : Hid (Below Z.heap.size Z (Z.alloc (.cells #[.int .i64 1] 3))) := hid (Below.alloc (Below.refl _ _) (Nat.le_refl _) _)
    refine (prCalled_any _ _ _ brL _ _ _ [(0, [], [0, 0, 0, 0], [(0, 0, 0)])] 0 _ _ _ [1] _ (FV.out.kept (kt EZ.out NZ.out)) (SZ.out.kept NZ.out) (ints_new rfl rfl rfl (by decide)) (LV.out.up (kt EZ.out NZ.out))).mono ?_
    rintro e t1 ⟨tv, rfl, ot, bt⟩
    rw [(called_no z_2).1]
    obtain ⟨ta, tn, tc, rfl, _⟩ := ot.reads
    have BT := hid (kt NZ.out bt)
    clear ot bt zp zb zg'
    go_upto_region 35 with fail
    refine wp_name ?_
    intro T hT
    have DT : Hid (Below Z.heap.size Z T) := hid (by rw [hT]; exact kt BT.out (Below.alloc (Below.refl _ _) (Nat.le_refl _) _))
    have tp := kept_cell (kt EZ.out DT.out) PV.out
    have tb := kept_cell DT.out ZB.out
    have tg : T.cell? ⟨v6.heap.size, 0, none⟩ = some (.slice sa6 1 sc6) := kept_cell DT.out ((DZ.out.cell (p := ⟨v6.heap.size, 0, none⟩) (by show v6.heap.size < Y7.heap.size; omega)).trans GX.out)
    clear hT
    go_wp2_with (first | (go_at_call 15; refine (num_any _ _).mono ?_; rintro e w' ⟨rfl, hw⟩; rw [hw]; clear hw))
    refine (prMay_any _ _ _ brL _ _ _ [(0, [], [0, 0, 0, 0], [(0, 0, 0)])] _ (FV.out.kept (kt EZ.out DT.out)) (SZ.out.kept DT.out) (LV.out.up (kt EZ.out DT.out))).mono ?_
    rintro e t2 ⟨rfl, bt2⟩
    rw [z_2]
    have BF := hid (kt (kt B3.out BV.out) (kt (kt EZ.out DT.out) bt2))
    clear bt2 tp tb tg
    go_wp2_with (first | (go_at_call 15; refine (num_any _ _).mono ?_; rintro e w' ⟨rfl, hw⟩; rw [hw]; clear hw))
    go_ret
    exact ⟨rfl, BF.out⟩
  · go_upto_region 34 with fail
    refine wp_name ?_
    intro Z hZ
    have DZ : Hid (Below Y7.heap.size X Z) := hid (by rw [hZ]; exact (Below.refl _ _).setCell (by show Y7.heap.size ≤ gf; exact hgf.1.1) _)
    have EZ : Hid (Below V.heap.size V Z) := hid (DX.out.trans (DZ.out.mono hsV))
    have zb : Z.cell? ⟨w8.heap.size, 0, none⟩ = some (.slice (some ⟨g, 0, none⟩) 1 c8) := by rw [hZ]; exact cell_set_far xb (by show w8.heap.size ≠ gf; have := hgf.1.2; omega)
    have SZ : Hid (Sl layFp 80 Z (some ⟨g, 0, none⟩) 1 c8 [(0, [0, 0, 0, 0], [0, 0, -(1 + d0), 0], [(0, 0, 0)])]) := hid (by
      rw [hZ]
      obtain ⟨_, _, _, e3, r3⟩ := (PF.out _ _ (fun b _ hn => Below.heap_setCell _ _ _ b (fun e => by have e' : b = gf := e; subst e'; exact hn hBf)) (SF.out (-(1 + d0)))).reads
      cases e3
      exact r3)
    have zp := kept_cell EZ.out PV.out
    have zg := DZ.out.cell (p := ⟨v6.heap.size, 0, none⟩) (by show v6.heap.size < Y7.heap.size; omega)
    have zg' := zg.trans GX.out
    have ZB := hid zb
    clear hZ zg P0 PJ PF PA SF Q0 Q1 Q2 c0 c1 c2 c3 i0 i1 i2 df f0 f1 f2 f3 ff2 fa0 fa1 fa2 xb xf
    go_wp2_with fail
    have NZ : Hid (Below Z.heap.size Z (Z.alloc (.cells #[.int .i64 1] 3))) := hid (Below.alloc (Below.refl _ _) (Nat.le_refl _) _)
    refine (prCalled_any _ _ _ brL _ _ _ [(0, [0, 0, 0, 0], [0, 0, -(1 + d0), 0], [(0, 0, 0)])] 0 _ _ _ [1] _ (FV.out.kept (kt EZ.out NZ.out)) (SZ.out.kept NZ.out) (ints_new rfl rfl rfl (by decide)) (LV.out.up (kt EZ.out NZ.out))).mono ?_
    rintro e t1 ⟨tv, rfl, ot, bt⟩
    rw [(called_no (z_3 _ (by omega))).1]
    obtain ⟨ta, tn, tc, rfl, _⟩ := ot.reads
    have BT := hid (kt NZ.out bt)
    clear ot bt zp zb zg'
    go_upto_region 35 with fail
    refine wp_name ?_
    intro T hT
    have DT : Hid (Below Z.heap.size Z T) := hid (by rw [hT]; exact kt BT.out (Below.alloc (Below.refl _ _) (Nat.le_refl _) _))
    have tp := kept_cell (kt EZ.out DT.out) PV.out
    have tb := kept_cell DT.out ZB.out
    have tg : T.cell? ⟨v6.heap.size, 0, none⟩ = some (.slice sa6 1 sc6) := kept_cell DT.out ((DZ.out.cell (p := ⟨v6.heap.size, 0, none⟩) (by show v6.heap.size < Y7.heap.size; omega)).trans GX.out)
    clear hT
    go_wp2_with (first | (go_at_call 15; refine (num_any _ _).mono ?_; rintro e w' ⟨rfl, hw⟩; rw [hw]; clear hw))
    refine (prMay_any _ _ _ brL _ _ _ [(0, [0, 0, 0, 0], [0, 0, -(1 + d0), 0], [(0, 0, 0)])] _ (FV.out.kept (kt EZ.out DT.out)) (SZ.out.kept DT.out) (LV.out.up (kt EZ.out DT.out))).mono ?_
    rintro e t2 ⟨rfl, bt2⟩
    rw [(z_3 _ (by omega))]
    have BF := hid (kt (kt B3.out BV.out) (kt (kt EZ.out DT.out) bt2))
    clear bt2 tp tb tg
    go_wp2_with (first | (go_at_call 15; refine (num_any _ _).mono ?_; rintro e w' ⟨rfl, hw⟩; rw [hw]; clear hw))
    go_ret
    exact ⟨rfl, BF.out⟩
  · go_upto_region 34 with fail
    refine wp_name ?_
    intro Z hZ
    have DZ : Hid (Below Y7.heap.size X Z) := hid (by rw [hZ]; exact (Below.refl _ _).setCell (by show Y7.heap.size ≤ g; exact hBg.1) _)
    have EZ : Hid (Below V.heap.size V Z) := hid (DX.out.trans (DZ.out.mono hsV))
    have zb : Z.cell? ⟨w8.heap.size, 0, none⟩ = some (.slice (some ⟨g, 0, none⟩) 1 c8) := by rw [hZ]; exact cell_set_far xb (by show w8.heap.size ≠ g; have := hBg.2; omega)
    have SZ : Hid (Sl layFp 80 Z (some ⟨g, 0, none⟩) 1 c8 [(0, [0, 0, 0, 0], [0, 0, 0, 0], [])]) := hid (by
      rw [hZ]
      have := OX.out.elem 0 _ rfl
      obtain ⟨g', cap', cs', Bk', e', _, _, _, _, _, ho', _, _, hput'⟩ := this
      cases e'
      obtain ⟨cc, dd, E1, E2, rfl, s1, s2, s3, h1, cc', dd', E3, E4, rfl, t1, t2, t3, ⟨vj', rfl, oj'⟩, c2', d2', E5, E6, rfl, u1, u2, u3, ⟨vf', rfl, of'⟩, va', rfl, oa'⟩ := ho'
      obtain rfl : cc = [.int .i64 0] := h1
      have := hput' 3 (.slice none 0 0) (0, [0, 0, 0, 0], [0, 0, 0, 0], []) (by decide) ⟨[.int .i64 0], _, E1, E2, rfl, s1, s2, s3, rfl, [vj'], _, E3, E4, rfl, t1, t2, t3, ⟨_, rfl, oj'⟩, [vf'], [.slice none 0 0], E5, E6, rfl, u1, u2, u3, ⟨vf', rfl, of'⟩, _, rfl, OSl.nil _ _ _ _ _⟩
      obtain ⟨_, _, _, e3, r3⟩ := this.reads
      cases e3
      exact r3)
    have zp := kept_cell EZ.out PV.out
    have zg := DZ.out.cell (p := ⟨v6.heap.size, 0, none⟩) (by show v6.heap.size < Y7.heap.size; omega)
    have zg' := zg.trans GX.out
    have ZB := hid zb
    clear hZ zg P0 PJ PF PA SF Q0 Q1 Q2 c0 c1 c2 c3 i0 i1 i2 df f0 f1 f2 f3 ff2 fa0 fa1 fa2 xb xf
    go_wp2_with fail
    have NZ : Hid (Below Z.heap.size Z (Z.alloc (.cells #[.int .i64 1] 3))) := hid (Below.alloc (Below.refl _ _) (Nat.le_refl _) _)
    refine (prCalled_any _ _ _ brL _ _ _ [(0, [0, 0, 0, 0], [0, 0, 0, 0], [])] 0 _ _ _ [1] _ (FV.out.kept (kt EZ.out NZ.out)) (SZ.out.kept NZ.out) (ints_new rfl rfl rfl (by decide)) (LV.out.up (kt EZ.out NZ.out))).mono ?_
    rintro e t1 ⟨tv, rfl, ot, bt⟩
    rw [(called_no z_4).1]
    obtain ⟨ta, tn, tc, rfl, _⟩ := ot.reads
    have BT := hid (kt NZ.out bt)
    clear ot bt zp zb zg'
    go_upto_region 35 with fail
    refine wp_name ?_
    intro T hT
    have DT : Hid (Below Z.heap.size Z T) := hid (by rw [hT]; exact kt BT.out (Below.alloc (Below.refl _ _) (Nat.le_refl _) _))
    have tp := kept_cell (kt EZ.out DT.out) PV.out
    have tb := kept_cell DT.out ZB.out
    have tg : T.cell? ⟨v6.heap.size, 0, none⟩ = some (.slice sa6 1 sc6) := kept_cell DT.out ((DZ.out.cell (p := ⟨v6.heap.size, 0, none⟩) (by show v6.heap.size < Y7.heap.size; omega)).trans GX.out)
    clear hT
    go_wp2_with (first | (go_at_call 15; refine (num_any _ _).mono ?_; rintro e w' ⟨rfl, hw⟩; rw [hw]; clear hw))
    refine (prMay_any _ _ _ brL _ _ _ [(0, [0, 0, 0, 0], [0, 0, 0, 0], [])] _ (FV.out.kept (kt EZ.out DT.out)) (SZ.out.kept DT.out) (LV.out.up (kt EZ.out DT.out))).mono ?_
    rintro e t2 ⟨rfl, bt2⟩
    rw [z_4]
    have BF := hid (kt (kt B3.out BV.out) (kt (kt EZ.out DT.out) bt2))
    clear bt2 tp tb tg
    go_wp2_with (first | (go_at_call 15; refine (num_any _ _).mono ?_; rintro e w' ⟨rfl, hw⟩; rw [hw]; clear hw))
    go_ret
    exact ⟨rfl, BF.out⟩
  · go_upto_region 34 with fail
    refine wp_name ?_
    intro Z hZ
    have DZ : Hid (Below Y7.heap.size X Z) := hid (by rw [hZ]; exact (Below.refl _ _).setCell (by show Y7.heap.size ≤ ga; exact hga'.1.1) _)
    have EZ : Hid (Below V.heap.size V Z) := hid (DX.out.trans (DZ.out.mono hsV))
    have zb : Z.cell? ⟨w8.heap.size, 0, none⟩ = some (.slice (some ⟨g, 0, none⟩) 1 c8) := by rw [hZ]; exact cell_set_far xb (by show w8.heap.size ≠ ga; have := hga'.1.2; omega)
    have SZ : Hid (Sl layFp 80 Z (some ⟨g, 0, none⟩) 1 c8 [(0, [0, 0, 0, 0], [0, 0, 0, 0], [(2147483647 + (1 + d0), 0, 0)])]) := hid (by
      rw [hZ]
      obtain ⟨_, _, _, e3, r3⟩ := (PA.out _ _ (fun b _ hn => Below.heap_setCell _ _ _ b (fun e => by have e' : b = ga := e; subst e'; exact hn hBa)) (Q0.out (2147483647 + (1 + d0)))).reads
      cases e3
      exact r3)
    have zp := kept_cell EZ.out PV.out
    have zg := DZ.out.cell (p := ⟨v6.heap.size, 0, none⟩) (by show v6.heap.size < Y7.heap.size; omega)
    have zg' := zg.trans GX.out
    have ZB := hid zb
    clear hZ zg P0 PJ PF PA SF Q0 Q1 Q2 c0 c1 c2 c3 i0 i1 i2 df f0 f1 f2 f3 ff2 fa0 fa1 fa2 xb xf
    go_wp2_with fail
    have NZ : Hid (Below Z.heap.size Z (Z.alloc (.cells #[.int .i64 1] 3))) := hid (Below.alloc (Below.refl _ _) (Nat.le_refl _) _)
    refine (prCalled_any _ _ _ brL _ _ _ [(0, [0, 0, 0, 0], [0, 0, 0, 0], [(2147483647 + (1 + d0), 0, 0)])] 0 _ _ _ [1] _ (FV.out.kept (kt EZ.out NZ.out)) (SZ.out.kept NZ.out) (ints_new rfl rfl rfl (by decide)) (LV.out.up (kt EZ.out NZ.out))).mono ?_
    rintro e t1 ⟨tv, rfl, ot, bt⟩
    rw [(called_no (z_5 _ (by omega))).1]
    obtain ⟨ta, tn, tc, rfl, _⟩ := ot.reads
    have BT := hid (kt NZ.out bt)
    clear ot bt zp zb zg'
    go_upto_region 35 with fail
    refine wp_name ?_
    intro T hT
    have DT : Hid (Below Z.heap.size Z T) := hid (by rw [hT]; exact kt BT.out (Below.alloc (Below.refl _ _) (Nat.le_refl _) _))
    have tp := kept_cell (kt EZ.out DT.out) PV.out
    have tb := kept_cell DT.out ZB.out
    have tg : T.cell? ⟨v6.heap.size, 0, none⟩ = some (.slice sa6 1 sc6) := kept_cell DT.out ((DZ.out.cell (p := ⟨v6.heap.size, 0, none⟩) (by show v6.heap.size < Y7.heap.size; omega)).trans GX.out)
    clear hT
    go_wp2_with (first | (go_at_call 15; refine (num_any _ _).mono ?_; rintro e w' ⟨rfl, hw⟩; rw [hw]; clear hw))
    refine (prMay_any _ _ _ brL _ _ _ [(0, [0, 0, 0, 0], [0, 0, 0, 0], [(2147483647 + (1 + d0), 0, 0)])] _ (FV.out.kept (kt EZ.out DT.out)) (SZ.out.kept DT.out) (LV.out.up (kt EZ.out DT.out))).mono ?_
    rintro e t2 ⟨rfl, bt2⟩
    rw [(z_5 _ (by omega))]
    have BF := hid (kt (kt B3.out BV.out) (kt (kt EZ.out DT.out) bt2))
    clear bt2 tp tb tg
    go_wp2_with (first | (go_at_call 15; refine (num_any _ _).mono ?_; rintro e w' ⟨rfl, hw⟩; rw [hw]; clear hw))
    go_ret
    exact ⟨rfl, BF.out⟩
  · go_upto_region 34 with fail
    refine wp_name ?_
    intro Z hZ
    have DZ : Hid (Below Y7.heap.size X Z) := hid (by rw [hZ]; exact (Below.refl _ _).setCell (by show Y7.heap.size ≤ ga; exact hga'.1.1) _)
    have EZ : Hid (Below V.heap.size V Z) := hid (DX.out.trans (DZ.out.mono hsV))
    have zb : Z.cell? ⟨w8.heap.size, 0, none⟩ = some (.slice (some ⟨g, 0, none⟩) 1 c8) := by rw [hZ]; exact cell_set_far xb (by show w8.heap.size ≠ ga; have := hga'.1.2; omega)
    have SZ : Hid (Sl layFp 80 Z (some ⟨g, 0, none⟩) 1 c8 [(0, [0, 0, 0, 0], [0, 0, 0, 0], [(0, 1073741824 + (1 + d0), 0)])]) := hid (by
      rw [hZ]
      obtain ⟨_, _, _, e3, r3⟩ := (PA.out _ _ (fun b _ hn => Below.heap_setCell _ _ _ b (fun e => by have e' : b = ga := e; subst e'; exact hn hBa)) (Q1.out (1073741824 + (1 + d0)))).reads
      cases e3
      exact r3)
    have zp := kept_cell EZ.out PV.out
    have zg := DZ.out.cell (p := ⟨v6.heap.size, 0, none⟩) (by show v6.heap.size < Y7.heap.size; omega)
    have zg' := zg.trans GX.out
    have ZB := hid zb
    clear hZ zg P0 PJ PF PA SF Q0 Q1 Q2 c0 c1 c2 c3 i0 i1 i2 df f0 f1 f2 f3 ff2 fa0 fa1 fa2 xb xf
    go_wp2_with fail
    have NZ : Hid (Below Z.heap.size Z (Z.alloc (.cells #[.int .i64 1] 3))) := hid (Below.alloc (Below.refl _ _) (Nat.le_refl _) _)
    refine (prCalled_any _ _ _ brL _ _ _ [(0, [0, 0, 0, 0], [0, 0, 0, 0], [(0, 1073741824 + (1 + d0), 0)])] 0 _ _ _ [1] _ (FV.out.kept (kt EZ.out NZ.out)) (SZ.out.kept NZ.out) (ints_new rfl rfl rfl (by decide)) (LV.out.up (kt EZ.out NZ.out))).mono ?_
    rintro e t1 ⟨tv, rfl, ot, bt⟩
    rw [(called_no (z_6 _ (by omega))).1]
    obtain ⟨ta, tn, tc, rfl, _⟩ := ot.reads
    have BT := hid (kt NZ.out bt)
    clear ot bt zp zb zg'
    go_upto_region 35 with fail
    refine wp_name ?_
    intro T hT
    have DT : Hid (Below Z.heap.size Z T) := hid (by rw [hT]; exact kt BT.out (Below.alloc (Below.refl _ _) (Nat.le_refl _) _))
    have tp := kept_cell (kt EZ.out DT.out) PV.out
    have tb := kept_cell DT.out ZB.out
    have tg : T.cell? ⟨v6.heap.size, 0, none⟩ = some (.slice sa6 1 sc6) := kept_cell DT.out ((DZ.out.cell (p := ⟨v6.heap.size, 0, none⟩) (by show v6.heap.size < Y7.heap.size; omega)).trans GX.out)
    clear hT
    go_wp2_with (first | (go_at_call 15; refine (num_any _ _).mono ?_; rintro e w' ⟨rfl, hw⟩; rw [hw]; clear hw))
    refine (prMay_any _ _ _ brL _ _ _ [(0, [0, 0, 0, 0], [0, 0, 0, 0], [(0, 1073741824 + (1 + d0), 0)])] _ (FV.out.kept (kt EZ.out DT.out)) (SZ.out.kept DT.out) (LV.out.up (kt EZ.out DT.out))).mono ?_
    rintro e t2 ⟨rfl, bt2⟩
    rw [(z_6 _ (by omega))]
    have BF := hid (kt (kt B3.out BV.out) (kt (kt EZ.out DT.out) bt2))
    clear bt2 tp tb tg
    go_wp2_with (first | (go_at_call 15; refine (num_any _ _).mono ?_; rintro e w' ⟨rfl, hw⟩; rw [hw]; clear hw))
    go_ret
    exact ⟨rfl, BF.out⟩
  · go_upto_region 34 with fail
    refine wp_name ?_
    intro Z hZ
    have DZ : Hid (Below Y7.heap.size X Z) := hid (by rw [hZ]; exact (Below.refl _ _).setCell (by show Y7.heap.size ≤ ga; exact hga'.1.1) _)
    have EZ : Hid (Below V.heap.size V Z) := hid (DX.out.trans (DZ.out.mono hsV))
    have zb : Z.cell? ⟨w8.heap.size, 0, none⟩ = some (.slice (some ⟨g, 0, none⟩) 1 c8) := by rw [hZ]; exact cell_set_far xb (by show w8.heap.size ≠ ga; have := hga'.1.2; omega)
    have SZ : Hid (Sl layFp 80 Z (some ⟨g, 0, none⟩) 1 c8 [(0, [0, 0, 0, 0], [0, 0, 0, 0], [(0, 0, -(1 + d0))])]) := hid (by
      rw [hZ]
      obtain ⟨_, _, _, e3, r3⟩ := (PA.out _ _ (fun b _ hn => Below.heap_setCell _ _ _ b (fun e => by have e' : b = ga := e; subst e'; exact hn hBa)) (Q2.out (-(1 + d0)))).reads
      cases e3
      exact r3)
    have zp := kept_cell EZ.out PV.out
    have zg := DZ.out.cell (p := ⟨v6.heap.size, 0, none⟩) (by show v6.heap.size < Y7.heap.size; omega)
    have zg' := zg.trans GX.out
    have ZB := hid zb
    clear hZ zg P0 PJ PF PA SF Q0 Q1 Q2 c0 c1 c2 c3 i0 i1 i2 df f0 f1 f2 f3 ff2 fa0 fa1 fa2 xb xf
    go_wp2_with fail
    have NZ : Hid (Below Z.heap.size Z (Z.alloc (.cells #[.int .i64 1] 3))) := hid (Below.alloc (Below.refl _ _) (Nat.le_refl _) _)
    refine (prCalled_any _ _ _ brL _ _ _ [(0, [0, 0, 0, 0], [0, 0, 0, 0], [(0, 0, -(1 + d0))])] 0 _ _ _ [1] _ (FV.out.kept (kt EZ.out NZ.out)) (SZ.out.kept NZ.out) (ints_new rfl rfl rfl (by decide)) (LV.out.up (kt EZ.out NZ.out))).mono ?_
    rintro e t1 ⟨tv, rfl, ot, bt⟩
    rw [(called_no (z_7 _ (by omega))).1]
    obtain ⟨ta, tn, tc, rfl, _⟩ := ot.reads
    have BT := hid (kt NZ.out bt)
    clear ot bt zp zb zg'
    go_upto_region 35 with fail
    refine wp_name ?_
    intro T hT
    have DT : Hid (Below Z.heap.size Z T) := hid (by rw [hT]; exact kt BT.out (Below.alloc (Below.refl _ _) (Nat.le_refl _) _))
    have tp := kept_cell (kt EZ.out DT.out) PV.out
    have tb := kept_cell DT.out ZB.out
    have tg : T.cell? ⟨v6.heap.size, 0, none⟩ = some (.slice sa6 1 sc6) := kept_cell DT.out ((DZ.out.cell (p := ⟨v6.heap.size, 0, none⟩) (by show v6.heap.size < Y7.heap.size; omega)).trans GX.out)
    clear hT
    go_wp2_with (first | (go_at_call 15; refine (num_any _ _).mono ?_; rintro e w' ⟨rfl, hw⟩; rw [hw]; clear hw))
    refine (prMay_any _ _ _ brL _ _ _ [(0, [0, 0, 0, 0], [0, 0, 0, 0], [(0, 0, -(1 + d0))])] _ (FV.out.kept (kt EZ.out DT.out)) (SZ.out.kept DT.out) (LV.out.up (kt EZ.out DT.out))).mono ?_
    rintro e t2 ⟨rfl, bt2⟩
    rw [(z_7 _ (by omega))]
    have BF := hid (kt (kt B3.out BV.out) (kt (kt EZ.out DT.out) bt2))
    clear bt2 tp tb tg
    go_wp2_with (first | (go_at_call 15; refine (num_any _ _).mono ?_; rintro e w' ⟨rfl, hw⟩; rw [hw]; clear hw))
    go_ret
    exact ⟨rfl, BF.out⟩
  · go_upto_region 34 with fail
    refine wp_name ?_
    intro Z hZ
    have DZ : Hid (Below Y7.heap.size X Z) := hid (by rw [hZ]; exact (Below.refl _ _).setCell (by show Y7.heap.size ≤ w8.heap.size; exact hsX) _)
    have EZ : Hid (Below V.heap.size V Z) := hid (DX.out.trans (DZ.out.mono hsV))
    have zb : Z.cell? ⟨w8.heap.size, 0, none⟩ = some (.slice none 0 0) := by rw [hZ]; exact World.cell?_setCell_same _ _ _ xb
    have SZ : Hid (Sl layFp 80 Z none 0 0 []) := hid (Sl.nil _ _ _)
    have zp := kept_cell EZ.out PV.out
    have zg := DZ.out.cell (p := ⟨v6.heap.size, 0, none⟩) (by show v6.heap.size < Y7.heap.size; omega)
    have zg' := zg.trans GX.out
    have ZB := hid zb
    clear hZ zg P0 PJ PF PA SF Q0 Q1 Q2 c0 c1 c2 c3 i0 i1 i2 df f0 f1 f2 f3 ff2 fa0 fa1 fa2 xb xf
    go_wp2_with fail
    have NZ : Hid (Below Z.heap.size Z (Z.alloc (.cells #[.int .i64 1] 3))) := hid (Below.alloc (Below.refl _ _) (Nat.le_refl _) _)
    refine (prCalled_any _ _ _ brL _ _ _ [] 0 _ _ _ [1] _ (FV.out.kept (kt EZ.out NZ.out)) (SZ.out.kept NZ.out) (ints_new rfl rfl rfl (by decide)) (LV.out.up (kt EZ.out NZ.out))).mono ?_
    rintro e t1 ⟨tv, rfl, ot, bt⟩
    rw [(called_no z_8).1]
    obtain ⟨ta, tn, tc, rfl, _⟩ := ot.reads
    have BT := hid (kt NZ.out bt)
    clear ot bt zp zb zg'
    go_upto_region 35 with fail
    refine wp_name ?_
    intro T hT
    have DT : Hid (Below Z.heap.size Z T) := hid (by rw [hT]; exact kt BT.out (Below.alloc (Below.refl _ _) (Nat.le_refl _) _))
    have tp := kept_cell (kt EZ.out DT.out) PV.out
    have tb := kept_cell DT.out ZB.out
    have tg : T.cell? ⟨v6.heap.size, 0, none⟩ = some (.slice sa6 1 sc6) := kept_cell DT.out ((DZ.out.cell (p := ⟨v6.heap.size, 0, none⟩) (by show v6.heap.size < Y7.heap.size; omega)).trans GX.out)
    clear hT
    go_wp2_with (first | (go_at_call 15; refine (num_any _ _).mono ?_; rintro e w' ⟨rfl, hw⟩; rw [hw]; clear hw))
    refine (prMay_any _ _ _ brL _ _ _ [] _ (FV.out.kept (kt EZ.out DT.out)) (SZ.out.kept DT.out) (LV.out.up (kt EZ.out DT.out))).mono ?_
    rintro e t2 ⟨rfl, bt2⟩
    rw [z_8]
    have BF := hid (kt (kt B3.out BV.out) (kt (kt EZ.out DT.out) bt2))
    clear bt2 tp tb tg
    go_wp2_with (first | (go_at_call 15; refine (num_any _ _).mono ?_; rintro e w' ⟨rfl, hw⟩; rw [hw]; clear hw))
    go_ret
    exact ⟨rfl, BF.out⟩

set_option maxRecDepth 100000 in
theorem lifted (os : Os) (started : os.Started) (H : Type) (enc : TypeId × Value → H) :
    ReturnsInHanded {} Tryz.checked os 5 .any (fun w args => (Rows.profFormsSpec.pre enc Tryz.prog Tryz.f5 [] false w args ∧ laidMetH Tryz.prog [("math/bits.deBruijn32tab", Rows.laid_math_bits_deBruijn32tab), ("math/bits.deBruijn64tab", Rows.laid_math_bits_deBruijn64tab), ("internal/strconv.uint64pow10", Rows.laid_internal_strconv_uint64pow10), ("errors.errorType", Rows.laid_errors_errorType), ("swage/pack.errForm", Rows.laid_swage_pack_errForm), ("swage/pack.errEnd", Rows.laid_swage_pack_errEnd)] w) ∧ sizedMet enc Tryz.prog Tryz.f5 (OpenSpec.ofChange Rows.profFormsSpec) false w args) (Rows.profFormsSpec.post enc Tryz.prog Tryz.f5 false true false false) := by
  refine returnsInHanded_of_change_and (C := Tryz.checked) (X := fun w _ => laidMetH Tryz.prog [("math/bits.deBruijn32tab", Rows.laid_math_bits_deBruijn32tab), ("math/bits.deBruijn64tab", Rows.laid_math_bits_deBruijn64tab), ("internal/strconv.uint64pow10", Rows.laid_internal_strconv_uint64pow10), ("errors.errorType", Rows.laid_errors_errorType), ("swage/pack.errForm", Rows.laid_swage_pack_errForm), ("swage/pack.errEnd", Rows.laid_swage_pack_errEnd)] w) (fun _ _ _ hh h => h.of_heap hh) own started (by kernel_rfl) Tryz.func5
    (ChangeSpec.witness_shaped (enc := enc) (C := Tryz.checked) (os := os) (X := fun w _ => laidMetH Tryz.prog [("math/bits.deBruijn32tab", Rows.laid_math_bits_deBruijn32tab), ("math/bits.deBruijn64tab", Rows.laid_math_bits_deBruijn64tab), ("internal/strconv.uint64pow10", Rows.laid_internal_strconv_uint64pow10), ("errors.errorType", Rows.laid_errors_errorType), ("swage/pack.errForm", Rows.laid_swage_pack_errForm), ("swage/pack.errEnd", Rows.laid_swage_pack_errEnd)] w) false (World.doorLaid Tryz.prog 400 os) #[.int .i64 0, .int .i64 0] 8 rfl (World.shaped_of_RefB (by kernel_rfl) (by kernel_rfl)) (by kernel_rfl) (by kernel_rfl) (by kernel_rfl) (door_met os _)) ?_
  intro W base args ds gs before hval0 hW hcnd hsz0 hL _
  have hval : ∀ (j : Nat) t v, Tryz.f5.params[j]? = some t → args[j]? = some v → Value.okWide Tryz.prog W .any base t v := hval0
  have hW' := hW
  obtain ⟨p, q, hA0, hV, rfl, hfz, hnd⟩ := hW
  have hA : DataW.TrodAll enc Tryz.prog W 0 (fun _ => true) true Tryz.f5.params.toList args.toList ds p := hA0
  have hsz : (DataW.weightsEach Tryz.prog (Tryz.f5.params.toList ++ Rows.profFormsSpec.plain.varTypes Tryz.prog) (ds ++ gs)).all (· ≤ reachBytes) = true := hsz0
  rw [Tryz.params5] at hA hval hsz
  obtain ⟨v0, vs0, d0, ds0, p0, q0, hargs, rfl, rfl, h0, r0⟩ := trodAll_cons hA
  obtain ⟨v1, vs1, d1, ds1, p1, q1, rfl, rfl, rfl, h1, r1⟩ := trodAll_cons r0
  obtain ⟨rfl, rfl, rfl⟩ := trodAll_nil r1
  obtain rfl : args = #[v0, v1] := by cases args; simp_all
  obtain ⟨rfl, rfl⟩ := trodVars_none hV
  have k0 := h0
  have lt0 : ∀ x ∈ p0, x.block < W.heap.size := by obtain ⟨m, hm⟩ := k0; exact DataW.trod_lt m _ _ _ hm
  have k1 := h1
  have lt1 : ∀ x ∈ p1, x.block < W.heap.size := by obtain ⟨m, hm⟩ := k1; exact DataW.trod_lt m _ _ _ hm
  obtain ⟨a0, rfl, rfl, rfl, w0⟩ := open_int Tryz.underlying3 (hval 0 3 v0 rfl rfl) h0
  obtain ⟨a1, rfl, rfl, rfl, w1⟩ := open_int Tryz.underlying3 (hval 1 3 v1 rfl rfl) h1
  clear hA0 hval0
  refine (walk a0 a1 W w0 w1 (ld_of hL)).mono fun e W' ⟨he, bel⟩ => ?_
  subst he
  exact ⟨_, rfl, _, _, _, [], _, [], hW', trodAll_mk1 (shut_bool Tryz.underlying4 _), (trodAll_cons_mk (Below.trod laidOut (by kernel_rfl) (of_decide_eq_true (by kernel_rfl)) k0 bel lt0) (trodAll_cons_mk (Below.trod laidOut (by kernel_rfl) (of_decide_eq_true (by kernel_rfl)) k1 bel lt1) trodAll_mk0)), rfl, bel.frame _, fun h => by cases h⟩

theorem over : Rows.profFormsRow.holds Tryz.pinned (OpenSpec.ofChange Rows.profFormsSpec) :=
  OpenClaim.holds_of_wide 5 Tryz.f5 rfl rfl rfl rfl rfl rfl rfl ⟨rfl, rfl, rfl, rfl, rfl⟩ rfl rfl rfl rfl rfl (by kernel_rfl) Tryz.func5 (by kernel_rfl)
    (of_decide_eq_true (by kernel_rfl)) (by unfold Func.isWrapper; first | (rw [if_pos (by decide +kernel)]; kernel_rfl) | (rw [if_neg (by decide +kernel)]; exact ⟨rfl, rfl⟩))
    (fun os started H enc _ => lifted os started H enc)
end Go.Proofs.YtppmkoigblimmaaGreatDoor.profForms
namespace Go.Proofs.YtppmkoigblimmaaGreatDoor
open Go
theorem profForms_holds : Rows.ProfFormsCardSaid :=
  Claim7.holds_tied_plain_at .later [] [.data, .data, .data, .handle, .sentinel, .sentinel] true (true, "812bda82e1a40458e8dfd141f08c207631568d80ebc24ad44e2f48ba26e3f76f") true
    profForms.over (fun _ h => by cases h) (by kernel_rfl) (fun _ h => by cases h) profForms_row_tie rfl ⟨rfl, rfl⟩ (by kernel_rfl) rfl
    (fun f fn hf hfn => by
      obtain rfl : f = 5 := Option.some.inj ((show Tryz.prog.funcNamed "swage/swagelaw9.ProfForms" = some 5 by kernel_rfl).symm.trans hf) |>.symm
      obtain rfl : fn = Tryz.f5 := (Option.some.inj (Tryz.func5.symm.trans hfn)).symm
      exact ⟨by kernel_rfl, fun j t ht => by
        rw [Tryz.params5] at ht
        have hm : t ∈ [3, 3] := by simpa using Array.mem_of_getElem? ht
        have hall : ([3, 3].all fun u => !Tryz.prog.wantsStandIn u) = true := by kernel_rfl
        exact (show Tryz.prog.wantsStandIn t = false by simpa using List.all_eq_true.1 hall t hm)⟩)
    (by kernel_rfl)
#print axioms profForms_holds
end Go.Proofs.YtppmkoigblimmaaGreatDoor
