/- For any program and any two integers the law Flows returns true: flow.Next, flow.Leaders and flow.Reached answer as the document's own reckoning does, and the function stays as it was; no conditions. -/
import Derived.Test.YtclpnmideableaaRows
import Derived.WalkKit
import Derived.ProofKit
import Derived.OpenShut
import Derived.ShutString
import Derived.ChangeOld
import Derived.Below
import Derived.Carry
import Derived.Lib.SmallJoins
import Derived.Handy
import Derived.WalkSmall
import Derived.SizedLaws
import Derived.Test.YtclpnmideableaaOpen
import Derived.Test.YtclpnmideableaaAwake4
import Derived.Test.YtclpnmideableaaRefLead
import Derived.Test.YtclpnmideableaaRefReached
import Derived.Deep.RegionWith
namespace Go.Proofs.Ytclpnmideableaa.flows
open Go.ChangeShapes Go.WideShapes Go.ChangeAt Go.RowKit
open Go.ChangeMaps (open_string shut_string)
set_option linter.unusedVariables false

theorem own : ownKnob Try.prog.godebug = none := by kernel_rfl
theorem laidOut : laidOutB Try.prog = true := by kernel_rfl

theorem box3 {u : World} {b : Nat} {x y : Int} {s v0 v1 v2 : Value} (h0 : u.cell? ⟨b, 0, none⟩ = some v0) (h1 : u.cell? ⟨b, 1, none⟩ = some v1) (h2 : u.cell? ⟨b, 2, none⟩ = some v2) :
    FB (((u.setCell ⟨b, 0, none⟩ (.int .i64 x)).setCell ⟨b, 1, none⟩ (.int .i64 y)).setCell ⟨b, 2, none⟩ s) b x y s := by
  refine ⟨?_, ?_, ?_⟩
  · rw [World.cell?_setCell_other _ _ _ _ (by simp), World.cell?_setCell_other _ _ _ _ (by simp)]; exact World.cell?_setCell_same _ _ _ h0
  · rw [World.cell?_setCell_other _ _ _ _ (by simp)]; exact World.cell?_setCell_same _ _ _ (show (u.setCell ⟨b, 0, none⟩ (.int .i64 x)).cell? ⟨b, 1, none⟩ = some v1 by rw [World.cell?_setCell_other _ _ _ _ (by simp)]; exact h1)
  · exact World.cell?_setCell_same _ _ _ (show ((u.setCell ⟨b, 0, none⟩ (.int .i64 x)).setCell ⟨b, 1, none⟩ (.int .i64 y)).cell? ⟨b, 2, none⟩ = some v2 by rw [World.cell?_setCell_other _ _ _ _ (by simp), World.cell?_setCell_other _ _ _ _ (by simp)]; exact h2)
theorem lead_len (l : List (Int × Int)) : (leadL l).length ≤ 64 := by
  unfold leadL
  split
  · rename_i h; rw [leadSt_len]; simp [codeB] at h; exact h.1.2
  · simp

set_option maxRecDepth 100000 in
set_option maxHeartbeats 20000000 in
theorem walk (a0 : Option Addr) (n0 c0 : Nat) (l0 : List Fn) (a1 : Int) (a2 : Int) (w : World) (w0 : Fns w a0 n0 c0 l0) (w1 : (Lit.int .i64 a1).wf = true) (w2 : (Lit.int .i64 a2).wf = true) :
    Calls Try.prog 3 #[.agg #[.slice a0 n0 c0], .int .i64 a1, .int .i64 a2] w fun e w' => e = .returned (.bool true) ∧ Below w.heap.size w w' := by
  clear w1 w2
  have L0 := hid w0.len
  have hr0 := w0.room
  have hc0 := w0.cap
  by_cases hn0 : n0 = 0
  · subst hn0
    go_enter Try.func3, Try.ntmps3
    go_wp2_with fail
    refine (awake4_any _).mono ?_
    rintro e u1 ⟨rfl, b1⟩
    go_wp2_with fail
    go_ret
    exact ⟨rfl, kt (by go_grown) b1⟩
  have hn1 : ((n0 : Int) == 0) = false := by simp; omega
  obtain ⟨hk0, hk1⟩ := umod_bd a1 (n0 : Int) (by omega)
  generalize hkk : (IntKind.u64.wrap a1).tmod (n0 : Int) = kk at hk0 hk1
  obtain ⟨k, rfl⟩ := Int.eq_ofNat_of_zero_le hk0
  have hkn : k < n0 := by omega
  obtain ⟨b0, o0, x, y, a3, n3, c3, l3, rfl, e3, d0, d1, d2, i3⟩ := w0.at k hkn
  have z0 := World.new_ne _ _ d0
  have zl := lt_of_cell d0
  have I3 := hid i3
  clear e3 i3 w0
  go_enter Try.func3, Try.ntmps3
  go_wp2_with fail
  go_region
  have BU : Hid (Below w.heap.size w (((w.alloc (.cells #[.slice (some ⟨b0, o0, none⟩) n0 c0] 24)).alloc (.cells #[.int .i64 x, .int .i64 y, .slice a3 n3 c3] 28)).drew)) := hid (Below.drew (by go_grown))
  have FU : Hid (FB (((w.alloc (.cells #[.slice (some ⟨b0, o0, none⟩) n0 c0] 24)).alloc (.cells #[.int .i64 x, .int .i64 y, .slice a3 n3 c3] 28)).drew) (w.heap.size + 1) x y (.slice a3 n3 c3)) := hid ⟨by simp [go_sem], by simp [go_sem], by simp [go_sem]⟩
  have SU : Hid ((((w.alloc (.cells #[.slice (some ⟨b0, o0, none⟩) n0 c0] 24)).alloc (.cells #[.int .i64 x, .int .i64 y, .slice a3 n3 c3] 28)).drew).heap.size = w.heap.size + 2) := hid (by simp)
  generalize hU : (((w.alloc (.cells #[.slice (some ⟨b0, o0, none⟩) n0 c0] 24)).alloc (.cells #[.int .i64 x, .int .i64 y, .slice a3 n3 c3] 28)).drew) = U at *
  clear hU
  obtain ⟨f0, f1, f2⟩ := FU.out
  have hsU : w.heap.size + 1 < U.heap.size := by have := SU.out; omega
  have hsN : ¬ U.heap.size = w.heap.size + 1 := by omega
  have hsM : ¬ w.heap.size + 1 = U.heap.size := by omega
  have CA := hid (lendInss_any a3 n3 c3 l3 U.drew ((I3.out.kept BU.out).kept (Below.drew (Below.refl _ _))))
  have CB := hid (lendInss_any a3 n3 c3 l3 (U.drew.alloc (.cells #[.int .i64 0, .int .i64 0, .slice none 0 0] 28)) ((I3.out.kept BU.out).kept (Below.alloc (Below.drew (Below.refl _ _)) (by simp) _)))
  have FA : Hid (FB U.drew (w.heap.size + 1) x y (.slice a3 n3 c3)) := hid (FU.out.kept (Below.drew (Below.refl _ _)))
  have FC : Hid (FB (U.drew.alloc (.cells #[.int .i64 0, .int .i64 0, .slice none 0 0] 28)) (w.heap.size + 1) x y (.slice a3 n3 c3)) := hid (FU.out.kept (Below.alloc (Below.drew (Below.refl _ _)) (by simp) _))
  have PB : Hid ((U.drew.alloc (.cells #[.int .i64 0, .int .i64 0, .slice none 0 0] 28)).cell? ⟨U.heap.size, 0, none⟩ = some (.int .i64 0) ∧ (U.drew.alloc (.cells #[.int .i64 0, .int .i64 0, .slice none 0 0] 28)).cell? ⟨U.heap.size, 1, none⟩ = some (.int .i64 0) ∧ (U.drew.alloc (.cells #[.int .i64 0, .int .i64 0, .slice none 0 0] 28)).cell? ⟨U.heap.size, 2, none⟩ = some (.slice none 0 0) ∧ ∀ o, (U.drew.alloc (.cells #[.int .i64 0, .int .i64 0, .slice none 0 0] 28)).frozen? ⟨U.heap.size, o, none⟩ = false) := hid ⟨by simp [go_sem], by simp [go_sem], by simp [go_sem], fun o => by simp [go_sem]⟩
  go_wp2_with fail
  go_region_held3 (fun w' => w'.cell? ⟨w.heap.size + 1, 0, none⟩ = some (.int .i64 x) ∧ w'.cell? ⟨w.heap.size + 1, 1, none⟩ = some (.int .i64 y) ∧ w'.cell? ⟨w.heap.size + 1, 2, none⟩ = some (.slice a3 n3 c3)) (go_keep) (first | (go_at_call 8; refine CA.out.mono ?_; rintro e u1 ⟨g, cap, rfl, le1, b1⟩; have t0 := kept_cell b1 FA.out.1; have t1 := kept_cell b1 FA.out.2.1; have t2 := kept_cell b1 FA.out.2.2; have s1 : w.heap.size + 1 < u1.heap.size := (by have h1 := b1.size; simp at h1; omega); have LE := hid (And.intro le1 b1); clear le1 b1) | (go_at_call 8; refine CB.out.mono ?_; rintro e u1 ⟨g, cap, rfl, le1, b1⟩; have t0 := kept_cell b1 FC.out.1; have t1 := kept_cell b1 FC.out.2.1; have t2 := kept_cell b1 FC.out.2.2; have p0 := kept_cell b1 PB.out.1; have p1 := kept_cell b1 PB.out.2.1; have p2 := kept_cell b1 PB.out.2.2.1; have r0 := (b1.frozen (lt_of_cell PB.out.1)).trans (PB.out.2.2.2 0); have r1 := (b1.frozen (lt_of_cell PB.out.2.1)).trans (PB.out.2.2.2 1); have r2 := (b1.frozen (lt_of_cell PB.out.2.2.1)).trans (PB.out.2.2.2 2); have s1 : w.heap.size + 1 < u1.heap.size := (by have h1 := b1.size; simp at h1; omega); have LE := hid (And.intro le1 b1); clear le1 b1))
  · obtain ⟨le1, b1⟩ := LE.out
    have hB : Below w.heap.size w (u1.alloc (.cells #[.int .i64 x, .int .i64 y, .slice (some ⟨g, 0, none⟩) n3 cap] 28)) := kt (kt (kt BU.out (Below.drew (Below.refl _ _))) b1) (Below.alloc (Below.refl _ _) (Nat.le_refl _) _)
    have hA : Below u1.heap.size u1 (u1.alloc (.cells #[.int .i64 x, .int .i64 y, .slice (some ⟨g, 0, none⟩) n3 cap] 28)) := Below.alloc (Below.refl _ _) (Nat.le_refl _) _
    have FP : Hid (FB (u1.alloc (.cells #[.int .i64 x, .int .i64 y, .slice (some ⟨g, 0, none⟩) n3 cap] 28)) u1.heap.size x y (.slice (some ⟨g, 0, none⟩) n3 cap)) := hid ⟨by simp [go_sem], by simp [go_sem], by simp [go_sem]⟩
    have FF : Hid (FB (u1.alloc (.cells #[.int .i64 x, .int .i64 y, .slice (some ⟨g, 0, none⟩) n3 cap] 28)) (w.heap.size + 1) x y (.slice a3 n3 c3)) := hid (FB.kept ⟨t0, t1, t2⟩ hA)
    have LV := hid (le1.kept hA)
    have IV := hid (I3.out.kept hB)
    have BV := hid hB
    generalize hV : u1.alloc (.cells #[.int .i64 x, .int .i64 y, .slice (some ⟨g, 0, none⟩) n3 cap] 28) = V at *
    generalize hP : u1.heap.size = P at *
    clear hV hP LE le1 b1 hB hA t0 t1 t2 s1 CA CB PB FA FC FU BU I3 f0 f1 f2 hsN hsM hsU SU d0 d1 d2 z0 zl
    have hNL := hid (nxL_len l3 a2)
    have hgV : g < V.heap.size := LV.out.lt.2
    obtain ⟨x0, x1, x2⟩ := FP.out
    go_wp2_with fail
    refine (flowNext_any x y a2 _ n3 cap l3 V LV.out.inss).mono ?_
    rintro e v1 ⟨va, rfl, oa, b1⟩
    have C1 := hid b1
    have OA := hid oa
    obtain ⟨aa, na, ca, rfl, ia⟩ := ints_of_owns oa (by have := hNL.out; omega)
    have IA := hid ia
    obtain ⟨y0, y1, y2⟩ := FF.out.kept C1.out
    clear oa ia b1 x0 x1 x2
    go_wp2_with fail
    refine (refNext_any x y a2 _ n3 c3 l3 v1 (IV.out.kept C1.out)).mono ?_
    rintro e v2 ⟨vb, rfl, ob, b2⟩
    have C2 := hid (kt C1.out b2)
    obtain ⟨ab, nb, cb, rfl, ib⟩ := ints_of_owns ob (by have := hNL.out; omega)
    have IAB := hid (And.intro (IA.out.kept b2) ib)
    have OA2 := hid (owns_kept OA.out b2)
    obtain ⟨x0, x1, x2⟩ := FP.out.kept C2.out
    clear ob ib b2 y0 y1 y2 IA OA
    go_wp2_with fail
    refine (leaders_any x y _ n3 cap l3 v2 (LV.out.kept C2.out).inss).mono ?_
    rintro e v3 ⟨vc, rfl, oc, b3⟩
    have C3 := hid (kt C2.out b3)
    have hLL : Hid ((leadL l3).length ≤ 64) := hid (lead_len l3)
    obtain ⟨ac, nc, cc, rfl, ic⟩ := bools_of_owns oc (by have := hLL.out; omega)
    have IC := hid ic
    have IAB3 := hid (And.intro (IAB.out.1.kept b3) (IAB.out.2.kept b3))
    have OA3 := hid (owns_kept OA2.out b3)
    obtain ⟨y0, y1, y2⟩ := FF.out.kept C3.out
    clear oc ic b3 x0 x1 x2 IAB OA2
    go_wp2_with fail
    refine (refLeaders_any x y _ n3 c3 l3 v3 (IV.out.kept C3.out)).mono ?_
    rintro e v4 ⟨vd, rfl, od, b4⟩
    have C4 := hid (kt C3.out b4)
    obtain ⟨ad, nd, cd, rfl, id4⟩ := bools_of_owns od (by have := hLL.out; omega)
    have ICD := hid (And.intro (IC.out.kept b4) id4)
    have IAB4 := hid (And.intro (IAB3.out.1.kept b4) (IAB3.out.2.kept b4))
    have OA4 := hid (owns_kept OA3.out b4)
    obtain ⟨x0, x1, x2⟩ := FP.out.kept C4.out
    clear od id4 b4 y0 y1 y2 IAB3 OA3 IC
    go_wp2_with fail
    refine (reached_any x y _ n3 cap l3 v4 (LV.out.kept C4.out).inss).mono ?_
    rintro e v5 ⟨vx, bx, rfl, rx, ox, b5⟩
    have C5 := hid (kt C4.out b5)
    obtain ⟨ax, nx, cx, rfl, ix⟩ := bools_of_owns ox (by have := rx.len; omega)
    have IX := hid ix
    have RX := hid rx
    have ICD5 := hid (And.intro (ICD.out.1.kept b5) (ICD.out.2.kept b5))
    have IAB5 := hid (And.intro (IAB4.out.1.kept b5) (IAB4.out.2.kept b5))
    have OA5 := hid (owns_kept OA4.out b5)
    obtain ⟨y0, y1, y2⟩ := FF.out.kept C5.out
    clear ox ix rx b5 x0 x1 x2 IAB4 OA4 ICD
    go_wp2_with fail
    refine (refReached_any x y _ n3 c3 l3 v5 (IV.out.kept C5.out)).mono ?_
    rintro e v6 ⟨vy, by0, rfl, ry, oy, b6⟩
    have C6 := hid (kt C5.out b6)
    obtain ⟨ay, ny, cy, rfl, iy⟩ := bools_of_owns oy (by have := ry.len; omega)
    obtain rfl := RX.out.eq ry
    have IXY := hid (And.intro (IX.out.kept b6) iy)
    have ICD6 := hid (And.intro (ICD5.out.1.kept b6) (ICD5.out.2.kept b6))
    have IAB6 := hid (And.intro (IAB5.out.1.kept b6) (IAB5.out.2.kept b6))
    have OA6 := hid (owns_kept OA5.out b6)
    clear oy iy ry b6 y0 y1 y2 IAB5 OA5 ICD5 IX
    go_wp2_with fail
    refine (sameInts_any _ _ _ _ _ _ (nxL l3 a2) (nxL l3 a2) _ IAB6.out.1 IAB6.out.2).mono ?_
    rintro e v7 ⟨rfl, b7⟩
    rw [decide_eq_true rfl]
    have C7 := hid (kt C6.out b7)
    have IXY7 := hid (And.intro (IXY.out.1.kept b7) (IXY.out.2.kept b7))
    have ICD7 := hid (And.intro (ICD6.out.1.kept b7) (ICD6.out.2.kept b7))
    have OA7 := hid (owns_kept OA6.out b7)
    clear b7 IAB6 OA6 ICD6 IXY
    go_wp2_with (first | (go_at_call 16; refine (num_any _ _).mono ?_; rintro e w' ⟨rfl, hw⟩; rw [hw]; clear hw))
    refine (sameBools_any _ _ _ _ _ _ (leadL l3) (leadL l3) _ ICD7.out.1 ICD7.out.2).mono ?_
    rintro e v8 ⟨rfl, b8⟩
    rw [decide_eq_true rfl]
    have C8 := hid (kt C7.out b8)
    have IXY8 := hid (And.intro (IXY7.out.1.kept b8) (IXY7.out.2.kept b8))
    have OA8 := hid (owns_kept OA7.out b8)
    clear b8 OA7 ICD7 IXY7
    go_wp2_with (first | (go_at_call 16; refine (num_any _ _).mono ?_; rintro e w' ⟨rfl, hw⟩; rw [hw]; clear hw))
    refine (sameBools_any _ _ _ _ _ _ bx bx _ IXY8.out.1 IXY8.out.2).mono ?_
    rintro e v9 ⟨rfl, b9⟩
    rw [decide_eq_true rfl]
    have C9 := hid (kt C8.out b9)
    have OA9 := hid (owns_kept OA8.out b9)
    clear b9 OA8 IXY8
    go_wp2_with (first | (go_at_call 16; refine (num_any _ _).mono ?_; rintro e w' ⟨rfl, hw⟩; rw [hw]; clear hw))
    refine (spoilInts_any V.heap.size _ _ _ (nxL l3 a2) _ OA9.out (by have := hNL.out; omega)).mono ?_
    rintro e v10 ⟨rfl, f10⟩
    have C10 : Hid (Below V.heap.size V v10) := hid (C9.out.trans (f10.below C9.out.size (fun k hk h => by have := (OA9.out.lt k h).1; omega)))
    obtain ⟨x0, x1, x2⟩ := FP.out.kept C10.out
    obtain ⟨y0, y1, y2⟩ := FF.out.kept C10.out
    clear f10 OA9
    go_wp2_with fail
    refine (keptInss_any _ g n3 cap _ _ _ l3 v10 (LV.out.kept C10.out) (IV.out.kept C10.out)).mono ?_
    rintro e v11 ⟨rfl, b11⟩
    have C11 := hid (kt C10.out b11)
    clear b11 x0 x1 x2 y0 y1 y2
    go_wp2_with fail
    refine (awake4_any _).mono ?_
    rintro e v12 ⟨rfl, b12⟩
    go_wp2_with fail
    go_ret
    exact ⟨rfl, kt (kt BV.out C11.out) b12⟩
  · obtain ⟨le1, b1⟩ := LE.out
    have hB0 : Below w.heap.size w u1 := kt (kt BU.out (Below.alloc (Below.drew (Below.refl _ _)) (by simp) _)) b1
    have fr1 : Frm (fun k => k = U.heap.size) u1 (((u1.setCell ⟨U.heap.size, 0, none⟩ (.int .i64 x)).setCell ⟨U.heap.size, 1, none⟩ (.int .i64 y)).setCell ⟨U.heap.size, 2, none⟩ (.slice (some ⟨g, 0, none⟩) n3 cap)) :=
      ((Frm.set (S := fun k => k = U.heap.size) (p := ⟨U.heap.size, 0, none⟩) _ rfl).trans (Frm.set (S := fun k => k = U.heap.size) (p := ⟨U.heap.size, 1, none⟩) _ rfl) (fun _ _ h => h)).trans (Frm.set (S := fun k => k = U.heap.size) (p := ⟨U.heap.size, 2, none⟩) _ rfl) (fun _ _ h => h)
    have hB := hB0.trans (fr1.below (by have := hB0.size; omega) (fun k hk => by omega))
    have FP : Hid (FB (((u1.setCell ⟨U.heap.size, 0, none⟩ (.int .i64 x)).setCell ⟨U.heap.size, 1, none⟩ (.int .i64 y)).setCell ⟨U.heap.size, 2, none⟩ (.slice (some ⟨g, 0, none⟩) n3 cap)) U.heap.size x y (.slice (some ⟨g, 0, none⟩) n3 cap)) := hid (box3 p0 p1 p2)
    have FF : Hid (FB (((u1.setCell ⟨U.heap.size, 0, none⟩ (.int .i64 x)).setCell ⟨U.heap.size, 1, none⟩ (.int .i64 y)).setCell ⟨U.heap.size, 2, none⟩ (.slice (some ⟨g, 0, none⟩) n3 cap)) (w.heap.size + 1) x y (.slice a3 n3 c3)) := hid ⟨fr1.cell t0 (by omega), fr1.cell t1 (by omega), fr1.cell t2 (by omega)⟩
    have LV := hid (le1.frm fr1 (by have := le1.lt.1; simp at this; omega))
    have IV := hid (I3.out.kept hB)
    have BV := hid hB
    generalize hV : (((u1.setCell ⟨U.heap.size, 0, none⟩ (.int .i64 x)).setCell ⟨U.heap.size, 1, none⟩ (.int .i64 y)).setCell ⟨U.heap.size, 2, none⟩ (.slice (some ⟨g, 0, none⟩) n3 cap)) = V at *
    generalize hP : U.heap.size = P at *
    clear hV hP LE le1 b1 hB hB0 fr1 t0 t1 t2 s1 p0 p1 p2 r0 r1 r2 CA CB PB FA FC FU BU I3 f0 f1 f2 hsN hsM hsU SU d0 d1 d2 z0 zl
    have hNL := hid (nxL_len l3 a2)
    have hgV : g < V.heap.size := LV.out.lt.2
    obtain ⟨x0, x1, x2⟩ := FP.out
    go_wp2_with fail
    refine (flowNext_any x y a2 _ n3 cap l3 V LV.out.inss).mono ?_
    rintro e v1 ⟨va, rfl, oa, b1⟩
    have C1 := hid b1
    have OA := hid oa
    obtain ⟨aa, na, ca, rfl, ia⟩ := ints_of_owns oa (by have := hNL.out; omega)
    have IA := hid ia
    obtain ⟨y0, y1, y2⟩ := FF.out.kept C1.out
    clear oa ia b1 x0 x1 x2
    go_wp2_with fail
    refine (refNext_any x y a2 _ n3 c3 l3 v1 (IV.out.kept C1.out)).mono ?_
    rintro e v2 ⟨vb, rfl, ob, b2⟩
    have C2 := hid (kt C1.out b2)
    obtain ⟨ab, nb, cb, rfl, ib⟩ := ints_of_owns ob (by have := hNL.out; omega)
    have IAB := hid (And.intro (IA.out.kept b2) ib)
    have OA2 := hid (owns_kept OA.out b2)
    obtain ⟨x0, x1, x2⟩ := FP.out.kept C2.out
    clear ob ib b2 y0 y1 y2 IA OA
    go_wp2_with fail
    refine (leaders_any x y _ n3 cap l3 v2 (LV.out.kept C2.out).inss).mono ?_
    rintro e v3 ⟨vc, rfl, oc, b3⟩
    have C3 := hid (kt C2.out b3)
    have hLL : Hid ((leadL l3).length ≤ 64) := hid (lead_len l3)
    obtain ⟨ac, nc, cc, rfl, ic⟩ := bools_of_owns oc (by have := hLL.out; omega)
    have IC := hid ic
    have IAB3 := hid (And.intro (IAB.out.1.kept b3) (IAB.out.2.kept b3))
    have OA3 := hid (owns_kept OA2.out b3)
    obtain ⟨y0, y1, y2⟩ := FF.out.kept C3.out
    clear oc ic b3 x0 x1 x2 IAB OA2
    go_wp2_with fail
    refine (refLeaders_any x y _ n3 c3 l3 v3 (IV.out.kept C3.out)).mono ?_
    rintro e v4 ⟨vd, rfl, od, b4⟩
    have C4 := hid (kt C3.out b4)
    obtain ⟨ad, nd, cd, rfl, id4⟩ := bools_of_owns od (by have := hLL.out; omega)
    have ICD := hid (And.intro (IC.out.kept b4) id4)
    have IAB4 := hid (And.intro (IAB3.out.1.kept b4) (IAB3.out.2.kept b4))
    have OA4 := hid (owns_kept OA3.out b4)
    obtain ⟨x0, x1, x2⟩ := FP.out.kept C4.out
    clear od id4 b4 y0 y1 y2 IAB3 OA3 IC
    go_wp2_with fail
    refine (reached_any x y _ n3 cap l3 v4 (LV.out.kept C4.out).inss).mono ?_
    rintro e v5 ⟨vx, bx, rfl, rx, ox, b5⟩
    have C5 := hid (kt C4.out b5)
    obtain ⟨ax, nx, cx, rfl, ix⟩ := bools_of_owns ox (by have := rx.len; omega)
    have IX := hid ix
    have RX := hid rx
    have ICD5 := hid (And.intro (ICD.out.1.kept b5) (ICD.out.2.kept b5))
    have IAB5 := hid (And.intro (IAB4.out.1.kept b5) (IAB4.out.2.kept b5))
    have OA5 := hid (owns_kept OA4.out b5)
    obtain ⟨y0, y1, y2⟩ := FF.out.kept C5.out
    clear ox ix rx b5 x0 x1 x2 IAB4 OA4 ICD
    go_wp2_with fail
    refine (refReached_any x y _ n3 c3 l3 v5 (IV.out.kept C5.out)).mono ?_
    rintro e v6 ⟨vy, by0, rfl, ry, oy, b6⟩
    have C6 := hid (kt C5.out b6)
    obtain ⟨ay, ny, cy, rfl, iy⟩ := bools_of_owns oy (by have := ry.len; omega)
    obtain rfl := RX.out.eq ry
    have IXY := hid (And.intro (IX.out.kept b6) iy)
    have ICD6 := hid (And.intro (ICD5.out.1.kept b6) (ICD5.out.2.kept b6))
    have IAB6 := hid (And.intro (IAB5.out.1.kept b6) (IAB5.out.2.kept b6))
    have OA6 := hid (owns_kept OA5.out b6)
    clear oy iy ry b6 y0 y1 y2 IAB5 OA5 ICD5 IX
    go_wp2_with fail
    refine (sameInts_any _ _ _ _ _ _ (nxL l3 a2) (nxL l3 a2) _ IAB6.out.1 IAB6.out.2).mono ?_
    rintro e v7 ⟨rfl, b7⟩
    rw [decide_eq_true rfl]
    have C7 := hid (kt C6.out b7)
    have IXY7 := hid (And.intro (IXY.out.1.kept b7) (IXY.out.2.kept b7))
    have ICD7 := hid (And.intro (ICD6.out.1.kept b7) (ICD6.out.2.kept b7))
    have OA7 := hid (owns_kept OA6.out b7)
    clear b7 IAB6 OA6 ICD6 IXY
    go_wp2_with (first | (go_at_call 16; refine (num_any _ _).mono ?_; rintro e w' ⟨rfl, hw⟩; rw [hw]; clear hw))
    refine (sameBools_any _ _ _ _ _ _ (leadL l3) (leadL l3) _ ICD7.out.1 ICD7.out.2).mono ?_
    rintro e v8 ⟨rfl, b8⟩
    rw [decide_eq_true rfl]
    have C8 := hid (kt C7.out b8)
    have IXY8 := hid (And.intro (IXY7.out.1.kept b8) (IXY7.out.2.kept b8))
    have OA8 := hid (owns_kept OA7.out b8)
    clear b8 OA7 ICD7 IXY7
    go_wp2_with (first | (go_at_call 16; refine (num_any _ _).mono ?_; rintro e w' ⟨rfl, hw⟩; rw [hw]; clear hw))
    refine (sameBools_any _ _ _ _ _ _ bx bx _ IXY8.out.1 IXY8.out.2).mono ?_
    rintro e v9 ⟨rfl, b9⟩
    rw [decide_eq_true rfl]
    have C9 := hid (kt C8.out b9)
    have OA9 := hid (owns_kept OA8.out b9)
    clear b9 OA8 IXY8
    go_wp2_with (first | (go_at_call 16; refine (num_any _ _).mono ?_; rintro e w' ⟨rfl, hw⟩; rw [hw]; clear hw))
    refine (spoilInts_any V.heap.size _ _ _ (nxL l3 a2) _ OA9.out (by have := hNL.out; omega)).mono ?_
    rintro e v10 ⟨rfl, f10⟩
    have C10 : Hid (Below V.heap.size V v10) := hid (C9.out.trans (f10.below C9.out.size (fun k hk h => by have := (OA9.out.lt k h).1; omega)))
    obtain ⟨x0, x1, x2⟩ := FP.out.kept C10.out
    obtain ⟨y0, y1, y2⟩ := FF.out.kept C10.out
    clear f10 OA9
    go_wp2_with fail
    refine (keptInss_any _ g n3 cap _ _ _ l3 v10 (LV.out.kept C10.out) (IV.out.kept C10.out)).mono ?_
    rintro e v11 ⟨rfl, b11⟩
    have C11 := hid (kt C10.out b11)
    clear b11 x0 x1 x2 y0 y1 y2
    go_wp2_with fail
    refine (awake4_any _).mono ?_
    rintro e v12 ⟨rfl, b12⟩
    go_wp2_with fail
    go_ret
    exact ⟨rfl, kt (kt BV.out C11.out) b12⟩

set_option maxRecDepth 100000 in
theorem lifted (os : Os) (started : os.Started) (H : Type) (enc : TypeId × Value → H) :
    ReturnsInHanded {} Try.checked os 3 .any (Rows.flowsSpec.pre6 enc Try.prog Try.f3 Rows.flowsRow.domain false) (Rows.flowsSpec.post enc Try.prog Try.f3 false true false false) := by
  refine returnsInHanded_of_change_sized (C := Try.checked) own started (by kernel_rfl) Try.func3
    (ChangeSpec.witness6 (enc := enc) (C := Try.checked) false ⟨#[], #[.agg #[.slice none 0 0], .int .i64 0, .int .i64 0], []⟩ 8 (by kernel_rfl) (by kernel_rfl) (by kernel_rfl) (by kernel_rfl)) ?_
  intro W base args ds gs before hval0 hW hcnd hsz0 _
  have hval : ∀ (j : Nat) t v, Try.f3.params[j]? = some t → args[j]? = some v → Value.okWide Try.prog W .any base t v := hval0
  have hW' := hW
  obtain ⟨p, q, hA0, hV, rfl, hfz, hnd⟩ := hW
  have hA : DataW.TrodAll enc Try.prog W 0 (fun _ => true) true Try.f3.params.toList args.toList ds p := hA0
  have hsz : (DataW.weightsEach Try.prog (Try.f3.params.toList ++ Rows.flowsSpec.plain.varTypes Try.prog) (ds ++ gs)).all (· ≤ reachBytes) = true := hsz0
  rw [Try.params3] at hA hval hsz
  obtain ⟨v0, vs0, d0, ds0, p0, q0, hargs, rfl, rfl, h0, r0⟩ := trodAll_cons hA
  obtain ⟨v1, vs1, d1, ds1, p1, q1, rfl, rfl, rfl, h1, r1⟩ := trodAll_cons r0
  obtain ⟨v2, vs2, d2, ds2, p2, q2, rfl, rfl, rfl, h2, r2⟩ := trodAll_cons r1
  obtain ⟨rfl, rfl, rfl⟩ := trodAll_nil r2
  obtain rfl : args = #[v0, v1, v2] := by cases args; simp_all
  obtain ⟨rfl, rfl⟩ := trodVars_none hV
  have k0 := h0
  have lt0 : ∀ x ∈ p0, x.block < W.heap.size := by obtain ⟨m, hm⟩ := k0; exact DataW.trod_lt m _ _ _ hm
  have k1 := h1
  have lt1 : ∀ x ∈ p1, x.block < W.heap.size := by obtain ⟨m, hm⟩ := k1; exact DataW.trod_lt m _ _ _ hm
  have k2 := h2
  have lt2 : ∀ x ∈ p2, x.block < W.heap.size := by obtain ⟨m, hm⟩ := k2; exact DataW.trod_lt m _ _ _ hm
  obtain ⟨a0, n0, c0, l0, rfl, w0⟩ := open_program (hval 0 24 v0 rfl rfl) h0 (fun k hk => by simpa using List.all_eq_true.1 hsz k (DataW.weights_mem_each (j := 0) rfl rfl k hk))
  obtain ⟨a1, rfl, rfl, rfl, w1⟩ := open_int Try.underlying3 (hval 1 3 v1 rfl rfl) h1
  obtain ⟨a2, rfl, rfl, rfl, w2⟩ := open_int Try.underlying3 (hval 2 3 v2 rfl rfl) h2
  clear hA0 hval0
  refine (walk a0 n0 c0 l0 a1 a2 W w0 w1 w2).mono fun e W' ⟨he, bel⟩ => ?_
  subst he
  exact ⟨_, rfl, _, _, _, [], _, [], hW', trodAll_mk1 (shut_bool Try.underlying4 _), (trodAll_cons_mk (Below.trod laidOut (by kernel_rfl) (of_decide_eq_true (by kernel_rfl)) k0 bel lt0) (trodAll_cons_mk (Below.trod laidOut (by kernel_rfl) (of_decide_eq_true (by kernel_rfl)) k1 bel lt1) (trodAll_cons_mk (Below.trod laidOut (by kernel_rfl) (of_decide_eq_true (by kernel_rfl)) k2 bel lt2) trodAll_mk0))), rfl, bel.frame _, fun h => by cases h⟩

theorem over : Rows.flowsRow.holds Try.pinned (OpenSpec.ofChange Rows.flowsSpec) :=
  OpenClaim.holds_of_wide 3 Try.f3 rfl rfl rfl rfl rfl rfl rfl ⟨rfl, rfl, rfl, rfl, rfl⟩ rfl rfl rfl rfl rfl (by kernel_rfl) Try.func3 (by kernel_rfl)
    (of_decide_eq_true (by kernel_rfl)) (by unfold Func.isWrapper; first | (rw [if_pos (by decide +kernel)]; kernel_rfl) | (rw [if_neg (by decide +kernel)]; exact ⟨rfl, rfl⟩))
    (fun os started H enc _ => lifted os started H enc)
end Go.Proofs.Ytclpnmideableaa.flows
namespace Go.Proofs.Ytclpnmideableaa
theorem flows_holds : Rows.FlowsSaid := flows.over
#print axioms flows_holds
end Go.Proofs.Ytclpnmideableaa
