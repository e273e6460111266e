/- For any program and any state the law Steps returns true: step.Step answers as the document's own reckoning does, what is handed in stays as it was, and what is answered shares no memory with it; no conditions. -/
import Derived.Test.YtcngmkbgcfhmdaaGreatDoorRows
import Derived.WalkKit
import Derived.ProofKit
import Derived.OpenShut
import Derived.ShutString
import Derived.ChangeOld
import Derived.Below
import Derived.Carry
import Derived.Lib.SmallJoins
import Derived.Handy
import Derived.WalkSmall
import Derived.SizedLaws
import Derived.Test.YtcngmkbgcfhmdaaGreatDoorOpen
import Derived.Test.YtcngmkbgcfhmdaaGreatDoorOpenFr
import Derived.Test.YtcngmkbgcfhmdaaGreatDoorLaidOpenV
import Derived.Test.YtcngmkbgcfhmdaaGreatDoorCards
import Derived.Test.YtcngmkbgcfhmdaaGreatDoorTie
import Derived.SevenTiedAt
import Derived.LaidMore
import Derived.Stop.Joined
import Derived.Test.YtcngmkbgcfhmdaaGreatDoorJ7
import Derived.Test.YtcngmkbgcfhmdaaGreatDoorJ8
import Derived.Test.YtcngmkbgcfhmdaaGreatDoorJ8r
import Derived.Test.YtcngmkbgcfhmdaaGreatDoorJ7p
import Derived.Deep.DeepCutAuto
import Derived.Lib.QuietBelow
import Derived.Deep.QuietTactic
import Derived.BigQuiet
namespace Go.Proofs.YtcngmkbgcfhmdaaGreatDoor.steps
open Go.ChangeShapes Go.WideShapes Go.ChangeAt Go.RowKit
open Go.ChangeMaps (open_string shut_string)
set_option linter.unusedVariables false

theorem own : ownKnob Tryz.prog.godebug = none := by kernel_rfl
theorem laidOut : laidOutB Tryz.prog = true := by kernel_rfl

theorem sameState_same (fa : Option Addr) (fn fc : Nat) (fs : List Fr) (fu : Int) (oa : Option Addr) (on oc : Nat) (os : List Int) (dn vl : Int) (fa' : Option Addr) (fn' fc' : Nat) (oa' : Option Addr) (on' oc' : Nat) (w : World) (hf : Frs w fa fn fc fs) (ho : Ints w oa on oc os) (hf' : Frs w fa' fn' fc' fs) (ho' : Ints w oa' on' oc' os) :
    Calls Tryz.prog 10 #[.agg #[.slice fa fn fc, .int .i64 fu, .slice oa on oc, .int .i64 dn, .int .i64 vl], .agg #[.slice fa' fn' fc', .int .i64 fu, .slice oa' on' oc', .int .i64 dn, .int .i64 vl]] w fun e w' => e = .returned (.bool true) ∧ Below w.heap.size w w' :=
  (sameState_any fa fn fc fs fu oa on oc os dn vl fa' fn' fc' fs fu oa' on' oc' os dn vl w hf ho hf' ho').mono (by rintro e w' ⟨rfl, hb⟩; exact ⟨by rw [sameS_self], hb⟩)
set_option maxRecDepth 100000 in
set_option maxHeartbeats 20000000 in
theorem walk (a0 : Option Addr) (n0 c0 : Nat) (l0 : List Fn) (fa1 : Option Addr) (fn1 fc1 : Nat) (fs1 : List Fr) (fu1 : Int) (oa1 : Option Addr) (on1 oc1 : Nat) (os1 : List Int) (dn1 vl1 : Int) (w : World) (w0 : Fns w a0 n0 c0 l0) (wf1 : Frs w fa1 fn1 fc1 fs1) (wo1 : Ints w oa1 on1 oc1 os1) (ld : Ld w) :
    Calls Tryz.prog 3 #[.agg #[.slice a0 n0 c0], .agg #[.slice fa1 fn1 fc1, .int .i64 fu1, .slice oa1 on1 oc1, .int .i64 dn1, .int .i64 vl1]] w fun e w' => e = .returned (.bool true) ∧ Below w.heap.size w w' := by
  have LD0 := hid ld
  clear ld
  have W0 := hid w0
  have WF := hid wf1
  have WO := hid wo1
  clear w0 wf1 wo1
  have hG : Below w.heap.size w ((w.alloc (.cells #[.slice a0 n0 c0] 24)).alloc (.cells #[.slice fa1 fn1 fc1, .int .i64 fu1, .slice oa1 on1 oc1, .int .i64 dn1, .int .i64 vl1] 28)) := by go_grown
  have U0 : Hid (∃ U : World, U = (w.alloc (.cells #[.slice a0 n0 c0] 24)).alloc (.cells #[.slice fa1 fn1 fc1, .int .i64 fu1, .slice oa1 on1 oc1, .int .i64 dn1, .int .i64 vl1] 28)) := hid ⟨_, rfl⟩
  obtain ⟨U, hU⟩ := U0.out
  have BU : Hid (Below w.heap.size w U) := hid (by rw [hU]; exact hG)
  have P0 : Hid (U.cell? ⟨w.heap.size, 0, none⟩ = some (.slice a0 n0 c0)) := hid (by rw [hU]; simp [go_sem])
  have X0 : Hid (SX U (w.heap.size + 1) (.slice fa1 fn1 fc1) fu1 (.slice oa1 on1 oc1) dn1 vl1) := hid (by rw [hU]; exact ⟨by simp [go_sem], by simp [go_sem], by simp [go_sem], by simp [go_sem], by simp [go_sem], by simp [go_sem], by simp [go_sem]⟩)
  have EU := hid hU
  clear hU U0 hG
  go_enter Tryz.func3, Tryz.ntmps3
  go_wp2_with fail
  refine wp_world (U := U) EU.out ?_
  have W0U := hid (W0.out.kept BU.out)
  have WFU := hid (WF.out.kept BU.out)
  have WOU := hid (WO.out.kept BU.out)
  have HL0 : Hid (l0.length * 40 ≤ 140737488351232) := hid (by rw [← W0.out.len]; exact W0.out.room)
  have HF1 : Hid (fs1.length * 64 ≤ 140737488351232) := hid (by rw [← WF.out.len]; exact WF.out.room)
  have HO1 : Hid (os1.length * 8 ≤ 140737488351232) := hid (by rw [← WO.out.len]; exact WO.out.room)
  have SA : Hid (∀ w', Below U.heap.size U w' → (w'.cell? ⟨w.heap.size, 0, none⟩ = some (.slice a0 n0 c0) ∧ w'.cell? ⟨w.heap.size + 1, 0, none⟩ = some (.slice fa1 fn1 fc1) ∧ w'.cell? ⟨w.heap.size + 1, 1, none⟩ = some (.int .i64 fu1) ∧ w'.cell? ⟨w.heap.size + 1, 2, none⟩ = some (.slice oa1 on1 oc1) ∧ w'.cell? ⟨w.heap.size + 1, 3, none⟩ = some (.int .i64 dn1) ∧ w'.cell? ⟨w.heap.size + 1, 4, none⟩ = some (.int .i64 vl1))) := hid (fun w' b => ⟨kept_cell b P0.out, kept_cell b X0.out.c0, kept_cell b X0.out.c1, kept_cell b X0.out.c2, kept_cell b X0.out.c3, kept_cell b X0.out.c4⟩)
  have BC : Below U.heap.size U U := Below.refl _ _
  go_cut [5, 6] (fun s t wx => PairR U l0 fs1 fu1 os1 dn1 vl1 s t wx)
  case first =>
    go_region_held3 (fun w' => w'.cell? ⟨w.heap.size, 0, none⟩ = some (.slice a0 n0 c0) ∧ w'.cell? ⟨w.heap.size + 1, 0, none⟩ = some (.slice fa1 fn1 fc1) ∧ w'.cell? ⟨w.heap.size + 1, 1, none⟩ = some (.int .i64 fu1) ∧ w'.cell? ⟨w.heap.size + 1, 2, none⟩ = some (.slice oa1 on1 oc1) ∧ w'.cell? ⟨w.heap.size + 1, 3, none⟩ = some (.int .i64 dn1) ∧ w'.cell? ⟨w.heap.size + 1, 4, none⟩ = some (.int .i64 vl1)) (first | (refine SA.out _ ?_; (repeat (first | with_reducible exact BC | with_reducible refine pDrew ?_ | with_reducible refine pAlloc ?_ | with_reducible refine pSet (by first | exact Nat.le_refl _ | omega) ?_))))
      (first
        | (go_at_call 6; refine (copyProgram_any _ _ _ l0 _ (W0U.out.kept ?h1)).mono ?_; (case h1 => (repeat (first | with_reducible exact BC | with_reducible refine pDrew ?_ | with_reducible refine pAlloc ?_ | with_reducible refine pSet (by first | exact Nat.le_refl _ | omega) ?_))); rintro e y1 ⟨vx, rfl, ox, b⟩; obtain ⟨ax, nx, cx, rfl, -⟩ := ox.reads HL0.out; (first | (with_reducible have hNN := pNew2 b; obtain ⟨hA1, hA2⟩ := hNN) | (with_reducible have hA1 := pNew1 b) | skip); (try (have ltA1 := heap_lt hA1)); (try (have ltA2 := heap_lt hA2)); replace BC : Below U.heap.size U y1 := kt (by repeat (first | with_reducible exact BC | with_reducible refine pDrew ?_ | with_reducible refine pAlloc ?_ | with_reducible refine pSet (by first | exact Nat.le_refl _ | omega) ?_)) b; have hU1 := BC.size; have OX := hid ox; clear b ox)
        | (go_at_call 7; refine (copyState_any _ _ _ fs1 _ _ _ _ os1 _ _ _ (WFU.out.kept ?h1) (WOU.out.kept ?h2)).mono ?_; (case h1 => (repeat (first | with_reducible exact BC | with_reducible refine pDrew ?_ | with_reducible refine pAlloc ?_ | with_reducible refine pSet (by first | exact Nat.le_refl _ | omega) ?_))); (case h2 => (repeat (first | with_reducible exact BC | with_reducible refine pDrew ?_ | with_reducible refine pAlloc ?_ | with_reducible refine pSet (by first | exact Nat.le_refl _ | omega) ?_))); rintro e y2 ⟨vf, oa', on', oc', rfl, of, oo, b⟩; obtain ⟨af, nf, cf, rfl, -⟩ := of.reads HF1.out; have hY : Below y1.heap.size y1 y2 := kt (by repeat (first | with_reducible exact Below.refl _ _ | with_reducible refine pAlloc ?_)) b; (try (replace hA1 := heap_kept hA1 hY)); (try (replace hA2 := heap_kept hA2 hY)); (first | (with_reducible have hNN := below_new2 b; obtain ⟨hB1, hB2⟩ := hNN) | (with_reducible have hB1 := below_new1 b) | skip); replace BC : Below U.heap.size U y2 := kt (by repeat (first | with_reducible exact BC | with_reducible refine pDrew ?_ | with_reducible refine pAlloc ?_ | with_reducible refine pSet (by first | exact Nat.le_refl _ | omega) ?_)) b; have hU2 := BC.size; have hU12 := hY.size; have OF := hid of; have OO := hid oo; have HY := hid hY; clear b of oo hY; (try (have lt_hA1 := heap_lt hA1)); (try (with_reducible have qhA10 := cell_of_heap (j := 0) hA1 rfl)); (try (obtain ⟨chA10, fhA10⟩ := qhA10)); (try (with_reducible have qhA11 := cell_of_heap (j := 1) hA1 rfl)); (try (obtain ⟨chA11, fhA11⟩ := qhA11)); (try (with_reducible have qhA12 := cell_of_heap (j := 2) hA1 rfl)); (try (obtain ⟨chA12, fhA12⟩ := qhA12)); (try (with_reducible have qhA13 := cell_of_heap (j := 3) hA1 rfl)); (try (obtain ⟨chA13, fhA13⟩ := qhA13)); (try (with_reducible have qhA14 := cell_of_heap (j := 4) hA1 rfl)); (try (obtain ⟨chA14, fhA14⟩ := qhA14)); (try (have lt_hA2 := heap_lt hA2)); (try (with_reducible have qhA20 := cell_of_heap (j := 0) hA2 rfl)); (try (obtain ⟨chA20, fhA20⟩ := qhA20)); (try (with_reducible have qhA21 := cell_of_heap (j := 1) hA2 rfl)); (try (obtain ⟨chA21, fhA21⟩ := qhA21)); (try (with_reducible have qhA22 := cell_of_heap (j := 2) hA2 rfl)); (try (obtain ⟨chA22, fhA22⟩ := qhA22)); (try (with_reducible have qhA23 := cell_of_heap (j := 3) hA2 rfl)); (try (obtain ⟨chA23, fhA23⟩ := qhA23)); (try (with_reducible have qhA24 := cell_of_heap (j := 4) hA2 rfl)); (try (obtain ⟨chA24, fhA24⟩ := qhA24)); (try (have lt_hB1 := heap_lt hB1)); (try (with_reducible have qhB10 := cell_of_heap (j := 0) hB1 rfl)); (try (obtain ⟨chB10, fhB10⟩ := qhB10)); (try (with_reducible have qhB11 := cell_of_heap (j := 1) hB1 rfl)); (try (obtain ⟨chB11, fhB11⟩ := qhB11)); (try (with_reducible have qhB12 := cell_of_heap (j := 2) hB1 rfl)); (try (obtain ⟨chB12, fhB12⟩ := qhB12)); (try (with_reducible have qhB13 := cell_of_heap (j := 3) hB1 rfl)); (try (obtain ⟨chB13, fhB13⟩ := qhB13)); (try (with_reducible have qhB14 := cell_of_heap (j := 4) hB1 rfl)); (try (obtain ⟨chB14, fhB14⟩ := qhB14)); (try (have lt_hB2 := heap_lt hB2)); (try (with_reducible have qhB20 := cell_of_heap (j := 0) hB2 rfl)); (try (obtain ⟨chB20, fhB20⟩ := qhB20)); (try (with_reducible have qhB21 := cell_of_heap (j := 1) hB2 rfl)); (try (obtain ⟨chB21, fhB21⟩ := qhB21)); (try (with_reducible have qhB22 := cell_of_heap (j := 2) hB2 rfl)); (try (obtain ⟨chB22, fhB22⟩ := qhB22)); (try (with_reducible have qhB23 := cell_of_heap (j := 3) hB2 rfl)); (try (obtain ⟨chB23, fhB23⟩ := qhB23)); (try (with_reducible have qhB24 := cell_of_heap (j := 4) hB2 rfl)); (try (obtain ⟨chB24, fhB24⟩ := qhB24))))
    all_goals
      go_wp2_with fail
      go_meet
      case rel =>
        refine pair_done OX.out HY.out HL0.out OF.out HF1.out OO.out HO1.out ?fr ?tX ?tY ?cX ?sY ?bel
        case fr => repeat (first | with_reducible exact Frm.refl _ _ | with_reducible refine fAlloc ?_ | with_reducible refine fDrew ?_ | with_reducible refine fSet (by first | exact .inl rfl | exact .inr rfl) ?_)
        case tX => (first | exact fun _ => ⟨_, _, hA1⟩ | exact fun _ => ⟨_, _, hA2⟩ | exact fun _ => ⟨_, _, hB1⟩ | exact fun _ => ⟨_, _, hB2⟩ | exact fun h => absurd h (by omega))
        case tY => (first | exact fun _ => ⟨_, _, hA1⟩ | exact fun _ => ⟨_, _, hA2⟩ | exact fun _ => ⟨_, _, hB1⟩ | exact fun _ => ⟨_, _, hB2⟩ | exact fun h => absurd h (by omega))
        case bel => (repeat (first | with_reducible exact BC | with_reducible refine pDrew ?_ | with_reducible refine pAlloc ?_ | with_reducible refine pSet (by first | exact Nat.le_refl _ | omega) ?_))
        case cX => first | (simp [go_sem]; done) | (simp [go_sem, *]; done)
        case sY => first | exact ⟨by simp [go_sem], by simp [go_sem], by simp [go_sem], by simp [go_sem], by simp [go_sem], by simp [go_sem], by simp [go_sem]⟩ | exact ⟨by simp [go_sem, *], by simp [go_sem, *], by simp [go_sem, *], by simp [go_sem, *], by simp [go_sem, *], by simp [go_sem, *], by simp [go_sem, *]⟩
  case rest =>
    obtain ⟨⟨bx, bz, ax, nx, cx, af, nf, cf, oa', on', oc', rfl, rfl, x0, sy, fx, ff, fo⟩, bel⟩ := hcut
    have BW := hid (kt BU.out bel)
    have PC := hid (kept_cell bel P0.out)
    have SC := hid (X0.out.kept bel)
    have XC := hid x0
    have YC := hid sy
    have FX := hid (And.intro fx (And.intro ff fo))
    have WPc := hid (W0.out.kept BW.out)
    have WFc := hid (WF.out.kept BW.out)
    have WOc := hid (WO.out.kept BW.out)
    have LDc := hid (LD0.out.up BW.out)
    obtain ⟨y0, y1, y2, y3, y4, _, _⟩ := sy
    clear fx ff fo bel SA BC W0U WFU WOU HL0 HF1 HO1 P0 X0 BU W0 WF WO LD0 EU
    go_wp2_with fail
    refine (stepStep_any _ _ _ l0 _ _ _ fs1 fu1 _ _ _ os1 dn1 vl1 _ FX.out.1 FX.out.2.1 FX.out.2.2 LDc.out).mono ?_
    have hSl := stepS_len l0 (fs1, fu1, os1, dn1, vl1)
    generalize hS : stepS l0 (fs1, fu1, os1, dn1, vl1) = SS at hSl ⊢
    generalize hE : stepE l0 (fs1, fu1, os1, dn1, vl1) = EE
    have HSE := hid (And.intro hS hE)
    clear hS hE x0 y0 y1 y2 y3 y4
    rintro e u1 ⟨va, vn, vc, ea, en, ec, rfl, of, oo, b1⟩
    obtain ⟨_, _, _, ev, rf⟩ := of.reads (by omega)
    cases ev
    obtain ⟨_, _, _, ev, ri⟩ := ints_of_owns oo.2 oo.1
    cases ev
    have hA1 : Below u1.heap.size u1 (u1.alloc (.cells #[.slice va vn vc, .int .i64 SS.2.1, .slice ea en ec, .int .i64 SS.2.2.2.1, .int .i64 SS.2.2.2.2] 28)) := Below.alloc (Below.refl _ _) (Nat.le_refl _) _
    have D1 := hid (kt b1 hA1)
    have OF := hid (of.kept hA1)
    have OO := hid (oo.below hA1)
    have RF := hid (rf.kept hA1)
    have RI := hid (ri.kept hA1)
    have Y1 : Hid (SX (u1.alloc (.cells #[.slice va vn vc, .int .i64 SS.2.1, .slice ea en ec, .int .i64 SS.2.2.2.1, .int .i64 SS.2.2.2.2] 28)) u1.heap.size (.slice va vn vc) SS.2.1 (.slice ea en ec) SS.2.2.2.1 SS.2.2.2.2) := hid ⟨by simp [go_sem], by simp [go_sem], by simp [go_sem], by simp [go_sem], by simp [go_sem], by simp [go_sem], by simp [go_sem]⟩
    have hs1 := b1.size
    have p1 := kept_cell D1.out PC.out
    obtain ⟨s0, s1, s2, s3, s4, _, _⟩ := SC.out.kept D1.out
    clear of oo rf ri hA1 b1
    go_wp2_with fail
    refine (refStep_any _ _ _ l0 _ _ _ fs1 fu1 _ _ _ os1 dn1 vl1 _ (WPc.out.kept D1.out) (WFc.out.kept D1.out) (WOc.out.kept D1.out)).mono ?_
    rw [HSE.out.1, HSE.out.2]
    rintro e u2 ⟨ma, mn, mc, ka, kn, kc, rfl, of, oo, b2⟩
    obtain ⟨_, _, _, ev, rf⟩ := of.reads (by omega)
    cases ev
    obtain ⟨_, _, _, ev, ri⟩ := ints_of_owns oo.2 oo.1
    cases ev
    have hA2 : Below u2.heap.size u2 (u2.alloc (.cells #[.slice ma mn mc, .int .i64 SS.2.1, .slice ka kn kc, .int .i64 SS.2.2.2.1, .int .i64 SS.2.2.2.2] 28)) := Below.alloc (Below.refl _ _) (Nat.le_refl _) _
    have Z2 : SX (u2.alloc (.cells #[.slice ma mn mc, .int .i64 SS.2.1, .slice ka kn kc, .int .i64 SS.2.2.2.1, .int .i64 SS.2.2.2.2] 28)) u2.heap.size (.slice ma mn mc) SS.2.1 (.slice ka kn kc) SS.2.2.2.1 SS.2.2.2.2 := ⟨by simp [go_sem], by simp [go_sem], by simp [go_sem], by simp [go_sem], by simp [go_sem], by simp [go_sem], by simp [go_sem]⟩
    have D2 := hid (kt b2 hA2)
    have RF2 := hid (rf.kept hA2)
    have RI2 := hid (ri.kept hA2)
    have C2 := hid (kt D1.out D2.out)
    have Y2 := hid (Y1.out.kept D2.out)
    obtain ⟨z0, z1, z2, z3, z4, _, _⟩ := Z2
    obtain ⟨t0, t1, t2, t3, t4, _, _⟩ := Y2.out
    clear of oo rf ri hA2 b2 p1 s0 s1 s2 s3 s4
    go_wp2_with fail
    refine (sameState_same _ _ _ SS.1 SS.2.1 _ _ _ SS.2.2.1 SS.2.2.2.1 SS.2.2.2.2 _ _ _ _ _ _ _ (RF.out.kept D2.out) (RI.out.kept D2.out) RF2.out RI2.out).mono ?_
    rintro e u3 ⟨rfl, b3⟩
    have D3 := hid (kt D2.out b3)
    have C3 := hid (kt C2.out b3)
    obtain ⟨r0, r1, r2, r3, r4, _, _⟩ := Y1.out.kept D3.out
    clear b3 z0 z1 z2 z3 z4 t0 t1 t2 t3 t4
    go_wp2_with fail
    refine (num_any _ _).mono ?_
    rintro e w' ⟨rfl, hw⟩
    rw [hw]
    clear hw
    go_wp2_with fail
    have HR := RF.out
    refine (spoilState_any _ _ _ _ _ _ _ _ _ wc.heap.size _ ((OF.out.kept D3.out).soft (Nat.le_refl _)) RF.out.room RF.out.cap (softi_of_owns (OO.out.below D3.out).2 (Nat.le_refl _)) RI.out.room RI.out.cap C3.out.size).mono ?_
    rintro e u4 ⟨rfl, b4⟩
    have C4 := hid (C3.out.trans b4)
    have p4 := kept_cell C4.out PC.out
    have x4 := kept_cell C4.out XC.out
    clear b4 HR r0 r1 r2 r3 r4
    go_wp2_with fail
    refine (sameProgram_any _ _ _ _ _ _ l0 l0 _ (FX.out.1.kept C4.out) (WPc.out.kept C4.out)).mono ?_
    rintro e u7 ⟨rfl, b7⟩
    rw [show decide (l0 = l0) = true by simp]
    have G7 := hid (kt C4.out b7)
    obtain ⟨s0, s1, s2, s3, s4, _, _⟩ := SC.out.kept G7.out
    obtain ⟨t0, t1, t2, t3, t4, _, _⟩ := YC.out.kept G7.out
    clear b7 p4 x4
    go_wp2_with fail
    refine (sameState_same _ _ _ fs1 fu1 _ _ _ os1 dn1 vl1 _ _ _ _ _ _ _ (FX.out.2.1.kept G7.out) (FX.out.2.2.kept G7.out) (WFc.out.kept G7.out) (WOc.out.kept G7.out)).mono ?_
    rintro e u8 ⟨rfl, b8⟩
    have G8 := hid (kt G7.out b8)
    clear b8 s0 s1 s2 s3 s4 t0 t1 t2 t3 t4
    go_wp2_with fail
    refine (awake7_any _ (LDc.out.up G8.out)).mono ?_
    rintro e u10 ⟨rfl, b10⟩
    have G10 := hid (kt G8.out b10)
    clear b10
    go_wp2_with fail
    go_ret
    exact ⟨rfl, kt BW.out G10.out⟩

set_option maxRecDepth 100000 in
theorem lifted (os : Os) (started : os.Started) (H : Type) (enc : TypeId × Value → H) :
    ReturnsInHanded {} Tryz.checked os 3 .any (fun w args => (Rows.stepsSpec.pre enc Tryz.prog Tryz.f3 [] false w args ∧ laidMetH Tryz.prog [("math/bits.deBruijn32tab", Rows.laid_math_bits_deBruijn32tab), ("math/bits.deBruijn64tab", Rows.laid_math_bits_deBruijn64tab), ("internal/strconv.uint64pow10", Rows.laid_internal_strconv_uint64pow10), ("errors.errorType", Rows.laid_errors_errorType), ("swage/pack.errForm", Rows.laid_swage_pack_errForm), ("swage/pack.errEnd", Rows.laid_swage_pack_errEnd)] w) ∧ sizedMet enc Tryz.prog Tryz.f3 (OpenSpec.ofChange Rows.stepsSpec) false w args) (Rows.stepsSpec.post enc Tryz.prog Tryz.f3 false true false false) := by
  refine returnsInHanded_of_change_and (C := Tryz.checked) (X := fun w _ => laidMetH Tryz.prog [("math/bits.deBruijn32tab", Rows.laid_math_bits_deBruijn32tab), ("math/bits.deBruijn64tab", Rows.laid_math_bits_deBruijn64tab), ("internal/strconv.uint64pow10", Rows.laid_internal_strconv_uint64pow10), ("errors.errorType", Rows.laid_errors_errorType), ("swage/pack.errForm", Rows.laid_swage_pack_errForm), ("swage/pack.errEnd", Rows.laid_swage_pack_errEnd)] w) (fun _ _ _ hh h => h.of_heap hh) own started (by kernel_rfl) Tryz.func3
    (ChangeSpec.witness_shaped (enc := enc) (C := Tryz.checked) (os := os) (X := fun w _ => laidMetH Tryz.prog [("math/bits.deBruijn32tab", Rows.laid_math_bits_deBruijn32tab), ("math/bits.deBruijn64tab", Rows.laid_math_bits_deBruijn64tab), ("internal/strconv.uint64pow10", Rows.laid_internal_strconv_uint64pow10), ("errors.errorType", Rows.laid_errors_errorType), ("swage/pack.errForm", Rows.laid_swage_pack_errForm), ("swage/pack.errEnd", Rows.laid_swage_pack_errEnd)] w) false (World.doorLaid Tryz.prog 400 os) #[.agg #[.slice none 0 0], .agg #[.slice none 0 0, .int .i64 0, .slice none 0 0, .int .i64 0, .int .i64 0]] 8 rfl (World.shaped_of_RefB (by kernel_rfl) (by kernel_rfl)) (by kernel_rfl) (by kernel_rfl) (by kernel_rfl) (door_met os _)) ?_
  intro W base args ds gs before hval0 hW hcnd hsz0 hL _
  have hval : ∀ (j : Nat) t v, Tryz.f3.params[j]? = some t → args[j]? = some v → Value.okWide Tryz.prog W .any base t v := hval0
  have hW' := hW
  obtain ⟨p, q, hA0, hV, rfl, hfz, hnd⟩ := hW
  have hA : DataW.TrodAll enc Tryz.prog W 0 (fun _ => true) true Tryz.f3.params.toList args.toList ds p := hA0
  have hsz : (DataW.weightsEach Tryz.prog (Tryz.f3.params.toList ++ Rows.stepsSpec.plain.varTypes Tryz.prog) (ds ++ gs)).all (· ≤ reachBytes) = true := hsz0
  rw [Tryz.params3] at hA hval hsz
  obtain ⟨v0, vs0, d0, ds0, p0, q0, hargs, rfl, rfl, h0, r0⟩ := trodAll_cons hA
  obtain ⟨v1, vs1, d1, ds1, p1, q1, rfl, rfl, rfl, h1, r1⟩ := trodAll_cons r0
  obtain ⟨rfl, rfl, rfl⟩ := trodAll_nil r1
  obtain rfl : args = #[v0, v1] := by cases args; simp_all
  obtain ⟨rfl, rfl⟩ := trodVars_none hV
  have k0 := h0
  have lt0 : ∀ x ∈ p0, x.block < W.heap.size := by obtain ⟨m, hm⟩ := k0; exact DataW.trod_lt m _ _ _ hm
  have k1 := h1
  have lt1 : ∀ x ∈ p1, x.block < W.heap.size := by obtain ⟨m, hm⟩ := k1; exact DataW.trod_lt m _ _ _ hm
  obtain ⟨a0, n0, c0, l0, rfl, w0⟩ := open_program (hval 0 24 v0 rfl rfl) h0 (fun k hk => by simpa using List.all_eq_true.1 hsz k (DataW.weights_mem_each (j := 0) rfl rfl k hk))
  obtain ⟨fa1, fn1, fc1, fs1, fu1, oa1, on1, oc1, os1, dn1, vl1, rfl, wf1, wo1, _, _, _⟩ := open_state (hval 1 28 v1 rfl rfl) h1 (fun k hk => by simpa using List.all_eq_true.1 hsz k (DataW.weights_mem_each (j := 1) rfl rfl k hk))
  clear hA0 hval0
  refine (walk a0 n0 c0 l0 fa1 fn1 fc1 fs1 fu1 oa1 on1 oc1 os1 dn1 vl1 W w0 wf1 wo1 (ld_of hL)).mono fun e W' ⟨he, bel⟩ => ?_
  subst he
  exact ⟨_, rfl, _, _, _, [], _, [], hW', trodAll_mk1 (shut_bool Tryz.underlying4 _), (trodAll_cons_mk (Below.trod laidOut (by kernel_rfl) (of_decide_eq_true (by kernel_rfl)) k0 bel lt0) (trodAll_cons_mk (Below.trod laidOut (by kernel_rfl) (of_decide_eq_true (by kernel_rfl)) k1 bel lt1) trodAll_mk0)), rfl, bel.frame _, fun h => by cases h⟩

theorem over : Rows.stepsRow.holds Tryz.pinned (OpenSpec.ofChange Rows.stepsSpec) :=
  OpenClaim.holds_of_wide 3 Tryz.f3 rfl rfl rfl rfl rfl rfl rfl ⟨rfl, rfl, rfl, rfl, rfl⟩ rfl rfl rfl rfl rfl (by kernel_rfl) Tryz.func3 (by kernel_rfl)
    (of_decide_eq_true (by kernel_rfl)) (by unfold Func.isWrapper; first | (rw [if_pos (by decide +kernel)]; kernel_rfl) | (rw [if_neg (by decide +kernel)]; exact ⟨rfl, rfl⟩))
    (fun os started H enc _ => lifted os started H enc)
end Go.Proofs.YtcngmkbgcfhmdaaGreatDoor.steps
namespace Go.Proofs.YtcngmkbgcfhmdaaGreatDoor
open Go
theorem steps_holds : Rows.StepsCardSaid :=
  Claim7.holds_tied_plain_at .later [] [.data, .data, .data, .handle, .sentinel, .sentinel] true (true, "8ce2f962c952337db57778753e74d555c467eb37702223c817e647a3aea5e81b") true
    steps.over (fun _ h => by cases h) (by kernel_rfl) (fun _ h => by cases h) steps_row_tie rfl ⟨rfl, rfl⟩ (by kernel_rfl) rfl
    (fun f fn hf hfn => by
      obtain rfl : f = 3 := Option.some.inj ((show Tryz.prog.funcNamed "swage/swagelaw7.Steps" = some 3 by kernel_rfl).symm.trans hf) |>.symm
      obtain rfl : fn = Tryz.f3 := (Option.some.inj (Tryz.func3.symm.trans hfn)).symm
      exact ⟨by kernel_rfl, fun j t ht => by
        rw [Tryz.params3] at ht
        have hm : t ∈ [24, 28] := by simpa using Array.mem_of_getElem? ht
        have hall : ([24, 28].all fun u => !Tryz.prog.wantsStandIn u) = true := by kernel_rfl
        exact (show Tryz.prog.wantsStandIn t = false by simpa using List.all_eq_true.1 hall t hm)⟩)
    (by kernel_rfl)
#print axioms steps_holds
end Go.Proofs.YtcngmkbgcfhmdaaGreatDoor
