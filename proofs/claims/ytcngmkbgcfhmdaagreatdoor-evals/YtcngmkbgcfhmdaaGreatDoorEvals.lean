/- For any program, any list of integers, any integer and any state the law Evals returns true: eval.Eval and eval.Go answer as the document's own reckoning does, what is handed in stays as it was, and what is answered shares no memory with it; no conditions. -/
import Derived.Test.YtcngmkbgcfhmdaaGreatDoorRows
import Derived.WalkKit
import Derived.ProofKit
import Derived.OpenShut
import Derived.ShutString
import Derived.ChangeOld
import Derived.Below
import Derived.Carry
import Derived.Lib.SmallJoins
import Derived.Handy
import Derived.WalkSmall
import Derived.SizedLaws
import Derived.Test.YtcngmkbgcfhmdaaGreatDoorOpen
import Derived.Test.YtcngmkbgcfhmdaaGreatDoorOpenFr
import Derived.Test.YtcngmkbgcfhmdaaGreatDoorOpenInts
import Derived.Test.YtcngmkbgcfhmdaaGreatDoorLaidOpenV
import Derived.Test.YtcngmkbgcfhmdaaGreatDoorCards
import Derived.Test.YtcngmkbgcfhmdaaGreatDoorTie
import Derived.SevenTiedAt
import Derived.LaidMore
import Derived.Stop.Joined
import Derived.Test.YtcngmkbgcfhmdaaGreatDoorJ7
import Derived.Test.YtcngmkbgcfhmdaaGreatDoorJ8
import Derived.Test.YtcngmkbgcfhmdaaGreatDoorJ8r
import Derived.Test.YtcngmkbgcfhmdaaGreatDoorJ7p
import Derived.Deep.DeepCutAuto
import Derived.Lib.QuietBelow
import Derived.Deep.QuietTactic
import Derived.BigQuiet
namespace Go.Proofs.YtcngmkbgcfhmdaaGreatDoor.evals
open Go.ChangeShapes Go.WideShapes Go.ChangeAt Go.RowKit
open Go.ChangeMaps (open_string shut_string)
set_option linter.unusedVariables false

theorem own : ownKnob Tryz.prog.godebug = none := by kernel_rfl
theorem laidOut : laidOutB Tryz.prog = true := by kernel_rfl

theorem sameState_same (fa : Option Addr) (fn fc : Nat) (fs : List Fr) (fu : Int) (oa : Option Addr) (on oc : Nat) (os : List Int) (dn vl : Int) (fa' : Option Addr) (fn' fc' : Nat) (oa' : Option Addr) (on' oc' : Nat) (w : World) (hf : Frs w fa fn fc fs) (ho : Ints w oa on oc os) (hf' : Frs w fa' fn' fc' fs) (ho' : Ints w oa' on' oc' os) :
    Calls Tryz.prog 10 #[.agg #[.slice fa fn fc, .int .i64 fu, .slice oa on oc, .int .i64 dn, .int .i64 vl], .agg #[.slice fa' fn' fc', .int .i64 fu, .slice oa' on' oc', .int .i64 dn, .int .i64 vl]] w fun e w' => e = .returned (.bool true) ∧ Below w.heap.size w w' :=
  (sameState_any fa fn fc fs fu oa on oc os dn vl fa' fn' fc' fs fu oa' on' oc' os dn vl w hf ho hf' ho').mono (by rintro e w' ⟨rfl, hb⟩; exact ⟨by rw [sameS_self], hb⟩)
set_option maxRecDepth 100000 in
set_option maxHeartbeats 20000000 in
theorem walk (a0 : Option Addr) (n0 c0 : Nat) (l0 : List Fn) (a1 : Option Addr) (n1 c1 : Nat) (l1 : List Int) (a2 : Int) (fa3 : Option Addr) (fn3 fc3 : Nat) (fs3 : List Fr) (fu3 : Int) (oa3 : Option Addr) (on3 oc3 : Nat) (os3 : List Int) (dn3 vl3 : Int) (w : World) (w0 : Fns w a0 n0 c0 l0) (w1 : Ints w a1 n1 c1 l1) (w2 : (Lit.int .i64 a2).wf = true) (wf3 : Frs w fa3 fn3 fc3 fs3) (wo3 : Ints w oa3 on3 oc3 os3) (ld : Ld w) :
    Calls Tryz.prog 5 #[.agg #[.slice a0 n0 c0], .slice a1 n1 c1, .int .i64 a2, .agg #[.slice fa3 fn3 fc3, .int .i64 fu3, .slice oa3 on3 oc3, .int .i64 dn3, .int .i64 vl3]] w fun e w' => e = .returned (.bool true) ∧ Below w.heap.size w w' := by
  have LD0 := hid ld
  clear ld
  have W0 := hid w0
  have WA := hid w1
  clear w1
  have WF := hid wf3
  have WO := hid wo3
  clear w0 wf3 wo3
  have hG : Below w.heap.size w ((w.alloc (.cells #[.slice a0 n0 c0] 24)).alloc (.cells #[.slice fa3 fn3 fc3, .int .i64 fu3, .slice oa3 on3 oc3, .int .i64 dn3, .int .i64 vl3] 28)) := by go_grown
  have U0 : Hid (∃ U : World, U = (w.alloc (.cells #[.slice a0 n0 c0] 24)).alloc (.cells #[.slice fa3 fn3 fc3, .int .i64 fu3, .slice oa3 on3 oc3, .int .i64 dn3, .int .i64 vl3] 28)) := hid ⟨_, rfl⟩
  obtain ⟨U, hU⟩ := U0.out
  have BU : Hid (Below w.heap.size w U) := hid (by rw [hU]; exact hG)
  have P0 : Hid (U.cell? ⟨w.heap.size, 0, none⟩ = some (.slice a0 n0 c0)) := hid (by rw [hU]; simp [go_sem])
  have X0 : Hid (SX U (w.heap.size + 1) (.slice fa3 fn3 fc3) fu3 (.slice oa3 on3 oc3) dn3 vl3) := hid (by rw [hU]; exact ⟨by simp [go_sem], by simp [go_sem], by simp [go_sem], by simp [go_sem], by simp [go_sem], by simp [go_sem], by simp [go_sem]⟩)
  have EU := hid hU
  clear hU U0 hG
  go_enter Tryz.func5, Tryz.ntmps5
  go_wp2_with fail
  refine wp_world (U := U) EU.out ?_
  have W0U := hid (W0.out.kept BU.out)
  have WFU := hid (WF.out.kept BU.out)
  have WOU := hid (WO.out.kept BU.out)
  have HL0 : Hid (l0.length * 40 ≤ 140737488351232) := hid (by rw [← W0.out.len]; exact W0.out.room)
  have HF1 : Hid (fs3.length * 64 ≤ 140737488351232) := hid (by rw [← WF.out.len]; exact WF.out.room)
  have HO1 : Hid (os3.length * 8 ≤ 140737488351232) := hid (by rw [← WO.out.len]; exact WO.out.room)
  have SA : Hid (∀ w', Below U.heap.size U w' → (w'.cell? ⟨w.heap.size, 0, none⟩ = some (.slice a0 n0 c0) ∧ w'.cell? ⟨w.heap.size + 1, 0, none⟩ = some (.slice fa3 fn3 fc3) ∧ w'.cell? ⟨w.heap.size + 1, 1, none⟩ = some (.int .i64 fu3) ∧ w'.cell? ⟨w.heap.size + 1, 2, none⟩ = some (.slice oa3 on3 oc3) ∧ w'.cell? ⟨w.heap.size + 1, 3, none⟩ = some (.int .i64 dn3) ∧ w'.cell? ⟨w.heap.size + 1, 4, none⟩ = some (.int .i64 vl3))) := hid (fun w' b => ⟨kept_cell b P0.out, kept_cell b X0.out.c0, kept_cell b X0.out.c1, kept_cell b X0.out.c2, kept_cell b X0.out.c3, kept_cell b X0.out.c4⟩)
  have BC : Below U.heap.size U U := Below.refl _ _
  go_cut [9, 10] (fun s t wx => PairR U l0 fs3 fu3 os3 dn3 vl3 s t wx)
  case first =>
    go_region_held3 (fun w' => w'.cell? ⟨w.heap.size, 0, none⟩ = some (.slice a0 n0 c0) ∧ w'.cell? ⟨w.heap.size + 1, 0, none⟩ = some (.slice fa3 fn3 fc3) ∧ w'.cell? ⟨w.heap.size + 1, 1, none⟩ = some (.int .i64 fu3) ∧ w'.cell? ⟨w.heap.size + 1, 2, none⟩ = some (.slice oa3 on3 oc3) ∧ w'.cell? ⟨w.heap.size + 1, 3, none⟩ = some (.int .i64 dn3) ∧ w'.cell? ⟨w.heap.size + 1, 4, none⟩ = some (.int .i64 vl3)) (first | (refine SA.out _ ?_; (repeat (first | with_reducible exact BC | with_reducible refine pDrew ?_ | with_reducible refine pAlloc ?_ | with_reducible refine pSet (by first | exact Nat.le_refl _ | omega) ?_))))
      (first
        | (go_at_call 6; refine (copyProgram_any _ _ _ l0 _ (W0U.out.kept ?h1)).mono ?_; (case h1 => (repeat (first | with_reducible exact BC | with_reducible refine pDrew ?_ | with_reducible refine pAlloc ?_ | with_reducible refine pSet (by first | exact Nat.le_refl _ | omega) ?_))); rintro e y1 ⟨vx, rfl, ox, b⟩; obtain ⟨ax, nx, cx, rfl, -⟩ := ox.reads HL0.out; (first | (with_reducible have hNN := pNew2 b; obtain ⟨hA1, hA2⟩ := hNN) | (with_reducible have hA1 := pNew1 b) | skip); (try (have ltA1 := heap_lt hA1)); (try (have ltA2 := heap_lt hA2)); replace BC : Below U.heap.size U y1 := kt (by repeat (first | with_reducible exact BC | with_reducible refine pDrew ?_ | with_reducible refine pAlloc ?_ | with_reducible refine pSet (by first | exact Nat.le_refl _ | omega) ?_)) b; have hU1 := BC.size; have OX := hid ox; clear b ox)
        | (go_at_call 7; refine (copyState_any _ _ _ fs3 _ _ _ _ os3 _ _ _ (WFU.out.kept ?h1) (WOU.out.kept ?h2)).mono ?_; (case h1 => (repeat (first | with_reducible exact BC | with_reducible refine pDrew ?_ | with_reducible refine pAlloc ?_ | with_reducible refine pSet (by first | exact Nat.le_refl _ | omega) ?_))); (case h2 => (repeat (first | with_reducible exact BC | with_reducible refine pDrew ?_ | with_reducible refine pAlloc ?_ | with_reducible refine pSet (by first | exact Nat.le_refl _ | omega) ?_))); rintro e y2 ⟨vf, oa', on', oc', rfl, of, oo, b⟩; obtain ⟨af, nf, cf, rfl, -⟩ := of.reads HF1.out; have hY : Below y1.heap.size y1 y2 := kt (by repeat (first | with_reducible exact Below.refl _ _ | with_reducible refine pAlloc ?_)) b; (try (replace hA1 := heap_kept hA1 hY)); (try (replace hA2 := heap_kept hA2 hY)); (first | (with_reducible have hNN := below_new2 b; obtain ⟨hB1, hB2⟩ := hNN) | (with_reducible have hB1 := below_new1 b) | skip); replace BC : Below U.heap.size U y2 := kt (by repeat (first | with_reducible exact BC | with_reducible refine pDrew ?_ | with_reducible refine pAlloc ?_ | with_reducible refine pSet (by first | exact Nat.le_refl _ | omega) ?_)) b; have hU2 := BC.size; have hU12 := hY.size; have OF := hid of; have OO := hid oo; have HY := hid hY; clear b of oo hY; (try (have lt_hA1 := heap_lt hA1)); (try (with_reducible have qhA10 := cell_of_heap (j := 0) hA1 rfl)); (try (obtain ⟨chA10, fhA10⟩ := qhA10)); (try (with_reducible have qhA11 := cell_of_heap (j := 1) hA1 rfl)); (try (obtain ⟨chA11, fhA11⟩ := qhA11)); (try (with_reducible have qhA12 := cell_of_heap (j := 2) hA1 rfl)); (try (obtain ⟨chA12, fhA12⟩ := qhA12)); (try (with_reducible have qhA13 := cell_of_heap (j := 3) hA1 rfl)); (try (obtain ⟨chA13, fhA13⟩ := qhA13)); (try (with_reducible have qhA14 := cell_of_heap (j := 4) hA1 rfl)); (try (obtain ⟨chA14, fhA14⟩ := qhA14)); (try (have lt_hA2 := heap_lt hA2)); (try (with_reducible have qhA20 := cell_of_heap (j := 0) hA2 rfl)); (try (obtain ⟨chA20, fhA20⟩ := qhA20)); (try (with_reducible have qhA21 := cell_of_heap (j := 1) hA2 rfl)); (try (obtain ⟨chA21, fhA21⟩ := qhA21)); (try (with_reducible have qhA22 := cell_of_heap (j := 2) hA2 rfl)); (try (obtain ⟨chA22, fhA22⟩ := qhA22)); (try (with_reducible have qhA23 := cell_of_heap (j := 3) hA2 rfl)); (try (obtain ⟨chA23, fhA23⟩ := qhA23)); (try (with_reducible have qhA24 := cell_of_heap (j := 4) hA2 rfl)); (try (obtain ⟨chA24, fhA24⟩ := qhA24)); (try (have lt_hB1 := heap_lt hB1)); (try (with_reducible have qhB10 := cell_of_heap (j := 0) hB1 rfl)); (try (obtain ⟨chB10, fhB10⟩ := qhB10)); (try (with_reducible have qhB11 := cell_of_heap (j := 1) hB1 rfl)); (try (obtain ⟨chB11, fhB11⟩ := qhB11)); (try (with_reducible have qhB12 := cell_of_heap (j := 2) hB1 rfl)); (try (obtain ⟨chB12, fhB12⟩ := qhB12)); (try (with_reducible have qhB13 := cell_of_heap (j := 3) hB1 rfl)); (try (obtain ⟨chB13, fhB13⟩ := qhB13)); (try (with_reducible have qhB14 := cell_of_heap (j := 4) hB1 rfl)); (try (obtain ⟨chB14, fhB14⟩ := qhB14)); (try (have lt_hB2 := heap_lt hB2)); (try (with_reducible have qhB20 := cell_of_heap (j := 0) hB2 rfl)); (try (obtain ⟨chB20, fhB20⟩ := qhB20)); (try (with_reducible have qhB21 := cell_of_heap (j := 1) hB2 rfl)); (try (obtain ⟨chB21, fhB21⟩ := qhB21)); (try (with_reducible have qhB22 := cell_of_heap (j := 2) hB2 rfl)); (try (obtain ⟨chB22, fhB22⟩ := qhB22)); (try (with_reducible have qhB23 := cell_of_heap (j := 3) hB2 rfl)); (try (obtain ⟨chB23, fhB23⟩ := qhB23)); (try (with_reducible have qhB24 := cell_of_heap (j := 4) hB2 rfl)); (try (obtain ⟨chB24, fhB24⟩ := qhB24))))
    all_goals
      go_wp2_with fail
      go_meet
      case rel =>
        refine pair_done OX.out HY.out HL0.out OF.out HF1.out OO.out HO1.out ?fr ?tX ?tY ?cX ?sY ?bel
        case fr => repeat (first | with_reducible exact Frm.refl _ _ | with_reducible refine fAlloc ?_ | with_reducible refine fDrew ?_ | with_reducible refine fSet (by first | exact .inl rfl | exact .inr rfl) ?_)
        case tX => (first | exact fun _ => ⟨_, _, hA1⟩ | exact fun _ => ⟨_, _, hA2⟩ | exact fun _ => ⟨_, _, hB1⟩ | exact fun _ => ⟨_, _, hB2⟩ | exact fun h => absurd h (by omega))
        case tY => (first | exact fun _ => ⟨_, _, hA1⟩ | exact fun _ => ⟨_, _, hA2⟩ | exact fun _ => ⟨_, _, hB1⟩ | exact fun _ => ⟨_, _, hB2⟩ | exact fun h => absurd h (by omega))
        case bel => (repeat (first | with_reducible exact BC | with_reducible refine pDrew ?_ | with_reducible refine pAlloc ?_ | with_reducible refine pSet (by first | exact Nat.le_refl _ | omega) ?_))
        case cX => first | (simp [go_sem]; done) | (simp [go_sem, *]; done)
        case sY => first | exact ⟨by simp [go_sem], by simp [go_sem], by simp [go_sem], by simp [go_sem], by simp [go_sem], by simp [go_sem], by simp [go_sem]⟩ | exact ⟨by simp [go_sem, *], by simp [go_sem, *], by simp [go_sem, *], by simp [go_sem, *], by simp [go_sem, *], by simp [go_sem, *], by simp [go_sem, *]⟩
  case rest =>
    obtain ⟨⟨bx, bz, ax, nx, cx, af, nf, cf, oa', on', oc', rfl, rfl, x0, sy, fx, ff, fo⟩, bel⟩ := hcut
    have BW := hid (kt BU.out bel)
    have PC := hid (kept_cell bel P0.out)
    have SC := hid (X0.out.kept bel)
    have XC := hid x0
    have YC := hid sy
    have FX := hid (And.intro fx (And.intro ff fo))
    have WPc := hid (W0.out.kept BW.out)
    have WFc := hid (WF.out.kept BW.out)
    have WOc := hid (WO.out.kept BW.out)
    have WAc := hid (WA.out.kept BW.out)
    have LDc := hid (LD0.out.up BW.out)
    obtain ⟨y0, y1, y2, y3, y4, _, _⟩ := sy
    clear fx ff fo bel SA BC W0U WFU WOU HL0 HF1 HO1 P0 X0 BU W0 WF WO WA LD0 EU
    go_wp2_with fail
    refine (evalEval_any _ _ _ l0 _ _ _ l1 a2 _ FX.out.1 WAc.out LDc.out).mono ?_
    obtain ⟨⟨Rd, Rv, Ro, Rf⟩, hR⟩ : ∃ R, evalR l0 l1 a2 = R := ⟨_, rfl⟩
    obtain ⟨RE, hE⟩ : ∃ R, evalE l0 l1 a2 = R := ⟨_, rfl⟩
    rw [hR, hE]
    simp only []
    have HR := hid (And.intro hR hE)
    clear hR hE x0 y0 y1 y2 y3 y4
    rintro e u1 ⟨ea, en, ec, rfl, oo, b1⟩
    obtain ⟨_, _, _, ev, ri⟩ := ints_of_owns oo.2 oo.1
    cases ev
    have hA1 : Below u1.heap.size u1 (u1.alloc (.cells #[.int .i64 Rd, .int .i64 Rv, .slice ea en ec, .int .i64 Rf] 55)) := Below.alloc (Below.refl _ _) (Nat.le_refl _) _
    have T1 := hid (heap_alloc_new u1 (.cells #[.int .i64 Rd, .int .i64 Rv, .slice ea en ec, .int .i64 Rf] 55))
    have D1 := hid (kt b1 hA1)
    have O1 := hid (oo.below hA1)
    have L1 := hid (fun b hb => (oo.2.lt b hb).2)
    have I1 := hid (ri.kept hA1)
    have hs1 := b1.size
    have p1 := kept_cell D1.out PC.out
    clear oo ri hA1 b1
    go_wp2_with fail
    refine (refEval_any _ _ _ l0 _ _ _ l1 a2 _ (WPc.out.kept D1.out) (WAc.out.kept D1.out)).mono ?_
    rw [HR.out.1, HR.out.2]
    simp only []
    rintro e u2 ⟨ka, kn, kc, rfl, oo, b2⟩
    obtain ⟨_, _, _, ev, ri⟩ := ints_of_owns oo.2 oo.1
    cases ev
    have hA2 : Below u2.heap.size u2 (u2.alloc (.cells #[.int .i64 Rd, .int .i64 Rv, .slice ka kn kc, .int .i64 Rf] 55)) := Below.alloc (Below.refl _ _) (Nat.le_refl _) _
    have T2 := hid (heap_alloc_new u2 (.cells #[.int .i64 Rd, .int .i64 Rv, .slice ka kn kc, .int .i64 Rf] 55))
    have D2 := hid (kt b2 hA2)
    have C2 := hid (kt D1.out D2.out)
    have I2 := hid (ri.kept hA2)
    have hs2 := b2.size
    have x2 := kept_cell C2.out XC.out
    obtain ⟨y0, y1, y2, y3, y4, _, _⟩ := YC.out.kept C2.out
    clear oo ri hA2 b2 p1
    go_wp2_with fail
    refine (evalGo_any _ _ _ l0 _ _ _ fs3 fu3 _ _ _ os3 dn3 vl3 _ (FX.out.1.kept C2.out) (FX.out.2.1.kept C2.out) (FX.out.2.2.kept C2.out) (LDc.out.up C2.out)).mono ?_
    obtain ⟨⟨Qd, Qv, Qo, Qf⟩, hR⟩ : ∃ R, goR l0 (fs3, fu3, os3, dn3, vl3) = R := ⟨_, rfl⟩
    obtain ⟨QE, hE⟩ : ∃ R, goE l0 (fs3, fu3, os3, dn3, vl3) = R := ⟨_, rfl⟩
    rw [hR, hE]
    simp only []
    have HQ := hid (And.intro hR hE)
    clear hR hE x2 y0 y1 y2 y3 y4
    rintro e u3 ⟨ga, gn, gc, rfl, oo, b3⟩
    obtain ⟨_, _, _, ev, ri⟩ := ints_of_owns oo.2 oo.1
    cases ev
    have hA3 : Below u3.heap.size u3 (u3.alloc (.cells #[.int .i64 Qd, .int .i64 Qv, .slice ga gn gc, .int .i64 Qf] 55)) := Below.alloc (Below.refl _ _) (Nat.le_refl _) _
    have T3 := hid (heap_alloc_new u3 (.cells #[.int .i64 Qd, .int .i64 Qv, .slice ga gn gc, .int .i64 Qf] 55))
    have D3 := hid (kt b3 hA3)
    have C3 := hid (kt C2.out D3.out)
    have O3 := hid (oo.below hA3)
    have L3 := hid (fun b hb => (oo.2.lt b hb).1)
    have I3 := hid (ri.kept hA3)
    have hs3 := b3.size
    have p3 := kept_cell C3.out PC.out
    obtain ⟨s0, s1, s2, s3, s4, _, _⟩ := SC.out.kept C3.out
    clear oo ri hA3 b3
    go_wp2_with fail
    refine (refGo_any _ _ _ l0 _ _ _ fs3 fu3 _ _ _ os3 dn3 vl3 _ (WPc.out.kept C3.out) (WFc.out.kept C3.out) (WOc.out.kept C3.out)).mono ?_
    rw [HQ.out.1, HQ.out.2]
    simp only []
    rintro e u4 ⟨ha, hn, hc, rfl, oo, b4⟩
    obtain ⟨_, _, _, ev, ri⟩ := ints_of_owns oo.2 oo.1
    cases ev
    have hA4 : Below u4.heap.size u4 (u4.alloc (.cells #[.int .i64 Qd, .int .i64 Qv, .slice ha hn hc, .int .i64 Qf] 55)) := Below.alloc (Below.refl _ _) (Nat.le_refl _) _
    have T4 := hid (heap_alloc_new u4 (.cells #[.int .i64 Qd, .int .i64 Qv, .slice ha hn hc, .int .i64 Qf] 55))
    have D4 := hid (kt b4 hA4)
    have C4 := hid (kt C3.out D4.out)
    have I4 := hid (ri.kept hA4)
    have hs4 := b4.size
    have K1 := hid (heap_kept T1.out (kt D2.out (kt D3.out D4.out)))
    have K2 := hid (heap_kept T2.out (kt D3.out D4.out))
    have K3 := hid (heap_kept T3.out D4.out)
    have a0 := (cell_of_heap (j := 0) (v := .int .i64 Rd) K1.out rfl).1
    have a1 := (cell_of_heap (j := 1) (v := .int .i64 Rv) K1.out rfl).1
    have a2' := (cell_of_heap (j := 2) (v := .slice ea en ec) K1.out rfl).1
    have a3 := (cell_of_heap (j := 3) (v := .int .i64 Rf) K1.out rfl).1
    have k0 := (cell_of_heap (j := 0) (v := .int .i64 Rd) K2.out rfl).1
    have k1 := (cell_of_heap (j := 1) (v := .int .i64 Rv) K2.out rfl).1
    have k2 := (cell_of_heap (j := 2) (v := .slice ka kn kc) K2.out rfl).1
    have k3 := (cell_of_heap (j := 3) (v := .int .i64 Rf) K2.out rfl).1
    clear oo ri hA4 b4 p3 s0 s1 s2 s3 s4
    go_wp2_with fail
    refine (sameResult_any Rd Rv _ _ _ Ro Rf Rd Rv _ _ _ Ro Rf _ (I1.out.kept (kt D2.out (kt D3.out D4.out))) (I2.out.kept (kt D3.out D4.out))).mono ?_
    rintro e u5 ⟨rfl, b5⟩
    rw [sameR_self]
    have D5 := hid (kt D4.out b5)
    have C5 := hid (kt C4.out b5)
    have J3 := hid (heap_kept K3.out b5)
    have J4 := hid (heap_kept T4.out b5)
    have I4' := hid (I4.out.kept b5)
    have J1 := hid (heap_kept K1.out b5)
    have g0 := (cell_of_heap (j := 0) (v := .int .i64 Qd) J3.out rfl).1
    have g1 := (cell_of_heap (j := 1) (v := .int .i64 Qv) J3.out rfl).1
    have g2 := (cell_of_heap (j := 2) (v := .slice ga gn gc) J3.out rfl).1
    have g3 := (cell_of_heap (j := 3) (v := .int .i64 Qf) J3.out rfl).1
    have h0 := (cell_of_heap (j := 0) (v := .int .i64 Qd) J4.out rfl).1
    have h1 := (cell_of_heap (j := 1) (v := .int .i64 Qv) J4.out rfl).1
    have h2 := (cell_of_heap (j := 2) (v := .slice ha hn hc) J4.out rfl).1
    have h3 := (cell_of_heap (j := 3) (v := .int .i64 Qf) J4.out rfl).1
    clear b5 a0 a1 a2' a3 k0 k1 k2 k3
    go_wp2_with fail
    refine (num_any _ _).mono ?_
    rintro e w' ⟨rfl, hw⟩
    rw [hw]
    clear hw
    go_wp2_with fail
    refine (sameResult_any Qd Qv _ _ _ Qo Qf Qd Qv _ _ _ Qo Qf _ (I3.out.kept D5.out) I4'.out).mono ?_
    rintro e u6 ⟨rfl, b6⟩
    rw [sameR_self]
    have D6 := hid (kt D5.out b6)
    have C6 := hid (kt C5.out b6)
    have E1 := hid (kt (kt (kt D2.out D3.out) D5.out) b6)
    have J16 := hid (heap_kept J1.out b6)
    have J36 := hid (heap_kept J3.out b6)
    have a2' := (cell_of_heap (j := 2) (v := .slice ea en ec) J16.out rfl).1
    clear b6 g0 g1 g2 g3 h0 h1 h2 h3
    go_wp2_with fail
    refine (num_any _ _).mono ?_
    rintro e w' ⟨rfl, hw⟩
    rw [hw]
    clear hw
    go_wp2_with fail
    have O16 := O1.out.below E1.out
    refine (spoilInts_any _ _ _ _ Ro _ O16.2 O16.1).mono ?_
    rintro e u7' ⟨rfl, f7⟩
    have O36 := O3.out.below D6.out
    have O37 := hid (O36.frm f7 (fun b hb e => by have h1 := L3.out b hb; have h2 := L1.out b e; have h3 := D2.out.size; simp at h1 h3; omega))
    have J37 := hid (f7.heap J36.out (fun e => own_ne O16.2 J36.out (by decide) e))
    have C7 := hid (C6.out.trans (f7.below C6.out.size (fun k hk e => by have h2 := (O16.2.lt k e).1; omega)))
    have g2 := (cell_of_heap (j := 2) (v := .slice ga gn gc) J37.out rfl).1
    clear f7 O16 O36 a2'
    go_wp2_with fail
    refine (spoilInts_any _ _ _ _ Qo _ O37.out.2 O37.out.1).mono ?_
    rintro e u8' ⟨rfl, f8⟩
    have C8 := hid (C7.out.trans (f8.below C7.out.size (fun k hk e => by have h2 := L3.out k e; have h3 := C2.out.size; simp at h2 h3; omega)))
    have p4 := kept_cell C8.out PC.out
    have x4 := kept_cell C8.out XC.out
    clear f8 g2
    go_wp2_with fail
    refine (sameProgram_any _ _ _ _ _ _ l0 l0 _ (FX.out.1.kept C8.out) (WPc.out.kept C8.out)).mono ?_
    rintro e u7 ⟨rfl, b7⟩
    rw [show decide (l0 = l0) = true by simp]
    have G7 := hid (kt C8.out b7)
    obtain ⟨s0, s1, s2, s3, s4, _, _⟩ := SC.out.kept G7.out
    obtain ⟨t0, t1, t2, t3, t4, _, _⟩ := YC.out.kept G7.out
    clear b7 p4 x4
    go_wp2_with fail
    refine (sameState_same _ _ _ fs3 fu3 _ _ _ os3 dn3 vl3 _ _ _ _ _ _ _ (FX.out.2.1.kept G7.out) (FX.out.2.2.kept G7.out) (WFc.out.kept G7.out) (WOc.out.kept G7.out)).mono ?_
    rintro e u8 ⟨rfl, b8⟩
    have G8 := hid (kt G7.out b8)
    clear b8 s0 s1 s2 s3 s4 t0 t1 t2 t3 t4
    go_wp2_with fail
    refine (awake8_any _ (LDc.out.up G8.out)).mono ?_
    rintro e u10 ⟨rfl, b10⟩
    have G10 := hid (kt G8.out b10)
    clear b10
    go_wp2_with fail
    go_ret
    exact ⟨rfl, kt BW.out G10.out⟩

set_option maxRecDepth 100000 in
theorem lifted (os : Os) (started : os.Started) (H : Type) (enc : TypeId × Value → H) :
    ReturnsInHanded {} Tryz.checked os 5 .any (fun w args => (Rows.evalsSpec.pre enc Tryz.prog Tryz.f5 [] false w args ∧ laidMetH Tryz.prog [("math/bits.deBruijn32tab", Rows.laid_math_bits_deBruijn32tab), ("math/bits.deBruijn64tab", Rows.laid_math_bits_deBruijn64tab), ("internal/strconv.uint64pow10", Rows.laid_internal_strconv_uint64pow10), ("errors.errorType", Rows.laid_errors_errorType), ("swage/pack.errForm", Rows.laid_swage_pack_errForm), ("swage/pack.errEnd", Rows.laid_swage_pack_errEnd)] w) ∧ sizedMet enc Tryz.prog Tryz.f5 (OpenSpec.ofChange Rows.evalsSpec) false w args) (Rows.evalsSpec.post enc Tryz.prog Tryz.f5 false true false false) := by
  refine returnsInHanded_of_change_and (C := Tryz.checked) (X := fun w _ => laidMetH Tryz.prog [("math/bits.deBruijn32tab", Rows.laid_math_bits_deBruijn32tab), ("math/bits.deBruijn64tab", Rows.laid_math_bits_deBruijn64tab), ("internal/strconv.uint64pow10", Rows.laid_internal_strconv_uint64pow10), ("errors.errorType", Rows.laid_errors_errorType), ("swage/pack.errForm", Rows.laid_swage_pack_errForm), ("swage/pack.errEnd", Rows.laid_swage_pack_errEnd)] w) (fun _ _ _ hh h => h.of_heap hh) own started (by kernel_rfl) Tryz.func5
    (ChangeSpec.witness_shaped (enc := enc) (C := Tryz.checked) (os := os) (X := fun w _ => laidMetH Tryz.prog [("math/bits.deBruijn32tab", Rows.laid_math_bits_deBruijn32tab), ("math/bits.deBruijn64tab", Rows.laid_math_bits_deBruijn64tab), ("internal/strconv.uint64pow10", Rows.laid_internal_strconv_uint64pow10), ("errors.errorType", Rows.laid_errors_errorType), ("swage/pack.errForm", Rows.laid_swage_pack_errForm), ("swage/pack.errEnd", Rows.laid_swage_pack_errEnd)] w) false (World.doorLaid Tryz.prog 400 os) #[.agg #[.slice none 0 0], .slice none 0 0, .int .i64 0, .agg #[.slice none 0 0, .int .i64 0, .slice none 0 0, .int .i64 0, .int .i64 0]] 8 rfl (World.shaped_of_RefB (by kernel_rfl) (by kernel_rfl)) (by kernel_rfl) (by kernel_rfl) (by kernel_rfl) (door_met os _)) ?_
  intro W base args ds gs before hval0 hW hcnd hsz0 hL _
  have hval : ∀ (j : Nat) t v, Tryz.f5.params[j]? = some t → args[j]? = some v → Value.okWide Tryz.prog W .any base t v := hval0
  have hW' := hW
  obtain ⟨p, q, hA0, hV, rfl, hfz, hnd⟩ := hW
  have hA : DataW.TrodAll enc Tryz.prog W 0 (fun _ => true) true Tryz.f5.params.toList args.toList ds p := hA0
  have hsz : (DataW.weightsEach Tryz.prog (Tryz.f5.params.toList ++ Rows.evalsSpec.plain.varTypes Tryz.prog) (ds ++ gs)).all (· ≤ reachBytes) = true := hsz0
  rw [Tryz.params5] at hA hval hsz
  obtain ⟨v0, vs0, d0, ds0, p0, q0, hargs, rfl, rfl, h0, r0⟩ := trodAll_cons hA
  obtain ⟨v1, vs1, d1, ds1, p1, q1, rfl, rfl, rfl, h1, r1⟩ := trodAll_cons r0
  obtain ⟨v2, vs2, d2, ds2, p2, q2, rfl, rfl, rfl, h2, r2⟩ := trodAll_cons r1
  obtain ⟨v3, vs3, d3, ds3, p3, q3, rfl, rfl, rfl, h3, r3⟩ := trodAll_cons r2
  obtain ⟨rfl, rfl, rfl⟩ := trodAll_nil r3
  obtain rfl : args = #[v0, v1, v2, v3] := by cases args; simp_all
  obtain ⟨rfl, rfl⟩ := trodVars_none hV
  have k0 := h0
  have lt0 : ∀ x ∈ p0, x.block < W.heap.size := by obtain ⟨m, hm⟩ := k0; exact DataW.trod_lt m _ _ _ hm
  have k1 := h1
  have lt1 : ∀ x ∈ p1, x.block < W.heap.size := by obtain ⟨m, hm⟩ := k1; exact DataW.trod_lt m _ _ _ hm
  have k2 := h2
  have lt2 : ∀ x ∈ p2, x.block < W.heap.size := by obtain ⟨m, hm⟩ := k2; exact DataW.trod_lt m _ _ _ hm
  have k3 := h3
  have lt3 : ∀ x ∈ p3, x.block < W.heap.size := by obtain ⟨m, hm⟩ := k3; exact DataW.trod_lt m _ _ _ hm
  obtain ⟨a0, n0, c0, l0, rfl, w0⟩ := open_program (hval 0 24 v0 rfl rfl) h0 (fun k hk => by simpa using List.all_eq_true.1 hsz k (DataW.weights_mem_each (j := 0) rfl rfl k hk))
  obtain ⟨a1, n1, c1, l1, rfl, w1⟩ := open_intsP (hval 1 26 v1 rfl rfl) h1 (fun k hk => by simpa using List.all_eq_true.1 hsz k (DataW.weights_mem_each (j := 1) rfl rfl k hk))
  obtain ⟨a2, rfl, rfl, rfl, w2⟩ := open_int Tryz.underlying3 (hval 2 3 v2 rfl rfl) h2
  obtain ⟨fa3, fn3, fc3, fs3, fu3, oa3, on3, oc3, os3, dn3, vl3, rfl, wf3, wo3, _, _, _⟩ := open_state (hval 3 28 v3 rfl rfl) h3 (fun k hk => by simpa using List.all_eq_true.1 hsz k (DataW.weights_mem_each (j := 3) rfl rfl k hk))
  clear hA0 hval0
  refine (walk a0 n0 c0 l0 a1 n1 c1 l1 a2 fa3 fn3 fc3 fs3 fu3 oa3 on3 oc3 os3 dn3 vl3 W w0 w1 w2 wf3 wo3 (ld_of hL)).mono fun e W' ⟨he, bel⟩ => ?_
  subst he
  exact ⟨_, rfl, _, _, _, [], _, [], hW', trodAll_mk1 (shut_bool Tryz.underlying4 _), (trodAll_cons_mk (Below.trod laidOut (by kernel_rfl) (of_decide_eq_true (by kernel_rfl)) k0 bel lt0) (trodAll_cons_mk (Below.trod laidOut (by kernel_rfl) (of_decide_eq_true (by kernel_rfl)) k1 bel lt1) (trodAll_cons_mk (Below.trod laidOut (by kernel_rfl) (of_decide_eq_true (by kernel_rfl)) k2 bel lt2) (trodAll_cons_mk (Below.trod laidOut (by kernel_rfl) (of_decide_eq_true (by kernel_rfl)) k3 bel lt3) trodAll_mk0)))), rfl, bel.frame _, fun h => by cases h⟩

theorem over : Rows.evalsRow.holds Tryz.pinned (OpenSpec.ofChange Rows.evalsSpec) :=
  OpenClaim.holds_of_wide 5 Tryz.f5 rfl rfl rfl rfl rfl rfl rfl ⟨rfl, rfl, rfl, rfl, rfl⟩ rfl rfl rfl rfl rfl (by kernel_rfl) Tryz.func5 (by kernel_rfl)
    (of_decide_eq_true (by kernel_rfl)) (by unfold Func.isWrapper; first | (rw [if_pos (by decide +kernel)]; kernel_rfl) | (rw [if_neg (by decide +kernel)]; exact ⟨rfl, rfl⟩))
    (fun os started H enc _ => lifted os started H enc)
end Go.Proofs.YtcngmkbgcfhmdaaGreatDoor.evals
namespace Go.Proofs.YtcngmkbgcfhmdaaGreatDoor
open Go
theorem evals_holds : Rows.EvalsCardSaid :=
  Claim7.holds_tied_plain_at .later [] [.data, .data, .data, .handle, .sentinel, .sentinel] true (true, "8ce2f962c952337db57778753e74d555c467eb37702223c817e647a3aea5e81b") true
    evals.over (fun _ h => by cases h) (by kernel_rfl) (fun _ h => by cases h) evals_row_tie rfl ⟨rfl, rfl⟩ (by kernel_rfl) rfl
    (fun f fn hf hfn => by
      obtain rfl : f = 5 := Option.some.inj ((show Tryz.prog.funcNamed "swage/swagelaw8.Evals" = some 5 by kernel_rfl).symm.trans hf) |>.symm
      obtain rfl : fn = Tryz.f5 := (Option.some.inj (Tryz.func5.symm.trans hfn)).symm
      exact ⟨by kernel_rfl, fun j t ht => by
        rw [Tryz.params5] at ht
        have hm : t ∈ [24, 26, 3, 28] := by simpa using Array.mem_of_getElem? ht
        have hall : ([24, 26, 3, 28].all fun u => !Tryz.prog.wantsStandIn u) = true := by kernel_rfl
        exact (show Tryz.prog.wantsStandIn t = false by simpa using List.all_eq_true.1 hall t hm)⟩)
    (by kernel_rfl)
#print axioms evals_holds
end Go.Proofs.YtcngmkbgcfhmdaaGreatDoor
