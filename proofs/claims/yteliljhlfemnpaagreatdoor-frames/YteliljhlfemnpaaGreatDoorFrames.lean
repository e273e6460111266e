/- For any program, any frame, any state, any list of integers and any integer the law Frames returns true: frame.Start, frame.May and frame.State answer as the document's own reckoning does, what is handed in stays as it was with the room behind it, and what is answered shares no memory with it; no conditions. -/
import Derived.Test.YteliljhlfemnpaaGreatDoorRows
import Derived.WalkKit
import Derived.ProofKit
import Derived.OpenShut
import Derived.ShutString
import Derived.ChangeOld
import Derived.Below
import Derived.Carry
import Derived.Lib.SmallJoins
import Derived.Handy
import Derived.WalkSmall
import Derived.SizedLaws
import Derived.Test.YteliljhlfemnpaaGreatDoorOpen
import Derived.Test.YteliljhlfemnpaaGreatDoorOpenFr
import Derived.Test.YteliljhlfemnpaaGreatDoorOpenInts
import Derived.Test.YteliljhlfemnpaaGreatDoorLaidOpenV
import Derived.Test.YteliljhlfemnpaaGreatDoorCards
import Derived.Test.YteliljhlfemnpaaGreatDoorTie
import Derived.SevenTiedAt
import Derived.LaidMore
import Derived.Stop.Joined
import Derived.Test.YteliljhlfemnpaaGreatDoorJ6b
import Derived.Test.YteliljhlfemnpaaGreatDoorJ7p
import Derived.Deep.DeepCutAuto
import Derived.Lib.QuietBelow
import Derived.Deep.QuietTactic
import Derived.BigQuiet
namespace Go.Proofs.YteliljhlfemnpaaGreatDoor.frames
open Go.ChangeShapes Go.WideShapes Go.ChangeAt Go.RowKit
open Go.ChangeMaps (open_string shut_string)
set_option linter.unusedVariables false

theorem own : ownKnob Tryz.prog.godebug = none := by kernel_rfl
theorem laidOut : laidOutB Tryz.prog = true := by kernel_rfl

theorem num_below (x : Int) (w : World) : Calls Tryz.prog 13 #[.int .i64 x] w fun e w' => e = .returned (.int .i64 x) ∧ Below w.heap.size w w' :=
  (num_any _ _).mono (fun _ _ h => ⟨h.1, h.2 ▸ Below.refl _ _⟩)
theorem sameState_same (fa : Option Addr) (fn fc : Nat) (fs : List Fr) (fu : Int) (oa : Option Addr) (on oc : Nat) (os : List Int) (dn vl : Int) (fa' : Option Addr) (fn' fc' : Nat) (oa' : Option Addr) (on' oc' : Nat) (w : World) (hf : Frs w fa fn fc fs) (ho : Ints w oa on oc os) (hf' : Frs w fa' fn' fc' fs) (ho' : Ints w oa' on' oc' os) :
    Calls Tryz.prog 12 #[.agg #[.slice fa fn fc, .int .i64 fu, .slice oa on oc, .int .i64 dn, .int .i64 vl], .agg #[.slice fa' fn' fc', .int .i64 fu, .slice oa' on' oc', .int .i64 dn, .int .i64 vl]] w fun e w' => e = .returned (.bool true) ∧ Below w.heap.size w w' :=
  (sameState_any fa fn fc fs fu oa on oc os dn vl fa' fn' fc' fs fu oa' on' oc' os dn vl w hf ho hf' ho').mono (by rintro e w' ⟨rfl, hb⟩; exact ⟨by rw [sameS_self], hb⟩)
set_option maxRecDepth 100000 in
set_option maxHeartbeats 20000000 in
theorem walk (a0 : Option Addr) (n0 c0 : Nat) (l0 : List Fn) (a1_0 a1_1 : Int) (la1 : Option Addr) (ln1 lc1 : Nat) (ll1 : List Int) (sa1 : Option Addr) (sn1 sc1 : Nat) (sl1 : List Int) (fa2 : Option Addr) (fn2 fc2 : Nat) (fs2 : List Fr) (fu2 : Int) (oa2 : Option Addr) (on2 oc2 : Nat) (os2 : List Int) (dn2 vl2 : Int) (a3 : Option Addr) (n3 c3 : Nat) (l3 : List Int) (a4 : Int) (w : World) (w0 : Fns w a0 n0 c0 l0) (wl1 : Ints w la1 ln1 lc1 ll1) (ws1 : Ints w sa1 sn1 sc1 sl1) (wf2 : Frs w fa2 fn2 fc2 fs2) (wo2 : Ints w oa2 on2 oc2 os2) (w3 : Ints w a3 n3 c3 l3) (w4 : (Lit.int .i64 a4).wf = true) (ld : Ld w) :
    Calls Tryz.prog 7 #[.agg #[.slice a0 n0 c0], .agg #[.int .i64 a1_0, .int .i64 a1_1, .slice la1 ln1 lc1, .slice sa1 sn1 sc1], .agg #[.slice fa2 fn2 fc2, .int .i64 fu2, .slice oa2 on2 oc2, .int .i64 dn2, .int .i64 vl2], .slice a3 n3 c3, .int .i64 a4] w fun e w' => e = .returned (.bool true) ∧ Below w.heap.size w w' := by
  have LD0 := hid ld
  clear ld
  have W0 := hid w0
  have WL := hid wl1
  have WS := hid ws1
  have WF := hid wf2
  have WO := hid wo2
  have W3 := hid w3
  clear w0 wl1 ws1 wf2 wo2 w3
  have hG : Below w.heap.size w (((w.alloc (.cells #[.slice a0 n0 c0] 24)).alloc (.cells #[.int .i64 a1_0, .int .i64 a1_1, .slice la1 ln1 lc1, .slice sa1 sn1 sc1] 52)).alloc (.cells #[.slice fa2 fn2 fc2, .int .i64 fu2, .slice oa2 on2 oc2, .int .i64 dn2, .int .i64 vl2] 28)) := by go_grown
  have U0 : Hid (∃ U : World, U = ((w.alloc (.cells #[.slice a0 n0 c0] 24)).alloc (.cells #[.int .i64 a1_0, .int .i64 a1_1, .slice la1 ln1 lc1, .slice sa1 sn1 sc1] 52)).alloc (.cells #[.slice fa2 fn2 fc2, .int .i64 fu2, .slice oa2 on2 oc2, .int .i64 dn2, .int .i64 vl2] 28)) := hid ⟨_, rfl⟩
  obtain ⟨U, hU⟩ := U0.out
  have BU : Hid (Below w.heap.size w U) := hid (by rw [hU]; exact hG)
  have p0 : U.cell? ⟨w.heap.size, 0, none⟩ = some (.slice a0 n0 c0) := by rw [hU]; simp [go_sem]
  have f0 : U.cell? ⟨w.heap.size + 1, 0, none⟩ = some (.int .i64 a1_0) := by rw [hU]; simp [go_sem]
  have f1 : U.cell? ⟨w.heap.size + 1, 1, none⟩ = some (.int .i64 a1_1) := by rw [hU]; simp [go_sem]
  have f2 : U.cell? ⟨w.heap.size + 1, 2, none⟩ = some (.slice la1 ln1 lc1) := by rw [hU]; simp [go_sem]
  have f3 : U.cell? ⟨w.heap.size + 1, 3, none⟩ = some (.slice sa1 sn1 sc1) := by rw [hU]; simp [go_sem]
  have X0 : Hid (SX U (w.heap.size + 1 + 1) (.slice fa2 fn2 fc2) fu2 (.slice oa2 on2 oc2) dn2 vl2) := hid (by rw [hU]; exact ⟨by simp [go_sem], by simp [go_sem], by simp [go_sem], by simp [go_sem], by simp [go_sem], by simp [go_sem], by simp [go_sem]⟩)
  have P0 := hid (And.intro p0 (And.intro f0 (And.intro f1 (And.intro f2 f3))))
  have EU := hid hU
  clear hU U0 hG p0 f0 f1 f2 f3
  go_enter Tryz.func7, Tryz.ntmps7
  go_wp2_with fail
  refine wp_world (U := U) EU.out ?_
  have W0U := hid (W0.out.kept BU.out)
  have WFU := hid (WF.out.kept BU.out)
  have WOU := hid (WO.out.kept BU.out)
  have HL0 : Hid (l0.length * 40 ≤ 140737488351232) := hid (by rw [← W0.out.len]; exact W0.out.room)
  have HF2 : Hid (fs2.length * 64 ≤ 140737488351232) := hid (by rw [← WF.out.len]; exact WF.out.room)
  have HO2 : Hid (os2.length * 8 ≤ 140737488351232) := hid (by rw [← WO.out.len]; exact WO.out.room)
  have SA : Hid (∀ w', Below U.heap.size U w' → (w'.cell? ⟨w.heap.size, 0, none⟩ = some (.slice a0 n0 c0) ∧ w'.cell? ⟨w.heap.size + 1 + 1, 0, none⟩ = some (.slice fa2 fn2 fc2) ∧ w'.cell? ⟨w.heap.size + 1 + 1, 1, none⟩ = some (.int .i64 fu2) ∧ w'.cell? ⟨w.heap.size + 1 + 1, 2, none⟩ = some (.slice oa2 on2 oc2) ∧ w'.cell? ⟨w.heap.size + 1 + 1, 3, none⟩ = some (.int .i64 dn2) ∧ w'.cell? ⟨w.heap.size + 1 + 1, 4, none⟩ = some (.int .i64 vl2))) := hid (fun w' b => ⟨kept_cell b P0.out.1, kept_cell b X0.out.c0, kept_cell b X0.out.c1, kept_cell b X0.out.c2, kept_cell b X0.out.c3, kept_cell b X0.out.c4⟩)
  have BC : Below U.heap.size U U := Below.refl _ _
  go_cut [11, 12] (fun s t wx => PairR U l0 fs2 fu2 os2 dn2 vl2 s t wx)
  case first =>
    go_region_held3 (fun w' => w'.cell? ⟨w.heap.size, 0, none⟩ = some (.slice a0 n0 c0) ∧ w'.cell? ⟨w.heap.size + 1 + 1, 0, none⟩ = some (.slice fa2 fn2 fc2) ∧ w'.cell? ⟨w.heap.size + 1 + 1, 1, none⟩ = some (.int .i64 fu2) ∧ w'.cell? ⟨w.heap.size + 1 + 1, 2, none⟩ = some (.slice oa2 on2 oc2) ∧ w'.cell? ⟨w.heap.size + 1 + 1, 3, none⟩ = some (.int .i64 dn2) ∧ w'.cell? ⟨w.heap.size + 1 + 1, 4, none⟩ = some (.int .i64 vl2)) (first | (refine SA.out _ ?_; (repeat (first | with_reducible exact BC | with_reducible refine pDrew ?_ | with_reducible refine pAlloc ?_ | with_reducible refine pSet (by first | exact Nat.le_refl _ | omega) ?_))))
      (first
        | (go_at_call 8; refine (copyProgram_any _ _ _ l0 _ (W0U.out.kept ?h1)).mono ?_; (case h1 => (repeat (first | with_reducible exact BC | with_reducible refine pDrew ?_ | with_reducible refine pAlloc ?_ | with_reducible refine pSet (by first | exact Nat.le_refl _ | omega) ?_))); rintro e y1 ⟨vx, rfl, ox, b⟩; obtain ⟨ax, nx, cx, rfl, -⟩ := ox.reads HL0.out; (first | (with_reducible have hNN := pNew2 b; obtain ⟨hA1, hA2⟩ := hNN) | (with_reducible have hA1 := pNew1 b) | skip); (try (have ltA1 := heap_lt hA1)); (try (have ltA2 := heap_lt hA2)); replace BC : Below U.heap.size U y1 := kt (by repeat (first | with_reducible exact BC | with_reducible refine pDrew ?_ | with_reducible refine pAlloc ?_ | with_reducible refine pSet (by first | exact Nat.le_refl _ | omega) ?_)) b; have hU1 := BC.size; have OX := hid ox; clear b ox)
        | (go_at_call 9; refine (copyState_any _ _ _ fs2 _ _ _ _ os2 _ _ _ (WFU.out.kept ?h1) (WOU.out.kept ?h2)).mono ?_; (case h1 => (repeat (first | with_reducible exact BC | with_reducible refine pDrew ?_ | with_reducible refine pAlloc ?_ | with_reducible refine pSet (by first | exact Nat.le_refl _ | omega) ?_))); (case h2 => (repeat (first | with_reducible exact BC | with_reducible refine pDrew ?_ | with_reducible refine pAlloc ?_ | with_reducible refine pSet (by first | exact Nat.le_refl _ | omega) ?_))); rintro e y2 ⟨vf, oa', on', oc', rfl, of, oo, b⟩; obtain ⟨af, nf, cf, rfl, -⟩ := of.reads HF2.out; have hY : Below y1.heap.size y1 y2 := kt (by repeat (first | with_reducible exact Below.refl _ _ | with_reducible refine pAlloc ?_)) b; (try (replace hA1 := heap_kept hA1 hY)); (try (replace hA2 := heap_kept hA2 hY)); (first | (with_reducible have hNN := below_new2 b; obtain ⟨hB1, hB2⟩ := hNN) | (with_reducible have hB1 := below_new1 b) | skip); replace BC : Below U.heap.size U y2 := kt (by repeat (first | with_reducible exact BC | with_reducible refine pDrew ?_ | with_reducible refine pAlloc ?_ | with_reducible refine pSet (by first | exact Nat.le_refl _ | omega) ?_)) b; have hU2 := BC.size; have hU12 := hY.size; have OF := hid of; have OO := hid oo; have HY := hid hY; clear b of oo hY; (try (have lt_hA1 := heap_lt hA1)); (try (with_reducible have qhA10 := cell_of_heap (j := 0) hA1 rfl)); (try (obtain ⟨chA10, fhA10⟩ := qhA10)); (try (with_reducible have qhA11 := cell_of_heap (j := 1) hA1 rfl)); (try (obtain ⟨chA11, fhA11⟩ := qhA11)); (try (with_reducible have qhA12 := cell_of_heap (j := 2) hA1 rfl)); (try (obtain ⟨chA12, fhA12⟩ := qhA12)); (try (with_reducible have qhA13 := cell_of_heap (j := 3) hA1 rfl)); (try (obtain ⟨chA13, fhA13⟩ := qhA13)); (try (with_reducible have qhA14 := cell_of_heap (j := 4) hA1 rfl)); (try (obtain ⟨chA14, fhA14⟩ := qhA14)); (try (have lt_hA2 := heap_lt hA2)); (try (with_reducible have qhA20 := cell_of_heap (j := 0) hA2 rfl)); (try (obtain ⟨chA20, fhA20⟩ := qhA20)); (try (with_reducible have qhA21 := cell_of_heap (j := 1) hA2 rfl)); (try (obtain ⟨chA21, fhA21⟩ := qhA21)); (try (with_reducible have qhA22 := cell_of_heap (j := 2) hA2 rfl)); (try (obtain ⟨chA22, fhA22⟩ := qhA22)); (try (with_reducible have qhA23 := cell_of_heap (j := 3) hA2 rfl)); (try (obtain ⟨chA23, fhA23⟩ := qhA23)); (try (with_reducible have qhA24 := cell_of_heap (j := 4) hA2 rfl)); (try (obtain ⟨chA24, fhA24⟩ := qhA24)); (try (have lt_hB1 := heap_lt hB1)); (try (with_reducible have qhB10 := cell_of_heap (j := 0) hB1 rfl)); (try (obtain ⟨chB10, fhB10⟩ := qhB10)); (try (with_reducible have qhB11 := cell_of_heap (j := 1) hB1 rfl)); (try (obtain ⟨chB11, fhB11⟩ := qhB11)); (try (with_reducible have qhB12 := cell_of_heap (j := 2) hB1 rfl)); (try (obtain ⟨chB12, fhB12⟩ := qhB12)); (try (with_reducible have qhB13 := cell_of_heap (j := 3) hB1 rfl)); (try (obtain ⟨chB13, fhB13⟩ := qhB13)); (try (with_reducible have qhB14 := cell_of_heap (j := 4) hB1 rfl)); (try (obtain ⟨chB14, fhB14⟩ := qhB14)); (try (have lt_hB2 := heap_lt hB2)); (try (with_reducible have qhB20 := cell_of_heap (j := 0) hB2 rfl)); (try (obtain ⟨chB20, fhB20⟩ := qhB20)); (try (with_reducible have qhB21 := cell_of_heap (j := 1) hB2 rfl)); (try (obtain ⟨chB21, fhB21⟩ := qhB21)); (try (with_reducible have qhB22 := cell_of_heap (j := 2) hB2 rfl)); (try (obtain ⟨chB22, fhB22⟩ := qhB22)); (try (with_reducible have qhB23 := cell_of_heap (j := 3) hB2 rfl)); (try (obtain ⟨chB23, fhB23⟩ := qhB23)); (try (with_reducible have qhB24 := cell_of_heap (j := 4) hB2 rfl)); (try (obtain ⟨chB24, fhB24⟩ := qhB24))))
    all_goals
      go_wp2_with fail
      go_meet
      case rel =>
        refine pair_done OX.out HY.out HL0.out OF.out HF2.out OO.out HO2.out ?fr ?tX ?tY ?cX ?sY ?bel
        case fr => repeat (first | with_reducible exact Frm.refl _ _ | with_reducible refine fAlloc ?_ | with_reducible refine fDrew ?_ | with_reducible refine fSet (by first | exact .inl rfl | exact .inr rfl) ?_)
        case tX => (first | exact fun _ => ⟨_, _, hA1⟩ | exact fun _ => ⟨_, _, hA2⟩ | exact fun _ => ⟨_, _, hB1⟩ | exact fun _ => ⟨_, _, hB2⟩ | exact fun h => absurd h (by omega))
        case tY => (first | exact fun _ => ⟨_, _, hA1⟩ | exact fun _ => ⟨_, _, hA2⟩ | exact fun _ => ⟨_, _, hB1⟩ | exact fun _ => ⟨_, _, hB2⟩ | exact fun h => absurd h (by omega))
        case bel => (repeat (first | with_reducible exact BC | with_reducible refine pDrew ?_ | with_reducible refine pAlloc ?_ | with_reducible refine pSet (by first | exact Nat.le_refl _ | omega) ?_))
        case cX => first | (simp [go_sem]; done) | (simp [go_sem, *]; done)
        case sY => first | exact ⟨by simp [go_sem], by simp [go_sem], by simp [go_sem], by simp [go_sem], by simp [go_sem], by simp [go_sem], by simp [go_sem]⟩ | exact ⟨by simp [go_sem, *], by simp [go_sem, *], by simp [go_sem, *], by simp [go_sem, *], by simp [go_sem, *], by simp [go_sem, *], by simp [go_sem, *]⟩
  case rest =>
    obtain ⟨⟨bx, bz, ax, nx, cx, af, nf, cf, oa', on', oc', rfl, rfl, x0, sy, fx, ff, fo⟩, bel⟩ := hcut
    have BW := hid (kt BU.out bel)
    have X0C := hid (And.intro x0 sy)
    have PC := hid (And.intro (kept_cell bel P0.out.1) (And.intro (kept_cell bel P0.out.2.1) (And.intro (kept_cell bel P0.out.2.2.1) (And.intro (kept_cell bel P0.out.2.2.2.1) (kept_cell bel P0.out.2.2.2.2)))))
    have SC := hid (X0.out.kept bel)
    have FX := hid (And.intro fx (And.intro ff fo))
    have WPc := hid (W0.out.kept BW.out)
    have WLc := hid (WL.out.kept BW.out)
    have WSc := hid (WS.out.kept BW.out)
    have WFc := hid (WF.out.kept BW.out)
    have WOc := hid (WO.out.kept BW.out)
    have W3c := hid (W3.out.kept BW.out)
    have LDc := hid (LD0.out.up BW.out)
    clear x0 sy fx ff fo bel SA BC W0U WFU WOU HL0 HF2 HO2 P0 X0 BU W0 WL WS WF WO W3 LD0
    go_wp2_with fail
    refine (lendInts_any _ _ _ l3 _ W3c.out).mono ?_
    rintro e u1 ⟨g, cap, rfl, le, b1⟩
    have B1 := hid b1
    have LE := hid le
    have x1 := kept_cell b1 X0C.out.1
    have hlc := le.cap2
    clear le b1
    go_wp2_with fail
    refine (frameStart_any _ _ _ l0 _ _ _ l3 a4 _ (FX.out.1.kept B1.out) LE.out.ints (LDc.out.up B1.out)).mono ?_
    rintro e u2 ⟨v3, rfl, o3, b2⟩
    have hSl : (startV l0 l3 a4).1.length ≤ 1 := by unfold startV; split <;> simp [noSt]
    obtain ⟨a3', n3', c3', rfl, r3⟩ := o3.reads (by omega)
    generalize hS : startV l0 l3 a4 = SS at o3 r3 hSl ⊢
    generalize hE : startE l0 l3 a4 = EE
    have HSE := hid (And.intro hS hE)
    have hA2 : Below u2.heap.size u2 (u2.alloc (.cells #[.slice a3' n3' c3', .int .i64 SS.2.1, .slice none 0 0, .int .i64 0, .int .i64 0] 28)) := Below.alloc (Below.refl _ _) (Nat.le_refl _) _
    have D2 := hid (kt b2 hA2)
    have C2 := hid (kt B1.out D2.out)
    have O2 := hid (o3.kept hA2)
    have R2 := hid (r3.kept hA2)
    have Y2 : Hid (SX (u2.alloc (.cells #[.slice a3' n3' c3', .int .i64 SS.2.1, .slice none 0 0, .int .i64 0, .int .i64 0] 28)) u2.heap.size (.slice a3' n3' c3') SS.2.1 (.slice none 0 0) 0 0) := hid ⟨by simp [go_sem], by simp [go_sem], by simp [go_sem], by simp [go_sem], by simp [go_sem], by simp [go_sem], by simp [go_sem]⟩
    have p2 := kept_cell C2.out PC.out.1
    clear b2 hA2 o3 r3 x1 hS hE
    go_wp2_with fail
    refine (refStart_any _ _ _ l0 _ _ _ l3 a4 _ (WPc.out.kept C2.out) (W3c.out.kept C2.out)).mono ?_
    rintro e u3 ⟨v4, rfl, o4, b3⟩
    rw [HSE.out.1, HSE.out.2] at *
    obtain ⟨a4', n4', c4', rfl, r4⟩ := o4.reads (by omega)
    have hA3 : Below u3.heap.size u3 (u3.alloc (.cells #[.slice a4' n4' c4', .int .i64 SS.2.1, .slice none 0 0, .int .i64 0, .int .i64 0] 28)) := Below.alloc (Below.refl _ _) (Nat.le_refl _) _
    have D3 := hid (kt b3 hA3)
    have C3 := hid (kt C2.out D3.out)
    have W5 : Hid (∃ U5 : World, U5 = u3.alloc (.cells #[.slice a4' n4' c4', .int .i64 SS.2.1, .slice none 0 0, .int .i64 0, .int .i64 0] 28)) := hid ⟨_, rfl⟩
    obtain ⟨U5, hU5⟩ := W5.out
    have Z3 : SX (u3.alloc (.cells #[.slice a4' n4' c4', .int .i64 SS.2.1, .slice none 0 0, .int .i64 0, .int .i64 0] 28)) u3.heap.size (.slice a4' n4' c4') SS.2.1 (.slice none 0 0) 0 0 := ⟨by simp [go_sem], by simp [go_sem], by simp [go_sem], by simp [go_sem], by simp [go_sem], by simp [go_sem], by simp [go_sem]⟩
    have R4 := r4.kept hA3
    rw [← hU5] at C3 D3 Z3 R4
    have R4' := hid R4
    have R3' := hid (R2.out.kept D3.out)
    have O3 := hid (O2.out.kept D3.out)
    have S3 := hid (SC.out.kept C3.out)
    have T3 := hid (X0C.out.2.kept C3.out)
    have Y3 := hid (Y2.out.kept D3.out)
    have FX3 := hid (And.intro (FX.out.1.kept C3.out) (And.intro (FX.out.2.1.kept C3.out) (FX.out.2.2.kept C3.out)))
    have WW3 := hid (And.intro (WPc.out.kept C3.out) (And.intro (WLc.out.kept C3.out) (And.intro (WSc.out.kept C3.out) (And.intro (WFc.out.kept C3.out) (WOc.out.kept C3.out)))))
    have LD3 := hid (LDc.out.up C3.out)
    have E5 := hid hU5
    have g0 := cell_regrown (kept_cell C3.out PC.out.1)
    have g1 := cell_regrown (kept_cell C3.out PC.out.2.1)
    have g2 := cell_regrown (kept_cell C3.out PC.out.2.2.1)
    have g3 := cell_regrown (kept_cell C3.out PC.out.2.2.2.1)
    have g4 := cell_regrown (kept_cell C3.out PC.out.2.2.2.2)
    have g5 := cell_regrown (kept_cell C3.out X0C.out.1)
    have s0 := cell_regrown S3.out.c0
    have s1 := cell_regrown S3.out.c1
    have s2 := cell_regrown S3.out.c2
    have s3 := cell_regrown S3.out.c3
    have s4 := cell_regrown S3.out.c4
    have t0 := cell_regrown T3.out.c0
    have t1 := cell_regrown T3.out.c1
    have t2 := cell_regrown T3.out.c2
    have t3 := cell_regrown T3.out.c3
    have t4 := cell_regrown T3.out.c4
    have y0 := cell_regrown Y3.out.c0
    have y1 := cell_regrown Y3.out.c1
    have y2 := cell_regrown Y3.out.c2
    have y3 := cell_regrown Y3.out.c3
    have y4 := cell_regrown Y3.out.c4
    have z0 := cell_regrown Z3.c0
    have z1 := cell_regrown Z3.c1
    have z2 := cell_regrown Z3.c2
    have z3 := cell_regrown Z3.c3
    have z4 := cell_regrown Z3.c4
    clear b3 hA3 o4 r4 R4 Z3 hU5 W5 p2
    go_wp2_with fail
    refine wp_world (U := U5) E5.out ?_
    refine wp_region_quiet_below (by kernel_rfl) (by kernel_rfl) ?_
    repeat (go_big_quiet_step (first | (go_at_call 13; exact Calls.regrown_of (num_below _ _)) | (go_at_call 12; exact Calls.regrown_of (sameState_same _ _ _ SS.1 SS.2.1 none 0 0 [] 0 0 _ _ _ none 0 0 _ (R3'.out.kept (below_regrown _ _ _)) (Ints.nil _) (R4'.out.kept (below_regrown _ _ _)) (Ints.nil _))) | (go_at_call 24; exact Calls.regrown_of (frameMay_any _ _ _ l0 _ _ _ _ _ ll1 _ _ _ sl1 _ (FX3.out.1.kept (below_regrown _ _ _)) (WW3.out.2.1.kept (below_regrown _ _ _)) (WW3.out.2.2.1.kept (below_regrown _ _ _)) (LD3.out.up (below_regrown _ _ _)))) | (go_at_call 25; exact Calls.regrown_of (refFrameMay_any _ _ _ l0 _ _ _ _ _ ll1 _ _ _ sl1 _ (WW3.out.1.kept (below_regrown _ _ _)) (WW3.out.2.1.kept (below_regrown _ _ _)) (WW3.out.2.2.1.kept (below_regrown _ _ _)))) | (go_at_call 17; exact Calls.regrown_of (frameState_any _ _ _ l0 _ _ _ fs2 fu2 _ _ _ os2 dn2 vl2 _ (FX3.out.1.kept (below_regrown _ _ _)) (FX3.out.2.1.kept (below_regrown _ _ _)) (FX3.out.2.2.kept (below_regrown _ _ _)) (LD3.out.up (below_regrown _ _ _)))) | (go_at_call 26; exact Calls.regrown_of (refStateMay_any _ _ _ l0 _ _ _ fs2 fu2 _ _ _ os2 dn2 vl2 _ (WW3.out.1.kept (below_regrown _ _ _)) (WW3.out.2.2.2.1.kept (below_regrown _ _ _)) (WW3.out.2.2.2.2.kept (below_regrown _ _ _))))))
    refine wpQuiet_nil ?_
    intro _ hw'
    obtain ⟨⟨dq, osq⟩, hw''⟩ := hw'
    subst hw''
    have bq := below_regrown U5 dq osq
    have C5 := hid (kt C3.out bq)
    have D5 := hid (kt D3.out bq)
    have O5 := hid (O3.out.kept bq)
    have R5 := R3'.out
    have r5c := R5.cap
    have r5r := R5.room
    clear R5 bq g0 g1 g2 g3 g4 g5 s0 s1 s2 s3 s4 t0 t1 t2 t3 t4 z0 z1 z2 z3 z4
    go_wp2_with fail
    refine (spoilState_any _ _ _ _ _ _ _ _ _ u1.heap.size _ (O5.out.soft (Nat.le_refl _)) r5r r5c (fun h => absurd h (by omega)) (by omega) (Nat.le_refl _) (by have := D2.out.size; have := D5.out.size; omega)).mono ?_
    rintro e u6 ⟨rfl, b6⟩
    have C6 : Hid (Below u1.heap.size u1 u6) := hid ((kt D2.out D5.out).trans b6)
    have G6 := hid (kt B1.out C6.out)
    have p6 := kept_cell G6.out PC.out.1
    have x6 := kept_cell G6.out X0C.out.1
    have S6 := hid (SC.out.kept G6.out)
    have T6 := hid (X0C.out.2.kept G6.out)
    clear b6 y0 y1 y2 y3 y4
    go_wp2_with fail
    refine (sameProgram_any _ _ _ _ _ _ l0 l0 _ (FX.out.1.kept G6.out) (WPc.out.kept G6.out)).mono ?_
    rintro e u7 ⟨rfl, b7⟩
    rw [show decide (l0 = l0) = true by simp]
    have G7 := hid (kt G6.out b7)
    obtain ⟨s0, s1, s2, s3, s4, _, _⟩ := SC.out.kept G7.out
    obtain ⟨t0, t1, t2, t3, t4, _, _⟩ := X0C.out.2.kept G7.out
    have LE7 := hid (LE.out.kept (kt C6.out b7))
    clear b7 p6 x6
    go_wp2_with fail
    refine (sameState_same _ _ _ fs2 fu2 _ _ _ os2 dn2 vl2 _ _ _ _ _ _ _ (FX.out.2.1.kept G7.out) (FX.out.2.2.kept G7.out) (WFc.out.kept G7.out) (WOc.out.kept G7.out)).mono ?_
    rintro e u8 ⟨rfl, b8⟩
    have G8 := hid (kt G7.out b8)
    have LE8 := hid (LE7.out.kept b8)
    clear b8 s0 s1 s2 s3 s4 t0 t1 t2 t3 t4
    go_wp2_with fail
    refine (keptInts_any _ _ _ _ _ _ _ l3 _ LE8.out (W3c.out.kept G8.out)).mono ?_
    rintro e u9 ⟨rfl, b9⟩
    have G9 := hid (kt G8.out b9)
    clear b9
    go_wp2_with fail
    refine (awake6_any _ (LDc.out.up G9.out)).mono ?_
    rintro e u10 ⟨rfl, b10⟩
    have G10 := hid (kt G9.out b10)
    clear b10
    go_wp2_with fail
    go_ret
    exact ⟨rfl, kt BW.out G10.out⟩

set_option maxRecDepth 100000 in
theorem lifted (os : Os) (started : os.Started) (H : Type) (enc : TypeId × Value → H) :
    ReturnsInHanded {} Tryz.checked os 7 .any (fun w args => (Rows.framesSpec.pre enc Tryz.prog Tryz.f7 [] false w args ∧ laidMetH Tryz.prog [("math/bits.deBruijn32tab", Rows.laid_math_bits_deBruijn32tab), ("math/bits.deBruijn64tab", Rows.laid_math_bits_deBruijn64tab), ("internal/strconv.uint64pow10", Rows.laid_internal_strconv_uint64pow10), ("errors.errorType", Rows.laid_errors_errorType), ("swage/pack.errForm", Rows.laid_swage_pack_errForm), ("swage/pack.errEnd", Rows.laid_swage_pack_errEnd)] w) ∧ sizedMet enc Tryz.prog Tryz.f7 (OpenSpec.ofChange Rows.framesSpec) false w args) (Rows.framesSpec.post enc Tryz.prog Tryz.f7 false true false false) := by
  refine returnsInHanded_of_change_and (C := Tryz.checked) (X := fun w _ => laidMetH Tryz.prog [("math/bits.deBruijn32tab", Rows.laid_math_bits_deBruijn32tab), ("math/bits.deBruijn64tab", Rows.laid_math_bits_deBruijn64tab), ("internal/strconv.uint64pow10", Rows.laid_internal_strconv_uint64pow10), ("errors.errorType", Rows.laid_errors_errorType), ("swage/pack.errForm", Rows.laid_swage_pack_errForm), ("swage/pack.errEnd", Rows.laid_swage_pack_errEnd)] w) (fun _ _ _ hh h => h.of_heap hh) own started (by kernel_rfl) Tryz.func7
    (ChangeSpec.witness_shaped (enc := enc) (C := Tryz.checked) (os := os) (X := fun w _ => laidMetH Tryz.prog [("math/bits.deBruijn32tab", Rows.laid_math_bits_deBruijn32tab), ("math/bits.deBruijn64tab", Rows.laid_math_bits_deBruijn64tab), ("internal/strconv.uint64pow10", Rows.laid_internal_strconv_uint64pow10), ("errors.errorType", Rows.laid_errors_errorType), ("swage/pack.errForm", Rows.laid_swage_pack_errForm), ("swage/pack.errEnd", Rows.laid_swage_pack_errEnd)] w) false (World.doorLaid Tryz.prog 400 os) #[.agg #[.slice none 0 0], .agg #[.int .i64 0, .int .i64 0, .slice none 0 0, .slice none 0 0], .agg #[.slice none 0 0, .int .i64 0, .slice none 0 0, .int .i64 0, .int .i64 0], .slice none 0 0, .int .i64 0] 8 rfl (World.shaped_of_RefB (by kernel_rfl) (by kernel_rfl)) (by kernel_rfl) (by kernel_rfl) (by kernel_rfl) (door_met os _)) ?_
  intro W base args ds gs before hval0 hW hcnd hsz0 hL _
  have hval : ∀ (j : Nat) t v, Tryz.f7.params[j]? = some t → args[j]? = some v → Value.okWide Tryz.prog W .any base t v := hval0
  have hW' := hW
  obtain ⟨p, q, hA0, hV, rfl, hfz, hnd⟩ := hW
  have hA : DataW.TrodAll enc Tryz.prog W 0 (fun _ => true) true Tryz.f7.params.toList args.toList ds p := hA0
  have hsz : (DataW.weightsEach Tryz.prog (Tryz.f7.params.toList ++ Rows.framesSpec.plain.varTypes Tryz.prog) (ds ++ gs)).all (· ≤ reachBytes) = true := hsz0
  rw [Tryz.params7] at hA hval hsz
  obtain ⟨v0, vs0, d0, ds0, p0, q0, hargs, rfl, rfl, h0, r0⟩ := trodAll_cons hA
  obtain ⟨v1, vs1, d1, ds1, p1, q1, rfl, rfl, rfl, h1, r1⟩ := trodAll_cons r0
  obtain ⟨v2, vs2, d2, ds2, p2, q2, rfl, rfl, rfl, h2, r2⟩ := trodAll_cons r1
  obtain ⟨v3, vs3, d3, ds3, p3, q3, rfl, rfl, rfl, h3, r3⟩ := trodAll_cons r2
  obtain ⟨v4, vs4, d4, ds4, p4, q4, rfl, rfl, rfl, h4, r4⟩ := trodAll_cons r3
  obtain ⟨rfl, rfl, rfl⟩ := trodAll_nil r4
  obtain rfl : args = #[v0, v1, v2, v3, v4] := by cases args; simp_all
  obtain ⟨rfl, rfl⟩ := trodVars_none hV
  have k0 := h0
  have lt0 : ∀ x ∈ p0, x.block < W.heap.size := by obtain ⟨m, hm⟩ := k0; exact DataW.trod_lt m _ _ _ hm
  have k1 := h1
  have lt1 : ∀ x ∈ p1, x.block < W.heap.size := by obtain ⟨m, hm⟩ := k1; exact DataW.trod_lt m _ _ _ hm
  have k2 := h2
  have lt2 : ∀ x ∈ p2, x.block < W.heap.size := by obtain ⟨m, hm⟩ := k2; exact DataW.trod_lt m _ _ _ hm
  have k3 := h3
  have lt3 : ∀ x ∈ p3, x.block < W.heap.size := by obtain ⟨m, hm⟩ := k3; exact DataW.trod_lt m _ _ _ hm
  have k4 := h4
  have lt4 : ∀ x ∈ p4, x.block < W.heap.size := by obtain ⟨m, hm⟩ := k4; exact DataW.trod_lt m _ _ _ hm
  obtain ⟨a0, n0, c0, l0, rfl, w0⟩ := open_program (hval 0 24 v0 rfl rfl) h0 (fun k hk => by simpa using List.all_eq_true.1 hsz k (DataW.weights_mem_each (j := 0) rfl rfl k hk))
  obtain ⟨a1_0, a1_1, la1, ln1, lc1, ll1, sa1, sn1, sc1, sl1, rfl, wl1, ws1, _, _⟩ := open_frame (hval 1 52 v1 rfl rfl) h1 (fun k hk => by simpa using List.all_eq_true.1 hsz k (DataW.weights_mem_each (j := 1) rfl rfl k hk))
  obtain ⟨fa2, fn2, fc2, fs2, fu2, oa2, on2, oc2, os2, dn2, vl2, rfl, wf2, wo2, _, _, _⟩ := open_state (hval 2 28 v2 rfl rfl) h2 (fun k hk => by simpa using List.all_eq_true.1 hsz k (DataW.weights_mem_each (j := 2) rfl rfl k hk))
  obtain ⟨a3, n3, c3, l3, rfl, w3⟩ := open_intsP (hval 3 26 v3 rfl rfl) h3 (fun k hk => by simpa using List.all_eq_true.1 hsz k (DataW.weights_mem_each (j := 3) rfl rfl k hk))
  obtain ⟨a4, rfl, rfl, rfl, w4⟩ := open_int Tryz.underlying3 (hval 4 3 v4 rfl rfl) h4
  clear hA0 hval0
  refine (walk a0 n0 c0 l0 a1_0 a1_1 la1 ln1 lc1 ll1 sa1 sn1 sc1 sl1 fa2 fn2 fc2 fs2 fu2 oa2 on2 oc2 os2 dn2 vl2 a3 n3 c3 l3 a4 W w0 wl1 ws1 wf2 wo2 w3 w4 (ld_of hL)).mono fun e W' ⟨he, bel⟩ => ?_
  subst he
  exact ⟨_, rfl, _, _, _, [], _, [], hW', trodAll_mk1 (shut_bool Tryz.underlying4 _), (trodAll_cons_mk (Below.trod laidOut (by kernel_rfl) (of_decide_eq_true (by kernel_rfl)) k0 bel lt0) (trodAll_cons_mk (Below.trod laidOut (by kernel_rfl) (of_decide_eq_true (by kernel_rfl)) k1 bel lt1) (trodAll_cons_mk (Below.trod laidOut (by kernel_rfl) (of_decide_eq_true (by kernel_rfl)) k2 bel lt2) (trodAll_cons_mk (Below.trod laidOut (by kernel_rfl) (of_decide_eq_true (by kernel_rfl)) k3 bel lt3) (trodAll_cons_mk (Below.trod laidOut (by kernel_rfl) (of_decide_eq_true (by kernel_rfl)) k4 bel lt4) trodAll_mk0))))), rfl, bel.frame _, fun h => by cases h⟩

theorem over : Rows.framesRow.holds Tryz.pinned (OpenSpec.ofChange Rows.framesSpec) :=
  OpenClaim.holds_of_wide 7 Tryz.f7 rfl rfl rfl rfl rfl rfl rfl ⟨rfl, rfl, rfl, rfl, rfl⟩ rfl rfl rfl rfl rfl (by kernel_rfl) Tryz.func7 (by kernel_rfl)
    (of_decide_eq_true (by kernel_rfl)) (by unfold Func.isWrapper; first | (rw [if_pos (by decide +kernel)]; kernel_rfl) | (rw [if_neg (by decide +kernel)]; exact ⟨rfl, rfl⟩))
    (fun os started H enc _ => lifted os started H enc)
end Go.Proofs.YteliljhlfemnpaaGreatDoor.frames
namespace Go.Proofs.YteliljhlfemnpaaGreatDoor
open Go
theorem frames_holds : Rows.FramesCardSaid :=
  Claim7.holds_tied_plain_at .later [] [.data, .data, .data, .handle, .sentinel, .sentinel] true (true, "ff5af8b013a835a6de588e63bb7877d5c23a3a269e4f46202ae9cf955c322f98") true
    frames.over (fun _ h => by cases h) (by kernel_rfl) (fun _ h => by cases h) frames_row_tie rfl ⟨rfl, rfl⟩ (by kernel_rfl) rfl
    (fun f fn hf hfn => by
      obtain rfl : f = 7 := Option.some.inj ((show Tryz.prog.funcNamed "swage/swagelaw6.Frames" = some 7 by kernel_rfl).symm.trans hf) |>.symm
      obtain rfl : fn = Tryz.f7 := (Option.some.inj (Tryz.func7.symm.trans hfn)).symm
      exact ⟨by kernel_rfl, fun j t ht => by
        rw [Tryz.params7] at ht
        have hm : t ∈ [24, 52, 28, 26, 3] := by simpa using Array.mem_of_getElem? ht
        have hall : ([24, 52, 28, 26, 3].all fun u => !Tryz.prog.wantsStandIn u) = true := by kernel_rfl
        exact (show Tryz.prog.wantsStandIn t = false by simpa using List.all_eq_true.1 hall t hm)⟩)
    (by kernel_rfl)
#print axioms frames_holds
end Go.Proofs.YteliljhlfemnpaaGreatDoor
