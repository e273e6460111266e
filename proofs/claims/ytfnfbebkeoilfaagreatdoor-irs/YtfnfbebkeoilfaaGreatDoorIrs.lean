/- For any program and any code the law Irs returns true: ir.May and ir.Leaders answer as the document's own reckoning does, and the code that they are handed stays as it is. (The package's variables hold what the program's text lays.) -/
import Derived.Test.YtfnfbebkeoilfaaGreatDoorRows
import Derived.WalkKit
import Derived.ProofKit
import Derived.OpenShut
import Derived.ShutString
import Derived.ChangeOld
import Derived.Below
import Derived.Carry
import Derived.Lib.SmallJoins
import Derived.Handy
import Derived.WalkSmall
import Derived.SizedLaws
import Derived.Test.YtfnfbebkeoilfaaGreatDoorJ1o
import Derived.Test.YtfnfbebkeoilfaaGreatDoorJ10h
import Derived.Test.YtfnfbebkeoilfaaGreatDoorLaidOpenV
import Derived.Test.YtfnfbebkeoilfaaGreatDoorCards
import Derived.Test.YtfnfbebkeoilfaaGreatDoorTie
import Derived.SevenTiedAt
import Derived.LaidMore
import Derived.Stop.Joined
import Derived.Test.YtfnfbebkeoilfaaGreatDoorJ10f
import Derived.Test.YtfnfbebkeoilfaaGreatDoorJ10c
import Derived.Test.YtfnfbebkeoilfaaGreatDoorJ10d
import Derived.Test.YtfnfbebkeoilfaaGreatDoorJ10g
import Derived.Deep.RegionHeld3
import Derived.Deep.DrawnRows
namespace Go.Proofs.YtfnfbebkeoilfaaGreatDoor.irs
open Go.ChangeShapes Go.WideShapes Go.ChangeAt Go.RowKit
open Go.ChangeMaps (open_string shut_string)
set_option linter.unusedVariables false

theorem own : ownKnob Tryz.prog.godebug = none := by kernel_rfl
theorem laidOut : laidOutB Tryz.prog = true := by kernel_rfl

theorem calls_inI {P : Program} {f : FuncId} {args : Array Value} {w w' : World} {Q : Ending → World → Prop} (e : w = w') (h : Calls P f args w' Q) : Calls P f args w Q := e ▸ h
set_option maxRecDepth 100000 in
set_option maxHeartbeats 20000000 in
theorem walk (a0 : Option Addr) (n0 c0 : Nat) (l0 : List Fn) (a1_0 a1_1 : Int) (ca1 : Option Addr) (cn1 cc1 : Nat) (cl1 : List IrT) (ma1 : Option Addr) (mn1 mc1 : Nat) (ml1 : List (List PartT)) (w : World) (w0 : Fns w a0 n0 c0 l0) (wc1 : Sl layIr 88 w ca1 cn1 cc1 cl1) (wm1 : Sl layMeta 24 w ma1 mn1 mc1 ml1) (ld : Ld w) :
    Calls Tryz.prog 3 #[.agg #[.slice a0 n0 c0], .agg #[.int .i64 a1_0, .int .i64 a1_1, .slice ca1 cn1 cc1, .slice ma1 mn1 mc1]] w fun e w' => e = .returned (.bool true) ∧ Below w.heap.size w w' := by
  have LD0 := hid ld
  clear ld
  have W0 := hid w0
  have WC := hid wc1
  have WM := hid wm1
  clear w0 wc1 wm1
  have U0 : Hid (∃ U : World, U = (w.alloc (.cells #[.slice a0 n0 c0] 24)).alloc (.cells #[.int .i64 a1_0, .int .i64 a1_1, .slice ca1 cn1 cc1, .slice ma1 mn1 mc1] 28)) := hid ⟨_, rfl⟩
  obtain ⟨U, hU⟩ := U0.out
  have BU : Hid (Below w.heap.size w U) := hid (by rw [hU]; go_grown)
  have P0 : Hid (U.cell? ⟨w.heap.size, 0, none⟩ = some (.slice a0 n0 c0)) := hid (by rw [hU]; simp [go_sem])
  have C0 : Hid (U.cell? ⟨w.heap.size + 1, 0, none⟩ = some (.int .i64 a1_0) ∧ U.cell? ⟨w.heap.size + 1, 1, none⟩ = some (.int .i64 a1_1) ∧ U.cell? ⟨w.heap.size + 1, 2, none⟩ = some (.slice ca1 cn1 cc1) ∧ U.cell? ⟨w.heap.size + 1, 3, none⟩ = some (.slice ma1 mn1 mc1)) := hid (by rw [hU]; exact ⟨by simp [go_sem], by simp [go_sem], by simp [go_sem], by simp [go_sem]⟩)
  have EU := hid hU
  clear hU U0
  go_enter Tryz.func3, Tryz.ntmps3
  go_wp2_with fail
  refine calls_inI (w' := U) (by rw [EU.out]) ?_
  refine (copyCode_any _ _ _ _ _ _ cl1 ml1 _ _ _ (WC.out.kept BU.out) (WM.out.kept BU.out)).mono ?_
  rintro e u1 ⟨v, u, s, rfl, o1, m1, b1⟩
  obtain ⟨xa, xn, xc, rfl, rx⟩ := o1.reads
  obtain ⟨ya, yn, yc, rfl, ry⟩ := m1.reads
  have B1 := hid b1
  have RX := hid rx
  have RY := hid ry
  clear b1 rx ry o1 m1 EU
  go_upto_region 2 with fail
  refine wp_name ?_
  intro X hX
  have AX : Hid (Below u1.heap.size u1 X) := hid (by rw [hX]; exact Below.alloc (Below.refl _ _) (Nat.le_refl _) _)
  have x0 : X.cell? ⟨u1.heap.size, 0, none⟩ = some (.int .i64 a1_0) := by rw [hX]; simp [go_sem]
  have x1 : X.cell? ⟨u1.heap.size, 1, none⟩ = some (.int .i64 a1_1) := by rw [hX]; simp [go_sem]
  have x2 : X.cell? ⟨u1.heap.size, 2, none⟩ = some (.slice xa xn xc) := by rw [hX]; simp [go_sem]
  have x3 : X.cell? ⟨u1.heap.size, 3, none⟩ = some (.slice ya yn yc) := by rw [hX]; simp [go_sem]
  have UX : Hid (Below U.heap.size U X) := hid (kt B1.out AX.out)
  have BX : Hid (Below w.heap.size w X) := hid (kt BU.out UX.out)
  have p0 := kept_cell UX.out P0.out
  have c0' := kept_cell UX.out C0.out.1
  have c1' := kept_cell UX.out C0.out.2.1
  have c2' := kept_cell UX.out C0.out.2.2.1
  have c3' := kept_cell UX.out C0.out.2.2.2
  clear hX
  obtain ⟨B, EB⟩ : ∃ B : Bool, codeMayB l0 (a1_0, a1_1, cl1, ml1) = B := ⟨_, rfl⟩
  obtain ⟨L, EL⟩ : ∃ L : List Bool, irLeads cl1 = L := ⟨_, rfl⟩
  have HL : Hid (L.length * 8 ≤ 140737488351232) := hid (by
    rw [← EL]
    have h1 := WC.out.room
    have h2 := WC.out.len
    have h3 : (irLeads cl1).length = cl1.length := by unfold irLeads; exact irLeadN_len _ _
    omega)
  have M1 : Hid (∀ w', Below X.heap.size X w' → Calls Tryz.prog 7 #[.agg #[.slice a0 n0 c0], .agg #[.int .i64 a1_0, .int .i64 a1_1, .slice xa xn xc, .slice ya yn yc]] w' fun e w'' => e = .returned (.bool B) ∧ Below w'.heap.size w' w'') := hid (fun w' b => by
    rw [← EB]
    exact irMay_any _ _ _ _ _ _ _ _ _ l0 cl1 ml1 _ _ _ ((W0.out.kept BX.out).kept b) ((RX.out.kept AX.out).kept b) ((RY.out.kept AX.out).kept b) (LD0.out.up (kt BX.out b)))
  have M2 : Hid (∀ w', Below X.heap.size X w' → Calls Tryz.prog 8 #[.agg #[.slice a0 n0 c0], .agg #[.int .i64 a1_0, .int .i64 a1_1, .slice ca1 cn1 cc1, .slice ma1 mn1 mc1]] w' fun e w'' => e = .returned (.bool B) ∧ Below w'.heap.size w' w'') := hid (fun w' b => by
    rw [← EB]
    exact refCodeMay_any _ _ _ _ _ _ _ _ _ l0 cl1 ml1 _ _ _ ((W0.out.kept BX.out).kept b) ((WC.out.kept BX.out).kept b) ((WM.out.kept BX.out).kept b))
  have M3 : Hid (∀ w', Below X.heap.size X w' → Calls Tryz.prog 10 #[.agg #[.int .i64 a1_0, .int .i64 a1_1, .slice xa xn xc, .slice ya yn yc]] w' fun e w'' => ∃ a n c, e = .returned (.slice a n c) ∧ Bools w'' a n c L ∧ Below w'.heap.size w' w'') := hid (fun w' b => by
    refine (irLeaders_any _ _ _ _ _ _ cl1 _ _ _ ((RX.out.kept AX.out).kept b)).mono ?_
    rintro e y ⟨v, rfl, ho, hb⟩
    rw [EL] at ho
    obtain ⟨a, n, c, rfl, hi⟩ := bools_of_owns ho HL.out
    exact ⟨a, n, c, rfl, hi, hb⟩)
  have M4 : Hid (∀ w', Below X.heap.size X w' → Calls Tryz.prog 11 #[.agg #[.int .i64 a1_0, .int .i64 a1_1, .slice ca1 cn1 cc1, .slice ma1 mn1 mc1]] w' fun e w'' => ∃ a n c, e = .returned (.slice a n c) ∧ Bools w'' a n c L ∧ Below w'.heap.size w' w'') := hid (fun w' b => by
    refine (refIrLeaders_any _ _ _ _ _ _ cl1 _ _ _ ((WC.out.kept BX.out).kept b)).mono ?_
    rintro e y ⟨v, rfl, ho, hb⟩
    rw [EL] at ho
    obtain ⟨a, n, c, rfl, hi⟩ := bools_of_owns ho HL.out
    exact ⟨a, n, c, rfl, hi, hb⟩)
  have M6 : Hid (∀ w', Below X.heap.size X w' → Calls Tryz.prog 12 #[.agg #[.int .i64 a1_0, .int .i64 a1_1, .slice xa xn xc, .slice ya yn yc], .agg #[.int .i64 a1_0, .int .i64 a1_1, .slice ca1 cn1 cc1, .slice ma1 mn1 mc1]] w' fun e w'' => e = .returned (.bool true) ∧ Below w'.heap.size w' w'') := hid (fun w' b =>
    sameCode_same _ _ _ _ _ _ _ _ _ _ _ _ _ _ cl1 ml1 _ ((RX.out.kept AX.out).kept b) ((RY.out.kept AX.out).kept b) ((WC.out.kept BX.out).kept b) ((WM.out.kept BX.out).kept b))
  have M7 : Hid (∀ w', Below X.heap.size X w' → Calls Tryz.prog 13 #[] w' fun e w'' => e = .returned (.bool true) ∧ Below w'.heap.size w' w'') := hid (fun w' b => awake10_any _ (LD0.out.up (kt BX.out b)))
  have SA : Hid (∀ w', Below X.heap.size X w' → w'.cell? ⟨w.heap.size, 0, none⟩ = some (.slice a0 n0 c0) ∧ (w'.cell? ⟨w.heap.size + 1, 0, none⟩ = some (.int .i64 a1_0) ∧ w'.cell? ⟨w.heap.size + 1, 1, none⟩ = some (.int .i64 a1_1) ∧ w'.cell? ⟨w.heap.size + 1, 2, none⟩ = some (.slice ca1 cn1 cc1) ∧ w'.cell? ⟨w.heap.size + 1, 3, none⟩ = some (.slice ma1 mn1 mc1)) ∧ w'.cell? ⟨u1.heap.size, 0, none⟩ = some (.int .i64 a1_0) ∧ w'.cell? ⟨u1.heap.size, 1, none⟩ = some (.int .i64 a1_1) ∧ w'.cell? ⟨u1.heap.size, 2, none⟩ = some (.slice xa xn xc) ∧ w'.cell? ⟨u1.heap.size, 3, none⟩ = some (.slice ya yn yc)) := hid (fun w' b => ⟨kept_cell b p0, ⟨kept_cell b c0', kept_cell b c1', kept_cell b c2', kept_cell b c3'⟩, kept_cell b x0, kept_cell b x1, kept_cell b x2, kept_cell b x3⟩)
  have BC : Below X.heap.size X X := Below.refl _ _
  clear W0 WC WM RX RY AX UX EB EL HL P0 C0 B1 BU
  clear p0 c0' c1' c2' c3' x0 x1 x2 x3 LD0
  go_region_held3 (fun w' => w'.cell? ⟨w.heap.size, 0, none⟩ = some (.slice a0 n0 c0) ∧ (w'.cell? ⟨w.heap.size + 1, 0, none⟩ = some (.int .i64 a1_0) ∧ w'.cell? ⟨w.heap.size + 1, 1, none⟩ = some (.int .i64 a1_1) ∧ w'.cell? ⟨w.heap.size + 1, 2, none⟩ = some (.slice ca1 cn1 cc1) ∧ w'.cell? ⟨w.heap.size + 1, 3, none⟩ = some (.slice ma1 mn1 mc1)) ∧ w'.cell? ⟨u1.heap.size, 0, none⟩ = some (.int .i64 a1_0) ∧ w'.cell? ⟨u1.heap.size, 1, none⟩ = some (.int .i64 a1_1) ∧ w'.cell? ⟨u1.heap.size, 2, none⟩ = some (.slice xa xn xc) ∧ w'.cell? ⟨u1.heap.size, 3, none⟩ = some (.slice ya yn yc)) (first | (refine SA.out _ ?_; (repeat (first | with_reducible exact BC | with_reducible refine qDrew ?_))))
    (first
      | (go_at_call 7; refine (M1.out _ ?hb).mono ?_; (case hb => (repeat (first | with_reducible exact BC | with_reducible refine qDrew ?_))); rintro e y1 ⟨rfl, b⟩; replace BC : Below X.heap.size X y1 := kt (by repeat (first | with_reducible exact BC | with_reducible refine qDrew ?_)) b; clear b)
      | (go_at_call 8; refine (M2.out _ ?hb).mono ?_; (case hb => (repeat (first | with_reducible exact BC | with_reducible refine qDrew ?_))); rintro e y2 ⟨rfl, b⟩; replace BC : Below X.heap.size X y2 := kt (by repeat (first | with_reducible exact BC | with_reducible refine qDrew ?_)) b; clear b)
      | (go_at_call 10; refine (M3.out _ ?hb).mono ?_; (case hb => (repeat (first | with_reducible exact BC | with_reducible refine qDrew ?_))); rintro e y3 ⟨a3, n3, c3, rfl, i3, b⟩; (try (replace I4 := hid (I4.out.kept b))); have I3 := hid i3; replace BC : Below X.heap.size X y3 := kt (by repeat (first | with_reducible exact BC | with_reducible refine qDrew ?_)) b; clear b i3)
      | (go_at_call 11; refine (M4.out _ ?hb).mono ?_; (case hb => (repeat (first | with_reducible exact BC | with_reducible refine qDrew ?_))); rintro e y4 ⟨a4, n4, c4, rfl, i4, b⟩; (try (replace I3 := hid (I3.out.kept b))); have I4 := hid i4; replace BC : Below X.heap.size X y4 := kt (by repeat (first | with_reducible exact BC | with_reducible refine qDrew ?_)) b; clear b i4)
      | (go_at_call 9; refine (sameBools_any _ _ _ _ _ _ L L _ I3.out I4.out).mono ?_; rintro e y5 ⟨rfl, b⟩; rw [decide_eq_true (rfl : L = L)]; replace BC : Below X.heap.size X y5 := kt (by repeat (first | with_reducible exact BC | with_reducible refine qDrew ?_)) b; clear b)
      | (go_at_call 12; refine (M6.out _ ?hb).mono ?_; (case hb => (repeat (first | with_reducible exact BC | with_reducible refine qDrew ?_))); rintro e y6 ⟨rfl, b⟩; replace BC : Below X.heap.size X y6 := kt (by repeat (first | with_reducible exact BC | with_reducible refine qDrew ?_)) b; clear b)
      | (go_at_call 13; refine (M7.out _ ?hb).mono ?_; (case hb => (repeat (first | with_reducible exact BC | with_reducible refine qDrew ?_))); rintro e y7 ⟨rfl, b⟩; replace BC : Below X.heap.size X y7 := kt (by repeat (first | with_reducible exact BC | with_reducible refine qDrew ?_)) b; clear b))
  all_goals
    go_wp2_with fail
    go_ret
    exact ⟨rfl, kt BX.out (by repeat (first | with_reducible exact BC | with_reducible refine qDrew ?_))⟩

set_option maxRecDepth 100000 in
theorem lifted (os : Os) (started : os.Started) (H : Type) (enc : TypeId × Value → H) :
    ReturnsInHanded {} Tryz.checked os 3 .any (fun w args => (Rows.irsSpec.pre enc Tryz.prog Tryz.f3 [] false w args ∧ laidMetH Tryz.prog [("math/bits.deBruijn32tab", Rows.laid_math_bits_deBruijn32tab), ("math/bits.deBruijn64tab", Rows.laid_math_bits_deBruijn64tab), ("internal/strconv.uint64pow10", Rows.laid_internal_strconv_uint64pow10), ("errors.errorType", Rows.laid_errors_errorType), ("swage/pack.errForm", Rows.laid_swage_pack_errForm), ("swage/pack.errEnd", Rows.laid_swage_pack_errEnd)] w) ∧ sizedMet enc Tryz.prog Tryz.f3 (OpenSpec.ofChange Rows.irsSpec) false w args) (Rows.irsSpec.post enc Tryz.prog Tryz.f3 false true false false) := by
  refine returnsInHanded_of_change_and (C := Tryz.checked) (X := fun w _ => laidMetH Tryz.prog [("math/bits.deBruijn32tab", Rows.laid_math_bits_deBruijn32tab), ("math/bits.deBruijn64tab", Rows.laid_math_bits_deBruijn64tab), ("internal/strconv.uint64pow10", Rows.laid_internal_strconv_uint64pow10), ("errors.errorType", Rows.laid_errors_errorType), ("swage/pack.errForm", Rows.laid_swage_pack_errForm), ("swage/pack.errEnd", Rows.laid_swage_pack_errEnd)] w) (fun _ _ _ hh h => h.of_heap hh) own started (by kernel_rfl) Tryz.func3
    (ChangeSpec.witness_shaped (enc := enc) (C := Tryz.checked) (os := os) (X := fun w _ => laidMetH Tryz.prog [("math/bits.deBruijn32tab", Rows.laid_math_bits_deBruijn32tab), ("math/bits.deBruijn64tab", Rows.laid_math_bits_deBruijn64tab), ("internal/strconv.uint64pow10", Rows.laid_internal_strconv_uint64pow10), ("errors.errorType", Rows.laid_errors_errorType), ("swage/pack.errForm", Rows.laid_swage_pack_errForm), ("swage/pack.errEnd", Rows.laid_swage_pack_errEnd)] w) false (World.doorLaid Tryz.prog 400 os) #[.agg #[.slice none 0 0], .agg #[.int .i64 0, .int .i64 0, .slice none 0 0, .slice none 0 0]] 8 rfl (World.shaped_of_RefB (by kernel_rfl) (by kernel_rfl)) (by kernel_rfl) (by kernel_rfl) (by kernel_rfl) (door_met os _)) ?_
  intro W base args ds gs before hval0 hW hcnd hsz0 hL _
  have hval : ∀ (j : Nat) t v, Tryz.f3.params[j]? = some t → args[j]? = some v → Value.okWide Tryz.prog W .any base t v := hval0
  have hW' := hW
  obtain ⟨p, q, hA0, hV, rfl, hfz, hnd⟩ := hW
  have hA : DataW.TrodAll enc Tryz.prog W 0 (fun _ => true) true Tryz.f3.params.toList args.toList ds p := hA0
  have hsz : (DataW.weightsEach Tryz.prog (Tryz.f3.params.toList ++ Rows.irsSpec.plain.varTypes Tryz.prog) (ds ++ gs)).all (· ≤ reachBytes) = true := hsz0
  rw [Tryz.params3] at hA hval hsz
  obtain ⟨v0, vs0, d0, ds0, p0, q0, hargs, rfl, rfl, h0, r0⟩ := trodAll_cons hA
  obtain ⟨v1, vs1, d1, ds1, p1, q1, rfl, rfl, rfl, h1, r1⟩ := trodAll_cons r0
  obtain ⟨rfl, rfl, rfl⟩ := trodAll_nil r1
  obtain rfl : args = #[v0, v1] := by cases args; simp_all
  obtain ⟨rfl, rfl⟩ := trodVars_none hV
  have k0 := h0
  have lt0 : ∀ x ∈ p0, x.block < W.heap.size := by obtain ⟨m, hm⟩ := k0; exact DataW.trod_lt m _ _ _ hm
  have k1 := h1
  have lt1 : ∀ x ∈ p1, x.block < W.heap.size := by obtain ⟨m, hm⟩ := k1; exact DataW.trod_lt m _ _ _ hm
  obtain ⟨a0, n0, c0, l0, rfl, w0⟩ := open_program (hval 0 24 v0 rfl rfl) h0 (fun k hk => by simpa using List.all_eq_true.1 hsz k (DataW.weights_mem_each (j := 0) rfl rfl k hk))
  obtain ⟨a1_0, a1_1, ca1, cn1, cc1, cl1, ma1, mn1, mc1, ml1, rfl, wc1, wm1, _, _⟩ := open_code (hval 1 28 v1 rfl rfl) h1 (fun k hk => by simpa using List.all_eq_true.1 hsz k (DataW.weights_mem_each (j := 1) rfl rfl k hk))
  clear hA0 hval0
  refine (walk a0 n0 c0 l0 a1_0 a1_1 ca1 cn1 cc1 cl1 ma1 mn1 mc1 ml1 W w0 wc1 wm1 (ld_of hL)).mono fun e W' ⟨he, bel⟩ => ?_
  subst he
  exact ⟨_, rfl, _, _, _, [], _, [], hW', trodAll_mk1 (shut_bool Tryz.underlying4 _), (trodAll_cons_mk (Below.trod laidOut (by kernel_rfl) (of_decide_eq_true (by kernel_rfl)) k0 bel lt0) (trodAll_cons_mk (Below.trod laidOut (by kernel_rfl) (of_decide_eq_true (by kernel_rfl)) k1 bel lt1) trodAll_mk0)), rfl, bel.frame _, fun h => by cases h⟩

theorem over : Rows.irsRow.holds Tryz.pinned (OpenSpec.ofChange Rows.irsSpec) :=
  OpenClaim.holds_of_wide 3 Tryz.f3 rfl rfl rfl rfl rfl rfl rfl ⟨rfl, rfl, rfl, rfl, rfl⟩ rfl rfl rfl rfl rfl (by kernel_rfl) Tryz.func3 (by kernel_rfl)
    (of_decide_eq_true (by kernel_rfl)) (by unfold Func.isWrapper; first | (rw [if_pos (by decide +kernel)]; kernel_rfl) | (rw [if_neg (by decide +kernel)]; exact ⟨rfl, rfl⟩))
    (fun os started H enc _ => lifted os started H enc)
end Go.Proofs.YtfnfbebkeoilfaaGreatDoor.irs
namespace Go.Proofs.YtfnfbebkeoilfaaGreatDoor
open Go
theorem irs_holds : Rows.IrsCardSaid :=
  Claim7.holds_tied_plain_at .later [] [.data, .data, .data, .handle, .sentinel, .sentinel] true (true, "af14792d463d770b1eecd619858a17615b4fc506b811793aef6635ab7fdea3b6") true
    irs.over (fun _ h => by cases h) (by kernel_rfl) (fun _ h => by cases h) irs_row_tie rfl ⟨rfl, rfl⟩ (by kernel_rfl) rfl
    (fun f fn hf hfn => by
      obtain rfl : f = 3 := Option.some.inj ((show Tryz.prog.funcNamed "swage/swagelaw10.Irs" = some 3 by kernel_rfl).symm.trans hf) |>.symm
      obtain rfl : fn = Tryz.f3 := (Option.some.inj (Tryz.func3.symm.trans hfn)).symm
      exact ⟨by kernel_rfl, fun j t ht => by
        rw [Tryz.params3] at ht
        have hm : t ∈ [24, 28] := by simpa using Array.mem_of_getElem? ht
        have hall : ([24, 28].all fun u => !Tryz.prog.wantsStandIn u) = true := by kernel_rfl
        exact (show Tryz.prog.wantsStandIn t = false by simpa using List.all_eq_true.1 hall t hm)⟩)
    (by kernel_rfl)
#print axioms irs_holds
end Go.Proofs.YtfnfbebkeoilfaaGreatDoor
