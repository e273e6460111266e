/- For any program and any integer the law Verifies returns true: verify.Heights and verify.Program answer as the document's own reckoning does, and the program stays as it was; no conditions. -/
import Derived.Test.YtnmhoahkmampkaaGreatDoorRows
import Derived.WalkKit
import Derived.ProofKit
import Derived.OpenShut
import Derived.ShutString
import Derived.ChangeOld
import Derived.Below
import Derived.Carry
import Derived.Lib.SmallJoins
import Derived.Handy
import Derived.WalkSmall
import Derived.SizedLaws
import Derived.Test.YtnmhoahkmampkaaGreatDoorOpen
import Derived.Test.YtnmhoahkmampkaaGreatDoorLaidOpenV
import Derived.Test.YtnmhoahkmampkaaGreatDoorCards
import Derived.Test.YtnmhoahkmampkaaGreatDoorTie
import Derived.SevenTiedAt
import Derived.LaidMore
import Derived.Stop.Joined
import Derived.Test.YtnmhoahkmampkaaGreatDoorAwake5
import Derived.Test.YtnmhoahkmampkaaGreatDoorPlainVer2
import Derived.Lib.QuietBelow
import Derived.Deep.QuietTactic
import Derived.BigQuiet
namespace Go.Proofs.YtnmhoahkmampkaaGreatDoor.verifies
open Go.ChangeShapes Go.WideShapes Go.ChangeAt Go.RowKit
open Go.ChangeMaps (open_string shut_string)
set_option linter.unusedVariables false

theorem own : ownKnob Tryz.prog.godebug = none := by kernel_rfl
theorem laidOut : laidOutB Tryz.prog = true := by kernel_rfl

theorem sameInts_same (a b : Option Addr) (n c m d : Nat) (l : List Int) (w : World) (h1 : Ints w a n c l) (h2 : Ints w b m d l) :
    Calls Tryz.prog 9 #[.slice a n c, .slice b m d] w fun e w' => e = .returned (.bool true) ∧ Below w.heap.size w w' :=
  (sameInts_any a b n c m d l l w h1 h2).mono (by rintro e w' ⟨rfl, hb⟩; exact ⟨by rw [decide_eq_true rfl], hb⟩)
theorem num_below (x : Int) (w : World) : Calls Tryz.prog 10 #[.int .i64 x] w fun e w' => e = .returned (.int .i64 x) ∧ Below w.heap.size w w' :=
  (num_any _ _).mono (fun _ _ h => ⟨h.1, h.2 ▸ Below.refl _ _⟩)
set_option maxRecDepth 100000 in
set_option maxHeartbeats 20000000 in
theorem walk (a0 : Option Addr) (n0 c0 : Nat) (l0 : List Fn) (a1 : Int) (w : World) (w0 : Fns w a0 n0 c0 l0) (w1 : (Lit.int .i64 a1).wf = true) (ld : Ld w) :
    Calls Tryz.prog 3 #[.agg #[.slice a0 n0 c0], .int .i64 a1] w fun e w' => e = .returned (.bool true) ∧ Below w.heap.size w w' := by
  have LD0 := hid ld
  clear ld
  go_enter Tryz.func3, Tryz.ntmps3
  go_wp2_with fail
  refine (copyProgram_any _ _ _ l0 _ (w0.kept (by go_grown))).mono ?_
  rintro e u1 ⟨vx, rfl, ox, b1⟩
  obtain ⟨ax, nx, cx, rfl, fx⟩ := ox.reads (by rw [← w0.len]; exact w0.room)
  have p1 := kept_cell b1 (b := w.heap.size) (o := 0) (v := .slice a0 n0 c0) (by simp [go_sem])
  have W1 := hid ((w0.kept (by go_grown)).kept b1)
  have B1 : Hid (Below w.heap.size w u1) := hid (kt (by go_grown) b1)
  have hA : Below u1.heap.size u1 (u1.alloc (.cells #[.slice ax nx cx] 24)) := Below.alloc (Below.refl _ _) (Nat.le_refl _) _
  have B2 := hid (kt B1.out hA)
  have P2 := hid (kept_cell hA p1)
  have X2 : Hid ((u1.alloc (.cells #[.slice ax nx cx] 24)).cell? ⟨u1.heap.size, 0, none⟩ = some (.slice ax nx cx)) := hid (by simp [go_sem])
  have W2 := hid (W1.out.kept hA)
  have F2 := hid (fx.kept hA)
  clear b1 ox fx hA w0 w1
  go_wp2_with fail
  refine (verHeights _ _ _ l0 a1 _ F2.out (LD0.out.up B2.out)).mono ?_
  rintro e u3 ⟨v3, rfl, o3, b3⟩
  have P3 := kept_cell b3 P2.out
  have X3 := hid (kept_cell b3 X2.out)
  have W3 := hid (W2.out.kept b3)
  have F3 := hid (F2.out.kept b3)
  have B3 := hid (kt B2.out b3)
  obtain ⟨a3, n3, c3, rfl, i3⟩ := ints_of_owns o3 (by have := hts_len (ps := l0) (fn := a1); omega)
  have I3 := hid i3
  have O3 := hid o3
  have C3 := hid b3
  clear b3 i3 o3 p1
  go_wp2_with fail
  refine (refHeights_any _ _ _ l0 a1 _ W3.out).mono ?_
  rintro e u4 ⟨v4, rfl, o4, b4⟩
  obtain ⟨a4, n4, c4, rfl, i4⟩ := ints_of_owns o4 (by have := hts_len (ps := l0) (fn := a1); omega)
  have p4 := kept_cell b4 P3
  have x4 := kept_cell b4 X3.out
  have W4 := hid (W3.out.kept b4)
  have F4 := hid (F3.out.kept b4)
  have B4 := hid (kt B3.out b4)
  have I4 := hid (And.intro (I3.out.kept b4) i4)
  have O4 := hid (owns_kept O3.out b4)
  have C4 := hid (kt C3.out b4)
  have g0 := cell_regrown p4
  have g1 := cell_regrown x4
  have PX := hid (And.intro p4 x4)
  clear b4 o4 i4 P3 p4 x4
  go_wp2_with fail
  refine wp_region_quiet_below (by kernel_rfl) (by kernel_rfl) ?_
  repeat (go_big_quiet_step (first | (go_at_call 10; exact Calls.regrown_of (num_below _ _)) | (go_at_call 9; exact Calls.regrown_of (sameInts_same _ _ _ _ _ _ (htsV l0 a1).1 _ (I4.out.1.kept (below_regrown _ _ _)) (I4.out.2.kept (below_regrown _ _ _)))) | (go_at_call 11; exact Calls.regrown_of (verProgram _ _ _ l0 _ (F4.out.kept (below_regrown _ _ _)) ((LD0.out.up B4.out).up (below_regrown _ _ _)))) | (go_at_call 12; exact Calls.regrown_of (refVerify_any _ _ _ l0 _ (W4.out.kept (below_regrown _ _ _))))))
  refine wpQuiet_nil ?_
  intro _ hw'
  obtain ⟨⟨dq, osq⟩, hw''⟩ := hw'
  subst hw''
  have C5 := hid (kt C4.out (below_regrown u4 dq osq))
  have O5 := hid (owns_kept O4.out (below_regrown u4 dq osq))
  clear g0 g1
  go_wp2_with fail
  refine (spoilInts_any _ _ _ _ (htsV l0 a1).1 _ O5.out (by have := hts_len (ps := l0) (fn := a1); omega)).mono ?_
  rintro e u6 ⟨rfl, f6⟩
  have C6 := hid (C5.out.trans (f6.below C5.out.size (fun k hk h => by have := (O5.out.lt k h).1; omega)))
  have p6 := kept_cell C6.out P2.out
  have x6 := kept_cell C6.out X2.out
  clear f6
  go_wp2_with fail
  refine (sameProgram_any _ _ _ _ _ _ l0 l0 _ (F2.out.kept C6.out) (W2.out.kept C6.out)).mono ?_
  rintro e u7 ⟨rfl, b7⟩
  rw [show decide (l0 = l0) = true by simp]
  go_wp2_with fail
  refine (awake5_any _ (LD0.out.up (kt (kt B2.out C6.out) b7))).mono ?_
  rintro e u8 ⟨rfl, b8⟩
  go_wp2_with fail
  go_ret
  exact ⟨rfl, kt (kt (kt B2.out C6.out) b7) b8⟩

set_option maxRecDepth 100000 in
theorem lifted (os : Os) (started : os.Started) (H : Type) (enc : TypeId × Value → H) :
    ReturnsInHanded {} Tryz.checked os 3 .any (fun w args => (Rows.verifiesSpec.pre enc Tryz.prog Tryz.f3 [] false w args ∧ laidMetH Tryz.prog [("math/bits.deBruijn32tab", Rows.laid_math_bits_deBruijn32tab), ("math/bits.deBruijn64tab", Rows.laid_math_bits_deBruijn64tab), ("internal/strconv.uint64pow10", Rows.laid_internal_strconv_uint64pow10), ("errors.errorType", Rows.laid_errors_errorType), ("swage/pack.errForm", Rows.laid_swage_pack_errForm), ("swage/pack.errEnd", Rows.laid_swage_pack_errEnd)] w) ∧ sizedMet enc Tryz.prog Tryz.f3 (OpenSpec.ofChange Rows.verifiesSpec) false w args) (Rows.verifiesSpec.post enc Tryz.prog Tryz.f3 false true false false) := by
  refine returnsInHanded_of_change_and (C := Tryz.checked) (X := fun w _ => laidMetH Tryz.prog [("math/bits.deBruijn32tab", Rows.laid_math_bits_deBruijn32tab), ("math/bits.deBruijn64tab", Rows.laid_math_bits_deBruijn64tab), ("internal/strconv.uint64pow10", Rows.laid_internal_strconv_uint64pow10), ("errors.errorType", Rows.laid_errors_errorType), ("swage/pack.errForm", Rows.laid_swage_pack_errForm), ("swage/pack.errEnd", Rows.laid_swage_pack_errEnd)] w) (fun _ _ _ hh h => h.of_heap hh) own started (by kernel_rfl) Tryz.func3
    (ChangeSpec.witness_shaped (enc := enc) (C := Tryz.checked) (os := os) (X := fun w _ => laidMetH Tryz.prog [("math/bits.deBruijn32tab", Rows.laid_math_bits_deBruijn32tab), ("math/bits.deBruijn64tab", Rows.laid_math_bits_deBruijn64tab), ("internal/strconv.uint64pow10", Rows.laid_internal_strconv_uint64pow10), ("errors.errorType", Rows.laid_errors_errorType), ("swage/pack.errForm", Rows.laid_swage_pack_errForm), ("swage/pack.errEnd", Rows.laid_swage_pack_errEnd)] w) false (World.doorLaid Tryz.prog 400 os) #[.agg #[.slice none 0 0], .int .i64 0] 8 rfl (World.shaped_of_RefB (by kernel_rfl) (by kernel_rfl)) (by kernel_rfl) (by kernel_rfl) (by kernel_rfl) (door_met os _)) ?_
  intro W base args ds gs before hval0 hW hcnd hsz0 hL _
  have hval : ∀ (j : Nat) t v, Tryz.f3.params[j]? = some t → args[j]? = some v → Value.okWide Tryz.prog W .any base t v := hval0
  have hW' := hW
  obtain ⟨p, q, hA0, hV, rfl, hfz, hnd⟩ := hW
  have hA : DataW.TrodAll enc Tryz.prog W 0 (fun _ => true) true Tryz.f3.params.toList args.toList ds p := hA0
  have hsz : (DataW.weightsEach Tryz.prog (Tryz.f3.params.toList ++ Rows.verifiesSpec.plain.varTypes Tryz.prog) (ds ++ gs)).all (· ≤ reachBytes) = true := hsz0
  rw [Tryz.params3] at hA hval hsz
  obtain ⟨v0, vs0, d0, ds0, p0, q0, hargs, rfl, rfl, h0, r0⟩ := trodAll_cons hA
  obtain ⟨v1, vs1, d1, ds1, p1, q1, rfl, rfl, rfl, h1, r1⟩ := trodAll_cons r0
  obtain ⟨rfl, rfl, rfl⟩ := trodAll_nil r1
  obtain rfl : args = #[v0, v1] := by cases args; simp_all
  obtain ⟨rfl, rfl⟩ := trodVars_none hV
  have k0 := h0
  have lt0 : ∀ x ∈ p0, x.block < W.heap.size := by obtain ⟨m, hm⟩ := k0; exact DataW.trod_lt m _ _ _ hm
  have k1 := h1
  have lt1 : ∀ x ∈ p1, x.block < W.heap.size := by obtain ⟨m, hm⟩ := k1; exact DataW.trod_lt m _ _ _ hm
  obtain ⟨a0, n0, c0, l0, rfl, w0⟩ := open_program (hval 0 24 v0 rfl rfl) h0 (fun k hk => by simpa using List.all_eq_true.1 hsz k (DataW.weights_mem_each (j := 0) rfl rfl k hk))
  obtain ⟨a1, rfl, rfl, rfl, w1⟩ := open_int Tryz.underlying3 (hval 1 3 v1 rfl rfl) h1
  clear hA0 hval0
  refine (walk a0 n0 c0 l0 a1 W w0 w1 (ld_of hL)).mono fun e W' ⟨he, bel⟩ => ?_
  subst he
  exact ⟨_, rfl, _, _, _, [], _, [], hW', trodAll_mk1 (shut_bool Tryz.underlying4 _), (trodAll_cons_mk (Below.trod laidOut (by kernel_rfl) (of_decide_eq_true (by kernel_rfl)) k0 bel lt0) (trodAll_cons_mk (Below.trod laidOut (by kernel_rfl) (of_decide_eq_true (by kernel_rfl)) k1 bel lt1) trodAll_mk0)), rfl, bel.frame _, fun h => by cases h⟩

theorem over : Rows.verifiesRow.holds Tryz.pinned (OpenSpec.ofChange Rows.verifiesSpec) :=
  OpenClaim.holds_of_wide 3 Tryz.f3 rfl rfl rfl rfl rfl rfl rfl ⟨rfl, rfl, rfl, rfl, rfl⟩ rfl rfl rfl rfl rfl (by kernel_rfl) Tryz.func3 (by kernel_rfl)
    (of_decide_eq_true (by kernel_rfl)) (by unfold Func.isWrapper; first | (rw [if_pos (by decide +kernel)]; kernel_rfl) | (rw [if_neg (by decide +kernel)]; exact ⟨rfl, rfl⟩))
    (fun os started H enc _ => lifted os started H enc)
end Go.Proofs.YtnmhoahkmampkaaGreatDoor.verifies
namespace Go.Proofs.YtnmhoahkmampkaaGreatDoor
open Go
theorem verifies_holds : Rows.VerifiesCardSaid :=
  Claim7.holds_tied_plain_at .later [] [.data, .data, .data, .handle, .sentinel, .sentinel] true (true, "10089f75fa0ab85cfc1497fa887a67bd97855363fd0769559cb79d63b501dd70") true
    verifies.over (fun _ h => by cases h) (by kernel_rfl) (fun _ h => by cases h) verifies_row_tie rfl ⟨rfl, rfl⟩ (by kernel_rfl) rfl
    (fun f fn hf hfn => by
      obtain rfl : f = 3 := Option.some.inj ((show Tryz.prog.funcNamed "swage/swagelaw5.Verifies" = some 3 by kernel_rfl).symm.trans hf) |>.symm
      obtain rfl : fn = Tryz.f3 := (Option.some.inj (Tryz.func3.symm.trans hfn)).symm
      exact ⟨by kernel_rfl, fun j t ht => by
        rw [Tryz.params3] at ht
        have hm : t ∈ [24, 3] := by simpa using Array.mem_of_getElem? ht
        have hall : ([24, 3].all fun u => !Tryz.prog.wantsStandIn u) = true := by kernel_rfl
        exact (show Tryz.prog.wantsStandIn t = false by simpa using List.all_eq_true.1 hall t hm)⟩)
    (by kernel_rfl)
#print axioms verifies_holds
end Go.Proofs.YtnmhoahkmampkaaGreatDoor
