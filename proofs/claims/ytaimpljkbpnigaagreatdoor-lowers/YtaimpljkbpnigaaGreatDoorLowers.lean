/- For any program and any integer the law Lowers returns true: lower.Lower answers as the document's own reckoning does, in memory of its own, and the program stays as it is. (The package's variables hold what the program's text lays.) -/
import Derived.Test.YtaimpljkbpnigaaGreatDoorRows
import Derived.WalkKit
import Derived.ProofKit
import Derived.OpenShut
import Derived.ShutString
import Derived.ChangeOld
import Derived.Below
import Derived.Carry
import Derived.Lib.SmallJoins
import Derived.Handy
import Derived.WalkSmall
import Derived.SizedLaws
import Derived.Test.YtaimpljkbpnigaaGreatDoorOpen
import Derived.Test.YtaimpljkbpnigaaGreatDoorLaidOpenV
import Derived.Test.YtaimpljkbpnigaaGreatDoorCards
import Derived.Test.YtaimpljkbpnigaaGreatDoorTie
import Derived.SevenTiedAt
import Derived.LaidMore
import Derived.Stop.Joined
import Derived.Test.YtaimpljkbpnigaaGreatDoorJ11f
import Derived.Test.YtaimpljkbpnigaaGreatDoorJ10d
import Derived.Test.YtaimpljkbpnigaaGreatDoorJ11c
import Derived.Test.YtaimpljkbpnigaaGreatDoorJ11d
import Derived.Test.YtaimpljkbpnigaaGreatDoorJ10a
import Derived.Test.YtaimpljkbpnigaaGreatDoorJ10f
namespace Go.Proofs.YtaimpljkbpnigaaGreatDoor.lowers
open Go.ChangeShapes Go.WideShapes Go.ChangeAt Go.RowKit
open Go.ChangeMaps (open_string shut_string)
set_option linter.unusedVariables false

theorem own : ownKnob Tryz.prog.godebug = none := by kernel_rfl
theorem laidOut : laidOutB Tryz.prog = true := by kernel_rfl

theorem calls_inI {P : Program} {f : FuncId} {args : Array Value} {w w' : World} {Q : Ending → World → Prop} (e : w = w') (h : Calls P f args w' Q) : Calls P f args w Q := e ▸ h
set_option maxRecDepth 100000 in
set_option maxHeartbeats 20000000 in
theorem walk (a0 : Option Addr) (n0 c0 : Nat) (l0 : List Fn) (a1 : Int) (w : World) (w0 : Fns w a0 n0 c0 l0) (w1 : (Lit.int .i64 a1).wf = true) (ld : Ld w) :
    Calls Tryz.prog 3 #[.agg #[.slice a0 n0 c0], .int .i64 a1] w fun e w' => e = .returned (.bool true) ∧ Below w.heap.size w w' := by
  have LD0 := hid ld
  clear ld
  have W0 := hid w0
  have HL0 : Hid (l0.length * 40 ≤ 140737488351232) := hid (by rw [← w0.len]; exact w0.room)
  clear w0
  have U0 : Hid (∃ U : World, U = w.alloc (.cells #[.slice a0 n0 c0] 24)) := hid ⟨_, rfl⟩
  obtain ⟨U, hU⟩ := U0.out
  have BU : Hid (Below w.heap.size w U) := hid (by rw [hU]; go_grown)
  have P0 : Hid (U.cell? ⟨w.heap.size, 0, none⟩ = some (.slice a0 n0 c0)) := hid (by rw [hU]; simp [go_sem])
  have EU := hid hU
  clear hU U0
  go_enter Tryz.func3, Tryz.ntmps3
  go_wp2_with fail
  refine calls_inI (w' := U) (by rw [EU.out]) ?_
  refine (copyProgram_any _ _ _ l0 _ (W0.out.kept BU.out)).mono ?_
  rintro e u1 ⟨vx, rfl, ox, b1⟩
  obtain ⟨xa, xn, xc, rfl, rx⟩ := ox.reads HL0.out
  have B1 := hid b1
  have RX := hid rx
  clear b1 rx ox EU
  go_upto_region 2 with fail
  refine wp_name ?_
  intro X hX
  have AX : Hid (Below u1.heap.size u1 X) := hid (by rw [hX]; exact Below.alloc (Below.refl _ _) (Nat.le_refl _) _)
  have UX : Hid (Below U.heap.size U X) := hid (kt B1.out AX.out)
  have BX : Hid (Below w.heap.size w X) := hid (kt BU.out UX.out)
  have p0 := kept_cell UX.out P0.out
  have x0 : X.cell? ⟨u1.heap.size, 0, none⟩ = some (.slice xa xn xc) := by rw [hX]; simp [go_sem]
  have PX := hid (And.intro p0 x0)
  have XR := hid (RX.out.kept AX.out)
  have WX := hid (W0.out.kept BX.out)
  have LDX := hid (LD0.out.up BX.out)
  clear hX RX W0 LD0
  obtain ⟨⟨cf, rg, cl, ml⟩, hV⟩ : ∃ x, lowerV l0 a1 = x := ⟨_, rfl⟩
  obtain ⟨E, hE⟩ : ∃ x, lowerE l0 a1 = x := ⟨_, rfl⟩
  have LA := lwrLower_any xa xn xc l0 a1 X XR.out LDX.out
  rw [hV, hE] at LA
  have LA' := hid LA
  have HV := hid hV
  have HE := hid hE
  clear LA hV hE p0
  go_wp2_with fail
  refine LA'.out.mono ?_
  rintro e v1 ⟨av, am, N1, N2, rfl, oa, oam, h1, h2, -, b⟩
  obtain ⟨ca, cn, cc, rfl, ra⟩ := oa.reads
  obtain ⟨ma, mn, mc, rfl, rm⟩ := oam.reads
  have SA := hid (oa.soft (base := X.heap.size) (fun b hb _ => h1 b hb))
  have SM := hid (oam.soft (base := X.heap.size) (fun b hb _ => h2 b hb))
  have RA := hid ra
  have RM := hid rm
  have V1 := hid b
  clear oa oam h1 h2 ra rm b x0
  go_upto_region 3 with fail
  refine wp_name ?_
  intro Y hY
  have AY : Hid (Below v1.heap.size v1 Y) := hid (by rw [hY]; exact Below.alloc (Below.refl _ _) (Nat.le_refl _) _)
  have CA : Hid (Y.cell? ⟨v1.heap.size, 0, none⟩ = some (.int .i64 cf) ∧ Y.cell? ⟨v1.heap.size, 1, none⟩ = some (.int .i64 rg) ∧ Y.cell? ⟨v1.heap.size, 2, none⟩ = some (.slice ca cn cc) ∧ Y.cell? ⟨v1.heap.size, 3, none⟩ = some (.slice ma mn mc)) := hid (by rw [hY]; exact ⟨by simp [go_sem], by simp [go_sem], by simp [go_sem], by simp [go_sem]⟩)
  have XY : Hid (Below X.heap.size X Y) := hid (kt V1.out AY.out)
  have p0 := kept_cell XY.out PX.out.1
  have LB := refLower_any a0 n0 c0 l0 a1 Y (WX.out.kept XY.out)
  rw [HV.out, HE.out] at LB
  have LB' := hid LB
  clear LB hY
  go_wp2_with fail
  refine LB'.out.mono ?_
  rintro e v2 ⟨bv, bm, N1, N2, rfl, ob, obm, -, -, -, b⟩
  obtain ⟨ba, bn, bc, rfl, rb⟩ := ob.reads
  obtain ⟨na, nn, nc, rfl, rn⟩ := obm.reads
  have RB := hid rb
  have RN := hid rn
  have V2 := hid b
  clear ob obm rb rn b p0
  go_upto_region 4 with fail
  refine wp_name ?_
  intro Z hZ
  have AZ : Hid (Below v2.heap.size v2 Z) := hid (by rw [hZ]; exact Below.alloc (Below.refl _ _) (Nat.le_refl _) _)
  have z0 : Z.cell? ⟨v2.heap.size, 0, none⟩ = some (.int .i64 cf) := by rw [hZ]; simp [go_sem]
  have z1 : Z.cell? ⟨v2.heap.size, 1, none⟩ = some (.int .i64 rg) := by rw [hZ]; simp [go_sem]
  have z2 : Z.cell? ⟨v2.heap.size, 2, none⟩ = some (.slice ba bn bc) := by rw [hZ]; simp [go_sem]
  have z3 : Z.cell? ⟨v2.heap.size, 3, none⟩ = some (.slice na nn nc) := by rw [hZ]; simp [go_sem]
  have YZ : Hid (Below Y.heap.size Y Z) := hid (kt V2.out AZ.out)
  have y0 := kept_cell YZ.out CA.out.1
  have y1 := kept_cell YZ.out CA.out.2.1
  have y2 := kept_cell YZ.out CA.out.2.2.1
  have y3 := kept_cell YZ.out CA.out.2.2.2
  clear hZ
  go_wp2_with fail
  refine (sameCode_same _ _ _ _ _ _ _ _ _ _ _ _ _ _ cl ml _ (RA.out.kept (kt AY.out YZ.out)) (RM.out.kept (kt AY.out YZ.out)) (RB.out.kept AZ.out) (RN.out.kept AZ.out)).mono ?_
  rintro e v3 ⟨rfl, b⟩
  have XV : Hid (Below X.heap.size X v3) := hid (kt XY.out (kt YZ.out b))
  have V13 : Hid (Below v1.heap.size v1 v3) := hid (kt AY.out (kt YZ.out b))
  replace y0 := kept_cell b y0
  replace y1 := kept_cell b y1
  replace y2 := kept_cell b y2
  replace y3 := kept_cell b y3
  clear b z0 z1 z2 z3
  go_wp2_with (first | (go_at_call 11; refine (num_any _ _).mono ?_; rintro e w' ⟨rfl, hw⟩; rw [hw]; clear hw))
  have SA3 := hid (SA.out.like (Like.of_below V13.out))
  have SM3 := hid (SM.out.like (Like.of_below V13.out))
  have hz3 : X.heap.size ≤ v3.heap.size := XV.out.size
  refine (spoilCode_any _ _ _ _ _ _ _ _ X.heap.size _ SA3.out SM3.out RA.out.room RA.out.cap RM.out.room RM.out.cap hz3).mono ?_
  rintro e v4 ⟨rfl, -, b4⟩
  have X4 : Hid (Below X.heap.size X v4) := hid (XV.out.trans b4)
  have p4 := kept_cell X4.out PX.out.1
  have x4 := kept_cell X4.out PX.out.2
  clear b4 y0 y1 y2 y3
  go_wp2_with fail
  refine (sameProgram_any _ _ _ _ _ _ l0 l0 _ (XR.out.kept X4.out) (WX.out.kept X4.out)).mono ?_
  rintro e v5 ⟨rfl, b5⟩
  rw [show decide (l0 = l0) = true by simp]
  have X5 := hid (kt X4.out b5)
  clear b5 p4 x4
  go_wp2_with fail
  refine (awake11_any _ (LDX.out.up X5.out)).mono ?_
  rintro e v6 ⟨rfl, b6⟩
  have BF := hid (kt BX.out (kt X5.out b6))
  clear b6
  go_wp2_with fail
  go_ret
  exact ⟨rfl, BF.out⟩

set_option maxRecDepth 100000 in
theorem lifted (os : Os) (started : os.Started) (H : Type) (enc : TypeId × Value → H) :
    ReturnsInHanded {} Tryz.checked os 3 .any (fun w args => (Rows.lowersSpec.pre enc Tryz.prog Tryz.f3 [] false w args ∧ laidMetH Tryz.prog [("math/bits.deBruijn32tab", Rows.laid_math_bits_deBruijn32tab), ("math/bits.deBruijn64tab", Rows.laid_math_bits_deBruijn64tab), ("internal/strconv.uint64pow10", Rows.laid_internal_strconv_uint64pow10), ("errors.errorType", Rows.laid_errors_errorType), ("swage/pack.errForm", Rows.laid_swage_pack_errForm), ("swage/pack.errEnd", Rows.laid_swage_pack_errEnd)] w) ∧ sizedMet enc Tryz.prog Tryz.f3 (OpenSpec.ofChange Rows.lowersSpec) false w args) (Rows.lowersSpec.post enc Tryz.prog Tryz.f3 false true false false) := by
  refine returnsInHanded_of_change_and (C := Tryz.checked) (X := fun w _ => laidMetH Tryz.prog [("math/bits.deBruijn32tab", Rows.laid_math_bits_deBruijn32tab), ("math/bits.deBruijn64tab", Rows.laid_math_bits_deBruijn64tab), ("internal/strconv.uint64pow10", Rows.laid_internal_strconv_uint64pow10), ("errors.errorType", Rows.laid_errors_errorType), ("swage/pack.errForm", Rows.laid_swage_pack_errForm), ("swage/pack.errEnd", Rows.laid_swage_pack_errEnd)] w) (fun _ _ _ hh h => h.of_heap hh) own started (by kernel_rfl) Tryz.func3
    (ChangeSpec.witness_shaped (enc := enc) (C := Tryz.checked) (os := os) (X := fun w _ => laidMetH Tryz.prog [("math/bits.deBruijn32tab", Rows.laid_math_bits_deBruijn32tab), ("math/bits.deBruijn64tab", Rows.laid_math_bits_deBruijn64tab), ("internal/strconv.uint64pow10", Rows.laid_internal_strconv_uint64pow10), ("errors.errorType", Rows.laid_errors_errorType), ("swage/pack.errForm", Rows.laid_swage_pack_errForm), ("swage/pack.errEnd", Rows.laid_swage_pack_errEnd)] w) false (World.doorLaid Tryz.prog 400 os) #[.agg #[.slice none 0 0], .int .i64 0] 8 rfl (World.shaped_of_RefB (by kernel_rfl) (by kernel_rfl)) (by kernel_rfl) (by kernel_rfl) (by kernel_rfl) (door_met os _)) ?_
  intro W base args ds gs before hval0 hW hcnd hsz0 hL _
  have hval : ∀ (j : Nat) t v, Tryz.f3.params[j]? = some t → args[j]? = some v → Value.okWide Tryz.prog W .any base t v := hval0
  have hW' := hW
  obtain ⟨p, q, hA0, hV, rfl, hfz, hnd⟩ := hW
  have hA : DataW.TrodAll enc Tryz.prog W 0 (fun _ => true) true Tryz.f3.params.toList args.toList ds p := hA0
  have hsz : (DataW.weightsEach Tryz.prog (Tryz.f3.params.toList ++ Rows.lowersSpec.plain.varTypes Tryz.prog) (ds ++ gs)).all (· ≤ reachBytes) = true := hsz0
  rw [Tryz.params3] at hA hval hsz
  obtain ⟨v0, vs0, d0, ds0, p0, q0, hargs, rfl, rfl, h0, r0⟩ := trodAll_cons hA
  obtain ⟨v1, vs1, d1, ds1, p1, q1, rfl, rfl, rfl, h1, r1⟩ := trodAll_cons r0
  obtain ⟨rfl, rfl, rfl⟩ := trodAll_nil r1
  obtain rfl : args = #[v0, v1] := by cases args; simp_all
  obtain ⟨rfl, rfl⟩ := trodVars_none hV
  have k0 := h0
  have lt0 : ∀ x ∈ p0, x.block < W.heap.size := by obtain ⟨m, hm⟩ := k0; exact DataW.trod_lt m _ _ _ hm
  have k1 := h1
  have lt1 : ∀ x ∈ p1, x.block < W.heap.size := by obtain ⟨m, hm⟩ := k1; exact DataW.trod_lt m _ _ _ hm
  obtain ⟨a0, n0, c0, l0, rfl, w0⟩ := open_program (hval 0 24 v0 rfl rfl) h0 (fun k hk => by simpa using List.all_eq_true.1 hsz k (DataW.weights_mem_each (j := 0) rfl rfl k hk))
  obtain ⟨a1, rfl, rfl, rfl, w1⟩ := open_int Tryz.underlying3 (hval 1 3 v1 rfl rfl) h1
  clear hA0 hval0
  refine (walk a0 n0 c0 l0 a1 W w0 w1 (ld_of hL)).mono fun e W' ⟨he, bel⟩ => ?_
  subst he
  exact ⟨_, rfl, _, _, _, [], _, [], hW', trodAll_mk1 (shut_bool Tryz.underlying4 _), (trodAll_cons_mk (Below.trod laidOut (by kernel_rfl) (of_decide_eq_true (by kernel_rfl)) k0 bel lt0) (trodAll_cons_mk (Below.trod laidOut (by kernel_rfl) (of_decide_eq_true (by kernel_rfl)) k1 bel lt1) trodAll_mk0)), rfl, bel.frame _, fun h => by cases h⟩

theorem over : Rows.lowersRow.holds Tryz.pinned (OpenSpec.ofChange Rows.lowersSpec) :=
  OpenClaim.holds_of_wide 3 Tryz.f3 rfl rfl rfl rfl rfl rfl rfl ⟨rfl, rfl, rfl, rfl, rfl⟩ rfl rfl rfl rfl rfl (by kernel_rfl) Tryz.func3 (by kernel_rfl)
    (of_decide_eq_true (by kernel_rfl)) (by unfold Func.isWrapper; first | (rw [if_pos (by decide +kernel)]; kernel_rfl) | (rw [if_neg (by decide +kernel)]; exact ⟨rfl, rfl⟩))
    (fun os started H enc _ => lifted os started H enc)
end Go.Proofs.YtaimpljkbpnigaaGreatDoor.lowers
namespace Go.Proofs.YtaimpljkbpnigaaGreatDoor
open Go
theorem lowers_holds : Rows.LowersCardSaid :=
  Claim7.holds_tied_plain_at .later [] [.data, .data, .data, .handle, .sentinel, .sentinel] true (true, "51ad92c745e9affde3203d71f52c7c02a7ce038a9bed1ac76f940f19edd66073") true
    lowers.over (fun _ h => by cases h) (by kernel_rfl) (fun _ h => by cases h) lowers_row_tie rfl ⟨rfl, rfl⟩ (by kernel_rfl) rfl
    (fun f fn hf hfn => by
      obtain rfl : f = 3 := Option.some.inj ((show Tryz.prog.funcNamed "swage/swagelaw11.Lowers" = some 3 by kernel_rfl).symm.trans hf) |>.symm
      obtain rfl : fn = Tryz.f3 := (Option.some.inj (Tryz.func3.symm.trans hfn)).symm
      exact ⟨by kernel_rfl, fun j t ht => by
        rw [Tryz.params3] at ht
        have hm : t ∈ [24, 3] := by simpa using Array.mem_of_getElem? ht
        have hall : ([24, 3].all fun u => !Tryz.prog.wantsStandIn u) = true := by kernel_rfl
        exact (show Tryz.prog.wantsStandIn t = false by simpa using List.all_eq_true.1 hall t hm)⟩)
    (by kernel_rfl)
#print axioms lowers_holds
end Go.Proofs.YtaimpljkbpnigaaGreatDoor
