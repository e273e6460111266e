/- For any program and any state the law StepKeeps returns true: from a state that may be step.Step leads to one that may be; each costs one, and prints one at most; what is over stays; no conditions. -/
import Derived.Test.YtbbfgdkjgolieaaGreatDoorRows
import Derived.WalkKit
import Derived.ProofKit
import Derived.OpenShut
import Derived.ShutString
import Derived.ChangeOld
import Derived.Below
import Derived.Carry
import Derived.Lib.SmallJoins
import Derived.Handy
import Derived.WalkSmall
import Derived.SizedLaws
import Derived.Test.YtbbfgdkjgolieaaGreatDoorOpen
import Derived.Test.YtbbfgdkjgolieaaGreatDoorOpenFr
import Derived.Test.YtbbfgdkjgolieaaGreatDoorLaidOpenV
import Derived.Test.YtbbfgdkjgolieaaGreatDoorCards
import Derived.Test.YtbbfgdkjgolieaaGreatDoorTie
import Derived.SevenTiedAt
import Derived.LaidMore
import Derived.Stop.Joined
import Derived.Test.YtbbfgdkjgolieaaGreatDoorJ7
namespace Go.Proofs.YtbbfgdkjgolieaaGreatDoor.stepKeeps
open Go.ChangeShapes Go.WideShapes Go.ChangeAt Go.RowKit
open Go.ChangeMaps (open_string shut_string)
set_option linter.unusedVariables false

theorem own : ownKnob Tryz.prog.godebug = none := by kernel_rfl
theorem laidOut : laidOutB Tryz.prog = true := by kernel_rfl

set_option maxRecDepth 100000 in
set_option maxHeartbeats 20000000 in
theorem walk (a0 : Option Addr) (n0 c0 : Nat) (l0 : List Fn) (fa1 : Option Addr) (fn1 fc1 : Nat) (fs1 : List Fr) (fu1 : Int) (oa1 : Option Addr) (on1 oc1 : Nat) (os1 : List Int) (dn1 vl1 : Int) (w : World) (w0 : Fns w a0 n0 c0 l0) (wf1 : Frs w fa1 fn1 fc1 fs1) (wo1 : Ints w oa1 on1 oc1 os1) (ld : Ld w) :
    Calls Tryz.prog 4 #[.agg #[.slice a0 n0 c0], .agg #[.slice fa1 fn1 fc1, .int .i64 fu1, .slice oa1 on1 oc1, .int .i64 dn1, .int .i64 vl1]] w fun e w' => e = .returned (.bool true) ∧ Below w.heap.size w w' := by
  have LD0 := hid ld
  clear ld
  have WP := hid w0
  have WF := hid wf1
  have WO := hid wo1
  have hor := wo1.room
  have hoc := wo1.cap
  have hfr := wf1.room
  have hfc := wf1.cap
  have HOL := hid wo1.len
  have HFL := hid wf1.len
  clear w0 wf1 wo1
  go_enter Tryz.func4, Tryz.ntmps4
  go_wp2_with fail
  refine (awake7_any _ (LD0.out.up (by go_grown))).mono ?_
  rintro e u1 ⟨rfl, b1⟩
  have P1 := hid (kept_cell b1 (b := w.heap.size) (o := 0) (v := .slice a0 n0 c0) (by simp [go_sem]))
  have X1 : Hid (SX u1 (w.heap.size + 1) (.slice fa1 fn1 fc1) fu1 (.slice oa1 on1 oc1) dn1 vl1) := hid (SX.kept ⟨by simp [go_sem], by simp [go_sem], by simp [go_sem], by simp [go_sem], by simp [go_sem], by simp [go_sem], by simp [go_sem]⟩ b1)
  have B1 : Hid (Below w.heap.size w u1) := hid (kt (by go_grown) b1)
  clear b1
  have p1 := P1.out
  obtain ⟨k0, k1, k2, k3, k4, _, _⟩ := X1.out
  go_wp2_with fail
  refine (stepStep_any _ _ _ l0 _ _ _ fs1 fu1 _ _ _ os1 dn1 vl1 _ (WP.out.kept B1.out) (WF.out.kept B1.out) (WO.out.kept B1.out) (LD0.out.up B1.out)).mono ?_
  clear k0 k1 k2 k3 k4 p1
  cases hsb : stateB l0 (fs1, fu1, os1, dn1, vl1)
  · rw [(stepS_no hsb).1, (stepS_no hsb).2]
    simp only [noSt]
    rintro e u2 ⟨va, vn, vc, oa', on', oc', rfl, o2, r2, b2⟩
    obtain ⟨_, _, _, e1, h1⟩ := o2.reads (by decide)
    cases e1
    obtain ⟨_, _, _, e2, h2⟩ := ints_of_owns r2.2 r2.1
    cases e2
    have hA : Below u2.heap.size u2 (u2.alloc (.cells #[.slice va vn vc, .int .i64 0, .slice oa' on' oc', .int .i64 0, .int .i64 0] 28)) := Below.alloc (Below.refl _ _) (Nat.le_refl _) _
    have D2 := hid (kt b2 hA)
    have B2 := hid (kt B1.out D2.out)
    have p2 := kept_cell D2.out P1.out
    obtain ⟨k0, k1, k2, k3, k4, _, _⟩ := X1.out.kept D2.out
    have T2 := hid (And.intro (h1.kept hA) (h2.kept hA))
    have Y2 : Hid (SX (u2.alloc (.cells #[.slice va vn vc, .int .i64 0, .slice oa' on' oc', .int .i64 0, .int .i64 0] 28)) u2.heap.size (.slice va vn vc) 0 (.slice oa' on' oc') 0 0) := hid ⟨by simp [go_sem], by simp [go_sem], by simp [go_sem], by simp [go_sem], by simp [go_sem], by simp [go_sem], by simp [go_sem]⟩
    clear o2 r2 b2 hA h1 h2
    go_wp2_with (go_at_call 14; refine (num_any _ _).mono ?_; rintro e x ⟨rfl, hw⟩; rw [hw]; clear hw)
    refine (frameState_any _ _ _ l0 _ _ _ fs1 fu1 _ _ _ os1 dn1 vl1 _ (WP.out.kept B2.out) (WF.out.kept B2.out) (WO.out.kept B2.out) (LD0.out.up B2.out)).mono ?_
    rintro e u3 ⟨rfl, b3⟩
    rw [hsb]
    have B3 := hid (kt B2.out b3)
    have T3 := hid (And.intro (T2.out.1.kept b3) (T2.out.2.kept b3))
    obtain ⟨d0, d1, d2, d3, d4, _, _⟩ := Y2.out.kept b3
    clear b3 k0 k1 k2 k3 k4 p2
    go_wp2_with fail
    refine (sameState_any _ _ _ [] 0 _ _ _ [] 0 0 none 0 0 [] 0 none 0 0 [] 0 0 _ T3.out.1 T3.out.2 (Frs.nil _) (Ints.nil _)).mono ?_
    rintro e u4 ⟨rfl, b4⟩
    rw [sameS_self]
    have B4 := hid (kt B3.out b4)
    clear b4 d0 d1 d2 d3 d4
    go_wp2_with fail
    go_ret
    exact ⟨rfl, B4.out⟩
  · rw [(stepS_yes hsb).1, (stepS_yes hsb).2]
    have HA := step_all hsb
    have hfb : 0 ≤ fu1 ∧ fu1 ≤ 100000 := by
      have := (state_parts hsb).2.1
      simp [fuelB] at this
      omega
    generalize stepV l0 (fs1, fu1, os1, dn1, vl1) = S at HA ⊢
    obtain ⟨Sf, Sfu, So, Sd, Sv⟩ := S
    simp only [] at HA ⊢
    obtain ⟨hst, ⟨tl, rfl, htl⟩, hcase⟩ := HA
    have HST := hid hst
    have HSF : Sf.length ≤ 12 := by
      obtain ⟨_, _, _, ho, _⟩ := state_parts hst
      simp only [] at ho
      unfold outB at ho
      split at ho
      · simp at ho; omega
      · split at ho
        · simp at ho; rw [ho.2]; simp
        · simp at ho; rw [ho.2.2]; simp
    rintro e u2 ⟨va, vn, vc, oa', on', oc', rfl, o2, r2, b2⟩
    obtain ⟨_, _, _, e1, h1⟩ := o2.reads (by omega)
    cases e1
    obtain ⟨_, _, _, e2, h2⟩ := ints_of_owns r2.2 r2.1
    cases e2
    have hA : Below u2.heap.size u2 (u2.alloc (.cells #[.slice va vn vc, .int .i64 Sfu, .slice oa' on' oc', .int .i64 Sd, .int .i64 Sv] 28)) := Below.alloc (Below.refl _ _) (Nat.le_refl _) _
    have D2 := hid (kt b2 hA)
    have B2 := hid (kt B1.out D2.out)
    have p2 := kept_cell D2.out P1.out
    have X2 := hid (X1.out.kept D2.out)
    have T2 := hid (And.intro (h1.kept hA) (h2.kept hA))
    have Y2 : Hid (SX (u2.alloc (.cells #[.slice va vn vc, .int .i64 Sfu, .slice oa' on' oc', .int .i64 Sd, .int .i64 Sv] 28)) u2.heap.size (.slice va vn vc) Sfu (.slice oa' on' oc') Sd Sv) := hid ⟨by simp [go_sem], by simp [go_sem], by simp [go_sem], by simp [go_sem], by simp [go_sem], by simp [go_sem], by simp [go_sem]⟩
    obtain ⟨d0, d1, d2, d3, d4, _, _⟩ := Y2.out
    have HLN : Hid (on' = on1 + tl.length ∧ vn = Sf.length) := hid ⟨by have := h2.len; rw [List.length_append, ← HOL.out] at this; exact this, h1.len⟩
    have hlr := h2.room
    have hlc := h2.cap
    have hlvc := h1.cap
    clear o2 r2 b2 hA h1 h2 hst
    go_wp2_with (go_at_call 14; refine (num_any _ _).mono ?_; rintro e x ⟨rfl, hw⟩; rw [hw]; clear hw)
    refine (frameState_any _ _ _ l0 _ _ _ Sf Sfu _ _ _ (os1 ++ tl) Sd Sv _ (WP.out.kept B2.out) T2.out.1 T2.out.2 (LD0.out.up B2.out)).mono ?_
    rintro e u3 ⟨rfl, b3⟩
    rw [HST.out]
    have B3 := hid (kt B2.out b3)
    have T3 := hid (And.intro (T2.out.1.kept b3) (T2.out.2.kept b3))
    have Y3 := hid (Y2.out.kept b3)
    have X3 := hid (X2.out.kept b3)
    have k2 := X3.out.c2
    have q2 := Y3.out.c2
    clear b3 p2 d0 d1 d2 d3 d4
    go_wp2_with fail
    refine (begins_any _ _ _ _ _ _ os1 (os1 ++ tl) _ (WO.out.kept B3.out) T3.out.2 (by simp) (by simp)).mono ?_
    rintro e u4 ⟨rfl, b4⟩
    have B4 := hid (kt B3.out b4)
    have T4 := hid (And.intro (T3.out.1.kept b4) (T3.out.2.kept b4))
    have Y4 := hid (Y3.out.kept b4)
    have X4 := hid (X3.out.kept b4)
    obtain ⟨k0, k1, k2', k3, k4, _, _⟩ := X4.out
    obtain ⟨d0, d1, d2, d3, d4, _, _⟩ := Y4.out
    have hgt : decide ((on1 : Int) + 1 < (on' : Int)) = false := by have := HLN.out.1; simp; omega
    have hgt' : decide (on1 + 1 < on') = false := by have := HLN.out.1; simp; omega
    clear b4 k2 q2
    rcases hcase with ⟨hd, e⟩ | ⟨hd, hf, e⟩ | ⟨hd, hf, hs⟩
    · have hd' : (dn1 != 0) = true := by simpa using hd
      obtain ⟨rfl, rfl, e3, rfl, rfl⟩ : Sf = fs1 ∧ Sfu = fu1 ∧ os1 ++ tl = os1 ∧ Sd = dn1 ∧ Sv = vl1 := by simpa using e
      rw [e3] at T4
      clear e hd
      go_wp2_with fail
      refine (sameState_any _ _ _ Sf Sfu _ _ _ os1 Sd Sv _ _ _ Sf Sfu _ _ _ os1 Sd Sv _ (WF.out.kept B4.out) (WO.out.kept B4.out) T4.out.1 T4.out.2).mono ?_
      rintro e u5 ⟨rfl, b5⟩
      rw [sameS_self]
      have B5 := hid (kt B4.out b5)
      clear b5
      go_wp2_with fail
      go_ret
      exact ⟨rfl, B5.out⟩
    · subst hd
      subst hf
      obtain ⟨rfl, rfl, e3, rfl, rfl⟩ : Sf = [] ∧ Sfu = 0 ∧ os1 ++ tl = os1 ∧ Sd = 4 ∧ Sv = 0 := by simpa using e
      obtain rfl : on' = on1 := by have h3 := congrArg List.length e3; rw [List.length_append] at h3; have := HLN.out.1; omega
      clear e e3
      go_wp2_with fail
      go_ret
      exact ⟨by simp, B4.out⟩
    · subst hd
      have hf' : (fu1 == 0) = false := by simpa using hf
      obtain ⟨hs1, _, hs3, hs4⟩ := hs
      simp only [] at hs1 hs3 hs4
      subst hs1
      have hfr' : decide ((vn : Int) ≤ (fn1 : Int) + 1) = true := by have := HLN.out.2; have := HFL.out; simp; omega
      have hfr2 : decide (vn ≤ fn1 + 1) = true := by have := HLN.out.2; have := HFL.out; simp; omega
      have hs4' : (Sd != 4) = true := by simpa using hs4
      clear hf hs4
      go_wp2_with fail
      go_ret
      exact ⟨by simp, B4.out⟩

set_option maxRecDepth 100000 in
theorem lifted (os : Os) (started : os.Started) (H : Type) (enc : TypeId × Value → H) :
    ReturnsInHanded {} Tryz.checked os 4 .any (fun w args => (Rows.stepKeepsSpec.pre enc Tryz.prog Tryz.f4 [] false w args ∧ laidMetH Tryz.prog [("math/bits.deBruijn32tab", Rows.laid_math_bits_deBruijn32tab), ("math/bits.deBruijn64tab", Rows.laid_math_bits_deBruijn64tab), ("internal/strconv.uint64pow10", Rows.laid_internal_strconv_uint64pow10), ("errors.errorType", Rows.laid_errors_errorType), ("swage/pack.errForm", Rows.laid_swage_pack_errForm), ("swage/pack.errEnd", Rows.laid_swage_pack_errEnd)] w) ∧ sizedMet enc Tryz.prog Tryz.f4 (OpenSpec.ofChange Rows.stepKeepsSpec) false w args) (Rows.stepKeepsSpec.post enc Tryz.prog Tryz.f4 false true false false) := by
  refine returnsInHanded_of_change_and (C := Tryz.checked) (X := fun w _ => laidMetH Tryz.prog [("math/bits.deBruijn32tab", Rows.laid_math_bits_deBruijn32tab), ("math/bits.deBruijn64tab", Rows.laid_math_bits_deBruijn64tab), ("internal/strconv.uint64pow10", Rows.laid_internal_strconv_uint64pow10), ("errors.errorType", Rows.laid_errors_errorType), ("swage/pack.errForm", Rows.laid_swage_pack_errForm), ("swage/pack.errEnd", Rows.laid_swage_pack_errEnd)] w) (fun _ _ _ hh h => h.of_heap hh) own started (by kernel_rfl) Tryz.func4
    (ChangeSpec.witness_shaped (enc := enc) (C := Tryz.checked) (os := os) (X := fun w _ => laidMetH Tryz.prog [("math/bits.deBruijn32tab", Rows.laid_math_bits_deBruijn32tab), ("math/bits.deBruijn64tab", Rows.laid_math_bits_deBruijn64tab), ("internal/strconv.uint64pow10", Rows.laid_internal_strconv_uint64pow10), ("errors.errorType", Rows.laid_errors_errorType), ("swage/pack.errForm", Rows.laid_swage_pack_errForm), ("swage/pack.errEnd", Rows.laid_swage_pack_errEnd)] w) false (World.doorLaid Tryz.prog 400 os) #[.agg #[.slice none 0 0], .agg #[.slice none 0 0, .int .i64 0, .slice none 0 0, .int .i64 0, .int .i64 0]] 8 rfl (World.shaped_of_RefB (by kernel_rfl) (by kernel_rfl)) (by kernel_rfl) (by kernel_rfl) (by kernel_rfl) (door_met os _)) ?_
  intro W base args ds gs before hval0 hW hcnd hsz0 hL _
  have hval : ∀ (j : Nat) t v, Tryz.f4.params[j]? = some t → args[j]? = some v → Value.okWide Tryz.prog W .any base t v := hval0
  have hW' := hW
  obtain ⟨p, q, hA0, hV, rfl, hfz, hnd⟩ := hW
  have hA : DataW.TrodAll enc Tryz.prog W 0 (fun _ => true) true Tryz.f4.params.toList args.toList ds p := hA0
  have hsz : (DataW.weightsEach Tryz.prog (Tryz.f4.params.toList ++ Rows.stepKeepsSpec.plain.varTypes Tryz.prog) (ds ++ gs)).all (· ≤ reachBytes) = true := hsz0
  rw [Tryz.params4] at hA hval hsz
  obtain ⟨v0, vs0, d0, ds0, p0, q0, hargs, rfl, rfl, h0, r0⟩ := trodAll_cons hA
  obtain ⟨v1, vs1, d1, ds1, p1, q1, rfl, rfl, rfl, h1, r1⟩ := trodAll_cons r0
  obtain ⟨rfl, rfl, rfl⟩ := trodAll_nil r1
  obtain rfl : args = #[v0, v1] := by cases args; simp_all
  obtain ⟨rfl, rfl⟩ := trodVars_none hV
  have k0 := h0
  have lt0 : ∀ x ∈ p0, x.block < W.heap.size := by obtain ⟨m, hm⟩ := k0; exact DataW.trod_lt m _ _ _ hm
  have k1 := h1
  have lt1 : ∀ x ∈ p1, x.block < W.heap.size := by obtain ⟨m, hm⟩ := k1; exact DataW.trod_lt m _ _ _ hm
  obtain ⟨a0, n0, c0, l0, rfl, w0⟩ := open_program (hval 0 24 v0 rfl rfl) h0 (fun k hk => by simpa using List.all_eq_true.1 hsz k (DataW.weights_mem_each (j := 0) rfl rfl k hk))
  obtain ⟨fa1, fn1, fc1, fs1, fu1, oa1, on1, oc1, os1, dn1, vl1, rfl, wf1, wo1, _, _, _⟩ := open_state (hval 1 28 v1 rfl rfl) h1 (fun k hk => by simpa using List.all_eq_true.1 hsz k (DataW.weights_mem_each (j := 1) rfl rfl k hk))
  clear hA0 hval0
  refine (walk a0 n0 c0 l0 fa1 fn1 fc1 fs1 fu1 oa1 on1 oc1 os1 dn1 vl1 W w0 wf1 wo1 (ld_of hL)).mono fun e W' ⟨he, bel⟩ => ?_
  subst he
  exact ⟨_, rfl, _, _, _, [], _, [], hW', trodAll_mk1 (shut_bool Tryz.underlying4 _), (trodAll_cons_mk (Below.trod laidOut (by kernel_rfl) (of_decide_eq_true (by kernel_rfl)) k0 bel lt0) (trodAll_cons_mk (Below.trod laidOut (by kernel_rfl) (of_decide_eq_true (by kernel_rfl)) k1 bel lt1) trodAll_mk0)), rfl, bel.frame _, fun h => by cases h⟩

theorem over : Rows.stepKeepsRow.holds Tryz.pinned (OpenSpec.ofChange Rows.stepKeepsSpec) :=
  OpenClaim.holds_of_wide 4 Tryz.f4 rfl rfl rfl rfl rfl rfl rfl ⟨rfl, rfl, rfl, rfl, rfl⟩ rfl rfl rfl rfl rfl (by kernel_rfl) Tryz.func4 (by kernel_rfl)
    (of_decide_eq_true (by kernel_rfl)) (by unfold Func.isWrapper; first | (rw [if_pos (by decide +kernel)]; kernel_rfl) | (rw [if_neg (by decide +kernel)]; exact ⟨rfl, rfl⟩))
    (fun os started H enc _ => lifted os started H enc)
end Go.Proofs.YtbbfgdkjgolieaaGreatDoor.stepKeeps
namespace Go.Proofs.YtbbfgdkjgolieaaGreatDoor
open Go
theorem stepKeeps_holds : Rows.StepKeepsCardSaid :=
  Claim7.holds_tied_plain_at .later [] [.data, .data, .data, .handle, .sentinel, .sentinel] true (true, "8b61cba96b38510dc3fa36b3690f22bb9b19fd11ad27bd3ebf2d0f44ede254d6") true
    stepKeeps.over (fun _ h => by cases h) (by kernel_rfl) (fun _ h => by cases h) stepKeeps_row_tie rfl ⟨rfl, rfl⟩ (by kernel_rfl) rfl
    (fun f fn hf hfn => by
      obtain rfl : f = 4 := Option.some.inj ((show Tryz.prog.funcNamed "swage/swagelaw7.StepKeeps" = some 4 by kernel_rfl).symm.trans hf) |>.symm
      obtain rfl : fn = Tryz.f4 := (Option.some.inj (Tryz.func4.symm.trans hfn)).symm
      exact ⟨by kernel_rfl, fun j t ht => by
        rw [Tryz.params4] at ht
        have hm : t ∈ [24, 28] := by simpa using Array.mem_of_getElem? ht
        have hall : ([24, 28].all fun u => !Tryz.prog.wantsStandIn u) = true := by kernel_rfl
        exact (show Tryz.prog.wantsStandIn t = false by simpa using List.all_eq_true.1 hall t hm)⟩)
    (by kernel_rfl)
#print axioms stepKeeps_holds
end Go.Proofs.YtbbfgdkjgolieaaGreatDoor
