/- For any program and any state the law EvalSteps returns true: a step ahead turns nothing of what eval.Go comes to; no conditions. -/
import Derived.Test.YtbbfgdkjgolieabGreatDoorRows
import Derived.WalkKit
import Derived.ProofKit
import Derived.OpenShut
import Derived.ShutString
import Derived.ChangeOld
import Derived.Below
import Derived.Carry
import Derived.Lib.SmallJoins
import Derived.Handy
import Derived.WalkSmall
import Derived.SizedLaws
import Derived.Test.YtbbfgdkjgolieabGreatDoorOpen
import Derived.Test.YtbbfgdkjgolieabGreatDoorOpenFr
import Derived.Test.YtbbfgdkjgolieabGreatDoorLaidOpenV
import Derived.Test.YtbbfgdkjgolieabGreatDoorCards
import Derived.Test.YtbbfgdkjgolieabGreatDoorTie
import Derived.SevenTiedAt
import Derived.LaidMore
import Derived.Stop.Joined
import Derived.Test.YtbbfgdkjgolieabGreatDoorJ8
import Derived.Test.YtbbfgdkjgolieabGreatDoorJ7
namespace Go.Proofs.YtbbfgdkjgolieabGreatDoor.evalSteps
open Go.ChangeShapes Go.WideShapes Go.ChangeAt Go.RowKit
open Go.ChangeMaps (open_string shut_string)
set_option linter.unusedVariables false

theorem own : ownKnob Tryz.prog.godebug = none := by kernel_rfl
theorem laidOut : laidOutB Tryz.prog = true := by kernel_rfl

theorem frames_le {ps : List Fn} {s : St} (h : stateB ps s = true) : s.1.length ≤ 12 := by
  obtain ⟨_, _, _, ho, _⟩ := state_parts h
  unfold outB at ho
  split at ho
  · simp at ho; omega
  · split at ho
    · simp at ho; rw [ho.2]; simp
    · simp at ho; rw [ho.2.2]; simp
/-- What the law asks of what is told. -/
theorem steps_ask (ps : List Fn) (s : St) : (stepS ps s).1.length ≤ 12 ∧ ((stepE ps s = 700 ∧ goE ps s = 800) ∨ (stepE ps s = 0 ∧ goE ps s = 0 ∧ goE ps (stepS ps s) = 0 ∧ goR ps (stepS ps s) = goR ps s)) := by
  cases h : stateB ps s
  · rw [(stepS_no h).1, (stepS_no h).2, (goR_no h).2]
    exact ⟨by simp [noSt], .inl ⟨rfl, rfl⟩⟩
  · have hk := step_keeps h
    rw [(stepS_yes h).1, (stepS_yes h).2, (goR_yes h).1, (goR_yes h).2, (goR_yes hk).1, (goR_yes hk).2, run_step h]
    exact ⟨frames_le hk, .inr ⟨rfl, rfl, rfl, rfl⟩⟩
set_option maxRecDepth 100000 in
set_option maxHeartbeats 20000000 in
theorem walk (a0 : Option Addr) (n0 c0 : Nat) (l0 : List Fn) (fa1 : Option Addr) (fn1 fc1 : Nat) (fs1 : List Fr) (fu1 : Int) (oa1 : Option Addr) (on1 oc1 : Nat) (os1 : List Int) (dn1 vl1 : Int) (w : World) (w0 : Fns w a0 n0 c0 l0) (wf1 : Frs w fa1 fn1 fc1 fs1) (wo1 : Ints w oa1 on1 oc1 os1) (ld : Ld w) :
    Calls Tryz.prog 3 #[.agg #[.slice a0 n0 c0], .agg #[.slice fa1 fn1 fc1, .int .i64 fu1, .slice oa1 on1 oc1, .int .i64 dn1, .int .i64 vl1]] w fun e w' => e = .returned (.bool true) ∧ Below w.heap.size w w' := by
  have LD0 := hid ld
  clear ld
  have WP := hid w0
  have WF := hid wf1
  have WO := hid wo1
  have hor := wo1.room
  have hoc := wo1.cap
  have hfr := wf1.room
  have hfc := wf1.cap
  clear w0 wf1 wo1
  go_enter Tryz.func3, Tryz.ntmps3
  go_wp2_with fail
  refine (awake8_any _ (LD0.out.up (by go_grown))).mono ?_
  rintro e u1 ⟨rfl, b1⟩
  have P1 := hid (kept_cell b1 (b := w.heap.size) (o := 0) (v := .slice a0 n0 c0) (by simp [go_sem]))
  have X1 : Hid (SX u1 (w.heap.size + 1) (.slice fa1 fn1 fc1) fu1 (.slice oa1 on1 oc1) dn1 vl1) := hid (SX.kept ⟨by simp [go_sem], by simp [go_sem], by simp [go_sem], by simp [go_sem], by simp [go_sem], by simp [go_sem], by simp [go_sem]⟩ b1)
  have B1 : Hid (Below w.heap.size w u1) := hid (kt (by go_grown) b1)
  clear b1
  have p1 := P1.out
  obtain ⟨k0, k1, k2, k3, k4, _, _⟩ := X1.out
  by_cases h5 : (5000 : Int) < fu1
  · go_wp2_with fail
    go_ret
    exact ⟨rfl, B1.out⟩
  go_wp2_with fail
  obtain ⟨hsl, hask⟩ := steps_ask l0 (fs1, fu1, os1, dn1, vl1)
  refine (stepStep_any _ _ _ l0 _ _ _ fs1 fu1 _ _ _ os1 dn1 vl1 _ (WP.out.kept B1.out) (WF.out.kept B1.out) (WO.out.kept B1.out) (LD0.out.up B1.out)).mono ?_
  obtain ⟨⟨Rd, Rv, Ro, Rfu⟩, hR⟩ : ∃ R, goR l0 (fs1, fu1, os1, dn1, vl1) = R := ⟨_, rfl⟩
  obtain ⟨E1, hE1⟩ : ∃ R, goE l0 (fs1, fu1, os1, dn1, vl1) = R := ⟨_, rfl⟩
  rw [hR, hE1] at hask
  have HR := hid hR
  have HE1 := hid hE1
  generalize stepS l0 (fs1, fu1, os1, dn1, vl1) = S at hsl hask ⊢
  generalize stepE l0 (fs1, fu1, os1, dn1, vl1) = E at hask ⊢
  obtain ⟨Sf, Sfu, So, Sd, Sv⟩ := S
  obtain ⟨⟨Qd, Qv, Qo, Qfu⟩, hQ⟩ : ∃ R, goR l0 (Sf, Sfu, So, Sd, Sv) = R := ⟨_, rfl⟩
  obtain ⟨E2, hE2⟩ : ∃ R, goE l0 (Sf, Sfu, So, Sd, Sv) = R := ⟨_, rfl⟩
  rw [hQ, hE2] at hask
  have HQ := hid hQ
  have HE2 := hid hE2
  have HK := hid hask
  simp only [] at hsl
  clear hR hE1 hQ hE2 hask k0 k1 k2 k3 k4 p1
  rintro e u2 ⟨va, vn, vc, oa', on', oc', rfl, o2, r2, b2⟩
  obtain ⟨_, _, _, e1, h1⟩ := o2.reads (by simp only []; omega)
  cases e1
  obtain ⟨_, _, _, e2, h2⟩ := ints_of_owns r2.2 r2.1
  cases e2
  have hA : Below u2.heap.size u2 (u2.alloc (.cells #[.slice va vn vc, .int .i64 Sfu, .slice oa' on' oc', .int .i64 Sd, .int .i64 Sv] 28)) := Below.alloc (Below.refl _ _) (Nat.le_refl _) _
  have D2 := hid (kt b2 hA)
  have B2 := hid (kt B1.out D2.out)
  have P2 := hid (kept_cell D2.out P1.out)
  have T2 := hid (And.intro (h1.kept hA) (h2.kept hA))
  have Y2 : Hid (SX (u2.alloc (.cells #[.slice va vn vc, .int .i64 Sfu, .slice oa' on' oc', .int .i64 Sd, .int .i64 Sv] 28)) u2.heap.size (.slice va vn vc) Sfu (.slice oa' on' oc') Sd Sv) := hid ⟨by simp [go_sem], by simp [go_sem], by simp [go_sem], by simp [go_sem], by simp [go_sem], by simp [go_sem], by simp [go_sem]⟩
  have p2 := P2.out
  obtain ⟨k0, k1, k2, k3, k4, _, _⟩ := X1.out.kept D2.out
  clear o2 r2 b2 hA h1 h2
  go_wp2_with fail
  refine (go_read _ _ _ l0 _ _ _ fs1 fu1 _ _ _ os1 dn1 vl1 Rd Rv Ro Rfu E1 _ HR.out HE1.out (WP.out.kept B2.out) (WF.out.kept B2.out) (WO.out.kept B2.out) (LD0.out.up B2.out)).mono ?_
  rintro e u3 ⟨ra, rn, rc, rfl, o3, b3⟩
  have hA : Below u3.heap.size u3 (u3.alloc (.cells #[.int .i64 Rd, .int .i64 Rv, .slice ra rn rc, .int .i64 Rfu] 34)) := Below.alloc (Below.refl _ _) (Nat.le_refl _) _
  have D3 := hid (kt b3 hA)
  have B3 := hid (kt B2.out D3.out)
  have O3 := hid (o3.kept hA)
  have X3 : Hid (RX (u3.alloc (.cells #[.int .i64 Rd, .int .i64 Rv, .slice ra rn rc, .int .i64 Rfu] 34)) u3.heap.size Rd Rv (.slice ra rn rc) Rfu) := hid ⟨by simp [go_sem], by simp [go_sem], by simp [go_sem], by simp [go_sem]⟩
  have p3 := kept_cell D3.out P2.out
  have T3 := hid (And.intro (T2.out.1.kept D3.out) (T2.out.2.kept D3.out))
  obtain ⟨j0, j1, j2, j3, j4, _, _⟩ := Y2.out.kept D3.out
  clear o3 b3 hA p2 k0 k1 k2 k3 k4
  go_wp2_with fail
  refine (go_read _ _ _ l0 _ _ _ Sf Sfu _ _ _ So Sd Sv Qd Qv Qo Qfu E2 _ HQ.out HE2.out (WP.out.kept B3.out) T3.out.1 T3.out.2 (LD0.out.up B3.out)).mono ?_
  rintro e u4 ⟨qa, qn, qc, rfl, o4, b4⟩
  have hA : Below u4.heap.size u4 (u4.alloc (.cells #[.int .i64 Qd, .int .i64 Qv, .slice qa qn qc, .int .i64 Qfu] 34)) := Below.alloc (Below.refl _ _) (Nat.le_refl _) _
  have D4 := hid (kt b4 hA)
  have B4 := hid (kt B3.out D4.out)
  have O4 := hid (And.intro (O3.out.kept D4.out) (o4.kept hA))
  have X4 : Hid (RX (u4.alloc (.cells #[.int .i64 Qd, .int .i64 Qv, .slice qa qn qc, .int .i64 Qfu] 34)) u4.heap.size Qd Qv (.slice qa qn qc) Qfu) := hid ⟨by simp [go_sem], by simp [go_sem], by simp [go_sem], by simp [go_sem]⟩
  obtain ⟨m0, m1, m2, m3⟩ := X3.out.kept D4.out
  obtain ⟨g0, g1, g2, g3⟩ := X4.out
  clear o4 b4 hA p3 j0 j1 j2 j3 j4
  rcases HK.out with ⟨rfl, rfl⟩ | ⟨rfl, rfl, rfl, hq⟩
  · go_wp2_with (go_at_call 12; refine (num_any _ _).mono ?_; rintro e x ⟨rfl, hw⟩; rw [hw]; clear hw)
    go_ret
    exact ⟨rfl, B4.out⟩
  · cases hq
    go_wp2_with (go_at_call 12; refine (num_any _ _).mono ?_; rintro e x ⟨rfl, hw⟩; rw [hw]; clear hw)
    refine (sameResult_any _ _ _ _ _ Ro _ _ _ _ _ _ Ro _ _ O4.out.1 O4.out.2).mono ?_
    rintro e u5 ⟨rfl, b5⟩
    rw [sameR_self]
    have B5 := hid (kt B4.out b5)
    clear b5
    go_wp2_with fail
    go_ret
    exact ⟨rfl, B5.out⟩

set_option maxRecDepth 100000 in
theorem lifted (os : Os) (started : os.Started) (H : Type) (enc : TypeId × Value → H) :
    ReturnsInHanded {} Tryz.checked os 3 .any (fun w args => (Rows.evalStepsSpec.pre enc Tryz.prog Tryz.f3 [] false w args ∧ laidMetH Tryz.prog [("math/bits.deBruijn32tab", Rows.laid_math_bits_deBruijn32tab), ("math/bits.deBruijn64tab", Rows.laid_math_bits_deBruijn64tab), ("internal/strconv.uint64pow10", Rows.laid_internal_strconv_uint64pow10), ("errors.errorType", Rows.laid_errors_errorType), ("swage/pack.errForm", Rows.laid_swage_pack_errForm), ("swage/pack.errEnd", Rows.laid_swage_pack_errEnd)] w) ∧ sizedMet enc Tryz.prog Tryz.f3 (OpenSpec.ofChange Rows.evalStepsSpec) false w args) (Rows.evalStepsSpec.post enc Tryz.prog Tryz.f3 false true false false) := by
  refine returnsInHanded_of_change_and (C := Tryz.checked) (X := fun w _ => laidMetH Tryz.prog [("math/bits.deBruijn32tab", Rows.laid_math_bits_deBruijn32tab), ("math/bits.deBruijn64tab", Rows.laid_math_bits_deBruijn64tab), ("internal/strconv.uint64pow10", Rows.laid_internal_strconv_uint64pow10), ("errors.errorType", Rows.laid_errors_errorType), ("swage/pack.errForm", Rows.laid_swage_pack_errForm), ("swage/pack.errEnd", Rows.laid_swage_pack_errEnd)] w) (fun _ _ _ hh h => h.of_heap hh) own started (by kernel_rfl) Tryz.func3
    (ChangeSpec.witness_shaped (enc := enc) (C := Tryz.checked) (os := os) (X := fun w _ => laidMetH Tryz.prog [("math/bits.deBruijn32tab", Rows.laid_math_bits_deBruijn32tab), ("math/bits.deBruijn64tab", Rows.laid_math_bits_deBruijn64tab), ("internal/strconv.uint64pow10", Rows.laid_internal_strconv_uint64pow10), ("errors.errorType", Rows.laid_errors_errorType), ("swage/pack.errForm", Rows.laid_swage_pack_errForm), ("swage/pack.errEnd", Rows.laid_swage_pack_errEnd)] w) false (World.doorLaid Tryz.prog 400 os) #[.agg #[.slice none 0 0], .agg #[.slice none 0 0, .int .i64 0, .slice none 0 0, .int .i64 0, .int .i64 0]] 8 rfl (World.shaped_of_RefB (by kernel_rfl) (by kernel_rfl)) (by kernel_rfl) (by kernel_rfl) (by kernel_rfl) (door_met os _)) ?_
  intro W base args ds gs before hval0 hW hcnd hsz0 hL _
  have hval : ∀ (j : Nat) t v, Tryz.f3.params[j]? = some t → args[j]? = some v → Value.okWide Tryz.prog W .any base t v := hval0
  have hW' := hW
  obtain ⟨p, q, hA0, hV, rfl, hfz, hnd⟩ := hW
  have hA : DataW.TrodAll enc Tryz.prog W 0 (fun _ => true) true Tryz.f3.params.toList args.toList ds p := hA0
  have hsz : (DataW.weightsEach Tryz.prog (Tryz.f3.params.toList ++ Rows.evalStepsSpec.plain.varTypes Tryz.prog) (ds ++ gs)).all (· ≤ reachBytes) = true := hsz0
  rw [Tryz.params3] at hA hval hsz
  obtain ⟨v0, vs0, d0, ds0, p0, q0, hargs, rfl, rfl, h0, r0⟩ := trodAll_cons hA
  obtain ⟨v1, vs1, d1, ds1, p1, q1, rfl, rfl, rfl, h1, r1⟩ := trodAll_cons r0
  obtain ⟨rfl, rfl, rfl⟩ := trodAll_nil r1
  obtain rfl : args = #[v0, v1] := by cases args; simp_all
  obtain ⟨rfl, rfl⟩ := trodVars_none hV
  have k0 := h0
  have lt0 : ∀ x ∈ p0, x.block < W.heap.size := by obtain ⟨m, hm⟩ := k0; exact DataW.trod_lt m _ _ _ hm
  have k1 := h1
  have lt1 : ∀ x ∈ p1, x.block < W.heap.size := by obtain ⟨m, hm⟩ := k1; exact DataW.trod_lt m _ _ _ hm
  obtain ⟨a0, n0, c0, l0, rfl, w0⟩ := open_program (hval 0 24 v0 rfl rfl) h0 (fun k hk => by simpa using List.all_eq_true.1 hsz k (DataW.weights_mem_each (j := 0) rfl rfl k hk))
  obtain ⟨fa1, fn1, fc1, fs1, fu1, oa1, on1, oc1, os1, dn1, vl1, rfl, wf1, wo1, _, _, _⟩ := open_state (hval 1 28 v1 rfl rfl) h1 (fun k hk => by simpa using List.all_eq_true.1 hsz k (DataW.weights_mem_each (j := 1) rfl rfl k hk))
  clear hA0 hval0
  refine (walk a0 n0 c0 l0 fa1 fn1 fc1 fs1 fu1 oa1 on1 oc1 os1 dn1 vl1 W w0 wf1 wo1 (ld_of hL)).mono fun e W' ⟨he, bel⟩ => ?_
  subst he
  exact ⟨_, rfl, _, _, _, [], _, [], hW', trodAll_mk1 (shut_bool Tryz.underlying4 _), (trodAll_cons_mk (Below.trod laidOut (by kernel_rfl) (of_decide_eq_true (by kernel_rfl)) k0 bel lt0) (trodAll_cons_mk (Below.trod laidOut (by kernel_rfl) (of_decide_eq_true (by kernel_rfl)) k1 bel lt1) trodAll_mk0)), rfl, bel.frame _, fun h => by cases h⟩

theorem over : Rows.evalStepsRow.holds Tryz.pinned (OpenSpec.ofChange Rows.evalStepsSpec) :=
  OpenClaim.holds_of_wide 3 Tryz.f3 rfl rfl rfl rfl rfl rfl rfl ⟨rfl, rfl, rfl, rfl, rfl⟩ rfl rfl rfl rfl rfl (by kernel_rfl) Tryz.func3 (by kernel_rfl)
    (of_decide_eq_true (by kernel_rfl)) (by unfold Func.isWrapper; first | (rw [if_pos (by decide +kernel)]; kernel_rfl) | (rw [if_neg (by decide +kernel)]; exact ⟨rfl, rfl⟩))
    (fun os started H enc _ => lifted os started H enc)
end Go.Proofs.YtbbfgdkjgolieabGreatDoor.evalSteps
namespace Go.Proofs.YtbbfgdkjgolieabGreatDoor
open Go
theorem evalSteps_holds : Rows.EvalStepsCardSaid :=
  Claim7.holds_tied_plain_at .later [] [.data, .data, .data, .handle, .sentinel, .sentinel] true (true, "df9f9e0254879b26436ad060d49320056ec30ea2f54290ef4dfd0a208bae7ec3") true
    evalSteps.over (fun _ h => by cases h) (by kernel_rfl) (fun _ h => by cases h) evalSteps_row_tie rfl ⟨rfl, rfl⟩ (by kernel_rfl) rfl
    (fun f fn hf hfn => by
      obtain rfl : f = 3 := Option.some.inj ((show Tryz.prog.funcNamed "swage/swagelaw8.EvalSteps" = some 3 by kernel_rfl).symm.trans hf) |>.symm
      obtain rfl : fn = Tryz.f3 := (Option.some.inj (Tryz.func3.symm.trans hfn)).symm
      exact ⟨by kernel_rfl, fun j t ht => by
        rw [Tryz.params3] at ht
        have hm : t ∈ [24, 28] := by simpa using Array.mem_of_getElem? ht
        have hall : ([24, 28].all fun u => !Tryz.prog.wantsStandIn u) = true := by kernel_rfl
        exact (show Tryz.prog.wantsStandIn t = false by simpa using List.all_eq_true.1 hall t hm)⟩)
    (by kernel_rfl)
#print axioms evalSteps_holds
end Go.Proofs.YtbbfgdkjgolieabGreatDoor
