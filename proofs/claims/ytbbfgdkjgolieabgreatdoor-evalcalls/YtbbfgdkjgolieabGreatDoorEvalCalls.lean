/- For any integer the law EvalCalls returns true: by eval.Eval a function that calls itself comes to what it should, or to the end of its depth; no conditions. -/
import Derived.Test.YtbbfgdkjgolieabGreatDoorRows
import Derived.WalkKit
import Derived.ProofKit
import Derived.OpenShut
import Derived.ShutString
import Derived.ChangeOld
import Derived.Below
import Derived.Carry
import Derived.Lib.SmallJoins
import Derived.Handy
import Derived.WalkSmall
import Derived.SizedLaws
import Derived.Test.YtbbfgdkjgolieabGreatDoorLaidOpenV
import Derived.Test.YtbbfgdkjgolieabGreatDoorCards
import Derived.Test.YtbbfgdkjgolieabGreatDoorTie
import Derived.SevenTiedAt
import Derived.LaidMore
import Derived.Stop.Joined
import Derived.Test.YtbbfgdkjgolieabGreatDoorJ8
namespace Go.Proofs.YtbbfgdkjgolieabGreatDoor.evalCalls
open Go.ChangeShapes Go.WideShapes Go.ChangeAt Go.RowKit
open Go.ChangeMaps (open_string shut_string)
set_option linter.unusedVariables false

theorem own : ownKnob Tryz.prog.godebug = none := by kernel_rfl
theorem laidOut : laidOutB Tryz.prog = true := by kernel_rfl

theorem and15 (n : Int) : bits .and .i64 n 15 = n % 16 := by
  have hm : (BitVec.ofInt 64 15).toNat = 2 ^ 4 - 1 := by decide
  show IntKind.i64.wrap ((BitVec.ofInt 64 n &&& BitVec.ofInt 64 15).toNat : Nat) = n % 16
  rw [BitVec.toNat_and, BitVec.toNat_ofInt, hm, Nat.and_two_pow_sub_one_eq_mod, IntKind.wrap_i64]
  omega
theorem fact_bd : ∀ k : Nat, k < 16 → 0 ≤ factV k ∧ factV k ≤ 1307674368000 := by decide
/-- What comes of it, whichever. -/
theorem self_any {k : Nat} (h : k < 16) : ∃ d v f : Int, evalR [(1, 1, selfC)] [(k : Int)] 1000 = (d, v, [], f) ∧ evalE [(1, 1, selfC)] [(k : Int)] 1000 = 0 ∧ (12 ≤ k → d = 3 ∧ v = 0 ∧ f = 916) ∧ (k < 12 → d = 1 ∧ v = factV k ∧ f = 1000 - 9 * (k : Int) - 4) := by
  rcases Nat.lt_or_ge k 12 with h1 | h1
  · obtain ⟨h2, h3⟩ := self_runs k h1
    have h4 := evalD_eq h2 h3 (by show ¬ (1 : Int) = 0; decide)
    exact ⟨_, _, _, h4.1, h4.2, fun h => by omega, fun _ => ⟨rfl, rfl, rfl⟩⟩
  · obtain ⟨j, rfl⟩ : ∃ j : Nat, k = 12 + j := ⟨k - 12, by omega⟩
    obtain ⟨h2, h3⟩ := self_deep j (by omega)
    have h4 := evalD_eq h2 h3 (by show ¬ (3 : Int) = 0; decide)
    exact ⟨_, _, _, h4.1, h4.2, fun _ => ⟨rfl, rfl, rfl⟩, fun h => by omega⟩
set_option maxRecDepth 100000 in
set_option maxHeartbeats 20000000 in
theorem walk (a0 : Int) (w : World) (w0 : (Lit.int .i64 a0).wf = true) (ld : Ld w) :
    Calls Tryz.prog 5 #[.int .i64 a0] w fun e w' => e = .returned (.bool true) ∧ Below w.heap.size w w' := by
  have LD0 := hid ld
  clear ld
  go_enter Tryz.func5, Tryz.ntmps5
  go_wp2_with fail
  refine (awake8_any _ LD0.out).mono ?_
  rintro e u1 ⟨rfl, b1⟩
  have ha := and15 a0
  have B1 := hid b1
  clear b1
  go_wp2_with fail
  refine (small8_any 1 1 _ 11 11 selfC _ (by have h := allocs_inss u1 [.cells (flat2 selfC).toArray 42] 0 selfC 42 rfl (by decide); exact h)).mono ?_
  rintro e u2 ⟨pv, pn, pc, rfl, pf, b2⟩
  obtain ⟨k, hk⟩ : ∃ k : Nat, a0 % 16 = k := ⟨(a0 % 16).toNat, by omega⟩
  have hk15 : k < 16 := by omega
  rw [hk]
  obtain ⟨Rd, Rv, Rf, hs1, hs2, hs3, hs4⟩ := self_any hk15
  have HEV := hid (And.intro hs1 hs2)
  have HD := hid (And.intro hs3 hs4)
  have hA : Below u2.heap.size u2 (u2.alloc (.cells #[.slice pv pn pc] 24)) := Below.alloc (Below.refl _ _) (Nat.le_refl _) _
  have B2 : Hid (Below w.heap.size w (u2.alloc (.cells #[.slice pv pn pc] 24))) := hid (kt (kt (kt B1.out (Below.alloc (Below.refl _ _) (Nat.le_refl _) _)) b2) hA)
  have PF := hid (pf.kept hA)
  have I2 : Hid (Ints ((u2.alloc (.cells #[.slice pv pn pc] 24)).alloc (.cells #[.int .i64 k] 3)) (some ⟨u2.heap.size + 1, 0, none⟩) 1 1 [(k : Int)]) := hid (ints_new8 (by simp) rfl rfl (by simp))
  have A2 : Hid (Below (u2.alloc (.cells #[.slice pv pn pc] 24)).heap.size (u2.alloc (.cells #[.slice pv pn pc] 24)) ((u2.alloc (.cells #[.slice pv pn pc] 24)).alloc (.cells #[.int .i64 k] 3))) := hid (Below.alloc (Below.refl _ _) (Nat.le_refl _) _)
  clear pf b2 hA ha hs1 hs2 hs3 hs4 hk
  go_wp2_with fail
  refine (eval_read _ _ _ [(1, 1, selfC)] _ 1 1 [(k : Int)] 1000 Rd Rv [] Rf 0 _ HEV.out.1 HEV.out.2 (PF.out.kept A2.out) I2.out (LD0.out.up (kt B2.out A2.out))).mono ?_
  rintro e u3 ⟨ra, rn, rc, rfl, o3, b3⟩
  have hA : Below u3.heap.size u3 (u3.alloc (.cells #[.int .i64 Rd, .int .i64 Rv, .slice ra rn rc, .int .i64 Rf] 34)) := Below.alloc (Below.refl _ _) (Nat.le_refl _) _
  have U0 : Hid (∃ U : World, U = u3.alloc (.cells #[.int .i64 Rd, .int .i64 Rv, .slice ra rn rc, .int .i64 Rf] 34)) := hid ⟨_, rfl⟩
  obtain ⟨U, hU⟩ := U0.out
  have X3 : Hid (RX U u3.heap.size Rd Rv (.slice ra rn rc) Rf) := hid (by rw [hU]; exact ⟨by simp [go_sem], by simp [go_sem], by simp [go_sem], by simp [go_sem]⟩)
  have B3 := hid (show Below w.heap.size w U by rw [hU]; exact kt B2.out (kt (kt A2.out b3) hA))
  have EU := hid hU
  clear o3 b3 hA hU U0 I2 A2
  go_wp2_with fail
  refine wp_world (U := U) (by rw [EU.out]) ?_
  go_loopw [7, 8] (fun o i wr => ∃ q : Nat, (q + 1 ≤ k ∨ q = 0) ∧ i = .int .i64 (2 + (q : Int)) ∧ o = .int .i64 (factV (1 + q)) ∧ Below U.heap.size U wr) (fun _ i _ => (17 - intOf i).toNat)
  case atStart => exact ⟨0, .inr rfl, rfl, rfl, Below.refl _ _⟩
  case round =>
    obtain ⟨q, hq, rfl, rfl, hb⟩ := hrel
    have hb1 := fact_bd (1 + q) (by omega)
    by_cases hlt : 2 + q ≤ k
    · have hle : (2 : Int) + (q : Int) ≤ (k : Int) := by omega
      have hb2 := fact_bd (2 + q) (by omega)
      have hm : factV (1 + q) * (2 + (q : Int)) = factV (2 + q) := by
        rw [show 2 + q = (1 + q) + 1 by omega]
        show _ = factV (1 + q) * (((1 + q : Nat) : Int) + 1)
        rw [show ((1 + q : Nat) : Int) + 1 = 2 + (q : Int) by omega]
      generalize factV (1 + q) = F at *
      obtain ⟨G, hG⟩ : ∃ G, factV (2 + q) = G := ⟨_, rfl⟩
      rw [hG] at hm hb2
      have HG := hid hG
      clear hG
      go_wp2_with fail
      go_roundw
      case rel => exact ⟨q + 1, by omega, by go_num, by rw [show 1 + (q + 1) = 2 + q by omega, HG.out], hb⟩
      case measure => simp [intOf] <;> omega
    · have hle : ¬ (2 : Int) + (q : Int) ≤ (k : Int) := by omega
      have hF : factV (1 + q) = factV k := by
        rcases (show k = 1 + q ∨ k = 0 ∧ q = 0 by omega) with h | ⟨h, h'⟩
        · rw [h]
        · rw [h, h']; rfl
      rw [hF]
      have HF := hid hF
      obtain ⟨F, hFk⟩ : ∃ F, factV k = F := ⟨_, rfl⟩
      rw [hFk]
      obtain ⟨m0, m1, m2, m3⟩ := X3.out.kept hb
      have B4 := hid (kt B3.out hb)
      clear hb1 hF
      by_cases h12 : 12 ≤ k
      · obtain ⟨rfl, rfl, rfl⟩ := HD.out.1 h12
        have hge : (12 : Int) ≤ (k : Int) := by omega
        go_wp2_with (go_at_call 12; refine (num_any _ _).mono ?_; rintro e x ⟨rfl, hw⟩; rw [hw]; clear hw)
        go_ret
        exact ⟨rfl, B4.out⟩
      · obtain ⟨rfl, rfl, rfl⟩ := HD.out.2 (by omega)
        have hge : ¬ (12 : Int) ≤ (k : Int) := by omega
        rw [hFk] at m1
        go_wp2_with (go_at_call 12; refine (num_any _ _).mono ?_; rintro e x ⟨rfl, hw⟩; rw [hw]; clear hw)
        go_ret
        exact ⟨rfl, B4.out⟩

set_option maxRecDepth 100000 in
theorem lifted (os : Os) (started : os.Started) (H : Type) (enc : TypeId × Value → H) :
    ReturnsInHanded {} Tryz.checked os 5 .any (fun w args => (Rows.evalCallsSpec.pre enc Tryz.prog Tryz.f5 [] false w args ∧ laidMetH Tryz.prog [("math/bits.deBruijn32tab", Rows.laid_math_bits_deBruijn32tab), ("math/bits.deBruijn64tab", Rows.laid_math_bits_deBruijn64tab), ("internal/strconv.uint64pow10", Rows.laid_internal_strconv_uint64pow10), ("errors.errorType", Rows.laid_errors_errorType), ("swage/pack.errForm", Rows.laid_swage_pack_errForm), ("swage/pack.errEnd", Rows.laid_swage_pack_errEnd)] w) ∧ sizedMet enc Tryz.prog Tryz.f5 (OpenSpec.ofChange Rows.evalCallsSpec) false w args) (Rows.evalCallsSpec.post enc Tryz.prog Tryz.f5 false true false false) := by
  refine returnsInHanded_of_change_and (C := Tryz.checked) (X := fun w _ => laidMetH Tryz.prog [("math/bits.deBruijn32tab", Rows.laid_math_bits_deBruijn32tab), ("math/bits.deBruijn64tab", Rows.laid_math_bits_deBruijn64tab), ("internal/strconv.uint64pow10", Rows.laid_internal_strconv_uint64pow10), ("errors.errorType", Rows.laid_errors_errorType), ("swage/pack.errForm", Rows.laid_swage_pack_errForm), ("swage/pack.errEnd", Rows.laid_swage_pack_errEnd)] w) (fun _ _ _ hh h => h.of_heap hh) own started (by kernel_rfl) Tryz.func5
    (ChangeSpec.witness_shaped (enc := enc) (C := Tryz.checked) (os := os) (X := fun w _ => laidMetH Tryz.prog [("math/bits.deBruijn32tab", Rows.laid_math_bits_deBruijn32tab), ("math/bits.deBruijn64tab", Rows.laid_math_bits_deBruijn64tab), ("internal/strconv.uint64pow10", Rows.laid_internal_strconv_uint64pow10), ("errors.errorType", Rows.laid_errors_errorType), ("swage/pack.errForm", Rows.laid_swage_pack_errForm), ("swage/pack.errEnd", Rows.laid_swage_pack_errEnd)] w) false (World.doorLaid Tryz.prog 400 os) #[.int .i64 0] 8 rfl (World.shaped_of_RefB (by kernel_rfl) (by kernel_rfl)) (by kernel_rfl) (by kernel_rfl) (by kernel_rfl) (door_met os _)) ?_
  intro W base args ds gs before hval0 hW hcnd hsz0 hL _
  have hval : ∀ (j : Nat) t v, Tryz.f5.params[j]? = some t → args[j]? = some v → Value.okWide Tryz.prog W .any base t v := hval0
  have hW' := hW
  obtain ⟨p, q, hA0, hV, rfl, hfz, hnd⟩ := hW
  have hA : DataW.TrodAll enc Tryz.prog W 0 (fun _ => true) true Tryz.f5.params.toList args.toList ds p := hA0
  have hsz : (DataW.weightsEach Tryz.prog (Tryz.f5.params.toList ++ Rows.evalCallsSpec.plain.varTypes Tryz.prog) (ds ++ gs)).all (· ≤ reachBytes) = true := hsz0
  rw [Tryz.params5] at hA hval hsz
  obtain ⟨v0, vs0, d0, ds0, p0, q0, hargs, rfl, rfl, h0, r0⟩ := trodAll_cons hA
  obtain ⟨rfl, rfl, rfl⟩ := trodAll_nil r0
  obtain rfl : args = #[v0] := by cases args; simp_all
  obtain ⟨rfl, rfl⟩ := trodVars_none hV
  have k0 := h0
  have lt0 : ∀ x ∈ p0, x.block < W.heap.size := by obtain ⟨m, hm⟩ := k0; exact DataW.trod_lt m _ _ _ hm
  obtain ⟨a0, rfl, rfl, rfl, w0⟩ := open_int Tryz.underlying3 (hval 0 3 v0 rfl rfl) h0
  clear hA0 hval0
  refine (walk a0 W w0 (ld_of hL)).mono fun e W' ⟨he, bel⟩ => ?_
  subst he
  exact ⟨_, rfl, _, _, _, [], _, [], hW', trodAll_mk1 (shut_bool Tryz.underlying4 _), (trodAll_cons_mk (Below.trod laidOut (by kernel_rfl) (of_decide_eq_true (by kernel_rfl)) k0 bel lt0) trodAll_mk0), rfl, bel.frame _, fun h => by cases h⟩

theorem over : Rows.evalCallsRow.holds Tryz.pinned (OpenSpec.ofChange Rows.evalCallsSpec) :=
  OpenClaim.holds_of_wide 5 Tryz.f5 rfl rfl rfl rfl rfl rfl rfl ⟨rfl, rfl, rfl, rfl, rfl⟩ rfl rfl rfl rfl rfl (by kernel_rfl) Tryz.func5 (by kernel_rfl)
    (of_decide_eq_true (by kernel_rfl)) (by unfold Func.isWrapper; first | (rw [if_pos (by decide +kernel)]; kernel_rfl) | (rw [if_neg (by decide +kernel)]; exact ⟨rfl, rfl⟩))
    (fun os started H enc _ => lifted os started H enc)
end Go.Proofs.YtbbfgdkjgolieabGreatDoor.evalCalls
namespace Go.Proofs.YtbbfgdkjgolieabGreatDoor
open Go
theorem evalCalls_holds : Rows.EvalCallsCardSaid :=
  Claim7.holds_tied_plain_at .later [] [.data, .data, .data, .handle, .sentinel, .sentinel] true (true, "df9f9e0254879b26436ad060d49320056ec30ea2f54290ef4dfd0a208bae7ec3") true
    evalCalls.over (fun _ h => by cases h) (by kernel_rfl) (fun _ h => by cases h) evalCalls_row_tie rfl ⟨rfl, rfl⟩ (by kernel_rfl) rfl
    (fun f fn hf hfn => by
      obtain rfl : f = 5 := Option.some.inj ((show Tryz.prog.funcNamed "swage/swagelaw8.EvalCalls" = some 5 by kernel_rfl).symm.trans hf) |>.symm
      obtain rfl : fn = Tryz.f5 := (Option.some.inj (Tryz.func5.symm.trans hfn)).symm
      exact ⟨by kernel_rfl, fun j t ht => by
        rw [Tryz.params5] at ht
        have hm : t ∈ [3] := by simpa using Array.mem_of_getElem? ht
        have hall : ([3].all fun u => !Tryz.prog.wantsStandIn u) = true := by kernel_rfl
        exact (show Tryz.prog.wantsStandIn t = false by simpa using List.all_eq_true.1 hall t hm)⟩)
    (by kernel_rfl)
#print axioms evalCalls_holds
end Go.Proofs.YtbbfgdkjgolieabGreatDoor
