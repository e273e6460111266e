/- For any three integers the law FrameOver returns true: of the states that are over frame.State lets those be that have a number with OutValue, 0 with OutZero, OutDepth and OutFuel; no conditions. -/
import Derived.Test.YtdaloaflmnimaaaGreatDoorRows
import Derived.WalkKit
import Derived.ProofKit
import Derived.OpenShut
import Derived.ShutString
import Derived.ChangeOld
import Derived.Below
import Derived.Carry
import Derived.Lib.SmallJoins
import Derived.Handy
import Derived.WalkSmall
import Derived.SizedLaws
import Derived.Test.YtdaloaflmnimaaaGreatDoorLaidOpenV
import Derived.Test.YtdaloaflmnimaaaGreatDoorCards
import Derived.Test.YtdaloaflmnimaaaGreatDoorTie
import Derived.SevenTiedAt
import Derived.LaidMore
import Derived.Stop.Joined
import Derived.Test.YtdaloaflmnimaaaGreatDoorJ6b
namespace Go.Proofs.YtdaloaflmnimaaaGreatDoor.frameOver
open Go.ChangeShapes Go.WideShapes Go.ChangeAt Go.RowKit
open Go.ChangeMaps (open_string shut_string)
set_option linter.unusedVariables false

theorem own : ownKnob Tryz.prog.godebug = none := by kernel_rfl
theorem laidOut : laidOutB Tryz.prog = true := by kernel_rfl

theorem two_ver : verV twoL = 0 := by decide +kernel
theorem over_state {fu k v : Int} (hf : 0 ≤ fu ∧ fu ≤ 1023) : stateB twoL ([], fu, [], k, v) = outB k v 0 := by
  unfold stateB
  simp only []
  rw [two_ver, calls_nil, numsB_nil, show fuelB fu ([] : List Int).length = true by simp [fuelB]; omega]
  simp
set_option maxRecDepth 100000 in
set_option maxHeartbeats 20000000 in
theorem walk (a0 : Int) (a1 : Int) (a2 : Int) (w : World) (w0 : (Lit.int .i64 a0).wf = true) (w1 : (Lit.int .i64 a1).wf = true) (w2 : (Lit.int .i64 a2).wf = true) (ld : Ld w) :
    Calls Tryz.prog 6 #[.int .i64 a0, .int .i64 a1, .int .i64 a2] w fun e w' => e = .returned (.bool true) ∧ Below w.heap.size w w' := by
  have LD0 := hid ld
  clear ld
  go_enter Tryz.func6, Tryz.ntmps6
  go_wp2_with fail
  refine (awake6_any _ LD0.out).mono ?_
  rintro e u1 ⟨rfl, b1⟩
  have hd := umod_bd a0 6 (by omega)
  have ha := and1023 a2
  have B1 := hid b1
  clear b1
  go_wp2_with fail
  have hv : isNum (wrap64 (wrap32 (IntKind.u64.wrap a1 % 4294967296))) = true := by rw [wrap64_wrap32]; exact num_wrap _
  have hf : 0 ≤ a2 % 1024 ∧ a2 % 1024 ≤ 1023 := by omega
  clear ha
  generalize (IntKind.u64.wrap a0).tmod 6 = k at hd ⊢
  generalize wrap64 (wrap32 (IntKind.u64.wrap a1 % 4294967296)) = v at hv ⊢
  generalize a2 % 1024 = fu at hf ⊢
  have HV := hid hv
  have HE := hid (over_state (k := k) (v := v) hf)
  have BC : Below u1.heap.size u1 (u1.alloc (.cells #[.slice none 0 0, .int .i64 fu, .slice none 0 0, .int .i64 k, .int .i64 v] 30)) := Below.alloc (Below.refl _ _) (Nat.le_refl _) _
  have SA : Hid (∀ w', Below (u1.alloc (.cells #[.slice none 0 0, .int .i64 fu, .slice none 0 0, .int .i64 k, .int .i64 v] 30)).heap.size (u1.alloc (.cells #[.slice none 0 0, .int .i64 fu, .slice none 0 0, .int .i64 k, .int .i64 v] 30)) w' →
      (w'.cell? ⟨u1.heap.size, 0, none⟩ = some (.slice none 0 0) ∧ w'.cell? ⟨u1.heap.size, 1, none⟩ = some (.int .i64 fu) ∧ w'.cell? ⟨u1.heap.size, 2, none⟩ = some (.slice none 0 0) ∧ w'.cell? ⟨u1.heap.size, 3, none⟩ = some (.int .i64 k) ∧ w'.cell? ⟨u1.heap.size, 4, none⟩ = some (.int .i64 v))) := hid (fun w' b => ⟨kept_cell b (by simp [go_sem]), kept_cell b (by simp [go_sem]), kept_cell b (by simp [go_sem]), kept_cell b (by simp [go_sem]), kept_cell b (by simp [go_sem])⟩)
  have BB := hid (kt B1.out BC)
  clear hv BC
  generalize hU : u1.alloc (.cells #[.slice none 0 0, .int .i64 fu, .slice none 0 0, .int .i64 k, .int .i64 v] 30) = U at SA BB ⊢
  clear hU
  have BC : Below U.heap.size U U := Below.refl _ _
  go_region_held3 (fun w' => w'.cell? ⟨u1.heap.size, 0, none⟩ = some (.slice none 0 0) ∧ w'.cell? ⟨u1.heap.size, 1, none⟩ = some (.int .i64 fu) ∧ w'.cell? ⟨u1.heap.size, 2, none⟩ = some (.slice none 0 0) ∧ w'.cell? ⟨u1.heap.size, 3, none⟩ = some (.int .i64 k) ∧ w'.cell? ⟨u1.heap.size, 4, none⟩ = some (.int .i64 v)) (first | exact SA.out _ BC | exact SA.out _ (Below.drew BC))
    (first
      | (go_at_call 23; refine (two6_any _).mono ?_; rintro e x ⟨pv, pn, pc, rfl, pf, b⟩; replace BC := kt (Below.drew BC) b; have PF := hid pf; clear b pf)
      | (go_at_call 17; refine (frameState_any _ _ _ twoL none 0 0 [] fu none 0 0 [] k v _ PF.out (Frs.nil _) (Ints.nil _) ((LD0.out.up BB.out).up BC)).mono ?_; rintro e y ⟨rfl, b⟩; rw [HE.out]; replace BC := kt BC b; clear b))
  all_goals
    have BF := hid (kt BB.out BC)
    clear BC
    have hk : k = 0 ∨ k = 1 ∨ (k = 2 ∨ k = 3 ∨ k = 4) ∨ k = 5 := by omega
    rcases hk with rfl | rfl | hk | rfl
    · rw [show outB 0 v 0 = false by simp [outB]]
      go_wp2_with fail
      go_ret
      exact ⟨rfl, BF.out⟩
    · rw [show outB 1 v 0 = true by simp [outB, HV.out]]
      go_wp2_with fail
      go_ret
      exact ⟨rfl, BF.out⟩
    · by_cases hz : v = 0
      · subst hz
        rcases hk with rfl | rfl | rfl
        · rw [show outB 2 0 0 = true by decide]
          go_wp2_with fail
          go_ret
          exact ⟨rfl, BF.out⟩
        · rw [show outB 3 0 0 = true by decide]
          go_wp2_with fail
          go_ret
          exact ⟨rfl, BF.out⟩
        · rw [show outB 4 0 0 = true by decide]
          go_wp2_with fail
          go_ret
          exact ⟨rfl, BF.out⟩
      · have hz' : (v == 0) = false := by simpa using hz
        have ho : outB k v 0 = false := by rcases hk with rfl | rfl | rfl <;> simp [outB, hz]
        rw [ho]
        clear ho hz HE
        rcases hk with rfl | rfl | rfl
        all_goals
          go_wp2_with fail
          go_ret
          exact ⟨rfl, BF.out⟩
    · rw [show outB 5 v 0 = false by simp [outB]]
      go_wp2_with fail
      go_ret
      exact ⟨rfl, BF.out⟩

set_option maxRecDepth 100000 in
theorem lifted (os : Os) (started : os.Started) (H : Type) (enc : TypeId × Value → H) :
    ReturnsInHanded {} Tryz.checked os 6 .any (fun w args => (Rows.frameOverSpec.pre enc Tryz.prog Tryz.f6 [] false w args ∧ laidMetH Tryz.prog [("math/bits.deBruijn32tab", Rows.laid_math_bits_deBruijn32tab), ("math/bits.deBruijn64tab", Rows.laid_math_bits_deBruijn64tab), ("internal/strconv.uint64pow10", Rows.laid_internal_strconv_uint64pow10), ("errors.errorType", Rows.laid_errors_errorType), ("swage/pack.errForm", Rows.laid_swage_pack_errForm), ("swage/pack.errEnd", Rows.laid_swage_pack_errEnd)] w) ∧ sizedMet enc Tryz.prog Tryz.f6 (OpenSpec.ofChange Rows.frameOverSpec) false w args) (Rows.frameOverSpec.post enc Tryz.prog Tryz.f6 false true false false) := by
  refine returnsInHanded_of_change_and (C := Tryz.checked) (X := fun w _ => laidMetH Tryz.prog [("math/bits.deBruijn32tab", Rows.laid_math_bits_deBruijn32tab), ("math/bits.deBruijn64tab", Rows.laid_math_bits_deBruijn64tab), ("internal/strconv.uint64pow10", Rows.laid_internal_strconv_uint64pow10), ("errors.errorType", Rows.laid_errors_errorType), ("swage/pack.errForm", Rows.laid_swage_pack_errForm), ("swage/pack.errEnd", Rows.laid_swage_pack_errEnd)] w) (fun _ _ _ hh h => h.of_heap hh) own started (by kernel_rfl) Tryz.func6
    (ChangeSpec.witness_shaped (enc := enc) (C := Tryz.checked) (os := os) (X := fun w _ => laidMetH Tryz.prog [("math/bits.deBruijn32tab", Rows.laid_math_bits_deBruijn32tab), ("math/bits.deBruijn64tab", Rows.laid_math_bits_deBruijn64tab), ("internal/strconv.uint64pow10", Rows.laid_internal_strconv_uint64pow10), ("errors.errorType", Rows.laid_errors_errorType), ("swage/pack.errForm", Rows.laid_swage_pack_errForm), ("swage/pack.errEnd", Rows.laid_swage_pack_errEnd)] w) false (World.doorLaid Tryz.prog 400 os) #[.int .i64 0, .int .i64 0, .int .i64 0] 8 rfl (World.shaped_of_RefB (by kernel_rfl) (by kernel_rfl)) (by kernel_rfl) (by kernel_rfl) (by kernel_rfl) (door_met os _)) ?_
  intro W base args ds gs before hval0 hW hcnd hsz0 hL _
  have hval : ∀ (j : Nat) t v, Tryz.f6.params[j]? = some t → args[j]? = some v → Value.okWide Tryz.prog W .any base t v := hval0
  have hW' := hW
  obtain ⟨p, q, hA0, hV, rfl, hfz, hnd⟩ := hW
  have hA : DataW.TrodAll enc Tryz.prog W 0 (fun _ => true) true Tryz.f6.params.toList args.toList ds p := hA0
  have hsz : (DataW.weightsEach Tryz.prog (Tryz.f6.params.toList ++ Rows.frameOverSpec.plain.varTypes Tryz.prog) (ds ++ gs)).all (· ≤ reachBytes) = true := hsz0
  rw [Tryz.params6] at hA hval hsz
  obtain ⟨v0, vs0, d0, ds0, p0, q0, hargs, rfl, rfl, h0, r0⟩ := trodAll_cons hA
  obtain ⟨v1, vs1, d1, ds1, p1, q1, rfl, rfl, rfl, h1, r1⟩ := trodAll_cons r0
  obtain ⟨v2, vs2, d2, ds2, p2, q2, rfl, rfl, rfl, h2, r2⟩ := trodAll_cons r1
  obtain ⟨rfl, rfl, rfl⟩ := trodAll_nil r2
  obtain rfl : args = #[v0, v1, v2] := by cases args; simp_all
  obtain ⟨rfl, rfl⟩ := trodVars_none hV
  have k0 := h0
  have lt0 : ∀ x ∈ p0, x.block < W.heap.size := by obtain ⟨m, hm⟩ := k0; exact DataW.trod_lt m _ _ _ hm
  have k1 := h1
  have lt1 : ∀ x ∈ p1, x.block < W.heap.size := by obtain ⟨m, hm⟩ := k1; exact DataW.trod_lt m _ _ _ hm
  have k2 := h2
  have lt2 : ∀ x ∈ p2, x.block < W.heap.size := by obtain ⟨m, hm⟩ := k2; exact DataW.trod_lt m _ _ _ hm
  obtain ⟨a0, rfl, rfl, rfl, w0⟩ := open_int Tryz.underlying3 (hval 0 3 v0 rfl rfl) h0
  obtain ⟨a1, rfl, rfl, rfl, w1⟩ := open_int Tryz.underlying3 (hval 1 3 v1 rfl rfl) h1
  obtain ⟨a2, rfl, rfl, rfl, w2⟩ := open_int Tryz.underlying3 (hval 2 3 v2 rfl rfl) h2
  clear hA0 hval0
  refine (walk a0 a1 a2 W w0 w1 w2 (ld_of hL)).mono fun e W' ⟨he, bel⟩ => ?_
  subst he
  exact ⟨_, rfl, _, _, _, [], _, [], hW', trodAll_mk1 (shut_bool Tryz.underlying4 _), (trodAll_cons_mk (Below.trod laidOut (by kernel_rfl) (of_decide_eq_true (by kernel_rfl)) k0 bel lt0) (trodAll_cons_mk (Below.trod laidOut (by kernel_rfl) (of_decide_eq_true (by kernel_rfl)) k1 bel lt1) (trodAll_cons_mk (Below.trod laidOut (by kernel_rfl) (of_decide_eq_true (by kernel_rfl)) k2 bel lt2) trodAll_mk0))), rfl, bel.frame _, fun h => by cases h⟩

theorem over : Rows.frameOverRow.holds Tryz.pinned (OpenSpec.ofChange Rows.frameOverSpec) :=
  OpenClaim.holds_of_wide 6 Tryz.f6 rfl rfl rfl rfl rfl rfl rfl ⟨rfl, rfl, rfl, rfl, rfl⟩ rfl rfl rfl rfl rfl (by kernel_rfl) Tryz.func6 (by kernel_rfl)
    (of_decide_eq_true (by kernel_rfl)) (by unfold Func.isWrapper; first | (rw [if_pos (by decide +kernel)]; kernel_rfl) | (rw [if_neg (by decide +kernel)]; exact ⟨rfl, rfl⟩))
    (fun os started H enc _ => lifted os started H enc)
end Go.Proofs.YtdaloaflmnimaaaGreatDoor.frameOver
namespace Go.Proofs.YtdaloaflmnimaaaGreatDoor
open Go
theorem frameOver_holds : Rows.FrameOverCardSaid :=
  Claim7.holds_tied_plain_at .later [] [.data, .data, .data, .handle, .sentinel, .sentinel] true (true, "4f61182ebcd5d6da87617d114aceb11345d3fb13a72f1a65358a96d1375ec51d") true
    frameOver.over (fun _ h => by cases h) (by kernel_rfl) (fun _ h => by cases h) frameOver_row_tie rfl ⟨rfl, rfl⟩ (by kernel_rfl) rfl
    (fun f fn hf hfn => by
      obtain rfl : f = 6 := Option.some.inj ((show Tryz.prog.funcNamed "swage/swagelaw6.FrameOver" = some 6 by kernel_rfl).symm.trans hf) |>.symm
      obtain rfl : fn = Tryz.f6 := (Option.some.inj (Tryz.func6.symm.trans hfn)).symm
      exact ⟨by kernel_rfl, fun j t ht => by
        rw [Tryz.params6] at ht
        have hm : t ∈ [3, 3, 3] := by simpa using Array.mem_of_getElem? ht
        have hall : ([3, 3, 3].all fun u => !Tryz.prog.wantsStandIn u) = true := by kernel_rfl
        exact (show Tryz.prog.wantsStandIn t = false by simpa using List.all_eq_true.1 hall t hm)⟩)
    (by kernel_rfl)
#print axioms frameOver_holds
end Go.Proofs.YtdaloaflmnimaaaGreatDoor
