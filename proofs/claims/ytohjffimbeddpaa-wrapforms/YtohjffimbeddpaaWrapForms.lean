/- For any two integers the law WrapForms returns true: what is no operation, or no number, is ErrWrapOp by wrap.Do; no conditions. -/
import Derived.Test.YtohjffimbeddpaaRows
import Derived.WalkKit
import Derived.ProofKit
import Derived.OpenShut
import Derived.Test.YtohjffimbeddpaaAwake1
namespace Go.Proofs.Ytohjffimbeddpaa.wrapForms
open Go.ChangeShapes Go.WideShapes Go.ChangeAt Go.RowKit
set_option linter.unusedVariables false

theorem own : ownKnob Try.prog.godebug = none := by kernel_rfl

set_option maxHeartbeats 2000000 in
theorem walk (a0 : Int) (a1 : Int) (w0 : (Lit.int .i64 a0).wf = true) (w1 : (Lit.int .i64 a1).wf = true) (w : World) :
    Calls Try.prog 8 #[.int .i64 a0, .int .i64 a1] w fun e w' => e = .returned (.bool true) ∧ Grown w w' := by
  have hb := and1023 a1
  have hm0 : 0 ≤ a1 % 1024 ∧ a1 % 1024 < 1024 := by omega
  obtain ⟨hj0, hj1⟩ := umod_bd a0 7 (by decide)
  generalize a1 % 1024 = m at hb hm0
  generalize hj : (IntKind.u64.wrap a0).tmod 7 = j at hj0 hj1
  obtain ⟨hm1, hm2⟩ := hm0
  have e1 : doE (9 + (1 + m)) 1 1 = 100 := doE_bad (by simp [goodB, (opB_not (9 + (1 + m))).2 (by omega)])
  have e2 : doE (3 - (1 + m)) 1 1 = 100 := doE_bad (by simp [goodB, (opB_not (3 - (1 + m))).2 (by omega)])
  have e3 : doE (3 + j) (2147483647 + (1 + m)) 1 = 100 := doE_bad (by simp [goodB, (num_not (2147483647 + (1 + m))).2 (by omega)])
  have e4 : doE (3 + j) 1 (-2147483648 - (1 + m)) = 100 := doE_bad (by simp [goodB, (num_not (-2147483648 - (1 + m))).2 (by omega)])
  have e5 : doE (3 + j) 2147483647 (-2147483648) = 0 := doE_good (by simp [goodB, (opB_iff (3 + j)).2 (by omega), isNum])
  clear w0 w1
  go_enter Try.func8, Try.ntmps8
  go_wp2_with (first | (go_at_call 9; refine (do_any _ _ _ _).mono ?_; rintro e w' ⟨rfl, rfl⟩) | (go_at_call 11; refine (num_any _ _).mono ?_; rintro e w' ⟨rfl, rfl⟩) | (go_at_call 14; refine (awake_any _).mono ?_; rintro e w' ⟨rfl, rfl⟩))
  go_ret
  exact ⟨rfl, Grown.refl _⟩

set_option maxRecDepth 100000 in
theorem lifted (os : Os) (started : os.Started) (H : Type) (enc : TypeId × Value → H) :
    ReturnsInHanded {} Try.checked os 8 .any (Rows.wrapFormsSpec.pre6 enc Try.prog Try.f8 Rows.wrapFormsRow.domain false) (Rows.wrapFormsSpec.post enc Try.prog Try.f8 false true false false) := by
  refine returnsInHanded_of_change (C := Try.checked) own started (by kernel_rfl) Try.func8
    (ChangeSpec.witness6 (enc := enc) (C := Try.checked) false ⟨#[], #[.int .i64 0, .int .i64 0], []⟩ 8 (by kernel_rfl) (by kernel_rfl) (by kernel_rfl) (by kernel_rfl)) ?_
  intro W base args ds gs before hval0 hW hcnd _
  have hval : ∀ (j : Nat) t v, Try.f8.params[j]? = some t → args[j]? = some v → Value.okWide Try.prog W .any base t v := hval0
  have hW' := hW
  obtain ⟨p, q, hA0, hV, rfl, hfz, hnd⟩ := hW
  have hA : DataW.TrodAll enc Try.prog W 0 (fun _ => true) true Try.f8.params.toList args.toList ds p := hA0
  rw [Try.params8] at hA hval
  obtain ⟨v0, vs0, d0, ds0, p0, q0, hargs, rfl, rfl, h0, r0⟩ := trodAll_cons hA
  obtain ⟨v1, vs1, d1, ds1, p1, q1, rfl, rfl, rfl, h1, r1⟩ := trodAll_cons r0
  obtain ⟨rfl, rfl, rfl⟩ := trodAll_nil r1
  obtain rfl : args = #[v0, v1] := by cases args; simp_all
  obtain ⟨rfl, rfl⟩ := trodVars_none hV
  obtain ⟨a0, rfl, rfl, rfl, w0⟩ := open_int Try.underlying3 (hval 0 3 v0 rfl rfl) h0
  obtain ⟨a1, rfl, rfl, rfl, w1⟩ := open_int Try.underlying3 (hval 1 3 v1 rfl rfl) h1
  clear hA0 hval0
  simp only [List.append_nil] at hW'
  refine (walk a0 a1 w0 w1 W).mono fun e W' ⟨he, hg⟩ => ?_
  subst he
  exact ⟨_, rfl, post_of_same (pa := []) (pv := []) hW' (fun _ _ _ => (trodAll_cons_mk (shut_bool Try.underlying4 _) trodAll_mk0)) (fun sp _ => (trodAll_cons_mk (shut_int Try.underlying3 w0) (trodAll_cons_mk (shut_int Try.underlying3 w1) trodAll_mk0))) (fun _ _ => rfl) rfl
    (hg.frame _) hg.2.1 (ok_one (by kernel_rfl) rfl (okWide_bool_mk Try.underlying4 _))⟩

theorem over : Rows.wrapFormsRow.holds Try.pinned (OpenSpec.ofChange Rows.wrapFormsSpec) :=
  OpenClaim.holds_of_wide 8 Try.f8 rfl rfl rfl rfl rfl rfl rfl ⟨rfl, rfl, rfl, rfl, rfl⟩ rfl rfl rfl rfl rfl (by kernel_rfl) Try.func8 (by kernel_rfl)
    (of_decide_eq_true (by kernel_rfl)) (by unfold Func.isWrapper; first | (rw [if_pos (by decide +kernel)]; kernel_rfl) | (rw [if_neg (by decide +kernel)]; exact ⟨rfl, rfl⟩))
    (fun os started H enc _ => lifted os started H enc)

theorem proved : Rows.WrapFormsSaid :=
  over
end Go.Proofs.Ytohjffimbeddpaa.wrapForms
namespace Go.Proofs.Ytohjffimbeddpaa
theorem wrapForms_holds : Rows.WrapFormsSaid := wrapForms.proved
#print axioms wrapForms_holds
end Go.Proofs.Ytohjffimbeddpaa
