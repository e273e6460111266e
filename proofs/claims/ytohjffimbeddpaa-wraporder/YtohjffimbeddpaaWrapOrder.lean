/- For any two integers a, b the law WrapOrder returns true: of two numbers one is below the other, or they are one, by wrap.Do's own answers; no conditions. -/
import Derived.Test.YtohjffimbeddpaaRows
import Derived.WalkKit
import Derived.ProofKit
import Derived.OpenShut
import Derived.Test.YtohjffimbeddpaaAwake1
namespace Go.Proofs.Ytohjffimbeddpaa.wrapOrder
open Go.ChangeShapes Go.WideShapes Go.ChangeAt Go.RowKit
set_option linter.unusedVariables false

theorem own : ownKnob Try.prog.godebug = none := by kernel_rfl

theorem good_num {op x y : Int} (ho : isOpB op = true) (hx : isNum x = true) (hy : isNum y = true) : goodB op x y = true := by simp [goodB, ho, hx, hy]
theorem lt_yes {x y : Int} (hx : isNum x = true) (hy : isNum y = true) (h : x < y) : doV 9 x y = 1 ∧ doE 9 x y = 0 := by
  have g := do_good (good_num (op := 9) (by decide) hx hy) (by simp [divB])
  refine ⟨?_, g.2.2.symm⟩
  rw [← g.1]; simp [exV, oneI, h]; exact wrap32_id (by omega)
theorem lt_no {x y : Int} (hx : isNum x = true) (hy : isNum y = true) (h : ¬ x < y) : doV 9 x y = 0 ∧ doE 9 x y = 0 := by
  have g := do_good (good_num (op := 9) (by decide) hx hy) (by simp [divB])
  refine ⟨?_, g.2.2.symm⟩
  rw [← g.1]; simp [exV, oneI, h]; exact wrap32_id (by omega)
theorem eq_yes {x : Int} (hx : isNum x = true) : doV 8 x x = 1 ∧ doE 8 x x = 0 := by
  have g := do_good (good_num (op := 8) (by decide) hx hx) (by simp [divB])
  refine ⟨?_, g.2.2.symm⟩
  rw [← g.1]; simp [exV, oneI]; exact wrap32_id (by omega)
theorem eq_no {x y : Int} (hx : isNum x = true) (hy : isNum y = true) (h : ¬ x = y) : doV 8 x y = 0 ∧ doE 8 x y = 0 := by
  have g := do_good (good_num (op := 8) (by decide) hx hy) (by simp [divB])
  refine ⟨?_, g.2.2.symm⟩
  rw [← g.1]; simp [exV, oneI, h]; exact wrap32_id (by omega)
set_option maxHeartbeats 2000000 in
theorem walk (a0 : Int) (a1 : Int) (w0 : (Lit.int .i64 a0).wf = true) (w1 : (Lit.int .i64 a1).wf = true) (w : World) :
    Calls Try.prog 7 #[.int .i64 a0, .int .i64 a1] w fun e w' => e = .returned (.bool true) ∧ Grown w w' := by
  have hx := num_wrap a0
  have hy := num_wrap a1
  by_cases c1 : wrap32 a0 < wrap32 a1
  · obtain ⟨v1, e1⟩ := lt_yes hx hy c1
    obtain ⟨v2, e2⟩ := lt_no hy hx (by omega)
    obtain ⟨v3, e3⟩ := eq_no hx hy (by omega)
    obtain ⟨v4, e4⟩ := eq_no hy hx (by omega)
    have q : (wrap32 a0 == wrap32 a1) = false := by simp; omega
    clear w0 w1 hx hy
    go_enter Try.func7, Try.ntmps7
    go_wp2_with (first | (go_at_call 9; refine (do_any _ _ _ _).mono ?_; rintro e w' ⟨rfl, rfl⟩) | (go_at_call 12; refine (wrap_any _ _).mono ?_; rintro e w' ⟨rfl, rfl⟩) | (go_at_call 11; refine (num_any _ _).mono ?_; rintro e w' ⟨rfl, rfl⟩) | (go_at_call 14; refine (awake_any _).mono ?_; rintro e w' ⟨rfl, rfl⟩))
    go_ret
    exact ⟨rfl, Grown.refl _⟩
  by_cases c2 : wrap32 a1 < wrap32 a0
  · obtain ⟨v1, e1⟩ := lt_no hx hy c1
    obtain ⟨v2, e2⟩ := lt_yes hy hx c2
    obtain ⟨v3, e3⟩ := eq_no hx hy (by omega)
    obtain ⟨v4, e4⟩ := eq_no hy hx (by omega)
    have q : (wrap32 a0 == wrap32 a1) = false := by simp; omega
    clear w0 w1 hx hy
    go_enter Try.func7, Try.ntmps7
    go_wp2_with (first | (go_at_call 9; refine (do_any _ _ _ _).mono ?_; rintro e w' ⟨rfl, rfl⟩) | (go_at_call 12; refine (wrap_any _ _).mono ?_; rintro e w' ⟨rfl, rfl⟩) | (go_at_call 11; refine (num_any _ _).mono ?_; rintro e w' ⟨rfl, rfl⟩) | (go_at_call 14; refine (awake_any _).mono ?_; rintro e w' ⟨rfl, rfl⟩))
    go_ret
    exact ⟨ret_bool (by simp; omega), Grown.refl _⟩
  · have h : wrap32 a1 = wrap32 a0 := by omega
    have v1 : doV 9 (wrap32 a0) (wrap32 a0) = 0 := (lt_no hx hx (by omega)).1
    have e1 : doE 9 (wrap32 a0) (wrap32 a0) = 0 := (lt_no hx hx (by omega)).2
    have v3 : doV 8 (wrap32 a0) (wrap32 a0) = 1 := (eq_yes hx).1
    have e3 : doE 8 (wrap32 a0) (wrap32 a0) = 0 := (eq_yes hx).2
    have W1 : ∀ w, Hid (Calls Try.prog 12 #[.int .i64 a1] w fun e w' => e = .returned (.int .i64 (wrap32 a0)) ∧ w' = w) := fun w => by have := wrap_any a1 w; rw [h] at this; exact this
    clear w0 w1 hx hy h c1 c2
    go_enter Try.func7, Try.ntmps7
    go_wp2_with (first | (go_at_call 14; refine (awake_any _).mono ?_; rintro e w' ⟨rfl, rfl⟩))
    refine (wrap_any _ _).mono ?_; rintro e w' ⟨rfl, rfl⟩
    go_wp2_with fail
    refine ((W1 _).out).mono ?_; rintro e w' ⟨rfl, rfl⟩
    go_wp2_with (first | (go_at_call 9; refine (do_any _ _ _ _).mono ?_; rintro e w' ⟨rfl, rfl⟩) | (go_at_call 11; refine (num_any _ _).mono ?_; rintro e w' ⟨rfl, rfl⟩))
    go_ret
    exact ⟨rfl, Grown.refl _⟩

set_option maxRecDepth 100000 in
theorem lifted (os : Os) (started : os.Started) (H : Type) (enc : TypeId × Value → H) :
    ReturnsInHanded {} Try.checked os 7 .any (Rows.wrapOrderSpec.pre6 enc Try.prog Try.f7 Rows.wrapOrderRow.domain false) (Rows.wrapOrderSpec.post enc Try.prog Try.f7 false true false false) := by
  refine returnsInHanded_of_change (C := Try.checked) own started (by kernel_rfl) Try.func7
    (ChangeSpec.witness6 (enc := enc) (C := Try.checked) false ⟨#[], #[.int .i64 0, .int .i64 0], []⟩ 8 (by kernel_rfl) (by kernel_rfl) (by kernel_rfl) (by kernel_rfl)) ?_
  intro W base args ds gs before hval0 hW hcnd _
  have hval : ∀ (j : Nat) t v, Try.f7.params[j]? = some t → args[j]? = some v → Value.okWide Try.prog W .any base t v := hval0
  have hW' := hW
  obtain ⟨p, q, hA0, hV, rfl, hfz, hnd⟩ := hW
  have hA : DataW.TrodAll enc Try.prog W 0 (fun _ => true) true Try.f7.params.toList args.toList ds p := hA0
  rw [Try.params7] at hA hval
  obtain ⟨v0, vs0, d0, ds0, p0, q0, hargs, rfl, rfl, h0, r0⟩ := trodAll_cons hA
  obtain ⟨v1, vs1, d1, ds1, p1, q1, rfl, rfl, rfl, h1, r1⟩ := trodAll_cons r0
  obtain ⟨rfl, rfl, rfl⟩ := trodAll_nil r1
  obtain rfl : args = #[v0, v1] := by cases args; simp_all
  obtain ⟨rfl, rfl⟩ := trodVars_none hV
  obtain ⟨a0, rfl, rfl, rfl, w0⟩ := open_int Try.underlying3 (hval 0 3 v0 rfl rfl) h0
  obtain ⟨a1, rfl, rfl, rfl, w1⟩ := open_int Try.underlying3 (hval 1 3 v1 rfl rfl) h1
  clear hA0 hval0
  simp only [List.append_nil] at hW'
  refine (walk a0 a1 w0 w1 W).mono fun e W' ⟨he, hg⟩ => ?_
  subst he
  exact ⟨_, rfl, post_of_same (pa := []) (pv := []) hW' (fun _ _ _ => (trodAll_cons_mk (shut_bool Try.underlying4 _) trodAll_mk0)) (fun sp _ => (trodAll_cons_mk (shut_int Try.underlying3 w0) (trodAll_cons_mk (shut_int Try.underlying3 w1) trodAll_mk0))) (fun _ _ => rfl) rfl
    (hg.frame _) hg.2.1 (ok_one (by kernel_rfl) rfl (okWide_bool_mk Try.underlying4 _))⟩

theorem over : Rows.wrapOrderRow.holds Try.pinned (OpenSpec.ofChange Rows.wrapOrderSpec) :=
  OpenClaim.holds_of_wide 7 Try.f7 rfl rfl rfl rfl rfl rfl rfl ⟨rfl, rfl, rfl, rfl, rfl⟩ rfl rfl rfl rfl rfl (by kernel_rfl) Try.func7 (by kernel_rfl)
    (of_decide_eq_true (by kernel_rfl)) (by unfold Func.isWrapper; first | (rw [if_pos (by decide +kernel)]; kernel_rfl) | (rw [if_neg (by decide +kernel)]; exact ⟨rfl, rfl⟩))
    (fun os started H enc _ => lifted os started H enc)

theorem proved : Rows.WrapOrderSaid :=
  over
end Go.Proofs.Ytohjffimbeddpaa.wrapOrder
namespace Go.Proofs.Ytohjffimbeddpaa
theorem wrapOrder_holds : Rows.WrapOrderSaid := wrapOrder.proved
#print axioms wrapOrder_holds
end Go.Proofs.Ytohjffimbeddpaa
