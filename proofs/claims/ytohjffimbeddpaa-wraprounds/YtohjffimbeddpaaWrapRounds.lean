/- For any two integers a, b the law WrapRounds returns true: numbers that differ by 4294967296 are one, and sums and products go round likewise; no conditions. -/
import Derived.Test.YtohjffimbeddpaaRows
import Derived.WalkKit
import Derived.ProofKit
import Derived.OpenShut
import Derived.Test.YtohjffimbeddpaaAwake1
namespace Go.Proofs.Ytohjffimbeddpaa.wrapRounds
open Go.ChangeShapes Go.WideShapes Go.ChangeAt Go.RowKit
set_option linter.unusedVariables false

theorem own : ownKnob Try.prog.godebug = none := by kernel_rfl

theorem u32_wrap32 (x : Int) : IntKind.u64.wrap (wrap32 x) % 4294967296 = x % 4294967296 := by
  rw [IntKind.wrap_u64]; unfold wrap32; omega
theorem u32_of (x : Int) : IntKind.u64.wrap x % 4294967296 = x % 4294967296 := by
  rw [IntKind.wrap_u64]; omega
theorem good_num {op x y : Int} (ho : isOpB op = true) (hx : isNum x = true) (hy : isNum y = true) : goodB op x y = true := by simp [goodB, ho, hx, hy]
theorem do3 {x y : Int} (hx : isNum x = true) (hy : isNum y = true) : doV 3 x y = wrap32 (x + y) ∧ trapB 3 x y = false ∧ doE 3 x y = 0 := by
  have g := do_good (good_num (op := 3) (by decide) hx hy) (by simp [divB])
  exact ⟨g.1.symm, g.2.1.symm, g.2.2.symm⟩
theorem do4 {x y : Int} (hx : isNum x = true) (hy : isNum y = true) : doV 4 x y = wrap32 (x - y) ∧ trapB 4 x y = false ∧ doE 4 x y = 0 := by
  have g := do_good (good_num (op := 4) (by decide) hx hy) (by simp [divB])
  exact ⟨g.1.symm, g.2.1.symm, g.2.2.symm⟩
theorem do5 {x y : Int} (hx : isNum x = true) (hy : isNum y = true) : doV 5 x y = wrap32 (x * y) ∧ trapB 5 x y = false ∧ doE 5 x y = 0 := by
  have g := do_good (good_num (op := 5) (by decide) hx hy) (by simp [divB])
  exact ⟨g.1.symm, g.2.1.symm, g.2.2.symm⟩
theorem sum_mod (a b : Int) : wrap32 (wrap32 a + wrap32 b) % 4294967296 = (a % 4294967296 + b % 4294967296) % 4294967296 := by
  unfold wrap32; omega
theorem wrap32_mod (x : Int) : wrap32 x % 4294967296 = x % 4294967296 := by unfold wrap32; omega
theorem mul_mod (a b : Int) : wrap32 (wrap32 a * wrap32 b) % 4294967296 = (a % 4294967296 * (b % 4294967296)) % 4294967296 := by
  rw [wrap32_mod, Int.mul_emod, wrap32_mod, wrap32_mod]
set_option maxHeartbeats 2000000 in
theorem walk (a0 : Int) (a1 : Int) (w0 : (Lit.int .i64 a0).wf = true) (w1 : (Lit.int .i64 a1).wf = true) (w : World) :
    Calls Try.prog 4 #[.int .i64 a0, .int .i64 a1] w fun e w' => e = .returned (.bool true) ∧ Grown w w' := by
  have hx := num_wrap a0
  have hy := num_wrap a1
  obtain ⟨hx1, hx2⟩ := wrap32_bd a0
  obtain ⟨v3, t3, e3⟩ := do3 hx hy
  have hs : isNum (doV 3 (wrap32 a0) (wrap32 a1)) = true := by rw [v3]; exact num_wrap _
  obtain ⟨v4, t4, e4⟩ := do4 hs hy
  obtain ⟨v5, t5, e5⟩ := do5 hx hy
  obtain ⟨v6, t6, e6⟩ := do5 hy hx
  have f2 : (IntKind.u64.wrap (wrap32 a0) % 4294967296 == IntKind.u64.wrap a0 % 4294967296) = true := by rw [u32_wrap32, u32_of]; simp
  have f3 : (wrap32 (wrap32 a0) == wrap32 a0) = true := by rw [wrap32_id ⟨hx1, hx2⟩]; simp
  have f6 : (doV 4 (doV 3 (wrap32 a0) (wrap32 a1)) (wrap32 a1) == wrap32 a0) = true := by rw [v4, v3]; simp; unfold wrap32; omega
  have f7 : (doV 5 (wrap32 a0) (wrap32 a1) == doV 5 (wrap32 a1) (wrap32 a0)) = true := by rw [v5, v6, Int.mul_comm]; simp
  have f8 : IntKind.u64.wrap (doV 3 (wrap32 a0) (wrap32 a1)) % 4294967296 = (IntKind.u64.wrap a0 + IntKind.u64.wrap a1) % 4294967296 := by
    rw [v3, u32_of, sum_mod, Int.add_emod (IntKind.u64.wrap a0), u32_of, u32_of]
  have f9 : IntKind.u64.wrap (doV 5 (wrap32 a0) (wrap32 a1)) % 4294967296 = (IntKind.u64.wrap a0 * IntKind.u64.wrap a1) % 4294967296 := by
    rw [v5, u32_of, mul_mod, Int.mul_emod (IntKind.u64.wrap a0), u32_of, u32_of]
  clear w0 w1 v3 v4 v5 v6 hs hx hy
  go_enter Try.func4, Try.ntmps4
  go_wp2_with (first | (go_at_call 9; refine (do_any _ _ _ _).mono ?_; rintro e w' ⟨rfl, rfl⟩) | (go_at_call 12; refine (wrap_any _ _).mono ?_; rintro e w' ⟨rfl, rfl⟩) | (go_at_call 11; refine (num_any _ _).mono ?_; rintro e w' ⟨rfl, rfl⟩) | (go_at_call 14; refine (awake_any _).mono ?_; rintro e w' ⟨rfl, rfl⟩))
  go_ret
  exact ⟨ret_bool (by rw [← Int.mul_emod]; simp), Grown.refl _⟩

set_option maxRecDepth 100000 in
theorem lifted (os : Os) (started : os.Started) (H : Type) (enc : TypeId × Value → H) :
    ReturnsInHanded {} Try.checked os 4 .any (Rows.wrapRoundsSpec.pre6 enc Try.prog Try.f4 Rows.wrapRoundsRow.domain false) (Rows.wrapRoundsSpec.post enc Try.prog Try.f4 false true false false) := by
  refine returnsInHanded_of_change (C := Try.checked) own started (by kernel_rfl) Try.func4
    (ChangeSpec.witness6 (enc := enc) (C := Try.checked) false ⟨#[], #[.int .i64 0, .int .i64 0], []⟩ 8 (by kernel_rfl) (by kernel_rfl) (by kernel_rfl) (by kernel_rfl)) ?_
  intro W base args ds gs before hval0 hW hcnd _
  have hval : ∀ (j : Nat) t v, Try.f4.params[j]? = some t → args[j]? = some v → Value.okWide Try.prog W .any base t v := hval0
  have hW' := hW
  obtain ⟨p, q, hA0, hV, rfl, hfz, hnd⟩ := hW
  have hA : DataW.TrodAll enc Try.prog W 0 (fun _ => true) true Try.f4.params.toList args.toList ds p := hA0
  rw [Try.params4] at hA hval
  obtain ⟨v0, vs0, d0, ds0, p0, q0, hargs, rfl, rfl, h0, r0⟩ := trodAll_cons hA
  obtain ⟨v1, vs1, d1, ds1, p1, q1, rfl, rfl, rfl, h1, r1⟩ := trodAll_cons r0
  obtain ⟨rfl, rfl, rfl⟩ := trodAll_nil r1
  obtain rfl : args = #[v0, v1] := by cases args; simp_all
  obtain ⟨rfl, rfl⟩ := trodVars_none hV
  obtain ⟨a0, rfl, rfl, rfl, w0⟩ := open_int Try.underlying3 (hval 0 3 v0 rfl rfl) h0
  obtain ⟨a1, rfl, rfl, rfl, w1⟩ := open_int Try.underlying3 (hval 1 3 v1 rfl rfl) h1
  clear hA0 hval0
  simp only [List.append_nil] at hW'
  refine (walk a0 a1 w0 w1 W).mono fun e W' ⟨he, hg⟩ => ?_
  subst he
  exact ⟨_, rfl, post_of_same (pa := []) (pv := []) hW' (fun _ _ _ => (trodAll_cons_mk (shut_bool Try.underlying4 _) trodAll_mk0)) (fun sp _ => (trodAll_cons_mk (shut_int Try.underlying3 w0) (trodAll_cons_mk (shut_int Try.underlying3 w1) trodAll_mk0))) (fun _ _ => rfl) rfl
    (hg.frame _) hg.2.1 (ok_one (by kernel_rfl) rfl (okWide_bool_mk Try.underlying4 _))⟩

theorem over : Rows.wrapRoundsRow.holds Try.pinned (OpenSpec.ofChange Rows.wrapRoundsSpec) :=
  OpenClaim.holds_of_wide 4 Try.f4 rfl rfl rfl rfl rfl rfl rfl ⟨rfl, rfl, rfl, rfl, rfl⟩ rfl rfl rfl rfl rfl (by kernel_rfl) Try.func4 (by kernel_rfl)
    (of_decide_eq_true (by kernel_rfl)) (by unfold Func.isWrapper; first | (rw [if_pos (by decide +kernel)]; kernel_rfl) | (rw [if_neg (by decide +kernel)]; exact ⟨rfl, rfl⟩))
    (fun os started H enc _ => lifted os started H enc)

theorem proved : Rows.WrapRoundsSaid :=
  over
end Go.Proofs.Ytohjffimbeddpaa.wrapRounds
namespace Go.Proofs.Ytohjffimbeddpaa
theorem wrapRounds_holds : Rows.WrapRoundsSaid := wrapRounds.proved
#print axioms wrapRounds_holds
end Go.Proofs.Ytohjffimbeddpaa
