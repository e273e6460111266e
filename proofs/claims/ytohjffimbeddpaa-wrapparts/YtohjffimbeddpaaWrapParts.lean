/- For any two integers a, b the law WrapParts returns true: a quotient times the divisor, and what is left, is the number, and what is left is smaller and on the number's side; no conditions. -/
import Derived.Test.YtohjffimbeddpaaRows
import Derived.WalkKit
import Derived.ProofKit
import Derived.OpenShut
import Derived.Test.YtohjffimbeddpaaAwake1
namespace Go.Proofs.Ytohjffimbeddpaa.wrapParts
open Go.ChangeShapes Go.WideShapes Go.ChangeAt Go.RowKit
set_option linter.unusedVariables false

theorem own : ownKnob Try.prog.godebug = none := by kernel_rfl

theorem good_num {op x y : Int} (ho : isOpB op = true) (hx : isNum x = true) (hy : isNum y = true) : goodB op x y = true := by simp [goodB, ho, hx, hy]
theorem do3 {x y : Int} (hx : isNum x = true) (hy : isNum y = true) : doV 3 x y = wrap32 (x + y) ∧ doE 3 x y = 0 := by
  have g := do_good (good_num (op := 3) (by decide) hx hy) (by simp [divB])
  exact ⟨g.1.symm, g.2.2.symm⟩
theorem do5 {x y : Int} (hx : isNum x = true) (hy : isNum y = true) : doV 5 x y = wrap32 (x * y) ∧ doE 5 x y = 0 := by
  have g := do_good (good_num (op := 5) (by decide) hx hy) (by simp [divB])
  exact ⟨g.1.symm, g.2.2.symm⟩
theorem do6 {x y : Int} (hx : isNum x = true) (hy : isNum y = true) (h : ¬ y = 0) : doV 6 x y = wrap32 (x.tdiv y) ∧ trapB 6 x y = false ∧ doE 6 x y = 0 := by
  have g := do_good (good_num (op := 6) (by decide) hx hy) (by simp [h])
  exact ⟨g.1.symm, g.2.1.symm, g.2.2.symm⟩
theorem tmod_facts (x y : Int) (h : ¬ y = 0) : (x.tmod y).natAbs < y.natAbs ∧ (x.tmod y = 0 ∨ (x.tmod y < 0 ↔ x < 0)) := by
  have h1 : (x.tmod y).natAbs < y.natAbs := by rw [Int.natAbs_tmod]; exact Nat.mod_lt _ (by omega)
  refine ⟨h1, ?_⟩
  rcases Int.lt_or_le x 0 with hn | hp
  · have h2 := Int.tmod_nonneg (a := -x) y (by omega)
    rw [Int.neg_tmod] at h2
    omega
  · have := Int.tmod_nonneg (a := x) y hp
    omega
theorem do7 {x y : Int} (hx : isNum x = true) (hy : isNum y = true) (h : ¬ y = 0) : doV 7 x y = x.tmod y ∧ trapB 7 x y = false ∧ doE 7 x y = 0 := by
  have g := do_good (good_num (op := 7) (by decide) hx hy) (by simp [h])
  refine ⟨?_, g.2.1.symm, g.2.2.symm⟩
  rw [← g.1]
  have hb := tmod_facts x y h
  have h2 := (num_iff y).1 hy
  exact wrap32_id (x := x.tmod y) (by omega)
theorem wrap32_congr {x y : Int} (h : x % 4294967296 = y % 4294967296) : wrap32 x = wrap32 y := by unfold wrap32; omega
theorem wrap32_mod (x : Int) : wrap32 x % 4294967296 = x % 4294967296 := by unfold wrap32; omega
theorem parts_back (x y : Int) (hx : isNum x = true) : wrap32 (wrap32 (wrap32 (x.tdiv y) * y) + x.tmod y) = x := by
  have e1 : wrap32 (wrap32 (x.tdiv y) * y) = wrap32 (x.tdiv y * y) :=
    wrap32_congr (by rw [Int.mul_emod, wrap32_mod, ← Int.mul_emod])
  rw [e1]
  have e2 : wrap32 (wrap32 (x.tdiv y * y) + x.tmod y) = wrap32 (x.tdiv y * y + x.tmod y) :=
    wrap32_congr (by rw [Int.add_emod, wrap32_mod, ← Int.add_emod])
  rw [e2]
  have e3 : x.tdiv y * y + x.tmod y = x := by have := Int.mul_tdiv_add_tmod x y; rw [Int.mul_comm] at this; exact this
  rw [e3]
  exact wrap32_id ((num_iff x).1 hx)
set_option maxHeartbeats 2000000 in
theorem walk (a0 : Int) (a1 : Int) (w0 : (Lit.int .i64 a0).wf = true) (w1 : (Lit.int .i64 a1).wf = true) (w : World) :
    Calls Try.prog 5 #[.int .i64 a0, .int .i64 a1] w fun e w' => e = .returned (.bool true) ∧ Grown w w' := by
  have hx := num_wrap a0
  have hy := num_wrap a1
  by_cases h : wrap32 a1 = 0
  · have g6 := do_trap (good_num (op := 6) (by decide) hx hy) h (by decide)
    have g7 := do_trap (good_num (op := 7) (by decide) hx hy) h (by decide)
    obtain ⟨v6, t6, e6⟩ := g6
    obtain ⟨v7, t7, e7⟩ := g7
    replace v6 := v6.symm; replace t6 := t6.symm; replace e6 := e6.symm
    replace v7 := v7.symm; replace t7 := t7.symm; replace e7 := e7.symm
    have hz : (wrap32 a1 == 0) = true := by simp [h]
    clear w0 w1 hx hy h
    go_enter Try.func5, Try.ntmps5
    go_wp2_with (first | (go_at_call 9; refine (do_any _ _ _ _).mono ?_; rintro e w' ⟨rfl, rfl⟩) | (go_at_call 12; refine (wrap_any _ _).mono ?_; rintro e w' ⟨rfl, rfl⟩) | (go_at_call 11; refine (num_any _ _).mono ?_; rintro e w' ⟨rfl, rfl⟩) | (go_at_call 14; refine (awake_any _).mono ?_; rintro e w' ⟨rfl, rfl⟩))
    go_ret
    exact ⟨rfl, Grown.refl _⟩
  · obtain ⟨v6, t6, e6⟩ := do6 hx hy h
    obtain ⟨v7, t7, e7⟩ := do7 hx hy h
    have hq : isNum (doV 6 (wrap32 a0) (wrap32 a1)) = true := by rw [v6]; exact num_wrap _
    obtain ⟨v5, e5⟩ := do5 hq hy
    have hp : isNum (doV 5 (doV 6 (wrap32 a0) (wrap32 a1)) (wrap32 a1)) = true := by rw [v5]; exact num_wrap _
    obtain ⟨r1, r2⟩ := tmod_facts (wrap32 a0) (wrap32 a1) h
    have hr : isNum (doV 7 (wrap32 a0) (wrap32 a1)) = true := by
      rw [v7]; have := (num_iff _).1 hy; exact (num_iff _).2 (by omega)
    obtain ⟨v3, e3⟩ := do3 hp hr
    have f1 : doV 3 (doV 5 (doV 6 (wrap32 a0) (wrap32 a1)) (wrap32 a1)) (doV 7 (wrap32 a0) (wrap32 a1)) = wrap32 a0 := by
      rw [v3, v5, v6, v7]; exact parts_back _ _ hx
    have hz : (wrap32 a1 == 0) = false := by simp [h]
    obtain ⟨y1, y2⟩ := (num_iff _).1 hy
    rw [← v7] at r1 r2
    have m1 : max (doV 7 (wrap32 a0) (wrap32 a1)) (-doV 7 (wrap32 a0) (wrap32 a1)) < max (wrap32 a1) (-wrap32 a1) := by omega
    have rb1 : -2147483648 ≤ doV 7 (wrap32 a0) (wrap32 a1) := by omega
    have rb2 : doV 7 (wrap32 a0) (wrap32 a1) ≤ 2147483648 := by omega
    clear w0 w1 v3 v5 v6 v7 hq hp hr hx hy h r1
    cases hr0 : (doV 7 (wrap32 a0) (wrap32 a1) == 0)
    · have r3 : decide (doV 7 (wrap32 a0) (wrap32 a1) < 0) = decide (wrap32 a0 < 0) := by
        rcases r2 with h | h
        · simp [h] at hr0
        · simp [h]
      clear r2
      go_enter Try.func5, Try.ntmps5
      go_wp2_with (first | (go_at_call 9; refine (do_any _ _ _ _).mono ?_; rintro e w' ⟨rfl, rfl⟩) | (go_at_call 12; refine (wrap_any _ _).mono ?_; rintro e w' ⟨rfl, rfl⟩) | (go_at_call 11; refine (num_any _ _).mono ?_; rintro e w' ⟨rfl, rfl⟩) | (go_at_call 14; refine (awake_any _).mono ?_; rintro e w' ⟨rfl, rfl⟩))
      all_goals
        go_ret
        exact ⟨ret_bool (by simp; omega), Grown.refl _⟩
    · clear r2
      go_enter Try.func5, Try.ntmps5
      go_wp2_with (first | (go_at_call 9; refine (do_any _ _ _ _).mono ?_; rintro e w' ⟨rfl, rfl⟩) | (go_at_call 12; refine (wrap_any _ _).mono ?_; rintro e w' ⟨rfl, rfl⟩) | (go_at_call 11; refine (num_any _ _).mono ?_; rintro e w' ⟨rfl, rfl⟩) | (go_at_call 14; refine (awake_any _).mono ?_; rintro e w' ⟨rfl, rfl⟩))
      all_goals
        go_ret
        exact ⟨ret_bool (by simp; omega), Grown.refl _⟩

set_option maxRecDepth 100000 in
theorem lifted (os : Os) (started : os.Started) (H : Type) (enc : TypeId × Value → H) :
    ReturnsInHanded {} Try.checked os 5 .any (Rows.wrapPartsSpec.pre6 enc Try.prog Try.f5 Rows.wrapPartsRow.domain false) (Rows.wrapPartsSpec.post enc Try.prog Try.f5 false true false false) := by
  refine returnsInHanded_of_change (C := Try.checked) own started (by kernel_rfl) Try.func5
    (ChangeSpec.witness6 (enc := enc) (C := Try.checked) false ⟨#[], #[.int .i64 0, .int .i64 0], []⟩ 8 (by kernel_rfl) (by kernel_rfl) (by kernel_rfl) (by kernel_rfl)) ?_
  intro W base args ds gs before hval0 hW hcnd _
  have hval : ∀ (j : Nat) t v, Try.f5.params[j]? = some t → args[j]? = some v → Value.okWide Try.prog W .any base t v := hval0
  have hW' := hW
  obtain ⟨p, q, hA0, hV, rfl, hfz, hnd⟩ := hW
  have hA : DataW.TrodAll enc Try.prog W 0 (fun _ => true) true Try.f5.params.toList args.toList ds p := hA0
  rw [Try.params5] at hA hval
  obtain ⟨v0, vs0, d0, ds0, p0, q0, hargs, rfl, rfl, h0, r0⟩ := trodAll_cons hA
  obtain ⟨v1, vs1, d1, ds1, p1, q1, rfl, rfl, rfl, h1, r1⟩ := trodAll_cons r0
  obtain ⟨rfl, rfl, rfl⟩ := trodAll_nil r1
  obtain rfl : args = #[v0, v1] := by cases args; simp_all
  obtain ⟨rfl, rfl⟩ := trodVars_none hV
  obtain ⟨a0, rfl, rfl, rfl, w0⟩ := open_int Try.underlying3 (hval 0 3 v0 rfl rfl) h0
  obtain ⟨a1, rfl, rfl, rfl, w1⟩ := open_int Try.underlying3 (hval 1 3 v1 rfl rfl) h1
  clear hA0 hval0
  simp only [List.append_nil] at hW'
  refine (walk a0 a1 w0 w1 W).mono fun e W' ⟨he, hg⟩ => ?_
  subst he
  exact ⟨_, rfl, post_of_same (pa := []) (pv := []) hW' (fun _ _ _ => (trodAll_cons_mk (shut_bool Try.underlying4 _) trodAll_mk0)) (fun sp _ => (trodAll_cons_mk (shut_int Try.underlying3 w0) (trodAll_cons_mk (shut_int Try.underlying3 w1) trodAll_mk0))) (fun _ _ => rfl) rfl
    (hg.frame _) hg.2.1 (ok_one (by kernel_rfl) rfl (okWide_bool_mk Try.underlying4 _))⟩

theorem over : Rows.wrapPartsRow.holds Try.pinned (OpenSpec.ofChange Rows.wrapPartsSpec) :=
  OpenClaim.holds_of_wide 5 Try.f5 rfl rfl rfl rfl rfl rfl rfl ⟨rfl, rfl, rfl, rfl, rfl⟩ rfl rfl rfl rfl rfl (by kernel_rfl) Try.func5 (by kernel_rfl)
    (of_decide_eq_true (by kernel_rfl)) (by unfold Func.isWrapper; first | (rw [if_pos (by decide +kernel)]; kernel_rfl) | (rw [if_neg (by decide +kernel)]; exact ⟨rfl, rfl⟩))
    (fun os started H enc _ => lifted os started H enc)

theorem proved : Rows.WrapPartsSaid :=
  over
end Go.Proofs.Ytohjffimbeddpaa.wrapParts
namespace Go.Proofs.Ytohjffimbeddpaa
theorem wrapParts_holds : Rows.WrapPartsSaid := wrapParts.proved
#print axioms wrapParts_holds
end Go.Proofs.Ytohjffimbeddpaa
