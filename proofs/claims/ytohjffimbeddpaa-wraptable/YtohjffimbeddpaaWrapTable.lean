/- For any integer the law WrapTable returns true: wrap.Do answers each of the eighteen operations reckoned by hand; no conditions. -/
import Derived.Test.YtohjffimbeddpaaRows
import Derived.WalkKit
import Derived.ProofKit
import Derived.OpenShut
import Derived.Test.YtohjffimbeddpaaAwake1
import Derived.Deep.QuietTactic
import Derived.BigQuiet
namespace Go.Proofs.Ytohjffimbeddpaa.wrapTable
open Go.ChangeShapes Go.WideShapes Go.ChangeAt Go.RowKit
set_option linter.unusedVariables false

theorem own : ownKnob Try.prog.godebug = none := by kernel_rfl

theorem eighteen (x : Int) (h : 0 ≤ x ∧ x < 18) : x = 0 ∨ x = 1 ∨ x = 2 ∨ x = 3 ∨ x = 4 ∨ x = 5 ∨ x = 6 ∨ x = 7 ∨ x = 8 ∨ x = 9 ∨ x = 10 ∨ x = 11 ∨ x = 12 ∨ x = 13 ∨ x = 14 ∨ x = 15 ∨ x = 16 ∨ x = 17 := by omega
theorem kmod (x : Int) : 0 ≤ (IntKind.u64.wrap x).tmod 18 ∧ (IntKind.u64.wrap x).tmod 18 < 18 := by
  have h : 0 ≤ IntKind.u64.wrap x := by rw [IntKind.wrap_u64]; omega
  rw [Int.tmod_eq_emod_of_nonneg h]; omega
set_option maxHeartbeats 2000000 in
theorem walk (a0 : Int) (w0 : (Lit.int .i64 a0).wf = true) (w : World) :
    Calls Try.prog 6 #[.int .i64 a0] w fun e w' => e = .returned (.bool true) ∧ Grown w w' := by
  obtain ⟨hk1, hk2⟩ := kmod a0
  generalize hkk : (IntKind.u64.wrap a0).tmod 18 = k at hk1 hk2
  clear w0
  go_enter Try.func6, Try.ntmps6
  go_wp2_with (first | (go_at_call 14; refine (awake_any _).mono ?_; rintro e w' ⟨rfl, rfl⟩))
  clear hkk
  rcases eighteen k ⟨hk1, hk2⟩ with rfl | rfl | rfl | rfl | rfl | rfl | rfl | rfl | rfl | rfl | rfl | rfl | rfl | rfl | rfl | rfl | rfl | rfl
  · have v : doV 3 2 3 = 5 := by decide +kernel
    have t : trapB 3 2 3 = false := by decide +kernel
    have x : doE 3 2 3 = 0 := by decide +kernel
    go_quiet ((go_at_call 9; exact Calls.quiet_of_same (do_any _ _ _ _)))
    go_wp2_with (first | (go_at_call 11; refine (num_any _ _).mono ?_; rintro e w' ⟨rfl, rfl⟩))
    go_ret
    exact ⟨rfl, by repeat (first | exact Grown.refl _ | apply Grown.drewN | apply Grown.drew | apply Grown.alloc)⟩
  · have v : doV 3 (-2147483648) (-1) = 2147483647 := by decide +kernel
    have t : trapB 3 (-2147483648) (-1) = false := by decide +kernel
    have x : doE 3 (-2147483648) (-1) = 0 := by decide +kernel
    go_quiet ((go_at_call 9; exact Calls.quiet_of_same (do_any _ _ _ _)))
    go_wp2_with (first | (go_at_call 11; refine (num_any _ _).mono ?_; rintro e w' ⟨rfl, rfl⟩))
    go_ret
    exact ⟨rfl, by repeat (first | exact Grown.refl _ | apply Grown.drewN | apply Grown.drew | apply Grown.alloc)⟩
  · have v : doV 4 2 5 = -3 := by decide +kernel
    have t : trapB 4 2 5 = false := by decide +kernel
    have x : doE 4 2 5 = 0 := by decide +kernel
    go_quiet ((go_at_call 9; exact Calls.quiet_of_same (do_any _ _ _ _)))
    go_wp2_with (first | (go_at_call 11; refine (num_any _ _).mono ?_; rintro e w' ⟨rfl, rfl⟩))
    go_ret
    exact ⟨rfl, by repeat (first | exact Grown.refl _ | apply Grown.drewN | apply Grown.drew | apply Grown.alloc)⟩
  · have v : doV 4 (-2147483648) 1 = 2147483647 := by decide +kernel
    have t : trapB 4 (-2147483648) 1 = false := by decide +kernel
    have x : doE 4 (-2147483648) 1 = 0 := by decide +kernel
    go_quiet ((go_at_call 9; exact Calls.quiet_of_same (do_any _ _ _ _)))
    go_wp2_with (first | (go_at_call 11; refine (num_any _ _).mono ?_; rintro e w' ⟨rfl, rfl⟩))
    go_ret
    exact ⟨rfl, by repeat (first | exact Grown.refl _ | apply Grown.drewN | apply Grown.drew | apply Grown.alloc)⟩
  · have v : doV 5 65536 65536 = 0 := by decide +kernel
    have t : trapB 5 65536 65536 = false := by decide +kernel
    have x : doE 5 65536 65536 = 0 := by decide +kernel
    go_quiet ((go_at_call 9; exact Calls.quiet_of_same (do_any _ _ _ _)))
    go_wp2_with (first | (go_at_call 11; refine (num_any _ _).mono ?_; rintro e w' ⟨rfl, rfl⟩))
    go_ret
    exact ⟨rfl, by repeat (first | exact Grown.refl _ | apply Grown.drewN | apply Grown.drew | apply Grown.alloc)⟩
  · have v : doV 5 65536 32768 = -2147483648 := by decide +kernel
    have t : trapB 5 65536 32768 = false := by decide +kernel
    have x : doE 5 65536 32768 = 0 := by decide +kernel
    go_quiet ((go_at_call 9; exact Calls.quiet_of_same (do_any _ _ _ _)))
    go_wp2_with (first | (go_at_call 11; refine (num_any _ _).mono ?_; rintro e w' ⟨rfl, rfl⟩))
    go_ret
    exact ⟨rfl, by repeat (first | exact Grown.refl _ | apply Grown.drewN | apply Grown.drew | apply Grown.alloc)⟩
  · have v : doV 5 (-2147483648) (-1) = -2147483648 := by decide +kernel
    have t : trapB 5 (-2147483648) (-1) = false := by decide +kernel
    have x : doE 5 (-2147483648) (-1) = 0 := by decide +kernel
    go_quiet ((go_at_call 9; exact Calls.quiet_of_same (do_any _ _ _ _)))
    go_wp2_with (first | (go_at_call 11; refine (num_any _ _).mono ?_; rintro e w' ⟨rfl, rfl⟩))
    go_ret
    exact ⟨rfl, by repeat (first | exact Grown.refl _ | apply Grown.drewN | apply Grown.drew | apply Grown.alloc)⟩
  · have v : doV 6 7 2 = 3 := by decide +kernel
    have t : trapB 6 7 2 = false := by decide +kernel
    have x : doE 6 7 2 = 0 := by decide +kernel
    go_quiet ((go_at_call 9; exact Calls.quiet_of_same (do_any _ _ _ _)))
    go_wp2_with (first | (go_at_call 11; refine (num_any _ _).mono ?_; rintro e w' ⟨rfl, rfl⟩))
    go_ret
    exact ⟨rfl, by repeat (first | exact Grown.refl _ | apply Grown.drewN | apply Grown.drew | apply Grown.alloc)⟩
  · have v : doV 6 (-7) 2 = -3 := by decide +kernel
    have t : trapB 6 (-7) 2 = false := by decide +kernel
    have x : doE 6 (-7) 2 = 0 := by decide +kernel
    go_quiet ((go_at_call 9; exact Calls.quiet_of_same (do_any _ _ _ _)))
    go_wp2_with (first | (go_at_call 11; refine (num_any _ _).mono ?_; rintro e w' ⟨rfl, rfl⟩))
    go_ret
    exact ⟨rfl, by repeat (first | exact Grown.refl _ | apply Grown.drewN | apply Grown.drew | apply Grown.alloc)⟩
  · have v : doV 6 (-2147483648) (-1) = -2147483648 := by decide +kernel
    have t : trapB 6 (-2147483648) (-1) = false := by decide +kernel
    have x : doE 6 (-2147483648) (-1) = 0 := by decide +kernel
    go_quiet ((go_at_call 9; exact Calls.quiet_of_same (do_any _ _ _ _)))
    go_wp2_with (first | (go_at_call 11; refine (num_any _ _).mono ?_; rintro e w' ⟨rfl, rfl⟩))
    go_ret
    exact ⟨rfl, by repeat (first | exact Grown.refl _ | apply Grown.drewN | apply Grown.drew | apply Grown.alloc)⟩
  · have v : doV 7 7 (-2) = 1 := by decide +kernel
    have t : trapB 7 7 (-2) = false := by decide +kernel
    have x : doE 7 7 (-2) = 0 := by decide +kernel
    go_quiet ((go_at_call 9; exact Calls.quiet_of_same (do_any _ _ _ _)))
    go_wp2_with (first | (go_at_call 11; refine (num_any _ _).mono ?_; rintro e w' ⟨rfl, rfl⟩))
    go_ret
    exact ⟨rfl, by repeat (first | exact Grown.refl _ | apply Grown.drewN | apply Grown.drew | apply Grown.alloc)⟩
  · have v : doV 7 (-7) 2 = -1 := by decide +kernel
    have t : trapB 7 (-7) 2 = false := by decide +kernel
    have x : doE 7 (-7) 2 = 0 := by decide +kernel
    go_quiet ((go_at_call 9; exact Calls.quiet_of_same (do_any _ _ _ _)))
    go_wp2_with (first | (go_at_call 11; refine (num_any _ _).mono ?_; rintro e w' ⟨rfl, rfl⟩))
    go_ret
    exact ⟨rfl, by repeat (first | exact Grown.refl _ | apply Grown.drewN | apply Grown.drew | apply Grown.alloc)⟩
  · have v : doV 7 (-2147483648) (-1) = 0 := by decide +kernel
    have t : trapB 7 (-2147483648) (-1) = false := by decide +kernel
    have x : doE 7 (-2147483648) (-1) = 0 := by decide +kernel
    go_quiet ((go_at_call 9; exact Calls.quiet_of_same (do_any _ _ _ _)))
    go_wp2_with (first | (go_at_call 11; refine (num_any _ _).mono ?_; rintro e w' ⟨rfl, rfl⟩))
    go_ret
    exact ⟨rfl, by repeat (first | exact Grown.refl _ | apply Grown.drewN | apply Grown.drew | apply Grown.alloc)⟩
  · have v : doV 8 4 4 = 1 := by decide +kernel
    have t : trapB 8 4 4 = false := by decide +kernel
    have x : doE 8 4 4 = 0 := by decide +kernel
    go_quiet ((go_at_call 9; exact Calls.quiet_of_same (do_any _ _ _ _)))
    go_wp2_with (first | (go_at_call 11; refine (num_any _ _).mono ?_; rintro e w' ⟨rfl, rfl⟩))
    go_ret
    exact ⟨rfl, by repeat (first | exact Grown.refl _ | apply Grown.drewN | apply Grown.drew | apply Grown.alloc)⟩
  · have v : doV 8 4 5 = 0 := by decide +kernel
    have t : trapB 8 4 5 = false := by decide +kernel
    have x : doE 8 4 5 = 0 := by decide +kernel
    go_quiet ((go_at_call 9; exact Calls.quiet_of_same (do_any _ _ _ _)))
    go_wp2_with (first | (go_at_call 11; refine (num_any _ _).mono ?_; rintro e w' ⟨rfl, rfl⟩))
    go_ret
    exact ⟨rfl, by repeat (first | exact Grown.refl _ | apply Grown.drewN | apply Grown.drew | apply Grown.alloc)⟩
  · have v : doV 9 3 4 = 1 := by decide +kernel
    have t : trapB 9 3 4 = false := by decide +kernel
    have x : doE 9 3 4 = 0 := by decide +kernel
    go_quiet ((go_at_call 9; exact Calls.quiet_of_same (do_any _ _ _ _)))
    go_wp2_with (first | (go_at_call 11; refine (num_any _ _).mono ?_; rintro e w' ⟨rfl, rfl⟩))
    go_ret
    exact ⟨rfl, by repeat (first | exact Grown.refl _ | apply Grown.drewN | apply Grown.drew | apply Grown.alloc)⟩
  · have v : doV 9 4 4 = 0 := by decide +kernel
    have t : trapB 9 4 4 = false := by decide +kernel
    have x : doE 9 4 4 = 0 := by decide +kernel
    go_quiet ((go_at_call 9; exact Calls.quiet_of_same (do_any _ _ _ _)))
    go_wp2_with (first | (go_at_call 11; refine (num_any _ _).mono ?_; rintro e w' ⟨rfl, rfl⟩))
    go_ret
    exact ⟨rfl, by repeat (first | exact Grown.refl _ | apply Grown.drewN | apply Grown.drew | apply Grown.alloc)⟩
  · have v : doV 9 (-1) 0 = 1 := by decide +kernel
    have t : trapB 9 (-1) 0 = false := by decide +kernel
    have x : doE 9 (-1) 0 = 0 := by decide +kernel
    go_quiet ((go_at_call 9; exact Calls.quiet_of_same (do_any _ _ _ _)))
    go_wp2_with (first | (go_at_call 11; refine (num_any _ _).mono ?_; rintro e w' ⟨rfl, rfl⟩))
    go_ret
    exact ⟨rfl, by repeat (first | exact Grown.refl _ | apply Grown.drewN | apply Grown.drew | apply Grown.alloc)⟩

set_option maxRecDepth 100000 in
theorem lifted (os : Os) (started : os.Started) (H : Type) (enc : TypeId × Value → H) :
    ReturnsInHanded {} Try.checked os 6 .any (Rows.wrapTableSpec.pre6 enc Try.prog Try.f6 Rows.wrapTableRow.domain false) (Rows.wrapTableSpec.post enc Try.prog Try.f6 false true false false) := by
  refine returnsInHanded_of_change (C := Try.checked) own started (by kernel_rfl) Try.func6
    (ChangeSpec.witness6 (enc := enc) (C := Try.checked) false ⟨#[], #[.int .i64 0], []⟩ 8 (by kernel_rfl) (by kernel_rfl) (by kernel_rfl) (by kernel_rfl)) ?_
  intro W base args ds gs before hval0 hW hcnd _
  have hval : ∀ (j : Nat) t v, Try.f6.params[j]? = some t → args[j]? = some v → Value.okWide Try.prog W .any base t v := hval0
  have hW' := hW
  obtain ⟨p, q, hA0, hV, rfl, hfz, hnd⟩ := hW
  have hA : DataW.TrodAll enc Try.prog W 0 (fun _ => true) true Try.f6.params.toList args.toList ds p := hA0
  rw [Try.params6] at hA hval
  obtain ⟨v0, vs0, d0, ds0, p0, q0, hargs, rfl, rfl, h0, r0⟩ := trodAll_cons hA
  obtain ⟨rfl, rfl, rfl⟩ := trodAll_nil r0
  obtain rfl : args = #[v0] := by cases args; simp_all
  obtain ⟨rfl, rfl⟩ := trodVars_none hV
  obtain ⟨a0, rfl, rfl, rfl, w0⟩ := open_int Try.underlying3 (hval 0 3 v0 rfl rfl) h0
  clear hA0 hval0
  simp only [List.append_nil] at hW'
  refine (walk a0 w0 W).mono fun e W' ⟨he, hg⟩ => ?_
  subst he
  exact ⟨_, rfl, post_of_same (pa := []) (pv := []) hW' (fun _ _ _ => (trodAll_cons_mk (shut_bool Try.underlying4 _) trodAll_mk0)) (fun sp _ => (trodAll_cons_mk (shut_int Try.underlying3 w0) trodAll_mk0)) (fun _ _ => rfl) rfl
    (hg.frame _) hg.2.1 (ok_one (by kernel_rfl) rfl (okWide_bool_mk Try.underlying4 _))⟩

theorem over : Rows.wrapTableRow.holds Try.pinned (OpenSpec.ofChange Rows.wrapTableSpec) :=
  OpenClaim.holds_of_wide 6 Try.f6 rfl rfl rfl rfl rfl rfl rfl ⟨rfl, rfl, rfl, rfl, rfl⟩ rfl rfl rfl rfl rfl (by kernel_rfl) Try.func6 (by kernel_rfl)
    (of_decide_eq_true (by kernel_rfl)) (by unfold Func.isWrapper; first | (rw [if_pos (by decide +kernel)]; kernel_rfl) | (rw [if_neg (by decide +kernel)]; exact ⟨rfl, rfl⟩))
    (fun os started H enc _ => lifted os started H enc)

theorem proved : Rows.WrapTableSaid :=
  over
end Go.Proofs.Ytohjffimbeddpaa.wrapTable
namespace Go.Proofs.Ytohjffimbeddpaa
theorem wrapTable_holds : Rows.WrapTableSaid := wrapTable.proved
#print axioms wrapTable_holds
end Go.Proofs.Ytohjffimbeddpaa
