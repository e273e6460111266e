/- For any integer the law EvalSums returns true: by eval.Eval a loop that counts down and adds comes to the sum, and prints what it adds; no conditions. -/
import Derived.Test.YtbbfgdkjgolieabGreatDoorRows
import Derived.WalkKit
import Derived.ProofKit
import Derived.OpenShut
import Derived.ShutString
import Derived.ChangeOld
import Derived.Below
import Derived.Carry
import Derived.Lib.SmallJoins
import Derived.Handy
import Derived.WalkSmall
import Derived.SizedLaws
import Derived.Test.YtbbfgdkjgolieabGreatDoorLaidOpenV
import Derived.Test.YtbbfgdkjgolieabGreatDoorCards
import Derived.Test.YtbbfgdkjgolieabGreatDoorTie
import Derived.SevenTiedAt
import Derived.LaidMore
import Derived.Stop.Joined
import Derived.Test.YtbbfgdkjgolieabGreatDoorJ8
namespace Go.Proofs.YtbbfgdkjgolieabGreatDoor.evalSums
open Go.ChangeShapes Go.WideShapes Go.ChangeAt Go.RowKit
open Go.ChangeMaps (open_string shut_string)
set_option linter.unusedVariables false

theorem own : ownKnob Tryz.prog.godebug = none := by kernel_rfl
theorem laidOut : laidOutB Tryz.prog = true := by kernel_rfl

theorem and31 (n : Int) : bits .and .i64 n 31 = n % 32 := by
  have hm : (BitVec.ofInt 64 31).toNat = 2 ^ 5 - 1 := by decide
  show IntKind.i64.wrap ((BitVec.ofInt 64 n &&& BitVec.ofInt 64 31).toNat : Nat) = n % 32
  rw [BitVec.toNat_and, BitVec.toNat_ofInt, hm, Nat.and_two_pow_sub_one_eq_mod, IntKind.wrap_i64]
  omega
theorem down_len (k : Nat) : (downL k).length = k := by simp [downL]
theorem down_at {k q : Nat} (h : q < k) : (downL k).getD q 0 = (k : Int) - (q : Int) := by
  simp [downL, List.getD_eq_getElem?_getD, h]
  omega
theorem mul_bd : ∀ k : Nat, k < 32 → 0 ≤ (k : Int) * ((k : Int) + 1) ∧ (k : Int) * ((k : Int) + 1) ≤ 992 := by decide
set_option maxRecDepth 100000 in
set_option maxHeartbeats 20000000 in
theorem walk (a0 : Int) (w : World) (w0 : (Lit.int .i64 a0).wf = true) (ld : Ld w) :
    Calls Tryz.prog 4 #[.int .i64 a0] w fun e w' => e = .returned (.bool true) ∧ Below w.heap.size w w' := by
  have LD0 := hid ld
  clear ld
  obtain ⟨i0, hi, hz0, hz1, hz2⟩ := info_parts Tryz.infoInt
  go_enter Tryz.func4, Tryz.ntmps4
  go_wp2_with fail
  refine (awake8_any _ LD0.out).mono ?_
  rintro e u1 ⟨rfl, b1⟩
  have ha := and31 a0
  have B1 := hid b1
  clear b1
  go_wp2_with fail
  refine (small8_any 1 2 _ 15 15 sumC _ (by have h := allocs_inss u1 [.cells (flat2 sumC).toArray 42] 0 sumC 42 rfl (by decide); exact h)).mono ?_
  rintro e u2 ⟨pv, pn, pc, rfl, pf, b2⟩
  obtain ⟨k, hk⟩ : ∃ k : Nat, a0 % 32 = k := ⟨(a0 % 32).toNat, by omega⟩
  have hk31 : k < 32 := by omega
  rw [hk]
  obtain ⟨hs1, hs2⟩ := sum_runs k hk31
  have HEV := hid (evalD_eq hs1 hs2 (by show ¬ (1 : Int) = 0; decide))
  have hA : Below u2.heap.size u2 (u2.alloc (.cells #[.slice pv pn pc] 24)) := Below.alloc (Below.refl _ _) (Nat.le_refl _) _
  have B2 : Hid (Below w.heap.size w (u2.alloc (.cells #[.slice pv pn pc] 24))) := hid (kt (kt (kt B1.out (Below.alloc (Below.refl _ _) (Nat.le_refl _) _)) b2) hA)
  have PF := hid (pf.kept hA)
  have I2 : Hid (Ints ((u2.alloc (.cells #[.slice pv pn pc] 24)).alloc (.cells #[.int .i64 k] 3)) (some ⟨u2.heap.size + 1, 0, none⟩) 1 1 [(k : Int)]) := hid (ints_new8 (by simp) rfl rfl (by simp))
  have A2 : Hid (Below (u2.alloc (.cells #[.slice pv pn pc] 24)).heap.size (u2.alloc (.cells #[.slice pv pn pc] 24)) ((u2.alloc (.cells #[.slice pv pn pc] 24)).alloc (.cells #[.int .i64 k] 3))) := hid (Below.alloc (Below.refl _ _) (Nat.le_refl _) _)
  clear pf b2 hA ha hs1 hs2 hk
  go_wp2_with fail
  refine (eval_read _ _ _ [(1, 2, sumC)] _ 1 1 [(k : Int)] 1000 1 ((k : Int) * ((k : Int) + 1) / 2) (downL k) (1000 - 13 * (k : Int) - 4) 0 _ HEV.out.1 HEV.out.2 (PF.out.kept A2.out) I2.out (LD0.out.up (kt B2.out A2.out))).mono ?_
  obtain ⟨T, hT⟩ : ∃ T : Int, (k : Int) * ((k : Int) + 1) = T := ⟨_, rfl⟩
  have hTb := mul_bd k hk31
  rw [hT] at hTb ⊢
  rintro e u3 ⟨ra, rn, rc, rfl, o3, b3⟩
  have hA : Below u3.heap.size u3 (u3.alloc (.cells #[.int .i64 1, .int .i64 (T / 2), .slice ra rn rc, .int .i64 (1000 - 13 * (k : Int) - 4)] 34)) := Below.alloc (Below.refl _ _) (Nat.le_refl _) _
  have U0 : Hid (∃ U : World, U = u3.alloc (.cells #[.int .i64 1, .int .i64 (T / 2), .slice ra rn rc, .int .i64 (1000 - 13 * (k : Int) - 4)] 34)) := hid ⟨_, rfl⟩
  obtain ⟨U, hU⟩ := U0.out
  have X3 : Hid (RX U u3.heap.size 1 (T / 2) (.slice ra rn rc) (1000 - 13 * (k : Int) - 4)) := hid (by rw [hU]; exact ⟨by simp [go_sem], by simp [go_sem], by simp [go_sem], by simp [go_sem]⟩)
  have O3 := hid (show Ints U ra rn rc (downL k) by rw [hU]; exact o3.kept hA)
  have B3 := hid (show Below w.heap.size w U by rw [hU]; exact kt B2.out (kt (kt A2.out b3) hA))
  have EU := hid hU
  have HT := hid hT
  clear o3 b3 hA hU U0 I2 A2 hT
  go_wp2_with fail
  refine wp_world (U := U) (by rw [EU.out]) ?_
  go_loopw [7, 8] (fun o i wr => ∃ q : Nat, q ≤ k ∧ i = .int .i64 ((k : Int) - (q : Int)) ∧ wr.ownsRow U.heap.size 3 1 o q (ints ((downL k).take q)) ∧ Below U.heap.size U wr) (fun _ i _ => (intOf i).toNat)
  case atStart => exact ⟨0, Nat.zero_le _, by simp, World.ownsRow_nil _ _ _ _, Below.refl _ _⟩
  case round =>
    obtain ⟨q, hq, rfl, ho, hb⟩ := hrel
    have hlt0 : ((downL k).take q).length = q := by rw [List.length_take, down_len]; omega
    by_cases hlt : q < k
    · have hpos : (0 : Int) < (k : Int) - (q : Int) := by omega
      obtain ⟨sa, sn, sc, rfl, _⟩ := ints_of_owns (l := (downL k).take q) (by rw [hlt0]; exact ho) (by rw [hlt0]; omega)
      have HO := hid (ho.alloc (.cells #[.int .i64 ((k : Int) - (q : Int))] 3))
      have hnews := World.news_of_block (heap_alloc_new wr (.cells #[.int .i64 ((k : Int) - (q : Int))] 3))
      have HB := hid hb
      have hUs := hb.size
      clear ho hb
      go_wp2_with (at_builtin; go_must ((refine wpList_append_lies _ rfl _ _ 26 rfl U.heap.size 3 i0 (.int .i64 0) 1 8 Tryz.underlying26 hi hz0 hz1 hz2 rfl (by decide) (.slice sa sn sc) q (ints ((downL k).take q)) rfl HO.out ⟨wr.heap.size, 0, none⟩ 1 1 [.int .i64 ((k : Int) - (q : Int))] rfl rfl hnews (by intro u hu; simp at hu; subst hu; rfl) (by decide) (by unfold maxLen; omega) (by omega) (by simp; omega) (wr.heap.size + 1) (by simp) ?_; intro g' cap' w6 ho6 hg6 hat hlt6; have P := hid (And.intro ho6 (And.intro hg6 hat)); clear ho6 hg6 hat hlt6)))
      go_roundw
      case rel =>
        obtain ⟨p1, p2, p3⟩ := P.out
        refine ⟨q + 1, by omega, by go_num, ?_, ?_⟩
        · rw [take_snoc_getD (d := 0) (by rw [down_len]; exact hlt) (down_at hlt), ints_app]
          exact p1
        · have fr6 : Frm (fun b => (Value.slice sa sn sc).ownBlock = some b) (wr.alloc (.cells #[.int .i64 ((k : Int) - (q : Int))] 3)) w6 := Frm.of_grown p2 (fun k hk => hk)
          exact Below.trans (kt HB.out (Below.alloc (Below.refl _ _) (Nat.le_refl _) _)) (fr6.below (by simp; omega) (fun b hb e => by have := (HO.out.lt _ e).1; omega))
      case measure => simp [intOf] <;> omega
    · obtain rfl : q = k := by omega
      have hpos : ¬ (0 : Int) < (q : Int) - (q : Int) := by omega
      rw [List.take_of_length_le (by rw [down_len]; omega)] at ho
      obtain ⟨sa, sn, sc, rfl, hout⟩ := ints_of_owns (l := downL q) (by rw [down_len]; exact ho) (by rw [down_len]; omega)
      have HO := hid (And.intro hout (O3.out.kept hb))
      obtain ⟨m0, m1, m2, m3⟩ := X3.out.kept hb
      have B4 := hid (kt B3.out hb)
      have hTT : T.tdiv 2 = T / 2 := Int.tdiv_eq_ediv_of_nonneg hTb.1
      have hmul := HT.out
      have hsub : (1000 : Int) - 13 * (q : Int) - 4 = 1000 - 13 * (q : Int) - 4 := rfl
      clear ho hb hout
      go_wp2_with (go_at_call 12; refine (num_any _ _).mono ?_; rintro e x ⟨rfl, hw⟩; rw [hw]; clear hw)
      refine (sameResult_any 1 (T / 2) _ _ _ (downL q) (1000 - 13 * (q : Int) - 4) 1 (T / 2) _ _ _ (downL q) (1000 - 13 * (q : Int) - 4) _ HO.out.2 HO.out.1).mono ?_
      rintro e u5 ⟨rfl, b5⟩
      rw [sameR_self]
      have B5 := hid (kt B4.out b5)
      clear b5
      go_wp2_with fail
      go_ret
      exact ⟨rfl, B5.out⟩

set_option maxRecDepth 100000 in
theorem lifted (os : Os) (started : os.Started) (H : Type) (enc : TypeId × Value → H) :
    ReturnsInHanded {} Tryz.checked os 4 .any (fun w args => (Rows.evalSumsSpec.pre enc Tryz.prog Tryz.f4 [] false w args ∧ laidMetH Tryz.prog [("math/bits.deBruijn32tab", Rows.laid_math_bits_deBruijn32tab), ("math/bits.deBruijn64tab", Rows.laid_math_bits_deBruijn64tab), ("internal/strconv.uint64pow10", Rows.laid_internal_strconv_uint64pow10), ("errors.errorType", Rows.laid_errors_errorType), ("swage/pack.errForm", Rows.laid_swage_pack_errForm), ("swage/pack.errEnd", Rows.laid_swage_pack_errEnd)] w) ∧ sizedMet enc Tryz.prog Tryz.f4 (OpenSpec.ofChange Rows.evalSumsSpec) false w args) (Rows.evalSumsSpec.post enc Tryz.prog Tryz.f4 false true false false) := by
  refine returnsInHanded_of_change_and (C := Tryz.checked) (X := fun w _ => laidMetH Tryz.prog [("math/bits.deBruijn32tab", Rows.laid_math_bits_deBruijn32tab), ("math/bits.deBruijn64tab", Rows.laid_math_bits_deBruijn64tab), ("internal/strconv.uint64pow10", Rows.laid_internal_strconv_uint64pow10), ("errors.errorType", Rows.laid_errors_errorType), ("swage/pack.errForm", Rows.laid_swage_pack_errForm), ("swage/pack.errEnd", Rows.laid_swage_pack_errEnd)] w) (fun _ _ _ hh h => h.of_heap hh) own started (by kernel_rfl) Tryz.func4
    (ChangeSpec.witness_shaped (enc := enc) (C := Tryz.checked) (os := os) (X := fun w _ => laidMetH Tryz.prog [("math/bits.deBruijn32tab", Rows.laid_math_bits_deBruijn32tab), ("math/bits.deBruijn64tab", Rows.laid_math_bits_deBruijn64tab), ("internal/strconv.uint64pow10", Rows.laid_internal_strconv_uint64pow10), ("errors.errorType", Rows.laid_errors_errorType), ("swage/pack.errForm", Rows.laid_swage_pack_errForm), ("swage/pack.errEnd", Rows.laid_swage_pack_errEnd)] w) false (World.doorLaid Tryz.prog 400 os) #[.int .i64 0] 8 rfl (World.shaped_of_RefB (by kernel_rfl) (by kernel_rfl)) (by kernel_rfl) (by kernel_rfl) (by kernel_rfl) (door_met os _)) ?_
  intro W base args ds gs before hval0 hW hcnd hsz0 hL _
  have hval : ∀ (j : Nat) t v, Tryz.f4.params[j]? = some t → args[j]? = some v → Value.okWide Tryz.prog W .any base t v := hval0
  have hW' := hW
  obtain ⟨p, q, hA0, hV, rfl, hfz, hnd⟩ := hW
  have hA : DataW.TrodAll enc Tryz.prog W 0 (fun _ => true) true Tryz.f4.params.toList args.toList ds p := hA0
  have hsz : (DataW.weightsEach Tryz.prog (Tryz.f4.params.toList ++ Rows.evalSumsSpec.plain.varTypes Tryz.prog) (ds ++ gs)).all (· ≤ reachBytes) = true := hsz0
  rw [Tryz.params4] at hA hval hsz
  obtain ⟨v0, vs0, d0, ds0, p0, q0, hargs, rfl, rfl, h0, r0⟩ := trodAll_cons hA
  obtain ⟨rfl, rfl, rfl⟩ := trodAll_nil r0
  obtain rfl : args = #[v0] := by cases args; simp_all
  obtain ⟨rfl, rfl⟩ := trodVars_none hV
  have k0 := h0
  have lt0 : ∀ x ∈ p0, x.block < W.heap.size := by obtain ⟨m, hm⟩ := k0; exact DataW.trod_lt m _ _ _ hm
  obtain ⟨a0, rfl, rfl, rfl, w0⟩ := open_int Tryz.underlying3 (hval 0 3 v0 rfl rfl) h0
  clear hA0 hval0
  refine (walk a0 W w0 (ld_of hL)).mono fun e W' ⟨he, bel⟩ => ?_
  subst he
  exact ⟨_, rfl, _, _, _, [], _, [], hW', trodAll_mk1 (shut_bool Tryz.underlying4 _), (trodAll_cons_mk (Below.trod laidOut (by kernel_rfl) (of_decide_eq_true (by kernel_rfl)) k0 bel lt0) trodAll_mk0), rfl, bel.frame _, fun h => by cases h⟩

theorem over : Rows.evalSumsRow.holds Tryz.pinned (OpenSpec.ofChange Rows.evalSumsSpec) :=
  OpenClaim.holds_of_wide 4 Tryz.f4 rfl rfl rfl rfl rfl rfl rfl ⟨rfl, rfl, rfl, rfl, rfl⟩ rfl rfl rfl rfl rfl (by kernel_rfl) Tryz.func4 (by kernel_rfl)
    (of_decide_eq_true (by kernel_rfl)) (by unfold Func.isWrapper; first | (rw [if_pos (by decide +kernel)]; kernel_rfl) | (rw [if_neg (by decide +kernel)]; exact ⟨rfl, rfl⟩))
    (fun os started H enc _ => lifted os started H enc)
end Go.Proofs.YtbbfgdkjgolieabGreatDoor.evalSums
namespace Go.Proofs.YtbbfgdkjgolieabGreatDoor
open Go
theorem evalSums_holds : Rows.EvalSumsCardSaid :=
  Claim7.holds_tied_plain_at .later [] [.data, .data, .data, .handle, .sentinel, .sentinel] true (true, "df9f9e0254879b26436ad060d49320056ec30ea2f54290ef4dfd0a208bae7ec3") true
    evalSums.over (fun _ h => by cases h) (by kernel_rfl) (fun _ h => by cases h) evalSums_row_tie rfl ⟨rfl, rfl⟩ (by kernel_rfl) rfl
    (fun f fn hf hfn => by
      obtain rfl : f = 4 := Option.some.inj ((show Tryz.prog.funcNamed "swage/swagelaw8.EvalSums" = some 4 by kernel_rfl).symm.trans hf) |>.symm
      obtain rfl : fn = Tryz.f4 := (Option.some.inj (Tryz.func4.symm.trans hfn)).symm
      exact ⟨by kernel_rfl, fun j t ht => by
        rw [Tryz.params4] at ht
        have hm : t ∈ [3] := by simpa using Array.mem_of_getElem? ht
        have hall : ([3].all fun u => !Tryz.prog.wantsStandIn u) = true := by kernel_rfl
        exact (show Tryz.prog.wantsStandIn t = false by simpa using List.all_eq_true.1 hall t hm)⟩)
    (by kernel_rfl)
#print axioms evalSums_holds
end Go.Proofs.YtbbfgdkjgolieabGreatDoor
