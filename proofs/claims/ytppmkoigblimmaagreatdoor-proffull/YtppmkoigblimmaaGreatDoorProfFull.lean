/- For any integer and any truth value the law ProfFull returns true: a profile of a program of one branch, in which all counts are as great as may be, may be, and a call and a branch that are told of it leave it as it is. (The package's variables hold what the program's text lays.) -/
import Derived.Test.YtppmkoigblimmaaGreatDoorRows
import Derived.WalkKit
import Derived.ProofKit
import Derived.OpenShut
import Derived.ShutString
import Derived.ChangeOld
import Derived.Below
import Derived.Carry
import Derived.Lib.SmallJoins
import Derived.Handy
import Derived.WalkSmall
import Derived.SizedLaws
import Derived.Test.YtppmkoigblimmaaGreatDoorLaidOpenV
import Derived.Test.YtppmkoigblimmaaGreatDoorCards
import Derived.Test.YtppmkoigblimmaaGreatDoorTie
import Derived.SevenTiedAt
import Derived.LaidMore
import Derived.Stop.Joined
import Derived.Test.YtppmkoigblimmaaGreatDoorAwake9
import Derived.Test.YtppmkoigblimmaaGreatDoorOneProf
import Derived.Test.YtppmkoigblimmaaGreatDoorLawProfC
namespace Go.Proofs.YtppmkoigblimmaaGreatDoor.profFull
open Go.ChangeShapes Go.WideShapes Go.ChangeAt Go.RowKit
open Go.ChangeMaps (open_string shut_string)
set_option linter.unusedVariables false

theorem own : ownKnob Tryz.prog.godebug = none := by kernel_rfl
theorem laidOut : laidOutB Tryz.prog = true := by kernel_rfl

def M30 : Int := 1073741824
def fullL : List Fp := [(1073741824, [0, 1073741824, 0, 0], [0, 1073741824, 0, 0], [(1, 1073741824, 1073741824)])]
theorem full_call (k : Int) (h0 : 0 ≤ k) (h4 : k < 4) : calledP brL fullL 0 [k] = fullL ∧ calledE brL fullL 0 [k] = 0 := by
  rcases (show k = 0 ∨ k = 1 ∨ k = 2 ∨ k = 3 by omega) with rfl | rfl | rfl | rfl
  all_goals exact ⟨by kernel_rfl, by kernel_rfl⟩
theorem full_branch (j : Bool) : branchP brL fullL 0 1 j = fullL ∧ branchE brL fullL 0 1 = 0 := by
  cases j
  all_goals exact ⟨by kernel_rfl, by kernel_rfl⟩
theorem full_may : profB brL fullL = true := by kernel_rfl
set_option maxRecDepth 100000 in
set_option maxHeartbeats 20000000 in
theorem walk (a0 : Int) (a1 : Bool) (w : World) (w0 : (Lit.int .i64 a0).wf = true) (ld : Ld w) :
    Calls Tryz.prog 6 #[.int .i64 a0, .bool a1] w fun e w' => e = .returned (.bool true) ∧ Below w.heap.size w w' := by
  have LD0 := hid ld
  clear ld
  have hm := and3 a0
  have hk0 : 0 ≤ a0 % 4 := Int.emod_nonneg _ (by omega)
  have hk4 : a0 % 4 < 4 := Int.emod_lt_of_pos _ (by omega)
  have FC := hid (full_call (a0 % 4) hk0 hk4)
  generalize a0 % 4 = k at hm hk0 hk4 FC
  go_enter Tryz.func6, Tryz.ntmps6
  go_wp2_with fail
  refine (awake9_any _ LD0.out).mono ?_
  rintro e w1 ⟨rfl, b1⟩
  have B1 := hid b1
  clear b1
  go_upto_region 4 with fail
  refine wp_name ?_
  intro U3 hU3
  have A3 : Hid (Below w1.heap.size w1 U3) := hid (by rw [hU3]; go_grown)
  have F3 : Hid (Fns U3 (some ⟨w1.heap.size + 1, 0, none⟩) 1 1 brL) := hid (by
    rw [hU3]
    have h := (fns_one (inss_new (u := w1) (l := brC) (t := 56) rfl rfl rfl (by decide)) 1 1 48).kept (Below.alloc (Below.refl _ _) (Nat.le_refl _) (.cells #[.slice (some ⟨w1.heap.size + 1, 0, none⟩) 1 1] 24))
    rw [World.size_alloc] at h
    exact h)
  have p3 : U3.cell? ⟨w1.heap.size + 1 + 1, 0, none⟩ = some (.slice (some ⟨w1.heap.size + 1, 0, none⟩) 1 1) := by rw [hU3]; simp [go_sem]
  have P3 := hid p3
  have L3 := hid (LD0.out.up (kt B1.out A3.out))
  clear hU3 p3
  go_upto_region 6 with fail
  refine wp_name ?_
  intro U5 hU5
  have A5 : Hid (Below U3.heap.size U3 U5) := hid (by rw [hU5]; go_grown)
  have Q5 : Hid (U5.cell? ⟨U3.heap.size + 1 + 1 + 1 + 1, 0, none⟩ = some (.slice (some ⟨U3.heap.size + 1 + 1 + 1, 0, none⟩) 1 1)) := hid (by rw [hU5]; simp [go_sem])
  have R5 : Hid (Sl layFp 80 U5 (some ⟨U3.heap.size + 1 + 1 + 1, 0, none⟩) 1 1 fullL) := hid (by
    rw [hU5]
    have hj := ints_new (u := U3) (l := [0, 1073741824, 0, 0]) (cs := #[.int .i64 0, .int .i64 1073741824, .int .i64 0, .int .i64 0]) (t := 3) rfl rfl rfl (by decide)
    have A1 : Below (U3.alloc (.cells #[.int .i64 0, .int .i64 1073741824, .int .i64 0, .int .i64 0] 3)).heap.size (U3.alloc (.cells #[.int .i64 0, .int .i64 1073741824, .int .i64 0, .int .i64 0] 3)) ((U3.alloc (.cells #[.int .i64 0, .int .i64 1073741824, .int .i64 0, .int .i64 0] 3)).alloc (.cells #[.int .i64 0, .int .i64 1073741824, .int .i64 0, .int .i64 0] 3)) := Below.alloc (Below.refl _ _) (Nat.le_refl _) _
    have hf := ints_new (u := U3.alloc (.cells #[.int .i64 0, .int .i64 1073741824, .int .i64 0, .int .i64 0] 3)) (l := [0, 1073741824, 0, 0]) (cs := #[.int .i64 0, .int .i64 1073741824, .int .i64 0, .int .i64 0]) (t := 3) rfl rfl rfl (by decide)
    have A2 := Below.alloc (Below.refl ((U3.alloc (.cells #[.int .i64 0, .int .i64 1073741824, .int .i64 0, .int .i64 0] 3)).alloc (.cells #[.int .i64 0, .int .i64 1073741824, .int .i64 0, .int .i64 0] 3)).heap.size ((U3.alloc (.cells #[.int .i64 0, .int .i64 1073741824, .int .i64 0, .int .i64 0] 3)).alloc (.cells #[.int .i64 0, .int .i64 1073741824, .int .i64 0, .int .i64 0] 3))) (Nat.le_refl _) (.cells #[.int .i64 1, .int .i64 1073741824, .int .i64 1073741824] 53)
    have ha := aps_one ((U3.alloc (.cells #[.int .i64 0, .int .i64 1073741824, .int .i64 0, .int .i64 0] 3)).alloc (.cells #[.int .i64 0, .int .i64 1073741824, .int .i64 0, .int .i64 0] 3)) 1 1073741824 1073741824 53
    have h := (fps_one 1073741824 ((hj.kept A1).kept A2) (hf.kept A2) ha 51).kept (Below.alloc (Below.refl _ _) (Nat.le_refl _) (.cells #[.slice (some ⟨U3.heap.size + 1 + 1 + 1, 0, none⟩) 1 1] 27))
    simp only [World.size_alloc] at h
    exact h)
  have P5 := hid (kept_cell A5.out P3.out)
  have F5 := hid (F3.out.kept A5.out)
  have L5 := hid (L3.out.up A5.out)
  have p5 := P5.out
  have q5 := Q5.out
  clear hU5
  go_wp2_with fail
  have E6 : Hid (Below U5.heap.size U5 (U5.alloc (.cells #[.int .i64 k] 3))) := hid (Below.alloc (Below.refl _ _) (Nat.le_refl _) _)
  refine (prCalled_any _ _ _ brL _ _ _ fullL 0 _ _ _ [k] _ (F5.out.kept E6.out) (R5.out.kept E6.out) (ints_new rfl rfl rfl (by simp)) (L5.out.up E6.out)).mono ?_
  rintro e w6 ⟨av, rfl, o6, b6⟩
  rw [FC.out.2]
  rw [FC.out.1] at o6
  obtain ⟨aa, an, ac, rfl, r6⟩ := o6.reads
  have B6 := hid (kt E6.out b6)
  have R6 := hid r6
  clear b6 r6 o6 p5 q5
  go_upto_region 7 with fail
  refine wp_name ?_
  intro U6 hU6
  have A6 : Hid (Below w6.heap.size w6 U6) := hid (by rw [hU6]; exact Below.alloc (Below.refl _ _) (Nat.le_refl _) _)
  have C6 := hid (kt B6.out A6.out)
  have Q6 : Hid (U6.cell? ⟨w6.heap.size, 0, none⟩ = some (.slice aa an ac)) := hid (by rw [hU6]; simp [go_sem])
  have p6 := kept_cell C6.out P5.out
  have q6 := kept_cell C6.out Q5.out
  clear hU6
  go_wp2_with fail
  refine (prBranched_any _ _ _ brL _ _ _ fullL 0 1 a1 _ (F5.out.kept C6.out) (R5.out.kept C6.out) (L5.out.up C6.out)).mono ?_
  rintro e w7 ⟨bv, rfl, o7, b7⟩
  rw [(full_branch a1).2]
  rw [(full_branch a1).1] at o7
  obtain ⟨ba, bn, bc, rfl, r7⟩ := o7.reads
  have B7 := hid b7
  have R7 := hid r7
  clear b7 r7 o7 p6 q6
  go_upto_region 8 with fail
  refine wp_name ?_
  intro U7 hU7
  have A7 : Hid (Below w7.heap.size w7 U7) := hid (by rw [hU7]; exact Below.alloc (Below.refl _ _) (Nat.le_refl _) _)
  have C7 := hid (kt C6.out (kt B7.out A7.out))
  have Q7 : Hid (U7.cell? ⟨w7.heap.size, 0, none⟩ = some (.slice ba bn bc)) := hid (by rw [hU7]; simp [go_sem])
  have p7 := kept_cell C7.out P5.out
  have q7 := kept_cell C7.out Q5.out
  clear hU7
  go_wp2_with fail
  refine (prMay_any _ _ _ brL _ _ _ fullL _ (F5.out.kept C7.out) (R5.out.kept C7.out) (L5.out.up C7.out)).mono ?_
  rintro e w8 ⟨rfl, b8⟩
  rw [full_may]
  have a8 := kept_cell (kt (kt B7.out A7.out) b8) Q6.out
  have q8 := kept_cell (kt C7.out b8) Q5.out
  have B8 := hid b8
  clear b8 p7 q7
  go_wp2_with (first | (go_at_call 15; refine (num_any _ _).mono ?_; rintro e w' ⟨rfl, hw⟩; rw [hw]; clear hw))
  refine (sameProf_same _ _ _ _ _ _ fullL _ (R6.out.kept (kt A6.out (kt (kt B7.out A7.out) B8.out))) (R5.out.kept (kt C7.out B8.out))).mono ?_
  rintro e w9 ⟨rfl, b9⟩
  have b9' := kept_cell (kt B8.out b9) Q7.out
  have q9 := kept_cell (kt (kt C7.out B8.out) b9) Q5.out
  have B9 := hid (kt B8.out b9)
  clear b9 a8 q8
  go_wp2_with (first | (go_at_call 15; refine (num_any _ _).mono ?_; rintro e w' ⟨rfl, hw⟩; rw [hw]; clear hw))
  refine (sameProf_same _ _ _ _ _ _ fullL _ (R7.out.kept (kt A7.out B9.out)) (R5.out.kept (kt C7.out B9.out))).mono ?_
  rintro e w10 ⟨rfl, b10⟩
  have B10 := hid (kt (kt B1.out A3.out) (kt A5.out (kt (kt C7.out B9.out) b10)))
  clear b10 b9' q9
  go_wp2_with fail
  go_ret
  exact ⟨rfl, B10.out⟩

set_option maxRecDepth 100000 in
theorem lifted (os : Os) (started : os.Started) (H : Type) (enc : TypeId × Value → H) :
    ReturnsInHanded {} Tryz.checked os 6 .any (fun w args => (Rows.profFullSpec.pre enc Tryz.prog Tryz.f6 [] false w args ∧ laidMetH Tryz.prog [("math/bits.deBruijn32tab", Rows.laid_math_bits_deBruijn32tab), ("math/bits.deBruijn64tab", Rows.laid_math_bits_deBruijn64tab), ("internal/strconv.uint64pow10", Rows.laid_internal_strconv_uint64pow10), ("errors.errorType", Rows.laid_errors_errorType), ("swage/pack.errForm", Rows.laid_swage_pack_errForm), ("swage/pack.errEnd", Rows.laid_swage_pack_errEnd)] w) ∧ sizedMet enc Tryz.prog Tryz.f6 (OpenSpec.ofChange Rows.profFullSpec) false w args) (Rows.profFullSpec.post enc Tryz.prog Tryz.f6 false true false false) := by
  refine returnsInHanded_of_change_and (C := Tryz.checked) (X := fun w _ => laidMetH Tryz.prog [("math/bits.deBruijn32tab", Rows.laid_math_bits_deBruijn32tab), ("math/bits.deBruijn64tab", Rows.laid_math_bits_deBruijn64tab), ("internal/strconv.uint64pow10", Rows.laid_internal_strconv_uint64pow10), ("errors.errorType", Rows.laid_errors_errorType), ("swage/pack.errForm", Rows.laid_swage_pack_errForm), ("swage/pack.errEnd", Rows.laid_swage_pack_errEnd)] w) (fun _ _ _ hh h => h.of_heap hh) own started (by kernel_rfl) Tryz.func6
    (ChangeSpec.witness_shaped (enc := enc) (C := Tryz.checked) (os := os) (X := fun w _ => laidMetH Tryz.prog [("math/bits.deBruijn32tab", Rows.laid_math_bits_deBruijn32tab), ("math/bits.deBruijn64tab", Rows.laid_math_bits_deBruijn64tab), ("internal/strconv.uint64pow10", Rows.laid_internal_strconv_uint64pow10), ("errors.errorType", Rows.laid_errors_errorType), ("swage/pack.errForm", Rows.laid_swage_pack_errForm), ("swage/pack.errEnd", Rows.laid_swage_pack_errEnd)] w) false (World.doorLaid Tryz.prog 400 os) #[.int .i64 0, .bool false] 8 rfl (World.shaped_of_RefB (by kernel_rfl) (by kernel_rfl)) (by kernel_rfl) (by kernel_rfl) (by kernel_rfl) (door_met os _)) ?_
  intro W base args ds gs before hval0 hW hcnd hsz0 hL _
  have hval : ∀ (j : Nat) t v, Tryz.f6.params[j]? = some t → args[j]? = some v → Value.okWide Tryz.prog W .any base t v := hval0
  have hW' := hW
  obtain ⟨p, q, hA0, hV, rfl, hfz, hnd⟩ := hW
  have hA : DataW.TrodAll enc Tryz.prog W 0 (fun _ => true) true Tryz.f6.params.toList args.toList ds p := hA0
  have hsz : (DataW.weightsEach Tryz.prog (Tryz.f6.params.toList ++ Rows.profFullSpec.plain.varTypes Tryz.prog) (ds ++ gs)).all (· ≤ reachBytes) = true := hsz0
  rw [Tryz.params6] at hA hval hsz
  obtain ⟨v0, vs0, d0, ds0, p0, q0, hargs, rfl, rfl, h0, r0⟩ := trodAll_cons hA
  obtain ⟨v1, vs1, d1, ds1, p1, q1, rfl, rfl, rfl, h1, r1⟩ := trodAll_cons r0
  obtain ⟨rfl, rfl, rfl⟩ := trodAll_nil r1
  obtain rfl : args = #[v0, v1] := by cases args; simp_all
  obtain ⟨rfl, rfl⟩ := trodVars_none hV
  have k0 := h0
  have lt0 : ∀ x ∈ p0, x.block < W.heap.size := by obtain ⟨m, hm⟩ := k0; exact DataW.trod_lt m _ _ _ hm
  have k1 := h1
  have lt1 : ∀ x ∈ p1, x.block < W.heap.size := by obtain ⟨m, hm⟩ := k1; exact DataW.trod_lt m _ _ _ hm
  obtain ⟨a0, rfl, rfl, rfl, w0⟩ := open_int Tryz.underlying3 (hval 0 3 v0 rfl rfl) h0
  obtain ⟨a1, rfl, rfl, rfl⟩ := open_bool Tryz.underlying4 (hval 1 4 v1 rfl rfl) h1
  clear hA0 hval0
  refine (walk a0 a1 W w0 (ld_of hL)).mono fun e W' ⟨he, bel⟩ => ?_
  subst he
  exact ⟨_, rfl, _, _, _, [], _, [], hW', trodAll_mk1 (shut_bool Tryz.underlying4 _), (trodAll_cons_mk (Below.trod laidOut (by kernel_rfl) (of_decide_eq_true (by kernel_rfl)) k0 bel lt0) (trodAll_cons_mk (Below.trod laidOut (by kernel_rfl) (of_decide_eq_true (by kernel_rfl)) k1 bel lt1) trodAll_mk0)), rfl, bel.frame _, fun h => by cases h⟩

theorem over : Rows.profFullRow.holds Tryz.pinned (OpenSpec.ofChange Rows.profFullSpec) :=
  OpenClaim.holds_of_wide 6 Tryz.f6 rfl rfl rfl rfl rfl rfl rfl ⟨rfl, rfl, rfl, rfl, rfl⟩ rfl rfl rfl rfl rfl (by kernel_rfl) Tryz.func6 (by kernel_rfl)
    (of_decide_eq_true (by kernel_rfl)) (by unfold Func.isWrapper; first | (rw [if_pos (by decide +kernel)]; kernel_rfl) | (rw [if_neg (by decide +kernel)]; exact ⟨rfl, rfl⟩))
    (fun os started H enc _ => lifted os started H enc)
end Go.Proofs.YtppmkoigblimmaaGreatDoor.profFull
namespace Go.Proofs.YtppmkoigblimmaaGreatDoor
open Go
theorem profFull_holds : Rows.ProfFullCardSaid :=
  Claim7.holds_tied_plain_at .later [] [.data, .data, .data, .handle, .sentinel, .sentinel] true (true, "812bda82e1a40458e8dfd141f08c207631568d80ebc24ad44e2f48ba26e3f76f") true
    profFull.over (fun _ h => by cases h) (by kernel_rfl) (fun _ h => by cases h) profFull_row_tie rfl ⟨rfl, rfl⟩ (by kernel_rfl) rfl
    (fun f fn hf hfn => by
      obtain rfl : f = 6 := Option.some.inj ((show Tryz.prog.funcNamed "swage/swagelaw9.ProfFull" = some 6 by kernel_rfl).symm.trans hf) |>.symm
      obtain rfl : fn = Tryz.f6 := (Option.some.inj (Tryz.func6.symm.trans hfn)).symm
      exact ⟨by kernel_rfl, fun j t ht => by
        rw [Tryz.params6] at ht
        have hm : t ∈ [3, 4] := by simpa using Array.mem_of_getElem? ht
        have hall : ([3, 4].all fun u => !Tryz.prog.wantsStandIn u) = true := by kernel_rfl
        exact (show Tryz.prog.wantsStandIn t = false by simpa using List.all_eq_true.1 hall t hm)⟩)
    (by kernel_rfl)
#print axioms profFull_holds
end Go.Proofs.YtppmkoigblimmaaGreatDoor
