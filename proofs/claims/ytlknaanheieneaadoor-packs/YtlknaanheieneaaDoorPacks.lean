/- For any program and any string the law Packs returns true: pack.Put and pack.Get answer as the document's own reckoning does, and the program stays as it was; no conditions. -/
import Derived.Test.YtlknaanheieneaaDoorRows
import Derived.WalkKit
import Derived.ProofKit
import Derived.OpenShut
import Derived.ShutString
import Derived.ChangeOld
import Derived.Below
import Derived.Carry
import Derived.Lib.SmallJoins
import Derived.Handy
import Derived.WalkSmall
import Derived.SizedLaws
import Derived.Test.YtlknaanheieneaaDoorOpen
import Derived.Test.YtlknaanheieneaaDoorLaidOpen
import Derived.Test.YtlknaanheieneaaDoorCards
import Derived.Test.YtlknaanheieneaaDoorTie
import Derived.SevenTiedAt
import Derived.LaidMore
import Derived.Stop.Joined
import Derived.Test.YtlknaanheieneaaDoorAwake3
namespace Go.Proofs.YtlknaanheieneaaDoor.packs
open Go.ChangeShapes Go.WideShapes Go.ChangeAt Go.RowKit
open Go.ChangeMaps (open_string shut_string)
set_option linter.unusedVariables false

theorem own : ownKnob Tryd.prog.godebug = none := by kernel_rfl
theorem laidOut : laidOutB Tryd.prog = true := by kernel_rfl

set_option maxRecDepth 100000 in
set_option maxHeartbeats 20000000 in
theorem walk (a0 : Option Addr) (n0 c0 : Nat) (l0 : List Fn) (a1 : ByteArray) (w : World) (w0 : Fns w a0 n0 c0 l0) (w1 : a1.size ≤ 140737488351232) (ld : Ld w) :
    Calls Tryd.prog 3 #[.agg #[.slice a0 n0 c0], .string a1] w fun e w' => e = .returned (.bool true) ∧ Below w.heap.size w w' := by
  have LD0 := hid ld
  clear ld
  go_enter Tryd.func3, Tryd.ntmps3
  go_wp2_with fail
  refine (copyProgram_any _ _ _ l0 _ (w0.kept (by go_grown))).mono ?_
  rintro e u1 ⟨vx, rfl, ox, b1⟩
  obtain ⟨ax, nx, cx, rfl, fx⟩ := ox.reads (by rw [← w0.len]; exact w0.room)
  have p1 := kept_cell b1 (b := w.heap.size) (o := 0) (v := .slice a0 n0 c0) (by simp [go_sem])
  have W1 := hid ((w0.kept (by go_grown)).kept b1)
  have B1 := hid b1
  clear b1
  go_wp2_with fail
  refine (putL _ _ _ l0 _ (fx.kept (by go_grown)) (LD0.out.up (kt (kt (by go_grown) B1.out) (by go_grown)))).mono ?_
  rintro e u2 ⟨rfl, b2⟩
  have x2 := kept_cell b2 (b := u1.heap.size) (o := 0) (v := .slice ax nx cx) (by simp [go_sem])
  have p2 := kept_cell b2 (kept_cell (by go_grown) p1)
  have W2 := hid ((W1.out.kept (by go_grown)).kept b2)
  have X2 := hid ((fx.kept (by go_grown)).kept b2)
  have B2 : Hid (Below w.heap.size w u2) := hid (kt (kt (kt (by go_grown) B1.out) (by go_grown)) b2)
  clear b2 p1 fx
  go_wp2_with fail
  refine (refPut_any _ _ _ l0 _ W2.out).mono ?_
  rintro e u3 ⟨rfl, b3⟩
  have x3 := kept_cell b3 x2
  have p3 := kept_cell b3 p2
  have W3 := hid (W2.out.kept b3)
  have X3 := hid (X2.out.kept b3)
  have B3 : Hid (Below w.heap.size w u3) := hid (kt B2.out b3)
  clear b3 x2 p2
  go_wp2_with fail
  refine (getL a1 _ w1 (LD0.out.up B3.out)).mono ?_
  rintro e u4 ⟨vq, eq, rfl, b4, hq⟩
  obtain ⟨lq, aq, nq, cq, rfl, fq, oq, gq⟩ := got_of hq
  have C4 := hid b4
  have K3 := hid (And.intro x3 p3)
  have GQ := hid gq
  have FQ := hid fq
  have OQ := hid oq
  clear b4 x3 p3 hq gq fq oq
  go_wp2_with fail
  refine (refGet_spec a1 _ w1).mono ?_
  rintro e u5 ⟨vr, er, rfl, b5, hr⟩
  obtain ⟨lr, ar, nr, cr, rfl, fr, or, gr⟩ := got_of hr
  obtain ⟨rfl, rfl⟩ := got_same GQ.out gr
  have C5 := hid (kt (kt C4.out (Below.alloc (Below.refl _ _) (Nat.le_refl _) (.cells #[.slice aq nq cq] 24))) b5)
  have C6 := hid (kt C5.out (Below.alloc (Below.refl _ _) (Nat.le_refl _) (.cells #[.slice ar nr cr] 24)))
  have q5 := kept_cell b5 (b := u4.heap.size) (o := 0) (v := .slice aq nq cq) (by simp [go_sem])
  have q6 := kept_cell (Below.alloc (Below.refl _ _) (Nat.le_refl _) (.cells #[.slice ar nr cr] 24)) q5
  have Q6 := hid (((FQ.out.kept (Below.alloc (Below.refl _ _) (Nat.le_refl _) (.cells #[.slice aq nq cq] 24))).kept b5).kept (Below.alloc (Below.refl _ _) (Nat.le_refl _) (.cells #[.slice ar nr cr] 24)))
  have O6 := hid (((OQ.out.kept (Below.alloc (Below.refl _ _) (Nat.le_refl _) (.cells #[.slice aq nq cq] 24))).kept b5).kept (Below.alloc (Below.refl _ _) (Nat.le_refl _) (.cells #[.slice ar nr cr] 24)))
  have R6 := hid (fr.kept (Below.alloc (Below.refl _ _) (Nat.le_refl _) (.cells #[.slice ar nr cr] 24)))
  clear b5 hr gr or fr q5
  go_wp2_with (first | (go_at_call 13; refine (num_any _ _).mono ?_; rintro e w' ⟨rfl, hw⟩; rw [hw]; clear hw))
  refine (sameProgram_any _ _ _ _ _ _ lr lr _ Q6.out R6.out).mono ?_
  rintro e u7 ⟨rfl, b7⟩
  rw [show decide (lr = lr) = true by simp]
  have q7 := kept_cell b7 q6
  have C7 := hid (kt C6.out b7)
  have S7 := hid ((O6.out.kept b7).soft (Nat.le_refl _))
  have F7 := hid (Q6.out.kept b7)
  clear b7 q6
  go_wp2_with (first | (go_at_call 13; refine (num_any _ _).mono ?_; rintro e w' ⟨rfl, hw⟩; rw [hw]; clear hw))
  refine (spoilProgram_any _ _ _ u3.heap.size _ S7.out F7.out.room F7.out.cap C7.out.size).mono ?_
  rintro e u8 ⟨rfl, lk, b8⟩
  have C8 := hid (C7.out.trans b8)
  have x8 := kept_cell C8.out K3.out.1
  have p8 := kept_cell C8.out K3.out.2
  clear lk b8 q7
  go_wp2_with fail
  refine (sameProgram_any _ _ _ _ _ _ l0 l0 _ (X3.out.kept C8.out) (W3.out.kept C8.out)).mono ?_
  rintro e u9 ⟨rfl, b9⟩
  rw [show decide (l0 = l0) = true by simp]
  go_wp2_with fail
  refine (awake3_any _ (LD0.out.up (kt (kt B3.out C8.out) b9))).mono ?_
  rintro e u10 ⟨rfl, b10⟩
  go_wp2_with fail
  go_ret
  exact ⟨rfl, kt (kt (kt B3.out C8.out) b9) b10⟩

set_option maxRecDepth 100000 in
theorem lifted (os : Os) (started : os.Started) (H : Type) (enc : TypeId × Value → H) :
    ReturnsInHanded {} Tryd.checked os 3 .any (fun w args => (Rows.packsSpec.pre enc Tryd.prog Tryd.f3 [] false w args ∧ laidMetH Tryd.prog [("math/bits.deBruijn32tab", Rows.laid_math_bits_deBruijn32tab), ("math/bits.deBruijn64tab", Rows.laid_math_bits_deBruijn64tab), ("internal/strconv.uint64pow10", Rows.laid_internal_strconv_uint64pow10), ("swage/pack.errForm", Rows.laid_swage_pack_errForm), ("swage/pack.errEnd", Rows.laid_swage_pack_errEnd)] w) ∧ sizedMet enc Tryd.prog Tryd.f3 (OpenSpec.ofChange Rows.packsSpec) false w args) (Rows.packsSpec.post enc Tryd.prog Tryd.f3 false true false false) := by
  refine returnsInHanded_of_change_and (C := Tryd.checked) (X := fun w _ => laidMetH Tryd.prog [("math/bits.deBruijn32tab", Rows.laid_math_bits_deBruijn32tab), ("math/bits.deBruijn64tab", Rows.laid_math_bits_deBruijn64tab), ("internal/strconv.uint64pow10", Rows.laid_internal_strconv_uint64pow10), ("swage/pack.errForm", Rows.laid_swage_pack_errForm), ("swage/pack.errEnd", Rows.laid_swage_pack_errEnd)] w) (fun _ _ _ hh h => h.of_heap hh) own started (by kernel_rfl) Tryd.func3
    (ChangeSpec.witness_shaped (enc := enc) (C := Tryd.checked) (os := os) (X := fun w _ => laidMetH Tryd.prog [("math/bits.deBruijn32tab", Rows.laid_math_bits_deBruijn32tab), ("math/bits.deBruijn64tab", Rows.laid_math_bits_deBruijn64tab), ("internal/strconv.uint64pow10", Rows.laid_internal_strconv_uint64pow10), ("swage/pack.errForm", Rows.laid_swage_pack_errForm), ("swage/pack.errEnd", Rows.laid_swage_pack_errEnd)] w) false (World.doorLaid Tryd.prog 400 os) #[.agg #[.slice none 0 0], .string ByteArray.empty] 8 rfl (World.shaped_of_RefB (by kernel_rfl) (by kernel_rfl)) (by kernel_rfl) (by kernel_rfl) (by kernel_rfl) (door_met os _)) ?_
  intro W base args ds gs before hval0 hW hcnd hsz0 hL _
  have hval : ∀ (j : Nat) t v, Tryd.f3.params[j]? = some t → args[j]? = some v → Value.okWide Tryd.prog W .any base t v := hval0
  have hW' := hW
  obtain ⟨p, q, hA0, hV, rfl, hfz, hnd⟩ := hW
  have hA : DataW.TrodAll enc Tryd.prog W 0 (fun _ => true) true Tryd.f3.params.toList args.toList ds p := hA0
  have hsz : (DataW.weightsEach Tryd.prog (Tryd.f3.params.toList ++ Rows.packsSpec.plain.varTypes Tryd.prog) (ds ++ gs)).all (· ≤ reachBytes) = true := hsz0
  rw [Tryd.params3] at hA hval hsz
  obtain ⟨v0, vs0, d0, ds0, p0, q0, hargs, rfl, rfl, h0, r0⟩ := trodAll_cons hA
  obtain ⟨v1, vs1, d1, ds1, p1, q1, rfl, rfl, rfl, h1, r1⟩ := trodAll_cons r0
  obtain ⟨rfl, rfl, rfl⟩ := trodAll_nil r1
  obtain rfl : args = #[v0, v1] := by cases args; simp_all
  obtain ⟨rfl, rfl⟩ := trodVars_none hV
  have k0 := h0
  have lt0 : ∀ x ∈ p0, x.block < W.heap.size := by obtain ⟨m, hm⟩ := k0; exact DataW.trod_lt m _ _ _ hm
  have k1 := h1
  have lt1 : ∀ x ∈ p1, x.block < W.heap.size := by obtain ⟨m, hm⟩ := k1; exact DataW.trod_lt m _ _ _ hm
  obtain ⟨a0, n0, c0, l0, rfl, w0⟩ := open_program (hval 0 24 v0 rfl rfl) h0 (fun k hk => by simpa using List.all_eq_true.1 hsz k (DataW.weights_mem_each (j := 0) rfl rfl k hk))
  obtain ⟨a1, rfl, rfl, rfl, wm1⟩ := open_string Tryd.underlying9 (hval 1 9 v1 rfl rfl) h1
  have w1 : a1.size ≤ 140737488351232 := by
    have h := sized_string hsz (j := 1) (t := 9) rfl rfl
    have e : a1.data.toList.length = a1.size := by simp
    rw [e] at h
    exact h
  clear hA0 hval0
  refine (walk a0 n0 c0 l0 a1 W w0 w1 (ld_of hL)).mono fun e W' ⟨he, bel⟩ => ?_
  subst he
  exact ⟨_, rfl, _, _, _, [], _, [], hW', trodAll_mk1 (shut_bool Tryd.underlying4 _), (trodAll_cons_mk (Below.trod laidOut (by kernel_rfl) (of_decide_eq_true (by kernel_rfl)) k0 bel lt0) (trodAll_cons_mk (Below.trod laidOut (by kernel_rfl) (of_decide_eq_true (by kernel_rfl)) k1 bel lt1) trodAll_mk0)), rfl, bel.frame _, fun h => by cases h⟩

theorem over : Rows.packsRow.holds Tryd.pinned (OpenSpec.ofChange Rows.packsSpec) :=
  OpenClaim.holds_of_wide 3 Tryd.f3 rfl rfl rfl rfl rfl rfl rfl ⟨rfl, rfl, rfl, rfl, rfl⟩ rfl rfl rfl rfl rfl (by kernel_rfl) Tryd.func3 (by kernel_rfl)
    (of_decide_eq_true (by kernel_rfl)) (by unfold Func.isWrapper; first | (rw [if_pos (by decide +kernel)]; kernel_rfl) | (rw [if_neg (by decide +kernel)]; exact ⟨rfl, rfl⟩))
    (fun os started H enc _ => lifted os started H enc)
end Go.Proofs.YtlknaanheieneaaDoor.packs
namespace Go.Proofs.YtlknaanheieneaaDoor
open Go
theorem packs_holds : Rows.PacksCardSaid :=
  Claim7.holds_tied_plain_at .later [] [.data, .data, .data, .sentinel, .sentinel] true (true, "f144d9048f5c4b297b1d9f684961b5a3ac68166b4a9617bb131c147bab0c1bb5") true
    packs.over (fun _ h => by cases h) (by kernel_rfl) (fun _ h => by cases h) packs_row_tie rfl ⟨rfl, rfl⟩ (by kernel_rfl) rfl
    (fun f fn hf hfn => by
      obtain rfl : f = 3 := Option.some.inj ((show Tryd.prog.funcNamed "swage/swagelaw3.Packs" = some 3 by kernel_rfl).symm.trans hf) |>.symm
      obtain rfl : fn = Tryd.f3 := (Option.some.inj (Tryd.func3.symm.trans hfn)).symm
      exact ⟨by kernel_rfl, fun j t ht => by
        rw [Tryd.params3] at ht
        have hm : t ∈ [24, 9] := by simpa using Array.mem_of_getElem? ht
        have hall : ([24, 9].all fun u => !Tryd.prog.wantsStandIn u) = true := by kernel_rfl
        exact (show Tryd.prog.wantsStandIn t = false by simpa using List.all_eq_true.1 hall t hm)⟩)
    (by kernel_rfl)
#print axioms packs_holds
end Go.Proofs.YtlknaanheieneaaDoor
