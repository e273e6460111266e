/- For any program, string and integer the law PackBack returns true: a program comes back from its bytes, no beginning of them is a program, and bytes that are a program are put as they stood; no conditions. -/
import Derived.Test.YtlknaanheieneaaDoorRows
import Derived.WalkKit
import Derived.ProofKit
import Derived.OpenShut
import Derived.ShutString
import Derived.ChangeOld
import Derived.Below
import Derived.Carry
import Derived.Lib.SmallJoins
import Derived.Handy
import Derived.WalkSmall
import Derived.SizedLaws
import Derived.Test.YtlknaanheieneaaDoorOpen
import Derived.Test.YtlknaanheieneaaDoorLaidOpen
import Derived.Test.YtlknaanheieneaaDoorCards
import Derived.Test.YtlknaanheieneaaDoorTie
import Derived.SevenTiedAt
import Derived.LaidMore
import Derived.Stop.Joined
import Derived.Test.YtlknaanheieneaaDoorAwake3
namespace Go.Proofs.YtlknaanheieneaaDoor.packBack
open Go.ChangeShapes Go.WideShapes Go.ChangeAt Go.RowKit
open Go.ChangeMaps (open_string shut_string)
set_option linter.unusedVariables false

theorem own : ownKnob Tryd.prog.godebug = none := by kernel_rfl
theorem laidOut : laidOutB Tryd.prog = true := by kernel_rfl

set_option maxRecDepth 100000 in
set_option maxHeartbeats 20000000 in
theorem walk (a0 : Option Addr) (n0 c0 : Nat) (l0 : List Fn) (a1 : ByteArray) (a2 : Int) (w : World) (w0 : Fns w a0 n0 c0 l0) (w1 : a1.size ≤ 140737488351232) (w2 : (Lit.int .i64 a2).wf = true) (ld : Ld w) :
    Calls Tryd.prog 4 #[.agg #[.slice a0 n0 c0], .string a1, .int .i64 a2] w fun e w' => e = .returned (.bool true) ∧ Below w.heap.size w w' := by
  have LD0 := hid ld
  clear ld
  go_enter Tryd.func4, Tryd.ntmps4
  go_wp2_with fail
  refine (awake3_any _ (LD0.out.up (by go_grown))).mono ?_
  rintro e u1 ⟨rfl, b1⟩
  have p1 := kept_cell b1 (b := w.heap.size) (o := 0) (v := .slice a0 n0 c0) (by simp [go_sem])
  have W1 := hid ((w0.kept (by go_grown)).kept b1)
  have B1 : Hid (Below w.heap.size w u1) := hid (kt (by go_grown) b1)
  clear b1
  go_wp2_with fail
  refine (putL _ _ _ l0 _ W1.out (LD0.out.up B1.out)).mono ?_
  rintro e u2 ⟨rfl, b2⟩
  have p2 := kept_cell b2 p1
  have W2 := hid (W1.out.kept b2)
  have B2 : Hid (Below w.heap.size w u2) := hid (kt B1.out b2)
  clear b2 p1
  cases hpk : packsB l0
  · rw [putE_no hpk]
    go_wp2_with (first | (go_at_call 13; refine (num_any _ _).mono ?_; rintro e w' ⟨rfl, hw⟩; rw [hw]; clear hw))
    refine (getL a1 _ w1 (LD0.out.up B2.out)).mono ?_
    rintro e t1 ⟨vs, es, rfl, c1, ⟨ls, ps, rfl, os⟩ | ⟨ns, rfl, rfl⟩⟩
    · obtain ⟨sa1, sn1, sc1, rfl, fs⟩ := os.reads (by have := packs_len ps.1; omega)
      have FS := hid (fs.kept (Below.alloc (Below.refl _ _) (Nat.le_refl _) (.cells #[.slice sa1 sn1 sc1] 24)))
      have BT : Hid (Below w.heap.size w t1) := hid (kt B2.out c1)
      clear c1 fs os
      go_wp2_with (first | (go_at_call 13; refine (num_any _ _).mono ?_; rintro e w' ⟨rfl, hw⟩; rw [hw]; clear hw))
      refine (putL _ _ _ ls _ FS.out (LD0.out.up (kt BT.out (by go_grown)))).mono ?_
      rintro e t2 ⟨rfl, c2⟩
      rw [putS_of ps, putE_ok ps.1]
      go_wp2_with (first | (go_at_call 13; refine (num_any _ _).mono ?_; rintro e w' ⟨rfl, hw⟩; rw [hw]; clear hw))
      go_ret
      exact ⟨rfl, kt (kt BT.out (by go_grown)) c2⟩
    · go_wp2_with (first | (go_at_call 13; refine (num_any _ _).mono ?_; rintro e w' ⟨rfl, hw⟩; rw [hw]; clear hw))
      go_ret
      exact ⟨rfl, kt (kt B2.out c1) (by go_grown)⟩
  · have hip := putS_ok hpk
    have hsz := isPut_size hip
    rw [putE_ok hpk]
    generalize putS l0 = sa at hip hsz
    have HIP := hid hip
    clear hip
    go_wp2_with (first | (go_at_call 13; refine (num_any _ _).mono ?_; rintro e w' ⟨rfl, hw⟩; rw [hw]; clear hw))
    refine (getL sa _ (by omega) (LD0.out.up B2.out)).mono ?_
    rintro e u3 ⟨vq, eq, rfl, b3, ⟨lq, pq, rfl, oq⟩ | ⟨nq, _⟩⟩
    rotate_left
    · exact absurd HIP.out (nq l0)
    obtain rfl := isPut_one pq HIP.out
    obtain ⟨aq, nq, cq, rfl, fq⟩ := oq.reads (by have := packs_len hpk; omega)
    have p3 := kept_cell b3 p2
    have p4 := kept_cell (Below.alloc (Below.refl _ _) (Nat.le_refl _) (.cells #[.slice aq nq cq] 24)) p3
    have q4 : (u3.alloc (.cells #[.slice aq nq cq] 24)).cell? ⟨u3.heap.size, 0, none⟩ = some (.slice aq nq cq) := by simp [go_sem]
    have W4 := hid ((W2.out.kept b3).kept (Below.alloc (Below.refl _ _) (Nat.le_refl _) (.cells #[.slice aq nq cq] 24)))
    have Q4 := hid (fq.kept (Below.alloc (Below.refl _ _) (Nat.le_refl _) (.cells #[.slice aq nq cq] 24)))
    have B4 : Hid (Below w.heap.size w (u3.alloc (.cells #[.slice aq nq cq] 24))) := hid (kt (kt B2.out b3) (Below.alloc (Below.refl _ _) (Nat.le_refl _) _))
    clear b3 p2 p3 oq fq pq
    obtain ⟨hk0, hk1⟩ := umod_bd a2 ((sa.size : Int) + 1) (by omega)
    generalize hkk : (IntKind.u64.wrap a2).tmod ((sa.size : Int) + 1) = kk at hk0 hk1
    obtain ⟨k, rfl⟩ := Int.eq_ofNat_of_zero_le hk0
    go_wp2_with fail
    refine (getL (sa.extract 0 k) _ (by have := ext_len sa k; omega) (LD0.out.up B4.out)).mono ?_
    rintro e u5 ⟨vg, eg, rfl, b5, hg⟩
    obtain ⟨lg, ag, ng, cg, rfl, fg, og, gg⟩ := got_of hg
    have hkq : (eg = 0 ∧ ((k : Int) == (sa.size : Int)) = true) ∨ (eg = 300 ∧ ((k : Int) == (sa.size : Int)) = false) := by
      rcases gg with ⟨pg, rfl⟩ | ⟨ng', rfl, _⟩
      · have := pref_put HIP.out (by omega) pg
        exact .inl ⟨rfl, by simp; omega⟩
      · refine .inr ⟨rfl, ?_⟩
        simp only [beq_eq_false_iff_ne]
        intro e
        have ek : k = sa.size := by omega
        rw [ek, ext_all] at ng'
        exact ng' _ HIP.out
    have p5 := kept_cell b5 p4
    have q5 := kept_cell b5 q4
    have p6 := kept_cell (Below.alloc (Below.refl _ _) (Nat.le_refl _) (.cells #[.slice ag ng cg] 24)) p5
    have q6 := kept_cell (Below.alloc (Below.refl _ _) (Nat.le_refl _) (.cells #[.slice ag ng cg] 24)) q5
    have W6 := hid ((W4.out.kept b5).kept (Below.alloc (Below.refl _ _) (Nat.le_refl _) (.cells #[.slice ag ng cg] 24)))
    have Q6 := hid ((Q4.out.kept b5).kept (Below.alloc (Below.refl _ _) (Nat.le_refl _) (.cells #[.slice ag ng cg] 24)))
    have B6 : Hid (Below w.heap.size w (u5.alloc (.cells #[.slice ag ng cg] 24))) := hid (kt (kt B4.out b5) (Below.alloc (Below.refl _ _) (Nat.le_refl _) _))
    clear b5 p4 q4 p5 q5 hg og gg fg hkk hk0 hk1
    rcases hkq with ⟨rfl, hkq⟩ | ⟨rfl, hkq⟩
    all_goals
      go_wp2_with (first | (go_at_call 13; refine (num_any _ _).mono ?_; rintro e w' ⟨rfl, hw⟩; rw [hw]; clear hw))
      refine (sameProgram_any _ _ _ _ _ _ _ _ _ W6.out Q6.out).mono ?_
      rintro e u7 ⟨rfl, b7⟩
      rw [decide_eq_true rfl]
      go_wp2_with (first | (go_at_call 13; refine (num_any _ _).mono ?_; rintro e w' ⟨rfl, hw⟩; rw [hw]; clear hw))
      refine (getL a1 _ w1 (LD0.out.up (kt B6.out b7))).mono ?_
      rintro e t1 ⟨vs, es, rfl, c1, ⟨ls, ps, rfl, os⟩ | ⟨ns, rfl, rfl⟩⟩
      · obtain ⟨sa1, sn1, sc1, rfl, fs⟩ := os.reads (by have := packs_len ps.1; omega)
        have FS := hid (fs.kept (Below.alloc (Below.refl _ _) (Nat.le_refl _) (.cells #[.slice sa1 sn1 sc1] 24)))
        have BT : Hid (Below w.heap.size w t1) := hid (kt (kt B6.out b7) c1)
        clear c1 fs os
        go_wp2_with (first | (go_at_call 13; refine (num_any _ _).mono ?_; rintro e w' ⟨rfl, hw⟩; rw [hw]; clear hw))
        refine (putL _ _ _ ls _ FS.out (LD0.out.up (kt BT.out (by go_grown)))).mono ?_
        rintro e t2 ⟨rfl, c2⟩
        rw [putS_of ps, putE_ok ps.1]
        go_wp2_with (first | (go_at_call 13; refine (num_any _ _).mono ?_; rintro e w' ⟨rfl, hw⟩; rw [hw]; clear hw))
        go_ret
        exact ⟨rfl, kt (kt BT.out (by go_grown)) c2⟩
      · go_wp2_with (first | (go_at_call 13; refine (num_any _ _).mono ?_; rintro e w' ⟨rfl, hw⟩; rw [hw]; clear hw))
        go_ret
        exact ⟨rfl, kt (kt (kt B6.out b7) c1) (by go_grown)⟩

set_option maxRecDepth 100000 in
theorem lifted (os : Os) (started : os.Started) (H : Type) (enc : TypeId × Value → H) :
    ReturnsInHanded {} Tryd.checked os 4 .any (fun w args => (Rows.packBackSpec.pre enc Tryd.prog Tryd.f4 [] false w args ∧ laidMetH Tryd.prog [("math/bits.deBruijn32tab", Rows.laid_math_bits_deBruijn32tab), ("math/bits.deBruijn64tab", Rows.laid_math_bits_deBruijn64tab), ("internal/strconv.uint64pow10", Rows.laid_internal_strconv_uint64pow10), ("swage/pack.errForm", Rows.laid_swage_pack_errForm), ("swage/pack.errEnd", Rows.laid_swage_pack_errEnd)] w) ∧ sizedMet enc Tryd.prog Tryd.f4 (OpenSpec.ofChange Rows.packBackSpec) false w args) (Rows.packBackSpec.post enc Tryd.prog Tryd.f4 false true false false) := by
  refine returnsInHanded_of_change_and (C := Tryd.checked) (X := fun w _ => laidMetH Tryd.prog [("math/bits.deBruijn32tab", Rows.laid_math_bits_deBruijn32tab), ("math/bits.deBruijn64tab", Rows.laid_math_bits_deBruijn64tab), ("internal/strconv.uint64pow10", Rows.laid_internal_strconv_uint64pow10), ("swage/pack.errForm", Rows.laid_swage_pack_errForm), ("swage/pack.errEnd", Rows.laid_swage_pack_errEnd)] w) (fun _ _ _ hh h => h.of_heap hh) own started (by kernel_rfl) Tryd.func4
    (ChangeSpec.witness_shaped (enc := enc) (C := Tryd.checked) (os := os) (X := fun w _ => laidMetH Tryd.prog [("math/bits.deBruijn32tab", Rows.laid_math_bits_deBruijn32tab), ("math/bits.deBruijn64tab", Rows.laid_math_bits_deBruijn64tab), ("internal/strconv.uint64pow10", Rows.laid_internal_strconv_uint64pow10), ("swage/pack.errForm", Rows.laid_swage_pack_errForm), ("swage/pack.errEnd", Rows.laid_swage_pack_errEnd)] w) false (World.doorLaid Tryd.prog 400 os) #[.agg #[.slice none 0 0], .string ByteArray.empty, .int .i64 0] 8 rfl (World.shaped_of_RefB (by kernel_rfl) (by kernel_rfl)) (by kernel_rfl) (by kernel_rfl) (by kernel_rfl) (door_met os _)) ?_
  intro W base args ds gs before hval0 hW hcnd hsz0 hL _
  have hval : ∀ (j : Nat) t v, Tryd.f4.params[j]? = some t → args[j]? = some v → Value.okWide Tryd.prog W .any base t v := hval0
  have hW' := hW
  obtain ⟨p, q, hA0, hV, rfl, hfz, hnd⟩ := hW
  have hA : DataW.TrodAll enc Tryd.prog W 0 (fun _ => true) true Tryd.f4.params.toList args.toList ds p := hA0
  have hsz : (DataW.weightsEach Tryd.prog (Tryd.f4.params.toList ++ Rows.packBackSpec.plain.varTypes Tryd.prog) (ds ++ gs)).all (· ≤ reachBytes) = true := hsz0
  rw [Tryd.params4] at hA hval hsz
  obtain ⟨v0, vs0, d0, ds0, p0, q0, hargs, rfl, rfl, h0, r0⟩ := trodAll_cons hA
  obtain ⟨v1, vs1, d1, ds1, p1, q1, rfl, rfl, rfl, h1, r1⟩ := trodAll_cons r0
  obtain ⟨v2, vs2, d2, ds2, p2, q2, rfl, rfl, rfl, h2, r2⟩ := trodAll_cons r1
  obtain ⟨rfl, rfl, rfl⟩ := trodAll_nil r2
  obtain rfl : args = #[v0, v1, v2] := by cases args; simp_all
  obtain ⟨rfl, rfl⟩ := trodVars_none hV
  have k0 := h0
  have lt0 : ∀ x ∈ p0, x.block < W.heap.size := by obtain ⟨m, hm⟩ := k0; exact DataW.trod_lt m _ _ _ hm
  have k1 := h1
  have lt1 : ∀ x ∈ p1, x.block < W.heap.size := by obtain ⟨m, hm⟩ := k1; exact DataW.trod_lt m _ _ _ hm
  have k2 := h2
  have lt2 : ∀ x ∈ p2, x.block < W.heap.size := by obtain ⟨m, hm⟩ := k2; exact DataW.trod_lt m _ _ _ hm
  obtain ⟨a0, n0, c0, l0, rfl, w0⟩ := open_program (hval 0 24 v0 rfl rfl) h0 (fun k hk => by simpa using List.all_eq_true.1 hsz k (DataW.weights_mem_each (j := 0) rfl rfl k hk))
  obtain ⟨a1, rfl, rfl, rfl, wm1⟩ := open_string Tryd.underlying9 (hval 1 9 v1 rfl rfl) h1
  have w1 : a1.size ≤ 140737488351232 := by
    have h := sized_string hsz (j := 1) (t := 9) rfl rfl
    have e : a1.data.toList.length = a1.size := by simp
    rw [e] at h
    exact h
  obtain ⟨a2, rfl, rfl, rfl, w2⟩ := open_int Tryd.underlying3 (hval 2 3 v2 rfl rfl) h2
  clear hA0 hval0
  refine (walk a0 n0 c0 l0 a1 a2 W w0 w1 w2 (ld_of hL)).mono fun e W' ⟨he, bel⟩ => ?_
  subst he
  exact ⟨_, rfl, _, _, _, [], _, [], hW', trodAll_mk1 (shut_bool Tryd.underlying4 _), (trodAll_cons_mk (Below.trod laidOut (by kernel_rfl) (of_decide_eq_true (by kernel_rfl)) k0 bel lt0) (trodAll_cons_mk (Below.trod laidOut (by kernel_rfl) (of_decide_eq_true (by kernel_rfl)) k1 bel lt1) (trodAll_cons_mk (Below.trod laidOut (by kernel_rfl) (of_decide_eq_true (by kernel_rfl)) k2 bel lt2) trodAll_mk0))), rfl, bel.frame _, fun h => by cases h⟩

theorem over : Rows.packBackRow.holds Tryd.pinned (OpenSpec.ofChange Rows.packBackSpec) :=
  OpenClaim.holds_of_wide 4 Tryd.f4 rfl rfl rfl rfl rfl rfl rfl ⟨rfl, rfl, rfl, rfl, rfl⟩ rfl rfl rfl rfl rfl (by kernel_rfl) Tryd.func4 (by kernel_rfl)
    (of_decide_eq_true (by kernel_rfl)) (by unfold Func.isWrapper; first | (rw [if_pos (by decide +kernel)]; kernel_rfl) | (rw [if_neg (by decide +kernel)]; exact ⟨rfl, rfl⟩))
    (fun os started H enc _ => lifted os started H enc)
end Go.Proofs.YtlknaanheieneaaDoor.packBack
namespace Go.Proofs.YtlknaanheieneaaDoor
open Go
theorem packBack_holds : Rows.PackBackCardSaid :=
  Claim7.holds_tied_plain_at .later [] [.data, .data, .data, .sentinel, .sentinel] true (true, "f144d9048f5c4b297b1d9f684961b5a3ac68166b4a9617bb131c147bab0c1bb5") true
    packBack.over (fun _ h => by cases h) (by kernel_rfl) (fun _ h => by cases h) packBack_row_tie rfl ⟨rfl, rfl⟩ (by kernel_rfl) rfl
    (fun f fn hf hfn => by
      obtain rfl : f = 4 := Option.some.inj ((show Tryd.prog.funcNamed "swage/swagelaw3.PackBack" = some 4 by kernel_rfl).symm.trans hf) |>.symm
      obtain rfl : fn = Tryd.f4 := (Option.some.inj (Tryd.func4.symm.trans hfn)).symm
      exact ⟨by kernel_rfl, fun j t ht => by
        rw [Tryd.params4] at ht
        have hm : t ∈ [24, 9, 3] := by simpa using Array.mem_of_getElem? ht
        have hall : ([24, 9, 3].all fun u => !Tryd.prog.wantsStandIn u) = true := by kernel_rfl
        exact (show Tryd.prog.wantsStandIn t = false by simpa using List.all_eq_true.1 hall t hm)⟩)
    (by kernel_rfl)
#print axioms packBack_holds
end Go.Proofs.YtlknaanheieneaaDoor
