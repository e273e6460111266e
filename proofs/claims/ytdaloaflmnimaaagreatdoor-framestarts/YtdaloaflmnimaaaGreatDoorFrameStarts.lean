/- For any program, any list of integers and any integer the law FrameStarts returns true: the state in which frame.Start lets a program begin may be, by frame.State and frame.May, has its arguments, then 0, as locals, and nothing else; beside ErrFrameForm there is no frame; no conditions. -/
import Derived.Test.YtdaloaflmnimaaaGreatDoorRows
import Derived.WalkKit
import Derived.ProofKit
import Derived.OpenShut
import Derived.ShutString
import Derived.ChangeOld
import Derived.Below
import Derived.Carry
import Derived.Lib.SmallJoins
import Derived.Handy
import Derived.WalkSmall
import Derived.SizedLaws
import Derived.Test.YtdaloaflmnimaaaGreatDoorJ6o
import Derived.Test.YtdaloaflmnimaaaGreatDoorLaidOpenV
import Derived.Test.YtdaloaflmnimaaaGreatDoorCards
import Derived.Test.YtdaloaflmnimaaaGreatDoorTie
import Derived.SevenTiedAt
import Derived.LaidMore
import Derived.Stop.Joined
import Derived.Test.YtdaloaflmnimaaaGreatDoorJ6b
namespace Go.Proofs.YtdaloaflmnimaaaGreatDoor.frameStarts
open Go.ChangeShapes Go.WideShapes Go.ChangeAt Go.RowKit
open Go.ChangeMaps (open_string shut_string)
set_option linter.unusedVariables false

theorem own : ownKnob Tryz.prog.godebug = none := by kernel_rfl
theorem laidOut : laidOutB Tryz.prog = true := by kernel_rfl

theorem start_height {ps : List Fn} (h : verV ps = 0) : heightV ps 0 0 = 0 := by
  have h1 := ver_at h (i := 0) (by have := ver_some h; omega)
  obtain ⟨_, f, e, hf, hw, _⟩ := hts_ok h1
  obtain ⟨f', e', _, hl⟩ := hts_inb h1
  have hb := fnB_bd (fnB_of (ver_packs h) (q := f') (by omega) (show ps.getD f' noFn = ((ps.getD f' noFn).1, (ps.getD f' noFn).2.1, (ps.getD f' noFn).2.2) from rfl))
  have := height_at (ps := ps) (fn := ((0 : Nat) : Int)) (pc := 0) h1 (by rw [hl]; omega)
  rw [hw.first] at this
  exact this
theorem fresh_nums {k : Nat} {args : List Int} (h : numsB args = true) : numsB (freshL k args) = true := by
  unfold numsB freshL at *
  rw [List.all_eq_true] at *
  intro x hx
  have hx' := List.mem_of_mem_take hx
  rw [List.mem_append] at hx'
  rcases hx' with h1 | h1
  · exact h x h1
  · rw [(List.mem_replicate.1 h1).2]; decide
theorem start_fr {ps : List Fn} {args : List Int} {nl : Nat} (hv : verV ps = 0) (hn : numsB args = true) (e : (ps.getD 0 noFn).2.1 = (nl : Int)) : frB ps 0 (0, 0, freshL nl args, []) = true := by
  simp only [frB, reachedB, start_height hv, lenB, fresh_nums hn, freshL_len, numsB_nil]
  rw [show ((0 : Int).toNat) = 0 from rfl, e]
  simp
theorem start_ok {ps : List Fn} {args : List Int} {fuel : Int} {nl : Nat} (hv : verV ps = 0) (hn : numsB args = true) (e : (ps.getD 0 noFn).2.1 = (nl : Int)) (hf : 0 ≤ fuel ∧ fuel ≤ 100000) :
    stateB ps ([(0, 0, freshL nl args, [])], fuel, [], 0, 0) = true ∧ mayFr ps (0, 0, freshL nl args, []) = true := by
  have h := start_fr hv hn e
  constructor
  · unfold stateB
    simp only []
    rw [show callsB ps [(0, 0, freshL nl args, [])] = true by
      unfold callsB
      have := calls_last (ps := ps) (fs := [(0, 0, freshL nl args, [])]) (i := 0) rfl
      rw [callAt_last (f := (0, 0, freshL nl args, [])) rfl rfl, h] at this
      exact this]
    rw [hv, numsB_nil, show fuelB fuel ([] : List Int).length = true by simp [fuelB]; omega]
    simp [outB]
  · unfold mayFr; rw [hv, h]; rfl
set_option maxRecDepth 100000 in
set_option maxHeartbeats 20000000 in
theorem walk (a0 : Option Addr) (n0 c0 : Nat) (l0 : List Fn) (a1 : Option Addr) (n1 c1 : Nat) (l1 : List Int) (a2 : Int) (w : World) (w0 : Fns w a0 n0 c0 l0) (w1 : Ints w a1 n1 c1 l1) (w2 : (Lit.int .i64 a2).wf = true) (ld : Ld w) :
    Calls Tryz.prog 4 #[.agg #[.slice a0 n0 c0], .slice a1 n1 c1, .int .i64 a2] w fun e w' => e = .returned (.bool true) ∧ Below w.heap.size w w' := by
  have LD0 := hid ld
  clear ld
  have R0 := w0.room
  have C0 := w0.cap
  have R1 := w1.room
  have C1 := w1.cap
  have L0 := hid w0.len
  have L1 := hid w1.len
  have W0 := hid w0
  have W1 := hid w1
  clear w0 w1
  have G : Hid (Below w.heap.size w (w.alloc (.cells #[.slice a0 n0 c0] 24))) := hid (by go_grown)
  go_enter Tryz.func4, Tryz.ntmps4
  go_wp2_with fail
  refine (awake6_any _ (LD0.out.up G.out)).mono ?_
  rintro e u1 ⟨rfl, b1⟩
  have p1 := kept_cell b1 (b := w.heap.size) (o := 0) (v := .slice a0 n0 c0) (by simp [go_sem])
  have B1 := hid (kt G.out b1)
  clear b1
  go_wp2_with fail
  refine (frameStart_any _ _ _ l0 _ _ _ l1 a2 _ (W0.out.kept B1.out) (W1.out.kept B1.out) (LD0.out.up B1.out)).mono ?_
  rintro e u2 ⟨v2, rfl, o2, b2⟩
  cases hst : startB l0 l1 a2
  · obtain ⟨e1, e2⟩ := startB_bad hst
    rw [e1] at o2
    rw [e1, e2]
    obtain ⟨fa, fn, fc, rfl, r2⟩ := o2.reads (by decide)
    have hfn : fn = 0 := r2.len
    subst hfn
    have B2 := hid (kt B1.out b2)
    clear o2 r2 b2 e1 e2
    go_wp2_with (first | (go_at_call 14; refine (num_any _ _).mono ?_; rintro e w' ⟨rfl, hw⟩; rw [hw]; clear hw))
    go_ret
    exact ⟨rfl, kt B2.out (Below.alloc (Below.refl _ _) (Nat.le_refl _) _)⟩
  · have hst' := hst
    simp only [startB, Bool.and_eq_true, decide_eq_true_eq] at hst'
    obtain ⟨⟨hf0, hf1⟩, hv, hlen, hnum⟩ := hst'
    have hps := ver_some hv
    have hpn : 0 < n0 := by rw [L0.out]; omega
    obtain ⟨b0, o0, fx, fy, fa', fn', fc', fl, ha0, e3, d0, d1, d2, i3⟩ := W0.out.at 0 hpn
    subst ha0
    have hvf := ver_fn hv (by omega) e3
    obtain ⟨nl, rfl⟩ : ∃ nl : Nat, fy = nl := ⟨fy.toNat, by omega⟩
    have ev : startV l0 l1 a2 = ([(0, 0, freshL nl l1, [])], a2, [], 0, 0) := by unfold startV; rw [if_pos hst, e3]; rfl
    have ee : startE l0 l1 a2 = 0 := by unfold startE; rw [if_pos hst]
    have OKS := hid (start_ok (fuel := a2) hv hnum (by rw [e3]) ⟨hf0, hf1⟩)
    have hl1 : (n1 : Int) = fx := by rw [e3] at hlen; simp [lenB] at hlen; rw [L1.out]; exact hlen
    have hn1 : n1 ≤ nl := by omega
    clear hl1
    rw [ev] at o2
    rw [ev, ee]
    simp only [Nat.zero_mul, Nat.add_zero] at d1
    have D1 := hid d1
    have O2 := hid o2
    obtain ⟨fa, fn, fc, rfl, r2⟩ := o2.reads (by simp)
    obtain rfl : fn = 1 := r2.len
    have hfc := r2.cap
    have hA : Below u2.heap.size u2 (u2.alloc (.cells #[.slice fa 1 fc, .int .i64 a2, .slice none 0 0, .int .i64 0, .int .i64 0] 30)) := Below.alloc (Below.refl _ _) (Nat.le_refl _) _
    have B2 := hid (kt (kt B1.out b2) hA)
    have X2 : Hid (SX (u2.alloc (.cells #[.slice fa 1 fc, .int .i64 a2, .slice none 0 0, .int .i64 0, .int .i64 0] 30)) u2.heap.size (.slice fa 1 fc) a2 (.slice none 0 0) 0 0) := hid ⟨by simp [go_sem], by simp [go_sem], by simp [go_sem], by simp [go_sem], by simp [go_sem], by simp [go_sem], by simp [go_sem]⟩
    have R2 := hid (r2.kept hA)
    have p2 := kept_cell hA (kept_cell b2 p1)
    clear o2 r2 hA b2 p1 d0 d1 d2 i3 e3 ev ee hst hlen hnum
    go_wp2_with (first | (go_at_call 14; refine (num_any _ _).mono ?_; rintro e w' ⟨rfl, hw⟩; rw [hw]; clear hw))
    refine (frameState_any _ _ _ l0 _ _ _ [(0, 0, freshL nl l1, [])] a2 none 0 0 [] 0 0 _ (W0.out.kept B2.out) R2.out (Ints.nil _) (LD0.out.up B2.out)).mono ?_
    rintro e u3 ⟨rfl, b3⟩
    rw [OKS.out.1]
    obtain ⟨b9, o9, x9, y9, la, ln, lc, ll, sa, sn, sc, sl, ha9, e9, c0, c1, c2, c3, i1, i2⟩ := (R2.out.kept b3).at 0 (by omega)
    subst ha9
    simp only [List.getD_cons_zero, Prod.mk.injEq] at e9
    obtain ⟨rfl, rfl, rfl, rfl⟩ := e9
    obtain rfl : sn = 0 := i2.len
    obtain rfl : ln = nl := by rw [i1.len, freshL_len]
    simp only [Nat.zero_mul, Nat.add_zero] at c0 c1 c2 c3
    have hlc := i1.cap
    have B3 := hid (kt B2.out b3)
    obtain ⟨s0, s1, s2, s3, s4, _, _⟩ := X2.out.kept b3
    replace p2 := kept_cell b3 p2
    have I1 := hid i1
    have I2 := hid i2
    clear b3 i1 i2
    have hA : Below u3.heap.size u3 (u3.alloc (.cells #[.int .i64 0, .int .i64 0, .slice la ln lc, .slice sa 0 sc] 27)) := Below.alloc (Below.refl _ _) (Nat.le_refl _) _
    have A := hid hA
    have BA := hid (kt B3.out hA)
    have r0 := cell_regrown (kept_cell hA p2)
    have r1 := cell_regrown (kept_cell BA.out D1.out)
    have q0 := cell_regrown (w := u3.alloc (.cells #[.int .i64 0, .int .i64 0, .slice la ln lc, .slice sa 0 sc] 27)) (a := ⟨u3.heap.size, 0, none⟩) (v := .int .i64 0) (by simp [go_sem])
    have q1 := cell_regrown (w := u3.alloc (.cells #[.int .i64 0, .int .i64 0, .slice la ln lc, .slice sa 0 sc] 27)) (a := ⟨u3.heap.size, 1, none⟩) (v := .int .i64 0) (by simp [go_sem])
    have q2 := cell_regrown (w := u3.alloc (.cells #[.int .i64 0, .int .i64 0, .slice la ln lc, .slice sa 0 sc] 27)) (a := ⟨u3.heap.size, 2, none⟩) (v := .slice la ln lc) (by simp [go_sem])
    have q3 := cell_regrown (w := u3.alloc (.cells #[.int .i64 0, .int .i64 0, .slice la ln lc, .slice sa 0 sc] 27)) (a := ⟨u3.heap.size, 3, none⟩) (v := .slice sa 0 sc) (by simp [go_sem])
    have MF := hid OKS.out.2
    have Q2 : Hid ((u3.alloc (.cells #[.int .i64 0, .int .i64 0, .slice la ln lc, .slice sa 0 sc] 27)).cell? ⟨u3.heap.size, 2, none⟩ = some (.slice la ln lc)) := hid (by simp [go_sem])
    clear hA
    go_wp2_with fail
    have hgt' : decide (ln < n1) = false := decide_eq_false (by omega)
    refine wp_region_quiet_below (by kernel_rfl) (by kernel_rfl) ?_
    repeat (go_big_quiet_step (first | (go_at_call 15; exact Calls.regrown_of ((frameMay_any _ _ _ l0 0 0 _ _ _ (freshL ln l1) _ _ _ [] _ ((W0.out.kept BA.out).kept (below_regrown _ _ _)) ((I1.out.kept A.out).kept (below_regrown _ _ _)) ((I2.out.kept A.out).kept (below_regrown _ _ _)) ((LD0.out.up BA.out).up (below_regrown _ _ _))).mono (by rintro e w' ⟨rfl, hb⟩; exact ⟨by rw [MF.out], hb⟩)))))
    refine wpQuiet_nil ?_
    intro _ hw'
    obtain ⟨⟨dq, osq⟩, hw''⟩ := hw'
    subst hw''
    have B5 := hid (kt BA.out (below_regrown (u3.alloc (.cells #[.int .i64 0, .int .i64 0, .slice la ln lc, .slice sa 0 sc] 27)) dq osq))
    have F5 := hid (kept_cell (below_regrown (u3.alloc (.cells #[.int .i64 0, .int .i64 0, .slice la ln lc, .slice sa 0 sc] 27)) dq osq) Q2.out)
    have I5 := hid ((I1.out.kept A.out).kept (below_regrown (u3.alloc (.cells #[.int .i64 0, .int .i64 0, .slice la ln lc, .slice sa 0 sc] 27)) dq osq))
    clear r0 r1 q0 q1 q2 q3 c0 c1 c2 c3 s0 s1 s2 s3 s4 p2
    go_wp2_with fail
    go_loopw [10] (fun i wr => ∃ q : Nat, q ≤ ln ∧ i = .int .i64 q ∧ wr.cell? ⟨u3.heap.size, 2, none⟩ = some (.slice la ln lc) ∧ Ints wr la ln lc (freshL ln l1) ∧ Below w.heap.size w wr) (fun i _ => ln - (intOf i).toNat)
    case atStart => exact ⟨0, Nat.zero_le _, rfl, F5.out, I5.out, B5.out⟩
    case round =>
      clear F5 I5 B5
      obtain ⟨q, hq, rfl, g0, i5, hb⟩ := hrel
      by_cases hlt : q < ln
      · obtain ⟨b5, o5, ha5, r5⟩ := i5.row (by omega)
        subst ha5
        have c5 := r5 q hlt
        rw [freshL_at _ _ _ hlt] at c5
        have I6 := hid i5
        clear i5 r5
        by_cases h1 : q < n1
        · obtain ⟨b6, o6, ha6, r6⟩ := (W1.out.kept hb).row (by omega)
          subst ha6
          have c6 := r6 q h1
          generalize l1.getD q 0 = x at c5 c6
          have G0 := hid g0
          clear r6
          go_wp2_with fail
          have g1 : decide (q < n1) = true := decide_eq_true h1
          have g2 : decide (n1 ≤ q) = false := decide_eq_false (by omega)
          clear hgt'
          go_quiet (fail)
          go_wp2_with fail
          go_roundw
          case rel => exact ⟨q + 1, by omega, by go_num, kept_cell (below_drewN (Below.refl _ _) _) G0.out, I6.out.kept (below_drewN (Below.refl _ _) _), below_drewN hb _⟩
          case measure => simp [intOf]; omega
        · have e0 : l1.getD q 0 = 0 := by rw [List.getD_eq_getElem?_getD, List.getElem?_eq_none (by rw [← L1.out]; omega)]; rfl
          rw [e0] at c5
          have G0 := hid g0
          clear e0
          go_wp2_with fail
          have g1 : decide (q < n1) = false := decide_eq_false h1
          have g2 : decide (n1 ≤ q) = true := decide_eq_true (by omega)
          clear hgt'
          go_quiet (fail)
          go_wp2_with fail
          go_roundw
          case rel => exact ⟨q + 1, by omega, by go_num, kept_cell (below_drewN (Below.refl _ _) _) G0.out, I6.out.kept (below_drewN (Below.refl _ _) _), below_drewN hb _⟩
          case measure => simp [intOf]; omega
      · go_wp2_with fail
        go_ret
        exact ⟨rfl, hb⟩

set_option maxRecDepth 100000 in
theorem lifted (os : Os) (started : os.Started) (H : Type) (enc : TypeId × Value → H) :
    ReturnsInHanded {} Tryz.checked os 4 .any (fun w args => (Rows.frameStartsSpec.pre enc Tryz.prog Tryz.f4 [] false w args ∧ laidMetH Tryz.prog [("math/bits.deBruijn32tab", Rows.laid_math_bits_deBruijn32tab), ("math/bits.deBruijn64tab", Rows.laid_math_bits_deBruijn64tab), ("internal/strconv.uint64pow10", Rows.laid_internal_strconv_uint64pow10), ("errors.errorType", Rows.laid_errors_errorType), ("swage/pack.errForm", Rows.laid_swage_pack_errForm), ("swage/pack.errEnd", Rows.laid_swage_pack_errEnd)] w) ∧ sizedMet enc Tryz.prog Tryz.f4 (OpenSpec.ofChange Rows.frameStartsSpec) false w args) (Rows.frameStartsSpec.post enc Tryz.prog Tryz.f4 false true false false) := by
  refine returnsInHanded_of_change_and (C := Tryz.checked) (X := fun w _ => laidMetH Tryz.prog [("math/bits.deBruijn32tab", Rows.laid_math_bits_deBruijn32tab), ("math/bits.deBruijn64tab", Rows.laid_math_bits_deBruijn64tab), ("internal/strconv.uint64pow10", Rows.laid_internal_strconv_uint64pow10), ("errors.errorType", Rows.laid_errors_errorType), ("swage/pack.errForm", Rows.laid_swage_pack_errForm), ("swage/pack.errEnd", Rows.laid_swage_pack_errEnd)] w) (fun _ _ _ hh h => h.of_heap hh) own started (by kernel_rfl) Tryz.func4
    (ChangeSpec.witness_shaped (enc := enc) (C := Tryz.checked) (os := os) (X := fun w _ => laidMetH Tryz.prog [("math/bits.deBruijn32tab", Rows.laid_math_bits_deBruijn32tab), ("math/bits.deBruijn64tab", Rows.laid_math_bits_deBruijn64tab), ("internal/strconv.uint64pow10", Rows.laid_internal_strconv_uint64pow10), ("errors.errorType", Rows.laid_errors_errorType), ("swage/pack.errForm", Rows.laid_swage_pack_errForm), ("swage/pack.errEnd", Rows.laid_swage_pack_errEnd)] w) false (World.doorLaid Tryz.prog 400 os) #[.agg #[.slice none 0 0], .slice none 0 0, .int .i64 0] 8 rfl (World.shaped_of_RefB (by kernel_rfl) (by kernel_rfl)) (by kernel_rfl) (by kernel_rfl) (by kernel_rfl) (door_met os _)) ?_
  intro W base args ds gs before hval0 hW hcnd hsz0 hL _
  have hval : ∀ (j : Nat) t v, Tryz.f4.params[j]? = some t → args[j]? = some v → Value.okWide Tryz.prog W .any base t v := hval0
  have hW' := hW
  obtain ⟨p, q, hA0, hV, rfl, hfz, hnd⟩ := hW
  have hA : DataW.TrodAll enc Tryz.prog W 0 (fun _ => true) true Tryz.f4.params.toList args.toList ds p := hA0
  have hsz : (DataW.weightsEach Tryz.prog (Tryz.f4.params.toList ++ Rows.frameStartsSpec.plain.varTypes Tryz.prog) (ds ++ gs)).all (· ≤ reachBytes) = true := hsz0
  rw [Tryz.params4] at hA hval hsz
  obtain ⟨v0, vs0, d0, ds0, p0, q0, hargs, rfl, rfl, h0, r0⟩ := trodAll_cons hA
  obtain ⟨v1, vs1, d1, ds1, p1, q1, rfl, rfl, rfl, h1, r1⟩ := trodAll_cons r0
  obtain ⟨v2, vs2, d2, ds2, p2, q2, rfl, rfl, rfl, h2, r2⟩ := trodAll_cons r1
  obtain ⟨rfl, rfl, rfl⟩ := trodAll_nil r2
  obtain rfl : args = #[v0, v1, v2] := by cases args; simp_all
  obtain ⟨rfl, rfl⟩ := trodVars_none hV
  have k0 := h0
  have lt0 : ∀ x ∈ p0, x.block < W.heap.size := by obtain ⟨m, hm⟩ := k0; exact DataW.trod_lt m _ _ _ hm
  have k1 := h1
  have lt1 : ∀ x ∈ p1, x.block < W.heap.size := by obtain ⟨m, hm⟩ := k1; exact DataW.trod_lt m _ _ _ hm
  have k2 := h2
  have lt2 : ∀ x ∈ p2, x.block < W.heap.size := by obtain ⟨m, hm⟩ := k2; exact DataW.trod_lt m _ _ _ hm
  obtain ⟨a0, n0, c0, l0, rfl, w0⟩ := open_program (hval 0 24 v0 rfl rfl) h0 (fun k hk => by simpa using List.all_eq_true.1 hsz k (DataW.weights_mem_each (j := 0) rfl rfl k hk))
  obtain ⟨a1, n1, c1, l1, rfl, w1⟩ := open_intsP (hval 1 25 v1 rfl rfl) h1 (fun k hk => by simpa using List.all_eq_true.1 hsz k (DataW.weights_mem_each (j := 1) rfl rfl k hk))
  obtain ⟨a2, rfl, rfl, rfl, w2⟩ := open_int Tryz.underlying3 (hval 2 3 v2 rfl rfl) h2
  clear hA0 hval0
  refine (walk a0 n0 c0 l0 a1 n1 c1 l1 a2 W w0 w1 w2 (ld_of hL)).mono fun e W' ⟨he, bel⟩ => ?_
  subst he
  exact ⟨_, rfl, _, _, _, [], _, [], hW', trodAll_mk1 (shut_bool Tryz.underlying4 _), (trodAll_cons_mk (Below.trod laidOut (by kernel_rfl) (of_decide_eq_true (by kernel_rfl)) k0 bel lt0) (trodAll_cons_mk (Below.trod laidOut (by kernel_rfl) (of_decide_eq_true (by kernel_rfl)) k1 bel lt1) (trodAll_cons_mk (Below.trod laidOut (by kernel_rfl) (of_decide_eq_true (by kernel_rfl)) k2 bel lt2) trodAll_mk0))), rfl, bel.frame _, fun h => by cases h⟩

theorem over : Rows.frameStartsRow.holds Tryz.pinned (OpenSpec.ofChange Rows.frameStartsSpec) :=
  OpenClaim.holds_of_wide 4 Tryz.f4 rfl rfl rfl rfl rfl rfl rfl ⟨rfl, rfl, rfl, rfl, rfl⟩ rfl rfl rfl rfl rfl (by kernel_rfl) Tryz.func4 (by kernel_rfl)
    (of_decide_eq_true (by kernel_rfl)) (by unfold Func.isWrapper; first | (rw [if_pos (by decide +kernel)]; kernel_rfl) | (rw [if_neg (by decide +kernel)]; exact ⟨rfl, rfl⟩))
    (fun os started H enc _ => lifted os started H enc)
end Go.Proofs.YtdaloaflmnimaaaGreatDoor.frameStarts
namespace Go.Proofs.YtdaloaflmnimaaaGreatDoor
open Go
theorem frameStarts_holds : Rows.FrameStartsCardSaid :=
  Claim7.holds_tied_plain_at .later [] [.data, .data, .data, .handle, .sentinel, .sentinel] true (true, "4f61182ebcd5d6da87617d114aceb11345d3fb13a72f1a65358a96d1375ec51d") true
    frameStarts.over (fun _ h => by cases h) (by kernel_rfl) (fun _ h => by cases h) frameStarts_row_tie rfl ⟨rfl, rfl⟩ (by kernel_rfl) rfl
    (fun f fn hf hfn => by
      obtain rfl : f = 4 := Option.some.inj ((show Tryz.prog.funcNamed "swage/swagelaw6.FrameStarts" = some 4 by kernel_rfl).symm.trans hf) |>.symm
      obtain rfl : fn = Tryz.f4 := (Option.some.inj (Tryz.func4.symm.trans hfn)).symm
      exact ⟨by kernel_rfl, fun j t ht => by
        rw [Tryz.params4] at ht
        have hm : t ∈ [24, 25, 3] := by simpa using Array.mem_of_getElem? ht
        have hall : ([24, 25, 3].all fun u => !Tryz.prog.wantsStandIn u) = true := by kernel_rfl
        exact (show Tryz.prog.wantsStandIn t = false by simpa using List.all_eq_true.1 hall t hm)⟩)
    (by kernel_rfl)
#print axioms frameStarts_holds
end Go.Proofs.YtdaloaflmnimaaaGreatDoor
