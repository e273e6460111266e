/- For any program, arguments and two integers the law EvalFuel returns true: with more fuel eval.Eval tells the same where it did not run out, with so much more left; where it did, what it printed is a beginning; no conditions. -/
import Derived.Test.YtbbfgdkjgolieaaGreatDoorRows
import Derived.WalkKit
import Derived.ProofKit
import Derived.OpenShut
import Derived.ShutString
import Derived.ChangeOld
import Derived.Below
import Derived.Carry
import Derived.Lib.SmallJoins
import Derived.Handy
import Derived.WalkSmall
import Derived.SizedLaws
import Derived.Test.YtbbfgdkjgolieaaGreatDoorOpen
import Derived.Test.YtbbfgdkjgolieaaGreatDoorOpenInts
import Derived.Test.YtbbfgdkjgolieaaGreatDoorLaidOpenV
import Derived.Test.YtbbfgdkjgolieaaGreatDoorCards
import Derived.Test.YtbbfgdkjgolieaaGreatDoorTie
import Derived.SevenTiedAt
import Derived.LaidMore
import Derived.Stop.Joined
import Derived.Test.YtbbfgdkjgolieaaGreatDoorJ8
import Derived.Test.YtbbfgdkjgolieaaGreatDoorJ7
namespace Go.Proofs.YtbbfgdkjgolieaaGreatDoor.evalFuel
open Go.ChangeShapes Go.WideShapes Go.ChangeAt Go.RowKit
open Go.ChangeMaps (open_string shut_string)
set_option linter.unusedVariables false

theorem own : ownKnob Tryz.prog.godebug = none := by kernel_rfl
theorem laidOut : laidOutB Tryz.prog = true := by kernel_rfl

theorem and1023' (n : Int) : bits .and .i64 n 1023 = n % 1024 := and1023 n
theorem start_same {ps : List Fn} {args : List Int} {k m : Int} (h1 : 0 ≤ k ∧ k ≤ 1023) (h2 : 0 ≤ m ∧ m ≤ 1023) : startB ps args (k + m) = startB ps args k := by
  unfold startB
  rw [decide_eq_true (show 0 ≤ k + m ∧ k + m ≤ 100000 by omega), decide_eq_true (show 0 ≤ k ∧ k ≤ 100000 by omega)]
/-- What the law asks of what is told. -/
theorem fuel_ask (ps : List Fn) (args : List Int) {k m : Int} (h1 : 0 ≤ k ∧ k ≤ 1023) (h2 : 0 ≤ m ∧ m ≤ 1023) {Rd Rv Rfu Qd Qv Qfu E F : Int} {Ro Qo : List Int} (hR : evalR ps args k = (Rd, Rv, Ro, Rfu)) (hQ : evalR ps args (k + m) = (Qd, Qv, Qo, Qfu)) (hE : evalE ps args k = E) (hF : evalE ps args (k + m) = F) :
    (E = 800 ∧ F = 800) ∨ (E = 0 ∧ F = 0 ∧ (0 ≤ Rfu ∧ Rfu ≤ 100000) ∧ ((Rd = 4 ∧ Rfu = 0 ∧ ∃ t, Qo = Ro ++ t) ∨ (¬ Rd = 4 ∧ Qd = Rd ∧ Qv = Rv ∧ Qo = Ro ∧ Qfu = Rfu + m))) := by
  cases h : startB ps args k
  · have h' := (start_same h1 h2).trans h
    rw [(evalR_no h).2] at hE
    rw [(evalR_no h').2] at hF
    exact .inl ⟨hE.symm, hF.symm⟩
  · have h' := (start_same h1 h2).trans h
    have hb := fuel_nonneg (run_keeps (start_state h))
    have e1 : evalR ps args k = resV (runV ps (startV ps args k)) := if_pos h
    have e2 : evalE ps args k = 0 := if_pos h
    have e3 : evalE ps args (k + m) = 0 := if_pos h'
    have hm := eval_more h2.1 h h'
    rw [hR, hQ] at hm
    rw [e2] at hE
    rw [e3] at hF
    have hfu : (runV ps (startV ps args k)).2.1 = Rfu := by
      have := e1.symm.trans hR
      exact congrArg (fun r => r.2.2.2) this
    rw [hfu] at hb
    refine .inr ⟨hE.symm, hF.symm, hb, ?_⟩
    simp only [Prod.mk.injEq] at hm
    rcases hm with ⟨a, b, c⟩ | ⟨a, b, c, d, e⟩
    · exact .inl ⟨a, b, c⟩
    · exact .inr ⟨a, b, c, d, e⟩
theorem eval_rowF (pa : Option Addr) (pn pc : Nat) (ps : List Fn) (aa : Option Addr) (an ac : Nat) (args : List Int) (fuel : Int) (Rd Rv : Int) (Ro : List Int) (Rfu E : Int) (w : World) (hR : evalR ps args fuel = (Rd, Rv, Ro, Rfu)) (hE : evalE ps args fuel = E) (hp : Fns w pa pn pc ps) (ha : Ints w aa an ac args) (ld : Ld w) :
    Calls Tryz.prog 22 #[.agg #[.slice pa pn pc], .slice aa an ac, .int .i64 fuel] w fun e w' => ∃ ra rn rc, e = .returned (.tuple #[.agg #[.int .i64 Rd, .int .i64 Rv, .slice ra rn rc, .int .i64 Rfu], .int .i64 E]) ∧ Row1 w' w.heap.size (.slice ra rn rc) Ro ∧ Below w.heap.size w w' := by
  refine (evalEval_any pa pn pc ps aa an ac args fuel w hp ha ld).mono ?_
  rw [hR, hE]
  rintro e w' ⟨ra, rn, rc, rfl, r, b⟩
  exact ⟨ra, rn, rc, rfl, r, b⟩
theorem row_reads {w : World} {base : Nat} {a : Option Addr} {n c : Nat} {l : List Int} (h : Row1 w base (.slice a n c) l) : Ints w a n c l := by
  obtain ⟨_, _, _, e, h1⟩ := ints_of_owns h.2 h.1
  cases e
  exact h1
set_option maxRecDepth 100000 in
set_option maxHeartbeats 20000000 in
theorem walk (a0 : Option Addr) (n0 c0 : Nat) (l0 : List Fn) (a1 : Option Addr) (n1 c1 : Nat) (l1 : List Int) (a2 : Int) (a3 : Int) (w : World) (w0 : Fns w a0 n0 c0 l0) (w1 : Ints w a1 n1 c1 l1) (w2 : (Lit.int .i64 a2).wf = true) (w3 : (Lit.int .i64 a3).wf = true) (ld : Ld w) :
    Calls Tryz.prog 8 #[.agg #[.slice a0 n0 c0], .slice a1 n1 c1, .int .i64 a2, .int .i64 a3] w fun e w' => e = .returned (.bool true) ∧ Below w.heap.size w w' := by
  have LD0 := hid ld
  clear ld
  have WP := hid w0
  have WA := hid w1
  have har := w1.room
  have hac := w1.cap
  clear w0 w1
  go_enter Tryz.func8, Tryz.ntmps8
  go_wp2_with fail
  refine (awake8_any _ (LD0.out.up (by go_grown))).mono ?_
  rintro e u1 ⟨rfl, b1⟩
  have P1 := hid (kept_cell b1 (b := w.heap.size) (o := 0) (v := .slice a0 n0 c0) (by simp [go_sem]))
  have B1 : Hid (Below w.heap.size w u1) := hid (kt (by go_grown) b1)
  clear b1
  have p1 := P1.out
  have ha := and1023' a2
  have ha' := and1023' a3
  go_wp2_with fail
  obtain ⟨k, hk⟩ : ∃ k : Int, a2 % 1024 = k := ⟨_, rfl⟩
  obtain ⟨m, hm⟩ : ∃ k : Int, a3 % 1024 = k := ⟨_, rfl⟩
  have hkb : 0 ≤ k ∧ k ≤ 1023 := by omega
  have hmb : 0 ≤ m ∧ m ≤ 1023 := by omega
  rw [hk, hm]
  clear ha ha' hk hm
  obtain ⟨⟨Rd, Rv, Ro, Rfu⟩, hR⟩ : ∃ R, evalR l0 l1 k = R := ⟨_, rfl⟩
  obtain ⟨⟨Qd, Qv, Qo, Qfu⟩, hQ⟩ : ∃ R, evalR l0 l1 (k + m) = R := ⟨_, rfl⟩
  obtain ⟨E, hE⟩ : ∃ R, evalE l0 l1 k = R := ⟨_, rfl⟩
  obtain ⟨F, hF⟩ : ∃ R, evalE l0 l1 (k + m) = R := ⟨_, rfl⟩
  have HK := hid (fuel_ask l0 l1 hkb hmb hR hQ hE hF)
  have HR := hid (And.intro hR hE)
  have HQ := hid (And.intro hQ hF)
  clear hR hQ hE hF
  refine (eval_rowF _ _ _ l0 _ _ _ l1 k Rd Rv Ro Rfu E _ HR.out.1 HR.out.2 (WP.out.kept B1.out) (WA.out.kept B1.out) (LD0.out.up B1.out)).mono ?_
  rintro e u2 ⟨ra, rn, rc, rfl, o2, b2⟩
  have hA : Below u2.heap.size u2 (u2.alloc (.cells #[.int .i64 Rd, .int .i64 Rv, .slice ra rn rc, .int .i64 Rfu] 58)) := Below.alloc (Below.refl _ _) (Nat.le_refl _) _
  have D2 := hid (kt b2 hA)
  have B2 := hid (kt B1.out D2.out)
  have O2 := hid (And.intro (o2.frm (Frm.of_below (S := fun _ => False) hA) (fun _ _ k => k)) (fun b hb => (o2.2.lt b hb).2))
  have X2 : Hid (RX (u2.alloc (.cells #[.int .i64 Rd, .int .i64 Rv, .slice ra rn rc, .int .i64 Rfu] 58)) u2.heap.size Rd Rv (.slice ra rn rc) Rfu) := hid ⟨by simp [go_sem], by simp [go_sem], by simp [go_sem], by simp [go_sem]⟩
  have FZ2 : Hid ((u2.alloc (.cells #[.int .i64 Rd, .int .i64 Rv, .slice ra rn rc, .int .i64 Rfu] 58)).frozen? ⟨u2.heap.size, 3, none⟩ = false) := hid (by simp [go_sem])
  have p2 := kept_cell D2.out P1.out
  clear o2 b2 hA p1
  go_wp2_with fail
  refine (eval_rowF _ _ _ l0 _ _ _ l1 (k + m) Qd Qv Qo Qfu F _ HQ.out.1 HQ.out.2 (WP.out.kept B2.out) (WA.out.kept B2.out) (LD0.out.up B2.out)).mono ?_
  rintro e u3 ⟨qa, qn, qc, rfl, o3, b3⟩
  have hA : Below u3.heap.size u3 (u3.alloc (.cells #[.int .i64 Qd, .int .i64 Qv, .slice qa qn qc, .int .i64 Qfu] 58)) := Below.alloc (Below.refl _ _) (Nat.le_refl _) _
  have D3 := hid (kt b3 hA)
  have B3 := hid (kt B2.out D3.out)
  have RO3 := hid (And.intro (O2.out.1.frm (Frm.of_below (S := fun _ => False) D3.out) (fun _ _ k => k)) (o3.frm (Frm.of_below (S := fun _ => False) hA) (fun _ _ k => k)))
  have O3 := hid (And.intro (row_reads RO3.out.1) (row_reads RO3.out.2))
  have N3 := hid (fun b hb => (o3.2.lt b hb).1)
  have X3 : Hid (RX (u3.alloc (.cells #[.int .i64 Qd, .int .i64 Qv, .slice qa qn qc, .int .i64 Qfu] 58)) u3.heap.size Qd Qv (.slice qa qn qc) Qfu) := hid ⟨by simp [go_sem], by simp [go_sem], by simp [go_sem], by simp [go_sem]⟩
  have X23 := hid (X2.out.kept D3.out)
  have hlt := lt_of_cell X2.out.c0
  have fz : (u3.alloc (.cells #[.int .i64 Qd, .int .i64 Qv, .slice qa qn qc, .int .i64 Qfu] 58)).frozen? ⟨u2.heap.size, 3, none⟩ = false := by rw [D3.out.frozen (p := ⟨u2.heap.size, 3, none⟩) hlt]; exact FZ2.out
  have hu23 : u2.heap.size < u3.heap.size := by have := lt_of_cell X23.out.c0; have := b3.size; simp at hlt this ⊢; omega
  obtain ⟨m0, m1, m2, m3⟩ := X23.out
  obtain ⟨g0, g1, g2, g3⟩ := X3.out
  clear o3 b3 hA p2 hlt
  rcases HK.out with ⟨rfl, rfl⟩ | ⟨rfl, rfl, hfb, h⟩
  · go_wp2_with (go_at_call 14; refine (num_any _ _).mono ?_; rintro e x ⟨rfl, hw⟩; rw [hw]; clear hw)
    go_ret
    exact ⟨rfl, B3.out⟩
  rcases h with ⟨rfl, rfl, t, rfl⟩ | ⟨hd, rfl, rfl, rfl, rfl⟩
  · go_wp2_with (go_at_call 14; refine (num_any _ _).mono ?_; rintro e x ⟨rfl, hw⟩; rw [hw]; clear hw)
    refine (begins_any _ _ _ _ _ _ Ro (Ro ++ t) _ O3.out.1 O3.out.2 (by simp) (by simp)).mono ?_
    rintro e u4 ⟨rfl, b4⟩
    have B4 := hid (kt B3.out b4)
    clear b4
    go_wp2_with fail
    go_ret
    exact ⟨rfl, B4.out⟩
  · have hd' : (Qd == 4) = false := by simpa using hd
    clear hd
    have e : (u3.alloc (.cells #[.int .i64 Qd, .int .i64 Qv, .slice qa qn qc, .int .i64 (Rfu + m)] 58)).setCell ⟨u2.heap.size, 3, none⟩ (.int .i64 (Rfu + m)) = ((u3.setCell ⟨u2.heap.size, 3, none⟩ (.int .i64 (Rfu + m))).alloc (.cells #[.int .i64 Qd, .int .i64 Qv, .slice qa qn qc, .int .i64 (Rfu + m)] 58)) := by simp [go_sem, hu23]
    have fs : Frm (fun b => b = u2.heap.size) (u3.alloc (.cells #[.int .i64 Qd, .int .i64 Qv, .slice qa qn qc, .int .i64 (Rfu + m)] 58)) ((u3.setCell ⟨u2.heap.size, 3, none⟩ (.int .i64 (Rfu + m))).alloc (.cells #[.int .i64 Qd, .int .i64 Qv, .slice qa qn qc, .int .i64 (Rfu + m)] 58)) := by rw [← e]; exact Frm.set _ rfl
    have v0 : ((u3.setCell ⟨u2.heap.size, 3, none⟩ (.int .i64 (Rfu + m))).alloc (.cells #[.int .i64 Qd, .int .i64 Qv, .slice qa qn qc, .int .i64 (Rfu + m)] 58)).cell? ⟨u2.heap.size, 0, none⟩ = some (.int .i64 Qd) := by rw [← e, World.cell?_setCell_other _ _ _ _ (by simp)]; exact m0
    have v1 : ((u3.setCell ⟨u2.heap.size, 3, none⟩ (.int .i64 (Rfu + m))).alloc (.cells #[.int .i64 Qd, .int .i64 Qv, .slice qa qn qc, .int .i64 (Rfu + m)] 58)).cell? ⟨u2.heap.size, 1, none⟩ = some (.int .i64 Qv) := by rw [← e, World.cell?_setCell_other _ _ _ _ (by simp)]; exact m1
    have v2 : ((u3.setCell ⟨u2.heap.size, 3, none⟩ (.int .i64 (Rfu + m))).alloc (.cells #[.int .i64 Qd, .int .i64 Qv, .slice qa qn qc, .int .i64 (Rfu + m)] 58)).cell? ⟨u2.heap.size, 2, none⟩ = some (.slice ra rn rc) := by rw [← e, World.cell?_setCell_other _ _ _ _ (by simp)]; exact m2
    have v3 : ((u3.setCell ⟨u2.heap.size, 3, none⟩ (.int .i64 (Rfu + m))).alloc (.cells #[.int .i64 Qd, .int .i64 Qv, .slice qa qn qc, .int .i64 (Rfu + m)] 58)).cell? ⟨u2.heap.size, 3, none⟩ = some (.int .i64 (Rfu + m)) := by rw [← e]; exact World.cell?_setCell_same _ _ _ m3
    have VV : Hid (Ints ((u3.setCell ⟨u2.heap.size, 3, none⟩ (.int .i64 (Rfu + m))).alloc (.cells #[.int .i64 Qd, .int .i64 Qv, .slice qa qn qc, .int .i64 (Rfu + m)] 58)) ra rn rc Qo ∧ Ints ((u3.setCell ⟨u2.heap.size, 3, none⟩ (.int .i64 (Rfu + m))).alloc (.cells #[.int .i64 Qd, .int .i64 Qv, .slice qa qn qc, .int .i64 (Rfu + m)] 58)) qa qn qc Qo) := hid ⟨row_reads (RO3.out.1.frm fs (fun b hb e => by have := O2.out.2 b hb; omega)), row_reads (RO3.out.2.frm fs (fun b hb e => by have := N3.out b hb; simp at this; omega))⟩
    have BV := hid (B3.out.trans (fs.below (by have := B3.out.size; simpa using this) (fun b hb e => by have := B2.out.size; have := B1.out.size; have := D2.out.size; have := lt_of_cell P1.out; simp at *; omega)))
    clear e fs
    go_wp2_with (go_at_call 14; refine (num_any _ _).mono ?_; rintro e x ⟨rfl, hw⟩; rw [hw]; clear hw)
    refine (sameResult_any _ _ _ _ _ Qo _ _ _ _ _ _ Qo _ _ VV.out.1 VV.out.2).mono ?_
    rintro e u5 ⟨rfl, b5⟩
    rw [sameR_self]
    have B5 := hid (kt BV.out b5)
    clear b5
    go_wp2_with fail
    go_ret
    exact ⟨rfl, B5.out⟩

set_option maxRecDepth 100000 in
theorem lifted (os : Os) (started : os.Started) (H : Type) (enc : TypeId × Value → H) :
    ReturnsInHanded {} Tryz.checked os 8 .any (fun w args => (Rows.evalFuelSpec.pre enc Tryz.prog Tryz.f8 [] false w args ∧ laidMetH Tryz.prog [("math/bits.deBruijn32tab", Rows.laid_math_bits_deBruijn32tab), ("math/bits.deBruijn64tab", Rows.laid_math_bits_deBruijn64tab), ("internal/strconv.uint64pow10", Rows.laid_internal_strconv_uint64pow10), ("errors.errorType", Rows.laid_errors_errorType), ("swage/pack.errForm", Rows.laid_swage_pack_errForm), ("swage/pack.errEnd", Rows.laid_swage_pack_errEnd)] w) ∧ sizedMet enc Tryz.prog Tryz.f8 (OpenSpec.ofChange Rows.evalFuelSpec) false w args) (Rows.evalFuelSpec.post enc Tryz.prog Tryz.f8 false true false false) := by
  refine returnsInHanded_of_change_and (C := Tryz.checked) (X := fun w _ => laidMetH Tryz.prog [("math/bits.deBruijn32tab", Rows.laid_math_bits_deBruijn32tab), ("math/bits.deBruijn64tab", Rows.laid_math_bits_deBruijn64tab), ("internal/strconv.uint64pow10", Rows.laid_internal_strconv_uint64pow10), ("errors.errorType", Rows.laid_errors_errorType), ("swage/pack.errForm", Rows.laid_swage_pack_errForm), ("swage/pack.errEnd", Rows.laid_swage_pack_errEnd)] w) (fun _ _ _ hh h => h.of_heap hh) own started (by kernel_rfl) Tryz.func8
    (ChangeSpec.witness_shaped (enc := enc) (C := Tryz.checked) (os := os) (X := fun w _ => laidMetH Tryz.prog [("math/bits.deBruijn32tab", Rows.laid_math_bits_deBruijn32tab), ("math/bits.deBruijn64tab", Rows.laid_math_bits_deBruijn64tab), ("internal/strconv.uint64pow10", Rows.laid_internal_strconv_uint64pow10), ("errors.errorType", Rows.laid_errors_errorType), ("swage/pack.errForm", Rows.laid_swage_pack_errForm), ("swage/pack.errEnd", Rows.laid_swage_pack_errEnd)] w) false (World.doorLaid Tryz.prog 400 os) #[.agg #[.slice none 0 0], .slice none 0 0, .int .i64 0, .int .i64 0] 8 rfl (World.shaped_of_RefB (by kernel_rfl) (by kernel_rfl)) (by kernel_rfl) (by kernel_rfl) (by kernel_rfl) (door_met os _)) ?_
  intro W base args ds gs before hval0 hW hcnd hsz0 hL _
  have hval : ∀ (j : Nat) t v, Tryz.f8.params[j]? = some t → args[j]? = some v → Value.okWide Tryz.prog W .any base t v := hval0
  have hW' := hW
  obtain ⟨p, q, hA0, hV, rfl, hfz, hnd⟩ := hW
  have hA : DataW.TrodAll enc Tryz.prog W 0 (fun _ => true) true Tryz.f8.params.toList args.toList ds p := hA0
  have hsz : (DataW.weightsEach Tryz.prog (Tryz.f8.params.toList ++ Rows.evalFuelSpec.plain.varTypes Tryz.prog) (ds ++ gs)).all (· ≤ reachBytes) = true := hsz0
  rw [Tryz.params8] at hA hval hsz
  obtain ⟨v0, vs0, d0, ds0, p0, q0, hargs, rfl, rfl, h0, r0⟩ := trodAll_cons hA
  obtain ⟨v1, vs1, d1, ds1, p1, q1, rfl, rfl, rfl, h1, r1⟩ := trodAll_cons r0
  obtain ⟨v2, vs2, d2, ds2, p2, q2, rfl, rfl, rfl, h2, r2⟩ := trodAll_cons r1
  obtain ⟨v3, vs3, d3, ds3, p3, q3, rfl, rfl, rfl, h3, r3⟩ := trodAll_cons r2
  obtain ⟨rfl, rfl, rfl⟩ := trodAll_nil r3
  obtain rfl : args = #[v0, v1, v2, v3] := by cases args; simp_all
  obtain ⟨rfl, rfl⟩ := trodVars_none hV
  have k0 := h0
  have lt0 : ∀ x ∈ p0, x.block < W.heap.size := by obtain ⟨m, hm⟩ := k0; exact DataW.trod_lt m _ _ _ hm
  have k1 := h1
  have lt1 : ∀ x ∈ p1, x.block < W.heap.size := by obtain ⟨m, hm⟩ := k1; exact DataW.trod_lt m _ _ _ hm
  have k2 := h2
  have lt2 : ∀ x ∈ p2, x.block < W.heap.size := by obtain ⟨m, hm⟩ := k2; exact DataW.trod_lt m _ _ _ hm
  have k3 := h3
  have lt3 : ∀ x ∈ p3, x.block < W.heap.size := by obtain ⟨m, hm⟩ := k3; exact DataW.trod_lt m _ _ _ hm
  obtain ⟨a0, n0, c0, l0, rfl, w0⟩ := open_program (hval 0 24 v0 rfl rfl) h0 (fun k hk => by simpa using List.all_eq_true.1 hsz k (DataW.weights_mem_each (j := 0) rfl rfl k hk))
  obtain ⟨a1, n1, c1, l1, rfl, w1⟩ := open_intsP (hval 1 26 v1 rfl rfl) h1 (fun k hk => by simpa using List.all_eq_true.1 hsz k (DataW.weights_mem_each (j := 1) rfl rfl k hk))
  obtain ⟨a2, rfl, rfl, rfl, w2⟩ := open_int Tryz.underlying3 (hval 2 3 v2 rfl rfl) h2
  obtain ⟨a3, rfl, rfl, rfl, w3⟩ := open_int Tryz.underlying3 (hval 3 3 v3 rfl rfl) h3
  clear hA0 hval0
  refine (walk a0 n0 c0 l0 a1 n1 c1 l1 a2 a3 W w0 w1 w2 w3 (ld_of hL)).mono fun e W' ⟨he, bel⟩ => ?_
  subst he
  exact ⟨_, rfl, _, _, _, [], _, [], hW', trodAll_mk1 (shut_bool Tryz.underlying4 _), (trodAll_cons_mk (Below.trod laidOut (by kernel_rfl) (of_decide_eq_true (by kernel_rfl)) k0 bel lt0) (trodAll_cons_mk (Below.trod laidOut (by kernel_rfl) (of_decide_eq_true (by kernel_rfl)) k1 bel lt1) (trodAll_cons_mk (Below.trod laidOut (by kernel_rfl) (of_decide_eq_true (by kernel_rfl)) k2 bel lt2) (trodAll_cons_mk (Below.trod laidOut (by kernel_rfl) (of_decide_eq_true (by kernel_rfl)) k3 bel lt3) trodAll_mk0)))), rfl, bel.frame _, fun h => by cases h⟩

theorem over : Rows.evalFuelRow.holds Tryz.pinned (OpenSpec.ofChange Rows.evalFuelSpec) :=
  OpenClaim.holds_of_wide 8 Tryz.f8 rfl rfl rfl rfl rfl rfl rfl ⟨rfl, rfl, rfl, rfl, rfl⟩ rfl rfl rfl rfl rfl (by kernel_rfl) Tryz.func8 (by kernel_rfl)
    (of_decide_eq_true (by kernel_rfl)) (by unfold Func.isWrapper; first | (rw [if_pos (by decide +kernel)]; kernel_rfl) | (rw [if_neg (by decide +kernel)]; exact ⟨rfl, rfl⟩))
    (fun os started H enc _ => lifted os started H enc)
end Go.Proofs.YtbbfgdkjgolieaaGreatDoor.evalFuel
namespace Go.Proofs.YtbbfgdkjgolieaaGreatDoor
open Go
theorem evalFuel_holds : Rows.EvalFuelCardSaid :=
  Claim7.holds_tied_plain_at .later [] [.data, .data, .data, .handle, .sentinel, .sentinel] true (true, "8b61cba96b38510dc3fa36b3690f22bb9b19fd11ad27bd3ebf2d0f44ede254d6") true
    evalFuel.over (fun _ h => by cases h) (by kernel_rfl) (fun _ h => by cases h) evalFuel_row_tie rfl ⟨rfl, rfl⟩ (by kernel_rfl) rfl
    (fun f fn hf hfn => by
      obtain rfl : f = 8 := Option.some.inj ((show Tryz.prog.funcNamed "swage/swagelaw8.EvalFuel" = some 8 by kernel_rfl).symm.trans hf) |>.symm
      obtain rfl : fn = Tryz.f8 := (Option.some.inj (Tryz.func8.symm.trans hfn)).symm
      exact ⟨by kernel_rfl, fun j t ht => by
        rw [Tryz.params8] at ht
        have hm : t ∈ [24, 26, 3, 3] := by simpa using Array.mem_of_getElem? ht
        have hall : ([24, 26, 3, 3].all fun u => !Tryz.prog.wantsStandIn u) = true := by kernel_rfl
        exact (show Tryz.prog.wantsStandIn t = false by simpa using List.all_eq_true.1 hall t hm)⟩)
    (by kernel_rfl)
#print axioms evalFuel_holds
end Go.Proofs.YtbbfgdkjgolieaaGreatDoor
