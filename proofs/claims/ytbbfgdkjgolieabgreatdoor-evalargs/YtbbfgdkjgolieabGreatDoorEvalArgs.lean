/- For any program, arguments and two integers the law EvalArgs returns true: an argument that is never loaded turns nothing of what eval.Eval comes to; no conditions. -/
import Derived.Test.YtbbfgdkjgolieabGreatDoorRows
import Derived.WalkKit
import Derived.ProofKit
import Derived.OpenShut
import Derived.ShutString
import Derived.ChangeOld
import Derived.Below
import Derived.Carry
import Derived.Lib.SmallJoins
import Derived.Handy
import Derived.WalkSmall
import Derived.SizedLaws
import Derived.Test.YtbbfgdkjgolieabGreatDoorOpen
import Derived.Test.YtbbfgdkjgolieabGreatDoorOpenInts
import Derived.Test.YtbbfgdkjgolieabGreatDoorLaidOpenV
import Derived.Test.YtbbfgdkjgolieabGreatDoorCards
import Derived.Test.YtbbfgdkjgolieabGreatDoorTie
import Derived.SevenTiedAt
import Derived.LaidMore
import Derived.Stop.Joined
import Derived.Test.YtbbfgdkjgolieabGreatDoorJ8
import Derived.Test.YtbbfgdkjgolieabGreatDoorPlainArgs
import Derived.Test.YtbbfgdkjgolieabGreatDoorRefHeights
import Derived.Test.YtbbfgdkjgolieabGreatDoorJ6b
namespace Go.Proofs.YtbbfgdkjgolieabGreatDoor.evalArgs
open Go.ChangeShapes Go.WideShapes Go.ChangeAt Go.RowKit
open Go.ChangeMaps (open_string shut_string)
set_option linter.unusedVariables false

theorem own : ownKnob Tryz.prog.godebug = none := by kernel_rfl
theorem laidOut : laidOutB Tryz.prog = true := by kernel_rfl

theorem and4095 (n : Int) : bits .and .i64 n 4095 = n % 4096 := by
  have hm : (BitVec.ofInt 64 4095).toNat = 2 ^ 12 - 1 := by decide
  show IntKind.i64.wrap ((BitVec.ofInt 64 n &&& BitVec.ofInt 64 4095).toNat : Nat) = n % 4096
  rw [BitVec.toNat_and, BitVec.toNat_ofInt, hm, Nat.and_two_pow_sub_one_eq_mod, IntKind.wrap_i64]
  omega
/-- Is the local i loaded by one of the first p instructions? -/
def anyJ (cl : List (Int × Int)) (i p : Nat) : Bool := (cl.take p).any (fun r => decide (r = ((1 : Int), (i : Int))))
theorem anyJ_zero (cl : List (Int × Int)) (i : Nat) : anyJ cl i 0 = false := by simp [anyJ]
theorem anyJ_step {cl : List (Int × Int)} {i p : Nat} {r : Int × Int} (h : p < cl.length) (e : cl.getD p (0, 0) = r) : anyJ cl i (p + 1) = (anyJ cl i p || decide (r = ((1 : Int), (i : Int)))) := by
  unfold anyJ
  rw [take_snoc_getD (d := (0, 0)) h e, List.any_append]
  simp
theorem anyJ_all {cl : List (Int × Int)} {i : Nat} (h : ((1 : Int), (i : Int)) ∈ cl) : anyJ cl i cl.length = true := by
  unfold anyJ
  rw [List.take_length]
  exact List.any_eq_true.2 ⟨_, h, by simp⟩
/-- The arguments, those that are never loaded others up to q. -/
def argJ (cl : List (Int × Int)) (o : Int) (xs : List Int) (q : Nat) : List Int := (List.range xs.length).map (fun i : Nat => if i < q ∧ anyJ cl i cl.length = false then wrap32 (wrap64 (o + (i : Int))) else xs.getD i 0)
theorem argJ_len (cl : List (Int × Int)) (o : Int) (xs : List Int) (q : Nat) : (argJ cl o xs q).length = xs.length := by simp [argJ]
theorem argJ_at {cl : List (Int × Int)} {o : Int} {xs : List Int} {q i : Nat} (h : i < xs.length) : (argJ cl o xs q).getD i 0 = if i < q ∧ anyJ cl i cl.length = false then wrap32 (wrap64 (o + (i : Int))) else xs.getD i 0 := by
  simp [argJ, List.getD_eq_getElem?_getD, h]
theorem list_ext_i {a b : List Int} (hl : a.length = b.length) (h : ∀ i, i < a.length → a.getD i 0 = b.getD i 0) : a = b := by
  apply List.ext_getElem hl
  intro i h1 h2
  have := h i h1
  simpa [List.getD_eq_getElem?_getD, List.getElem?_eq_getElem h1, List.getElem?_eq_getElem h2] using this
theorem argJ_start (cl : List (Int × Int)) (o : Int) (xs : List Int) : argJ cl o xs 0 = xs :=
  list_ext_i (argJ_len _ _ _ _) (fun i hi => by rw [argJ_at (by rw [argJ_len] at hi; exact hi), if_neg (by omega)])
theorem argJ_read {cl : List (Int × Int)} {o : Int} {xs : List Int} {q : Nat} (h : anyJ cl q cl.length = true) : argJ cl o xs (q + 1) = argJ cl o xs q :=
  list_ext_i (by rw [argJ_len, argJ_len]) (fun i hi => by
    rw [argJ_len] at hi
    rw [argJ_at hi, argJ_at hi]
    by_cases hq : i = q
    · subst hq; rw [if_neg (by rw [h]; simp), if_neg (by omega)]
    · by_cases hc : i < q ∧ anyJ cl i cl.length = false
      · rw [if_pos ⟨by omega, hc.2⟩, if_pos hc]
      · rw [if_neg (fun k => hc ⟨by omega, k.2⟩), if_neg hc])
theorem argJ_put {cl : List (Int × Int)} {o : Int} {xs : List Int} {q : Nat} (hq : q < xs.length) (h : anyJ cl q cl.length = false) : argJ cl o xs (q + 1) = (argJ cl o xs q).set q (wrap32 (wrap64 (o + (q : Int)))) :=
  list_ext_i (by rw [List.length_set, argJ_len, argJ_len]) (fun i hi => by
    rw [argJ_len] at hi
    rw [getD_set_any _ _ _ _ (by rw [argJ_len]; exact hq), argJ_at hi, argJ_at hi]
    by_cases hqi : q = i
    · subst hqi; rw [if_pos ⟨by omega, h⟩, if_pos rfl]
    · rw [if_neg hqi]
      by_cases hc : i < q ∧ anyJ cl i cl.length = false
      · rw [if_pos ⟨by omega, hc.2⟩, if_pos hc]
      · rw [if_neg (fun k => hc ⟨by omega, k.2⟩), if_neg hc])
/-- What the law asks of what is told. -/
theorem args_ask {ps : List Fn} {xs : List Int} {o m : Int} {fx fy : Int} {cl : List (Int × Int)} (e0 : ps.getD 0 noFn = (fx, fy, cl)) {Rd Rv Rfu Qd Qv Qfu E F : Int} {Ro Qo : List Int} (hR : evalR ps xs m = (Rd, Rv, Ro, Rfu)) (hQ : evalR ps (argJ cl o xs xs.length) m = (Qd, Qv, Qo, Qfu)) (hE : evalE ps xs m = E) (hF : evalE ps (argJ cl o xs xs.length) m = F) :
    (E = 800) ∨ (E = 0 ∧ F = 0 ∧ Qd = Rd ∧ Qv = Rv ∧ Qo = Ro ∧ Qfu = Rfu) := by
  cases h : startB ps xs m
  · rw [(evalR_no h).2] at hE
    exact .inl hE.symm
  · right
    obtain ⟨_, _, _, hn⟩ := start_parts h
    have hn2 : numsB (argJ cl o xs xs.length) = true := List.all_eq_true.2 (fun z hz => by
      obtain ⟨i, hi, rfl⟩ := List.getElem_of_mem hz
      have hi' : i < xs.length := by rw [argJ_len] at hi; exact hi
      have := argJ_at (cl := cl) (o := o) (q := xs.length) hi'
      rw [List.getD_eq_getElem?_getD, List.getElem?_eq_getElem hi] at this
      rw [show (argJ cl o xs xs.length)[i] = _ from this]
      split
      · exact num_wrap _
      · exact numsB_at hn i hi')
    obtain ⟨h1, h2, h3⟩ := args_run h (argJ_len cl o xs xs.length).symm hn2 (fun i hi => by
      rcases Nat.lt_or_ge i xs.length with hl | hl
      · have hmem : ((1 : Int), (i : Int)) ∈ cl := by
          unfold Reads at hi
          rw [show (0 : Int).toNat = 0 from rfl, e0] at hi
          exact hi
        rw [argJ_at hl, if_neg (by rw [anyJ_all hmem]; simp)]
      · rw [List.getD_eq_getElem?_getD, List.getD_eq_getElem?_getD, List.getElem?_eq_none hl, List.getElem?_eq_none (by rw [argJ_len]; exact hl)])
    rw [h1, hR] at hQ
    simp only [Prod.mk.injEq] at hQ
    exact ⟨by rw [← hE, h3], by rw [← hF, h2], hQ.1.symm, hQ.2.1.symm, hQ.2.2.1.symm, hQ.2.2.2.symm⟩
set_option maxRecDepth 100000 in
set_option maxHeartbeats 20000000 in
theorem walk (a0 : Option Addr) (n0 c0 : Nat) (l0 : List Fn) (a1 : Option Addr) (n1 c1 : Nat) (l1 : List Int) (a2 : Int) (a3 : Int) (w : World) (w0 : Fns w a0 n0 c0 l0) (w1 : Ints w a1 n1 c1 l1) (w2 : (Lit.int .i64 a2).wf = true) (w3 : (Lit.int .i64 a3).wf = true) (ld : Ld w) :
    Calls Tryz.prog 8 #[.agg #[.slice a0 n0 c0], .slice a1 n1 c1, .int .i64 a2, .int .i64 a3] w fun e w' => e = .returned (.bool true) ∧ Below w.heap.size w w' := by
  have LD0 := hid ld
  clear ld
  have WP := hid w0
  have WA := hid w1
  have LA := hid w1.len
  have har := w1.room
  have hac := w1.cap
  have LP := hid w0.len
  have hpr := w0.room
  have hpc := w0.cap
  clear w0 w1
  go_enter Tryz.func8, Tryz.ntmps8
  go_wp2_with fail
  refine (awake8_any _ (LD0.out.up (by go_grown))).mono ?_
  rintro e u1 ⟨rfl, b1⟩
  have P1 := hid (kept_cell b1 (b := w.heap.size) (o := 0) (v := .slice a0 n0 c0) (by simp [go_sem]))
  have B1 : Hid (Below w.heap.size w u1) := hid (kt (by go_grown) b1)
  clear b1
  have p1 := P1.out
  go_wp2_with fail
  refine (refVerify_any _ _ _ l0 _ (WP.out.kept B1.out)).mono ?_
  rintro e u2 ⟨rfl, b2⟩
  have B2 := hid (kt B1.out b2)
  have P2 := hid (kept_cell b2 P1.out)
  clear b2 p1
  by_cases hv : verV l0 = 0
  rotate_left
  · have hv' : (verV l0 != 0) = true := by simpa using hv
    clear hv
    go_wp2_with fail
    go_ret
    exact ⟨rfl, B2.out⟩
  have h1 := ver_some hv
  have hn0 : 1 ≤ n0 := by rw [LP.out]; exact h1.1
  have hnl : ¬ (n0 : Int) < 1 := by omega
  have hnl' : decide ((n0 : Int) < 1) = false := by simp; omega
  have hnl2 : decide (n0 < 1) = false := by simp; omega
  rw [hv]
  clear hv h1
  have p2 := P2.out
  obtain ⟨b0, o0, fx, fy, ca, cn, cc, cl, hba, e0, d0, d1, d2, i3⟩ := (WP.out.kept B2.out).at 0 (by omega)
  subst hba
  simp only [Nat.zero_mul, Nat.add_zero] at d0 d1 d2
  have E0 := hid e0
  have DD := hid (And.intro d0 (And.intro d1 d2))
  have I3 := hid i3
  have hcr := i3.room
  have hcc := i3.cap
  have LC := hid i3.len
  clear e0 d0 d1 d2 i3
  go_wp2_with (at_builtin; refine wpList_copyI u2 _ rfl _ _ rfl rfl u2.heap.size rfl rfl _ _ _ l1 rfl (WA.out.kept B2.out) ?_; intro a' n' c' w4 o4 b4; have p4 := kept_cell b4 P2.out; have q0 := kept_cell b4 DD.out.1; have q1 := kept_cell b4 DD.out.2.1; have q2 := kept_cell b4 DD.out.2.2; have Q4 := hid (And.intro o4 b4); clear o4 b4 p2)
  obtain ⟨_, _, _, e9, h9⟩ := ints_of_owns Q4.out.1 (by rw [← LA.out]; exact har)
  cases e9
  obtain rfl : n' = n1 := by rw [h9.len, LA.out]
  have OB : Hid (∀ b, (Value.slice a' n' c').ownBlock = some b → u2.heap.size ≤ b ∧ b < w4.heap.size) := hid (fun b hb => Q4.out.1.lt b hb)
  have hcap9 := h9.cap
  have hA : Below w4.heap.size w4 (w4.alloc (.cells #[.int .i64 fx, .int .i64 fy, .slice ca cn cc] 54)) := Below.alloc (Below.refl _ _) (Nat.le_refl _) _
  have U0 : Hid (∃ U : World, U = w4.alloc (.cells #[.int .i64 fx, .int .i64 fy, .slice ca cn cc] 54)) := hid ⟨_, rfl⟩
  obtain ⟨U, hU⟩ := U0.out
  have FB : Hid (U.cell? ⟨w4.heap.size, 2, none⟩ = some (.slice ca cn cc)) := hid (by rw [hU]; simp [go_sem])
  have PU := hid (show U.cell? ⟨w.heap.size, 0, none⟩ = some (.slice (some ⟨b0, o0, none⟩) n0 c0) by rw [hU]; exact kept_cell hA p4)
  have OU := hid (show U.ownsRow u2.heap.size 3 1 (.slice a' n' c') n' (ints l1) by rw [hU]; have := owns_kept Q4.out.1 hA; rwa [← LA.out] at this)
  have BU := hid (show Below u2.heap.size u2 U by rw [hU]; exact kt Q4.out.2 hA)
  have hu2 : w.heap.size < u2.heap.size := lt_of_cell P2.out
  have EU := hid hU
  clear p4 q0 q1 q2 h9 hA hU U0
  refine wp_world (U := U) (by rw [EU.out]) ?_
  go_loopw [11] (fun i wr => ∃ q : Nat, q ≤ n' ∧ i = .int .i64 q ∧ wr.ownsRow u2.heap.size 3 1 (.slice a' n' c') n' (ints (argJ cl a3 l1 q)) ∧ Frm (fun b => (Value.slice a' n' c').ownBlock = some b) U wr) (fun i _ => n' - (intOf i).toNat)
  case atStart => exact ⟨0, Nat.zero_le _, rfl, by rw [argJ_start]; exact OU.out, Frm.refl _ _⟩
  case round =>
    obtain ⟨V, hV⟩ : ∃ V, V = wr := ⟨_, rfl⟩
    subst hV
    obtain ⟨q, hq, rfl, ho, hf⟩ := hrel
    have HO := hid ho
    have HF := hid hf
    have BV : Hid (Below u2.heap.size u2 V) := hid (BU.out.trans (hf.below BU.out.size (fun b hb e => by have := OB.out b e; omega)))
    have f2 := hid (hf.cell FB.out (fun e => by have := OB.out _ e; omega))
    have IV := hid (I3.out.kept BV.out)
    have pv := hid (hf.cell PU.out (fun e => by have := OB.out _ e; omega))
    clear ho hf
    by_cases hlt : q < n'
    · obtain ⟨g, cp, e8, hg1, hg2⟩ := HO.out.form (by omega)
      cases e8
      go_wp2_with fail
      go_loopw [12, 13] (fun r j wr => ∃ p : Nat, p ≤ cn ∧ j = .int .i64 p ∧ r = .bool (anyJ cl q p) ∧ Below V.heap.size V wr) (fun _ j _ => cn - (intOf j).toNat)
      case atStart => exact ⟨0, Nat.zero_le _, rfl, by rw [anyJ_zero], Below.refl _ _⟩
      case round =>
        obtain ⟨p, hp, rfl, rfl, hb⟩ := hrel
        have g2 := kept_cell hb f2.out
        by_cases hpl : p < cn
        · obtain ⟨bc, oc, k, a, rfl, ek, j0, j1⟩ := (IV.out.kept hb).at p hpl
          have HST := hid (anyJ_step (i := q) (by rw [← LC.out]; exact hpl) ek)
          clear ek
          cases hany : anyJ cl q p
          · rw [hany] at HST
            by_cases h1 : k = 1
            · subst h1
              by_cases h2 : a = (q : Int)
              · subst h2
                go_wp2_with fail
                go_roundw
                case rel => exact ⟨p + 1, by omega, by go_num, by rw [HST.out]; simp, hb⟩
                case measure => simp [intOf]; omega
              · have h2' : (a == (q : Int)) = false := by simpa using h2
                go_wp2_with fail
                go_roundw
                case rel => exact ⟨p + 1, by omega, by go_num, by rw [HST.out]; simp [h2], hb⟩
                case measure => simp [intOf]; omega
            · have h1' : (k == 1) = false := by simpa using h1
              go_wp2_with fail
              go_roundw
              case rel => exact ⟨p + 1, by omega, by go_num, by rw [HST.out]; simp [h1], hb⟩
              case measure => simp [intOf]; omega
          · rw [hany] at HST
            go_wp2_with fail
            go_roundw
            case rel => exact ⟨p + 1, by omega, by go_num, by rw [HST.out]; simp, hb⟩
            case measure => simp [intOf]; omega
        · obtain rfl : p = cn := by omega
          have HB := hid hb
          cases hany : anyJ cl q p
          · have ow := owns_kept HO.out HB.out
            have lq : wr.cell? ⟨g, q, none⟩ = some (.int .i64 ((argJ cl a3 l1 q).getD q 0)) := by rw [ow.cellAt _ (by omega), ints_at _ _ (by rw [argJ_len, ← LA.out]; exact hlt)]
            have lf : wr.frozen? ⟨g, q, none⟩ = false := ow.frozenAt _
            have OW := hid ow
            clear ow
            go_wp2_with (first | (go_at_call 16; refine (refWrap_any _ _).mono ?_; rintro e w' ⟨rfl, hw⟩; rw [hw]; clear hw))
            go_roundw
            case rel =>
              refine ⟨q + 1, by omega, by go_num, ?_, (HF.out.trans (Frm.of_below (S := fun b => (Value.slice (some ⟨g, 0, none⟩) n' c').ownBlock = some b) HB.out) (fun _ _ k => k)).trans (Frm.set (S := fun b => b = g) _ rfl) (fun b _ (k : b = g) => (show some g = some b by rw [k]))⟩
              rw [argJ_put (by rw [← LA.out]; exact hlt) (by rw [← LC.out]; exact hany)]
              have := (OW.out.stored q (.int .i64 (wrap32 (wrap64 (a3 + (q : Int)))))).1
              rw [show (ints (argJ cl a3 l1 q)).set q (.int .i64 (wrap32 (wrap64 (a3 + (q : Int))))) = ints ((argJ cl a3 l1 q).set q (wrap32 (wrap64 (a3 + (q : Int))))) by simp [ints, List.map_set]] at this
              exact this
            case measure => simp [intOf]; omega
          · go_wp2_with fail
            go_roundw
            case rel =>
              refine ⟨q + 1, by omega, by go_num, ?_, HF.out.trans (Frm.of_below (S := fun _ => False) HB.out) (fun _ _ k => k.elim)⟩
              rw [argJ_read (by rw [← LC.out]; exact hany)]
              exact owns_kept HO.out HB.out
            case measure => simp [intOf]; omega
    · obtain rfl : q = n' := by omega
      have ha := and4095 a2
      have pw := pv.out
      have OBS : Hid (Ints V a' q c' (argJ cl a3 l1 q)) := hid (by
        obtain ⟨_, _, _, e, h1⟩ := ints_of_owns (l := argJ cl a3 l1 q) (by rw [argJ_len, ← LA.out]; exact HO.out) (by rw [argJ_len, ← LA.out]; exact har)
        cases e
        exact h1)
      have B5 := hid (kt B2.out BV.out)
      go_wp2_with fail
      obtain ⟨m, hm⟩ : ∃ m, a2 % 4096 = m := ⟨_, rfl⟩
      rw [hm]
      clear ha hm
      obtain ⟨⟨Rd, Rv, Ro, Rfu⟩, hR⟩ : ∃ R, evalR l0 l1 m = R := ⟨_, rfl⟩
      obtain ⟨⟨Qd, Qv, Qo, Qfu⟩, hQ⟩ : ∃ R, evalR l0 (argJ cl a3 l1 q) m = R := ⟨_, rfl⟩
      obtain ⟨E, hE⟩ : ∃ R, evalE l0 l1 m = R := ⟨_, rfl⟩
      obtain ⟨F, hF⟩ : ∃ R, evalE l0 (argJ cl a3 l1 q) m = R := ⟨_, rfl⟩
      have HK : Hid ((E = 800) ∨ (E = 0 ∧ F = 0 ∧ Qd = Rd ∧ Qv = Rv ∧ Qo = Ro ∧ Qfu = Rfu)) := hid (by
        have eq : argJ cl a3 l1 q = argJ cl a3 l1 l1.length := by rw [← LA.out]
        rw [eq] at hQ hF
        exact args_ask E0.out hR hQ hE hF)
      have HR := hid (And.intro hR hE)
      have HQ := hid (And.intro hQ hF)
      clear hR hQ hE hF
      refine (eval_read _ _ _ l0 _ _ _ l1 m Rd Rv Ro Rfu E _ HR.out.1 HR.out.2 ((WP.out.kept B2.out).kept BV.out) ((WA.out.kept B2.out).kept BV.out) (LD0.out.up B5.out)).mono ?_
      rintro e v2 ⟨ra, rn, rc, rfl, o2, b2⟩
      have hA : Below v2.heap.size v2 (v2.alloc (.cells #[.int .i64 Rd, .int .i64 Rv, .slice ra rn rc, .int .i64 Rfu] 34)) := Below.alloc (Below.refl _ _) (Nat.le_refl _) _
      have D6 := hid (kt b2 hA)
      have B6 := hid (kt B5.out D6.out)
      have O6 := hid (o2.kept hA)
      have X6 : Hid (RX (v2.alloc (.cells #[.int .i64 Rd, .int .i64 Rv, .slice ra rn rc, .int .i64 Rfu] 34)) v2.heap.size Rd Rv (.slice ra rn rc) Rfu) := hid ⟨by simp [go_sem], by simp [go_sem], by simp [go_sem], by simp [go_sem]⟩
      have p6 := kept_cell D6.out pv.out
      clear o2 b2 hA pw
      go_wp2_with fail
      refine (eval_read _ _ _ l0 _ _ _ (argJ cl a3 l1 q) m Qd Qv Qo Qfu F _ HQ.out.1 HQ.out.2 (((WP.out.kept B2.out).kept BV.out).kept D6.out) (OBS.out.kept D6.out) (LD0.out.up B6.out)).mono ?_
      rintro e v3 ⟨qa, qn, qc, rfl, o3, b3⟩
      have hA : Below v3.heap.size v3 (v3.alloc (.cells #[.int .i64 Qd, .int .i64 Qv, .slice qa qn qc, .int .i64 Qfu] 34)) := Below.alloc (Below.refl _ _) (Nat.le_refl _) _
      have D7 := hid (kt b3 hA)
      have B7 := hid (kt B6.out D7.out)
      have O7 := hid (And.intro (O6.out.kept D7.out) (o3.kept hA))
      have X7 : Hid (RX (v3.alloc (.cells #[.int .i64 Qd, .int .i64 Qv, .slice qa qn qc, .int .i64 Qfu] 34)) v3.heap.size Qd Qv (.slice qa qn qc) Qfu) := hid ⟨by simp [go_sem], by simp [go_sem], by simp [go_sem], by simp [go_sem]⟩
      obtain ⟨m0, m1, m2, m3⟩ := X6.out.kept D7.out
      obtain ⟨g0, g1, g2, g3⟩ := X7.out
      clear o3 b3 hA p6
      rcases HK.out with rfl | ⟨rfl, rfl, rfl, rfl, rfl, rfl⟩
      · go_wp2_with (go_at_call 12; refine (num_any _ _).mono ?_; rintro e x ⟨rfl, hw⟩; rw [hw]; clear hw)
        go_ret
        exact ⟨rfl, B7.out⟩
      · go_wp2_with (go_at_call 12; refine (num_any _ _).mono ?_; rintro e x ⟨rfl, hw⟩; rw [hw]; clear hw)
        refine (sameResult_any _ _ _ _ _ Qo _ _ _ _ _ _ Qo _ _ O7.out.1 O7.out.2).mono ?_
        rintro e v5 ⟨rfl, b5⟩
        rw [sameR_self]
        have B8 := hid (kt B7.out b5)
        clear b5
        go_wp2_with fail
        go_ret
        exact ⟨rfl, B8.out⟩

set_option maxRecDepth 100000 in
theorem lifted (os : Os) (started : os.Started) (H : Type) (enc : TypeId × Value → H) :
    ReturnsInHanded {} Tryz.checked os 8 .any (fun w args => (Rows.evalArgsSpec.pre enc Tryz.prog Tryz.f8 [] false w args ∧ laidMetH Tryz.prog [("math/bits.deBruijn32tab", Rows.laid_math_bits_deBruijn32tab), ("math/bits.deBruijn64tab", Rows.laid_math_bits_deBruijn64tab), ("internal/strconv.uint64pow10", Rows.laid_internal_strconv_uint64pow10), ("errors.errorType", Rows.laid_errors_errorType), ("swage/pack.errForm", Rows.laid_swage_pack_errForm), ("swage/pack.errEnd", Rows.laid_swage_pack_errEnd)] w) ∧ sizedMet enc Tryz.prog Tryz.f8 (OpenSpec.ofChange Rows.evalArgsSpec) false w args) (Rows.evalArgsSpec.post enc Tryz.prog Tryz.f8 false true false false) := by
  refine returnsInHanded_of_change_and (C := Tryz.checked) (X := fun w _ => laidMetH Tryz.prog [("math/bits.deBruijn32tab", Rows.laid_math_bits_deBruijn32tab), ("math/bits.deBruijn64tab", Rows.laid_math_bits_deBruijn64tab), ("internal/strconv.uint64pow10", Rows.laid_internal_strconv_uint64pow10), ("errors.errorType", Rows.laid_errors_errorType), ("swage/pack.errForm", Rows.laid_swage_pack_errForm), ("swage/pack.errEnd", Rows.laid_swage_pack_errEnd)] w) (fun _ _ _ hh h => h.of_heap hh) own started (by kernel_rfl) Tryz.func8
    (ChangeSpec.witness_shaped (enc := enc) (C := Tryz.checked) (os := os) (X := fun w _ => laidMetH Tryz.prog [("math/bits.deBruijn32tab", Rows.laid_math_bits_deBruijn32tab), ("math/bits.deBruijn64tab", Rows.laid_math_bits_deBruijn64tab), ("internal/strconv.uint64pow10", Rows.laid_internal_strconv_uint64pow10), ("errors.errorType", Rows.laid_errors_errorType), ("swage/pack.errForm", Rows.laid_swage_pack_errForm), ("swage/pack.errEnd", Rows.laid_swage_pack_errEnd)] w) false (World.doorLaid Tryz.prog 400 os) #[.agg #[.slice none 0 0], .slice none 0 0, .int .i64 0, .int .i64 0] 8 rfl (World.shaped_of_RefB (by kernel_rfl) (by kernel_rfl)) (by kernel_rfl) (by kernel_rfl) (by kernel_rfl) (door_met os _)) ?_
  intro W base args ds gs before hval0 hW hcnd hsz0 hL _
  have hval : ∀ (j : Nat) t v, Tryz.f8.params[j]? = some t → args[j]? = some v → Value.okWide Tryz.prog W .any base t v := hval0
  have hW' := hW
  obtain ⟨p, q, hA0, hV, rfl, hfz, hnd⟩ := hW
  have hA : DataW.TrodAll enc Tryz.prog W 0 (fun _ => true) true Tryz.f8.params.toList args.toList ds p := hA0
  have hsz : (DataW.weightsEach Tryz.prog (Tryz.f8.params.toList ++ Rows.evalArgsSpec.plain.varTypes Tryz.prog) (ds ++ gs)).all (· ≤ reachBytes) = true := hsz0
  rw [Tryz.params8] at hA hval hsz
  obtain ⟨v0, vs0, d0, ds0, p0, q0, hargs, rfl, rfl, h0, r0⟩ := trodAll_cons hA
  obtain ⟨v1, vs1, d1, ds1, p1, q1, rfl, rfl, rfl, h1, r1⟩ := trodAll_cons r0
  obtain ⟨v2, vs2, d2, ds2, p2, q2, rfl, rfl, rfl, h2, r2⟩ := trodAll_cons r1
  obtain ⟨v3, vs3, d3, ds3, p3, q3, rfl, rfl, rfl, h3, r3⟩ := trodAll_cons r2
  obtain ⟨rfl, rfl, rfl⟩ := trodAll_nil r3
  obtain rfl : args = #[v0, v1, v2, v3] := by cases args; simp_all
  obtain ⟨rfl, rfl⟩ := trodVars_none hV
  have k0 := h0
  have lt0 : ∀ x ∈ p0, x.block < W.heap.size := by obtain ⟨m, hm⟩ := k0; exact DataW.trod_lt m _ _ _ hm
  have k1 := h1
  have lt1 : ∀ x ∈ p1, x.block < W.heap.size := by obtain ⟨m, hm⟩ := k1; exact DataW.trod_lt m _ _ _ hm
  have k2 := h2
  have lt2 : ∀ x ∈ p2, x.block < W.heap.size := by obtain ⟨m, hm⟩ := k2; exact DataW.trod_lt m _ _ _ hm
  have k3 := h3
  have lt3 : ∀ x ∈ p3, x.block < W.heap.size := by obtain ⟨m, hm⟩ := k3; exact DataW.trod_lt m _ _ _ hm
  obtain ⟨a0, n0, c0, l0, rfl, w0⟩ := open_program (hval 0 24 v0 rfl rfl) h0 (fun k hk => by simpa using List.all_eq_true.1 hsz k (DataW.weights_mem_each (j := 0) rfl rfl k hk))
  obtain ⟨a1, n1, c1, l1, rfl, w1⟩ := open_intsP (hval 1 26 v1 rfl rfl) h1 (fun k hk => by simpa using List.all_eq_true.1 hsz k (DataW.weights_mem_each (j := 1) rfl rfl k hk))
  obtain ⟨a2, rfl, rfl, rfl, w2⟩ := open_int Tryz.underlying3 (hval 2 3 v2 rfl rfl) h2
  obtain ⟨a3, rfl, rfl, rfl, w3⟩ := open_int Tryz.underlying3 (hval 3 3 v3 rfl rfl) h3
  clear hA0 hval0
  refine (walk a0 n0 c0 l0 a1 n1 c1 l1 a2 a3 W w0 w1 w2 w3 (ld_of hL)).mono fun e W' ⟨he, bel⟩ => ?_
  subst he
  exact ⟨_, rfl, _, _, _, [], _, [], hW', trodAll_mk1 (shut_bool Tryz.underlying4 _), (trodAll_cons_mk (Below.trod laidOut (by kernel_rfl) (of_decide_eq_true (by kernel_rfl)) k0 bel lt0) (trodAll_cons_mk (Below.trod laidOut (by kernel_rfl) (of_decide_eq_true (by kernel_rfl)) k1 bel lt1) (trodAll_cons_mk (Below.trod laidOut (by kernel_rfl) (of_decide_eq_true (by kernel_rfl)) k2 bel lt2) (trodAll_cons_mk (Below.trod laidOut (by kernel_rfl) (of_decide_eq_true (by kernel_rfl)) k3 bel lt3) trodAll_mk0)))), rfl, bel.frame _, fun h => by cases h⟩

theorem over : Rows.evalArgsRow.holds Tryz.pinned (OpenSpec.ofChange Rows.evalArgsSpec) :=
  OpenClaim.holds_of_wide 8 Tryz.f8 rfl rfl rfl rfl rfl rfl rfl ⟨rfl, rfl, rfl, rfl, rfl⟩ rfl rfl rfl rfl rfl (by kernel_rfl) Tryz.func8 (by kernel_rfl)
    (of_decide_eq_true (by kernel_rfl)) (by unfold Func.isWrapper; first | (rw [if_pos (by decide +kernel)]; kernel_rfl) | (rw [if_neg (by decide +kernel)]; exact ⟨rfl, rfl⟩))
    (fun os started H enc _ => lifted os started H enc)
end Go.Proofs.YtbbfgdkjgolieabGreatDoor.evalArgs
namespace Go.Proofs.YtbbfgdkjgolieabGreatDoor
open Go
theorem evalArgs_holds : Rows.EvalArgsCardSaid :=
  Claim7.holds_tied_plain_at .later [] [.data, .data, .data, .handle, .sentinel, .sentinel] true (true, "df9f9e0254879b26436ad060d49320056ec30ea2f54290ef4dfd0a208bae7ec3") true
    evalArgs.over (fun _ h => by cases h) (by kernel_rfl) (fun _ h => by cases h) evalArgs_row_tie rfl ⟨rfl, rfl⟩ (by kernel_rfl) rfl
    (fun f fn hf hfn => by
      obtain rfl : f = 8 := Option.some.inj ((show Tryz.prog.funcNamed "swage/swagelaw8.EvalArgs" = some 8 by kernel_rfl).symm.trans hf) |>.symm
      obtain rfl : fn = Tryz.f8 := (Option.some.inj (Tryz.func8.symm.trans hfn)).symm
      exact ⟨by kernel_rfl, fun j t ht => by
        rw [Tryz.params8] at ht
        have hm : t ∈ [24, 26, 3, 3] := by simpa using Array.mem_of_getElem? ht
        have hall : ([24, 26, 3, 3].all fun u => !Tryz.prog.wantsStandIn u) = true := by kernel_rfl
        exact (show Tryz.prog.wantsStandIn t = false by simpa using List.all_eq_true.1 hall t hm)⟩)
    (by kernel_rfl)
#print axioms evalArgs_holds
end Go.Proofs.YtbbfgdkjgolieabGreatDoor
