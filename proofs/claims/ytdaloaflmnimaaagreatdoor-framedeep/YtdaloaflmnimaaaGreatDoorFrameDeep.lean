/- For any two integers the law FrameDeep returns true: as many frames as may be, each behind its call, may be by frame.State, one more may not; no conditions. -/
import Derived.Test.YtdaloaflmnimaaaGreatDoorRows
import Derived.WalkKit
import Derived.ProofKit
import Derived.OpenShut
import Derived.ShutString
import Derived.ChangeOld
import Derived.Below
import Derived.Carry
import Derived.Lib.SmallJoins
import Derived.Handy
import Derived.WalkSmall
import Derived.SizedLaws
import Derived.Test.YtdaloaflmnimaaaGreatDoorLaidOpenV
import Derived.Test.YtdaloaflmnimaaaGreatDoorCards
import Derived.Test.YtdaloaflmnimaaaGreatDoorTie
import Derived.SevenTiedAt
import Derived.LaidMore
import Derived.Stop.Joined
import Derived.Test.YtdaloaflmnimaaaGreatDoorJ6b
namespace Go.Proofs.YtdaloaflmnimaaaGreatDoor.frameDeep
open Go.ChangeShapes Go.WideShapes Go.ChangeAt Go.RowKit
open Go.ChangeMaps (open_string shut_string)
set_option linter.unusedVariables false

theorem own : ownKnob Tryz.prog.godebug = none := by kernel_rfl
theorem laidOut : laidOutB Tryz.prog = true := by kernel_rfl

theorem and15 (n : Int) : bits .and .i64 n 15 = n % 16 := by
  have hm : (BitVec.ofInt 64 15).toNat = 2 ^ 4 - 1 := by decide
  show IntKind.i64.wrap ((BitVec.ofInt 64 n &&& BitVec.ofInt 64 15).toNat : Nat) = n % 16
  rw [BitVec.toNat_and, BitVec.toNat_ofInt, hm, Nat.and_two_pow_sub_one_eq_mod, IntKind.wrap_i64]
  omega
theorem firstAt_all {p : Nat → Bool} : ∀ (k i : Nat), (∀ j, i ≤ j → j < i + k → p j = false) → firstAt p k i = none
  | 0, i, _ => rfl
  | k + 1, i, h => by rw [firstAt_step (h i (Nat.le_refl _) (by omega))]; exact firstAt_all k (i + 1) (fun j h1 h2 => h j (by omega) (by omega))
def deepC : List (Int × Int) := [(1, 0), (14, 0), (16, 0)]
def deepL : List Fn := [(1, 1, deepC)]
theorem deep_ver : verV deepL = 0 := by decide +kernel
theorem deep_h2 : heightV deepL 0 2 = 1 := by decide +kernel
theorem deep_h1 : heightV deepL 0 1 = 1 := by decide +kernel
theorem deep_wait {v : Int} (h : isNum v = true) : waitB deepL (0, 2, [v], []) 0 = true := by
  have e : behindB deepL 0 2 0 = true := by decide +kernel
  unfold waitB
  rw [e, Bool.and_true]
  simp only [frB, reachedB, deep_h2, lenB, numsB, List.all_cons, List.all_nil, h]
  rfl
theorem deep_last {v : Int} (h : isNum v = true) : frB deepL 0 (0, 1, [v], [v]) = true := by
  simp only [frB, reachedB, deep_h1, lenB, numsB, List.all_cons, List.all_nil, h]
  rfl
theorem deep_state (m : Nat) {v : Int} (hv : isNum v = true) : stateB deepL (List.replicate m (0, 2, [v], []) ++ [(0, 1, [v], [v])], 3, [], 0, 0) = decide (m + 1 ≤ 12) := by
  have hl : (List.replicate m ((0, 2, [v], []) : Fr) ++ [(0, 1, [v], [v])]).length = m + 1 := by simp
  have hc : callsB deepL (List.replicate m ((0, 2, [v], []) : Fr) ++ [(0, 1, [v], [v])]) = true := by
    unfold callsB
    rw [firstAt_all _ _ (fun j _ hj => ?_)]; · rfl
    rw [hl] at hj
    rcases Nat.lt_or_ge j m with h1 | h1
    · have e1 : (List.replicate m ((0, 2, [v], []) : Fr) ++ [(0, 1, [v], [v])]).getD j noFr = (0, 2, [v], []) := by
        rw [List.getD_eq_getElem?_getD, List.getElem?_append_left (by simpa using h1), List.getElem?_replicate, if_pos h1]; rfl
      have e2 : ((List.replicate m ((0, 2, [v], []) : Fr) ++ [(0, 1, [v], [v])]).getD (j + 1) noFr).1 = 0 := by
        rcases Nat.lt_or_ge (j + 1) m with h2 | h2
        · rw [List.getD_eq_getElem?_getD, List.getElem?_append_left (by simpa using h2), List.getElem?_replicate, if_pos h2]; rfl
        · rw [List.getD_eq_getElem?_getD, List.getElem?_append_right (by simpa using h2), List.length_replicate, show j + 1 - m = 0 by omega]; rfl
      rw [callAt_wait (by rw [hl]; omega) e1 e2, deep_wait hv]; rfl
    · have hj' : j = m := by omega
      subst hj'
      have e1 : (List.replicate j ((0, 2, [v], []) : Fr) ++ [(0, 1, [v], [v])]).getD j noFr = (0, 1, [v], [v]) := getD_snoc_eq _ _ _ _ (by simp)
      rw [callAt_last (by rw [hl]) e1, deep_last hv]; rfl
  unfold stateB
  simp only []
  rw [hc, deep_ver, hl, numsB_nil, show fuelB 3 ([] : List Int).length = true by decide]
  simp [outB]
theorem owns_new {u : World} {base H n : Nat} {l : List Int} {cs : Array Value} (hH : u.heap.size = H) (hcs : cs = (ints l).toArray) (hn : n = l.length) (hb : base ≤ H) (hm : n ≤ maxLen) : (u.alloc (.cells cs 3)).ownsRow base 3 1 (.slice (some ⟨H, 0, none⟩) n n) l.length (ints l) := by
  subst hH
  subst hcs
  subst hn
  have h := World.ownsRow_lit (e := 3) (size := 1) (base := base) u (ints l).toArray l.length hb hm (by simp [ints_len])
  simpa using h
set_option maxRecDepth 100000 in
set_option maxHeartbeats 20000000 in
theorem walk (a0 : Int) (a1 : Int) (w : World) (w0 : (Lit.int .i64 a0).wf = true) (w1 : (Lit.int .i64 a1).wf = true) (ld : Ld w) :
    Calls Tryz.prog 7 #[.int .i64 a0, .int .i64 a1] w fun e w' => e = .returned (.bool true) ∧ Below w.heap.size w w' := by
  have LD0 := hid ld
  clear ld
  obtain ⟨i0, hi, hz0, hz1, hz2⟩ := info_parts Tryz.infoFrame
  go_enter Tryz.func7, Tryz.ntmps7
  go_wp2_with fail
  refine (awake6_any _ LD0.out).mono ?_
  rintro e u1 ⟨rfl, b1⟩
  have ha := and15 a0
  have B1 := hid b1
  clear b1
  go_wp2_with fail
  refine (small6_any 1 1 _ 3 3 deepC _ (by have h := allocs_inss u1 [.cells (flat2 deepC).toArray 60] 0 deepC 60 rfl (by decide); exact h)).mono ?_
  rintro e u2 ⟨pv, pn, pc, rfl, pf, b2⟩
  have B2 : Hid (Below w.heap.size w u2) := hid (kt (kt B1.out (Below.alloc (Below.refl _ _) (Nat.le_refl _) _)) b2)
  have PF := hid pf
  clear pf b2
  go_wp2_with (first | (go_at_call 25; refine (refWrap_any _ _).mono ?_; rintro e w' ⟨rfl, hw⟩; rw [hw]; clear hw))
  have hv := num_wrap a1
  generalize wrap32 a1 = v at hv ⊢
  obtain ⟨m, hm⟩ : ∃ m : Nat, a0 % 16 = m := ⟨(a0 % 16).toNat, by omega⟩
  have hm15 : m ≤ 15 := by omega
  rw [hm]
  clear ha hm
  have HV := hid hv
  clear hv
  have U0 : Hid (∃ U : World, U = (u2.alloc (.cells #[.slice pv pn pc] 24)).alloc (.cells #[.slice none 0 0, .int .i64 3, .slice none 0 0, .int .i64 0, .int .i64 0] 30)) := hid ⟨_, rfl⟩
  obtain ⟨U, hU⟩ := U0.out
  have BU : Hid (Below u2.heap.size u2 U) := hid (by rw [hU]; exact Below.alloc (Below.alloc (Below.refl _ _) (Nat.le_refl _) _) (by simp) _)
  have PC : Hid (U.cell? ⟨u2.heap.size, 0, none⟩ = some (.slice pv pn pc)) := hid (by rw [hU]; simp [go_sem])
  have X0 : Hid (SX U (u2.heap.size + 1) (.slice none 0 0) 3 (.slice none 0 0) 0 0) := hid (by rw [hU]; exact ⟨by simp [go_sem], by simp [go_sem], by simp [go_sem], by simp [go_sem], by simp [go_sem], by simp [go_sem], by simp [go_sem]⟩)
  have EU := hid hU
  clear hU U0
  rw [← EU.out]
  go_loopw [9] (fun i wr => ∃ q : Nat, q ≤ m ∧ i = .int .i64 q ∧ wr.cell? ⟨u2.heap.size, 0, none⟩ = some (.slice pv pn pc) ∧ (∃ va vn vc, SX wr (u2.heap.size + 1) (.slice va vn vc) 3 (.slice none 0 0) 0 0 ∧ OwnFrs 3 27 wr (u2.heap.size + 2) (.slice va vn vc) (List.replicate q (0, 2, [v], []))) ∧ Below u2.heap.size u2 wr) (fun i _ => m - (intOf i).toNat)
  case atStart => exact ⟨0, Nat.zero_le _, rfl, PC.out, ⟨_, _, _, X0.out, OwnFrs.nil _ _ _ _⟩, BU.out⟩
  case round =>
    clear PC X0 BU EU
    obtain ⟨q, hq, rfl, g0, ⟨va, vn, vc, sx, ho⟩, hb⟩ := hrel
    obtain ⟨t, ht1, ht2, ht3⟩ := ho
    rw [List.length_replicate] at ht1 ht2 ht3
    have HT1 := hid ht1
    have HT2 := hid ht2
    have HT3 := hid ht3
    have SXh := hid sx
    have hsz := lt_of_cell sx.c0
    have s0 := sx.c0
    have nb : Hid (∀ b, b < u2.heap.size + 2 → ¬ (Value.slice va vn vc).ownBlock = some b) := hid (fun b hb h => by have := (HT2.out.lt _ h).1; omega)
    clear ht1 ht2 ht3 sx
    by_cases hlt : q < m
    · have B5 : Hid (Below wr.heap.size wr ((wr.alloc (.cells #[.int .i64 v] 3)).alloc (.cells #[.int .i64 0, .int .i64 2, .slice (some ⟨wr.heap.size, 0, none⟩) 1 1, .slice none 0 0] 27))) := hid (Below.alloc (Below.alloc (Below.refl _ _) (Nat.le_refl _) _) (by simp) _)
      have O5 : Hid ((wr.alloc (.cells #[.int .i64 v] 3)).ownsRow (u2.heap.size + 2) 3 1 (.slice (some ⟨wr.heap.size, 0, none⟩) 1 1) [v].length (ints [v])) := hid (owns_new rfl rfl rfl (by omega) (by simp [maxLen]))
      go_wp2_with (at_builtin; go_must ((refine wpList_append_lies _ rfl _ _ 28 rfl (u2.heap.size + 2) 27 i0 (.agg #[.int .i64 0, .int .i64 0, .slice none 0 0, .slice none 0 0]) 4 64 Tryz.underlying28 hi hz0 hz1 hz2 rfl (by decide) (.slice va vn vc) q (flat4 t) rfl (owns_kept HT2.out B5.out) ⟨wr.heap.size + 1, 0, none⟩ 1 1 [.int .i64 0, .int .i64 2, .slice (some ⟨wr.heap.size, 0, none⟩) 1 1, .slice none 0 0] rfl rfl (news_of (by simp) _ 27) (by intro u hu; simp at hu; rcases hu with rfl | rfl | rfl | rfl <;> rfl) (by decide) (by unfold maxLen; omega) (by omega) (by simp; omega) (wr.heap.size + 1 + 1) (by simp) ?_; intro g cap w6 ho6 hg6 hat hlt6; have fr6 : Frm (fun k => (Value.slice va vn vc).ownBlock = some k) ((wr.alloc (.cells #[.int .i64 v] 3)).alloc (.cells #[.int .i64 0, .int .i64 2, .slice (some ⟨wr.heap.size, 0, none⟩) 1 1, .slice none 0 0] 27)) w6 := Frm.of_grown hg6 (fun k h => h); have sx6 := (SXh.out.kept B5.out).frm fr6 (nb.out _ (by omega)); have z0 := sx6.c0; have zf := sx6.f0; have P := hid (And.intro ho6 (And.intro hg6 (And.intro fr6 sx6))); clear ho6 hg6 hat hlt6 fr6 sx6)))
      go_roundw
      case rel =>
        obtain ⟨p1, p2, fr6, sx6⟩ := P.out
        have fs7 : Frm (fun k => k = u2.heap.size + 1) w6 (w6.setCell ⟨u2.heap.size + 1, 0, none⟩ (.slice (some ⟨g, 0, none⟩) (q + 1) cap)) := Frm.set _ rfl
        have oB5 := owns_kept HT2.out B5.out
        refine ⟨q + 1, by omega, by go_num, fs7.cell (fr6.cell (kept_cell B5.out g0) (nb.out _ (by omega))) (by omega), ⟨_, _, _, sx6.set0 _, ?_⟩, ?_⟩
        · rw [List.replicate_succ']
          refine (OwnFrs.snoc (by decide) (by simp) HT1.out oB5 (fun i hi => ?_) (O5.out.alloc _) (by simp) (World.ownsRow_nil _ _ _ _) (by simp) p1 p2).set _ _ (by simp)
          obtain ⟨k1, k2, ⟨k3, k4⟩, k5, k6⟩ := HT3.out i hi
          exact ⟨k1, k2, ⟨k3, owns_kept k4 B5.out⟩, k5, owns_kept k6 B5.out⟩
        · exact Below.setCell (Below.grown (kt hb B5.out) p2 (by have := B5.out.size; omega) (fun k hk => by have := (oB5.lt k hk).1; omega)) (by simp) _
      case measure => simp [intOf]; omega
    · have hqm : q = m := by omega
      subst hqm
      have B5 : Hid (Below wr.heap.size wr (((wr.alloc (.cells #[.int .i64 v] 3)).alloc (.cells #[.int .i64 v] 3)).alloc (.cells #[.int .i64 0, .int .i64 1, .slice (some ⟨wr.heap.size, 0, none⟩) 1 1, .slice (some ⟨wr.heap.size + 1, 0, none⟩) 1 1] 27))) := hid (Below.alloc (Below.alloc (Below.alloc (Below.refl _ _) (Nat.le_refl _) _) (by simp) _) (by simp; omega) _)
      have O5 : Hid (((wr.alloc (.cells #[.int .i64 v] 3)).alloc (.cells #[.int .i64 v] 3)).ownsRow (u2.heap.size + 2) 3 1 (.slice (some ⟨wr.heap.size, 0, none⟩) 1 1) [v].length (ints [v])) := hid ((owns_new rfl rfl rfl (by omega) (by simp [maxLen])).alloc _)
      have O6 : Hid (((wr.alloc (.cells #[.int .i64 v] 3)).alloc (.cells #[.int .i64 v] 3)).ownsRow (u2.heap.size + 2) 3 1 (.slice (some ⟨wr.heap.size + 1, 0, none⟩) 1 1) [v].length (ints [v])) := hid (owns_new (by simp) rfl rfl (by omega) (by simp [maxLen]))
      go_wp2_with (at_builtin; go_must ((refine wpList_append_lies _ rfl _ _ 28 rfl (u2.heap.size + 2) 27 i0 (.agg #[.int .i64 0, .int .i64 0, .slice none 0 0, .slice none 0 0]) 4 64 Tryz.underlying28 hi hz0 hz1 hz2 rfl (by decide) (.slice va vn vc) q (flat4 t) rfl (owns_kept HT2.out B5.out) ⟨wr.heap.size + 1 + 1, 0, none⟩ 1 1 [.int .i64 0, .int .i64 1, .slice (some ⟨wr.heap.size, 0, none⟩) 1 1, .slice (some ⟨wr.heap.size + 1, 0, none⟩) 1 1] rfl rfl (news_of (by simp) _ 27) (by intro u hu; simp at hu; rcases hu with rfl | rfl | rfl | rfl <;> rfl) (by decide) (by unfold maxLen; omega) (by omega) (by simp; omega) (wr.heap.size + 1 + 1 + 1) (by simp) ?_; intro g cap w6 ho6 hg6 hat hlt6; have fr6 : Frm (fun k => (Value.slice va vn vc).ownBlock = some k) (((wr.alloc (.cells #[.int .i64 v] 3)).alloc (.cells #[.int .i64 v] 3)).alloc (.cells #[.int .i64 0, .int .i64 1, .slice (some ⟨wr.heap.size, 0, none⟩) 1 1, .slice (some ⟨wr.heap.size + 1, 0, none⟩) 1 1] 27)) w6 := Frm.of_grown hg6 (fun k h => h); have sx6 := (SXh.out.kept B5.out).frm fr6 (nb.out _ (by omega)); have z0 := sx6.c0; have zf := sx6.f0; have fs7 : Frm (fun k => k = u2.heap.size + 1) w6 (w6.setCell ⟨u2.heap.size + 1, 0, none⟩ (.slice (some ⟨g, 0, none⟩) (q + 1) cap)) := Frm.set _ rfl; have sx7 := sx6.set0 (.slice (some ⟨g, 0, none⟩) (q + 1) cap); have y0 := sx7.c0; have y1 := sx7.c1; have y2 := sx7.c2; have y3 := sx7.c3; have y4 := sx7.c4; have g7 := fs7.cell (fr6.cell (kept_cell B5.out g0) (nb.out _ (by omega))) (by omega); have P := hid (And.intro ho6 (And.intro hg6 (And.intro fr6 sx6))); clear ho6 hg6 hat hlt6 fr6 sx6 sx7 fs7)))
      have FF : Hid (OwnFrs 3 27 (w6.setCell ⟨u2.heap.size + 1, 0, none⟩ (.slice (some ⟨g, 0, none⟩) (q + 1) cap)) (u2.heap.size + 2) (.slice (some ⟨g, 0, none⟩) (q + 1) cap) (List.replicate q (0, 2, [v], []) ++ [(0, 1, [v], [v])])) := hid (by
        obtain ⟨p1, p2, fr6, sx6⟩ := P.out
        refine (OwnFrs.snoc (by decide) (by simp) HT1.out (owns_kept HT2.out B5.out) (fun i hi => ?_) (O5.out.alloc _) (by simp) (O6.out.alloc _) (by simp) p1 p2).set _ _ (by simp)
        obtain ⟨k1, k2, ⟨k3, k4⟩, k5, k6⟩ := HT3.out i hi
        exact ⟨k1, k2, ⟨k3, owns_kept k4 B5.out⟩, k5, owns_kept k6 B5.out⟩)
      have B7 : Hid (Below u2.heap.size u2 (w6.setCell ⟨u2.heap.size + 1, 0, none⟩ (.slice (some ⟨g, 0, none⟩) (q + 1) cap))) := hid (by
        obtain ⟨p1, p2, fr6, sx6⟩ := P.out
        exact Below.setCell (Below.grown (kt hb B5.out) p2 (by have := B5.out.size; omega) (fun k hk => by have := ((owns_kept HT2.out B5.out).lt k hk).1; omega)) (by simp) _)
      obtain ⟨_, _, _, e9, r9⟩ := FF.out.reads (by simp; omega)
      cases e9
      refine (frameState_any _ _ _ deepL _ _ _ (List.replicate q (0, 2, [v], []) ++ [(0, 1, [v], [v])]) 3 none 0 0 [] 0 0 _ (PF.out.kept B7.out) r9 (Ints.nil _) (LD0.out.up (kt B2.out B7.out))).mono ?_
      rintro e u9 ⟨rfl, b9⟩
      rw [deep_state q HV.out]
      have BF := hid (kt (kt B2.out B7.out) b9)
      clear b9 r9 y0 y1 y2 y3 y4 g7 z0 zf
      by_cases h12 : q + 1 ≤ 12
      · rw [decide_eq_true h12]
        have h12' : (1 : Int) + q ≤ 12 := by omega
        go_wp2_with fail
        go_ret
        exact ⟨rfl, BF.out⟩
      · rw [decide_eq_false h12]
        have h12' : ¬ (1 : Int) + q ≤ 12 := by omega
        go_wp2_with fail
        go_ret
        exact ⟨ret_bool (by simp; omega), BF.out⟩

set_option maxRecDepth 100000 in
theorem lifted (os : Os) (started : os.Started) (H : Type) (enc : TypeId × Value → H) :
    ReturnsInHanded {} Tryz.checked os 7 .any (fun w args => (Rows.frameDeepSpec.pre enc Tryz.prog Tryz.f7 [] false w args ∧ laidMetH Tryz.prog [("math/bits.deBruijn32tab", Rows.laid_math_bits_deBruijn32tab), ("math/bits.deBruijn64tab", Rows.laid_math_bits_deBruijn64tab), ("internal/strconv.uint64pow10", Rows.laid_internal_strconv_uint64pow10), ("errors.errorType", Rows.laid_errors_errorType), ("swage/pack.errForm", Rows.laid_swage_pack_errForm), ("swage/pack.errEnd", Rows.laid_swage_pack_errEnd)] w) ∧ sizedMet enc Tryz.prog Tryz.f7 (OpenSpec.ofChange Rows.frameDeepSpec) false w args) (Rows.frameDeepSpec.post enc Tryz.prog Tryz.f7 false true false false) := by
  refine returnsInHanded_of_change_and (C := Tryz.checked) (X := fun w _ => laidMetH Tryz.prog [("math/bits.deBruijn32tab", Rows.laid_math_bits_deBruijn32tab), ("math/bits.deBruijn64tab", Rows.laid_math_bits_deBruijn64tab), ("internal/strconv.uint64pow10", Rows.laid_internal_strconv_uint64pow10), ("errors.errorType", Rows.laid_errors_errorType), ("swage/pack.errForm", Rows.laid_swage_pack_errForm), ("swage/pack.errEnd", Rows.laid_swage_pack_errEnd)] w) (fun _ _ _ hh h => h.of_heap hh) own started (by kernel_rfl) Tryz.func7
    (ChangeSpec.witness_shaped (enc := enc) (C := Tryz.checked) (os := os) (X := fun w _ => laidMetH Tryz.prog [("math/bits.deBruijn32tab", Rows.laid_math_bits_deBruijn32tab), ("math/bits.deBruijn64tab", Rows.laid_math_bits_deBruijn64tab), ("internal/strconv.uint64pow10", Rows.laid_internal_strconv_uint64pow10), ("errors.errorType", Rows.laid_errors_errorType), ("swage/pack.errForm", Rows.laid_swage_pack_errForm), ("swage/pack.errEnd", Rows.laid_swage_pack_errEnd)] w) false (World.doorLaid Tryz.prog 400 os) #[.int .i64 0, .int .i64 0] 8 rfl (World.shaped_of_RefB (by kernel_rfl) (by kernel_rfl)) (by kernel_rfl) (by kernel_rfl) (by kernel_rfl) (door_met os _)) ?_
  intro W base args ds gs before hval0 hW hcnd hsz0 hL _
  have hval : ∀ (j : Nat) t v, Tryz.f7.params[j]? = some t → args[j]? = some v → Value.okWide Tryz.prog W .any base t v := hval0
  have hW' := hW
  obtain ⟨p, q, hA0, hV, rfl, hfz, hnd⟩ := hW
  have hA : DataW.TrodAll enc Tryz.prog W 0 (fun _ => true) true Tryz.f7.params.toList args.toList ds p := hA0
  have hsz : (DataW.weightsEach Tryz.prog (Tryz.f7.params.toList ++ Rows.frameDeepSpec.plain.varTypes Tryz.prog) (ds ++ gs)).all (· ≤ reachBytes) = true := hsz0
  rw [Tryz.params7] at hA hval hsz
  obtain ⟨v0, vs0, d0, ds0, p0, q0, hargs, rfl, rfl, h0, r0⟩ := trodAll_cons hA
  obtain ⟨v1, vs1, d1, ds1, p1, q1, rfl, rfl, rfl, h1, r1⟩ := trodAll_cons r0
  obtain ⟨rfl, rfl, rfl⟩ := trodAll_nil r1
  obtain rfl : args = #[v0, v1] := by cases args; simp_all
  obtain ⟨rfl, rfl⟩ := trodVars_none hV
  have k0 := h0
  have lt0 : ∀ x ∈ p0, x.block < W.heap.size := by obtain ⟨m, hm⟩ := k0; exact DataW.trod_lt m _ _ _ hm
  have k1 := h1
  have lt1 : ∀ x ∈ p1, x.block < W.heap.size := by obtain ⟨m, hm⟩ := k1; exact DataW.trod_lt m _ _ _ hm
  obtain ⟨a0, rfl, rfl, rfl, w0⟩ := open_int Tryz.underlying3 (hval 0 3 v0 rfl rfl) h0
  obtain ⟨a1, rfl, rfl, rfl, w1⟩ := open_int Tryz.underlying3 (hval 1 3 v1 rfl rfl) h1
  clear hA0 hval0
  refine (walk a0 a1 W w0 w1 (ld_of hL)).mono fun e W' ⟨he, bel⟩ => ?_
  subst he
  exact ⟨_, rfl, _, _, _, [], _, [], hW', trodAll_mk1 (shut_bool Tryz.underlying4 _), (trodAll_cons_mk (Below.trod laidOut (by kernel_rfl) (of_decide_eq_true (by kernel_rfl)) k0 bel lt0) (trodAll_cons_mk (Below.trod laidOut (by kernel_rfl) (of_decide_eq_true (by kernel_rfl)) k1 bel lt1) trodAll_mk0)), rfl, bel.frame _, fun h => by cases h⟩

theorem over : Rows.frameDeepRow.holds Tryz.pinned (OpenSpec.ofChange Rows.frameDeepSpec) :=
  OpenClaim.holds_of_wide 7 Tryz.f7 rfl rfl rfl rfl rfl rfl rfl ⟨rfl, rfl, rfl, rfl, rfl⟩ rfl rfl rfl rfl rfl (by kernel_rfl) Tryz.func7 (by kernel_rfl)
    (of_decide_eq_true (by kernel_rfl)) (by unfold Func.isWrapper; first | (rw [if_pos (by decide +kernel)]; kernel_rfl) | (rw [if_neg (by decide +kernel)]; exact ⟨rfl, rfl⟩))
    (fun os started H enc _ => lifted os started H enc)
end Go.Proofs.YtdaloaflmnimaaaGreatDoor.frameDeep
namespace Go.Proofs.YtdaloaflmnimaaaGreatDoor
open Go
theorem frameDeep_holds : Rows.FrameDeepCardSaid :=
  Claim7.holds_tied_plain_at .later [] [.data, .data, .data, .handle, .sentinel, .sentinel] true (true, "4f61182ebcd5d6da87617d114aceb11345d3fb13a72f1a65358a96d1375ec51d") true
    frameDeep.over (fun _ h => by cases h) (by kernel_rfl) (fun _ h => by cases h) frameDeep_row_tie rfl ⟨rfl, rfl⟩ (by kernel_rfl) rfl
    (fun f fn hf hfn => by
      obtain rfl : f = 7 := Option.some.inj ((show Tryz.prog.funcNamed "swage/swagelaw6.FrameDeep" = some 7 by kernel_rfl).symm.trans hf) |>.symm
      obtain rfl : fn = Tryz.f7 := (Option.some.inj (Tryz.func7.symm.trans hfn)).symm
      exact ⟨by kernel_rfl, fun j t ht => by
        rw [Tryz.params7] at ht
        have hm : t ∈ [3, 3] := by simpa using Array.mem_of_getElem? ht
        have hall : ([3, 3].all fun u => !Tryz.prog.wantsStandIn u) = true := by kernel_rfl
        exact (show Tryz.prog.wantsStandIn t = false by simpa using List.all_eq_true.1 hall t hm)⟩)
    (by kernel_rfl)
#print axioms frameDeep_holds
end Go.Proofs.YtdaloaflmnimaaaGreatDoor
