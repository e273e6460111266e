/- For any integer and any integers the law EvalRows returns true: by eval.Eval a row of operations upon a number comes to what plain reckoning says, or to a trap; no conditions. -/
import Derived.Test.YtbbfgdkjgolieabGreatDoorRows
import Derived.WalkKit
import Derived.ProofKit
import Derived.OpenShut
import Derived.ShutString
import Derived.ChangeOld
import Derived.Below
import Derived.Carry
import Derived.Lib.SmallJoins
import Derived.Handy
import Derived.WalkSmall
import Derived.SizedLaws
import Derived.Test.YtbbfgdkjgolieabGreatDoorOpenInts
import Derived.Test.YtbbfgdkjgolieabGreatDoorLaidOpenV
import Derived.Test.YtbbfgdkjgolieabGreatDoorCards
import Derived.Test.YtbbfgdkjgolieabGreatDoorTie
import Derived.SevenTiedAt
import Derived.LaidMore
import Derived.Stop.Joined
import Derived.Test.YtbbfgdkjgolieabGreatDoorJ8
import Derived.Test.YtbbfgdkjgolieabGreatDoorPlainRows
import Derived.Test.YtbbfgdkjgolieabGreatDoorRefDo
namespace Go.Proofs.YtbbfgdkjgolieabGreatDoor.evalRows
open Go.ChangeShapes Go.WideShapes Go.ChangeAt Go.RowKit
open Go.ChangeMaps (open_string shut_string)
set_option linter.unusedVariables false

theorem own : ownKnob Tryz.prog.godebug = none := by kernel_rfl
theorem laidOut : laidOutB Tryz.prog = true := by kernel_rfl

theorem and15 (n : Int) : bits .and .i64 n 15 = n % 16 := by
  have hm : (BitVec.ofInt 64 15).toNat = 2 ^ 4 - 1 := by decide
  show IntKind.i64.wrap ((BitVec.ofInt 64 n &&& BitVec.ofInt 64 15).toNat : Nat) = n % 16
  rw [BitVec.toNat_and, BitVec.toNat_ofInt, hm, Nat.and_two_pow_sub_one_eq_mod, IntKind.wrap_i64]
  omega
set_option maxRecDepth 100000 in
set_option maxHeartbeats 20000000 in
theorem walk (a0 : Int) (a1 : Option Addr) (n1 c1 : Nat) (l1 : List Int) (w : World) (w0 : (Lit.int .i64 a0).wf = true) (w1 : Ints w a1 n1 c1 l1) (ld : Ld w) :
    Calls Tryz.prog 6 #[.int .i64 a0, .slice a1 n1 c1] w fun e w' => e = .returned (.bool true) ∧ Below w.heap.size w w' := by
  have LD0 := hid ld
  clear ld
  obtain ⟨i0, hi, hz0, hz1, hz2⟩ := info_parts Tryz.infoIns
  have WA := hid w1
  have LA := hid w1.len
  have har := w1.room
  have hac := w1.cap
  clear w1
  go_enter Tryz.func6, Tryz.ntmps6
  go_wp2_with fail
  refine (awake8_any _ LD0.out).mono ?_
  rintro e u1 ⟨rfl, b1⟩
  have B1 := hid b1
  clear b1
  go_wp2_with (first | (go_at_call 16; refine (refWrap_any _ _).mono ?_; rintro e w' ⟨rfl, hw⟩; rw [hw]; clear hw))
  have hv := num_wrap a0
  generalize wrap32 a0 = v at hv ⊢
  have HV := hid hv
  clear hv
  obtain ⟨U, hU⟩ : ∃ U, U = u1.alloc (.cells #[.int .i64 0, .int .i64 v] 42) := ⟨_, rfl⟩
  rw [← hU]
  have BU : Hid (Below u1.heap.size u1 U) := hid (by rw [hU]; exact Below.alloc (Below.refl _ _) (Nat.le_refl _) _)
  have OU : Hid (U.ownsRow u1.heap.size 42 2 (.slice (some ⟨u1.heap.size, 0, none⟩) 1 1) 1 (flat2 (headC v []))) := hid (by rw [hU]; have := World.ownsRow_lit (e := 42) (size := 2) (base := u1.heap.size) u1 #[.int .i64 0, .int .i64 v] 1 (Nat.le_refl _) (by simp [maxLen]) rfl; exact this)
  clear hU
  go_loopw [5, 6, 7, 8, 9] (fun vv o tt cc i wr => ∃ (q : Nat) (rs : List (Int × Int)), q ≤ n1 ∧ q ≤ 25 ∧ i = .int .i64 q ∧ rs.length = q ∧ OpsOk rs ∧ vv = .int .i64 (rowsN (false, v, 1) rs).2.1 ∧ tt = .bool (rowsN (false, v, 1) rs).1 ∧ cc = .int .i64 (rowsN (false, v, 1) rs).2.2 ∧ (0 ≤ (rowsN (false, v, 1) rs).2.2 ∧ (rowsN (false, v, 1) rs).2.2 ≤ 1 + 2 * (q : Int)) ∧
      wr.ownsRow u1.heap.size 42 2 o (1 + 2 * q) (flat2 (headC v rs)) ∧ Below u1.heap.size u1 wr) (fun _ _ _ _ i _ => n1 - (intOf i).toNat)
  case atStart => exact ⟨0, [], Nat.zero_le _, Nat.zero_le _, rfl, rfl, (fun r hr => (by cases hr)), rfl, rfl, rfl, ⟨by show (0 : Int) ≤ 1; decide, by show (1 : Int) ≤ 1 + 2 * ((0 : Nat) : Int); decide⟩, OU.out, BU.out⟩
  case round =>
    obtain ⟨q, rs, hq, hq25, rfl, hrl, hro, rfl, rfl, rfl, hcb, ho, hb⟩ := hrel
    generalize hS : rowsN (false, v, 1) rs = S at hcb ⊢
    obtain ⟨t, vv, cc⟩ := S
    simp only [] at hcb ⊢
    have HS := hid hS
    have HO := hid ho
    have HB := hid hb
    clear hS ho hb
    obtain ⟨g, cp, e8, hg1, hg2⟩ := HO.out.form (by omega)
    subst e8
    by_cases hlt : q < n1
    · by_cases h25 : q < 25
      · have h25' : (q : Int) < 25 := by omega
        obtain ⟨ba, oa, rfl, hrow⟩ := WA.out.row (by omega)
        have zq := kept_cell ((B1.out.trans (HB.out.mono B1.out.size))) (hrow q hlt)
        obtain ⟨z, hz⟩ : ∃ z, l1.getD q 0 = z := ⟨_, rfl⟩
        rw [hz] at zq
        have ha := and15 z
        clear hrow hz
        obtain ⟨y, hy⟩ : ∃ y, z % 16 = y := ⟨_, rfl⟩
        have hyb : 0 ≤ y ∧ y ≤ 15 := by omega
        rw [hy] at ha
        clear hy
        obtain ⟨r, hr⟩ : ∃ r, (IntKind.u64.wrap (z / 16)).tmod 7 = r := ⟨_, rfl⟩
        have hrb : 0 ≤ r ∧ r ≤ 6 := by have := umod_bd (z / 16) 7 (by decide); rw [hr] at this; omega
        have hnum : isNum (y - 4) = true := by simp [isNum]; omega
        have hnews := World.news_of_block (heap_alloc_new wr (.cells #[.int .i64 0, .int .i64 (y - 4), .int .i64 (3 + r), .int .i64 0] 42))
        have hro' : OpsOk (rs ++ [(3 + r, y - 4)]) := fun p hp => by
          rcases List.mem_append.1 hp with hp | hp
          · exact hro p hp
          · simp at hp; rw [hp]; exact ⟨by show 3 ≤ 3 + r; omega, by show 3 + r ≤ 9; omega, hnum⟩
        have HRO := hid hro'
        have hus := HB.out.size
        have hcb2 := hcb.2
        clear hro' hnum
        cases t with
        | true =>
          go_wp2_with (at_builtin; go_must ((refine wpList_append_lies _ rfl _ _ 43 rfl u1.heap.size 42 i0 (.agg #[.int .i64 0, .int .i64 0]) 2 16 Tryz.underlying43 hi hz0 hz1 hz2 rfl (by decide) (.slice (some ⟨g, 0, none⟩) (1 + 2 * q) cp) (1 + 2 * q) (flat2 (headC v rs)) rfl (HO.out.alloc _) ⟨wr.heap.size, 0, none⟩ 2 2 [.int .i64 0, .int .i64 (y - 4), .int .i64 (3 + r), .int .i64 0] rfl rfl hnews (by intro u hu; simp at hu; rcases hu with rfl | rfl | rfl | rfl <;> rfl) (by decide) (by unfold maxLen; omega) (by omega) (by simp; omega) (wr.heap.size + 1) (by simp) ?_; intro g' cap' w6 ho6 hg6 hat hlt6; have P := hid (And.intro ho6 hg6); clear ho6 hg6 hat hlt6)))
          go_roundw
          case rel =>
            obtain ⟨p1, p2⟩ := P.out
            have fr6 : Frm (fun b => (Value.slice (some ⟨g, 0, none⟩) (1 + 2 * q) cp).ownBlock = some b) (wr.alloc (.cells #[.int .i64 0, .int .i64 (y - 4), .int .i64 (3 + r), .int .i64 0] 42)) w6 := Frm.of_grown p2 (fun k hk => hk)
            refine ⟨q + 1, rs ++ [(3 + r, y - 4)], by omega, by omega, by go_num, by simp [hrl], HRO.out, ?_, ?_, ?_, ?_, ?_, ?_⟩
            · rw [rowsN_snoc, HS.out]; rfl
            · rw [rowsN_snoc, HS.out]; rfl
            · rw [rowsN_snoc, HS.out]; rfl
            · rw [rowsN_snoc, HS.out]; exact ⟨hcb.1, by show cc ≤ 1 + 2 * ((q + 1 : Nat) : Int); omega⟩
            · rw [headC_snoc, flat2_app, show 1 + 2 * (q + 1) = 1 + 2 * q + 2 by omega]; exact p1
            · exact Below.trans (kt HB.out (Below.alloc (Below.refl _ _) (Nat.le_refl _) _)) (fr6.below (by simp; omega) (fun b hb e => by have e' : g = b := Option.some.inj e; omega))
          case measure => simp [intOf] <;> omega
        | false =>
          go_wp2_with (first | (at_builtin; refine wpList_append_lies _ rfl _ _ 43 rfl u1.heap.size 42 i0 (.agg #[.int .i64 0, .int .i64 0]) 2 16 Tryz.underlying43 hi hz0 hz1 hz2 rfl (by decide) (.slice (some ⟨g, 0, none⟩) (1 + 2 * q) cp) (1 + 2 * q) (flat2 (headC v rs)) rfl (HO.out.alloc _) ⟨wr.heap.size, 0, none⟩ 2 2 [.int .i64 0, .int .i64 (y - 4), .int .i64 (3 + r), .int .i64 0] rfl rfl hnews (by intro u hu; simp at hu; rcases hu with rfl | rfl | rfl | rfl <;> rfl) (by decide) (by unfold maxLen; omega) (by omega) (by simp; omega) (wr.heap.size + 1) (by simp) ?_; intro g' cap' w6 ho6 hg6 hat hlt6; have P := hid (And.intro ho6 hg6); clear ho6 hg6 hat hlt6) | (go_at_call 17; refine (refDo_any _ _ _ _).mono ?_; rintro e w' ⟨rfl, hw⟩; rw [hw]; clear hw))
          go_roundw
          case rel =>
            obtain ⟨p1, p2⟩ := P.out
            have fr6 : Frm (fun b => (Value.slice (some ⟨g, 0, none⟩) (1 + 2 * q) cp).ownBlock = some b) (wr.alloc (.cells #[.int .i64 0, .int .i64 (y - 4), .int .i64 (3 + r), .int .i64 0] 42)) w6 := Frm.of_grown p2 (fun k hk => hk)
            refine ⟨q + 1, rs ++ [(3 + r, y - 4)], by omega, by omega, by go_num, by simp [hrl], HRO.out, ?_, ?_, ?_, ?_, ?_, ?_⟩
            · rw [rowsN_snoc, HS.out]; rfl
            · rw [rowsN_snoc, HS.out]; rfl
            · rw [rowsN_snoc, HS.out]; rfl
            · rw [rowsN_snoc, HS.out]; exact ⟨by show 0 ≤ cc + 2; omega, by show cc + 2 ≤ 1 + 2 * ((q + 1 : Nat) : Int); omega⟩
            · rw [headC_snoc, flat2_app, show 1 + 2 * (q + 1) = 1 + 2 * q + 2 by omega]; exact p1
            · exact Below.trans (kt HB.out (Below.alloc (Below.refl _ _) (Nat.le_refl _) _)) (fr6.below (by simp; omega) (fun b hb e => by have e' : g = b := Option.some.inj e; omega))
          case measure => simp [intOf] <;> omega
      · have h25' : ¬ (q : Int) < 25 := by omega
        obtain ⟨hE, hR⟩ := rows_eval HV.out hro (by omega : rs.length ≤ 25)
        rw [HS.out] at hR
        have hcb2 := hcb.2
        have hnews := World.news_of_block (heap_alloc_new wr (.cells #[.int .i64 16, .int .i64 0] 42))
        have hus := HB.out.size
        cases t with
        | true =>
          have HE := hid (And.intro hE (show evalR [(0, 0, rowsC v rs)] [] 200 = (2, 0, [], 200 - cc) from hR))
          clear hE hR
          go_wp2_with (at_builtin; go_must ((refine wpList_append_lies _ rfl _ _ 43 rfl u1.heap.size 42 i0 (.agg #[.int .i64 0, .int .i64 0]) 2 16 Tryz.underlying43 hi hz0 hz1 hz2 rfl (by decide) (.slice (some ⟨g, 0, none⟩) (1 + 2 * q) cp) (1 + 2 * q) (flat2 (headC v rs)) rfl (HO.out.alloc _) ⟨wr.heap.size, 0, none⟩ 1 1 [.int .i64 16, .int .i64 0] rfl rfl hnews (by intro u hu; simp at hu; rcases hu with rfl | rfl <;> rfl) (by decide) (by unfold maxLen; omega) (by omega) (by simp; omega) (wr.heap.size + 1) (by simp) ?_; intro g' cap' w6 ho6 hg6 hat hlt6; have P := hid (And.intro ho6 hg6); clear ho6 hg6 hat hlt6)))
          have P6 : Hid ((∃ na nn nc, (Value.slice (some ⟨g', 0, none⟩) (1 + 2 * q + 1) cap') = .slice na nn nc ∧ Inss w6 na nn nc (rowsC v rs)) ∧ Below u1.heap.size u1 w6) := hid (by
            obtain ⟨p1, p2⟩ := P.out
            have el : (rowsC v rs).length = 1 + 2 * q + 1 := by rw [rowsC_len, hrl]; omega
            refine ⟨?_, ?_⟩
            · have h := inss_of_owns (l := rowsC v rs) (by rw [el, rowsC_eq, flat2_app]; exact p1) (by rw [el]; omega)
              exact h
            · have fr6 : Frm (fun b => (Value.slice (some ⟨g, 0, none⟩) (1 + 2 * q) cp).ownBlock = some b) (wr.alloc (.cells #[.int .i64 16, .int .i64 0] 42)) w6 := Frm.of_grown p2 (fun k hk => hk)
              exact Below.trans (kt HB.out (Below.alloc (Below.refl _ _) (Nat.le_refl _) _)) (fr6.below (by simp; omega) (fun b hb e => by have e' : g = b := Option.some.inj e; omega)))
          obtain ⟨⟨_, _, _, e6, I6⟩, B6⟩ := P6.out
          cases e6
          have D6 := hid B6
          refine (small8_any 0 0 _ _ _ (rowsC v rs) _ I6).mono ?_
          rintro e u2 ⟨pv, pn, pc, rfl, pf, b2⟩
          have B2 := hid (kt (kt B1.out D6.out) b2)
          have PF := hid pf
          clear pf b2 I6 B6
          go_wp2_with fail
          refine (eval_read _ _ _ [(0, 0, rowsC v rs)] none 0 0 [] 200 2 0 [] (200 - cc) 0 _ HE.out.2 HE.out.1 PF.out (Ints.nil _) (LD0.out.up B2.out)).mono ?_
          rintro e u3 ⟨ra, rn, rc, rfl, o3, b3⟩
          have hA : Below u3.heap.size u3 (u3.alloc (.cells #[.int .i64 2, .int .i64 0, .slice ra rn rc, .int .i64 (200 - cc)] 34)) := Below.alloc (Below.refl _ _) (Nat.le_refl _) _
          have B3 := hid (kt B2.out (kt b3 hA))
          have O3 := hid (o3.kept hA)
          have X3 : RX (u3.alloc (.cells #[.int .i64 2, .int .i64 0, .slice ra rn rc, .int .i64 (200 - cc)] 34)) u3.heap.size 2 0 (.slice ra rn rc) (200 - cc) := ⟨by simp [go_sem], by simp [go_sem], by simp [go_sem], by simp [go_sem]⟩
          obtain ⟨m0, m1, m2, m3⟩ := X3
          clear o3 b3 hA
          go_wp2_with (go_at_call 12; refine (num_any _ _).mono ?_; rintro e x ⟨rfl, hw⟩; rw [hw]; clear hw)
          refine (sameResult_any 2 0 _ _ _ [] (200 - cc) 2 0 none 0 0 [] (200 - cc) _ O3.out (Ints.nil _)).mono ?_
          rintro e u5 ⟨rfl, b5⟩
          rw [sameR_self]
          have B5 := hid (kt B3.out b5)
          clear b5
          go_wp2_with fail
          go_ret
          exact ⟨rfl, B5.out⟩
        | false =>
          have HE := hid (And.intro hE (show evalR [(0, 0, rowsC v rs)] [] 200 = (1, vv, [], 200 - cc - 1) from hR))
          clear hE hR
          go_wp2_with (at_builtin; go_must ((refine wpList_append_lies _ rfl _ _ 43 rfl u1.heap.size 42 i0 (.agg #[.int .i64 0, .int .i64 0]) 2 16 Tryz.underlying43 hi hz0 hz1 hz2 rfl (by decide) (.slice (some ⟨g, 0, none⟩) (1 + 2 * q) cp) (1 + 2 * q) (flat2 (headC v rs)) rfl (HO.out.alloc _) ⟨wr.heap.size, 0, none⟩ 1 1 [.int .i64 16, .int .i64 0] rfl rfl hnews (by intro u hu; simp at hu; rcases hu with rfl | rfl <;> rfl) (by decide) (by unfold maxLen; omega) (by omega) (by simp; omega) (wr.heap.size + 1) (by simp) ?_; intro g' cap' w6 ho6 hg6 hat hlt6; have P := hid (And.intro ho6 hg6); clear ho6 hg6 hat hlt6)))
          have P6 : Hid ((∃ na nn nc, (Value.slice (some ⟨g', 0, none⟩) (1 + 2 * q + 1) cap') = .slice na nn nc ∧ Inss w6 na nn nc (rowsC v rs)) ∧ Below u1.heap.size u1 w6) := hid (by
            obtain ⟨p1, p2⟩ := P.out
            have el : (rowsC v rs).length = 1 + 2 * q + 1 := by rw [rowsC_len, hrl]; omega
            refine ⟨?_, ?_⟩
            · have h := inss_of_owns (l := rowsC v rs) (by rw [el, rowsC_eq, flat2_app]; exact p1) (by rw [el]; omega)
              exact h
            · have fr6 : Frm (fun b => (Value.slice (some ⟨g, 0, none⟩) (1 + 2 * q) cp).ownBlock = some b) (wr.alloc (.cells #[.int .i64 16, .int .i64 0] 42)) w6 := Frm.of_grown p2 (fun k hk => hk)
              exact Below.trans (kt HB.out (Below.alloc (Below.refl _ _) (Nat.le_refl _) _)) (fr6.below (by simp; omega) (fun b hb e => by have e' : g = b := Option.some.inj e; omega)))
          obtain ⟨⟨_, _, _, e6, I6⟩, B6⟩ := P6.out
          cases e6
          have D6 := hid B6
          refine (small8_any 0 0 _ _ _ (rowsC v rs) _ I6).mono ?_
          rintro e u2 ⟨pv, pn, pc, rfl, pf, b2⟩
          have B2 := hid (kt (kt B1.out D6.out) b2)
          have PF := hid pf
          clear pf b2 I6 B6
          go_wp2_with fail
          refine (eval_read _ _ _ [(0, 0, rowsC v rs)] none 0 0 [] 200 1 vv [] (200 - cc - 1) 0 _ HE.out.2 HE.out.1 PF.out (Ints.nil _) (LD0.out.up B2.out)).mono ?_
          rintro e u3 ⟨ra, rn, rc, rfl, o3, b3⟩
          have hA : Below u3.heap.size u3 (u3.alloc (.cells #[.int .i64 1, .int .i64 vv, .slice ra rn rc, .int .i64 (200 - cc - 1)] 34)) := Below.alloc (Below.refl _ _) (Nat.le_refl _) _
          have B3 := hid (kt B2.out (kt b3 hA))
          have O3 := hid (o3.kept hA)
          have X3 : RX (u3.alloc (.cells #[.int .i64 1, .int .i64 vv, .slice ra rn rc, .int .i64 (200 - cc - 1)] 34)) u3.heap.size 1 vv (.slice ra rn rc) (200 - cc - 1) := ⟨by simp [go_sem], by simp [go_sem], by simp [go_sem], by simp [go_sem]⟩
          obtain ⟨m0, m1, m2, m3⟩ := X3
          clear o3 b3 hA
          go_wp2_with (go_at_call 12; refine (num_any _ _).mono ?_; rintro e x ⟨rfl, hw⟩; rw [hw]; clear hw)
          refine (sameResult_any 1 vv _ _ _ [] (200 - cc - 1) 1 vv none 0 0 [] (200 - cc - 1) _ O3.out (Ints.nil _)).mono ?_
          rintro e u5 ⟨rfl, b5⟩
          rw [sameR_self]
          have B5 := hid (kt B3.out b5)
          clear b5
          go_wp2_with fail
          go_ret
          exact ⟨rfl, B5.out⟩

    · have hqn : ¬ (q : Int) < (n1 : Int) := by omega
      obtain ⟨hE, hR⟩ := rows_eval HV.out hro (by omega : rs.length ≤ 25)
      rw [HS.out] at hR
      have hcb2 := hcb.2
      have hnews := World.news_of_block (heap_alloc_new wr (.cells #[.int .i64 16, .int .i64 0] 42))
      have hus := HB.out.size
      cases t with
      | true =>
        have HE := hid (And.intro hE (show evalR [(0, 0, rowsC v rs)] [] 200 = (2, 0, [], 200 - cc) from hR))
        clear hE hR
        go_wp2_with (at_builtin; go_must ((refine wpList_append_lies _ rfl _ _ 43 rfl u1.heap.size 42 i0 (.agg #[.int .i64 0, .int .i64 0]) 2 16 Tryz.underlying43 hi hz0 hz1 hz2 rfl (by decide) (.slice (some ⟨g, 0, none⟩) (1 + 2 * q) cp) (1 + 2 * q) (flat2 (headC v rs)) rfl (HO.out.alloc _) ⟨wr.heap.size, 0, none⟩ 1 1 [.int .i64 16, .int .i64 0] rfl rfl hnews (by intro u hu; simp at hu; rcases hu with rfl | rfl <;> rfl) (by decide) (by unfold maxLen; omega) (by omega) (by simp; omega) (wr.heap.size + 1) (by simp) ?_; intro g' cap' w6 ho6 hg6 hat hlt6; have P := hid (And.intro ho6 hg6); clear ho6 hg6 hat hlt6)))
        have P6 : Hid ((∃ na nn nc, (Value.slice (some ⟨g', 0, none⟩) (1 + 2 * q + 1) cap') = .slice na nn nc ∧ Inss w6 na nn nc (rowsC v rs)) ∧ Below u1.heap.size u1 w6) := hid (by
          obtain ⟨p1, p2⟩ := P.out
          have el : (rowsC v rs).length = 1 + 2 * q + 1 := by rw [rowsC_len, hrl]; omega
          refine ⟨?_, ?_⟩
          · have h := inss_of_owns (l := rowsC v rs) (by rw [el, rowsC_eq, flat2_app]; exact p1) (by rw [el]; omega)
            exact h
          · have fr6 : Frm (fun b => (Value.slice (some ⟨g, 0, none⟩) (1 + 2 * q) cp).ownBlock = some b) (wr.alloc (.cells #[.int .i64 16, .int .i64 0] 42)) w6 := Frm.of_grown p2 (fun k hk => hk)
            exact Below.trans (kt HB.out (Below.alloc (Below.refl _ _) (Nat.le_refl _) _)) (fr6.below (by simp; omega) (fun b hb e => by have e' : g = b := Option.some.inj e; omega)))
        obtain ⟨⟨_, _, _, e6, I6⟩, B6⟩ := P6.out
        cases e6
        have D6 := hid B6
        refine (small8_any 0 0 _ _ _ (rowsC v rs) _ I6).mono ?_
        rintro e u2 ⟨pv, pn, pc, rfl, pf, b2⟩
        have B2 := hid (kt (kt B1.out D6.out) b2)
        have PF := hid pf
        clear pf b2 I6 B6
        go_wp2_with fail
        refine (eval_read _ _ _ [(0, 0, rowsC v rs)] none 0 0 [] 200 2 0 [] (200 - cc) 0 _ HE.out.2 HE.out.1 PF.out (Ints.nil _) (LD0.out.up B2.out)).mono ?_
        rintro e u3 ⟨ra, rn, rc, rfl, o3, b3⟩
        have hA : Below u3.heap.size u3 (u3.alloc (.cells #[.int .i64 2, .int .i64 0, .slice ra rn rc, .int .i64 (200 - cc)] 34)) := Below.alloc (Below.refl _ _) (Nat.le_refl _) _
        have B3 := hid (kt B2.out (kt b3 hA))
        have O3 := hid (o3.kept hA)
        have X3 : RX (u3.alloc (.cells #[.int .i64 2, .int .i64 0, .slice ra rn rc, .int .i64 (200 - cc)] 34)) u3.heap.size 2 0 (.slice ra rn rc) (200 - cc) := ⟨by simp [go_sem], by simp [go_sem], by simp [go_sem], by simp [go_sem]⟩
        obtain ⟨m0, m1, m2, m3⟩ := X3
        clear o3 b3 hA
        go_wp2_with (go_at_call 12; refine (num_any _ _).mono ?_; rintro e x ⟨rfl, hw⟩; rw [hw]; clear hw)
        refine (sameResult_any 2 0 _ _ _ [] (200 - cc) 2 0 none 0 0 [] (200 - cc) _ O3.out (Ints.nil _)).mono ?_
        rintro e u5 ⟨rfl, b5⟩
        rw [sameR_self]
        have B5 := hid (kt B3.out b5)
        clear b5
        go_wp2_with fail
        go_ret
        exact ⟨rfl, B5.out⟩
      | false =>
        have HE := hid (And.intro hE (show evalR [(0, 0, rowsC v rs)] [] 200 = (1, vv, [], 200 - cc - 1) from hR))
        clear hE hR
        go_wp2_with (at_builtin; go_must ((refine wpList_append_lies _ rfl _ _ 43 rfl u1.heap.size 42 i0 (.agg #[.int .i64 0, .int .i64 0]) 2 16 Tryz.underlying43 hi hz0 hz1 hz2 rfl (by decide) (.slice (some ⟨g, 0, none⟩) (1 + 2 * q) cp) (1 + 2 * q) (flat2 (headC v rs)) rfl (HO.out.alloc _) ⟨wr.heap.size, 0, none⟩ 1 1 [.int .i64 16, .int .i64 0] rfl rfl hnews (by intro u hu; simp at hu; rcases hu with rfl | rfl <;> rfl) (by decide) (by unfold maxLen; omega) (by omega) (by simp; omega) (wr.heap.size + 1) (by simp) ?_; intro g' cap' w6 ho6 hg6 hat hlt6; have P := hid (And.intro ho6 hg6); clear ho6 hg6 hat hlt6)))
        have P6 : Hid ((∃ na nn nc, (Value.slice (some ⟨g', 0, none⟩) (1 + 2 * q + 1) cap') = .slice na nn nc ∧ Inss w6 na nn nc (rowsC v rs)) ∧ Below u1.heap.size u1 w6) := hid (by
          obtain ⟨p1, p2⟩ := P.out
          have el : (rowsC v rs).length = 1 + 2 * q + 1 := by rw [rowsC_len, hrl]; omega
          refine ⟨?_, ?_⟩
          · have h := inss_of_owns (l := rowsC v rs) (by rw [el, rowsC_eq, flat2_app]; exact p1) (by rw [el]; omega)
            exact h
          · have fr6 : Frm (fun b => (Value.slice (some ⟨g, 0, none⟩) (1 + 2 * q) cp).ownBlock = some b) (wr.alloc (.cells #[.int .i64 16, .int .i64 0] 42)) w6 := Frm.of_grown p2 (fun k hk => hk)
            exact Below.trans (kt HB.out (Below.alloc (Below.refl _ _) (Nat.le_refl _) _)) (fr6.below (by simp; omega) (fun b hb e => by have e' : g = b := Option.some.inj e; omega)))
        obtain ⟨⟨_, _, _, e6, I6⟩, B6⟩ := P6.out
        cases e6
        have D6 := hid B6
        refine (small8_any 0 0 _ _ _ (rowsC v rs) _ I6).mono ?_
        rintro e u2 ⟨pv, pn, pc, rfl, pf, b2⟩
        have B2 := hid (kt (kt B1.out D6.out) b2)
        have PF := hid pf
        clear pf b2 I6 B6
        go_wp2_with fail
        refine (eval_read _ _ _ [(0, 0, rowsC v rs)] none 0 0 [] 200 1 vv [] (200 - cc - 1) 0 _ HE.out.2 HE.out.1 PF.out (Ints.nil _) (LD0.out.up B2.out)).mono ?_
        rintro e u3 ⟨ra, rn, rc, rfl, o3, b3⟩
        have hA : Below u3.heap.size u3 (u3.alloc (.cells #[.int .i64 1, .int .i64 vv, .slice ra rn rc, .int .i64 (200 - cc - 1)] 34)) := Below.alloc (Below.refl _ _) (Nat.le_refl _) _
        have B3 := hid (kt B2.out (kt b3 hA))
        have O3 := hid (o3.kept hA)
        have X3 : RX (u3.alloc (.cells #[.int .i64 1, .int .i64 vv, .slice ra rn rc, .int .i64 (200 - cc - 1)] 34)) u3.heap.size 1 vv (.slice ra rn rc) (200 - cc - 1) := ⟨by simp [go_sem], by simp [go_sem], by simp [go_sem], by simp [go_sem]⟩
        obtain ⟨m0, m1, m2, m3⟩ := X3
        clear o3 b3 hA
        go_wp2_with (go_at_call 12; refine (num_any _ _).mono ?_; rintro e x ⟨rfl, hw⟩; rw [hw]; clear hw)
        refine (sameResult_any 1 vv _ _ _ [] (200 - cc - 1) 1 vv none 0 0 [] (200 - cc - 1) _ O3.out (Ints.nil _)).mono ?_
        rintro e u5 ⟨rfl, b5⟩
        rw [sameR_self]
        have B5 := hid (kt B3.out b5)
        clear b5
        go_wp2_with fail
        go_ret
        exact ⟨rfl, B5.out⟩

set_option maxRecDepth 100000 in
theorem lifted (os : Os) (started : os.Started) (H : Type) (enc : TypeId × Value → H) :
    ReturnsInHanded {} Tryz.checked os 6 .any (fun w args => (Rows.evalRowsSpec.pre enc Tryz.prog Tryz.f6 [] false w args ∧ laidMetH Tryz.prog [("math/bits.deBruijn32tab", Rows.laid_math_bits_deBruijn32tab), ("math/bits.deBruijn64tab", Rows.laid_math_bits_deBruijn64tab), ("internal/strconv.uint64pow10", Rows.laid_internal_strconv_uint64pow10), ("errors.errorType", Rows.laid_errors_errorType), ("swage/pack.errForm", Rows.laid_swage_pack_errForm), ("swage/pack.errEnd", Rows.laid_swage_pack_errEnd)] w) ∧ sizedMet enc Tryz.prog Tryz.f6 (OpenSpec.ofChange Rows.evalRowsSpec) false w args) (Rows.evalRowsSpec.post enc Tryz.prog Tryz.f6 false true false false) := by
  refine returnsInHanded_of_change_and (C := Tryz.checked) (X := fun w _ => laidMetH Tryz.prog [("math/bits.deBruijn32tab", Rows.laid_math_bits_deBruijn32tab), ("math/bits.deBruijn64tab", Rows.laid_math_bits_deBruijn64tab), ("internal/strconv.uint64pow10", Rows.laid_internal_strconv_uint64pow10), ("errors.errorType", Rows.laid_errors_errorType), ("swage/pack.errForm", Rows.laid_swage_pack_errForm), ("swage/pack.errEnd", Rows.laid_swage_pack_errEnd)] w) (fun _ _ _ hh h => h.of_heap hh) own started (by kernel_rfl) Tryz.func6
    (ChangeSpec.witness_shaped (enc := enc) (C := Tryz.checked) (os := os) (X := fun w _ => laidMetH Tryz.prog [("math/bits.deBruijn32tab", Rows.laid_math_bits_deBruijn32tab), ("math/bits.deBruijn64tab", Rows.laid_math_bits_deBruijn64tab), ("internal/strconv.uint64pow10", Rows.laid_internal_strconv_uint64pow10), ("errors.errorType", Rows.laid_errors_errorType), ("swage/pack.errForm", Rows.laid_swage_pack_errForm), ("swage/pack.errEnd", Rows.laid_swage_pack_errEnd)] w) false (World.doorLaid Tryz.prog 400 os) #[.int .i64 0, .slice none 0 0] 8 rfl (World.shaped_of_RefB (by kernel_rfl) (by kernel_rfl)) (by kernel_rfl) (by kernel_rfl) (by kernel_rfl) (door_met os _)) ?_
  intro W base args ds gs before hval0 hW hcnd hsz0 hL _
  have hval : ∀ (j : Nat) t v, Tryz.f6.params[j]? = some t → args[j]? = some v → Value.okWide Tryz.prog W .any base t v := hval0
  have hW' := hW
  obtain ⟨p, q, hA0, hV, rfl, hfz, hnd⟩ := hW
  have hA : DataW.TrodAll enc Tryz.prog W 0 (fun _ => true) true Tryz.f6.params.toList args.toList ds p := hA0
  have hsz : (DataW.weightsEach Tryz.prog (Tryz.f6.params.toList ++ Rows.evalRowsSpec.plain.varTypes Tryz.prog) (ds ++ gs)).all (· ≤ reachBytes) = true := hsz0
  rw [Tryz.params6] at hA hval hsz
  obtain ⟨v0, vs0, d0, ds0, p0, q0, hargs, rfl, rfl, h0, r0⟩ := trodAll_cons hA
  obtain ⟨v1, vs1, d1, ds1, p1, q1, rfl, rfl, rfl, h1, r1⟩ := trodAll_cons r0
  obtain ⟨rfl, rfl, rfl⟩ := trodAll_nil r1
  obtain rfl : args = #[v0, v1] := by cases args; simp_all
  obtain ⟨rfl, rfl⟩ := trodVars_none hV
  have k0 := h0
  have lt0 : ∀ x ∈ p0, x.block < W.heap.size := by obtain ⟨m, hm⟩ := k0; exact DataW.trod_lt m _ _ _ hm
  have k1 := h1
  have lt1 : ∀ x ∈ p1, x.block < W.heap.size := by obtain ⟨m, hm⟩ := k1; exact DataW.trod_lt m _ _ _ hm
  obtain ⟨a0, rfl, rfl, rfl, w0⟩ := open_int Tryz.underlying3 (hval 0 3 v0 rfl rfl) h0
  obtain ⟨a1, n1, c1, l1, rfl, w1⟩ := open_intsP (hval 1 26 v1 rfl rfl) h1 (fun k hk => by simpa using List.all_eq_true.1 hsz k (DataW.weights_mem_each (j := 1) rfl rfl k hk))
  clear hA0 hval0
  refine (walk a0 a1 n1 c1 l1 W w0 w1 (ld_of hL)).mono fun e W' ⟨he, bel⟩ => ?_
  subst he
  exact ⟨_, rfl, _, _, _, [], _, [], hW', trodAll_mk1 (shut_bool Tryz.underlying4 _), (trodAll_cons_mk (Below.trod laidOut (by kernel_rfl) (of_decide_eq_true (by kernel_rfl)) k0 bel lt0) (trodAll_cons_mk (Below.trod laidOut (by kernel_rfl) (of_decide_eq_true (by kernel_rfl)) k1 bel lt1) trodAll_mk0)), rfl, bel.frame _, fun h => by cases h⟩

theorem over : Rows.evalRowsRow.holds Tryz.pinned (OpenSpec.ofChange Rows.evalRowsSpec) :=
  OpenClaim.holds_of_wide 6 Tryz.f6 rfl rfl rfl rfl rfl rfl rfl ⟨rfl, rfl, rfl, rfl, rfl⟩ rfl rfl rfl rfl rfl (by kernel_rfl) Tryz.func6 (by kernel_rfl)
    (of_decide_eq_true (by kernel_rfl)) (by unfold Func.isWrapper; first | (rw [if_pos (by decide +kernel)]; kernel_rfl) | (rw [if_neg (by decide +kernel)]; exact ⟨rfl, rfl⟩))
    (fun os started H enc _ => lifted os started H enc)
end Go.Proofs.YtbbfgdkjgolieabGreatDoor.evalRows
namespace Go.Proofs.YtbbfgdkjgolieabGreatDoor
open Go
theorem evalRows_holds : Rows.EvalRowsCardSaid :=
  Claim7.holds_tied_plain_at .later [] [.data, .data, .data, .handle, .sentinel, .sentinel] true (true, "df9f9e0254879b26436ad060d49320056ec30ea2f54290ef4dfd0a208bae7ec3") true
    evalRows.over (fun _ h => by cases h) (by kernel_rfl) (fun _ h => by cases h) evalRows_row_tie rfl ⟨rfl, rfl⟩ (by kernel_rfl) rfl
    (fun f fn hf hfn => by
      obtain rfl : f = 6 := Option.some.inj ((show Tryz.prog.funcNamed "swage/swagelaw8.EvalRows" = some 6 by kernel_rfl).symm.trans hf) |>.symm
      obtain rfl : fn = Tryz.f6 := (Option.some.inj (Tryz.func6.symm.trans hfn)).symm
      exact ⟨by kernel_rfl, fun j t ht => by
        rw [Tryz.params6] at ht
        have hm : t ∈ [3, 26] := by simpa using Array.mem_of_getElem? ht
        have hall : ([3, 26].all fun u => !Tryz.prog.wantsStandIn u) = true := by kernel_rfl
        exact (show Tryz.prog.wantsStandIn t = false by simpa using List.all_eq_true.1 hall t hm)⟩)
    (by kernel_rfl)
#print axioms evalRows_holds
end Go.Proofs.YtbbfgdkjgolieabGreatDoor
