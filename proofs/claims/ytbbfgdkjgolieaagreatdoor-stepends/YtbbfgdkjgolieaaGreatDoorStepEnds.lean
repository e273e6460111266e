/- For any two integers the law StepEnds returns true: by a value, by a trap, by depth and out of fuel step.Step tells how it ends, nothing is left of frames, and what is over stays; no conditions. -/
import Derived.Test.YtbbfgdkjgolieaaGreatDoorRows
import Derived.WalkKit
import Derived.ProofKit
import Derived.OpenShut
import Derived.ShutString
import Derived.ChangeOld
import Derived.Below
import Derived.Carry
import Derived.Lib.SmallJoins
import Derived.Handy
import Derived.WalkSmall
import Derived.SizedLaws
import Derived.Test.YtbbfgdkjgolieaaGreatDoorLaidOpenV
import Derived.Test.YtbbfgdkjgolieaaGreatDoorCards
import Derived.Test.YtbbfgdkjgolieaaGreatDoorTie
import Derived.SevenTiedAt
import Derived.LaidMore
import Derived.Stop.Joined
import Derived.Test.YtbbfgdkjgolieaaGreatDoorEnds
import Derived.Deep.DeepCutAuto
import Derived.Lib.QuietBelow
import Derived.Deep.QuietTactic
import Derived.BigQuiet
namespace Go.Proofs.YtbbfgdkjgolieaaGreatDoor.stepEnds
open Go.ChangeShapes Go.WideShapes Go.ChangeAt Go.RowKit
open Go.ChangeMaps (open_string shut_string)
set_option linter.unusedVariables false

theorem own : ownKnob Tryz.prog.godebug = none := by kernel_rfl
theorem laidOut : laidOutB Tryz.prog = true := by kernel_rfl

set_option maxRecDepth 100000 in
set_option maxHeartbeats 20000000 in
theorem walk (a0 : Int) (a1 : Int) (w : World) (w0 : (Lit.int .i64 a0).wf = true) (w1 : (Lit.int .i64 a1).wf = true) (ld : Ld w) :
    Calls Tryz.prog 6 #[.int .i64 a0, .int .i64 a1] w fun e w' => e = .returned (.bool true) ∧ Below w.heap.size w w' := by
  have LD0 := hid ld
  clear ld
  go_enter Tryz.func6, Tryz.ntmps6
  go_wp2_with fail
  refine (awake7_any _ LD0.out).mono ?_
  rintro e u1 ⟨rfl, b1⟩
  have B1 := hid b1
  have hk := umod_bd a0 4 (by omega)
  have I1 : Hid (Inss (u1.alloc (.cells #[.int .i64 14, .int .i64 0, .int .i64 16, .int .i64 0] 46)) (some ⟨u1.heap.size, 0, none⟩) 2 2 selfC) := hid (allocs_inss u1 [.cells (flat2 selfC).toArray 46] 0 selfC 46 rfl (by decide))
  have A1 : Hid (Below u1.heap.size u1 (u1.alloc (.cells #[.int .i64 14, .int .i64 0, .int .i64 16, .int .i64 0] 46))) := hid (Below.alloc (Below.refl _ _) (Nat.le_refl _) _)
  clear b1
  go_wp2_with fail
  have hv : isNum (wrap64 (wrap32 (IntKind.u64.wrap a1 % 4294967296))) = true := by rw [wrap64_wrap32]; exact num_wrap _
  generalize wrap64 (wrap32 (IntKind.u64.wrap a1 % 4294967296)) = v at hv ⊢
  have HV := hid hv
  clear hv
  refine (small7_any 0 0 _ _ _ selfC _ I1.out).mono ?_
  rintro e u2 ⟨v2, n2, c2, rfl, f2, b2⟩
  have hA : Below u2.heap.size u2 (u2.alloc (.cells #[.slice v2 n2 c2] 24)) := Below.alloc (Below.refl _ _) (Nat.le_refl _) _
  have W3 : Hid (∃ u3 : World, u3 = u2.alloc (.cells #[.slice v2 n2 c2] 24)) := hid ⟨_, rfl⟩
  obtain ⟨u3, hu3⟩ := W3.out
  rw [← hu3] at hA
  have F3 := hid (f2.kept hA)
  have B3 := hid (kt (kt (kt B1.out A1.out) b2) hA)
  have C3 : Hid (u3.cell? ⟨u2.heap.size, 0, none⟩ = some (.slice v2 n2 c2)) := hid (by rw [hu3]; simp [go_sem])
  have E3 := hid hu3
  obtain ⟨i0, hi, hz0, hz1, hz2⟩ := info_parts Tryz.infoFrame
  clear f2 b2 hA hu3 W3 I1 A1 B1
  go_wp2_with fail
  refine wp_world (U := u3) E3.out ?_
  go_loopw [7, 8] (fun v i wr => EndInv u3 v i wr) (fun _ i _ => 11 - (intOf i).toNat)
  case atStart => exact ⟨0, none, 0, 0, by omega, rfl, rfl, OwnFrs.nil _ _ _ _, Below.refl _ _⟩
  case round =>
    clear E3
    obtain ⟨j, va, vn, vc, hj, rfl, rfl, ho, hb⟩ := hrel.ex
    clear hrel
    obtain ⟨t, ht1, ht2, ht3⟩ := ho
    have hlen : (List.replicate j ((0, 1, [], []) : Fr)).length = j := by simp
    rw [hlen] at ht1 ht2 ht3
    have HB := hid hb
    have hbz := hb.size
    by_cases hlt : j < 11
    · have hA : Below wr.heap.size wr (wr.alloc (.cells #[.int .i64 0, .int .i64 1, .slice none 0 0, .slice none 0 0] 52)) := Below.alloc (Below.refl _ _) (Nat.le_refl _) _
      have A3 := hid hA
      have HT1 := hid ht1
      have HT2 := hid (owns_kept ht2 hA)
      have HT3 := hid ht3
      clear ht1 ht2 ht3 hb hA hlen
      go_wp2_with (at_builtin; refine wpList_append_lies _ rfl _ _ 25 rfl u3.heap.size 52 i0 (.agg #[.int .i64 0, .int .i64 0, .slice none 0 0, .slice none 0 0]) 4 64 Tryz.underlying25 hi hz0 hz1 hz2 rfl (by decide) (.slice va vn vc) j (flat4 t) rfl HT2.out ⟨wr.heap.size, 0, none⟩ 1 1 [.int .i64 0, .int .i64 1, .slice none 0 0, .slice none 0 0] rfl rfl (news_of rfl _ 52) (by intro u hu; simp at hu; rcases hu with rfl | rfl | rfl <;> rfl) (by decide) (by unfold maxLen; omega) (by omega) (by simp; omega) (wr.heap.size + 1) (by simp) ?_; intro g cap w6 ho6 hg6 hat hlt6; have P := hid (And.intro ho6 hg6); clear ho6 hg6 hat hlt6)
      go_roundw
      case rel =>
        obtain ⟨p1, p2⟩ := P.out
        refine ⟨j + 1, _, _, _, by omega, by go_num, rfl, ?_, ?_⟩
        · rw [List.replicate_succ']
          refine OwnFrs.snoc (by decide) (by simp) HT1.out HT2.out (fun i hi => ?_) (World.ownsRow_nil _ _ _ _) (by simp) (World.ownsRow_nil _ _ _ _) (by simp) p1 p2
          obtain ⟨k1, k2, ⟨k3, k4⟩, k5, k6⟩ := HT3.out i hi
          exact ⟨k1, k2, ⟨k3, owns_kept k4 A3.out⟩, k5, owns_kept k6 A3.out⟩
        · exact Below.grown (kt HB.out A3.out) p2 (by have := A3.out.size; omega) (fun k hk => (HT2.out.lt k hk).1)
      case measure => simp [intOf]; omega
    · have hj11 : j = 11 := by omega
      subst hj11
      have hA : Below wr.heap.size wr (wr.alloc (.cells #[.int .i64 0, .int .i64 0, .slice none 0 0, .slice none 0 0] 52)) := Below.alloc (Below.refl _ _) (Nat.le_refl _) _
      have A3 := hid hA
      have HT1 := hid ht1
      have HT2 := hid (owns_kept ht2 hA)
      have HT3 := hid ht3
      clear ht1 ht2 ht3 hb hA hlen hlt hj
      go_wp2_with (at_builtin; refine wpList_append_lies _ rfl _ _ 25 rfl u3.heap.size 52 i0 (.agg #[.int .i64 0, .int .i64 0, .slice none 0 0, .slice none 0 0]) 4 64 Tryz.underlying25 hi hz0 hz1 hz2 rfl (by decide) (.slice va vn vc) 11 (flat4 t) rfl HT2.out ⟨wr.heap.size, 0, none⟩ 1 1 [.int .i64 0, .int .i64 0, .slice none 0 0, .slice none 0 0] rfl rfl (news_of rfl _ 52) (by intro u hu; simp at hu; rcases hu with rfl | rfl <;> rfl) (by decide) (by unfold maxLen; omega) (by omega) (by simp; omega) (wr.heap.size + 1) (by simp) ?_; intro g cap w6 ho6 hg6 hat hlt6; have P := hid (And.intro ho6 hg6); clear ho6 hg6 hat hlt6)
      have DF : Hid (Frs w6 (some ⟨g, 0, none⟩) 12 cap deepF ∧ Below u3.heap.size u3 w6) := hid (by
        obtain ⟨p1, p2⟩ := P.out
        refine ⟨?_, Below.grown (kt HB.out A3.out) p2 (by have := A3.out.size; omega) (fun k hk => (HT2.out.lt k hk).1)⟩
        have h : OwnFrs 3 52 w6 u3.heap.size (.slice (some ⟨g, 0, none⟩) 12 cap) (List.replicate 11 (0, 1, [], []) ++ [(0, 0, [], [])]) := OwnFrs.snoc (by decide) (by simp) HT1.out HT2.out (fun i hi => by
          obtain ⟨k1, k2, ⟨k3, k4⟩, k5, k6⟩ := HT3.out i hi
          exact ⟨k1, k2, ⟨k3, owns_kept k4 A3.out⟩, k5, owns_kept k6 A3.out⟩) (World.ownsRow_nil _ _ _ _) (by simp) (World.ownsRow_nil _ _ _ _) (by simp) p1 p2
        obtain ⟨_, _, _, e, r⟩ := h.reads (by simp)
        cases e
        exact r)
      have I6 : Hid (Inss (w6.alloc (.cells #[.int .i64 0, .int .i64 1, .int .i64 0, .int .i64 0, .int .i64 6, .int .i64 0, .int .i64 16, .int .i64 0] 46)) (some ⟨w6.heap.size, 0, none⟩) 4 4 zeroC) := hid (allocs_inss w6 [.cells (flat2 zeroC).toArray 46] 0 zeroC 46 rfl (by decide))
      have A6 : Hid (Below w6.heap.size w6 (w6.alloc (.cells #[.int .i64 0, .int .i64 1, .int .i64 0, .int .i64 0, .int .i64 6, .int .i64 0, .int .i64 16, .int .i64 0] 46))) := hid (Below.alloc (Below.refl _ _) (Nat.le_refl _) _)
      clear P HT1 HT2 HT3 A3 HB hbz
      go_wp2_with fail
      refine (small7_any 0 0 _ _ _ zeroC _ I6.out).mono ?_
      rintro e u7 ⟨zv, zn, zc, rfl, f7, b7⟩
      have hA : Below u7.heap.size u7 (u7.alloc (.cells #[.slice zv zn zc] 24)) := Below.alloc (Below.refl _ _) (Nat.le_refl _) _
      have W7 : Hid (∃ U7 : World, U7 = u7.alloc (.cells #[.slice zv zn zc] 24)) := hid ⟨_, rfl⟩
      obtain ⟨U7, hU7⟩ := W7.out
      rw [← hU7] at hA
      have G7 := hid (kt (kt A6.out b7) hA)
      have FZ := hid (f7.kept hA)
      have FS := hid ((F3.out.kept DF.out.2).kept G7.out)
      have DD := hid (DF.out.1.kept G7.out)
      have B7 := hid (kt (kt B3.out DF.out.2) G7.out)
      have CZ : Hid (U7.cell? ⟨u7.heap.size, 0, none⟩ = some (.slice zv zn zc)) := hid (by rw [hU7]; simp [go_sem])
      have CS := hid (kept_cell G7.out (kept_cell DF.out.2 C3.out))
      have E7 := hid hU7
      have K1 : Hid (∀ u : World, Inss (u.alloc (.cells #[.int .i64 0, .int .i64 1, .int .i64 16, .int .i64 0] 46)) (some ⟨u.heap.size, 0, none⟩) 2 2 oneC7) := hid (fun u => allocs_inss u [.cells (flat2 oneC7).toArray 46] 0 oneC7 46 rfl (by decide))
      have SA : Hid (∀ w', Below U7.heap.size U7 w' → (w'.cell? ⟨u7.heap.size, 0, none⟩ = some (.slice zv zn zc) ∧ w'.cell? ⟨u2.heap.size, 0, none⟩ = some (.slice v2 n2 c2))) := hid (fun w' b => ⟨kept_cell b CZ.out, kept_cell b CS.out⟩)
      clear f7 b7 hA hU7 W7 I6 A6 DF F3 C3 B3
      go_wp2_with fail
      refine wp_world (U := U7) E7.out ?_
      have BC : Below U7.heap.size U7 U7 := Below.refl _ _
      go_region_held3 (fun w' => w'.cell? ⟨u7.heap.size, 0, none⟩ = some (.slice zv zn zc) ∧ w'.cell? ⟨u2.heap.size, 0, none⟩ = some (.slice v2 n2 c2)) (first | (refine SA.out _ ?_; (repeat (first | with_reducible exact BC | with_reducible refine pDrew ?_ | with_reducible refine pAlloc ?_ | with_reducible refine pSet (by first | exact Nat.le_refl _ | omega) ?_))))
        (first | (go_at_call 20; refine (small7_any 0 0 _ _ _ oneC7 _ ?h1).mono ?_; (case h1 => (first | with_reducible exact K1.out _ | with_reducible exact (K1.out _).kept (pDrew (Below.refl _ _)))); rintro e u8 ⟨v8, n8, c8, rfl, f8, b⟩; replace BC : Below U7.heap.size U7 u8 := kt (by repeat (first | with_reducible exact BC | with_reducible refine pDrew ?_ | with_reducible refine pAlloc ?_ | with_reducible refine pSet (by first | exact Nat.le_refl _ | omega) ?_)) b; have F8 := hid f8; clear b f8))
      all_goals
        have BX := hid BC
        have hw8 := hid trivial
        clear BC SA K1 E7
        have W16 : Hid (∃ U : World, U = allocs u8 [.cells #[.slice v8 n8 c8, .slice zv zn zc, .slice v2 n2 c2, .slice v2 n2 c2] 24, .cells #[.int .i64 v] 3, .cells #[.int .i64 0, .int .i64 1, .slice none 0 0, .slice (some ⟨u8.heap.size + 1, 0, none⟩) 1 1] 52, .cells #[.int .i64 v, .int .i64 0] 3, .cells #[.int .i64 0, .int .i64 2, .slice none 0 0, .slice (some ⟨u8.heap.size + 1 + 1 + 1, 0, none⟩) 2 2] 52, .cells #[.slice (some ⟨u8.heap.size + 1 + 1, 0, none⟩) 1 1, .int .i64 1, .slice none 0 0, .int .i64 0, .int .i64 0, .slice (some ⟨u8.heap.size + 1 + 1 + 1 + 1, 0, none⟩) 1 1, .int .i64 5, .slice none 0 0, .int .i64 0, .int .i64 0, .slice (some ⟨g, 0, none⟩) 12 cap, .int .i64 5, .slice none 0 0, .int .i64 0, .int .i64 0, .slice (some ⟨g, 0, none⟩) 12 cap, .int .i64 0, .slice none 0 0, .int .i64 0, .int .i64 0] 28, .cells #[.slice none 0 0, .int .i64 0, .slice none 0 0, .int .i64 1, .int .i64 v, .slice none 0 0, .int .i64 4, .slice none 0 0, .int .i64 2, .int .i64 0, .slice none 0 0, .int .i64 4, .slice none 0 0, .int .i64 3, .int .i64 0, .slice none 0 0, .int .i64 0, .slice none 0 0, .int .i64 4, .int .i64 0] 28]) := hid ⟨_, rfl⟩
        obtain ⟨U, hU⟩ := W16.out
        have BU : Hid (Below u8.heap.size u8 U) := hid (by rw [hU]; exact allocs_below _ _)
        have BW := hid (kt (kt B7.out BX.out) BU.out)
        have LDU := hid (LD0.out.up BW.out)
        have P0 := hid (F8.out.kept BU.out)
        have P1 := hid ((FZ.out.kept BX.out).kept BU.out)
        have P2 := hid ((FS.out.kept BX.out).kept BU.out)
        have Q2 := hid ((DD.out.kept BX.out).kept BU.out)
        have Q0 : Hid (Frs U (some ⟨u8.heap.size + 1 + 1, 0, none⟩) 1 1 [(0, 1, [], [v])]) := hid (by
          rw [hU]
          exact frs_at1 (g := u8.heap.size + 2) (la := none) (ln := 0) (lc := 0) (sa := some ⟨u8.heap.size + 1, 0, none⟩) (sn := 1) (sc := 1) (Ints.nil _) (allocs_ints u8 _ 1 [v] 3 rfl (by simp)) (allocs_cell u8 _ 2 _ 52 rfl 0 _ rfl) (allocs_cell u8 _ 2 _ 52 rfl 1 _ rfl) (allocs_cell u8 _ 2 _ 52 rfl 2 _ rfl) (allocs_cell u8 _ 2 _ 52 rfl 3 _ rfl))
        have Q1 : Hid (Frs U (some ⟨u8.heap.size + 1 + 1 + 1 + 1, 0, none⟩) 1 1 [(0, 2, [], [v, 0])]) := hid (by
          rw [hU]
          exact frs_at1 (g := u8.heap.size + 4) (la := none) (ln := 0) (lc := 0) (sa := some ⟨u8.heap.size + 3, 0, none⟩) (sn := 2) (sc := 2) (Ints.nil _) (allocs_ints u8 _ 3 [v, 0] 3 rfl (by simp)) (allocs_cell u8 _ 4 _ 52 rfl 0 _ rfl) (allocs_cell u8 _ 4 _ 52 rfl 1 _ rfl) (allocs_cell u8 _ 4 _ 52 rfl 2 _ rfl) (allocs_cell u8 _ 4 _ 52 rfl 3 _ rfl))
        have CP : Hid (∀ i x, (#[.slice v8 n8 c8, .slice zv zn zc, .slice v2 n2 c2, .slice v2 n2 c2] : Array Value)[i]? = some x → U.cell? ⟨u8.heap.size, i, none⟩ = some x) := hid (fun i x hx => by rw [hU]; exact allocs_cell u8 _ 0 _ 24 rfl i x hx)
        have CSS : Hid (∀ i x, ( #[.slice (some ⟨u8.heap.size + 1 + 1, 0, none⟩) 1 1, .int .i64 1, .slice none 0 0, .int .i64 0, .int .i64 0, .slice (some ⟨u8.heap.size + 1 + 1 + 1 + 1, 0, none⟩) 1 1, .int .i64 5, .slice none 0 0, .int .i64 0, .int .i64 0, .slice (some ⟨g, 0, none⟩) 12 cap, .int .i64 5, .slice none 0 0, .int .i64 0, .int .i64 0, .slice (some ⟨g, 0, none⟩) 12 cap, .int .i64 0, .slice none 0 0, .int .i64 0, .int .i64 0] : Array Value)[i]? = some x → U.cell? ⟨u8.heap.size + 1 + 1 + 1 + 1 + 1, i, none⟩ = some x) := hid (fun i x hx => by rw [hU]; exact allocs_cell u8 _ 5 _ 28 rfl i x hx)
        have CW : Hid (∀ i x, ( #[.slice none 0 0, .int .i64 0, .slice none 0 0, .int .i64 1, .int .i64 v, .slice none 0 0, .int .i64 4, .slice none 0 0, .int .i64 2, .int .i64 0, .slice none 0 0, .int .i64 4, .slice none 0 0, .int .i64 3, .int .i64 0, .slice none 0 0, .int .i64 0, .slice none 0 0, .int .i64 4, .int .i64 0] : Array Value)[i]? = some x → U.cell? ⟨u8.heap.size + 1 + 1 + 1 + 1 + 1 + 1, i, none⟩ = some x) := hid (fun i x hx => by rw [hU]; exact allocs_cell u8 _ 6 _ 28 rfl i x hx)
        have EU := hid hU
        clear hU W16 B7 FZ FS DD CZ CS F8 BX BU
        go_wp2_with fail
        generalize (IntKind.u64.wrap a0).tmod 4 = k at hk ⊢
        rcases (show k = 0 ∨ k = 1 ∨ k = 2 ∨ k = 3 by omega) with rfl | rfl | rfl | rfl
        · refine wp_world (U := U) EU.out ?_
          have BC : Below U.heap.size U U := Below.refl _ _
          have SA : Hid (∀ w', Below U.heap.size U w' → (w'.cell? ⟨u8.heap.size, 0, none⟩ = some (.slice v8 n8 c8) ∧ w'.cell? ⟨u8.heap.size + 1 + 1 + 1 + 1 + 1, 0, none⟩ = some (.slice (some ⟨u8.heap.size + 1 + 1, 0, none⟩) 1 1) ∧ w'.cell? ⟨u8.heap.size + 1 + 1 + 1 + 1 + 1, 1, none⟩ = some (.int .i64 1) ∧ w'.cell? ⟨u8.heap.size + 1 + 1 + 1 + 1 + 1, 2, none⟩ = some (.slice none 0 0) ∧ w'.cell? ⟨u8.heap.size + 1 + 1 + 1 + 1 + 1, 3, none⟩ = some (.int .i64 0) ∧ w'.cell? ⟨u8.heap.size + 1 + 1 + 1 + 1 + 1, 4, none⟩ = some (.int .i64 0))) := hid (fun w' b => ⟨kept_cell b (CP.out 0 _ rfl), kept_cell b (CSS.out 0 _ rfl), kept_cell b (CSS.out 1 _ rfl), kept_cell b (CSS.out 2 _ rfl), kept_cell b (CSS.out 3 _ rfl), kept_cell b (CSS.out 4 _ rfl)⟩)
          go_cut [14, 15] (fun s t wx => BoxR U (([], 0, [], 1, v) : St) 0 s t wx)
          case first =>
            go_region_held3 (fun w' => w'.cell? ⟨u8.heap.size, 0, none⟩ = some (.slice v8 n8 c8) ∧ w'.cell? ⟨u8.heap.size + 1 + 1 + 1 + 1 + 1, 0, none⟩ = some (.slice (some ⟨u8.heap.size + 1 + 1, 0, none⟩) 1 1) ∧ w'.cell? ⟨u8.heap.size + 1 + 1 + 1 + 1 + 1, 1, none⟩ = some (.int .i64 1) ∧ w'.cell? ⟨u8.heap.size + 1 + 1 + 1 + 1 + 1, 2, none⟩ = some (.slice none 0 0) ∧ w'.cell? ⟨u8.heap.size + 1 + 1 + 1 + 1 + 1, 3, none⟩ = some (.int .i64 0) ∧ w'.cell? ⟨u8.heap.size + 1 + 1 + 1 + 1 + 1, 4, none⟩ = some (.int .i64 0)) (first | (refine SA.out _ ?_; (repeat (first | with_reducible exact BC | with_reducible refine pDrew ?_ | with_reducible refine pAlloc ?_ | with_reducible refine pSet (by first | exact Nat.le_refl _ | omega) ?_))))
              (first
                | (go_at_call 11; refine (stepStep_any _ _ _ oneP _ _ _ [(0, 1, [], [v])] 1 none 0 0 [] 0 0 _ (P0.out.kept ?h1) (Q0.out.kept ?h2) (Ints.nil _) (LDU.out.up ?h3)).mono ?_; (case h1 => (repeat (first | with_reducible exact BC | with_reducible refine pDrew ?_ | with_reducible refine pAlloc ?_ | with_reducible refine pSet (by first | exact Nat.le_refl _ | omega) ?_))); (case h2 => (repeat (first | with_reducible exact BC | with_reducible refine pDrew ?_ | with_reducible refine pAlloc ?_ | with_reducible refine pSet (by first | exact Nat.le_refl _ | omega) ?_))); (case h3 => (repeat (first | with_reducible exact BC | with_reducible refine pDrew ?_ | with_reducible refine pAlloc ?_ | with_reducible refine pSet (by first | exact Nat.le_refl _ | omega) ?_))); rw [(one_step HV.out).1, (one_step HV.out).2]; rintro e y ⟨va, vn, vc, xa, xn, xc, rfl, of, oo, b⟩; with_reducible have hz := pNew1 b; have hzl := heap_lt hz; have q0 := cell_of_heap (j := 0) hz rfl; obtain ⟨n0, m0⟩ := q0; have q1 := cell_of_heap (j := 1) hz rfl; obtain ⟨n1, m1⟩ := q1; have q2 := cell_of_heap (j := 2) hz rfl; obtain ⟨n2, m2⟩ := q2; have q3 := cell_of_heap (j := 3) hz rfl; obtain ⟨n3, m3⟩ := q3; have q4 := cell_of_heap (j := 4) hz rfl; obtain ⟨n4, m4⟩ := q4; replace BC : Below U.heap.size U y := kt (by repeat (first | with_reducible exact BC | with_reducible refine pDrew ?_ | with_reducible refine pAlloc ?_ | with_reducible refine pSet (by first | exact Nat.le_refl _ | omega) ?_)) b; have hyU := BC.size; have OF := hid of; have OO := hid oo; clear b of oo)
                | (go_at_call 11; refine (stepStep_any _ _ _ oneP _ _ _ [(0, 1, [], [v])] 1 none 0 0 [] 0 0 _ (P0.out.kept ?h1) (Q0.out.kept ?h2) (Ints.nil _) (LDU.out.up ?h3)).mono ?_; (case h1 => (repeat (first | with_reducible exact BC | with_reducible refine pDrew ?_ | with_reducible refine pAlloc ?_ | with_reducible refine pSet (by first | exact Nat.le_refl _ | omega) ?_))); (case h2 => (repeat (first | with_reducible exact BC | with_reducible refine pDrew ?_ | with_reducible refine pAlloc ?_ | with_reducible refine pSet (by first | exact Nat.le_refl _ | omega) ?_))); (case h3 => (repeat (first | with_reducible exact BC | with_reducible refine pDrew ?_ | with_reducible refine pAlloc ?_ | with_reducible refine pSet (by first | exact Nat.le_refl _ | omega) ?_))); rw [(one_step HV.out).1, (one_step HV.out).2]; rintro e y ⟨va, vn, vc, xa, xn, xc, rfl, of, oo, b⟩; replace BC : Below U.heap.size U y := kt (by repeat (first | with_reducible exact BC | with_reducible refine pDrew ?_ | with_reducible refine pAlloc ?_ | with_reducible refine pSet (by first | exact Nat.le_refl _ | omega) ?_)) b; have hyU := BC.size; have OF := hid of; have OO := hid oo; clear b of oo))
            all_goals
              go_wp2_with fail
              go_meet
              case rel => first | (have hzz := hz; exact box_old OF.out (Nat.zero_le 1000) OO.out BC (by simp) (Nat.le_refl _) hzz) | exact box_new OF.out (Nat.zero_le 1000) OO.out BC
          case rest =>
            obtain ⟨⟨bt, ta, tn, tc, ra, rn, rc, rfl, xt, ft, it⟩, rfl, bel⟩ := hcut
            have XT := hid xt
            have FT := hid ft
            have IT := hid it
            have BT := hid bel
            have PT := hid (P0.out.kept bel)
            have LDT := hid (LDU.out.up bel)
            clear xt ft it bel SA BC EU
            obtain ⟨T1, hT1⟩ : ∃ T1 : World, T1 = wc := ⟨_, rfl⟩
            subst hT1
            go_wp2_with fail
            have BC : Below T1.heap.size T1 T1 := Below.refl _ _
            have SA : Hid (∀ w', Below T1.heap.size T1 w' → (w'.cell? ⟨u8.heap.size, 0, none⟩ = some (.slice v8 n8 c8) ∧ w'.cell? ⟨bt, 0, none⟩ = some (.slice ta tn tc) ∧ w'.cell? ⟨bt, 1, none⟩ = some (.int .i64 0) ∧ w'.cell? ⟨bt, 2, none⟩ = some (.slice ra rn rc) ∧ w'.cell? ⟨bt, 3, none⟩ = some (.int .i64 1) ∧ w'.cell? ⟨bt, 4, none⟩ = some (.int .i64 v))) := hid (fun w' b => ⟨kept_cell b (kept_cell BT.out (CP.out 0 _ rfl)), kept_cell b XT.out.c0, kept_cell b XT.out.c1, kept_cell b XT.out.c2, kept_cell b XT.out.c3, kept_cell b XT.out.c4⟩)
            go_cut [16, 17] (fun s t wx => BoxR T1 (([], 0, [], 1, v) : St) 0 s t wx)
            case first =>
              go_region_held3 (fun w' => w'.cell? ⟨u8.heap.size, 0, none⟩ = some (.slice v8 n8 c8) ∧ w'.cell? ⟨bt, 0, none⟩ = some (.slice ta tn tc) ∧ w'.cell? ⟨bt, 1, none⟩ = some (.int .i64 0) ∧ w'.cell? ⟨bt, 2, none⟩ = some (.slice ra rn rc) ∧ w'.cell? ⟨bt, 3, none⟩ = some (.int .i64 1) ∧ w'.cell? ⟨bt, 4, none⟩ = some (.int .i64 v)) (first | (refine SA.out _ ?_; (repeat (first | with_reducible exact BC | with_reducible refine pDrew ?_ | with_reducible refine pAlloc ?_ | with_reducible refine pSet (by first | exact Nat.le_refl _ | omega) ?_))))
                (first
                  | (go_at_call 11; refine (stepStep_any _ _ _ oneP _ _ _ [] 0 _ _ _ [] 1 v _ (PT.out.kept ?h1) (FT.out.kept ?h2) (IT.out.kept ?h4) (LDT.out.up ?h3)).mono ?_; (case h1 => (repeat (first | with_reducible exact BC | with_reducible refine pDrew ?_ | with_reducible refine pAlloc ?_ | with_reducible refine pSet (by first | exact Nat.le_refl _ | omega) ?_))); (case h2 => (repeat (first | with_reducible exact BC | with_reducible refine pDrew ?_ | with_reducible refine pAlloc ?_ | with_reducible refine pSet (by first | exact Nat.le_refl _ | omega) ?_))); (case h3 => (repeat (first | with_reducible exact BC | with_reducible refine pDrew ?_ | with_reducible refine pAlloc ?_ | with_reducible refine pSet (by first | exact Nat.le_refl _ | omega) ?_))); (case h4 => (repeat (first | with_reducible exact BC | with_reducible refine pDrew ?_ | with_reducible refine pAlloc ?_ | with_reducible refine pSet (by first | exact Nat.le_refl _ | omega) ?_))); rw [(one_stay HV.out).1, (one_stay HV.out).2]; rintro e y ⟨va, vn, vc, xa, xn, xc, rfl, of, oo, b⟩; with_reducible have hz := pNew1 b; have hzl := heap_lt hz; have q0 := cell_of_heap (j := 0) hz rfl; obtain ⟨n0, m0⟩ := q0; have q1 := cell_of_heap (j := 1) hz rfl; obtain ⟨n1, m1⟩ := q1; have q2 := cell_of_heap (j := 2) hz rfl; obtain ⟨n2, m2⟩ := q2; have q3 := cell_of_heap (j := 3) hz rfl; obtain ⟨n3, m3⟩ := q3; have q4 := cell_of_heap (j := 4) hz rfl; obtain ⟨n4, m4⟩ := q4; replace BC : Below T1.heap.size T1 y := kt (by repeat (first | with_reducible exact BC | with_reducible refine pDrew ?_ | with_reducible refine pAlloc ?_ | with_reducible refine pSet (by first | exact Nat.le_refl _ | omega) ?_)) b; have hyU := BC.size; have OF := hid of; have OO := hid oo; clear b of oo)
                  | (go_at_call 11; refine (stepStep_any _ _ _ oneP _ _ _ [] 0 _ _ _ [] 1 v _ (PT.out.kept ?h1) (FT.out.kept ?h2) (IT.out.kept ?h4) (LDT.out.up ?h3)).mono ?_; (case h1 => (repeat (first | with_reducible exact BC | with_reducible refine pDrew ?_ | with_reducible refine pAlloc ?_ | with_reducible refine pSet (by first | exact Nat.le_refl _ | omega) ?_))); (case h2 => (repeat (first | with_reducible exact BC | with_reducible refine pDrew ?_ | with_reducible refine pAlloc ?_ | with_reducible refine pSet (by first | exact Nat.le_refl _ | omega) ?_))); (case h3 => (repeat (first | with_reducible exact BC | with_reducible refine pDrew ?_ | with_reducible refine pAlloc ?_ | with_reducible refine pSet (by first | exact Nat.le_refl _ | omega) ?_))); (case h4 => (repeat (first | with_reducible exact BC | with_reducible refine pDrew ?_ | with_reducible refine pAlloc ?_ | with_reducible refine pSet (by first | exact Nat.le_refl _ | omega) ?_))); rw [(one_stay HV.out).1, (one_stay HV.out).2]; rintro e y ⟨va, vn, vc, xa, xn, xc, rfl, of, oo, b⟩; replace BC : Below T1.heap.size T1 y := kt (by repeat (first | with_reducible exact BC | with_reducible refine pDrew ?_ | with_reducible refine pAlloc ?_ | with_reducible refine pSet (by first | exact Nat.le_refl _ | omega) ?_)) b; have hyU := BC.size; have OF := hid of; have OO := hid oo; clear b of oo))
              all_goals
                go_wp2_with fail
                go_meet
                case rel => first | (have hzz := hz; exact box_old OF.out (Nat.zero_le 1000) OO.out BC (by simp) (Nat.le_refl _) hzz) | exact box_new OF.out (Nat.zero_le 1000) OO.out BC
            case rest =>
              obtain ⟨⟨bu, ua, un, uc, ea, en, ec, rfl, xu, fu', iu⟩, rfl, bel2⟩ := hcut
              have FT2 := hid (FT.out.kept bel2)
              have IT2 := hid (IT.out.kept bel2)
              have FU2 := hid fu'
              have IU2 := hid iu
              have BF := hid (kt (kt BW.out BT.out) bel2)
              obtain ⟨t0, t1, t2, t3, t4, _, _⟩ := XT.out.kept bel2
              obtain ⟨x0, x1, x2, x3, x4, _, _⟩ := xu
              have r0 := cell_regrown t0
              have r1 := cell_regrown t1
              have r2 := cell_regrown t2
              have r3 := cell_regrown t3
              have r4 := cell_regrown t4
              have y0 := cell_regrown x0
              have y1 := cell_regrown x1
              have y2 := cell_regrown x2
              have y3 := cell_regrown x3
              have y4 := cell_regrown x4
              have z0 := cell_regrown (kept_cell bel2 (kept_cell BT.out (CW.out 0 _ rfl)))
              have z1 := cell_regrown (kept_cell bel2 (kept_cell BT.out (CW.out 1 _ rfl)))
              have z2 := cell_regrown (kept_cell bel2 (kept_cell BT.out (CW.out 2 _ rfl)))
              have z3 := cell_regrown (kept_cell bel2 (kept_cell BT.out (CW.out 3 _ rfl)))
              have z4 := cell_regrown (kept_cell bel2 (kept_cell BT.out (CW.out 4 _ rfl)))
              clear fu' iu bel2 SA BC t0 t1 t2 t3 t4 x0 x1 x2 x3 x4
              go_wp2_with fail
              refine wp_region_quiet_below (by kernel_rfl) (by kernel_rfl) ?_
              repeat (go_big_quiet_step (first | (go_at_call 14; exact Calls.regrown_of (num_below _ _)) | (go_at_call 13; with_reducible exact Calls.regrown_of (sameState_same ta tn tc [] 0 ra rn rc [] 1 v none 0 0 none 0 0 _ (FT2.out.kept (below_regrown _ _ _)) (IT2.out.kept (below_regrown _ _ _)) (Frs.nil _) (Ints.nil _))) | (go_at_call 13; with_reducible exact Calls.regrown_of (sameState_same ua un uc [] 0 ea en ec [] 1 v ta tn tc ra rn rc _ (FU2.out.kept (below_regrown _ _ _)) (IU2.out.kept (below_regrown _ _ _)) (FT2.out.kept (below_regrown _ _ _)) (IT2.out.kept (below_regrown _ _ _))))))
              refine wpQuiet_nil ?_
              intro _ hw'
              obtain ⟨⟨dq, osq⟩, hw''⟩ := hw'
              subst hw''
              have BG := hid (kt BF.out (below_regrown wc dq osq))
              clear r0 r1 r2 r3 r4 y0 y1 y2 y3 y4 z0 z1 z2 z3 z4
              go_wp2_with fail
              go_ret
              exact ⟨rfl, BG.out⟩
        · refine wp_world (U := U) EU.out ?_
          have BC : Below U.heap.size U U := Below.refl _ _
          have SA : Hid (∀ w', Below U.heap.size U w' → (w'.cell? ⟨u8.heap.size, 1, none⟩ = some (.slice zv zn zc) ∧ w'.cell? ⟨u8.heap.size + 1 + 1 + 1 + 1 + 1, 5, none⟩ = some (.slice (some ⟨u8.heap.size + 1 + 1 + 1 + 1, 0, none⟩) 1 1) ∧ w'.cell? ⟨u8.heap.size + 1 + 1 + 1 + 1 + 1, 6, none⟩ = some (.int .i64 5) ∧ w'.cell? ⟨u8.heap.size + 1 + 1 + 1 + 1 + 1, 7, none⟩ = some (.slice none 0 0) ∧ w'.cell? ⟨u8.heap.size + 1 + 1 + 1 + 1 + 1, 8, none⟩ = some (.int .i64 0) ∧ w'.cell? ⟨u8.heap.size + 1 + 1 + 1 + 1 + 1, 9, none⟩ = some (.int .i64 0))) := hid (fun w' b => ⟨kept_cell b (CP.out 1 _ rfl), kept_cell b (CSS.out 5 _ rfl), kept_cell b (CSS.out 6 _ rfl), kept_cell b (CSS.out 7 _ rfl), kept_cell b (CSS.out 8 _ rfl), kept_cell b (CSS.out 9 _ rfl)⟩)
          go_cut [14, 15] (fun s t wx => BoxR U (([], 4, [], 2, 0) : St) 0 s t wx)
          case first =>
            go_region_held3 (fun w' => w'.cell? ⟨u8.heap.size, 1, none⟩ = some (.slice zv zn zc) ∧ w'.cell? ⟨u8.heap.size + 1 + 1 + 1 + 1 + 1, 5, none⟩ = some (.slice (some ⟨u8.heap.size + 1 + 1 + 1 + 1, 0, none⟩) 1 1) ∧ w'.cell? ⟨u8.heap.size + 1 + 1 + 1 + 1 + 1, 6, none⟩ = some (.int .i64 5) ∧ w'.cell? ⟨u8.heap.size + 1 + 1 + 1 + 1 + 1, 7, none⟩ = some (.slice none 0 0) ∧ w'.cell? ⟨u8.heap.size + 1 + 1 + 1 + 1 + 1, 8, none⟩ = some (.int .i64 0) ∧ w'.cell? ⟨u8.heap.size + 1 + 1 + 1 + 1 + 1, 9, none⟩ = some (.int .i64 0)) (first | (refine SA.out _ ?_; (repeat (first | with_reducible exact BC | with_reducible refine pDrew ?_ | with_reducible refine pAlloc ?_ | with_reducible refine pSet (by first | exact Nat.le_refl _ | omega) ?_))))
              (first
                | (go_at_call 11; refine (stepStep_any _ _ _ zeroP _ _ _ [(0, 2, [], [v, 0])] 5 none 0 0 [] 0 0 _ (P1.out.kept ?h1) (Q1.out.kept ?h2) (Ints.nil _) (LDU.out.up ?h3)).mono ?_; (case h1 => (repeat (first | with_reducible exact BC | with_reducible refine pDrew ?_ | with_reducible refine pAlloc ?_ | with_reducible refine pSet (by first | exact Nat.le_refl _ | omega) ?_))); (case h2 => (repeat (first | with_reducible exact BC | with_reducible refine pDrew ?_ | with_reducible refine pAlloc ?_ | with_reducible refine pSet (by first | exact Nat.le_refl _ | omega) ?_))); (case h3 => (repeat (first | with_reducible exact BC | with_reducible refine pDrew ?_ | with_reducible refine pAlloc ?_ | with_reducible refine pSet (by first | exact Nat.le_refl _ | omega) ?_))); rw [(zero_step HV.out).1, (zero_step HV.out).2]; rintro e y ⟨va, vn, vc, xa, xn, xc, rfl, of, oo, b⟩; with_reducible have hz := pNew1 b; have hzl := heap_lt hz; have q0 := cell_of_heap (j := 0) hz rfl; obtain ⟨n0, m0⟩ := q0; have q1 := cell_of_heap (j := 1) hz rfl; obtain ⟨n1, m1⟩ := q1; have q2 := cell_of_heap (j := 2) hz rfl; obtain ⟨n2, m2⟩ := q2; have q3 := cell_of_heap (j := 3) hz rfl; obtain ⟨n3, m3⟩ := q3; have q4 := cell_of_heap (j := 4) hz rfl; obtain ⟨n4, m4⟩ := q4; replace BC : Below U.heap.size U y := kt (by repeat (first | with_reducible exact BC | with_reducible refine pDrew ?_ | with_reducible refine pAlloc ?_ | with_reducible refine pSet (by first | exact Nat.le_refl _ | omega) ?_)) b; have hyU := BC.size; have OF := hid of; have OO := hid oo; clear b of oo)
                | (go_at_call 11; refine (stepStep_any _ _ _ zeroP _ _ _ [(0, 2, [], [v, 0])] 5 none 0 0 [] 0 0 _ (P1.out.kept ?h1) (Q1.out.kept ?h2) (Ints.nil _) (LDU.out.up ?h3)).mono ?_; (case h1 => (repeat (first | with_reducible exact BC | with_reducible refine pDrew ?_ | with_reducible refine pAlloc ?_ | with_reducible refine pSet (by first | exact Nat.le_refl _ | omega) ?_))); (case h2 => (repeat (first | with_reducible exact BC | with_reducible refine pDrew ?_ | with_reducible refine pAlloc ?_ | with_reducible refine pSet (by first | exact Nat.le_refl _ | omega) ?_))); (case h3 => (repeat (first | with_reducible exact BC | with_reducible refine pDrew ?_ | with_reducible refine pAlloc ?_ | with_reducible refine pSet (by first | exact Nat.le_refl _ | omega) ?_))); rw [(zero_step HV.out).1, (zero_step HV.out).2]; rintro e y ⟨va, vn, vc, xa, xn, xc, rfl, of, oo, b⟩; replace BC : Below U.heap.size U y := kt (by repeat (first | with_reducible exact BC | with_reducible refine pDrew ?_ | with_reducible refine pAlloc ?_ | with_reducible refine pSet (by first | exact Nat.le_refl _ | omega) ?_)) b; have hyU := BC.size; have OF := hid of; have OO := hid oo; clear b of oo))
            all_goals
              go_wp2_with fail
              go_meet
              case rel => first | (have hzz := hz; exact box_old OF.out (Nat.zero_le 1000) OO.out BC (by simp) (Nat.le_refl _) hzz) | exact box_new OF.out (Nat.zero_le 1000) OO.out BC
          case rest =>
            obtain ⟨⟨bt, ta, tn, tc, ra, rn, rc, rfl, xt, ft, it⟩, rfl, bel⟩ := hcut
            have XT := hid xt
            have FT := hid ft
            have IT := hid it
            have BT := hid bel
            have PT := hid (P1.out.kept bel)
            have LDT := hid (LDU.out.up bel)
            clear xt ft it bel SA BC EU
            obtain ⟨T1, hT1⟩ : ∃ T1 : World, T1 = wc := ⟨_, rfl⟩
            subst hT1
            go_wp2_with fail
            have BC : Below T1.heap.size T1 T1 := Below.refl _ _
            have SA : Hid (∀ w', Below T1.heap.size T1 w' → (w'.cell? ⟨u8.heap.size, 1, none⟩ = some (.slice zv zn zc) ∧ w'.cell? ⟨bt, 0, none⟩ = some (.slice ta tn tc) ∧ w'.cell? ⟨bt, 1, none⟩ = some (.int .i64 4) ∧ w'.cell? ⟨bt, 2, none⟩ = some (.slice ra rn rc) ∧ w'.cell? ⟨bt, 3, none⟩ = some (.int .i64 2) ∧ w'.cell? ⟨bt, 4, none⟩ = some (.int .i64 0))) := hid (fun w' b => ⟨kept_cell b (kept_cell BT.out (CP.out 1 _ rfl)), kept_cell b XT.out.c0, kept_cell b XT.out.c1, kept_cell b XT.out.c2, kept_cell b XT.out.c3, kept_cell b XT.out.c4⟩)
            go_cut [16, 17] (fun s t wx => BoxR T1 (([], 4, [], 2, 0) : St) 0 s t wx)
            case first =>
              go_region_held3 (fun w' => w'.cell? ⟨u8.heap.size, 1, none⟩ = some (.slice zv zn zc) ∧ w'.cell? ⟨bt, 0, none⟩ = some (.slice ta tn tc) ∧ w'.cell? ⟨bt, 1, none⟩ = some (.int .i64 4) ∧ w'.cell? ⟨bt, 2, none⟩ = some (.slice ra rn rc) ∧ w'.cell? ⟨bt, 3, none⟩ = some (.int .i64 2) ∧ w'.cell? ⟨bt, 4, none⟩ = some (.int .i64 0)) (first | (refine SA.out _ ?_; (repeat (first | with_reducible exact BC | with_reducible refine pDrew ?_ | with_reducible refine pAlloc ?_ | with_reducible refine pSet (by first | exact Nat.le_refl _ | omega) ?_))))
                (first
                  | (go_at_call 11; refine (stepStep_any _ _ _ zeroP _ _ _ [] 4 _ _ _ [] 2 0 _ (PT.out.kept ?h1) (FT.out.kept ?h2) (IT.out.kept ?h4) (LDT.out.up ?h3)).mono ?_; (case h1 => (repeat (first | with_reducible exact BC | with_reducible refine pDrew ?_ | with_reducible refine pAlloc ?_ | with_reducible refine pSet (by first | exact Nat.le_refl _ | omega) ?_))); (case h2 => (repeat (first | with_reducible exact BC | with_reducible refine pDrew ?_ | with_reducible refine pAlloc ?_ | with_reducible refine pSet (by first | exact Nat.le_refl _ | omega) ?_))); (case h3 => (repeat (first | with_reducible exact BC | with_reducible refine pDrew ?_ | with_reducible refine pAlloc ?_ | with_reducible refine pSet (by first | exact Nat.le_refl _ | omega) ?_))); (case h4 => (repeat (first | with_reducible exact BC | with_reducible refine pDrew ?_ | with_reducible refine pAlloc ?_ | with_reducible refine pSet (by first | exact Nat.le_refl _ | omega) ?_))); rw [zero_stay.1, zero_stay.2]; rintro e y ⟨va, vn, vc, xa, xn, xc, rfl, of, oo, b⟩; with_reducible have hz := pNew1 b; have hzl := heap_lt hz; have q0 := cell_of_heap (j := 0) hz rfl; obtain ⟨n0, m0⟩ := q0; have q1 := cell_of_heap (j := 1) hz rfl; obtain ⟨n1, m1⟩ := q1; have q2 := cell_of_heap (j := 2) hz rfl; obtain ⟨n2, m2⟩ := q2; have q3 := cell_of_heap (j := 3) hz rfl; obtain ⟨n3, m3⟩ := q3; have q4 := cell_of_heap (j := 4) hz rfl; obtain ⟨n4, m4⟩ := q4; replace BC : Below T1.heap.size T1 y := kt (by repeat (first | with_reducible exact BC | with_reducible refine pDrew ?_ | with_reducible refine pAlloc ?_ | with_reducible refine pSet (by first | exact Nat.le_refl _ | omega) ?_)) b; have hyU := BC.size; have OF := hid of; have OO := hid oo; clear b of oo)
                  | (go_at_call 11; refine (stepStep_any _ _ _ zeroP _ _ _ [] 4 _ _ _ [] 2 0 _ (PT.out.kept ?h1) (FT.out.kept ?h2) (IT.out.kept ?h4) (LDT.out.up ?h3)).mono ?_; (case h1 => (repeat (first | with_reducible exact BC | with_reducible refine pDrew ?_ | with_reducible refine pAlloc ?_ | with_reducible refine pSet (by first | exact Nat.le_refl _ | omega) ?_))); (case h2 => (repeat (first | with_reducible exact BC | with_reducible refine pDrew ?_ | with_reducible refine pAlloc ?_ | with_reducible refine pSet (by first | exact Nat.le_refl _ | omega) ?_))); (case h3 => (repeat (first | with_reducible exact BC | with_reducible refine pDrew ?_ | with_reducible refine pAlloc ?_ | with_reducible refine pSet (by first | exact Nat.le_refl _ | omega) ?_))); (case h4 => (repeat (first | with_reducible exact BC | with_reducible refine pDrew ?_ | with_reducible refine pAlloc ?_ | with_reducible refine pSet (by first | exact Nat.le_refl _ | omega) ?_))); rw [zero_stay.1, zero_stay.2]; rintro e y ⟨va, vn, vc, xa, xn, xc, rfl, of, oo, b⟩; replace BC : Below T1.heap.size T1 y := kt (by repeat (first | with_reducible exact BC | with_reducible refine pDrew ?_ | with_reducible refine pAlloc ?_ | with_reducible refine pSet (by first | exact Nat.le_refl _ | omega) ?_)) b; have hyU := BC.size; have OF := hid of; have OO := hid oo; clear b of oo))
              all_goals
                go_wp2_with fail
                go_meet
                case rel => first | (have hzz := hz; exact box_old OF.out (Nat.zero_le 1000) OO.out BC (by simp) (Nat.le_refl _) hzz) | exact box_new OF.out (Nat.zero_le 1000) OO.out BC
            case rest =>
              obtain ⟨⟨bu, ua, un, uc, ea, en, ec, rfl, xu, fu', iu⟩, rfl, bel2⟩ := hcut
              have FT2 := hid (FT.out.kept bel2)
              have IT2 := hid (IT.out.kept bel2)
              have FU2 := hid fu'
              have IU2 := hid iu
              have BF := hid (kt (kt BW.out BT.out) bel2)
              obtain ⟨t0, t1, t2, t3, t4, _, _⟩ := XT.out.kept bel2
              obtain ⟨x0, x1, x2, x3, x4, _, _⟩ := xu
              have r0 := cell_regrown t0
              have r1 := cell_regrown t1
              have r2 := cell_regrown t2
              have r3 := cell_regrown t3
              have r4 := cell_regrown t4
              have y0 := cell_regrown x0
              have y1 := cell_regrown x1
              have y2 := cell_regrown x2
              have y3 := cell_regrown x3
              have y4 := cell_regrown x4
              have z0 := cell_regrown (kept_cell bel2 (kept_cell BT.out (CW.out 5 _ rfl)))
              have z1 := cell_regrown (kept_cell bel2 (kept_cell BT.out (CW.out 6 _ rfl)))
              have z2 := cell_regrown (kept_cell bel2 (kept_cell BT.out (CW.out 7 _ rfl)))
              have z3 := cell_regrown (kept_cell bel2 (kept_cell BT.out (CW.out 8 _ rfl)))
              have z4 := cell_regrown (kept_cell bel2 (kept_cell BT.out (CW.out 9 _ rfl)))
              clear fu' iu bel2 SA BC t0 t1 t2 t3 t4 x0 x1 x2 x3 x4
              go_wp2_with fail
              refine wp_region_quiet_below (by kernel_rfl) (by kernel_rfl) ?_
              repeat (go_big_quiet_step (first | (go_at_call 14; exact Calls.regrown_of (num_below _ _)) | (go_at_call 13; with_reducible exact Calls.regrown_of (sameState_same ta tn tc [] 4 ra rn rc [] 2 0 none 0 0 none 0 0 _ (FT2.out.kept (below_regrown _ _ _)) (IT2.out.kept (below_regrown _ _ _)) (Frs.nil _) (Ints.nil _))) | (go_at_call 13; with_reducible exact Calls.regrown_of (sameState_same ua un uc [] 4 ea en ec [] 2 0 ta tn tc ra rn rc _ (FU2.out.kept (below_regrown _ _ _)) (IU2.out.kept (below_regrown _ _ _)) (FT2.out.kept (below_regrown _ _ _)) (IT2.out.kept (below_regrown _ _ _))))))
              refine wpQuiet_nil ?_
              intro _ hw'
              obtain ⟨⟨dq, osq⟩, hw''⟩ := hw'
              subst hw''
              have BG := hid (kt BF.out (below_regrown wc dq osq))
              clear r0 r1 r2 r3 r4 y0 y1 y2 y3 y4 z0 z1 z2 z3 z4
              go_wp2_with fail
              go_ret
              exact ⟨rfl, BG.out⟩
        · refine wp_world (U := U) EU.out ?_
          have BC : Below U.heap.size U U := Below.refl _ _
          have SA : Hid (∀ w', Below U.heap.size U w' → (w'.cell? ⟨u8.heap.size, 2, none⟩ = some (.slice v2 n2 c2) ∧ w'.cell? ⟨u8.heap.size + 1 + 1 + 1 + 1 + 1, 10, none⟩ = some (.slice (some ⟨g, 0, none⟩) 12 cap) ∧ w'.cell? ⟨u8.heap.size + 1 + 1 + 1 + 1 + 1, 11, none⟩ = some (.int .i64 5) ∧ w'.cell? ⟨u8.heap.size + 1 + 1 + 1 + 1 + 1, 12, none⟩ = some (.slice none 0 0) ∧ w'.cell? ⟨u8.heap.size + 1 + 1 + 1 + 1 + 1, 13, none⟩ = some (.int .i64 0) ∧ w'.cell? ⟨u8.heap.size + 1 + 1 + 1 + 1 + 1, 14, none⟩ = some (.int .i64 0))) := hid (fun w' b => ⟨kept_cell b (CP.out 2 _ rfl), kept_cell b (CSS.out 10 _ rfl), kept_cell b (CSS.out 11 _ rfl), kept_cell b (CSS.out 12 _ rfl), kept_cell b (CSS.out 13 _ rfl), kept_cell b (CSS.out 14 _ rfl)⟩)
          go_cut [14, 15] (fun s t wx => BoxR U (([], 4, [], 3, 0) : St) 0 s t wx)
          case first =>
            go_region_held3 (fun w' => w'.cell? ⟨u8.heap.size, 2, none⟩ = some (.slice v2 n2 c2) ∧ w'.cell? ⟨u8.heap.size + 1 + 1 + 1 + 1 + 1, 10, none⟩ = some (.slice (some ⟨g, 0, none⟩) 12 cap) ∧ w'.cell? ⟨u8.heap.size + 1 + 1 + 1 + 1 + 1, 11, none⟩ = some (.int .i64 5) ∧ w'.cell? ⟨u8.heap.size + 1 + 1 + 1 + 1 + 1, 12, none⟩ = some (.slice none 0 0) ∧ w'.cell? ⟨u8.heap.size + 1 + 1 + 1 + 1 + 1, 13, none⟩ = some (.int .i64 0) ∧ w'.cell? ⟨u8.heap.size + 1 + 1 + 1 + 1 + 1, 14, none⟩ = some (.int .i64 0)) (first | (refine SA.out _ ?_; (repeat (first | with_reducible exact BC | with_reducible refine pDrew ?_ | with_reducible refine pAlloc ?_ | with_reducible refine pSet (by first | exact Nat.le_refl _ | omega) ?_))))
              (first
                | (go_at_call 11; refine (stepStep_any _ _ _ selfP _ _ _ deepF 5 none 0 0 [] 0 0 _ (P2.out.kept ?h1) (Q2.out.kept ?h2) (Ints.nil _) (LDU.out.up ?h3)).mono ?_; (case h1 => (repeat (first | with_reducible exact BC | with_reducible refine pDrew ?_ | with_reducible refine pAlloc ?_ | with_reducible refine pSet (by first | exact Nat.le_refl _ | omega) ?_))); (case h2 => (repeat (first | with_reducible exact BC | with_reducible refine pDrew ?_ | with_reducible refine pAlloc ?_ | with_reducible refine pSet (by first | exact Nat.le_refl _ | omega) ?_))); (case h3 => (repeat (first | with_reducible exact BC | with_reducible refine pDrew ?_ | with_reducible refine pAlloc ?_ | with_reducible refine pSet (by first | exact Nat.le_refl _ | omega) ?_))); rw [deep_step.1, deep_step.2]; rintro e y ⟨va, vn, vc, xa, xn, xc, rfl, of, oo, b⟩; with_reducible have hz := pNew1 b; have hzl := heap_lt hz; have q0 := cell_of_heap (j := 0) hz rfl; obtain ⟨n0, m0⟩ := q0; have q1 := cell_of_heap (j := 1) hz rfl; obtain ⟨n1, m1⟩ := q1; have q2 := cell_of_heap (j := 2) hz rfl; obtain ⟨n2, m2⟩ := q2; have q3 := cell_of_heap (j := 3) hz rfl; obtain ⟨n3, m3⟩ := q3; have q4 := cell_of_heap (j := 4) hz rfl; obtain ⟨n4, m4⟩ := q4; replace BC : Below U.heap.size U y := kt (by repeat (first | with_reducible exact BC | with_reducible refine pDrew ?_ | with_reducible refine pAlloc ?_ | with_reducible refine pSet (by first | exact Nat.le_refl _ | omega) ?_)) b; have hyU := BC.size; have OF := hid of; have OO := hid oo; clear b of oo)
                | (go_at_call 11; refine (stepStep_any _ _ _ selfP _ _ _ deepF 5 none 0 0 [] 0 0 _ (P2.out.kept ?h1) (Q2.out.kept ?h2) (Ints.nil _) (LDU.out.up ?h3)).mono ?_; (case h1 => (repeat (first | with_reducible exact BC | with_reducible refine pDrew ?_ | with_reducible refine pAlloc ?_ | with_reducible refine pSet (by first | exact Nat.le_refl _ | omega) ?_))); (case h2 => (repeat (first | with_reducible exact BC | with_reducible refine pDrew ?_ | with_reducible refine pAlloc ?_ | with_reducible refine pSet (by first | exact Nat.le_refl _ | omega) ?_))); (case h3 => (repeat (first | with_reducible exact BC | with_reducible refine pDrew ?_ | with_reducible refine pAlloc ?_ | with_reducible refine pSet (by first | exact Nat.le_refl _ | omega) ?_))); rw [deep_step.1, deep_step.2]; rintro e y ⟨va, vn, vc, xa, xn, xc, rfl, of, oo, b⟩; replace BC : Below U.heap.size U y := kt (by repeat (first | with_reducible exact BC | with_reducible refine pDrew ?_ | with_reducible refine pAlloc ?_ | with_reducible refine pSet (by first | exact Nat.le_refl _ | omega) ?_)) b; have hyU := BC.size; have OF := hid of; have OO := hid oo; clear b of oo))
            all_goals
              go_wp2_with fail
              go_meet
              case rel => first | (have hzz := hz; exact box_old OF.out (Nat.zero_le 1000) OO.out BC (by simp) (Nat.le_refl _) hzz) | exact box_new OF.out (Nat.zero_le 1000) OO.out BC
          case rest =>
            obtain ⟨⟨bt, ta, tn, tc, ra, rn, rc, rfl, xt, ft, it⟩, rfl, bel⟩ := hcut
            have XT := hid xt
            have FT := hid ft
            have IT := hid it
            have BT := hid bel
            have PT := hid (P2.out.kept bel)
            have LDT := hid (LDU.out.up bel)
            clear xt ft it bel SA BC EU
            obtain ⟨T1, hT1⟩ : ∃ T1 : World, T1 = wc := ⟨_, rfl⟩
            subst hT1
            go_wp2_with fail
            have BC : Below T1.heap.size T1 T1 := Below.refl _ _
            have SA : Hid (∀ w', Below T1.heap.size T1 w' → (w'.cell? ⟨u8.heap.size, 2, none⟩ = some (.slice v2 n2 c2) ∧ w'.cell? ⟨bt, 0, none⟩ = some (.slice ta tn tc) ∧ w'.cell? ⟨bt, 1, none⟩ = some (.int .i64 4) ∧ w'.cell? ⟨bt, 2, none⟩ = some (.slice ra rn rc) ∧ w'.cell? ⟨bt, 3, none⟩ = some (.int .i64 3) ∧ w'.cell? ⟨bt, 4, none⟩ = some (.int .i64 0))) := hid (fun w' b => ⟨kept_cell b (kept_cell BT.out (CP.out 2 _ rfl)), kept_cell b XT.out.c0, kept_cell b XT.out.c1, kept_cell b XT.out.c2, kept_cell b XT.out.c3, kept_cell b XT.out.c4⟩)
            go_cut [16, 17] (fun s t wx => BoxR T1 (([], 4, [], 3, 0) : St) 0 s t wx)
            case first =>
              go_region_held3 (fun w' => w'.cell? ⟨u8.heap.size, 2, none⟩ = some (.slice v2 n2 c2) ∧ w'.cell? ⟨bt, 0, none⟩ = some (.slice ta tn tc) ∧ w'.cell? ⟨bt, 1, none⟩ = some (.int .i64 4) ∧ w'.cell? ⟨bt, 2, none⟩ = some (.slice ra rn rc) ∧ w'.cell? ⟨bt, 3, none⟩ = some (.int .i64 3) ∧ w'.cell? ⟨bt, 4, none⟩ = some (.int .i64 0)) (first | (refine SA.out _ ?_; (repeat (first | with_reducible exact BC | with_reducible refine pDrew ?_ | with_reducible refine pAlloc ?_ | with_reducible refine pSet (by first | exact Nat.le_refl _ | omega) ?_))))
                (first
                  | (go_at_call 11; refine (stepStep_any _ _ _ selfP _ _ _ [] 4 _ _ _ [] 3 0 _ (PT.out.kept ?h1) (FT.out.kept ?h2) (IT.out.kept ?h4) (LDT.out.up ?h3)).mono ?_; (case h1 => (repeat (first | with_reducible exact BC | with_reducible refine pDrew ?_ | with_reducible refine pAlloc ?_ | with_reducible refine pSet (by first | exact Nat.le_refl _ | omega) ?_))); (case h2 => (repeat (first | with_reducible exact BC | with_reducible refine pDrew ?_ | with_reducible refine pAlloc ?_ | with_reducible refine pSet (by first | exact Nat.le_refl _ | omega) ?_))); (case h3 => (repeat (first | with_reducible exact BC | with_reducible refine pDrew ?_ | with_reducible refine pAlloc ?_ | with_reducible refine pSet (by first | exact Nat.le_refl _ | omega) ?_))); (case h4 => (repeat (first | with_reducible exact BC | with_reducible refine pDrew ?_ | with_reducible refine pAlloc ?_ | with_reducible refine pSet (by first | exact Nat.le_refl _ | omega) ?_))); rw [deep_stay.1, deep_stay.2]; rintro e y ⟨va, vn, vc, xa, xn, xc, rfl, of, oo, b⟩; with_reducible have hz := pNew1 b; have hzl := heap_lt hz; have q0 := cell_of_heap (j := 0) hz rfl; obtain ⟨n0, m0⟩ := q0; have q1 := cell_of_heap (j := 1) hz rfl; obtain ⟨n1, m1⟩ := q1; have q2 := cell_of_heap (j := 2) hz rfl; obtain ⟨n2, m2⟩ := q2; have q3 := cell_of_heap (j := 3) hz rfl; obtain ⟨n3, m3⟩ := q3; have q4 := cell_of_heap (j := 4) hz rfl; obtain ⟨n4, m4⟩ := q4; replace BC : Below T1.heap.size T1 y := kt (by repeat (first | with_reducible exact BC | with_reducible refine pDrew ?_ | with_reducible refine pAlloc ?_ | with_reducible refine pSet (by first | exact Nat.le_refl _ | omega) ?_)) b; have hyU := BC.size; have OF := hid of; have OO := hid oo; clear b of oo)
                  | (go_at_call 11; refine (stepStep_any _ _ _ selfP _ _ _ [] 4 _ _ _ [] 3 0 _ (PT.out.kept ?h1) (FT.out.kept ?h2) (IT.out.kept ?h4) (LDT.out.up ?h3)).mono ?_; (case h1 => (repeat (first | with_reducible exact BC | with_reducible refine pDrew ?_ | with_reducible refine pAlloc ?_ | with_reducible refine pSet (by first | exact Nat.le_refl _ | omega) ?_))); (case h2 => (repeat (first | with_reducible exact BC | with_reducible refine pDrew ?_ | with_reducible refine pAlloc ?_ | with_reducible refine pSet (by first | exact Nat.le_refl _ | omega) ?_))); (case h3 => (repeat (first | with_reducible exact BC | with_reducible refine pDrew ?_ | with_reducible refine pAlloc ?_ | with_reducible refine pSet (by first | exact Nat.le_refl _ | omega) ?_))); (case h4 => (repeat (first | with_reducible exact BC | with_reducible refine pDrew ?_ | with_reducible refine pAlloc ?_ | with_reducible refine pSet (by first | exact Nat.le_refl _ | omega) ?_))); rw [deep_stay.1, deep_stay.2]; rintro e y ⟨va, vn, vc, xa, xn, xc, rfl, of, oo, b⟩; replace BC : Below T1.heap.size T1 y := kt (by repeat (first | with_reducible exact BC | with_reducible refine pDrew ?_ | with_reducible refine pAlloc ?_ | with_reducible refine pSet (by first | exact Nat.le_refl _ | omega) ?_)) b; have hyU := BC.size; have OF := hid of; have OO := hid oo; clear b of oo))
              all_goals
                go_wp2_with fail
                go_meet
                case rel => first | (have hzz := hz; exact box_old OF.out (Nat.zero_le 1000) OO.out BC (by simp) (Nat.le_refl _) hzz) | exact box_new OF.out (Nat.zero_le 1000) OO.out BC
            case rest =>
              obtain ⟨⟨bu, ua, un, uc, ea, en, ec, rfl, xu, fu', iu⟩, rfl, bel2⟩ := hcut
              have FT2 := hid (FT.out.kept bel2)
              have IT2 := hid (IT.out.kept bel2)
              have FU2 := hid fu'
              have IU2 := hid iu
              have BF := hid (kt (kt BW.out BT.out) bel2)
              obtain ⟨t0, t1, t2, t3, t4, _, _⟩ := XT.out.kept bel2
              obtain ⟨x0, x1, x2, x3, x4, _, _⟩ := xu
              have r0 := cell_regrown t0
              have r1 := cell_regrown t1
              have r2 := cell_regrown t2
              have r3 := cell_regrown t3
              have r4 := cell_regrown t4
              have y0 := cell_regrown x0
              have y1 := cell_regrown x1
              have y2 := cell_regrown x2
              have y3 := cell_regrown x3
              have y4 := cell_regrown x4
              have z0 := cell_regrown (kept_cell bel2 (kept_cell BT.out (CW.out 10 _ rfl)))
              have z1 := cell_regrown (kept_cell bel2 (kept_cell BT.out (CW.out 11 _ rfl)))
              have z2 := cell_regrown (kept_cell bel2 (kept_cell BT.out (CW.out 12 _ rfl)))
              have z3 := cell_regrown (kept_cell bel2 (kept_cell BT.out (CW.out 13 _ rfl)))
              have z4 := cell_regrown (kept_cell bel2 (kept_cell BT.out (CW.out 14 _ rfl)))
              clear fu' iu bel2 SA BC t0 t1 t2 t3 t4 x0 x1 x2 x3 x4
              go_wp2_with fail
              refine wp_region_quiet_below (by kernel_rfl) (by kernel_rfl) ?_
              repeat (go_big_quiet_step (first | (go_at_call 14; exact Calls.regrown_of (num_below _ _)) | (go_at_call 13; with_reducible exact Calls.regrown_of (sameState_same ta tn tc [] 4 ra rn rc [] 3 0 none 0 0 none 0 0 _ (FT2.out.kept (below_regrown _ _ _)) (IT2.out.kept (below_regrown _ _ _)) (Frs.nil _) (Ints.nil _))) | (go_at_call 13; with_reducible exact Calls.regrown_of (sameState_same ua un uc [] 4 ea en ec [] 3 0 ta tn tc ra rn rc _ (FU2.out.kept (below_regrown _ _ _)) (IU2.out.kept (below_regrown _ _ _)) (FT2.out.kept (below_regrown _ _ _)) (IT2.out.kept (below_regrown _ _ _))))))
              refine wpQuiet_nil ?_
              intro _ hw'
              obtain ⟨⟨dq, osq⟩, hw''⟩ := hw'
              subst hw''
              have BG := hid (kt BF.out (below_regrown wc dq osq))
              clear r0 r1 r2 r3 r4 y0 y1 y2 y3 y4 z0 z1 z2 z3 z4
              go_wp2_with fail
              go_ret
              exact ⟨rfl, BG.out⟩
        · refine wp_world (U := U) EU.out ?_
          have BC : Below U.heap.size U U := Below.refl _ _
          have SA : Hid (∀ w', Below U.heap.size U w' → (w'.cell? ⟨u8.heap.size, 3, none⟩ = some (.slice v2 n2 c2) ∧ w'.cell? ⟨u8.heap.size + 1 + 1 + 1 + 1 + 1, 15, none⟩ = some (.slice (some ⟨g, 0, none⟩) 12 cap) ∧ w'.cell? ⟨u8.heap.size + 1 + 1 + 1 + 1 + 1, 16, none⟩ = some (.int .i64 0) ∧ w'.cell? ⟨u8.heap.size + 1 + 1 + 1 + 1 + 1, 17, none⟩ = some (.slice none 0 0) ∧ w'.cell? ⟨u8.heap.size + 1 + 1 + 1 + 1 + 1, 18, none⟩ = some (.int .i64 0) ∧ w'.cell? ⟨u8.heap.size + 1 + 1 + 1 + 1 + 1, 19, none⟩ = some (.int .i64 0))) := hid (fun w' b => ⟨kept_cell b (CP.out 3 _ rfl), kept_cell b (CSS.out 15 _ rfl), kept_cell b (CSS.out 16 _ rfl), kept_cell b (CSS.out 17 _ rfl), kept_cell b (CSS.out 18 _ rfl), kept_cell b (CSS.out 19 _ rfl)⟩)
          go_cut [14, 15] (fun s t wx => BoxR U (([], 0, [], 4, 0) : St) 0 s t wx)
          case first =>
            go_region_held3 (fun w' => w'.cell? ⟨u8.heap.size, 3, none⟩ = some (.slice v2 n2 c2) ∧ w'.cell? ⟨u8.heap.size + 1 + 1 + 1 + 1 + 1, 15, none⟩ = some (.slice (some ⟨g, 0, none⟩) 12 cap) ∧ w'.cell? ⟨u8.heap.size + 1 + 1 + 1 + 1 + 1, 16, none⟩ = some (.int .i64 0) ∧ w'.cell? ⟨u8.heap.size + 1 + 1 + 1 + 1 + 1, 17, none⟩ = some (.slice none 0 0) ∧ w'.cell? ⟨u8.heap.size + 1 + 1 + 1 + 1 + 1, 18, none⟩ = some (.int .i64 0) ∧ w'.cell? ⟨u8.heap.size + 1 + 1 + 1 + 1 + 1, 19, none⟩ = some (.int .i64 0)) (first | (refine SA.out _ ?_; (repeat (first | with_reducible exact BC | with_reducible refine pDrew ?_ | with_reducible refine pAlloc ?_ | with_reducible refine pSet (by first | exact Nat.le_refl _ | omega) ?_))))
              (first
                | (go_at_call 11; refine (stepStep_any _ _ _ selfP _ _ _ deepF 0 none 0 0 [] 0 0 _ (P2.out.kept ?h1) (Q2.out.kept ?h2) (Ints.nil _) (LDU.out.up ?h3)).mono ?_; (case h1 => (repeat (first | with_reducible exact BC | with_reducible refine pDrew ?_ | with_reducible refine pAlloc ?_ | with_reducible refine pSet (by first | exact Nat.le_refl _ | omega) ?_))); (case h2 => (repeat (first | with_reducible exact BC | with_reducible refine pDrew ?_ | with_reducible refine pAlloc ?_ | with_reducible refine pSet (by first | exact Nat.le_refl _ | omega) ?_))); (case h3 => (repeat (first | with_reducible exact BC | with_reducible refine pDrew ?_ | with_reducible refine pAlloc ?_ | with_reducible refine pSet (by first | exact Nat.le_refl _ | omega) ?_))); rw [fuel_step.1, fuel_step.2]; rintro e y ⟨va, vn, vc, xa, xn, xc, rfl, of, oo, b⟩; with_reducible have hz := pNew1 b; have hzl := heap_lt hz; have q0 := cell_of_heap (j := 0) hz rfl; obtain ⟨n0, m0⟩ := q0; have q1 := cell_of_heap (j := 1) hz rfl; obtain ⟨n1, m1⟩ := q1; have q2 := cell_of_heap (j := 2) hz rfl; obtain ⟨n2, m2⟩ := q2; have q3 := cell_of_heap (j := 3) hz rfl; obtain ⟨n3, m3⟩ := q3; have q4 := cell_of_heap (j := 4) hz rfl; obtain ⟨n4, m4⟩ := q4; replace BC : Below U.heap.size U y := kt (by repeat (first | with_reducible exact BC | with_reducible refine pDrew ?_ | with_reducible refine pAlloc ?_ | with_reducible refine pSet (by first | exact Nat.le_refl _ | omega) ?_)) b; have hyU := BC.size; have OF := hid of; have OO := hid oo; clear b of oo)
                | (go_at_call 11; refine (stepStep_any _ _ _ selfP _ _ _ deepF 0 none 0 0 [] 0 0 _ (P2.out.kept ?h1) (Q2.out.kept ?h2) (Ints.nil _) (LDU.out.up ?h3)).mono ?_; (case h1 => (repeat (first | with_reducible exact BC | with_reducible refine pDrew ?_ | with_reducible refine pAlloc ?_ | with_reducible refine pSet (by first | exact Nat.le_refl _ | omega) ?_))); (case h2 => (repeat (first | with_reducible exact BC | with_reducible refine pDrew ?_ | with_reducible refine pAlloc ?_ | with_reducible refine pSet (by first | exact Nat.le_refl _ | omega) ?_))); (case h3 => (repeat (first | with_reducible exact BC | with_reducible refine pDrew ?_ | with_reducible refine pAlloc ?_ | with_reducible refine pSet (by first | exact Nat.le_refl _ | omega) ?_))); rw [fuel_step.1, fuel_step.2]; rintro e y ⟨va, vn, vc, xa, xn, xc, rfl, of, oo, b⟩; replace BC : Below U.heap.size U y := kt (by repeat (first | with_reducible exact BC | with_reducible refine pDrew ?_ | with_reducible refine pAlloc ?_ | with_reducible refine pSet (by first | exact Nat.le_refl _ | omega) ?_)) b; have hyU := BC.size; have OF := hid of; have OO := hid oo; clear b of oo))
            all_goals
              go_wp2_with fail
              go_meet
              case rel => first | (have hzz := hz; exact box_old OF.out (Nat.zero_le 1000) OO.out BC (by simp) (Nat.le_refl _) hzz) | exact box_new OF.out (Nat.zero_le 1000) OO.out BC
          case rest =>
            obtain ⟨⟨bt, ta, tn, tc, ra, rn, rc, rfl, xt, ft, it⟩, rfl, bel⟩ := hcut
            have XT := hid xt
            have FT := hid ft
            have IT := hid it
            have BT := hid bel
            have PT := hid (P2.out.kept bel)
            have LDT := hid (LDU.out.up bel)
            clear xt ft it bel SA BC EU
            obtain ⟨T1, hT1⟩ : ∃ T1 : World, T1 = wc := ⟨_, rfl⟩
            subst hT1
            go_wp2_with fail
            have BC : Below T1.heap.size T1 T1 := Below.refl _ _
            have SA : Hid (∀ w', Below T1.heap.size T1 w' → (w'.cell? ⟨u8.heap.size, 3, none⟩ = some (.slice v2 n2 c2) ∧ w'.cell? ⟨bt, 0, none⟩ = some (.slice ta tn tc) ∧ w'.cell? ⟨bt, 1, none⟩ = some (.int .i64 0) ∧ w'.cell? ⟨bt, 2, none⟩ = some (.slice ra rn rc) ∧ w'.cell? ⟨bt, 3, none⟩ = some (.int .i64 4) ∧ w'.cell? ⟨bt, 4, none⟩ = some (.int .i64 0))) := hid (fun w' b => ⟨kept_cell b (kept_cell BT.out (CP.out 3 _ rfl)), kept_cell b XT.out.c0, kept_cell b XT.out.c1, kept_cell b XT.out.c2, kept_cell b XT.out.c3, kept_cell b XT.out.c4⟩)
            go_cut [16, 17] (fun s t wx => BoxR T1 (([], 0, [], 4, 0) : St) 0 s t wx)
            case first =>
              go_region_held3 (fun w' => w'.cell? ⟨u8.heap.size, 3, none⟩ = some (.slice v2 n2 c2) ∧ w'.cell? ⟨bt, 0, none⟩ = some (.slice ta tn tc) ∧ w'.cell? ⟨bt, 1, none⟩ = some (.int .i64 0) ∧ w'.cell? ⟨bt, 2, none⟩ = some (.slice ra rn rc) ∧ w'.cell? ⟨bt, 3, none⟩ = some (.int .i64 4) ∧ w'.cell? ⟨bt, 4, none⟩ = some (.int .i64 0)) (first | (refine SA.out _ ?_; (repeat (first | with_reducible exact BC | with_reducible refine pDrew ?_ | with_reducible refine pAlloc ?_ | with_reducible refine pSet (by first | exact Nat.le_refl _ | omega) ?_))))
                (first
                  | (go_at_call 11; refine (stepStep_any _ _ _ selfP _ _ _ [] 0 _ _ _ [] 4 0 _ (PT.out.kept ?h1) (FT.out.kept ?h2) (IT.out.kept ?h4) (LDT.out.up ?h3)).mono ?_; (case h1 => (repeat (first | with_reducible exact BC | with_reducible refine pDrew ?_ | with_reducible refine pAlloc ?_ | with_reducible refine pSet (by first | exact Nat.le_refl _ | omega) ?_))); (case h2 => (repeat (first | with_reducible exact BC | with_reducible refine pDrew ?_ | with_reducible refine pAlloc ?_ | with_reducible refine pSet (by first | exact Nat.le_refl _ | omega) ?_))); (case h3 => (repeat (first | with_reducible exact BC | with_reducible refine pDrew ?_ | with_reducible refine pAlloc ?_ | with_reducible refine pSet (by first | exact Nat.le_refl _ | omega) ?_))); (case h4 => (repeat (first | with_reducible exact BC | with_reducible refine pDrew ?_ | with_reducible refine pAlloc ?_ | with_reducible refine pSet (by first | exact Nat.le_refl _ | omega) ?_))); rw [fuel_stay.1, fuel_stay.2]; rintro e y ⟨va, vn, vc, xa, xn, xc, rfl, of, oo, b⟩; with_reducible have hz := pNew1 b; have hzl := heap_lt hz; have q0 := cell_of_heap (j := 0) hz rfl; obtain ⟨n0, m0⟩ := q0; have q1 := cell_of_heap (j := 1) hz rfl; obtain ⟨n1, m1⟩ := q1; have q2 := cell_of_heap (j := 2) hz rfl; obtain ⟨n2, m2⟩ := q2; have q3 := cell_of_heap (j := 3) hz rfl; obtain ⟨n3, m3⟩ := q3; have q4 := cell_of_heap (j := 4) hz rfl; obtain ⟨n4, m4⟩ := q4; replace BC : Below T1.heap.size T1 y := kt (by repeat (first | with_reducible exact BC | with_reducible refine pDrew ?_ | with_reducible refine pAlloc ?_ | with_reducible refine pSet (by first | exact Nat.le_refl _ | omega) ?_)) b; have hyU := BC.size; have OF := hid of; have OO := hid oo; clear b of oo)
                  | (go_at_call 11; refine (stepStep_any _ _ _ selfP _ _ _ [] 0 _ _ _ [] 4 0 _ (PT.out.kept ?h1) (FT.out.kept ?h2) (IT.out.kept ?h4) (LDT.out.up ?h3)).mono ?_; (case h1 => (repeat (first | with_reducible exact BC | with_reducible refine pDrew ?_ | with_reducible refine pAlloc ?_ | with_reducible refine pSet (by first | exact Nat.le_refl _ | omega) ?_))); (case h2 => (repeat (first | with_reducible exact BC | with_reducible refine pDrew ?_ | with_reducible refine pAlloc ?_ | with_reducible refine pSet (by first | exact Nat.le_refl _ | omega) ?_))); (case h3 => (repeat (first | with_reducible exact BC | with_reducible refine pDrew ?_ | with_reducible refine pAlloc ?_ | with_reducible refine pSet (by first | exact Nat.le_refl _ | omega) ?_))); (case h4 => (repeat (first | with_reducible exact BC | with_reducible refine pDrew ?_ | with_reducible refine pAlloc ?_ | with_reducible refine pSet (by first | exact Nat.le_refl _ | omega) ?_))); rw [fuel_stay.1, fuel_stay.2]; rintro e y ⟨va, vn, vc, xa, xn, xc, rfl, of, oo, b⟩; replace BC : Below T1.heap.size T1 y := kt (by repeat (first | with_reducible exact BC | with_reducible refine pDrew ?_ | with_reducible refine pAlloc ?_ | with_reducible refine pSet (by first | exact Nat.le_refl _ | omega) ?_)) b; have hyU := BC.size; have OF := hid of; have OO := hid oo; clear b of oo))
              all_goals
                go_wp2_with fail
                go_meet
                case rel => first | (have hzz := hz; exact box_old OF.out (Nat.zero_le 1000) OO.out BC (by simp) (Nat.le_refl _) hzz) | exact box_new OF.out (Nat.zero_le 1000) OO.out BC
            case rest =>
              obtain ⟨⟨bu, ua, un, uc, ea, en, ec, rfl, xu, fu', iu⟩, rfl, bel2⟩ := hcut
              have FT2 := hid (FT.out.kept bel2)
              have IT2 := hid (IT.out.kept bel2)
              have FU2 := hid fu'
              have IU2 := hid iu
              have BF := hid (kt (kt BW.out BT.out) bel2)
              obtain ⟨t0, t1, t2, t3, t4, _, _⟩ := XT.out.kept bel2
              obtain ⟨x0, x1, x2, x3, x4, _, _⟩ := xu
              have r0 := cell_regrown t0
              have r1 := cell_regrown t1
              have r2 := cell_regrown t2
              have r3 := cell_regrown t3
              have r4 := cell_regrown t4
              have y0 := cell_regrown x0
              have y1 := cell_regrown x1
              have y2 := cell_regrown x2
              have y3 := cell_regrown x3
              have y4 := cell_regrown x4
              have z0 := cell_regrown (kept_cell bel2 (kept_cell BT.out (CW.out 15 _ rfl)))
              have z1 := cell_regrown (kept_cell bel2 (kept_cell BT.out (CW.out 16 _ rfl)))
              have z2 := cell_regrown (kept_cell bel2 (kept_cell BT.out (CW.out 17 _ rfl)))
              have z3 := cell_regrown (kept_cell bel2 (kept_cell BT.out (CW.out 18 _ rfl)))
              have z4 := cell_regrown (kept_cell bel2 (kept_cell BT.out (CW.out 19 _ rfl)))
              clear fu' iu bel2 SA BC t0 t1 t2 t3 t4 x0 x1 x2 x3 x4
              go_wp2_with fail
              refine wp_region_quiet_below (by kernel_rfl) (by kernel_rfl) ?_
              repeat (go_big_quiet_step (first | (go_at_call 14; exact Calls.regrown_of (num_below _ _)) | (go_at_call 13; with_reducible exact Calls.regrown_of (sameState_same ta tn tc [] 0 ra rn rc [] 4 0 none 0 0 none 0 0 _ (FT2.out.kept (below_regrown _ _ _)) (IT2.out.kept (below_regrown _ _ _)) (Frs.nil _) (Ints.nil _))) | (go_at_call 13; with_reducible exact Calls.regrown_of (sameState_same ua un uc [] 0 ea en ec [] 4 0 ta tn tc ra rn rc _ (FU2.out.kept (below_regrown _ _ _)) (IU2.out.kept (below_regrown _ _ _)) (FT2.out.kept (below_regrown _ _ _)) (IT2.out.kept (below_regrown _ _ _))))))
              refine wpQuiet_nil ?_
              intro _ hw'
              obtain ⟨⟨dq, osq⟩, hw''⟩ := hw'
              subst hw''
              have BG := hid (kt BF.out (below_regrown wc dq osq))
              clear r0 r1 r2 r3 r4 y0 y1 y2 y3 y4 z0 z1 z2 z3 z4
              go_wp2_with fail
              go_ret
              exact ⟨rfl, BG.out⟩

set_option maxRecDepth 100000 in
theorem lifted (os : Os) (started : os.Started) (H : Type) (enc : TypeId × Value → H) :
    ReturnsInHanded {} Tryz.checked os 6 .any (fun w args => (Rows.stepEndsSpec.pre enc Tryz.prog Tryz.f6 [] false w args ∧ laidMetH Tryz.prog [("math/bits.deBruijn32tab", Rows.laid_math_bits_deBruijn32tab), ("math/bits.deBruijn64tab", Rows.laid_math_bits_deBruijn64tab), ("internal/strconv.uint64pow10", Rows.laid_internal_strconv_uint64pow10), ("errors.errorType", Rows.laid_errors_errorType), ("swage/pack.errForm", Rows.laid_swage_pack_errForm), ("swage/pack.errEnd", Rows.laid_swage_pack_errEnd)] w) ∧ sizedMet enc Tryz.prog Tryz.f6 (OpenSpec.ofChange Rows.stepEndsSpec) false w args) (Rows.stepEndsSpec.post enc Tryz.prog Tryz.f6 false true false false) := by
  refine returnsInHanded_of_change_and (C := Tryz.checked) (X := fun w _ => laidMetH Tryz.prog [("math/bits.deBruijn32tab", Rows.laid_math_bits_deBruijn32tab), ("math/bits.deBruijn64tab", Rows.laid_math_bits_deBruijn64tab), ("internal/strconv.uint64pow10", Rows.laid_internal_strconv_uint64pow10), ("errors.errorType", Rows.laid_errors_errorType), ("swage/pack.errForm", Rows.laid_swage_pack_errForm), ("swage/pack.errEnd", Rows.laid_swage_pack_errEnd)] w) (fun _ _ _ hh h => h.of_heap hh) own started (by kernel_rfl) Tryz.func6
    (ChangeSpec.witness_shaped (enc := enc) (C := Tryz.checked) (os := os) (X := fun w _ => laidMetH Tryz.prog [("math/bits.deBruijn32tab", Rows.laid_math_bits_deBruijn32tab), ("math/bits.deBruijn64tab", Rows.laid_math_bits_deBruijn64tab), ("internal/strconv.uint64pow10", Rows.laid_internal_strconv_uint64pow10), ("errors.errorType", Rows.laid_errors_errorType), ("swage/pack.errForm", Rows.laid_swage_pack_errForm), ("swage/pack.errEnd", Rows.laid_swage_pack_errEnd)] w) false (World.doorLaid Tryz.prog 400 os) #[.int .i64 0, .int .i64 0] 8 rfl (World.shaped_of_RefB (by kernel_rfl) (by kernel_rfl)) (by kernel_rfl) (by kernel_rfl) (by kernel_rfl) (door_met os _)) ?_
  intro W base args ds gs before hval0 hW hcnd hsz0 hL _
  have hval : ∀ (j : Nat) t v, Tryz.f6.params[j]? = some t → args[j]? = some v → Value.okWide Tryz.prog W .any base t v := hval0
  have hW' := hW
  obtain ⟨p, q, hA0, hV, rfl, hfz, hnd⟩ := hW
  have hA : DataW.TrodAll enc Tryz.prog W 0 (fun _ => true) true Tryz.f6.params.toList args.toList ds p := hA0
  have hsz : (DataW.weightsEach Tryz.prog (Tryz.f6.params.toList ++ Rows.stepEndsSpec.plain.varTypes Tryz.prog) (ds ++ gs)).all (· ≤ reachBytes) = true := hsz0
  rw [Tryz.params6] at hA hval hsz
  obtain ⟨v0, vs0, d0, ds0, p0, q0, hargs, rfl, rfl, h0, r0⟩ := trodAll_cons hA
  obtain ⟨v1, vs1, d1, ds1, p1, q1, rfl, rfl, rfl, h1, r1⟩ := trodAll_cons r0
  obtain ⟨rfl, rfl, rfl⟩ := trodAll_nil r1
  obtain rfl : args = #[v0, v1] := by cases args; simp_all
  obtain ⟨rfl, rfl⟩ := trodVars_none hV
  have k0 := h0
  have lt0 : ∀ x ∈ p0, x.block < W.heap.size := by obtain ⟨m, hm⟩ := k0; exact DataW.trod_lt m _ _ _ hm
  have k1 := h1
  have lt1 : ∀ x ∈ p1, x.block < W.heap.size := by obtain ⟨m, hm⟩ := k1; exact DataW.trod_lt m _ _ _ hm
  obtain ⟨a0, rfl, rfl, rfl, w0⟩ := open_int Tryz.underlying3 (hval 0 3 v0 rfl rfl) h0
  obtain ⟨a1, rfl, rfl, rfl, w1⟩ := open_int Tryz.underlying3 (hval 1 3 v1 rfl rfl) h1
  clear hA0 hval0
  refine (walk a0 a1 W w0 w1 (ld_of hL)).mono fun e W' ⟨he, bel⟩ => ?_
  subst he
  exact ⟨_, rfl, _, _, _, [], _, [], hW', trodAll_mk1 (shut_bool Tryz.underlying4 _), (trodAll_cons_mk (Below.trod laidOut (by kernel_rfl) (of_decide_eq_true (by kernel_rfl)) k0 bel lt0) (trodAll_cons_mk (Below.trod laidOut (by kernel_rfl) (of_decide_eq_true (by kernel_rfl)) k1 bel lt1) trodAll_mk0)), rfl, bel.frame _, fun h => by cases h⟩

theorem over : Rows.stepEndsRow.holds Tryz.pinned (OpenSpec.ofChange Rows.stepEndsSpec) :=
  OpenClaim.holds_of_wide 6 Tryz.f6 rfl rfl rfl rfl rfl rfl rfl ⟨rfl, rfl, rfl, rfl, rfl⟩ rfl rfl rfl rfl rfl (by kernel_rfl) Tryz.func6 (by kernel_rfl)
    (of_decide_eq_true (by kernel_rfl)) (by unfold Func.isWrapper; first | (rw [if_pos (by decide +kernel)]; kernel_rfl) | (rw [if_neg (by decide +kernel)]; exact ⟨rfl, rfl⟩))
    (fun os started H enc _ => lifted os started H enc)
end Go.Proofs.YtbbfgdkjgolieaaGreatDoor.stepEnds
namespace Go.Proofs.YtbbfgdkjgolieaaGreatDoor
open Go
theorem stepEnds_holds : Rows.StepEndsCardSaid :=
  Claim7.holds_tied_plain_at .later [] [.data, .data, .data, .handle, .sentinel, .sentinel] true (true, "8b61cba96b38510dc3fa36b3690f22bb9b19fd11ad27bd3ebf2d0f44ede254d6") true
    stepEnds.over (fun _ h => by cases h) (by kernel_rfl) (fun _ h => by cases h) stepEnds_row_tie rfl ⟨rfl, rfl⟩ (by kernel_rfl) rfl
    (fun f fn hf hfn => by
      obtain rfl : f = 6 := Option.some.inj ((show Tryz.prog.funcNamed "swage/swagelaw7.StepEnds" = some 6 by kernel_rfl).symm.trans hf) |>.symm
      obtain rfl : fn = Tryz.f6 := (Option.some.inj (Tryz.func6.symm.trans hfn)).symm
      exact ⟨by kernel_rfl, fun j t ht => by
        rw [Tryz.params6] at ht
        have hm : t ∈ [3, 3] := by simpa using Array.mem_of_getElem? ht
        have hall : ([3, 3].all fun u => !Tryz.prog.wantsStandIn u) = true := by kernel_rfl
        exact (show Tryz.prog.wantsStandIn t = false by simpa using List.all_eq_true.1 hall t hm)⟩)
    (by kernel_rfl)
#print axioms stepEnds_holds
end Go.Proofs.YtbbfgdkjgolieaaGreatDoor
