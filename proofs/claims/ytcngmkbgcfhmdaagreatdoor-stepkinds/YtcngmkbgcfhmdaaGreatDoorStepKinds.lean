/- For any three integers the law StepKinds returns true: step.Step does to the stack, the local, the pc and the trace what each of eleven kinds of instruction says; no conditions. -/
import Derived.Test.YtcngmkbgcfhmdaaGreatDoorRows
import Derived.WalkKit
import Derived.ProofKit
import Derived.OpenShut
import Derived.ShutString
import Derived.ChangeOld
import Derived.Below
import Derived.Carry
import Derived.Lib.SmallJoins
import Derived.Handy
import Derived.WalkSmall
import Derived.SizedLaws
import Derived.Test.YtcngmkbgcfhmdaaGreatDoorLaidOpenV
import Derived.Test.YtcngmkbgcfhmdaaGreatDoorCards
import Derived.Test.YtcngmkbgcfhmdaaGreatDoorTie
import Derived.SevenTiedAt
import Derived.LaidMore
import Derived.Stop.Joined
import Derived.Test.YtcngmkbgcfhmdaaGreatDoorJ7
import Derived.Test.YtcngmkbgcfhmdaaGreatDoorJ8
import Derived.Test.YtcngmkbgcfhmdaaGreatDoorJ7p
import Derived.Test.YtcngmkbgcfhmdaaGreatDoorPlainKinds
import Derived.Deep.DeepCutAuto
import Derived.Lib.QuietBelow
import Derived.Deep.QuietTactic
import Derived.BigQuiet
namespace Go.Proofs.YtcngmkbgcfhmdaaGreatDoor.stepKinds
open Go.ChangeShapes Go.WideShapes Go.ChangeAt Go.RowKit
open Go.ChangeMaps (open_string shut_string)
set_option linter.unusedVariables false

theorem own : ownKnob Tryz.prog.godebug = none := by kernel_rfl
theorem laidOut : laidOutB Tryz.prog = true := by kernel_rfl

/-- The first five instructions. -/
def five (x y kk ka : Int) : List (Int × Int) := [(0, x), (0, y), (kk, ka), (12, 4), (12, 5)]
/-- What is so while drops are laid behind them. -/
structure KInv (V2 : World) (x y kk ka : Int) (N : Nat) (v i : Value) (wr : World) : Prop where
  ex : ∃ (j g c : Nat), 1 ≤ j ∧ j ≤ N ∧ i = .int .i64 (j : Int) ∧ v = .slice (some ⟨g, 0, none⟩) (j + 4) c ∧ wr.ownsRow V2.heap.size 45 2 (.slice (some ⟨g, 0, none⟩) (j + 4) c) (j + 4) (flat2 (five x y kk ka ++ List.replicate (j - 1) (11, 0))) ∧ Below V2.heap.size V2 wr
theorem flat2_snoc (l : List (Int × Int)) (a b : Int) : flat2 (l ++ [(a, b)]) = flat2 l ++ [.int .i64 a, .int .i64 b] := by rw [flat2_app]; rfl
theorem sameInts_same (a b : Option Addr) (n c m d : Nat) (l : List Int) (w : World) (h1 : Ints w a n c l) (h2 : Ints w b m d l) :
    Calls Tryz.prog 16 #[.slice a n c, .slice b m d] w fun e w' => e = .returned (.bool true) ∧ Below w.heap.size w w' :=
  (sameInts_any a b n c m d l l w h1 h2).mono (fun e w' h => ⟨by rw [h.1, show decide (l = l) = true by simp], h.2⟩)
set_option maxRecDepth 100000 in
set_option maxHeartbeats 20000000 in
theorem walk (a0 : Int) (a1 : Int) (a2 : Int) (w : World) (w0 : (Lit.int .i64 a0).wf = true) (w1 : (Lit.int .i64 a1).wf = true) (w2 : (Lit.int .i64 a2).wf = true) (ld : Ld w) :
    Calls Tryz.prog 4 #[.int .i64 a0, .int .i64 a1, .int .i64 a2] w fun e w' => e = .returned (.bool true) ∧ Below w.heap.size w w' := by
  have LD0 := hid ld
  clear ld
  go_enter Tryz.func4, Tryz.ntmps4
  go_wp2_with fail
  refine (awake7_any _ LD0.out).mono ?_
  rintro e u1 ⟨rfl, b1⟩
  have B1 := hid b1
  have hk := umod_bd a0 11 (by omega)
  clear b1
  go_upto_region 6 with fail
  have hx : isNum (wrap64 (wrap32 (IntKind.u64.wrap a1 % 4294967296))) = true := by rw [wrap64_wrap32]; exact num_wrap _
  have hy : isNum (wrap64 (wrap32 (IntKind.u64.wrap a2 % 4294967296))) = true := by rw [wrap64_wrap32]; exact num_wrap _
  generalize wrap64 (wrap32 (IntKind.u64.wrap a1 % 4294967296)) = x at hx ⊢
  generalize wrap64 (wrap32 (IntKind.u64.wrap a2 % 4294967296)) = y at hy ⊢
  have HX := hid hx
  have HY := hid hy
  have hxb := (num_iff _).1 hx
  have hyb := (num_iff _).1 hy
  clear hx hy
  have W1 : Hid (∃ U : World, U = u1.alloc (.cells (flat2 kindsL).toArray 45)) := hid ⟨_, rfl⟩
  obtain ⟨V1, hV1⟩ := W1.out
  have A1 : Hid (Below u1.heap.size u1 V1) := hid (by rw [hV1]; exact Below.alloc (Below.refl _ _) (Nat.le_refl _) _)
  have KI : Hid (Inss V1 (some ⟨u1.heap.size, 0, none⟩) 11 11 kindsL) := hid (by rw [hV1]; exact allocs_inss u1 [.cells (flat2 kindsL).toArray 45] 0 kindsL 45 rfl (by decide))
  have hs1 : V1.heap.size = u1.heap.size + 1 := by rw [hV1]; simp
  have E1 := hid hV1
  clear hV1 W1
  go_upto_if 50 with fail
  refine wp_world (U := V1) E1.out ?_
  go_cut [10] (fun s wx => s = .int .i64 (oneI (x == y)) ∧ wx = V1)
  case first =>
    by_cases hxy : x = y
    · have h1 : (x == y) = true := by simpa using hxy
      go_wp2_with fail
      go_meet
      case rel => exact ⟨by rw [h1]; rfl, rfl⟩
    · have h1 : (x == y) = false := by simpa using hxy
      go_wp2_with fail
      go_meet
      case rel => exact ⟨by rw [h1]; rfl, rfl⟩
  case rest =>
    obtain ⟨rfl, rfl⟩ := hcut
    generalize hsm : oneI (x == y) = sm
    have HSM := hid hsm
    clear hsm
    go_upto_if 53 with fail
    go_cut [11] (fun s wx => s = .int .i64 (oneI (decide (x < y))) ∧ wx = wc)
    case first =>
      by_cases hxy : x < y
      · have h1 : decide (x < y) = true := by simpa using hxy
        go_wp2_with fail
        go_meet
        case rel => exact ⟨by rw [h1]; rfl, rfl⟩
      · have h1 : decide (x < y) = false := by simpa using hxy
        go_wp2_with fail
        go_meet
        case rel => exact ⟨by rw [h1]; rfl, rfl⟩
    case rest =>
      obtain ⟨rfl, hwc⟩ := hcut
      subst hwc
      generalize hls : oneI (decide (x < y)) = ls
      have HLS := hid hls
      clear hls
      go_upto_region 11 with fail
      obtain ⟨k, hkk⟩ : ∃ k : Nat, (IntKind.u64.wrap a0).tmod 11 = k := ⟨((IntKind.u64.wrap a0).tmod 11).toNat, by omega⟩
      rw [hkk]
      have hk0 : k < 11 := by omega
      have hk1 : (0 : Int) ≤ (k : Int) := by omega
      have hk2 : (k : Int) < 11 := by omega
      clear hk hkk
      have hs1' : u1.heap.size < wc.heap.size := by omega
      clear hs1
      go_upto_region 12 with fail
      generalize hsd : wrap64 (wrap32 (IntKind.u64.wrap (x - y) % 4294967296)) = sd
      have HSD : Hid (wrap32 (x - y) = sd) := hid (by rw [← hsd, wrap64_wrap32, wrap32_u])
      clear hsd
      have HST : Hid (stacksL x y = [[x, y, 9], [x, y, 7], [x], [sd], [sm], [x, y, y], [x], [x, y], [x], [x], [ls]]) := hid (by unfold stacksL; rw [HSD.out, HSM.out, HLS.out])
      have W2 : Hid (∃ U : World, U = allocs wc [.cells #[.int .i64 x, .int .i64 y, .int .i64 9] 3, .cells #[.int .i64 x, .int .i64 y, .int .i64 7] 3, .cells #[.int .i64 x] 3, .cells #[.int .i64 sd] 3, .cells #[.int .i64 sm] 3, .cells #[.int .i64 x, .int .i64 y, .int .i64 y] 3, .cells #[.int .i64 x] 3, .cells #[.int .i64 x, .int .i64 y] 3, .cells #[.int .i64 x] 3, .cells #[.int .i64 x] 3, .cells #[.int .i64 ls] 3, .cells #[.slice (some ⟨wc.heap.size, 0, none⟩) 3 3, .slice (some ⟨wc.heap.size + 1, 0, none⟩) 3 3, .slice (some ⟨wc.heap.size + 1 + 1, 0, none⟩) 1 1, .slice (some ⟨wc.heap.size + 1 + 1 + 1, 0, none⟩) 1 1, .slice (some ⟨wc.heap.size + 1 + 1 + 1 + 1, 0, none⟩) 1 1, .slice (some ⟨wc.heap.size + 1 + 1 + 1 + 1 + 1, 0, none⟩) 3 3, .slice (some ⟨wc.heap.size + 1 + 1 + 1 + 1 + 1 + 1, 0, none⟩) 1 1, .slice (some ⟨wc.heap.size + 1 + 1 + 1 + 1 + 1 + 1 + 1, 0, none⟩) 2 2, .slice (some ⟨wc.heap.size + 1 + 1 + 1 + 1 + 1 + 1 + 1 + 1, 0, none⟩) 1 1, .slice (some ⟨wc.heap.size + 1 + 1 + 1 + 1 + 1 + 1 + 1 + 1 + 1, 0, none⟩) 1 1, .slice (some ⟨wc.heap.size + 1 + 1 + 1 + 1 + 1 + 1 + 1 + 1 + 1 + 1, 0, none⟩) 1 1] 26]) := hid ⟨_, rfl⟩
      obtain ⟨V2, hV2⟩ := W2.out
      have A2 : Hid (Below wc.heap.size wc V2) := hid (by rw [hV2]; exact allocs_below _ _)
      have hs2 : wc.heap.size + 1 + 1 + 1 + 1 + 1 + 1 + 1 + 1 + 1 + 1 + 1 < V2.heap.size := by rw [hV2, allocs_size]; simp
      have SK : Hid (∀ k, k < 11 → ∃ a n c, V2.cell? ⟨wc.heap.size + 1 + 1 + 1 + 1 + 1 + 1 + 1 + 1 + 1 + 1 + 1, k, none⟩ = some (.slice a n c) ∧ Ints V2 a n c (stkK x y k)) := hid (by
        intro k hk
        unfold stkK
        rw [HST.out, hV2]
        rcases (show k = 0 ∨ k = 1 ∨ k = 2 ∨ k = 3 ∨ k = 4 ∨ k = 5 ∨ k = 6 ∨ k = 7 ∨ k = 8 ∨ k = 9 ∨ k = 10 by omega) with rfl | rfl | rfl | rfl | rfl | rfl | rfl | rfl | rfl | rfl | rfl
        · exact ⟨_, _, _, allocs_cell wc _ 11 _ 26 rfl 0 _ rfl, allocs_ints wc _ 0 [x, y, 9] 3 rfl (by simp)⟩
        · exact ⟨_, _, _, allocs_cell wc _ 11 _ 26 rfl 1 _ rfl, allocs_ints wc _ 1 [x, y, 7] 3 rfl (by simp)⟩
        · exact ⟨_, _, _, allocs_cell wc _ 11 _ 26 rfl 2 _ rfl, allocs_ints wc _ 2 [x] 3 rfl (by simp)⟩
        · exact ⟨_, _, _, allocs_cell wc _ 11 _ 26 rfl 3 _ rfl, allocs_ints wc _ 3 [sd] 3 rfl (by simp)⟩
        · exact ⟨_, _, _, allocs_cell wc _ 11 _ 26 rfl 4 _ rfl, allocs_ints wc _ 4 [sm] 3 rfl (by simp)⟩
        · exact ⟨_, _, _, allocs_cell wc _ 11 _ 26 rfl 5 _ rfl, allocs_ints wc _ 5 [x, y, y] 3 rfl (by simp)⟩
        · exact ⟨_, _, _, allocs_cell wc _ 11 _ 26 rfl 6 _ rfl, allocs_ints wc _ 6 [x] 3 rfl (by simp)⟩
        · exact ⟨_, _, _, allocs_cell wc _ 11 _ 26 rfl 7 _ rfl, allocs_ints wc _ 7 [x, y] 3 rfl (by simp)⟩
        · exact ⟨_, _, _, allocs_cell wc _ 11 _ 26 rfl 8 _ rfl, allocs_ints wc _ 8 [x] 3 rfl (by simp)⟩
        · exact ⟨_, _, _, allocs_cell wc _ 11 _ 26 rfl 9 _ rfl, allocs_ints wc _ 9 [x] 3 rfl (by simp)⟩
        · exact ⟨_, _, _, allocs_cell wc _ 11 _ 26 rfl 10 _ rfl, allocs_ints wc _ 10 [ls] 3 rfl (by simp)⟩)
      have E2 := hid hV2
      clear hV2 W2
      refine wp_world (U := V2) E2.out ?_
      obtain ⟨sa, sn, sc, hsk, hsi⟩ := SK.out k hk0
      have KI2 := KI.out.kept A2.out
      obtain ⟨kb, ko, kk, ka, hka, hkl, kc0, kc1⟩ := KI2.at k hk0
      cases hka
      rw [Nat.zero_add] at kc0 kc1
      have HKL := hid hkl
      have hKL := stkK_len x y hk0
      obtain ⟨N, hN⟩ : ∃ N, (stkK x y k).length = N := ⟨_, rfl⟩
      rw [hN] at hKL
      have HN := hid hN
      have hsn : sn = N := by rw [← hN]; exact hsi.len
      subst hsn
      have HSI := hid hsi
      have HSK := hid hsk
      have hsr := hsi.room
      have hsc := hsi.cap
      obtain ⟨i0, hi, hz0, hz1, hz2⟩ := info_parts Tryz.infoIns
      clear hkl hN hsi KI2
      have W3 : Hid (∃ U : World, U = V2.alloc (.cells (flat2 (five x y kk ka)).toArray 45)) := hid ⟨_, rfl⟩
      obtain ⟨V3, hV3⟩ := W3.out
      have K0 : Hid (KInv V2 x y kk ka sn (.slice (some ⟨V2.heap.size, 0, none⟩) 5 5) (.int .i64 1) V3) := hid (by
        rw [hV3]
        refine ⟨1, V2.heap.size, 5, Nat.le_refl _, hKL.1, rfl, rfl, ?_, Below.alloc (Below.refl _ _) (Nat.le_refl _) _⟩
        have h := World.ownsRow_lit (e := 45) (size := 2) (base := V2.heap.size) V2 (flat2 (five x y kk ka)).toArray 5 (Nat.le_refl _) (by decide) (by rfl)
        simpa using h)
      have E3 := hid hV3
      clear hV3 W3
      go_wp2_with fail
      refine wp_world (U := V3) E3.out ?_
      go_loopw [14, 15] (fun v i wr => KInv V2 x y kk ka sn v i wr) (fun _ i _ => 3 - (intOf i).toNat)
      case atStart => exact K0.out
      case round =>
        obtain ⟨j, g, c, hj1, hjN, rfl, rfl, ho, hb⟩ := hrel.ex
        clear hrel K0 E3
        have HO := hid ho
        have HB := hid hb
        have hskr := kept_cell hb HSK.out
        have hbz := hb.size
        clear hsk ho hb kc0 kc1
        by_cases hlt : j < sn
        · have hA : Below wr.heap.size wr (wr.alloc (.cells #[.int .i64 11, .int .i64 0] 45)) := Below.alloc (Below.refl _ _) (Nat.le_refl _) _
          have A3 := hid hA
          have HT := hid (owns_kept HO.out hA)
          clear hA
          go_wp2_with (at_builtin; refine wpList_append_lies _ rfl _ _ 46 rfl V2.heap.size 45 i0 (.agg #[.int .i64 0, .int .i64 0]) 2 16 Tryz.underlying46 hi hz0 hz1 hz2 rfl (by decide) (.slice (some ⟨g, 0, none⟩) (j + 4) c) (j + 4) (flat2 (five x y kk ka ++ List.replicate (j - 1) (11, 0))) rfl HT.out ⟨wr.heap.size, 0, none⟩ 1 1 [.int .i64 11, .int .i64 0] rfl rfl (news_of rfl _ 45) (by intro u hu; simp at hu; rcases hu with rfl | rfl <;> rfl) (by decide) (by unfold maxLen; omega) (by omega) (by simp; omega) (wr.heap.size + 1) (by simp) ?_; intro g6 cap w6 ho6 hg6 hat hlt6; have P := hid (And.intro ho6 hg6); clear ho6 hg6 hat hlt6)
          go_roundw
          case rel =>
            obtain ⟨p1, p2⟩ := P.out
            refine ⟨j + 1, g6, cap, by omega, by omega, by go_num, by rw [show j + 1 + 4 = j + 4 + 1 by omega], ?_, ?_⟩
            · rw [show j + 1 - 1 = j - 1 + 1 by omega, List.replicate_succ', ← List.append_assoc, flat2_snoc, show j + 1 + 4 = j + 4 + 1 by omega]
              exact p1
            · exact Below.grown (kt HB.out A3.out) p2 (by have := A3.out.size; omega) (fun k hk => (HT.out.lt k hk).1)
          case measure => simp [intOf]; omega
        · obtain rfl : j = sn := by omega
          have hA : Below wr.heap.size wr (wr.alloc (.cells #[.int .i64 16, .int .i64 0] 45)) := Below.alloc (Below.refl _ _) (Nat.le_refl _) _
          have A3 := hid hA
          have HT := hid (owns_kept HO.out hA)
          clear hA
          go_wp2_with (at_builtin; refine wpList_append_lies _ rfl _ _ 46 rfl V2.heap.size 45 i0 (.agg #[.int .i64 0, .int .i64 0]) 2 16 Tryz.underlying46 hi hz0 hz1 hz2 rfl (by decide) (.slice (some ⟨g, 0, none⟩) (j + 4) c) (j + 4) (flat2 (five x y kk ka ++ List.replicate (j - 1) (11, 0))) rfl HT.out ⟨wr.heap.size, 0, none⟩ 1 1 [.int .i64 16, .int .i64 0] rfl rfl (news_of rfl _ 45) (by intro u hu; simp at hu; rcases hu with rfl | rfl <;> rfl) (by decide) (by unfold maxLen; omega) (by omega) (by simp; omega) (wr.heap.size + 1) (by simp) ?_; intro g6 cap w6 ho6 hg6 hat hlt6; have P := hid (And.intro ho6 hg6); clear ho6 hg6 hat hlt6)
          have PI : Hid (Inss w6 (some ⟨g6, 0, none⟩) (j + 4 + 1) cap (codeK x y k) ∧ Below V2.heap.size V2 w6) := hid (by
            obtain ⟨p1, p2⟩ := P.out
            refine ⟨?_, Below.grown (kt HB.out A3.out) p2 (by have := A3.out.size; omega) (fun k hk => (HT.out.lt k hk).1)⟩
            have e : codeK x y k = five x y kk ka ++ List.replicate (j - 1) (11, 0) ++ [(16, 0)] := by unfold codeK five; rw [HKL.out, HN.out]
            have hl : (codeK x y k).length = j + 4 + 1 := by rw [e]; simp [five]; omega
            rw [show [Value.int .i64 16, .int .i64 0] = flat2 [(16, 0)] from rfl, ← flat2_app, ← e, ← hl] at p1
            obtain ⟨_, _, _, e1, h1⟩ := inss_of_owns p1 (by rw [hl]; omega)
            cases e1
            rw [← hl]
            exact h1)
          clear P HT A3 HB HO hskr
          go_wp2_with fail
          refine (small7_any 0 1 _ _ _ (codeK x y k) _ PI.out.1).mono ?_
          rintro e u7 ⟨pv, pn, pc, rfl, f7, b7⟩
          have W8 : Hid (∃ U : World, U = allocs u7 [.cells #[.slice pv pn pc] 24, .cells #[.int .i64 7] 3, .cells #[.int .i64 x, .int .i64 y] 3, .cells #[.int .i64 0, .int .i64 2, .slice (some ⟨u7.heap.size + 1, 0, none⟩) 1 1, .slice (some ⟨u7.heap.size + 1 + 1, 0, none⟩) 2 2] 51, .cells #[.slice (some ⟨u7.heap.size + 1 + 1 + 1, 0, none⟩) 1 1, .int .i64 3, .slice none 0 0, .int .i64 0, .int .i64 0] 28]) := hid ⟨_, rfl⟩
          obtain ⟨U8, hU8⟩ := W8.out
          have A8 : Below u7.heap.size u7 U8 := by rw [hU8]; exact allocs_below _ _
          have FP := hid (f7.kept A8)
          have B8 := hid (kt PI.out.2 (kt b7 A8))
          have FF : Hid (Frs U8 (some ⟨u7.heap.size + 1 + 1 + 1, 0, none⟩) 1 1 [(0, 2, [7], [x, y])]) := hid (by
            rw [hU8]
            exact frs_at1 (g := u7.heap.size + 3) (la := some ⟨u7.heap.size + 1, 0, none⟩) (ln := 1) (lc := 1) (sa := some ⟨u7.heap.size + 2, 0, none⟩) (sn := 2) (sc := 2) (allocs_ints u7 _ 1 [7] 3 rfl (by simp)) (allocs_ints u7 _ 2 [x, y] 3 rfl (by simp)) (allocs_cell u7 _ 3 _ 51 rfl 0 _ rfl) (allocs_cell u7 _ 3 _ 51 rfl 1 _ rfl) (allocs_cell u7 _ 3 _ 51 rfl 2 _ rfl) (allocs_cell u7 _ 3 _ 51 rfl 3 _ rfl))
          have hS := step_K HX.out HY.out hk0
          have hpk := hS.1
          obtain ⟨P, hP⟩ : ∃ P, pcK y k = P := ⟨_, rfl⟩
          obtain ⟨L, hL⟩ : ∃ L, locK y k = L := ⟨_, rfl⟩
          obtain ⟨O, hO⟩ : ∃ O, outK y k = O := ⟨_, rfl⟩
          obtain ⟨ST, hST⟩ : ∃ ST, stkK x y k = ST := ⟨_, rfl⟩
          have hE : stepS (progK x y k) ([(0, 2, [7], [x, y])], 3, [], 0, 0) = ([(0, P, [L], ST)], 2, O, 0, 0) := by rw [← hP, ← hL, ← hO, ← hST]; exact hS.1
          have HE := hid (And.intro hE hS.2)
          have EP := hid hP
          have EL := hid hL
          have EO := hid hO
          have ES := hid hST
          have LD8 := hid (LD0.out.up (kt B1.out (kt A1.out (kt A2.out B8.out))))
          have E8 := hid hU8
          have BW8 := hid (kt B1.out (kt A1.out (kt A2.out B8.out)))
          clear f7 b7 A8 hU8 W8 PI hS hpk hE hP hL hO hST
          go_wp2_with fail
          refine calls_inW (U := U8) (by rw [E8.out]; rfl) ?_
          refine (step_read _ _ _ (progK x y k) _ _ _ [(0, 2, [7], [x, y])] 3 none 0 0 [] 0 0 _ _ _ _ _ _ U8 HE.out.1 HE.out.2 (by simp) FP.out FF.out (Ints.nil _) LD8.out).mono ?_
          rintro e u9 ⟨va, vn, vc, ra, rn, rc, rfl, hf, ho, b9⟩
          obtain rfl : vn = 1 := hf.len
          have hA9 : Below u9.heap.size u9 (u9.alloc (.cells #[.slice va 1 vc, .int .i64 2, .slice ra rn rc, .int .i64 0, .int .i64 0] 28)) := Below.alloc (Below.refl _ _) (Nat.le_refl _) _
          have W9 : Hid (∃ U : World, U = u9.alloc (.cells #[.slice va 1 vc, .int .i64 2, .slice ra rn rc, .int .i64 0, .int .i64 0] 28)) := hid ⟨_, rfl⟩
          obtain ⟨U9, hU9⟩ := W9.out
          rw [← hU9] at hA9
          have B9 := hid (kt b9 hA9)
          have T9 : Hid (U9.heap[u9.heap.size]? = some (.cells #[.slice va 1 vc, .int .i64 2, .slice ra rn rc, .int .i64 0, .int .i64 0] 28)) := hid (by rw [hU9]; exact heap_alloc_new _ _)
          obtain ⟨gb, go, fx, fy, la, ln, lc, ll, sa', sn', sc', sl, hva, hfr, q0, q1, q2, q3, i1, i2⟩ := (hf.kept hA9).at 0 (by omega)
          have e9 : ((0 : Int), P, [L], ST) = (fx, fy, ll, sl) := hfr
          cases e9
          cases hva
          have hs9 : U9.heap.size = u9.heap.size + 1 := by rw [hU9]; simp
          rw [show go + 0 * 4 = go by omega] at q0 q1 q2 q3
          have Q9 := hid (And.intro q0 (And.intro q1 (And.intro q2 q3)))
          have I1 := hid i1
          have I2 := hid i2
          have I3 := hid (ho.kept hA9)
          have E9 := hid hU9
          have BW9 := hid (kt BW8.out B9.out)
          have HSK9 := hid (kept_cell B9.out (kept_cell B8.out HSK.out))
          have HSI9 := hid ((HSI.out.kept B8.out).kept B9.out)
          have hs9' : u9.heap.size < U9.heap.size := by omega
          clear hf ho b9 hA9 hU9 W9 hfr q0 q1 q2 q3 i1 i2 hs9 FP FF LD8 BW8 E8 HE
          go_wp2_with fail
          refine (num_any _ _).mono ?_
          rintro e w' ⟨rfl, hw⟩
          rw [hw]
          clear hw
          go_upto_region 24 with fail
          refine wp_world (U := U9) (by rw [E9.out]) ?_
          rcases (show k = 7 ∨ (k = 8 ∧ y = 0) ∨ (k = 8 ∧ ¬ y = 0) ∨ k = 2 ∨ k = 9 ∨ (¬ k = 7 ∧ ¬ k = 8 ∧ ¬ k = 2 ∧ ¬ k = 9) by omega) with rfl | ⟨rfl, hy0⟩ | ⟨rfl, hy0⟩ | rfl | rfl | ⟨g7, g8, g2, g9⟩
          · skip
            have eP : pcK y 7 = 4 := by unfold pcK; rw [if_pos (by omega)]
            obtain rfl : P = 4 := by rw [← EP.out]; exact eP
            have eL : locK y 7 = 7 := by unfold locK; rw [if_neg (by omega)]
            obtain rfl : L = 7 := by rw [← EL.out]; exact eL
            have eO : outK y 7 = [] := by unfold outK; rw [if_neg (by omega)]
            obtain rfl : O = [] := by rw [← EO.out]; exact eO
            obtain ⟨W, hW⟩ : ∃ W : World, W = U9.alloc (.cells #[.int .i64 0, .int .i64 4, .slice la ln lc, .slice sa' sn' sc'] 51) := ⟨_, rfl⟩
            have AW : Hid (Below U9.heap.size U9 W) := hid (by rw [hW]; go_grown)
            have FW : Hid (W.heap[U9.heap.size]? = some (.cells #[.int .i64 0, .int .i64 4, .slice la ln lc, .slice sa' sn' sc'] 51)) := hid (by rw [hW]; exact heap_alloc_new U9 _)
            have OW : Hid (Ints W none 0 0 []) := hid (Ints.nil _)
            have TW := hid (heap_kept T9.out AW.out)
            have J1 := hid (I1.out.kept AW.out)
            have J2 := hid (I2.out.kept AW.out)
            have J3 := hid (I3.out.kept AW.out)
            have J4 : Hid (Ints W sa j sc ST) := hid (by rw [← ES.out]; exact HSI9.out.kept AW.out)
            have KW := hid (kept_cell AW.out HSK9.out)
            have EW := hid hW
            have NL : Hid (Ints ((W.alloc (.cells #[.int .i64 7] 3)).drew) (some ⟨W.heap.size, 0, none⟩) 1 1 [7]) := hid ((ints_new (u := W) (cs := #[.int .i64 7]) (t := 3) (l := [7]) rfl rfl rfl (by simp)).kept (Below.drew (Below.refl _ _)))
            obtain ⟨q0, q1, q2, q3⟩ := Q9.out
            have t0 := (cell_of_heap (j := 0) T9.out rfl).1
            clear hW
            go_wp2_with fail
            refine wp_world (U := W) (by rw [EW.out]) ?_
            have SA : Hid (∀ w', Below W.heap.size W w' → (w'.cell? ⟨U9.heap.size, 1, none⟩ = some (.int .i64 4) ∧ w'.cell? ⟨U9.heap.size, 2, none⟩ = some (.slice la ln lc) ∧ w'.cell? ⟨U9.heap.size, 3, none⟩ = some (.slice sa' sn' sc') ∧ w'.cell? ⟨u9.heap.size, 2, none⟩ = some (.slice ra rn rc) ∧ w'.cell? ⟨u9.heap.size, 3, none⟩ = some (.int .i64 0) ∧ w'.cell? ⟨wc.heap.size + 1 + 1 + 1 + 1 + 1 + 1 + 1 + 1 + 1 + 1 + 1, 7, none⟩ = some (.slice sa j sc))) := hid (fun w' b => ⟨kept_cell b (cell_of_heap (j := 1) FW.out rfl).1, kept_cell b (cell_of_heap (j := 2) FW.out rfl).1, kept_cell b (cell_of_heap (j := 3) FW.out rfl).1, kept_cell b (cell_of_heap (j := 2) TW.out rfl).1, kept_cell b (cell_of_heap (j := 3) TW.out rfl).1, kept_cell b KW.out⟩)
            have BC : Below W.heap.size W W := Below.refl _ _
            clear q0 q1 q2 q3 t0
            go_region_held3 (fun w' => w'.cell? ⟨U9.heap.size, 1, none⟩ = some (.int .i64 4) ∧ w'.cell? ⟨U9.heap.size, 2, none⟩ = some (.slice la ln lc) ∧ w'.cell? ⟨U9.heap.size, 3, none⟩ = some (.slice sa' sn' sc') ∧ w'.cell? ⟨u9.heap.size, 2, none⟩ = some (.slice ra rn rc) ∧ w'.cell? ⟨u9.heap.size, 3, none⟩ = some (.int .i64 0) ∧ w'.cell? ⟨wc.heap.size + 1 + 1 + 1 + 1 + 1 + 1 + 1 + 1 + 1 + 1 + 1, 7, none⟩ = some (.slice sa j sc)) (first | (refine SA.out _ ?_; (repeat (first | with_reducible exact BC | with_reducible refine pDrew ?_ | with_reducible refine pAlloc ?_ | with_reducible refine pSet (by first | exact Nat.le_refl _ | omega) ?_))))
              (first
                | (go_at_call 16; with_reducible refine (sameInts_same la _ ln lc 1 1 [7] _ (J1.out.kept ?h1) ?h2).mono ?_; (case h1 => (repeat (first | with_reducible exact BC | with_reducible refine pDrew ?_ | with_reducible refine pAlloc ?_ | with_reducible refine pSet (by first | exact Nat.le_refl _ | omega) ?_))); (case h2 => with_reducible exact NL.out); rintro e y1 ⟨rfl, b⟩; replace BC : Below W.heap.size W y1 := kt (by repeat (first | with_reducible exact BC | with_reducible refine pDrew ?_ | with_reducible refine pAlloc ?_ | with_reducible refine pSet (by first | exact Nat.le_refl _ | omega) ?_)) b; clear b)
                | (go_at_call 16; with_reducible refine (sameInts_same sa' _ sn' sc' _ _ ST _ (J2.out.kept ?h1) (J4.out.kept ?h2)).mono ?_; (case h1 => (repeat (first | with_reducible exact BC | with_reducible refine pDrew ?_ | with_reducible refine pAlloc ?_ | with_reducible refine pSet (by first | exact Nat.le_refl _ | omega) ?_))); (case h2 => (repeat (first | with_reducible exact BC | with_reducible refine pDrew ?_ | with_reducible refine pAlloc ?_ | with_reducible refine pSet (by first | exact Nat.le_refl _ | omega) ?_))); rintro e y1 ⟨rfl, b⟩; replace BC : Below W.heap.size W y1 := kt (by repeat (first | with_reducible exact BC | with_reducible refine pDrew ?_ | with_reducible refine pAlloc ?_ | with_reducible refine pSet (by first | exact Nat.le_refl _ | omega) ?_)) b; clear b)
                | (go_at_call 16; with_reducible refine (sameInts_same ra _ rn rc _ _ [] _ (J3.out.kept ?h1) (OW.out.kept ?h2)).mono ?_; (case h1 => (repeat (first | with_reducible exact BC | with_reducible refine pDrew ?_ | with_reducible refine pAlloc ?_ | with_reducible refine pSet (by first | exact Nat.le_refl _ | omega) ?_))); (case h2 => (repeat (first | with_reducible exact BC | with_reducible refine pDrew ?_ | with_reducible refine pAlloc ?_ | with_reducible refine pSet (by first | exact Nat.le_refl _ | omega) ?_))); rintro e y1 ⟨rfl, b⟩; replace BC : Below W.heap.size W y1 := kt (by repeat (first | with_reducible exact BC | with_reducible refine pDrew ?_ | with_reducible refine pAlloc ?_ | with_reducible refine pSet (by first | exact Nat.le_refl _ | omega) ?_)) b; clear b))
            all_goals
              go_wp2_with fail
              go_ret
              exact ⟨rfl, kt (kt BW9.out AW.out) BC⟩
          · have hy1 : (y == 0) = true := by simpa using hy0
            have eP : pcK y 8 = 4 := by unfold pcK; rw [if_pos (by omega)]
            obtain rfl : P = 4 := by rw [← EP.out]; exact eP
            have eL : locK y 8 = 7 := by unfold locK; rw [if_neg (by omega)]
            obtain rfl : L = 7 := by rw [← EL.out]; exact eL
            have eO : outK y 8 = [] := by unfold outK; rw [if_neg (by omega)]
            obtain rfl : O = [] := by rw [← EO.out]; exact eO
            obtain ⟨W, hW⟩ : ∃ W : World, W = U9.alloc (.cells #[.int .i64 0, .int .i64 4, .slice la ln lc, .slice sa' sn' sc'] 51) := ⟨_, rfl⟩
            have AW : Hid (Below U9.heap.size U9 W) := hid (by rw [hW]; go_grown)
            have FW : Hid (W.heap[U9.heap.size]? = some (.cells #[.int .i64 0, .int .i64 4, .slice la ln lc, .slice sa' sn' sc'] 51)) := hid (by rw [hW]; exact heap_alloc_new U9 _)
            have OW : Hid (Ints W none 0 0 []) := hid (Ints.nil _)
            have TW := hid (heap_kept T9.out AW.out)
            have J1 := hid (I1.out.kept AW.out)
            have J2 := hid (I2.out.kept AW.out)
            have J3 := hid (I3.out.kept AW.out)
            have J4 : Hid (Ints W sa j sc ST) := hid (by rw [← ES.out]; exact HSI9.out.kept AW.out)
            have KW := hid (kept_cell AW.out HSK9.out)
            have EW := hid hW
            have NL : Hid (Ints ((W.alloc (.cells #[.int .i64 7] 3)).drew) (some ⟨W.heap.size, 0, none⟩) 1 1 [7]) := hid ((ints_new (u := W) (cs := #[.int .i64 7]) (t := 3) (l := [7]) rfl rfl rfl (by simp)).kept (Below.drew (Below.refl _ _)))
            obtain ⟨q0, q1, q2, q3⟩ := Q9.out
            have t0 := (cell_of_heap (j := 0) T9.out rfl).1
            clear hW
            go_wp2_with fail
            refine wp_world (U := W) (by rw [EW.out]) ?_
            have SA : Hid (∀ w', Below W.heap.size W w' → (w'.cell? ⟨U9.heap.size, 1, none⟩ = some (.int .i64 4) ∧ w'.cell? ⟨U9.heap.size, 2, none⟩ = some (.slice la ln lc) ∧ w'.cell? ⟨U9.heap.size, 3, none⟩ = some (.slice sa' sn' sc') ∧ w'.cell? ⟨u9.heap.size, 2, none⟩ = some (.slice ra rn rc) ∧ w'.cell? ⟨u9.heap.size, 3, none⟩ = some (.int .i64 0) ∧ w'.cell? ⟨wc.heap.size + 1 + 1 + 1 + 1 + 1 + 1 + 1 + 1 + 1 + 1 + 1, 8, none⟩ = some (.slice sa j sc))) := hid (fun w' b => ⟨kept_cell b (cell_of_heap (j := 1) FW.out rfl).1, kept_cell b (cell_of_heap (j := 2) FW.out rfl).1, kept_cell b (cell_of_heap (j := 3) FW.out rfl).1, kept_cell b (cell_of_heap (j := 2) TW.out rfl).1, kept_cell b (cell_of_heap (j := 3) TW.out rfl).1, kept_cell b KW.out⟩)
            have BC : Below W.heap.size W W := Below.refl _ _
            clear q0 q1 q2 q3 t0
            go_region_held3 (fun w' => w'.cell? ⟨U9.heap.size, 1, none⟩ = some (.int .i64 4) ∧ w'.cell? ⟨U9.heap.size, 2, none⟩ = some (.slice la ln lc) ∧ w'.cell? ⟨U9.heap.size, 3, none⟩ = some (.slice sa' sn' sc') ∧ w'.cell? ⟨u9.heap.size, 2, none⟩ = some (.slice ra rn rc) ∧ w'.cell? ⟨u9.heap.size, 3, none⟩ = some (.int .i64 0) ∧ w'.cell? ⟨wc.heap.size + 1 + 1 + 1 + 1 + 1 + 1 + 1 + 1 + 1 + 1 + 1, 8, none⟩ = some (.slice sa j sc)) (first | (refine SA.out _ ?_; (repeat (first | with_reducible exact BC | with_reducible refine pDrew ?_ | with_reducible refine pAlloc ?_ | with_reducible refine pSet (by first | exact Nat.le_refl _ | omega) ?_))))
              (first
                | (go_at_call 16; with_reducible refine (sameInts_same la _ ln lc 1 1 [7] _ (J1.out.kept ?h1) ?h2).mono ?_; (case h1 => (repeat (first | with_reducible exact BC | with_reducible refine pDrew ?_ | with_reducible refine pAlloc ?_ | with_reducible refine pSet (by first | exact Nat.le_refl _ | omega) ?_))); (case h2 => with_reducible exact NL.out); rintro e y1 ⟨rfl, b⟩; replace BC : Below W.heap.size W y1 := kt (by repeat (first | with_reducible exact BC | with_reducible refine pDrew ?_ | with_reducible refine pAlloc ?_ | with_reducible refine pSet (by first | exact Nat.le_refl _ | omega) ?_)) b; clear b)
                | (go_at_call 16; with_reducible refine (sameInts_same sa' _ sn' sc' _ _ ST _ (J2.out.kept ?h1) (J4.out.kept ?h2)).mono ?_; (case h1 => (repeat (first | with_reducible exact BC | with_reducible refine pDrew ?_ | with_reducible refine pAlloc ?_ | with_reducible refine pSet (by first | exact Nat.le_refl _ | omega) ?_))); (case h2 => (repeat (first | with_reducible exact BC | with_reducible refine pDrew ?_ | with_reducible refine pAlloc ?_ | with_reducible refine pSet (by first | exact Nat.le_refl _ | omega) ?_))); rintro e y1 ⟨rfl, b⟩; replace BC : Below W.heap.size W y1 := kt (by repeat (first | with_reducible exact BC | with_reducible refine pDrew ?_ | with_reducible refine pAlloc ?_ | with_reducible refine pSet (by first | exact Nat.le_refl _ | omega) ?_)) b; clear b)
                | (go_at_call 16; with_reducible refine (sameInts_same ra _ rn rc _ _ [] _ (J3.out.kept ?h1) (OW.out.kept ?h2)).mono ?_; (case h1 => (repeat (first | with_reducible exact BC | with_reducible refine pDrew ?_ | with_reducible refine pAlloc ?_ | with_reducible refine pSet (by first | exact Nat.le_refl _ | omega) ?_))); (case h2 => (repeat (first | with_reducible exact BC | with_reducible refine pDrew ?_ | with_reducible refine pAlloc ?_ | with_reducible refine pSet (by first | exact Nat.le_refl _ | omega) ?_))); rintro e y1 ⟨rfl, b⟩; replace BC : Below W.heap.size W y1 := kt (by repeat (first | with_reducible exact BC | with_reducible refine pDrew ?_ | with_reducible refine pAlloc ?_ | with_reducible refine pSet (by first | exact Nat.le_refl _ | omega) ?_)) b; clear b))
            all_goals
              go_wp2_with fail
              go_ret
              exact ⟨rfl, kt (kt BW9.out AW.out) BC⟩
          · have hy1 : (y == 0) = false := by simpa using hy0
            have eP : pcK y 8 = 3 := by unfold pcK; rw [if_neg (by omega)]
            obtain rfl : P = 3 := by rw [← EP.out]; exact eP
            have eL : locK y 8 = 7 := by unfold locK; rw [if_neg (by omega)]
            obtain rfl : L = 7 := by rw [← EL.out]; exact eL
            have eO : outK y 8 = [] := by unfold outK; rw [if_neg (by omega)]
            obtain rfl : O = [] := by rw [← EO.out]; exact eO
            obtain ⟨W, hW⟩ : ∃ W : World, W = U9.alloc (.cells #[.int .i64 0, .int .i64 3, .slice la ln lc, .slice sa' sn' sc'] 51) := ⟨_, rfl⟩
            have AW : Hid (Below U9.heap.size U9 W) := hid (by rw [hW]; go_grown)
            have FW : Hid (W.heap[U9.heap.size]? = some (.cells #[.int .i64 0, .int .i64 3, .slice la ln lc, .slice sa' sn' sc'] 51)) := hid (by rw [hW]; exact heap_alloc_new U9 _)
            have OW : Hid (Ints W none 0 0 []) := hid (Ints.nil _)
            have TW := hid (heap_kept T9.out AW.out)
            have J1 := hid (I1.out.kept AW.out)
            have J2 := hid (I2.out.kept AW.out)
            have J3 := hid (I3.out.kept AW.out)
            have J4 : Hid (Ints W sa j sc ST) := hid (by rw [← ES.out]; exact HSI9.out.kept AW.out)
            have KW := hid (kept_cell AW.out HSK9.out)
            have EW := hid hW
            have NL : Hid (Ints ((W.alloc (.cells #[.int .i64 7] 3)).drew) (some ⟨W.heap.size, 0, none⟩) 1 1 [7]) := hid ((ints_new (u := W) (cs := #[.int .i64 7]) (t := 3) (l := [7]) rfl rfl rfl (by simp)).kept (Below.drew (Below.refl _ _)))
            obtain ⟨q0, q1, q2, q3⟩ := Q9.out
            have t0 := (cell_of_heap (j := 0) T9.out rfl).1
            clear hW
            go_wp2_with fail
            refine wp_world (U := W) (by rw [EW.out]) ?_
            have SA : Hid (∀ w', Below W.heap.size W w' → (w'.cell? ⟨U9.heap.size, 1, none⟩ = some (.int .i64 3) ∧ w'.cell? ⟨U9.heap.size, 2, none⟩ = some (.slice la ln lc) ∧ w'.cell? ⟨U9.heap.size, 3, none⟩ = some (.slice sa' sn' sc') ∧ w'.cell? ⟨u9.heap.size, 2, none⟩ = some (.slice ra rn rc) ∧ w'.cell? ⟨u9.heap.size, 3, none⟩ = some (.int .i64 0) ∧ w'.cell? ⟨wc.heap.size + 1 + 1 + 1 + 1 + 1 + 1 + 1 + 1 + 1 + 1 + 1, 8, none⟩ = some (.slice sa j sc))) := hid (fun w' b => ⟨kept_cell b (cell_of_heap (j := 1) FW.out rfl).1, kept_cell b (cell_of_heap (j := 2) FW.out rfl).1, kept_cell b (cell_of_heap (j := 3) FW.out rfl).1, kept_cell b (cell_of_heap (j := 2) TW.out rfl).1, kept_cell b (cell_of_heap (j := 3) TW.out rfl).1, kept_cell b KW.out⟩)
            have BC : Below W.heap.size W W := Below.refl _ _
            clear q0 q1 q2 q3 t0
            go_region_held3 (fun w' => w'.cell? ⟨U9.heap.size, 1, none⟩ = some (.int .i64 3) ∧ w'.cell? ⟨U9.heap.size, 2, none⟩ = some (.slice la ln lc) ∧ w'.cell? ⟨U9.heap.size, 3, none⟩ = some (.slice sa' sn' sc') ∧ w'.cell? ⟨u9.heap.size, 2, none⟩ = some (.slice ra rn rc) ∧ w'.cell? ⟨u9.heap.size, 3, none⟩ = some (.int .i64 0) ∧ w'.cell? ⟨wc.heap.size + 1 + 1 + 1 + 1 + 1 + 1 + 1 + 1 + 1 + 1 + 1, 8, none⟩ = some (.slice sa j sc)) (first | (refine SA.out _ ?_; (repeat (first | with_reducible exact BC | with_reducible refine pDrew ?_ | with_reducible refine pAlloc ?_ | with_reducible refine pSet (by first | exact Nat.le_refl _ | omega) ?_))))
              (first
                | (go_at_call 16; with_reducible refine (sameInts_same la _ ln lc 1 1 [7] _ (J1.out.kept ?h1) ?h2).mono ?_; (case h1 => (repeat (first | with_reducible exact BC | with_reducible refine pDrew ?_ | with_reducible refine pAlloc ?_ | with_reducible refine pSet (by first | exact Nat.le_refl _ | omega) ?_))); (case h2 => with_reducible exact NL.out); rintro e y1 ⟨rfl, b⟩; replace BC : Below W.heap.size W y1 := kt (by repeat (first | with_reducible exact BC | with_reducible refine pDrew ?_ | with_reducible refine pAlloc ?_ | with_reducible refine pSet (by first | exact Nat.le_refl _ | omega) ?_)) b; clear b)
                | (go_at_call 16; with_reducible refine (sameInts_same sa' _ sn' sc' _ _ ST _ (J2.out.kept ?h1) (J4.out.kept ?h2)).mono ?_; (case h1 => (repeat (first | with_reducible exact BC | with_reducible refine pDrew ?_ | with_reducible refine pAlloc ?_ | with_reducible refine pSet (by first | exact Nat.le_refl _ | omega) ?_))); (case h2 => (repeat (first | with_reducible exact BC | with_reducible refine pDrew ?_ | with_reducible refine pAlloc ?_ | with_reducible refine pSet (by first | exact Nat.le_refl _ | omega) ?_))); rintro e y1 ⟨rfl, b⟩; replace BC : Below W.heap.size W y1 := kt (by repeat (first | with_reducible exact BC | with_reducible refine pDrew ?_ | with_reducible refine pAlloc ?_ | with_reducible refine pSet (by first | exact Nat.le_refl _ | omega) ?_)) b; clear b)
                | (go_at_call 16; with_reducible refine (sameInts_same ra _ rn rc _ _ [] _ (J3.out.kept ?h1) (OW.out.kept ?h2)).mono ?_; (case h1 => (repeat (first | with_reducible exact BC | with_reducible refine pDrew ?_ | with_reducible refine pAlloc ?_ | with_reducible refine pSet (by first | exact Nat.le_refl _ | omega) ?_))); (case h2 => (repeat (first | with_reducible exact BC | with_reducible refine pDrew ?_ | with_reducible refine pAlloc ?_ | with_reducible refine pSet (by first | exact Nat.le_refl _ | omega) ?_))); rintro e y1 ⟨rfl, b⟩; replace BC : Below W.heap.size W y1 := kt (by repeat (first | with_reducible exact BC | with_reducible refine pDrew ?_ | with_reducible refine pAlloc ?_ | with_reducible refine pSet (by first | exact Nat.le_refl _ | omega) ?_)) b; clear b))
            all_goals
              go_wp2_with fail
              go_ret
              exact ⟨rfl, kt (kt BW9.out AW.out) BC⟩
          · skip
            have eP : pcK y 2 = 3 := by unfold pcK; rw [if_neg (by omega)]
            obtain rfl : P = 3 := by rw [← EP.out]; exact eP
            have eL : locK y 2 = y := by unfold locK; rw [if_pos (by omega)]
            obtain rfl : y = L := by rw [← EL.out]; exact eL.symm
            have eO : outK y 2 = [] := by unfold outK; rw [if_neg (by omega)]
            obtain rfl : O = [] := by rw [← EO.out]; exact eO
            obtain ⟨W, hW⟩ : ∃ W : World, W = U9.alloc (.cells #[.int .i64 0, .int .i64 3, .slice la ln lc, .slice sa' sn' sc'] 51) := ⟨_, rfl⟩
            have AW : Hid (Below U9.heap.size U9 W) := hid (by rw [hW]; go_grown)
            have FW : Hid (W.heap[U9.heap.size]? = some (.cells #[.int .i64 0, .int .i64 3, .slice la ln lc, .slice sa' sn' sc'] 51)) := hid (by rw [hW]; exact heap_alloc_new U9 _)
            have OW : Hid (Ints W none 0 0 []) := hid (Ints.nil _)
            have TW := hid (heap_kept T9.out AW.out)
            have J1 := hid (I1.out.kept AW.out)
            have J2 := hid (I2.out.kept AW.out)
            have J3 := hid (I3.out.kept AW.out)
            have J4 : Hid (Ints W sa j sc ST) := hid (by rw [← ES.out]; exact HSI9.out.kept AW.out)
            have KW := hid (kept_cell AW.out HSK9.out)
            have EW := hid hW
            have NL : Hid (Ints ((W.alloc (.cells #[.int .i64 y] 3)).drew) (some ⟨W.heap.size, 0, none⟩) 1 1 [y]) := hid ((ints_new (u := W) (cs := #[.int .i64 y]) (t := 3) (l := [y]) rfl rfl rfl (by simp)).kept (Below.drew (Below.refl _ _)))
            obtain ⟨q0, q1, q2, q3⟩ := Q9.out
            have t0 := (cell_of_heap (j := 0) T9.out rfl).1
            clear hW
            go_wp2_with fail
            refine wp_world (U := W) (by rw [EW.out]) ?_
            have SA : Hid (∀ w', Below W.heap.size W w' → (w'.cell? ⟨U9.heap.size, 1, none⟩ = some (.int .i64 3) ∧ w'.cell? ⟨U9.heap.size, 2, none⟩ = some (.slice la ln lc) ∧ w'.cell? ⟨U9.heap.size, 3, none⟩ = some (.slice sa' sn' sc') ∧ w'.cell? ⟨u9.heap.size, 2, none⟩ = some (.slice ra rn rc) ∧ w'.cell? ⟨u9.heap.size, 3, none⟩ = some (.int .i64 0) ∧ w'.cell? ⟨wc.heap.size + 1 + 1 + 1 + 1 + 1 + 1 + 1 + 1 + 1 + 1 + 1, 2, none⟩ = some (.slice sa j sc))) := hid (fun w' b => ⟨kept_cell b (cell_of_heap (j := 1) FW.out rfl).1, kept_cell b (cell_of_heap (j := 2) FW.out rfl).1, kept_cell b (cell_of_heap (j := 3) FW.out rfl).1, kept_cell b (cell_of_heap (j := 2) TW.out rfl).1, kept_cell b (cell_of_heap (j := 3) TW.out rfl).1, kept_cell b KW.out⟩)
            have BC : Below W.heap.size W W := Below.refl _ _
            clear q0 q1 q2 q3 t0
            go_region_held3 (fun w' => w'.cell? ⟨U9.heap.size, 1, none⟩ = some (.int .i64 3) ∧ w'.cell? ⟨U9.heap.size, 2, none⟩ = some (.slice la ln lc) ∧ w'.cell? ⟨U9.heap.size, 3, none⟩ = some (.slice sa' sn' sc') ∧ w'.cell? ⟨u9.heap.size, 2, none⟩ = some (.slice ra rn rc) ∧ w'.cell? ⟨u9.heap.size, 3, none⟩ = some (.int .i64 0) ∧ w'.cell? ⟨wc.heap.size + 1 + 1 + 1 + 1 + 1 + 1 + 1 + 1 + 1 + 1 + 1, 2, none⟩ = some (.slice sa j sc)) (first | (refine SA.out _ ?_; (repeat (first | with_reducible exact BC | with_reducible refine pDrew ?_ | with_reducible refine pAlloc ?_ | with_reducible refine pSet (by first | exact Nat.le_refl _ | omega) ?_))))
              (first
                | (go_at_call 16; with_reducible refine (sameInts_same la _ ln lc 1 1 [y] _ (J1.out.kept ?h1) ?h2).mono ?_; (case h1 => (repeat (first | with_reducible exact BC | with_reducible refine pDrew ?_ | with_reducible refine pAlloc ?_ | with_reducible refine pSet (by first | exact Nat.le_refl _ | omega) ?_))); (case h2 => with_reducible exact NL.out); rintro e y1 ⟨rfl, b⟩; replace BC : Below W.heap.size W y1 := kt (by repeat (first | with_reducible exact BC | with_reducible refine pDrew ?_ | with_reducible refine pAlloc ?_ | with_reducible refine pSet (by first | exact Nat.le_refl _ | omega) ?_)) b; clear b)
                | (go_at_call 16; with_reducible refine (sameInts_same sa' _ sn' sc' _ _ ST _ (J2.out.kept ?h1) (J4.out.kept ?h2)).mono ?_; (case h1 => (repeat (first | with_reducible exact BC | with_reducible refine pDrew ?_ | with_reducible refine pAlloc ?_ | with_reducible refine pSet (by first | exact Nat.le_refl _ | omega) ?_))); (case h2 => (repeat (first | with_reducible exact BC | with_reducible refine pDrew ?_ | with_reducible refine pAlloc ?_ | with_reducible refine pSet (by first | exact Nat.le_refl _ | omega) ?_))); rintro e y1 ⟨rfl, b⟩; replace BC : Below W.heap.size W y1 := kt (by repeat (first | with_reducible exact BC | with_reducible refine pDrew ?_ | with_reducible refine pAlloc ?_ | with_reducible refine pSet (by first | exact Nat.le_refl _ | omega) ?_)) b; clear b)
                | (go_at_call 16; with_reducible refine (sameInts_same ra _ rn rc _ _ [] _ (J3.out.kept ?h1) (OW.out.kept ?h2)).mono ?_; (case h1 => (repeat (first | with_reducible exact BC | with_reducible refine pDrew ?_ | with_reducible refine pAlloc ?_ | with_reducible refine pSet (by first | exact Nat.le_refl _ | omega) ?_))); (case h2 => (repeat (first | with_reducible exact BC | with_reducible refine pDrew ?_ | with_reducible refine pAlloc ?_ | with_reducible refine pSet (by first | exact Nat.le_refl _ | omega) ?_))); rintro e y1 ⟨rfl, b⟩; replace BC : Below W.heap.size W y1 := kt (by repeat (first | with_reducible exact BC | with_reducible refine pDrew ?_ | with_reducible refine pAlloc ?_ | with_reducible refine pSet (by first | exact Nat.le_refl _ | omega) ?_)) b; clear b))
            all_goals
              go_wp2_with fail
              go_ret
              exact ⟨rfl, kt (kt BW9.out AW.out) BC⟩
          · skip
            have eP : pcK y 9 = 3 := by unfold pcK; rw [if_neg (by omega)]
            obtain rfl : P = 3 := by rw [← EP.out]; exact eP
            have eL : locK y 9 = 7 := by unfold locK; rw [if_neg (by omega)]
            obtain rfl : L = 7 := by rw [← EL.out]; exact eL
            have eO : outK y 9 = [y] := by unfold outK; rw [if_pos (by omega)]
            obtain rfl : O = [y] := by rw [← EO.out]; exact eO
            obtain ⟨W, hW⟩ : ∃ W : World, W = (U9.alloc (.cells #[.int .i64 y] 3)).alloc (.cells #[.int .i64 0, .int .i64 3, .slice la ln lc, .slice sa' sn' sc'] 51) := ⟨_, rfl⟩
            have AW : Hid (Below U9.heap.size U9 W) := hid (by rw [hW]; go_grown)
            have FW : Hid (W.heap[U9.heap.size + 1]? = some (.cells #[.int .i64 0, .int .i64 3, .slice la ln lc, .slice sa' sn' sc'] 51)) := hid (by rw [hW]; exact (by simpa using heap_alloc_new (U9.alloc (.cells #[.int .i64 y] 3)) (.cells #[.int .i64 0, .int .i64 3, .slice la ln lc, .slice sa' sn' sc'] 51)))
            have OW : Hid (Ints W (some ⟨U9.heap.size, 0, none⟩) 1 1 [y]) := hid (by rw [hW]; exact (ints_new (u := U9) (cs := #[.int .i64 y]) (t := 3) (l := [y]) rfl rfl rfl (by simp)).kept (Below.alloc (Below.refl _ _) (Nat.le_refl _) _))
            have TW := hid (heap_kept T9.out AW.out)
            have J1 := hid (I1.out.kept AW.out)
            have J2 := hid (I2.out.kept AW.out)
            have J3 := hid (I3.out.kept AW.out)
            have J4 : Hid (Ints W sa j sc ST) := hid (by rw [← ES.out]; exact HSI9.out.kept AW.out)
            have KW := hid (kept_cell AW.out HSK9.out)
            have EW := hid hW
            have NL : Hid (Ints ((W.alloc (.cells #[.int .i64 7] 3)).drew) (some ⟨W.heap.size, 0, none⟩) 1 1 [7]) := hid ((ints_new (u := W) (cs := #[.int .i64 7]) (t := 3) (l := [7]) rfl rfl rfl (by simp)).kept (Below.drew (Below.refl _ _)))
            obtain ⟨q0, q1, q2, q3⟩ := Q9.out
            have t0 := (cell_of_heap (j := 0) T9.out rfl).1
            have AY : Below U9.heap.size U9 (U9.alloc (.cells #[.int .i64 y] 3)) := Below.alloc (Below.refl _ _) (Nat.le_refl _) _
            have q0 := kept_cell AY q0
            have q1 := kept_cell AY q1
            have q2 := kept_cell AY q2
            have q3 := kept_cell AY q3
            have t0 := kept_cell AY t0
            clear AY
            clear hW
            go_wp2_with fail
            refine wp_world (U := W) (by rw [EW.out]) ?_
            have SA : Hid (∀ w', Below W.heap.size W w' → (w'.cell? ⟨U9.heap.size + 1, 1, none⟩ = some (.int .i64 3) ∧ w'.cell? ⟨U9.heap.size + 1, 2, none⟩ = some (.slice la ln lc) ∧ w'.cell? ⟨U9.heap.size + 1, 3, none⟩ = some (.slice sa' sn' sc') ∧ w'.cell? ⟨u9.heap.size, 2, none⟩ = some (.slice ra rn rc) ∧ w'.cell? ⟨u9.heap.size, 3, none⟩ = some (.int .i64 0) ∧ w'.cell? ⟨wc.heap.size + 1 + 1 + 1 + 1 + 1 + 1 + 1 + 1 + 1 + 1 + 1, 9, none⟩ = some (.slice sa j sc))) := hid (fun w' b => ⟨kept_cell b (cell_of_heap (j := 1) FW.out rfl).1, kept_cell b (cell_of_heap (j := 2) FW.out rfl).1, kept_cell b (cell_of_heap (j := 3) FW.out rfl).1, kept_cell b (cell_of_heap (j := 2) TW.out rfl).1, kept_cell b (cell_of_heap (j := 3) TW.out rfl).1, kept_cell b KW.out⟩)
            have BC : Below W.heap.size W W := Below.refl _ _
            clear q0 q1 q2 q3 t0
            go_region_held3 (fun w' => w'.cell? ⟨U9.heap.size + 1, 1, none⟩ = some (.int .i64 3) ∧ w'.cell? ⟨U9.heap.size + 1, 2, none⟩ = some (.slice la ln lc) ∧ w'.cell? ⟨U9.heap.size + 1, 3, none⟩ = some (.slice sa' sn' sc') ∧ w'.cell? ⟨u9.heap.size, 2, none⟩ = some (.slice ra rn rc) ∧ w'.cell? ⟨u9.heap.size, 3, none⟩ = some (.int .i64 0) ∧ w'.cell? ⟨wc.heap.size + 1 + 1 + 1 + 1 + 1 + 1 + 1 + 1 + 1 + 1 + 1, 9, none⟩ = some (.slice sa j sc)) (first | (refine SA.out _ ?_; (repeat (first | with_reducible exact BC | with_reducible refine pDrew ?_ | with_reducible refine pAlloc ?_ | with_reducible refine pSet (by first | exact Nat.le_refl _ | omega) ?_))))
              (first
                | (go_at_call 16; with_reducible refine (sameInts_same la _ ln lc 1 1 [7] _ (J1.out.kept ?h1) ?h2).mono ?_; (case h1 => (repeat (first | with_reducible exact BC | with_reducible refine pDrew ?_ | with_reducible refine pAlloc ?_ | with_reducible refine pSet (by first | exact Nat.le_refl _ | omega) ?_))); (case h2 => with_reducible exact NL.out); rintro e y1 ⟨rfl, b⟩; replace BC : Below W.heap.size W y1 := kt (by repeat (first | with_reducible exact BC | with_reducible refine pDrew ?_ | with_reducible refine pAlloc ?_ | with_reducible refine pSet (by first | exact Nat.le_refl _ | omega) ?_)) b; clear b)
                | (go_at_call 16; with_reducible refine (sameInts_same sa' _ sn' sc' _ _ ST _ (J2.out.kept ?h1) (J4.out.kept ?h2)).mono ?_; (case h1 => (repeat (first | with_reducible exact BC | with_reducible refine pDrew ?_ | with_reducible refine pAlloc ?_ | with_reducible refine pSet (by first | exact Nat.le_refl _ | omega) ?_))); (case h2 => (repeat (first | with_reducible exact BC | with_reducible refine pDrew ?_ | with_reducible refine pAlloc ?_ | with_reducible refine pSet (by first | exact Nat.le_refl _ | omega) ?_))); rintro e y1 ⟨rfl, b⟩; replace BC : Below W.heap.size W y1 := kt (by repeat (first | with_reducible exact BC | with_reducible refine pDrew ?_ | with_reducible refine pAlloc ?_ | with_reducible refine pSet (by first | exact Nat.le_refl _ | omega) ?_)) b; clear b)
                | (go_at_call 16; with_reducible refine (sameInts_same ra _ rn rc _ _ [y] _ (J3.out.kept ?h1) (OW.out.kept ?h2)).mono ?_; (case h1 => (repeat (first | with_reducible exact BC | with_reducible refine pDrew ?_ | with_reducible refine pAlloc ?_ | with_reducible refine pSet (by first | exact Nat.le_refl _ | omega) ?_))); (case h2 => (repeat (first | with_reducible exact BC | with_reducible refine pDrew ?_ | with_reducible refine pAlloc ?_ | with_reducible refine pSet (by first | exact Nat.le_refl _ | omega) ?_))); rintro e y1 ⟨rfl, b⟩; replace BC : Below W.heap.size W y1 := kt (by repeat (first | with_reducible exact BC | with_reducible refine pDrew ?_ | with_reducible refine pAlloc ?_ | with_reducible refine pSet (by first | exact Nat.le_refl _ | omega) ?_)) b; clear b))
            all_goals
              go_wp2_with fail
              go_ret
              exact ⟨rfl, kt (kt BW9.out AW.out) BC⟩
          · have f7 : ((k : Int) == 7) = false := by simp; omega
            have f8 : ((k : Int) == 8) = false := by simp; omega
            have f2 : ((k : Int) == 2) = false := by simp; omega
            have f9 : ((k : Int) == 9) = false := by simp; omega
            have eP : pcK y k = 3 := by unfold pcK; rw [if_neg (by omega)]
            obtain rfl : P = 3 := by rw [← EP.out]; exact eP
            have eL : locK y k = 7 := by unfold locK; rw [if_neg (by omega)]
            obtain rfl : L = 7 := by rw [← EL.out]; exact eL
            have eO : outK y k = [] := by unfold outK; rw [if_neg (by omega)]
            obtain rfl : O = [] := by rw [← EO.out]; exact eO
            obtain ⟨W, hW⟩ : ∃ W : World, W = U9.alloc (.cells #[.int .i64 0, .int .i64 3, .slice la ln lc, .slice sa' sn' sc'] 51) := ⟨_, rfl⟩
            have AW : Hid (Below U9.heap.size U9 W) := hid (by rw [hW]; go_grown)
            have FW : Hid (W.heap[U9.heap.size]? = some (.cells #[.int .i64 0, .int .i64 3, .slice la ln lc, .slice sa' sn' sc'] 51)) := hid (by rw [hW]; exact heap_alloc_new U9 _)
            have OW : Hid (Ints W none 0 0 []) := hid (Ints.nil _)
            have TW := hid (heap_kept T9.out AW.out)
            have J1 := hid (I1.out.kept AW.out)
            have J2 := hid (I2.out.kept AW.out)
            have J3 := hid (I3.out.kept AW.out)
            have J4 : Hid (Ints W sa j sc ST) := hid (by rw [← ES.out]; exact HSI9.out.kept AW.out)
            have KW := hid (kept_cell AW.out HSK9.out)
            have EW := hid hW
            have NL : Hid (Ints ((W.alloc (.cells #[.int .i64 7] 3)).drew) (some ⟨W.heap.size, 0, none⟩) 1 1 [7]) := hid ((ints_new (u := W) (cs := #[.int .i64 7]) (t := 3) (l := [7]) rfl rfl rfl (by simp)).kept (Below.drew (Below.refl _ _)))
            obtain ⟨q0, q1, q2, q3⟩ := Q9.out
            have t0 := (cell_of_heap (j := 0) T9.out rfl).1
            clear hW
            go_wp2_with fail
            refine wp_world (U := W) (by rw [EW.out]) ?_
            have SA : Hid (∀ w', Below W.heap.size W w' → (w'.cell? ⟨U9.heap.size, 1, none⟩ = some (.int .i64 3) ∧ w'.cell? ⟨U9.heap.size, 2, none⟩ = some (.slice la ln lc) ∧ w'.cell? ⟨U9.heap.size, 3, none⟩ = some (.slice sa' sn' sc') ∧ w'.cell? ⟨u9.heap.size, 2, none⟩ = some (.slice ra rn rc) ∧ w'.cell? ⟨u9.heap.size, 3, none⟩ = some (.int .i64 0) ∧ w'.cell? ⟨wc.heap.size + 1 + 1 + 1 + 1 + 1 + 1 + 1 + 1 + 1 + 1 + 1, k, none⟩ = some (.slice sa j sc))) := hid (fun w' b => ⟨kept_cell b (cell_of_heap (j := 1) FW.out rfl).1, kept_cell b (cell_of_heap (j := 2) FW.out rfl).1, kept_cell b (cell_of_heap (j := 3) FW.out rfl).1, kept_cell b (cell_of_heap (j := 2) TW.out rfl).1, kept_cell b (cell_of_heap (j := 3) TW.out rfl).1, kept_cell b KW.out⟩)
            have BC : Below W.heap.size W W := Below.refl _ _
            clear q0 q1 q2 q3 t0
            go_region_held3 (fun w' => w'.cell? ⟨U9.heap.size, 1, none⟩ = some (.int .i64 3) ∧ w'.cell? ⟨U9.heap.size, 2, none⟩ = some (.slice la ln lc) ∧ w'.cell? ⟨U9.heap.size, 3, none⟩ = some (.slice sa' sn' sc') ∧ w'.cell? ⟨u9.heap.size, 2, none⟩ = some (.slice ra rn rc) ∧ w'.cell? ⟨u9.heap.size, 3, none⟩ = some (.int .i64 0) ∧ w'.cell? ⟨wc.heap.size + 1 + 1 + 1 + 1 + 1 + 1 + 1 + 1 + 1 + 1 + 1, k, none⟩ = some (.slice sa j sc)) (first | (refine SA.out _ ?_; (repeat (first | with_reducible exact BC | with_reducible refine pDrew ?_ | with_reducible refine pAlloc ?_ | with_reducible refine pSet (by first | exact Nat.le_refl _ | omega) ?_))))
              (first
                | (go_at_call 16; with_reducible refine (sameInts_same la _ ln lc 1 1 [7] _ (J1.out.kept ?h1) ?h2).mono ?_; (case h1 => (repeat (first | with_reducible exact BC | with_reducible refine pDrew ?_ | with_reducible refine pAlloc ?_ | with_reducible refine pSet (by first | exact Nat.le_refl _ | omega) ?_))); (case h2 => with_reducible exact NL.out); rintro e y1 ⟨rfl, b⟩; replace BC : Below W.heap.size W y1 := kt (by repeat (first | with_reducible exact BC | with_reducible refine pDrew ?_ | with_reducible refine pAlloc ?_ | with_reducible refine pSet (by first | exact Nat.le_refl _ | omega) ?_)) b; clear b)
                | (go_at_call 16; with_reducible refine (sameInts_same sa' _ sn' sc' _ _ ST _ (J2.out.kept ?h1) (J4.out.kept ?h2)).mono ?_; (case h1 => (repeat (first | with_reducible exact BC | with_reducible refine pDrew ?_ | with_reducible refine pAlloc ?_ | with_reducible refine pSet (by first | exact Nat.le_refl _ | omega) ?_))); (case h2 => (repeat (first | with_reducible exact BC | with_reducible refine pDrew ?_ | with_reducible refine pAlloc ?_ | with_reducible refine pSet (by first | exact Nat.le_refl _ | omega) ?_))); rintro e y1 ⟨rfl, b⟩; replace BC : Below W.heap.size W y1 := kt (by repeat (first | with_reducible exact BC | with_reducible refine pDrew ?_ | with_reducible refine pAlloc ?_ | with_reducible refine pSet (by first | exact Nat.le_refl _ | omega) ?_)) b; clear b)
                | (go_at_call 16; with_reducible refine (sameInts_same ra _ rn rc _ _ [] _ (J3.out.kept ?h1) (OW.out.kept ?h2)).mono ?_; (case h1 => (repeat (first | with_reducible exact BC | with_reducible refine pDrew ?_ | with_reducible refine pAlloc ?_ | with_reducible refine pSet (by first | exact Nat.le_refl _ | omega) ?_))); (case h2 => (repeat (first | with_reducible exact BC | with_reducible refine pDrew ?_ | with_reducible refine pAlloc ?_ | with_reducible refine pSet (by first | exact Nat.le_refl _ | omega) ?_))); rintro e y1 ⟨rfl, b⟩; replace BC : Below W.heap.size W y1 := kt (by repeat (first | with_reducible exact BC | with_reducible refine pDrew ?_ | with_reducible refine pAlloc ?_ | with_reducible refine pSet (by first | exact Nat.le_refl _ | omega) ?_)) b; clear b))
            all_goals
              go_wp2_with fail
              go_ret
              exact ⟨rfl, kt (kt BW9.out AW.out) BC⟩

set_option maxRecDepth 100000 in
theorem lifted (os : Os) (started : os.Started) (H : Type) (enc : TypeId × Value → H) :
    ReturnsInHanded {} Tryz.checked os 4 .any (fun w args => (Rows.stepKindsSpec.pre enc Tryz.prog Tryz.f4 [] false w args ∧ laidMetH Tryz.prog [("math/bits.deBruijn32tab", Rows.laid_math_bits_deBruijn32tab), ("math/bits.deBruijn64tab", Rows.laid_math_bits_deBruijn64tab), ("internal/strconv.uint64pow10", Rows.laid_internal_strconv_uint64pow10), ("errors.errorType", Rows.laid_errors_errorType), ("swage/pack.errForm", Rows.laid_swage_pack_errForm), ("swage/pack.errEnd", Rows.laid_swage_pack_errEnd)] w) ∧ sizedMet enc Tryz.prog Tryz.f4 (OpenSpec.ofChange Rows.stepKindsSpec) false w args) (Rows.stepKindsSpec.post enc Tryz.prog Tryz.f4 false true false false) := by
  refine returnsInHanded_of_change_and (C := Tryz.checked) (X := fun w _ => laidMetH Tryz.prog [("math/bits.deBruijn32tab", Rows.laid_math_bits_deBruijn32tab), ("math/bits.deBruijn64tab", Rows.laid_math_bits_deBruijn64tab), ("internal/strconv.uint64pow10", Rows.laid_internal_strconv_uint64pow10), ("errors.errorType", Rows.laid_errors_errorType), ("swage/pack.errForm", Rows.laid_swage_pack_errForm), ("swage/pack.errEnd", Rows.laid_swage_pack_errEnd)] w) (fun _ _ _ hh h => h.of_heap hh) own started (by kernel_rfl) Tryz.func4
    (ChangeSpec.witness_shaped (enc := enc) (C := Tryz.checked) (os := os) (X := fun w _ => laidMetH Tryz.prog [("math/bits.deBruijn32tab", Rows.laid_math_bits_deBruijn32tab), ("math/bits.deBruijn64tab", Rows.laid_math_bits_deBruijn64tab), ("internal/strconv.uint64pow10", Rows.laid_internal_strconv_uint64pow10), ("errors.errorType", Rows.laid_errors_errorType), ("swage/pack.errForm", Rows.laid_swage_pack_errForm), ("swage/pack.errEnd", Rows.laid_swage_pack_errEnd)] w) false (World.doorLaid Tryz.prog 400 os) #[.int .i64 0, .int .i64 0, .int .i64 0] 8 rfl (World.shaped_of_RefB (by kernel_rfl) (by kernel_rfl)) (by kernel_rfl) (by kernel_rfl) (by kernel_rfl) (door_met os _)) ?_
  intro W base args ds gs before hval0 hW hcnd hsz0 hL _
  have hval : ∀ (j : Nat) t v, Tryz.f4.params[j]? = some t → args[j]? = some v → Value.okWide Tryz.prog W .any base t v := hval0
  have hW' := hW
  obtain ⟨p, q, hA0, hV, rfl, hfz, hnd⟩ := hW
  have hA : DataW.TrodAll enc Tryz.prog W 0 (fun _ => true) true Tryz.f4.params.toList args.toList ds p := hA0
  have hsz : (DataW.weightsEach Tryz.prog (Tryz.f4.params.toList ++ Rows.stepKindsSpec.plain.varTypes Tryz.prog) (ds ++ gs)).all (· ≤ reachBytes) = true := hsz0
  rw [Tryz.params4] at hA hval hsz
  obtain ⟨v0, vs0, d0, ds0, p0, q0, hargs, rfl, rfl, h0, r0⟩ := trodAll_cons hA
  obtain ⟨v1, vs1, d1, ds1, p1, q1, rfl, rfl, rfl, h1, r1⟩ := trodAll_cons r0
  obtain ⟨v2, vs2, d2, ds2, p2, q2, rfl, rfl, rfl, h2, r2⟩ := trodAll_cons r1
  obtain ⟨rfl, rfl, rfl⟩ := trodAll_nil r2
  obtain rfl : args = #[v0, v1, v2] := by cases args; simp_all
  obtain ⟨rfl, rfl⟩ := trodVars_none hV
  have k0 := h0
  have lt0 : ∀ x ∈ p0, x.block < W.heap.size := by obtain ⟨m, hm⟩ := k0; exact DataW.trod_lt m _ _ _ hm
  have k1 := h1
  have lt1 : ∀ x ∈ p1, x.block < W.heap.size := by obtain ⟨m, hm⟩ := k1; exact DataW.trod_lt m _ _ _ hm
  have k2 := h2
  have lt2 : ∀ x ∈ p2, x.block < W.heap.size := by obtain ⟨m, hm⟩ := k2; exact DataW.trod_lt m _ _ _ hm
  obtain ⟨a0, rfl, rfl, rfl, w0⟩ := open_int Tryz.underlying3 (hval 0 3 v0 rfl rfl) h0
  obtain ⟨a1, rfl, rfl, rfl, w1⟩ := open_int Tryz.underlying3 (hval 1 3 v1 rfl rfl) h1
  obtain ⟨a2, rfl, rfl, rfl, w2⟩ := open_int Tryz.underlying3 (hval 2 3 v2 rfl rfl) h2
  clear hA0 hval0
  refine (walk a0 a1 a2 W w0 w1 w2 (ld_of hL)).mono fun e W' ⟨he, bel⟩ => ?_
  subst he
  exact ⟨_, rfl, _, _, _, [], _, [], hW', trodAll_mk1 (shut_bool Tryz.underlying4 _), (trodAll_cons_mk (Below.trod laidOut (by kernel_rfl) (of_decide_eq_true (by kernel_rfl)) k0 bel lt0) (trodAll_cons_mk (Below.trod laidOut (by kernel_rfl) (of_decide_eq_true (by kernel_rfl)) k1 bel lt1) (trodAll_cons_mk (Below.trod laidOut (by kernel_rfl) (of_decide_eq_true (by kernel_rfl)) k2 bel lt2) trodAll_mk0))), rfl, bel.frame _, fun h => by cases h⟩

theorem over : Rows.stepKindsRow.holds Tryz.pinned (OpenSpec.ofChange Rows.stepKindsSpec) :=
  OpenClaim.holds_of_wide 4 Tryz.f4 rfl rfl rfl rfl rfl rfl rfl ⟨rfl, rfl, rfl, rfl, rfl⟩ rfl rfl rfl rfl rfl (by kernel_rfl) Tryz.func4 (by kernel_rfl)
    (of_decide_eq_true (by kernel_rfl)) (by unfold Func.isWrapper; first | (rw [if_pos (by decide +kernel)]; kernel_rfl) | (rw [if_neg (by decide +kernel)]; exact ⟨rfl, rfl⟩))
    (fun os started H enc _ => lifted os started H enc)
end Go.Proofs.YtcngmkbgcfhmdaaGreatDoor.stepKinds
namespace Go.Proofs.YtcngmkbgcfhmdaaGreatDoor
open Go
theorem stepKinds_holds : Rows.StepKindsCardSaid :=
  Claim7.holds_tied_plain_at .later [] [.data, .data, .data, .handle, .sentinel, .sentinel] true (true, "8ce2f962c952337db57778753e74d555c467eb37702223c817e647a3aea5e81b") true
    stepKinds.over (fun _ h => by cases h) (by kernel_rfl) (fun _ h => by cases h) stepKinds_row_tie rfl ⟨rfl, rfl⟩ (by kernel_rfl) rfl
    (fun f fn hf hfn => by
      obtain rfl : f = 4 := Option.some.inj ((show Tryz.prog.funcNamed "swage/swagelaw7.StepKinds" = some 4 by kernel_rfl).symm.trans hf) |>.symm
      obtain rfl : fn = Tryz.f4 := (Option.some.inj (Tryz.func4.symm.trans hfn)).symm
      exact ⟨by kernel_rfl, fun j t ht => by
        rw [Tryz.params4] at ht
        have hm : t ∈ [3, 3, 3] := by simpa using Array.mem_of_getElem? ht
        have hall : ([3, 3, 3].all fun u => !Tryz.prog.wantsStandIn u) = true := by kernel_rfl
        exact (show Tryz.prog.wantsStandIn t = false by simpa using List.all_eq_true.1 hall t hm)⟩)
    (by kernel_rfl)
#print axioms stepKinds_holds
end Go.Proofs.YtcngmkbgcfhmdaaGreatDoor
