/- For any integer the law VerifyHeights returns true: so many constants, then as many sums: heights rise to their number, and fall; more than may be are refused; no conditions. -/
import Derived.Test.YtnmhoahkmampkaaDoorRows
import Derived.WalkKit
import Derived.ProofKit
import Derived.OpenShut
import Derived.ShutString
import Derived.ChangeOld
import Derived.Below
import Derived.Carry
import Derived.Lib.SmallJoins
import Derived.Handy
import Derived.WalkSmall
import Derived.SizedLaws
import Derived.Test.YtnmhoahkmampkaaDoorLaidOpenV
import Derived.Test.YtnmhoahkmampkaaDoorCards
import Derived.Test.YtnmhoahkmampkaaDoorTie
import Derived.SevenTiedAt
import Derived.LaidMore
import Derived.Stop.Joined
import Derived.Test.YtnmhoahkmampkaaDoorAwake5
import Derived.Test.YtnmhoahkmampkaaDoorPlainVer2
namespace Go.Proofs.YtnmhoahkmampkaaDoor.verifyHeights
open Go.ChangeShapes Go.WideShapes Go.ChangeAt Go.RowKit
open Go.ChangeMaps (open_string shut_string)
set_option linter.unusedVariables false

theorem own : ownKnob Tryd.prog.godebug = none := by kernel_rfl
theorem laidOut : laidOutB Tryd.prog = true := by kernel_rfl

theorem and15 (n : Int) : bits .and .i64 n 15 = n % 16 := by
  have hm : (BitVec.ofInt 64 15).toNat = 2 ^ 4 - 1 := by decide
  show IntKind.i64.wrap ((BitVec.ofInt 64 n &&& BitVec.ofInt 64 15).toNat : Nat) = n % 16
  rw [BitVec.toNat_and, BitVec.toNat_ofInt, hm, Nat.and_two_pow_sub_one_eq_mod, IntKind.wrap_i64]
  omega
def codeK (k : Nat) : List (Int × Int) := (List.range k).map (fun i : Nat => ((0 : Int), (i : Int))) ++ List.replicate (k - 1) (3, 0) ++ [(16, 0)]
def wantK (k : Nat) : List Int := (List.range k).map (fun i : Nat => (i : Int)) ++ (List.range (k - 1)).map (fun i : Nat => ((k - i : Nat) : Int)) ++ [1]
theorem codeK_1 : ∀ k, k ≤ 16 → ∀ j, j < k → (codeK k).getD j (0, 0) = (0, (j : Int)) := by decide +kernel
theorem codeK_2 : ∀ k, k ≤ 16 → ∀ j, j < 16 → k ≤ k + j → j + 1 < k → (codeK k).getD (k + j) (0, 0) = (3, 0) := by decide +kernel
theorem codeK_3 : ∀ k, k ≤ 16 → 1 ≤ k → (codeK k).getD (k + k - 1) (0, 0) = (16, 0) := by decide +kernel
theorem wantK_1 : ∀ k, k ≤ 16 → ∀ j, j < k → (wantK k).getD j 0 = (j : Int) := by decide +kernel
theorem wantK_2 : ∀ k, k ≤ 16 → ∀ j, j < 16 → j + 1 < k → (wantK k).getD (k + j) 0 = ((k - j : Nat) : Int) := by decide +kernel
theorem wantK_3 : ∀ k, k ≤ 16 → 1 ≤ k → (wantK k).getD (k + k - 1) 0 = 1 := by decide +kernel
theorem codeK_len {k : Nat} (h : 1 ≤ k) : (codeK k).length = k + k := by simp [codeK]; omega
theorem wantK_len {k : Nat} (h : 1 ≤ k) : (wantK k).length = k + k := by simp [wantK]; omega
theorem hts_few : ∀ k, k ≤ 8 → 1 ≤ k → htsV [(0, 0, codeK k)] 0 = (wantK k, 0, 0) := by decide +kernel
theorem hts_many : ∀ k, k ≤ 16 → 8 < k → htsV [(0, 0, codeK k)] 0 = ([], 8, 502) := by decide +kernel
/-- The two rows that the law grows. -/
structure Two (w : World) (base : Nat) (vc vw : Value) (cs : List (Int × Int)) (ws : List Int) : Prop where
  code : w.ownsRow base 24 2 vc cs.length (flat2 cs)
  want : w.ownsRow base 3 1 vw ws.length (ints ws)
theorem Two.kept {w w' : World} {base : Nat} {vc vw : Value} {cs : List (Int × Int)} {ws : List Int} (h : Two w base vc vw cs ws) (hb : Below w.heap.size w w') : Two w' base vc vw cs ws := ⟨owns_kept h.code hb, owns_kept h.want hb⟩
theorem Two.slices {w : World} {base : Nat} {vc vw : Value} {cs : List (Int × Int)} {ws : List Int} (h : Two w base vc vw cs ws) (h1 : cs.length ≤ 64) (h2 : ws.length ≤ 64) : ∃ ac nc cc aw nw cw, vc = .slice ac nc cc ∧ vw = .slice aw nw cw := by
  obtain ⟨ac, nc, cc, e1, _⟩ := inss_of_owns h.code (by omega)
  obtain ⟨aw, nw, cw, e2, _⟩ := ints_of_owns h.want (by omega)
  exact ⟨ac, nc, cc, aw, nw, cw, e1, e2⟩
theorem Two.grow {W w6 : World} {base : Nat} {vc vw v' : Value} {cs : List (Int × Int)} {ws : List Int} {x y : Int} (h : Two W base vc vw cs ws) (hg : W.grownBy w6 vc.ownBlock) (ho : w6.ownsRow base 24 2 v' (cs.length + 1) (flat2 cs ++ [.int .i64 x, .int .i64 y])) : Two w6 base v' vw (cs ++ [(x, y)]) ws :=
  ⟨by rw [flat2_app, List.length_append]; exact ho, h.want.kept hg (owns_apart h.want h.code (by decide))⟩
theorem Two.grow2 {W w6 : World} {base : Nat} {vc vw v' : Value} {cs : List (Int × Int)} {ws : List Int} {x : Int} (h : Two W base vc vw cs ws) (hg : W.grownBy w6 vw.ownBlock) (ho : w6.ownsRow base 3 1 v' (ws.length + 1) (ints ws ++ [.int .i64 x])) : Two w6 base vc v' cs (ws ++ [x]) :=
  ⟨h.code.kept hg (owns_apart h.code h.want (by decide)), by rw [ints_app, List.length_append]; exact ho⟩
theorem take_snoc2 {α : Type} {l : List α} {q : Nat} {d x : α} (h : q < l.length) (e : l.getD q d = x) : l.take q ++ [x] = l.take (q + 1) := (take_snoc_getD h e).symm
set_option maxRecDepth 100000 in
set_option maxHeartbeats 20000000 in
theorem walk (a0 : Int) (w : World) (w0 : (Lit.int .i64 a0).wf = true) (ld : Ld w) :
    Calls Tryd.prog 4 #[.int .i64 a0] w fun e w' => e = .returned (.bool true) ∧ Below w.heap.size w w' := by
  have LD0 := hid ld
  clear ld
  obtain ⟨i0, hi0, hy0, hy1, hy2⟩ := info_parts Tryd.infoIns
  obtain ⟨i1, hi1, hz0, hz1, hz2⟩ := info_parts Tryd.infoInt
  have hm := and15 a0
  have hm0 : 0 ≤ a0 % 16 ∧ a0 % 16 < 16 := by omega
  generalize a0 % 16 = m at hm hm0
  obtain ⟨hm1, hm2⟩ := hm0
  obtain ⟨mm, rfl⟩ := Int.eq_ofNat_of_zero_le hm1
  clear w0 hm1
  have LC := hid (codeK_len (k := 1 + mm) (by omega))
  have LW := hid (wantK_len (k := 1 + mm) (by omega))
  go_enter Tryd.func4, Tryd.ntmps4
  go_wp2_with fail
  refine (awake5_any _ LD0.out).mono ?_
  rintro e u1 ⟨rfl, b1⟩
  have B1 := hid b1
  clear b1
  go_wp2_with fail
  go_loopw [4, 5, 6] (fun vc vw s wr => ∃ q : Nat, q ≤ 1 + mm ∧ s = .int .i64 q ∧ Two wr u1.heap.size vc vw ((codeK (1 + mm)).take q) ((wantK (1 + mm)).take q) ∧ Below u1.heap.size u1 wr) (fun _ _ s _ => 1 + mm - (intOf s).toNat)
  case atStart => exact ⟨0, Nat.zero_le _, rfl, ⟨World.ownsRow_nil _ _ _ _, World.ownsRow_nil _ _ _ _⟩, Below.refl _ _⟩
  case round =>
    obtain ⟨q, hq, rfl, tw, hb⟩ := hrel
    have hs := hb.size
    have l1 : ((codeK (1 + mm)).take q).length = q := by rw [List.length_take]; have := LC.out; omega
    have l2 : ((wantK (1 + mm)).take q).length = q := by rw [List.length_take]; have := LW.out; omega
    by_cases hlt : q < 1 + mm
    · obtain ⟨ac, nc, cc, aw, nw, cw, rfl, rfl⟩ := tw.slices (by omega) (by omega)
      have T1 := hid (tw.kept (Below.alloc (Below.refl _ _) (Nat.le_refl _) (.cells #[.int .i64 0, .int .i64 (q : Int)] 24)))
      have E1 := hid (take_snoc2 (l := codeK (1 + mm)) (q := q) (d := (0, 0)) (by have := LC.out; omega) (codeK_1 (1 + mm) (by omega) q hlt))
      have E2 := hid (take_snoc2 (l := wantK (1 + mm)) (q := q) (d := 0) (by have := LW.out; omega) (wantK_1 (1 + mm) (by omega) q hlt))
      have HL := hid (And.intro l1 l2)
      clear tw l1 l2
      go_wp2_with (first | (at_builtin; refine wpList_append_lies _ rfl _ _ 25 rfl u1.heap.size 24 i0 (.agg #[.int .i64 0, .int .i64 0]) 2 16 Tryd.underlying25 hi0 hy0 hy1 hy2 rfl (by decide) (.slice ac nc cc) _ _ rfl T1.out.code ⟨wr.heap.size, 0, none⟩ 1 1 [.int .i64 0, .int .i64 (q : Int)] rfl rfl (news_of (by simp) #[.int .i64 0, .int .i64 (q : Int)] 24) (by intro u hu; simp at hu; rcases hu with rfl | rfl <;> rfl) (by decide) (by unfold maxLen; have := HL.out.1; omega) (by have := HL.out.1; omega) (by simp; omega) (wr.heap.size + 1) (by simp) ?_; intro g cap w6 ho6 hg6 hat hlt6; have T6 := hid (T1.out.grow hg6 ho6); have G6 := hid hg6; have s6 := hg6.size; clear ho6 hg6 hat hlt6) | (at_builtin; refine wpList_append_lies _ rfl _ _ 27 rfl u1.heap.size 3 i1 (.int .i64 0) 1 8 Tryd.underlying27 hi1 hz0 hz1 hz2 rfl (by decide) (.slice aw nw cw) _ _ rfl (T6.out.kept (Below.alloc (Below.refl _ _) (Nat.le_refl _) (.cells #[.int .i64 (q : Int)] 3))).want ⟨w6.heap.size, 0, none⟩ 1 1 [.int .i64 (q : Int)] rfl rfl (news_of (by simp) #[.int .i64 (q : Int)] 3) (by intro u hu; simp at hu; subst hu; rfl) (by decide) (by unfold maxLen; have := HL.out.2; omega) (by have := HL.out.2; omega) (by have := G6.out.size; simp at this ⊢; omega) (w6.heap.size + 1) (by simp) ?_; intro g2 cap2 w8 ho8 hg8 hat8 hlt8; have T8 := hid ((T6.out.kept (Below.alloc (Below.refl _ _) (Nat.le_refl _) (.cells #[.int .i64 (q : Int)] 3))).grow2 hg8 ho8); have G8 := hid hg8; clear ho8 hg8 hat8 hlt8))
      have B8 : Hid (Below u1.heap.size u1 w8) := hid (Below.grown (Below.alloc (Below.grown (Below.alloc hb (by omega) _) G6.out (by simp; omega) (fun k hk => (T1.out.code.lt k hk).1)) (by have := G6.out.size; simp at this; omega) _) G8.out (by have := G6.out.size; simp at this ⊢; omega) (fun k hk => (T6.out.want.lt k hk).1))
      go_roundw
      case rel => exact ⟨q + 1, by omega, by go_num, by have t := T8.out; rw [E1.out, E2.out] at t; simp only [List.length_take] at t; exact t, B8.out⟩
      case measure => simp [intOf]; omega
    · have hqn : q = 1 + mm := by omega
      subst hqn
      have TW := hid tw
      clear tw l1 l2
      go_wp2_with fail
      go_loopw [4, 5, 7] (fun vc vw s wr => ∃ t I : Nat, I + t = 1 + mm ∧ 1 ≤ I ∧ s = .int .i64 (I : Int) ∧ Two wr u1.heap.size vc vw ((codeK (1 + mm)).take (1 + mm + t)) ((wantK (1 + mm)).take (1 + mm + t)) ∧ Below u1.heap.size u1 wr) (fun _ _ s _ => (intOf s).toNat)
      case atStart => exact ⟨0, 1 + mm, by omega, by omega, by go_num, TW.out, hb⟩
      case round =>
        clear TW hb
        obtain ⟨t, I, hI, hI0, rfl, tw, hb⟩ := hrel
        have hs := hb.size
        have l1 : ((codeK (1 + mm)).take (1 + mm + t)).length = 1 + mm + t := by rw [List.length_take]; have := LC.out; omega
        have l2 : ((wantK (1 + mm)).take (1 + mm + t)).length = 1 + mm + t := by rw [List.length_take]; have := LW.out; omega
        obtain ⟨ac, nc, cc, aw, nw, cw, rfl, rfl⟩ := tw.slices (by omega) (by omega)
        have HL := hid (And.intro l1 l2)
        have HI := hid hI
        by_cases hlt : 1 < I
        · have hI2 : I ≤ 16 ∧ t ≤ 16 := by omega
          have T1 := hid (tw.kept (Below.alloc (Below.refl _ _) (Nat.le_refl _) (.cells #[.int .i64 3, .int .i64 0] 24)))
          have E1 := hid (take_snoc2 (l := codeK (1 + mm)) (q := 1 + mm + t) (d := (0, 0)) (by have := LC.out; omega) (codeK_2 (1 + mm) (by omega) t (by omega) (by omega) (by omega)))
          have E2 := hid (take_snoc2 (l := wantK (1 + mm)) (q := 1 + mm + t) (d := 0) (x := (I : Int)) (by have := LW.out; omega) (by rw [wantK_2 (1 + mm) (by omega) t (by omega) (by omega), show 1 + mm - t = I by omega]))
          clear tw l1 l2 hI
          go_wp2_with (first | (at_builtin; refine wpList_append_lies _ rfl _ _ 25 rfl u1.heap.size 24 i0 (.agg #[.int .i64 0, .int .i64 0]) 2 16 Tryd.underlying25 hi0 hy0 hy1 hy2 rfl (by decide) (.slice ac nc cc) _ _ rfl T1.out.code ⟨wr.heap.size, 0, none⟩ 1 1 [.int .i64 3, .int .i64 0] rfl rfl (news_of (by simp) #[.int .i64 3, .int .i64 0] 24) (by intro u hu; simp at hu; rcases hu with rfl | rfl <;> rfl) (by decide) (by unfold maxLen; have := HL.out.1; omega) (by have := HL.out.1; omega) (by simp; omega) (wr.heap.size + 1) (by simp) ?_; intro g cap w6 ho6 hg6 hat hlt6; have T6 := hid (T1.out.grow hg6 ho6); have G6 := hid hg6; have s6 := hg6.size; clear ho6 hg6 hat hlt6) | (at_builtin; refine wpList_append_lies _ rfl _ _ 27 rfl u1.heap.size 3 i1 (.int .i64 0) 1 8 Tryd.underlying27 hi1 hz0 hz1 hz2 rfl (by decide) (.slice aw nw cw) _ _ rfl (T6.out.kept (Below.alloc (Below.refl _ _) (Nat.le_refl _) (.cells #[.int .i64 (I : Int)] 3))).want ⟨w6.heap.size, 0, none⟩ 1 1 [.int .i64 (I : Int)] rfl rfl (news_of (by simp) #[.int .i64 (I : Int)] 3) (by intro u hu; simp at hu; subst hu; rfl) (by decide) (by unfold maxLen; have := HL.out.2; omega) (by have := HL.out.2; omega) (by have := G6.out.size; simp at this ⊢; omega) (w6.heap.size + 1) (by simp) ?_; intro g2 cap2 w8 ho8 hg8 hat8 hlt8; have T8 := hid ((T6.out.kept (Below.alloc (Below.refl _ _) (Nat.le_refl _) (.cells #[.int .i64 (I : Int)] 3))).grow2 hg8 ho8); have G8 := hid hg8; clear ho8 hg8 hat8 hlt8))
          have B8 : Hid (Below u1.heap.size u1 w8) := hid (Below.grown (Below.alloc (Below.grown (Below.alloc hb (by omega) _) G6.out (by simp; omega) (fun k hk => (T1.out.code.lt k hk).1)) (by have := G6.out.size; simp at this; omega) _) G8.out (by have := G6.out.size; simp at this ⊢; omega) (fun k hk => (T6.out.want.lt k hk).1))
          go_roundw
          case rel =>
            refine ⟨_, _, _, _, _, _, _, _, _, _, _, _, _, _, _, ?_, rfl⟩
            exact ⟨t + 1, I - 1, by have := HI.out; omega, by omega, by go_num, by have t9 := T8.out; rw [E1.out, E2.out] at t9; simp only [List.length_take] at t9; exact t9, B8.out⟩
          case measure => simp [intOf]; omega
        · have hI1 : I = 1 := by omega
          subst hI1
          have htm : t = mm := by omega
          subst htm
          have T1 := hid (tw.kept (Below.alloc (Below.refl _ _) (Nat.le_refl _) (.cells #[.int .i64 16, .int .i64 0] 24)))
          have E1 := hid (take_snoc2 (l := codeK (1 + t)) (q := 1 + t + t) (d := (0, 0)) (x := (16, 0)) (by have := LC.out; omega) (by have h9 := codeK_3 (1 + t) (by omega) (by omega); have e9 : 1 + t + (1 + t) - 1 = 1 + t + t := (by omega); rwa [e9] at h9))
          have E2 := hid (take_snoc2 (l := wantK (1 + t)) (q := 1 + t + t) (d := 0) (x := 1) (by have := LW.out; omega) (by have h9 := wantK_3 (1 + t) (by omega) (by omega); have e9 : 1 + t + (1 + t) - 1 = 1 + t + t := (by omega); rwa [e9] at h9))
          clear tw l1 l2 hI HI
          go_wp2_with (first | (at_builtin; refine wpList_append_lies _ rfl _ _ 25 rfl u1.heap.size 24 i0 (.agg #[.int .i64 0, .int .i64 0]) 2 16 Tryd.underlying25 hi0 hy0 hy1 hy2 rfl (by decide) (.slice ac nc cc) _ _ rfl T1.out.code ⟨wr.heap.size, 0, none⟩ 1 1 [.int .i64 16, .int .i64 0] rfl rfl (news_of (by simp) #[.int .i64 16, .int .i64 0] 24) (by intro u hu; simp at hu; rcases hu with rfl | rfl <;> rfl) (by decide) (by unfold maxLen; have := HL.out.1; omega) (by have := HL.out.1; omega) (by simp; omega) (wr.heap.size + 1) (by simp) ?_; intro g cap w6 ho6 hg6 hat hlt6; have T6 := hid (T1.out.grow hg6 ho6); have G6 := hid hg6; have s6 := hg6.size; clear ho6 hg6 hat hlt6) | (at_builtin; refine wpList_append_lies _ rfl _ _ 27 rfl u1.heap.size 3 i1 (.int .i64 0) 1 8 Tryd.underlying27 hi1 hz0 hz1 hz2 rfl (by decide) (.slice aw nw cw) _ _ rfl (T6.out.kept (Below.alloc (Below.refl _ _) (Nat.le_refl _) (.cells #[.int .i64 1] 3))).want ⟨w6.heap.size, 0, none⟩ 1 1 [.int .i64 1] rfl rfl (news_of (by simp) #[.int .i64 1] 3) (by intro u hu; simp at hu; subst hu; rfl) (by decide) (by unfold maxLen; have := HL.out.2; omega) (by have := HL.out.2; omega) (by have := G6.out.size; simp at this ⊢; omega) (w6.heap.size + 1) (by simp) ?_; intro g2 cap2 w8 ho8 hg8 hat8 hlt8; have T8 := hid ((T6.out.kept (Below.alloc (Below.refl _ _) (Nat.le_refl _) (.cells #[.int .i64 1] 3))).grow2 hg8 ho8); have G8 := hid hg8; clear ho8 hg8 hat8 hlt8))
          have B8 : Hid (Below u1.heap.size u1 w8) := hid (Below.grown (Below.alloc (Below.grown (Below.alloc hb (by omega) _) G6.out (by simp; omega) (fun k hk => (T1.out.code.lt k hk).1)) (by have := G6.out.size; simp at this; omega) _) G8.out (by have := G6.out.size; simp at this ⊢; omega) (fun k hk => (T6.out.want.lt k hk).1))
          have TT : Hid (Two w8 u1.heap.size (.slice (some ⟨g, 0, none⟩) (min (1 + t + t) (codeK (1 + t)).length + 1) cap) (.slice (some ⟨g2, 0, none⟩) (min (1 + t + t) (wantK (1 + t)).length + 1) cap2) (codeK (1 + t)) (wantK (1 + t))) := hid (by
            have t9 := T8.out
            rw [E1.out, E2.out] at t9
            simp only [List.length_take] at t9
            rw [List.take_of_length_le (by have := LC.out; omega), List.take_of_length_le (by have := LW.out; omega)] at t9
            exact t9)
          obtain ⟨_, _, _, ec, IC⟩ := inss_of_owns TT.out.code (by have := LC.out; omega)
          cases ec
          obtain ⟨_, _, _, ew, IW⟩ := ints_of_owns TT.out.want (by have := LW.out; omega)
          cases ew
          have IC := hid IC
          have IW := hid IW
          refine (small_any 0 0 _ _ _ (codeK (1 + t)) _ IC.out).mono ?_
          rintro e v1 ⟨vp, pn, pc, rfl, fp, b9⟩
          have FP := hid fp
          have C1 := hid b9
          clear fp b9
          go_wp2_with fail
          refine (verHeights _ _ _ [(0, 0, codeK (1 + t))] 0 _ FP.out (LD0.out.up (kt (kt B1.out B8.out) C1.out))).mono ?_
          rintro e v2 ⟨vh, rfl, oh, b10⟩
          have C2 := hid (kt C1.out b10)
          by_cases hmany : 8 < 1 + t
          · rw [hts_many (1 + t) (by omega) hmany] at oh ⊢
            obtain ⟨ah, nh, ch, rfl, ih⟩ := ints_of_owns oh (by simp)
            have hn : nh = 0 := ih.len
            subst hn
            clear oh ih b10
            go_wp2_with (first | (go_at_call 7; refine (num_any _ _).mono ?_; rintro e w' ⟨rfl, hw⟩; rw [hw]; clear hw))
            go_ret
            exact ⟨rfl, kt (kt B1.out B8.out) C2.out⟩
          · rw [hts_few (1 + t) (by omega) (by omega)] at oh ⊢
            obtain ⟨ah, nh, ch, rfl, ih⟩ := ints_of_owns oh (by have := LW.out; show (wantK (1 + t)).length * 8 ≤ _; omega)
            have IH := hid ih
            clear oh ih b10
            go_wp2_with (first | (go_at_call 7; refine (num_any _ _).mono ?_; rintro e w' ⟨rfl, hw⟩; rw [hw]; clear hw))
            refine (sameInts_any _ _ _ _ _ _ (wantK (1 + t)) (wantK (1 + t)) _ IH.out (IW.out.kept C2.out)).mono ?_
            rintro e v3 ⟨rfl, b11⟩
            rw [decide_eq_true rfl]
            go_wp2_with fail
            go_ret
            exact ⟨rfl, kt (kt (kt B1.out B8.out) C2.out) b11⟩

set_option maxRecDepth 100000 in
theorem lifted (os : Os) (started : os.Started) (H : Type) (enc : TypeId × Value → H) :
    ReturnsInHanded {} Tryd.checked os 4 .any (fun w args => (Rows.verifyHeightsSpec.pre enc Tryd.prog Tryd.f4 [] false w args ∧ laidMetH Tryd.prog [("math/bits.deBruijn32tab", Rows.laid_math_bits_deBruijn32tab), ("math/bits.deBruijn64tab", Rows.laid_math_bits_deBruijn64tab), ("internal/strconv.uint64pow10", Rows.laid_internal_strconv_uint64pow10), ("errors.errorType", Rows.laid_errors_errorType), ("swage/pack.errForm", Rows.laid_swage_pack_errForm), ("swage/pack.errEnd", Rows.laid_swage_pack_errEnd)] w) ∧ sizedMet enc Tryd.prog Tryd.f4 (OpenSpec.ofChange Rows.verifyHeightsSpec) false w args) (Rows.verifyHeightsSpec.post enc Tryd.prog Tryd.f4 false true false false) := by
  refine returnsInHanded_of_change_and (C := Tryd.checked) (X := fun w _ => laidMetH Tryd.prog [("math/bits.deBruijn32tab", Rows.laid_math_bits_deBruijn32tab), ("math/bits.deBruijn64tab", Rows.laid_math_bits_deBruijn64tab), ("internal/strconv.uint64pow10", Rows.laid_internal_strconv_uint64pow10), ("errors.errorType", Rows.laid_errors_errorType), ("swage/pack.errForm", Rows.laid_swage_pack_errForm), ("swage/pack.errEnd", Rows.laid_swage_pack_errEnd)] w) (fun _ _ _ hh h => h.of_heap hh) own started (by kernel_rfl) Tryd.func4
    (ChangeSpec.witness_shaped (enc := enc) (C := Tryd.checked) (os := os) (X := fun w _ => laidMetH Tryd.prog [("math/bits.deBruijn32tab", Rows.laid_math_bits_deBruijn32tab), ("math/bits.deBruijn64tab", Rows.laid_math_bits_deBruijn64tab), ("internal/strconv.uint64pow10", Rows.laid_internal_strconv_uint64pow10), ("errors.errorType", Rows.laid_errors_errorType), ("swage/pack.errForm", Rows.laid_swage_pack_errForm), ("swage/pack.errEnd", Rows.laid_swage_pack_errEnd)] w) false (World.doorLaid Tryd.prog 400 os) #[.int .i64 0] 8 rfl (World.shaped_of_RefB (by kernel_rfl) (by kernel_rfl)) (by kernel_rfl) (by kernel_rfl) (by kernel_rfl) (door_met os _)) ?_
  intro W base args ds gs before hval0 hW hcnd hsz0 hL _
  have hval : ∀ (j : Nat) t v, Tryd.f4.params[j]? = some t → args[j]? = some v → Value.okWide Tryd.prog W .any base t v := hval0
  have hW' := hW
  obtain ⟨p, q, hA0, hV, rfl, hfz, hnd⟩ := hW
  have hA : DataW.TrodAll enc Tryd.prog W 0 (fun _ => true) true Tryd.f4.params.toList args.toList ds p := hA0
  have hsz : (DataW.weightsEach Tryd.prog (Tryd.f4.params.toList ++ Rows.verifyHeightsSpec.plain.varTypes Tryd.prog) (ds ++ gs)).all (· ≤ reachBytes) = true := hsz0
  rw [Tryd.params4] at hA hval hsz
  obtain ⟨v0, vs0, d0, ds0, p0, q0, hargs, rfl, rfl, h0, r0⟩ := trodAll_cons hA
  obtain ⟨rfl, rfl, rfl⟩ := trodAll_nil r0
  obtain rfl : args = #[v0] := by cases args; simp_all
  obtain ⟨rfl, rfl⟩ := trodVars_none hV
  have k0 := h0
  have lt0 : ∀ x ∈ p0, x.block < W.heap.size := by obtain ⟨m, hm⟩ := k0; exact DataW.trod_lt m _ _ _ hm
  obtain ⟨a0, rfl, rfl, rfl, w0⟩ := open_int Tryd.underlying3 (hval 0 3 v0 rfl rfl) h0
  clear hA0 hval0
  refine (walk a0 W w0 (ld_of hL)).mono fun e W' ⟨he, bel⟩ => ?_
  subst he
  exact ⟨_, rfl, _, _, _, [], _, [], hW', trodAll_mk1 (shut_bool Tryd.underlying4 _), (trodAll_cons_mk (Below.trod laidOut (by kernel_rfl) (of_decide_eq_true (by kernel_rfl)) k0 bel lt0) trodAll_mk0), rfl, bel.frame _, fun h => by cases h⟩

theorem over : Rows.verifyHeightsRow.holds Tryd.pinned (OpenSpec.ofChange Rows.verifyHeightsSpec) :=
  OpenClaim.holds_of_wide 4 Tryd.f4 rfl rfl rfl rfl rfl rfl rfl ⟨rfl, rfl, rfl, rfl, rfl⟩ rfl rfl rfl rfl rfl (by kernel_rfl) Tryd.func4 (by kernel_rfl)
    (of_decide_eq_true (by kernel_rfl)) (by unfold Func.isWrapper; first | (rw [if_pos (by decide +kernel)]; kernel_rfl) | (rw [if_neg (by decide +kernel)]; exact ⟨rfl, rfl⟩))
    (fun os started H enc _ => lifted os started H enc)
end Go.Proofs.YtnmhoahkmampkaaDoor.verifyHeights
namespace Go.Proofs.YtnmhoahkmampkaaDoor
open Go
theorem verifyHeights_holds : Rows.VerifyHeightsCardSaid :=
  Claim7.holds_tied_plain_at .later [] [.data, .data, .data, .handle, .sentinel, .sentinel] true (true, "40da2d16cb8ddcb59ff9715e7f027a4318c6af9b6c28cd85eb6285048dfd96d7") true
    verifyHeights.over (fun _ h => by cases h) (by kernel_rfl) (fun _ h => by cases h) verifyHeights_row_tie rfl ⟨rfl, rfl⟩ (by kernel_rfl) rfl
    (fun f fn hf hfn => by
      obtain rfl : f = 4 := Option.some.inj ((show Tryd.prog.funcNamed "swage/swagelaw5.VerifyHeights" = some 4 by kernel_rfl).symm.trans hf) |>.symm
      obtain rfl : fn = Tryd.f4 := (Option.some.inj (Tryd.func4.symm.trans hfn)).symm
      exact ⟨by kernel_rfl, fun j t ht => by
        rw [Tryd.params4] at ht
        have hm : t ∈ [3] := by simpa using Array.mem_of_getElem? ht
        have hall : ([3].all fun u => !Tryd.prog.wantsStandIn u) = true := by kernel_rfl
        exact (show Tryd.prog.wantsStandIn t = false by simpa using List.all_eq_true.1 hall t hm)⟩)
    (by kernel_rfl)
#print axioms verifyHeights_holds
end Go.Proofs.YtnmhoahkmampkaaDoor
