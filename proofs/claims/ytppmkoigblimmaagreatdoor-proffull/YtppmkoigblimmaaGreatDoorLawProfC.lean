/- SameProf of two profiles that read the same. -/
import Derived.Test.YtppmkoigblimmaaGreatDoorJ9a
import Derived.Test.YtppmkoigblimmaaGreatDoorJ6b
import Derived.Test.YtppmkoigblimmaaGreatDoorJ7p
import Derived.Deep.RegionHeld3
import Derived.Deep.DeepCutAuto
namespace Go.Proofs.YtppmkoigblimmaaGreatDoor
open Go.RowKit
set_option linter.unusedVariables false

theorem sameIntsP_same (a b : Option Addr) (n c m d : Nat) (l : List Int) (w : World) (h1 : Ints w a n c l) (h2 : Ints w b m d l) :
    Calls Tryz.prog 31 #[.slice a n c, .slice b m d] w fun e w' => e = .returned (.bool true) ∧ Below w.heap.size w w' :=
  (sameInts_any a b n c m d l l w h1 h2).mono (fun e w' h => ⟨by rw [h.1, show decide (l = l) = true by simp], h.2⟩)
theorem sameAps_same (a b : Option Addr) (n c m d : Nat) (l : List Ap) (w : World) (h1 : Sl layArgProfs 24 w a n c l) (h2 : Sl layArgProfs 24 w b m d l) :
    Calls Tryz.prog 32 #[.slice a n c, .slice b m d] w fun e w' => e = .returned (.bool true) ∧ Below w.heap.size w w' :=
  (sameArgProfs_any a b n c m d l l w h1 h2).mono (fun e w' h => ⟨by rw [h.1, show decide (l = l) = true by simp], h.2⟩)
/-- Two boxes that hold the functions' profiles. -/
structure TwoFp (V : World) (x : Int) (j f a j' f' a' : Value) (s t : Value) (wx : World) : Prop where
  ex : ∃ bs bt, s = .pointer (some ⟨bs, 0, none⟩) ∧ t = .pointer (some ⟨bt, 0, none⟩) ∧ FPX wx bs x j f a ∧ FPX wx bt x j' f' a'
  below : Below V.heap.size V wx

set_option maxRecDepth 100000 in
set_option maxHeartbeats 4000000 in
theorem sameProf_same (a b : Option Addr) (n c m d : Nat) (l : List Fp) (w : World) (h1 : Sl layFp 80 w a n c l) (h2 : Sl layFp 80 w b m d l) :
    Calls Tryz.prog 14 #[.agg #[.slice a n c], .agg #[.slice b m d]] w fun e w' => e = .returned (.bool true) ∧ Below w.heap.size w w' := by
  have hr := h1.room
  have hc := h1.cap
  have hd := h2.cap
  obtain rfl : m = n := by rw [h1.len, h2.len]
  have H1 := hid h1
  have H2 := hid h2
  have W2 : Hid (∃ U : World, U = (w.alloc (.cells #[.slice a m c] 27)).alloc (.cells #[.slice b m d] 27)) := hid ⟨_, rfl⟩
  obtain ⟨w2, hw2⟩ := W2.out
  have B2 : Hid (Below w.heap.size w w2) := hid (by rw [hw2]; go_grown)
  have C2 : Hid (w2.cell? ⟨w.heap.size, 0, none⟩ = some (.slice a m c) ∧ w2.cell? ⟨w.heap.size + 1, 0, none⟩ = some (.slice b m d)) := hid (by rw [hw2]; exact ⟨by simp [go_sem], by simp [go_sem]⟩)
  have E2 := hid hw2
  have p2 := C2.out.1
  have r2 := C2.out.2
  clear hw2 W2 h1 h2
  go_enter Tryz.func14, Tryz.ntmps14
  go_upto_region 1 with fail
  refine wp_world (U := w2) (by rw [E2.out]) ?_
  go_wp2_with fail
  go_loopw [5] (fun i wr => ∃ q : Nat, q ≤ m ∧ i = .int .i64 q ∧ Below w2.heap.size w2 wr) (fun i _ => m - (intOf i).toNat)
  case atStart => exact ⟨0, Nat.zero_le _, rfl, Below.refl _ _⟩
  case round =>
    clear p2 r2 E2
    obtain ⟨q, hq, rfl, hb⟩ := hrel
    obtain ⟨V, hV⟩ : ∃ V : World, V = wr := ⟨_, rfl⟩
    subst hV
    have HB := hid hb
    have BW := hid (kt B2.out hb)
    have g0 := kept_cell hb C2.out.1
    have g1 := kept_cell hb C2.out.2
    clear hb
    by_cases hlt : q < m
    · obtain ⟨b0, o0, x, ja, jn, jc, jl, fa, fn, fc, fl, aa, an, ac, al, rfl, hx, c0, c1, c2, c3, i1, i2, i3⟩ := fp_at (H1.out.kept BW.out) q hlt
      obtain ⟨b5, o5, y, ka, kn, kc, kl, ga, gn, gc, gl, ba, bn, bc, bl, rfl, hy, d0, d1, d2, d3, k1, k2, k3⟩ := fp_at (H2.out.kept BW.out) q hlt
      rw [hx] at hy
      cases hy
      have I := hid (And.intro i1 (And.intro i2 i3))
      have K := hid (And.intro k1 (And.intro k2 k3))
      have SA : Hid (∀ w', Below V.heap.size V w' → (w'.cell? ⟨w.heap.size, 0, none⟩ = some (.slice (some ⟨b0, o0, none⟩) m c) ∧ w'.cell? ⟨w.heap.size + 1, 0, none⟩ = some (.slice (some ⟨b5, o5, none⟩) m d) ∧ w'.cell? ⟨b0, o0 + q * 4, none⟩ = some (.int .i64 x) ∧ w'.cell? ⟨b0, o0 + q * 4 + 1, none⟩ = some (.slice ja jn jc) ∧ w'.cell? ⟨b0, o0 + q * 4 + 2, none⟩ = some (.slice fa fn fc) ∧ w'.cell? ⟨b0, o0 + q * 4 + 3, none⟩ = some (.slice aa an ac) ∧ w'.cell? ⟨b5, o5 + q * 4, none⟩ = some (.int .i64 x) ∧ w'.cell? ⟨b5, o5 + q * 4 + 1, none⟩ = some (.slice ka kn kc) ∧ w'.cell? ⟨b5, o5 + q * 4 + 2, none⟩ = some (.slice ga gn gc) ∧ w'.cell? ⟨b5, o5 + q * 4 + 3, none⟩ = some (.slice ba bn bc))) := hid (fun w' b => ⟨kept_cell b g0, kept_cell b g1, kept_cell b c0, kept_cell b c1, kept_cell b c2, kept_cell b c3, kept_cell b d0, kept_cell b d1, kept_cell b d2, kept_cell b d3⟩)
      have BC : Below V.heap.size V V := Below.refl _ _
      have hq0 : (0 : Int) ≤ (q : Int) := by omega
      have hq1 : (q : Int) < (m : Int) := by omega
      clear hx i1 i2 i3 k1 k2 k3 c0 c1 c2 c3 d0 d1 d2 d3
      go_wp2_with fail
      clear g0 g1
      go_cut [6, 7] (fun s t wx => TwoFp V x (.slice ja jn jc) (.slice fa fn fc) (.slice aa an ac) (.slice ka kn kc) (.slice ga gn gc) (.slice ba bn bc) s t wx)
      case first =>
        go_region_held3 (fun w' => w'.cell? ⟨w.heap.size, 0, none⟩ = some (.slice (some ⟨b0, o0, none⟩) m c) ∧ w'.cell? ⟨w.heap.size + 1, 0, none⟩ = some (.slice (some ⟨b5, o5, none⟩) m d) ∧ w'.cell? ⟨b0, o0 + q * 4, none⟩ = some (.int .i64 x) ∧ w'.cell? ⟨b0, o0 + q * 4 + 1, none⟩ = some (.slice ja jn jc) ∧ w'.cell? ⟨b0, o0 + q * 4 + 2, none⟩ = some (.slice fa fn fc) ∧ w'.cell? ⟨b0, o0 + q * 4 + 3, none⟩ = some (.slice aa an ac) ∧ w'.cell? ⟨b5, o5 + q * 4, none⟩ = some (.int .i64 x) ∧ w'.cell? ⟨b5, o5 + q * 4 + 1, none⟩ = some (.slice ka kn kc) ∧ w'.cell? ⟨b5, o5 + q * 4 + 2, none⟩ = some (.slice ga gn gc) ∧ w'.cell? ⟨b5, o5 + q * 4 + 3, none⟩ = some (.slice ba bn bc)) (first | (refine SA.out _ ?_; (repeat (first | with_reducible exact BC | with_reducible refine pDrew ?_ | with_reducible refine pAlloc ?_ | with_reducible refine pSet (by first | exact Nat.le_refl _ | omega) ?_)))) (fail)
        all_goals
          go_wp2_with fail
          go_meet
          case rel => exact ⟨⟨_, _, rfl, rfl, ⟨by simp [go_sem], by simp [go_sem], by simp [go_sem], by simp [go_sem]⟩, ⟨by simp [go_sem], by simp [go_sem], by simp [go_sem], by simp [go_sem]⟩⟩, by repeat (first | with_reducible exact BC | with_reducible refine pDrew ?_ | with_reducible refine pAlloc ?_ | with_reducible refine pSet (by first | exact Nat.le_refl _ | omega) ?_)⟩
      case rest =>
        obtain ⟨⟨bs, bt, rfl, rfl, fs, ft⟩, bel⟩ := hcut
        have FS := hid fs
        have FT := hid ft
        have BL := hid bel
        obtain ⟨s0, s1, s2, s3⟩ := fs
        obtain ⟨t0, t1, t2, t3⟩ := ft
        clear SA BC bel
        go_wp2_with fail
        refine (sameIntsP_same _ _ _ _ _ _ jl _ (I.out.1.kept BL.out) (K.out.1.kept BL.out)).mono ?_
        rintro e u1 ⟨rfl, b1⟩
        have B1 := hid (kt BL.out b1)
        obtain ⟨s0', s1', s2', s3'⟩ := FS.out.kept b1
        obtain ⟨t0', t1', t2', t3'⟩ := FT.out.kept b1
        have FS1 := hid (FS.out.kept b1)
        have FT1 := hid (FT.out.kept b1)
        clear s0 s1 s2 s3 t0 t1 t2 t3 b1
        go_wp2_with fail
        refine (sameIntsP_same _ _ _ _ _ _ fl _ (I.out.2.1.kept B1.out) (K.out.2.1.kept B1.out)).mono ?_
        rintro e u2 ⟨rfl, b2⟩
        have B2' := hid (kt B1.out b2)
        obtain ⟨s0, s1, s2, s3⟩ := FS1.out.kept b2
        obtain ⟨t0, t1, t2, t3⟩ := FT1.out.kept b2
        clear s0' s1' s2' s3' t0' t1' t2' t3' b2
        go_wp2_with fail
        refine (sameAps_same _ _ _ _ _ _ al _ (I.out.2.2.kept B2'.out) (K.out.2.2.kept B2'.out)).mono ?_
        rintro e u3 ⟨rfl, b3⟩
        have B3 := hid (kt B2'.out b3)
        clear s0 s1 s2 s3 t0 t1 t2 t3 b3
        go_wp2_with fail
        go_roundw
        case rel => exact ⟨q + 1, by omega, by go_num, kt HB.out B3.out⟩
        case measure => simp [intOf]; omega
    · have hqn : q = m := by omega
      subst hqn
      go_wp2_with fail
      go_ret
      exact ⟨rfl, BW.out⟩

end Go.Proofs.YtppmkoigblimmaaGreatDoor
