/- CopyProf of package swagelaw0. Written by copygen.py. SameProf of two profiles that read the same. -/
import Derived.Test.YtppmkoigblimmaaGreatDoorJ9b
import Derived.Test.YtppmkoigblimmaaGreatDoorJ7p
import Derived.Test.YtppmkoigblimmaaGreatDoorJ9a
import Derived.Test.YtppmkoigblimmaaGreatDoorJ6b
import Derived.Deep.RegionHeld3
import Derived.Deep.DeepCutAuto
namespace Go.Proofs.YtppmkoigblimmaaGreatDoor
open Go.RowKit
set_option linter.unusedVariables false

set_option maxRecDepth 100000 in
set_option maxHeartbeats 8000000 in
theorem copyProf_any (ra : Option Addr) (rn rc : Nat) (l : List Fp) (w : World) (h : Sl layFp 80 w ra rn rc l) :
    Calls Tryz.prog 7 #[.agg #[.slice ra rn rc]] w fun e w' => ∃ v, e = .returned (.agg #[v]) ∧ OSl layFp 51 80 w' (fun b => w.heap.size ≤ b) v l ∧ Below w.heap.size w w' := by
  obtain ⟨i0, hi, hz0, hz1, hz2⟩ := info_parts Tryz.infoFuncProf
  obtain ⟨j0, hj, jz0, jz1, jz2⟩ := info_parts Tryz.infoIntM
  obtain ⟨k0, hk, kz0, kz1, kz2⟩ := info_parts Tryz.infoArgProfs
  have L := hid h.len
  have hr := h.room
  have hc := h.cap
  have H := hid h
  clear h
  have W3 : Hid (∃ U : World, U = ((w.alloc (.cells #[.slice ra rn rc] 27)).alloc (.cells #[.slice none 0 0] 27)).alloc (.cells #[.slice none 0 0] 27)) := hid ⟨_, rfl⟩
  obtain ⟨w3, hw3⟩ := W3.out
  have B3 : Hid (Below w.heap.size w w3) := hid (by rw [hw3]; exact Below.alloc (Below.alloc (Below.alloc (Below.refl _ _) (Nat.le_refl _) _) (by simp) _) (by simp; omega) _)
  have R3 : Hid (w3.cell? ⟨w.heap.size, 0, none⟩ = some (.slice ra rn rc)) := hid (by rw [hw3]; simp [go_sem])
  have Q3 : Hid (w3.cell? ⟨w.heap.size + 1, 0, none⟩ = some (.slice none 0 0) ∧ w3.frozen? ⟨w.heap.size + 1, 0, none⟩ = false) := hid (by rw [hw3]; exact ⟨by simp [go_sem], by simp [go_sem]⟩)
  have V3 : Hid (w3.cell? ⟨w.heap.size + 1 + 1, 0, none⟩ = some (.slice none 0 0) ∧ w3.frozen? ⟨w.heap.size + 1 + 1, 0, none⟩ = false) := hid (by rw [hw3]; exact ⟨by simp [go_sem], by simp [go_sem]⟩)
  have hs3 : w3.heap.size = w.heap.size + 3 := by rw [hw3]; simp
  have HS3 := hid hs3
  have E3 := hid hw3
  clear hw3 W3 hs3
  go_enter Tryz.func7, Tryz.ntmps7
  go_wp2_with fail
  refine wp_world (U := w3) (by rw [E3.out]) ?_
  go_loopw [4] (fun i wr => ∃ (q : Nat) (va : Option Addr) (vn vc : Nat), q ≤ rn ∧ i = .int .i64 q ∧ wr.cell? ⟨w.heap.size + 1 + 1, 0, none⟩ = some (.slice va vn vc) ∧ wr.frozen? ⟨w.heap.size + 1 + 1, 0, none⟩ = false ∧ OSl layFp 51 80 wr (fun b => w.heap.size + 2 < b) (.slice va vn vc) (l.take q) ∧ Below (w.heap.size + 2) w3 wr) (fun i _ => rn - (intOf i).toNat)
  case atStart => exact ⟨0, none, 0, 0, Nat.zero_le _, rfl, V3.out.1, V3.out.2, OSl.nil _ _ _ _ _, Below.refl _ _⟩
  case round =>
    clear E3 V3
    obtain ⟨q, va, vn, vc, hq, rfl, v0, vf, ho, hb⟩ := hrel
    obtain ⟨V, hV⟩ : ∃ V : World, V = wr := ⟨_, rfl⟩
    subst hV
    have HO := hid ho
    have HB := hid hb
    have VC := hid (And.intro v0 vf)
    have r4 : V.cell? ⟨w.heap.size, 0, none⟩ = some (.slice ra rn rc) := (hb.cell (p := ⟨w.heap.size, 0, none⟩) (by show w.heap.size < w.heap.size + 2; omega)).trans R3.out
    have hsv : w.heap.size + 3 ≤ V.heap.size := by have := hb.size; have := HS3.out; omega
    have BW : Hid (Below w.heap.size w V) := hid (B3.out.trans (hb.mono (by omega)))
    clear ho
    by_cases hlt : q < rn
    · obtain ⟨b0, o0, x, ja, jn, jc, jl, fa, fn, fc, fl, aa, an, ac, al, rfl, hx, c0, c1, c2, c3, i1, i2, i3⟩ := fp_at (H.out.kept BW.out) q hlt
      have HX := hid hx
      obtain ⟨U0, hU0⟩ : ∃ U : World, U = V.alloc (.cells #[.int .i64 x, .slice ja jn jc, .slice fa fn fc, .slice aa an ac] 51) := ⟨_, rfl⟩
      have L0 : Hid (Below V.heap.size V U0) := hid (by rw [hU0]; exact Below.alloc (Below.refl _ _) (Nat.le_refl _) _)
      have h0 : U0.heap[V.heap.size]? = some (.cells #[.int .i64 x, .slice ja jn jc, .slice fa fn fc, .slice aa an ac] 51) := by rw [hU0]; exact heap_alloc_new _ _
      have hu0 : U0.heap.size = V.heap.size + 1 := by rw [hU0]; simp
      have I1 := hid i1
      have I2 := hid i2
      have I3 := hid i3
      have EU := hid hU0
      have HU0 := hid hu0
      clear hx i1 i2 i3 hU0 hb hu0
      go_upto_region 6 with fail
      refine wp_world (U := U0) EU.out ?_
      clear c0 c1 c2 c3 r4 v0 vf
      have e1 : (U0.alloc (.cells #[] 3)).cell? ⟨V.heap.size, 1, none⟩ = some (.slice ja jn jc) := kept_cell (Below.alloc (Below.refl _ _) (Nat.le_refl _) _) (cell_of_heap (j := 1) h0 rfl).1
      go_upto_region 7 with (at_builtin; refine wpList_copyF flatI 3 28 8 j0 (.int .i64 0) Tryz.underlying28 hj jz0 jz1 jz2 rfl (by decide) (by decide) U0 _ rfl _ _ rfl rfl U0.heap.size rfl rfl _ _ _ jl rfl (I1.out.sl.kept L0.out) ?_; intro a1 n1 m1 w1 o1 b1; have g1 := heap_kept h0 b1; have c1 := (cell_of_heap (j := 1) g1 rfl); obtain ⟨c1, d1⟩ := c1; have O1 := hid o1; have B1 := hid b1; have G1 := hid g1; clear o1 b1 g1)
      obtain ⟨U1, hU1⟩ : ∃ U : World, U = w1.setCell ⟨V.heap.size, 1, none⟩ (.slice a1 n1 m1) := ⟨_, rfl⟩
      refine wp_world (U := U1) (by rw [hU1]) ?_
      have h1 : U1.heap[V.heap.size]? = some (.cells #[.int .i64 x, .slice a1 n1 m1, .slice fa fn fc, .slice aa an ac] 51) := by rw [hU1]; exact heap_setCell_same _ _ 1 _ _ _ G1.out
      have L1 : Hid (Below V.heap.size V U1) := hid (by rw [hU1]; exact (kt L0.out B1.out).setCell (Nat.le_refl _) _)
      have S1 : Hid (U1.heap.size = w1.heap.size ∧ U0.heap.size ≤ w1.heap.size ∧ ∀ b, b ≠ V.heap.size → U1.heap[b]? = w1.heap[b]?) := hid ⟨by rw [hU1]; simp, B1.out.size, fun b hb => by rw [hU1]; exact Below.heap_setCell _ _ _ b hb⟩
      clear hU1 c1 d1 e1
      have e2 : (U1.alloc (.cells #[] 3)).cell? ⟨V.heap.size, 2, none⟩ = some (.slice fa fn fc) := kept_cell (Below.alloc (Below.refl _ _) (Nat.le_refl _) _) (cell_of_heap (j := 2) h1 rfl).1
      go_upto_region 8 with (at_builtin; refine wpList_copyF flatI 3 28 8 j0 (.int .i64 0) Tryz.underlying28 hj jz0 jz1 jz2 rfl (by decide) (by decide) U1 _ rfl _ _ rfl rfl U1.heap.size rfl rfl _ _ _ fl rfl (I2.out.sl.kept L1.out) ?_; intro a2 n2 m2 w2 o2 b2; have g2 := heap_kept h1 b2; have c2 := (cell_of_heap (j := 2) g2 rfl); obtain ⟨c2, d2⟩ := c2; have O2 := hid o2; have B2 := hid b2; have G2 := hid g2; clear o2 b2 g2)
      obtain ⟨U2, hU2⟩ : ∃ U : World, U = w2.setCell ⟨V.heap.size, 2, none⟩ (.slice a2 n2 m2) := ⟨_, rfl⟩
      refine wp_world (U := U2) (by rw [hU2]) ?_
      have h2 : U2.heap[V.heap.size]? = some (.cells #[.int .i64 x, .slice a1 n1 m1, .slice a2 n2 m2, .slice aa an ac] 51) := by rw [hU2]; exact heap_setCell_same _ _ 2 _ _ _ G2.out
      have L2 : Hid (Below V.heap.size V U2) := hid (by rw [hU2]; exact (kt L1.out B2.out).setCell (Nat.le_refl _) _)
      have S2 : Hid (U2.heap.size = w2.heap.size ∧ U1.heap.size ≤ w2.heap.size ∧ ∀ b, b ≠ V.heap.size → U2.heap[b]? = w2.heap[b]?) := hid ⟨by rw [hU2]; simp, B2.out.size, fun b hb => by rw [hU2]; exact Below.heap_setCell _ _ _ b hb⟩
      clear hU2 c2 d2 e2
      have e3 := (cell_of_heap (j := 3) h2 rfl).1
      go_wp2_with fail
      refine (copyArgProfs_any _ _ _ al _ (I3.out.kept L2.out)).mono ?_
      rintro e w3 ⟨v3, rfl, o3, b3⟩
      obtain ⟨a3, n3, m3, rfl, _⟩ := o3.reads
      have g3 := heap_kept h2 b3
      obtain ⟨c3, d3⟩ := cell_of_heap (j := 3) g3 rfl
      have O3 := hid o3
      have B3 := hid b3
      have G3 := hid g3
      clear o3 b3 g3
      go_upto_region 9 with fail
      obtain ⟨U3, hU3⟩ : ∃ U : World, U = w3.setCell ⟨V.heap.size, 3, none⟩ (.slice a3 n3 m3) := ⟨_, rfl⟩
      refine wp_world (U := U3) (by rw [hU3]) ?_
      have h3 : U3.heap[V.heap.size]? = some (.cells #[.int .i64 x, .slice a1 n1 m1, .slice a2 n2 m2, .slice a3 n3 m3] 51) := by rw [hU3]; exact heap_setCell_same _ _ 3 _ _ _ G3.out
      have L3 : Hid (Below V.heap.size V U3) := hid (by rw [hU3]; exact (kt L2.out B3.out).setCell (Nat.le_refl _) _)
      have S3 : Hid (U3.heap.size = w3.heap.size ∧ U2.heap.size ≤ w3.heap.size ∧ ∀ b, b ≠ V.heap.size → U3.heap[b]? = w3.heap[b]?) := hid ⟨by rw [hU3]; simp, B3.out.size, fun b hb => by rw [hU3]; exact Below.heap_setCell _ _ _ b hb⟩
      clear hU3 c3 d3 e3
      have c0 := (cell_of_heap (j := 0) h3 rfl).1
      have c1 := (cell_of_heap (j := 1) h3 rfl).1
      have c2 := (cell_of_heap (j := 2) h3 rfl).1
      have c3 := (cell_of_heap (j := 3) h3 rfl).1
      have v3 := kept_cell L3.out VC.out.1
      have hA4 : Below U3.heap.size U3 (U3.alloc (.cells #[.int .i64 x, .slice a1 n1 m1, .slice a2 n2 m2, .slice a3 n3 m3] 51)) := Below.alloc (Below.refl _ _) (Nat.le_refl _) _
      have OX : Hid (layFp.owns (U3.alloc (.cells #[.int .i64 x, .slice a1 n1 m1, .slice a2 n2 m2, .slice a3 n3 m3] 51)) (fun b => (U0.heap.size ≤ b ∧ b < w1.heap.size) ∨ (U1.heap.size ≤ b ∧ b < w2.heap.size) ∨ U2.heap.size ≤ b) [.int .i64 x, .slice a1 n1 m1, .slice a2 n2 m2, .slice a3 n3 m3] (x, jl, fl, al)) := hid (by
        have hu := HU0.out
        have s1 := S1.out
        have s2 := S2.out
        have s3 := S3.out
        have o1 := (O1.out.frm (w' := U1) (fun b hb _ => s1.2.2 b (by omega))).sub (B' := fun b => U0.heap.size ≤ b ∧ b < w1.heap.size) (fun b hb hl => ⟨hb, by omega⟩)
        have o1' := row_on (row_on o1 B2.out s2.2.2 (by omega)) B3.out s3.2.2 (by omega)
        have o2 := (O2.out.frm (w' := U2) (fun b hb _ => s2.2.2 b (by omega))).sub (B' := fun b => U1.heap.size ≤ b ∧ b < w2.heap.size) (fun b hb hl => ⟨hb, by omega⟩)
        have o2' := row_on o2 B3.out s3.2.2 (by omega)
        have o3 := O3.out.frm (w' := U3) (fun b hb _ => s3.2.2 b (by omega))
        exact fp_owns (o1'.kept hA4) (o2'.kept hA4) (o3.kept hA4) (fun b h k => by omega) (fun b h k => by omega) (fun b h k => by omega))
      have L4 := hid (kt L3.out hA4)
      obtain ⟨hol, t, F, k1, k2, k4, k5, k6, k3⟩ := HO.out.clip
      have hlen : (l.take q).length = q := by rw [List.length_take]; have := L.out; omega
      rw [hlen] at k1 k2
      have HT1 := hid k1
      have HT2 := hid k2
      have HT3 := hid (And.intro k4 (And.intro k5 (And.intro k6 k3)))
      have HLEN := hid hlen
      have NB : Hid (∀ b, U0.heap.size ≤ b ∨ U1.heap.size ≤ b ∨ U2.heap.size ≤ b → V.heap.size ≤ b) := hid (fun b hb => by have hu := HU0.out; have s1 := S1.out; have s2 := S2.out; rcases hb with h | h | h <;> omega)
      clear hA4 hol k1 k2 k4 k5 k6 k3 hlen h0 h1 h2 h3
      go_wp2_with (at_builtin; refine wpList_append_lies _ rfl _ _ 25 rfl 0 51 i0 (.agg #[.int .i64 0, .slice none 0 0, .slice none 0 0, .slice none 0 0]) 4 80 Tryz.underlying25 hi hz0 hz1 hz2 rfl (by decide) (.slice va vn vc) q t.flatten rfl (owns_kept HT2.out L4.out) ⟨U3.heap.size, 0, none⟩ 1 1 [.int .i64 x, .slice a1 n1 m1, .slice a2 n2 m2, .slice a3 n3 m3] rfl rfl (news_of rfl _ 51) (by intro u hu; simp at hu; rcases hu with rfl | rfl | rfl | rfl <;> rfl) (by decide) (by unfold maxLen; omega) (by omega) (Nat.zero_le _) (U3.heap.size + 1) (by simp) ?_; intro g cap w6 ho6 hg6 hat hlt6; have P := hid (snoc_fp (rb := w.heap.size + 1 + 1) (by omega) ho6 hg6 (by simpa using hat) L4.out OX.out (fun b hb => NB.out b (by rcases hb with h | h | h; exact .inl h.1; exact .inr (.inl h.1); exact .inr (.inr h))) HLEN.out HT1.out HT2.out HT3.out (by omega) VC.out.1 VC.out.2); obtain ⟨q0, qf⟩ := And.intro P.out.2.1 P.out.2.2; have PB := hid (grown_below hg6 (rb := w.heap.size + 2) L4.out (fun k hk => (HT3.out.1 k hk).1.1) (by omega)); clear ho6 hg6 hat hlt6)
      go_roundw
      case rel =>
        refine ⟨q + 1, _, _, _, by omega, by go_num, World.cell?_setCell_same _ _ _ q0, by simp [qf], ?_, (HB.out.trans PB.out).setCell (by simp) _⟩
        rw [List.take_add_one, HX.out]
        exact P.out.1.set _ _ (by simp)
      case measure => simp [intOf]; omega
    · have hqn : q = rn := by omega
      subst hqn
      have q4 : V.cell? ⟨w.heap.size + 1, 0, none⟩ = some (.slice none 0 0) := (hb.cell (p := ⟨w.heap.size + 1, 0, none⟩) (by show w.heap.size + 1 < w.heap.size + 2; omega)).trans Q3.out.1
      have qf : V.frozen? ⟨w.heap.size + 1, 0, none⟩ = false := (hb.frozen (p := ⟨w.heap.size + 1, 0, none⟩) (by show w.heap.size + 1 < w.heap.size + 2; omega)).trans Q3.out.2
      clear hb
      go_wp2_with fail
      refine bodyPost_ret (v := .agg #[.slice va vn vc]) (by simp [results, Tryz.results7, go_sem, q4]) rfl ⟨_, rfl, ?_, BW.out.setCell (by simp) _⟩
      have o := HO.out
      rw [List.take_of_length_le (by have := L.out; omega)] at o
      exact (o.set _ _ (by simp)).sub (fun b hb _ => by have hb' : w.heap.size + 2 < b := hb; show w.heap.size ≤ b; omega)

end Go.Proofs.YtppmkoigblimmaaGreatDoor

namespace Go.Proofs.YtppmkoigblimmaaGreatDoor
open Go.RowKit
set_option linter.unusedVariables false

theorem sameIntsP_same (a b : Option Addr) (n c m d : Nat) (l : List Int) (w : World) (h1 : Ints w a n c l) (h2 : Ints w b m d l) :
    Calls Tryz.prog 31 #[.slice a n c, .slice b m d] w fun e w' => e = .returned (.bool true) ∧ Below w.heap.size w w' :=
  (sameInts_any a b n c m d l l w h1 h2).mono (fun e w' h => ⟨by rw [h.1, show decide (l = l) = true by simp], h.2⟩)
theorem sameAps_same (a b : Option Addr) (n c m d : Nat) (l : List Ap) (w : World) (h1 : Sl layArgProfs 24 w a n c l) (h2 : Sl layArgProfs 24 w b m d l) :
    Calls Tryz.prog 32 #[.slice a n c, .slice b m d] w fun e w' => e = .returned (.bool true) ∧ Below w.heap.size w w' :=
  (sameArgProfs_any a b n c m d l l w h1 h2).mono (fun e w' h => ⟨by rw [h.1, show decide (l = l) = true by simp], h.2⟩)
/-- Two boxes that hold the functions' profiles. -/
structure TwoFp (V : World) (x : Int) (j f a j' f' a' : Value) (s t : Value) (wx : World) : Prop where
  ex : ∃ bs bt, s = .pointer (some ⟨bs, 0, none⟩) ∧ t = .pointer (some ⟨bt, 0, none⟩) ∧ FPX wx bs x j f a ∧ FPX wx bt x j' f' a'
  below : Below V.heap.size V wx

set_option maxRecDepth 100000 in
set_option maxHeartbeats 4000000 in
theorem sameProf_same (a b : Option Addr) (n c m d : Nat) (l : List Fp) (w : World) (h1 : Sl layFp 80 w a n c l) (h2 : Sl layFp 80 w b m d l) :
    Calls Tryz.prog 14 #[.agg #[.slice a n c], .agg #[.slice b m d]] w fun e w' => e = .returned (.bool true) ∧ Below w.heap.size w w' := by
  have hr := h1.room
  have hc := h1.cap
  have hd := h2.cap
  obtain rfl : m = n := by rw [h1.len, h2.len]
  have H1 := hid h1
  have H2 := hid h2
  have W2 : Hid (∃ U : World, U = (w.alloc (.cells #[.slice a m c] 27)).alloc (.cells #[.slice b m d] 27)) := hid ⟨_, rfl⟩
  obtain ⟨w2, hw2⟩ := W2.out
  have B2 : Hid (Below w.heap.size w w2) := hid (by rw [hw2]; go_grown)
  have C2 : Hid (w2.cell? ⟨w.heap.size, 0, none⟩ = some (.slice a m c) ∧ w2.cell? ⟨w.heap.size + 1, 0, none⟩ = some (.slice b m d)) := hid (by rw [hw2]; exact ⟨by simp [go_sem], by simp [go_sem]⟩)
  have E2 := hid hw2
  have p2 := C2.out.1
  have r2 := C2.out.2
  clear hw2 W2 h1 h2
  go_enter Tryz.func14, Tryz.ntmps14
  go_upto_region 1 with fail
  refine wp_world (U := w2) (by rw [E2.out]) ?_
  go_wp2_with fail
  go_loopw [5] (fun i wr => ∃ q : Nat, q ≤ m ∧ i = .int .i64 q ∧ Below w2.heap.size w2 wr) (fun i _ => m - (intOf i).toNat)
  case atStart => exact ⟨0, Nat.zero_le _, rfl, Below.refl _ _⟩
  case round =>
    clear p2 r2 E2
    obtain ⟨q, hq, rfl, hb⟩ := hrel
    obtain ⟨V, hV⟩ : ∃ V : World, V = wr := ⟨_, rfl⟩
    subst hV
    have HB := hid hb
    have BW := hid (kt B2.out hb)
    have g0 := kept_cell hb C2.out.1
    have g1 := kept_cell hb C2.out.2
    clear hb
    by_cases hlt : q < m
    · obtain ⟨b0, o0, x, ja, jn, jc, jl, fa, fn, fc, fl, aa, an, ac, al, rfl, hx, c0, c1, c2, c3, i1, i2, i3⟩ := fp_at (H1.out.kept BW.out) q hlt
      obtain ⟨b5, o5, y, ka, kn, kc, kl, ga, gn, gc, gl, ba, bn, bc, bl, rfl, hy, d0, d1, d2, d3, k1, k2, k3⟩ := fp_at (H2.out.kept BW.out) q hlt
      rw [hx] at hy
      cases hy
      have I := hid (And.intro i1 (And.intro i2 i3))
      have K := hid (And.intro k1 (And.intro k2 k3))
      have SA : Hid (∀ w', Below V.heap.size V w' → (w'.cell? ⟨w.heap.size, 0, none⟩ = some (.slice (some ⟨b0, o0, none⟩) m c) ∧ w'.cell? ⟨w.heap.size + 1, 0, none⟩ = some (.slice (some ⟨b5, o5, none⟩) m d) ∧ w'.cell? ⟨b0, o0 + q * 4, none⟩ = some (.int .i64 x) ∧ w'.cell? ⟨b0, o0 + q * 4 + 1, none⟩ = some (.slice ja jn jc) ∧ w'.cell? ⟨b0, o0 + q * 4 + 2, none⟩ = some (.slice fa fn fc) ∧ w'.cell? ⟨b0, o0 + q * 4 + 3, none⟩ = some (.slice aa an ac) ∧ w'.cell? ⟨b5, o5 + q * 4, none⟩ = some (.int .i64 x) ∧ w'.cell? ⟨b5, o5 + q * 4 + 1, none⟩ = some (.slice ka kn kc) ∧ w'.cell? ⟨b5, o5 + q * 4 + 2, none⟩ = some (.slice ga gn gc) ∧ w'.cell? ⟨b5, o5 + q * 4 + 3, none⟩ = some (.slice ba bn bc))) := hid (fun w' b => ⟨kept_cell b g0, kept_cell b g1, kept_cell b c0, kept_cell b c1, kept_cell b c2, kept_cell b c3, kept_cell b d0, kept_cell b d1, kept_cell b d2, kept_cell b d3⟩)
      have BC : Below V.heap.size V V := Below.refl _ _
      have hq0 : (0 : Int) ≤ (q : Int) := by omega
      have hq1 : (q : Int) < (m : Int) := by omega
      clear hx i1 i2 i3 k1 k2 k3 c0 c1 c2 c3 d0 d1 d2 d3
      go_wp2_with fail
      clear g0 g1
      go_cut [6, 7] (fun s t wx => TwoFp V x (.slice ja jn jc) (.slice fa fn fc) (.slice aa an ac) (.slice ka kn kc) (.slice ga gn gc) (.slice ba bn bc) s t wx)
      case first =>
        go_region_held3 (fun w' => w'.cell? ⟨w.heap.size, 0, none⟩ = some (.slice (some ⟨b0, o0, none⟩) m c) ∧ w'.cell? ⟨w.heap.size + 1, 0, none⟩ = some (.slice (some ⟨b5, o5, none⟩) m d) ∧ w'.cell? ⟨b0, o0 + q * 4, none⟩ = some (.int .i64 x) ∧ w'.cell? ⟨b0, o0 + q * 4 + 1, none⟩ = some (.slice ja jn jc) ∧ w'.cell? ⟨b0, o0 + q * 4 + 2, none⟩ = some (.slice fa fn fc) ∧ w'.cell? ⟨b0, o0 + q * 4 + 3, none⟩ = some (.slice aa an ac) ∧ w'.cell? ⟨b5, o5 + q * 4, none⟩ = some (.int .i64 x) ∧ w'.cell? ⟨b5, o5 + q * 4 + 1, none⟩ = some (.slice ka kn kc) ∧ w'.cell? ⟨b5, o5 + q * 4 + 2, none⟩ = some (.slice ga gn gc) ∧ w'.cell? ⟨b5, o5 + q * 4 + 3, none⟩ = some (.slice ba bn bc)) (first | (refine SA.out _ ?_; (repeat (first | with_reducible exact BC | with_reducible refine pDrew ?_ | with_reducible refine pAlloc ?_ | with_reducible refine pSet (by first | exact Nat.le_refl _ | omega) ?_)))) (fail)
        all_goals
          go_wp2_with fail
          go_meet
          case rel => exact ⟨⟨_, _, rfl, rfl, ⟨by simp [go_sem], by simp [go_sem], by simp [go_sem], by simp [go_sem]⟩, ⟨by simp [go_sem], by simp [go_sem], by simp [go_sem], by simp [go_sem]⟩⟩, by repeat (first | with_reducible exact BC | with_reducible refine pDrew ?_ | with_reducible refine pAlloc ?_ | with_reducible refine pSet (by first | exact Nat.le_refl _ | omega) ?_)⟩
      case rest =>
        obtain ⟨⟨bs, bt, rfl, rfl, fs, ft⟩, bel⟩ := hcut
        have FS := hid fs
        have FT := hid ft
        have BL := hid bel
        obtain ⟨s0, s1, s2, s3⟩ := fs
        obtain ⟨t0, t1, t2, t3⟩ := ft
        clear SA BC bel
        go_wp2_with fail
        refine (sameIntsP_same _ _ _ _ _ _ jl _ (I.out.1.kept BL.out) (K.out.1.kept BL.out)).mono ?_
        rintro e u1 ⟨rfl, b1⟩
        have B1 := hid (kt BL.out b1)
        obtain ⟨s0', s1', s2', s3'⟩ := FS.out.kept b1
        obtain ⟨t0', t1', t2', t3'⟩ := FT.out.kept b1
        have FS1 := hid (FS.out.kept b1)
        have FT1 := hid (FT.out.kept b1)
        clear s0 s1 s2 s3 t0 t1 t2 t3 b1
        go_wp2_with fail
        refine (sameIntsP_same _ _ _ _ _ _ fl _ (I.out.2.1.kept B1.out) (K.out.2.1.kept B1.out)).mono ?_
        rintro e u2 ⟨rfl, b2⟩
        have B2' := hid (kt B1.out b2)
        obtain ⟨s0, s1, s2, s3⟩ := FS1.out.kept b2
        obtain ⟨t0, t1, t2, t3⟩ := FT1.out.kept b2
        clear s0' s1' s2' s3' t0' t1' t2' t3' b2
        go_wp2_with fail
        refine (sameAps_same _ _ _ _ _ _ al _ (I.out.2.2.kept B2'.out) (K.out.2.2.kept B2'.out)).mono ?_
        rintro e u3 ⟨rfl, b3⟩
        have B3 := hid (kt B2'.out b3)
        clear s0 s1 s2 s3 t0 t1 t2 t3 b3
        go_wp2_with fail
        go_roundw
        case rel => exact ⟨q + 1, by omega, by go_num, kt HB.out B3.out⟩
        case measure => simp [intOf]; omega
    · have hqn : q = m := by omega
      subst hqn
      go_wp2_with fail
      go_ret
      exact ⟨rfl, BW.out⟩

end Go.Proofs.YtppmkoigblimmaaGreatDoor
