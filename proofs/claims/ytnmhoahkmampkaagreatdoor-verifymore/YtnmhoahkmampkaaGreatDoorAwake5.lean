/- The law's own opening question (awake) is answered yes; what small returns. -/
import Derived.Test.YtnmhoahkmampkaaGreatDoorVerDev
import Derived.Test.YtnmhoahkmampkaaGreatDoorLawInts
import Derived.Test.YtnmhoahkmampkaaGreatDoorInsEff
namespace Go.Proofs.YtnmhoahkmampkaaGreatDoor
open Go.RowKit
set_option linter.unusedVariables false

theorem inss_lit (w : World) (l : List (Int × Int)) (t : TypeId) (hl : l.length * 16 ≤ 140737488351232) : Inss (w.alloc (.cells (flat2 l).toArray t)) (some ⟨w.heap.size, 0, none⟩) l.length l.length l := by
  have h := World.ownsRow_lit (e := t) (size := 2) (base := 0) w (flat2 l).toArray l.length (Nat.zero_le _) (by unfold maxLen; omega) (by simp [flat2_len])
  obtain ⟨a, n, c, e, hi⟩ := inss_of_owns (l := l) (by simpa using h) hl
  cases e
  exact hi
theorem ints_lit (w : World) (l : List Int) (t : TypeId) (hl : l.length * 8 ≤ 140737488351232) : Ints (w.alloc (.cells (ints l).toArray t)) (some ⟨w.heap.size, 0, none⟩) l.length l.length l := by
  have h := World.ownsRow_lit (e := t) (size := 1) (base := 0) w (ints l).toArray l.length (Nat.zero_le _) (by unfold maxLen; omega) (by simp [ints_len])
  obtain ⟨a, n, c, e, hi⟩ := ints_of_owns (l := l) (by simpa using h) hl
  cases e
  exact hi
/-- One function in a row of its own. -/
theorem fns_one {w : World} {a : Option Addr} {n c : Nat} {l : List (Int × Int)} (h : Inss w a n c l) (x y : Int) (t : TypeId) : Fns (w.alloc (.cells #[.int .i64 x, .int .i64 y, .slice a n c] t)) (some ⟨w.heap.size, 0, none⟩) 1 1 [(x, y, l)] := by
  refine ⟨rfl, Nat.le_refl _, by omega, fun e => (by cases e), fun _ => ⟨w.heap.size, 0, rfl, fun i hi => ?_⟩⟩
  have h0 : i = 0 := by simpa using hi
  subst h0
  exact ⟨by simp [go_sem], by simp [go_sem], a, n, c, by simp [go_sem], h.kept (Below.alloc (Below.refl _ _) (Nat.le_refl _) _)⟩

set_option maxHeartbeats 1000000 in
theorem small_any (x y : Int) (a : Option Addr) (n c : Nat) (l : List (Int × Int)) (w : World) (h : Inss w a n c l) :
    Calls Tryz.prog 27 #[.int .i64 x, .int .i64 y, .slice a n c] w fun e w' => ∃ v vn vc, e = .returned (.agg #[.slice v vn vc]) ∧ Fns w' v vn vc [(x, y, l)] ∧ Below w.heap.size w w' := by
  have hA : Below w.heap.size w (w.alloc (.cells #[.slice (some ⟨w.heap.size + 1, 0, none⟩) 1 1] 24)) := Below.alloc (Below.refl _ _) (Nat.le_refl _) _
  have F := hid (fns_one (h.kept hA) x y 42)
  have B : Hid (Below w.heap.size w ((w.alloc (.cells #[.slice (some ⟨w.heap.size + 1, 0, none⟩) 1 1] 24)).alloc (.cells #[.int .i64 x, .int .i64 y, .slice a n c] 42))) := hid (Below.alloc hA (by simp) _)
  clear h hA
  go_enter Tryz.func27, Tryz.ntmps27
  go_wp2_with fail
  refine bodyPost_ret (v := .agg #[.slice (some ⟨w.heap.size + 1, 0, none⟩) 1 1]) (by simp [results, Tryz.results27, go_sem]) rfl ⟨_, _, _, rfl, ?_, ?_⟩
  · have := F.out; simp at this; simpa [go_sem] using this
  · simpa [go_sem] using B.out

def aw5 : List (Int × Int) := [(0, 1), (13, 3), (12, 0), (0, 1), (16, 0), (11, 0)]
def bw5 : List (Int × Int) := [(0, 1), (2, 1), (16, 0)]
def cw5 : List (Int × Int) := [(0, 1), (11, 0), (16, 0)]
def dw5 : List (Int × Int) := [(0, 1)]
theorem aw5_0 : htsV [(0, 1, aw5)] 0 = ([0, 1, 0, 0, 1, -1], 0, 0) := by decide +kernel
theorem aw5_1 : htsV [(0, 1, aw5)] 1 = ([], 0, 500) := by decide +kernel
theorem aw5_v : verV [(0, 1, aw5)] = 0 := by decide +kernel
theorem bw5_0 : htsV [(0, 1, bw5)] 0 = ([], 1, 501) := by decide +kernel
theorem cw5_0 : htsV [(0, 1, cw5)] 0 = ([], 2, 502) := by decide +kernel
theorem dw5_0 : htsV [(0, 1, dw5)] 0 = ([], 0, 503) := by decide +kernel

set_option maxRecDepth 100000 in
set_option maxHeartbeats 4000000 in
theorem awake5_any (w : World) (ld : Ld w) : Calls Tryz.prog 15 #[] w fun e w' => e = .returned (.bool true) ∧ Below w.heap.size w w' := by
  have LD := hid ld
  clear ld
  go_enter Tryz.func15, Tryz.ntmps15
  go_wp2_with fail
  refine (small_any 0 1 _ 6 6 aw5 _ (inss_lit w aw5 44 (by decide))).mono ?_
  rintro e w1 ⟨v, vn, vc, rfl, f1, b1⟩
  have B1 : Hid (Below w.heap.size w w1) := hid (kt (Below.alloc (Below.refl _ _) (Nat.le_refl _) _) b1)
  have hA : Below w1.heap.size w1 (w1.alloc (.cells #[.slice v vn vc] 24)) := Below.alloc (Below.refl _ _) (Nat.le_refl _) _
  have F1 := hid (f1.kept hA)
  have A1 := hid hA
  have P1 : Hid ((w1.alloc (.cells #[.slice v vn vc] 24)).cell? ⟨w1.heap.size, 0, none⟩ = some (.slice v vn vc)) := hid (by simp [go_sem])
  clear f1 b1 hA
  go_wp2_with fail
  refine (verHeights _ _ _ [(0, 1, aw5)] 0 _ F1.out (LD.out.up (kt B1.out A1.out))).mono ?_
  rintro e w2 ⟨v2, rfl, o2, b2⟩
  rw [aw5_0] at o2 ⊢
  obtain ⟨a2, n2, c2, rfl, i2⟩ := ints_of_owns o2 (by decide)
  have I2 := hid i2
  have B2 : Hid (Below w.heap.size w w2) := hid (kt (kt B1.out A1.out) b2)
  have P2 := hid (kept_cell b2 P1.out)
  have F2 := hid (F1.out.kept b2)
  clear o2 i2 b2
  go_wp2_with fail
  refine (small_any 0 1 _ 3 3 bw5 _ (inss_lit w2 bw5 44 (by decide))).mono ?_
  rintro e w3 ⟨v3, n3, c3, rfl, f3, b3⟩
  have C3 : Hid (Below w2.heap.size w2 w3) := hid (kt (Below.alloc (Below.refl _ _) (Nat.le_refl _) _) b3)
  have F3 := hid f3
  clear f3 b3
  go_wp2_with fail
  refine (verHeights _ _ _ [(0, 1, bw5)] 0 _ F3.out (LD.out.up (kt B2.out C3.out))).mono ?_
  rintro e w4 ⟨v4, rfl, -, b4⟩
  rw [bw5_0]
  have C4 := hid (kt C3.out b4)
  clear b4
  go_wp2_with fail
  refine (small_any 0 1 _ 3 3 cw5 _ (inss_lit w4 cw5 44 (by decide))).mono ?_
  rintro e w5 ⟨v5, n5, c5, rfl, f5, b5⟩
  have C5 : Hid (Below w2.heap.size w2 w5) := hid (kt C4.out (kt (Below.alloc (Below.refl _ _) (Nat.le_refl _) _) b5))
  have F5 := hid f5
  clear f5 b5
  go_wp2_with fail
  refine (verHeights _ _ _ [(0, 1, cw5)] 0 _ F5.out (LD.out.up (kt B2.out C5.out))).mono ?_
  rintro e w6 ⟨v6, rfl, -, b6⟩
  rw [cw5_0]
  have C6 := hid (kt C5.out b6)
  clear b6
  go_wp2_with fail
  refine (small_any 0 1 _ 1 1 dw5 _ (inss_lit w6 dw5 44 (by decide))).mono ?_
  rintro e w7 ⟨v7, n7, c7, rfl, f7, b7⟩
  have C7 : Hid (Below w2.heap.size w2 w7) := hid (kt C6.out (kt (Below.alloc (Below.refl _ _) (Nat.le_refl _) _) b7))
  have F7 := hid f7
  clear f7 b7
  go_wp2_with fail
  refine (verHeights _ _ _ [(0, 1, dw5)] 0 _ F7.out (LD.out.up (kt B2.out C7.out))).mono ?_
  rintro e w8 ⟨v8, rfl, -, b8⟩
  rw [dw5_0]
  have C8 := hid (kt C7.out b8)
  have p8 := kept_cell C8.out P2.out
  clear b8
  go_wp2_with fail
  refine (verHeights _ _ _ [(0, 1, aw5)] 1 _ (F2.out.kept C8.out) (LD.out.up (kt B2.out C8.out))).mono ?_
  rintro e w9 ⟨v9, rfl, -, b9⟩
  rw [aw5_1]
  have C9 := hid (kt C8.out b9)
  clear b9 p8
  have K9 : Hid (Ints (w9.alloc (.cells #[.int .i64 0, .int .i64 1, .int .i64 0, .int .i64 0, .int .i64 1, .int .i64 (-1)] 3)) (some ⟨w9.heap.size, 0, none⟩) 6 6 [0, 1, 0, 0, 1, -1]) := hid (ints_lit w9 [0, 1, 0, 0, 1, -1] 3 (by decide))
  have A9 : Hid (Below w9.heap.size w9 (w9.alloc (.cells #[.int .i64 0, .int .i64 1, .int .i64 0, .int .i64 0, .int .i64 1, .int .i64 (-1)] 3))) := hid (Below.alloc (Below.refl _ _) (Nat.le_refl _) _)
  go_wp2_with fail
  refine (sameInts_any _ _ _ _ _ _ [0, 1, 0, 0, 1, -1] [0, 1, 0, 0, 1, -1] _ ((I2.out.kept C9.out).kept A9.out) K9.out).mono ?_
  rintro e w10 ⟨rfl, b10⟩
  rw [decide_eq_true rfl]
  have C10 := hid (kt (kt C9.out A9.out) b10)
  have p10 := kept_cell C10.out P2.out
  clear b10
  go_wp2_with (first | (go_at_call 10; refine (num_any _ _).mono ?_; rintro e w' ⟨rfl, hw⟩; rw [hw]; clear hw))
  refine (verProgram _ _ _ [(0, 1, aw5)] _ (F2.out.kept C10.out) (LD.out.up (kt B2.out C10.out))).mono ?_
  rintro e w11 ⟨rfl, b11⟩
  rw [aw5_v]
  go_wp2_with (first | (go_at_call 10; refine (num_any _ _).mono ?_; rintro e w' ⟨rfl, hw⟩; rw [hw]; clear hw))
  go_ret
  exact ⟨rfl, kt (kt B2.out C10.out) b11⟩

end Go.Proofs.YtnmhoahkmampkaaGreatDoor
