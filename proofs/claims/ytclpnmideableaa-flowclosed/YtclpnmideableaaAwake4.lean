/- The law's own opening question (awake) is answered yes. -/
import Derived.Test.YtclpnmideableaaLawInts
import Derived.Test.YtclpnmideableaaFlowE
import Derived.Test.YtclpnmideableaaInsEff
namespace Go.Proofs.Ytclpnmideableaa
open Go.RowKit
set_option linter.unusedVariables false

theorem inss_new (w : World) (l : List (Int × Int)) (t : TypeId) (hl : l.length * 16 ≤ 140737488351232) : Inss (w.alloc (.cells (flat2 l).toArray t)) (some ⟨w.heap.size, 0, none⟩) l.length l.length l := by
  have h := World.ownsRow_lit (e := t) (size := 2) (base := 0) w (flat2 l).toArray l.length (Nat.zero_le _) (by unfold maxLen; omega) (by simp [flat2_len])
  obtain ⟨a, n, c, e, hi⟩ := inss_of_owns (l := l) (by simpa using h) hl
  cases e
  exact hi
theorem ints_new (w : World) (l : List Int) (t : TypeId) (hl : l.length * 8 ≤ 140737488351232) : Ints (w.alloc (.cells (ints l).toArray t)) (some ⟨w.heap.size, 0, none⟩) l.length l.length l := by
  have h := World.ownsRow_lit (e := t) (size := 1) (base := 0) w (ints l).toArray l.length (Nat.zero_le _) (by unfold maxLen; omega) (by simp [ints_len])
  obtain ⟨a, n, c, e, hi⟩ := ints_of_owns (l := l) (by simpa using h) hl
  cases e
  exact hi
theorem bools_new (w : World) (l : List Bool) (t : TypeId) (hl : l.length * 8 ≤ 140737488351232) : Bools (w.alloc (.cells (bools l).toArray t)) (some ⟨w.heap.size, 0, none⟩) l.length l.length l := by
  have h := World.ownsRow_lit (e := t) (size := 1) (base := 0) w (bools l).toArray l.length (Nat.zero_le _) (by unfold maxLen; omega) (by simp [bools_len])
  obtain ⟨a, n, c, e, hi⟩ := bools_of_owns (l := l) (by simpa using h) hl
  cases e
  exact hi

def aw4 : List (Int × Int) := [(0, 1), (13, 3), (12, 0), (0, 1), (16, 0), (16, 0)]
theorem aw4_n1 : nxL aw4 1 = [2, 3] := by decide +kernel
theorem aw4_e1 : nxE aw4 1 = 0 := by decide +kernel
theorem aw4_e6 : nxE aw4 6 = 400 := by decide +kernel
theorem aw4_n6 : nxL aw4 6 = [] := by decide +kernel
theorem aw4_c : codeB aw4 = true := by decide +kernel
theorem aw4_e : cE aw4 = 0 := by decide +kernel
theorem aw4_l : leadL aw4 = [true, false, true, true, false, true] := by decide +kernel
theorem aw4_m : Marked aw4 [true, true, true, true, true, false] := by
  have n0 : nextL aw4 0 = [1] := by decide +kernel
  have n1 : nextL aw4 1 = [2, 3] := by decide +kernel
  have n2 : nextL aw4 2 = [0] := by decide +kernel
  have n3 : nextL aw4 3 = [4] := by decide +kernel
  have n4 : nextL aw4 4 = [] := by decide +kernel
  have r0 : Reach aw4 0 := Reach.zero _
  have r1 : Reach aw4 1 := r0.step (by rw [n0]; simp)
  have r2 : Reach aw4 2 := r1.step (by rw [n1]; simp)
  have r3 : Reach aw4 3 := r1.step (by rw [n1]; simp)
  have r4 : Reach aw4 4 := r3.step (by rw [n3]; simp)
  have r5 : ¬ Reach aw4 5 := by
    intro h
    have := h (fun i => i ≤ 4) (by omega) (fun p q hp hq => by
      have : p = 0 ∨ p = 1 ∨ p = 2 ∨ p = 3 ∨ p = 4 := by omega
      rcases this with rfl | rfl | rfl | rfl | rfl
      · rw [n0] at hq; simp at hq; omega
      · rw [n1] at hq; simp at hq; omega
      · rw [n2] at hq; simp at hq; omega
      · rw [n3] at hq; simp at hq; omega
      · rw [n4] at hq; cases hq)
    omega
  refine ⟨rfl, fun i hi => ?_⟩
  have : i = 0 ∨ i = 1 ∨ i = 2 ∨ i = 3 ∨ i = 4 ∨ i = 5 := by have : i < 6 := hi; omega
  rcases this with rfl | rfl | rfl | rfl | rfl | rfl
  · simp [r0]
  · simp [r1]
  · simp [r2]
  · simp [r3]
  · simp [r4]
  · simp [r5]
theorem aw4_r {bs : List Bool} (h : Rd aw4 bs) : bs = [true, true, true, true, true, false] := h.eq (.inl ⟨aw4_c, aw4_m⟩)

/-- The world as awake has it ahead of its first call. -/
def awW (w : World) : World := (w.alloc (.cells #[.int .i64 0, .int .i64 1, .int .i64 13, .int .i64 3, .int .i64 12, .int .i64 0, .int .i64 0, .int .i64 1, .int .i64 16, .int .i64 0, .int .i64 16, .int .i64 0] 50)).alloc (.cells #[.int .i64 0, .int .i64 0, .slice (some ⟨w.heap.size, 0, none⟩) 6 6] 28)
theorem awW_inss (w : World) : Inss (awW w) (some ⟨w.heap.size, 0, none⟩) 6 6 aw4 :=
  (inss_new w aw4 50 (by decide)).kept (Below.alloc (Below.refl _ _) (Nat.le_refl _) _)
theorem awW_below (w : World) : Below w.heap.size w (awW w) := Below.alloc (Below.alloc (Below.refl _ _) (Nat.le_refl _) _) (by simp) _
theorem awW_cells (w : World) : (awW w).cell? ⟨w.heap.size + 1, 0, none⟩ = some (.int .i64 0) ∧ (awW w).cell? ⟨w.heap.size + 1, 1, none⟩ = some (.int .i64 0) ∧ (awW w).cell? ⟨w.heap.size + 1, 2, none⟩ = some (.slice (some ⟨w.heap.size, 0, none⟩) 6 6) :=
  ⟨by simp [awW, go_sem], by simp [awW, go_sem], by simp [awW, go_sem]⟩
/-- A function in its box. -/
def FB (u : World) (b : Nat) (x y : Int) (s : Value) : Prop := u.cell? ⟨b, 0, none⟩ = some (.int .i64 x) ∧ u.cell? ⟨b, 1, none⟩ = some (.int .i64 y) ∧ u.cell? ⟨b, 2, none⟩ = some s
theorem FB.kept {u u' : World} {b : Nat} {x y : Int} {s : Value} (h : FB u b x y s) (hb : Below u.heap.size u u') : FB u' b x y s := ⟨kept_cell hb h.1, kept_cell hb h.2.1, kept_cell hb h.2.2⟩

set_option maxRecDepth 100000 in
set_option maxHeartbeats 4000000 in
theorem awake4_any (w : World) : Calls Try.prog 7 #[] w fun e w' => e = .returned (.bool true) ∧ Below w.heap.size w w' := by
  go_enter Try.func7, Try.ntmps7
  go_wp2_with fail
  refine (flowNext_any 0 0 1 _ 6 6 aw4 (awW w) (awW_inss w)).mono ?_
  rintro e w1 ⟨v1, rfl, ho1, hb1⟩
  rw [aw4_e1]
  rw [aw4_n1] at ho1
  have f1 : FB w1 (w.heap.size + 1) 0 0 (.slice (some ⟨w.heap.size, 0, none⟩) 6 6) := FB.kept (awW_cells w) hb1
  have B1 : Hid (Below w.heap.size w w1) := hid (kt (awW_below w) hb1)
  have I1 := hid ((awW_inss w).kept hb1)
  obtain ⟨a1, n1, c1, rfl, i1⟩ := ints_of_owns ho1 (by decide)
  have J1 := hid i1
  obtain ⟨d0, d1, d2⟩ := f1
  have D1 : Hid (FB w1 (w.heap.size + 1) 0 0 (.slice (some ⟨w.heap.size, 0, none⟩) 6 6)) := hid ⟨d0, d1, d2⟩
  clear ho1 hb1 i1
  go_wp2_with fail
  refine (leaders_any 0 0 _ 6 6 aw4 _ I1.out).mono ?_
  rintro e w2 ⟨v2, rfl, ho2, hb2⟩
  rw [aw4_e]
  rw [aw4_l] at ho2
  obtain ⟨a2, n2, c2, rfl, i2⟩ := bools_of_owns ho2 (by decide)
  obtain ⟨e0, e1, e2⟩ := D1.out.kept hb2
  have D2 : Hid (FB w2 (w.heap.size + 1) 0 0 (.slice (some ⟨w.heap.size, 0, none⟩) 6 6)) := hid ⟨e0, e1, e2⟩
  have B2 : Hid (Below w.heap.size w w2) := hid (kt B1.out hb2)
  have I2 := hid (I1.out.kept hb2)
  have J2 := hid (And.intro (J1.out.kept hb2) i2)
  clear ho2 hb2 i2 d0 d1 d2
  go_wp2_with fail
  refine (reached_any 0 0 _ 6 6 aw4 _ I2.out).mono ?_
  rintro e w3 ⟨v3, bs3, rfl, hR, ho3, hb3⟩
  rw [aw4_e]
  obtain rfl := aw4_r hR
  obtain ⟨a3, n3, c3, rfl, i3⟩ := bools_of_owns ho3 (by decide)
  obtain ⟨g0, g1, g2⟩ := D2.out.kept hb3
  have B3 : Hid (Below w.heap.size w w3) := hid (kt B2.out hb3)
  have I3 := hid (I2.out.kept hb3)
  have J3 := hid (And.intro (J2.out.1.kept hb3) (And.intro (J2.out.2.kept hb3) i3))
  clear ho3 hb3 i3 e0 e1 e2 hR
  go_wp2_with fail
  refine (flowNext_any 0 0 6 _ 6 6 aw4 _ I3.out).mono ?_
  rintro e w4 ⟨v4, rfl, ho4, hb4⟩
  rw [aw4_e6]
  have B4 : Hid (Below w.heap.size w w4) := hid (kt B3.out hb4)
  have J4 := hid (And.intro (J3.out.1.kept hb4) (And.intro (J3.out.2.1.kept hb4) (J3.out.2.2.kept hb4)))
  clear ho4 hb4 g0 g1 g2
  go_wp2_with fail
  have B5 : Hid (Below w4.heap.size w4 (w4.alloc (.cells #[.int .i64 2, .int .i64 3] 3))) := hid (Below.alloc (Below.refl _ _) (Nat.le_refl _) _)
  have K5 : Hid (Ints (w4.alloc (.cells #[.int .i64 2, .int .i64 3] 3)) (some ⟨w4.heap.size, 0, none⟩) 2 2 [2, 3]) := hid (ints_new w4 [2, 3] 3 (by decide))
  refine (sameInts_any _ _ _ _ _ _ [2, 3] [2, 3] _ (J4.out.1.kept B5.out) K5.out).mono ?_
  rintro e w5 ⟨rfl, hb5⟩
  rw [decide_eq_true rfl]
  have B6 : Hid (Below w.heap.size w w5) := hid (kt (kt B4.out B5.out) hb5)
  have J5 := hid (And.intro ((J4.out.2.1.kept B5.out).kept hb5) ((J4.out.2.2.kept B5.out).kept hb5))
  clear hb5
  go_wp2_with (first | (go_at_call 16; refine (num_any _ _).mono ?_; rintro e w' ⟨rfl, hw⟩; rw [hw]; clear hw))
  have B7 : Hid (Below w5.heap.size w5 (w5.alloc (.cells #[.bool true, .bool false, .bool true, .bool true, .bool false, .bool true] 4))) := hid (Below.alloc (Below.refl _ _) (Nat.le_refl _) _)
  have K7 : Hid (Bools (w5.alloc (.cells #[.bool true, .bool false, .bool true, .bool true, .bool false, .bool true] 4)) (some ⟨w5.heap.size, 0, none⟩) 6 6 [true, false, true, true, false, true]) := hid (bools_new w5 [true, false, true, true, false, true] 4 (by decide))
  refine (sameBools_any _ _ _ _ _ _ [true, false, true, true, false, true] [true, false, true, true, false, true] _ (J5.out.1.kept B7.out) K7.out).mono ?_
  rintro e w6 ⟨rfl, hb6⟩
  rw [decide_eq_true rfl]
  have B8 : Hid (Below w.heap.size w w6) := hid (kt (kt B6.out B7.out) hb6)
  have J6 := hid ((J5.out.2.kept B7.out).kept hb6)
  clear hb6
  go_wp2_with (first | (go_at_call 16; refine (num_any _ _).mono ?_; rintro e w' ⟨rfl, hw⟩; rw [hw]; clear hw))
  have B9 : Hid (Below w6.heap.size w6 (w6.alloc (.cells #[.bool true, .bool true, .bool true, .bool true, .bool true, .bool false] 4))) := hid (Below.alloc (Below.refl _ _) (Nat.le_refl _) _)
  have K9 : Hid (Bools (w6.alloc (.cells #[.bool true, .bool true, .bool true, .bool true, .bool true, .bool false] 4)) (some ⟨w6.heap.size, 0, none⟩) 6 6 [true, true, true, true, true, false]) := hid (bools_new w6 [true, true, true, true, true, false] 4 (by decide))
  refine (sameBools_any _ _ _ _ _ _ [true, true, true, true, true, false] [true, true, true, true, true, false] _ (J6.out.kept B9.out) K9.out).mono ?_
  rintro e w7 ⟨rfl, hb7⟩
  rw [decide_eq_true rfl]
  have B10 : Hid (Below w.heap.size w w7) := hid (kt (kt B8.out B9.out) hb7)
  clear hb7
  go_wp2_with (first | (go_at_call 16; refine (num_any _ _).mono ?_; rintro e w' ⟨rfl, hw⟩; rw [hw]; clear hw))
  go_ret
  exact ⟨rfl, B10.out⟩

end Go.Proofs.Ytclpnmideableaa
