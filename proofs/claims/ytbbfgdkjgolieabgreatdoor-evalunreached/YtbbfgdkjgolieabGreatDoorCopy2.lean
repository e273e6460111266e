/- A copied program: each function's code lies in a block of its own. -/
import Derived.Test.YtbbfgdkjgolieabGreatDoorCopy
import Derived.Test.YtbbfgdkjgolieabGreatDoorMemInts
namespace Go.Proofs.YtbbfgdkjgolieabGreatDoor
open Go.RowKit
set_option linter.unusedVariables false

/-- No two codes lie in one block. -/
def Sep (t : List (Int × Int × Value)) : Prop := ∀ i j, i < t.length → j < t.length → i ≠ j → (t.getD i noT).2.2.ownBlock = none ∨ (t.getD i noT).2.2.ownBlock ≠ (t.getD j noT).2.2.ownBlock
theorem Sep.snoc {t : List (Int × Int × Value)} {x y : Int} {cv : Value} {H : Nat} (h : Sep t) (hold : ∀ i, i < t.length → ∀ b, (t.getD i noT).2.2.ownBlock = some b → b < H) (hnew : ∀ b, cv.ownBlock = some b → H ≤ b) : Sep (t ++ [(x, y, cv)]) := by
  intro i j hi hj hne
  rw [List.length_append, List.length_singleton] at hi hj
  have ge : (t ++ [(x, y, cv)]).getD t.length noT = (x, y, cv) := getD_snoc_eq _ _ _ _ rfl
  rcases Nat.lt_or_ge i t.length with h1 | h1
  · rw [getD_snoc_lt _ _ _ _ h1]
    rcases Nat.lt_or_ge j t.length with h2 | h2
    · rw [getD_snoc_lt _ _ _ _ h2]; exact h i j h1 h2 hne
    · rw [show j = t.length by omega, ge]
      cases hb : (t.getD i noT).2.2.ownBlock with
      | none => exact .inl rfl
      | some b =>
        right
        intro e
        have := hold i h1 b hb
        have := hnew b e.symm
        omega
  · rw [show i = t.length by omega, ge]
    rcases Nat.lt_or_ge j t.length with h2 | h2
    · rw [getD_snoc_lt _ _ _ _ h2]
      show cv.ownBlock = none ∨ cv.ownBlock ≠ _
      cases hb : cv.ownBlock with
      | none => exact .inl rfl
      | some b =>
        right
        intro e
        have := hold j h2 b e.symm
        have := hnew b hb
        omega
    · omega
/-- As OwnFns, and no two codes lie in one block. -/
def OwnFns2 (e f : Nat) (w : World) (base : Nat) (v : Value) (l : List Fn) : Prop :=
  ∃ t : List (Int × Int × Value), t.length = l.length ∧ w.ownsRow base f 3 v l.length (flat3 t) ∧
    (∀ i, i < l.length → (t.getD i noT).1 = (l.getD i noFn).1 ∧ (t.getD i noT).2.1 = (l.getD i noFn).2.1 ∧ (l.getD i noFn).2.2.length * 16 ≤ 140737488351232 ∧
      w.ownsRow base e 2 (t.getD i noT).2.2 (l.getD i noFn).2.2.length (flat2 (l.getD i noFn).2.2)) ∧ Sep t
theorem OwnFns2.one {e f : Nat} {w : World} {base : Nat} {v : Value} {l : List Fn} (h : OwnFns2 e f w base v l) : OwnFns e f w base v l := by
  obtain ⟨t, h1, h2, h3, _⟩ := h
  exact ⟨t, h1, h2, h3⟩
theorem OwnFns2.nil (e f : Nat) (w : World) (base : Nat) : OwnFns2 e f w base (.slice none 0 0) [] :=
  ⟨[], rfl, World.ownsRow_nil _ _ _ _, fun i hi => by simp at hi, fun i j hi => by simp at hi⟩
theorem OwnFns2.kept {e f : Nat} {w w' : World} {base : Nat} {v : Value} {l : List Fn} (h : OwnFns2 e f w base v l) (hb : Below w.heap.size w w') : OwnFns2 e f w' base v l := by
  obtain ⟨t, h1, h2, h3, h4⟩ := h
  exact ⟨t, h1, owns_kept h2 hb, fun i hi => ⟨(h3 i hi).1, (h3 i hi).2.1, (h3 i hi).2.2.1, owns_kept (h3 i hi).2.2.2 hb⟩, h4⟩
theorem OwnFns2.set {e f : Nat} {w : World} {base : Nat} {v : Value} {l : List Fn} (h : OwnFns2 e f w base v l) (p : Addr) (u : Value) (hp : p.block < base) : OwnFns2 e f (w.setCell p u) base v l := by
  obtain ⟨t, h1, h2, h3, h4⟩ := h
  exact ⟨t, h1, owns_set h2 p u hp, fun i hi => ⟨(h3 i hi).1, (h3 i hi).2.1, (h3 i hi).2.2.1, owns_set (h3 i hi).2.2.2 p u hp⟩, h4⟩
/-- A cell of a block of another type is written. -/
theorem owns_set_ty {w : World} {base e size : Nat} {v : Value} {n : Nat} {xs : List Value} (h : w.ownsRow base e size v n xs) (p : Addr) (u : Value) {c : Array Value} {t : TypeId} {fr : Nat × Nat} (hp : w.heap[p.block]? = some (.cells c t fr)) (ht : t ≠ e) : (w.setCell p u).ownsRow base e size v n xs := by
  refine ⟨h.1, ?_⟩
  rcases h.2 with h0 | ⟨g, cap, cur, rfl, hbg, hg, r⟩
  · exact .inl h0
  · refine .inr ⟨g, cap, cur, rfl, hbg, ?_, r⟩
    rw [Below.heap_setCell _ _ _ _ (fun e' => by
      rw [← e', hg] at hp
      simp at hp
      exact ht hp.2.1.symm)]
    exact hg
theorem OwnFns2.set_ty {e f : Nat} {w : World} {base : Nat} {v : Value} {l : List Fn} (h : OwnFns2 e f w base v l) (p : Addr) (u : Value) {c : Array Value} {t : TypeId} {fr : Nat × Nat} (hp : w.heap[p.block]? = some (.cells c t fr)) (he : t ≠ e) (hf : t ≠ f) : OwnFns2 e f (w.setCell p u) base v l := by
  obtain ⟨t', h1, h2, h3, h4⟩ := h
  exact ⟨t', h1, owns_set_ty h2 p u hp hf, fun i hi => ⟨(h3 i hi).1, (h3 i hi).2.1, (h3 i hi).2.2.1, owns_set_ty (h3 i hi).2.2.2 p u hp he⟩, h4⟩
theorem OwnFns2.snoc {e f : Nat} (hef : e ≠ f) {w5 w6 : World} {base m : Nat} {v v' cv : Value} {l : List Fn} {t : List (Int × Int × Value)} {x y : Int} {code : List (Int × Int)} (hm : l.length = m)
    (h1 : t.length = m) (h2 : w5.ownsRow base f 3 v m (flat3 t))
    (h3 : ∀ i, i < m → (t.getD i noT).1 = (l.getD i noFn).1 ∧ (t.getD i noT).2.1 = (l.getD i noFn).2.1 ∧ (l.getD i noFn).2.2.length * 16 ≤ 140737488351232 ∧ w5.ownsRow base e 2 (t.getD i noT).2.2 (l.getD i noFn).2.2.length (flat2 (l.getD i noFn).2.2))
    (hc : w5.ownsRow base e 2 cv code.length (flat2 code)) (hcl : code.length * 16 ≤ 140737488351232)
    (ha : w6.ownsRow base f 3 v' (m + 1) (flat3 t ++ [.int .i64 x, .int .i64 y, cv])) (hg : w5.grownBy w6 v.ownBlock) (hs : Sep (t ++ [(x, y, cv)])) :
    OwnFns2 e f w6 base v' (l ++ [(x, y, code)]) := by
  subst hm
  refine ⟨t ++ [(x, y, cv)], by simp [h1], ?_, fun i hi => ?_, hs⟩
  · rw [flat3_app, List.length_append]; exact ha
  · rw [List.length_append] at hi
    rcases Nat.lt_or_ge i l.length with hlt | hge
    · rw [getD_snoc_lt _ _ _ _ (by omega), getD_snoc_lt _ _ _ _ hlt]
      obtain ⟨k1, k2, k3, k4⟩ := h3 i hlt
      exact ⟨k1, k2, k3, k4.kept hg (owns_apart k4 h2 hef)⟩
    · have hi' : i = l.length := by simp at hi; omega
      rw [getD_snoc_eq _ _ _ _ (by omega), getD_snoc_eq _ _ _ _ hi']
      exact ⟨rfl, rfl, hcl, hc.kept hg (owns_apart hc h2 hef)⟩

set_option maxHeartbeats 1000000 in
theorem copyProgram2_any (a : Option Addr) (n c : Nat) (l : List Fn) (w : World) (h : Fns w a n c l) :
    Calls Tryz.prog 19 #[.agg #[.slice a n c]] w fun e w' => ∃ v, e = .returned (.agg #[v]) ∧ OwnFns2 42 54 w' (w.heap.size + 3) v l ∧ Below w.heap.size w w' := by
  obtain ⟨i0, hi, hz0, hz1, hz2⟩ := info_parts Tryz.infoFunc
  have L := hid h.len
  have hr := h.room
  go_enter Tryz.func19, Tryz.ntmps19
  go_wp2
  go_loopw [4] (fun i wr => ∃ q : Nat, q ≤ n ∧ i = .int .i64 q ∧ wr.cell? ⟨w.heap.size, 0, none⟩ = some (.slice a n c) ∧ wr.cell? ⟨w.heap.size + 1, 0, none⟩ = some (.slice none 0 0) ∧ wr.frozen? ⟨w.heap.size + 1, 0, none⟩ = false ∧
      (∃ va vn vc, wr.cell? ⟨w.heap.size + 1 + 1, 0, none⟩ = some (.slice va vn vc) ∧ wr.frozen? ⟨w.heap.size + 1 + 1, 0, none⟩ = false ∧ OwnFns2 42 54 wr (w.heap.size + 3) (.slice va vn vc) (l.take q)) ∧ Below w.heap.size w wr) (fun i _ => n - (intOf i).toNat)
  case atStart => exact ⟨0, Nat.zero_le _, rfl, by simp [go_sem], by simp [go_sem], by simp [go_sem], ⟨_, _, _, by simp [go_sem], by simp [go_sem], OwnFns2.nil _ _ _ _⟩, by go_grown⟩
  case round =>
    obtain ⟨q, hq, rfl, g0, g1, f1, ⟨va, vn, vc, g2, f2, ho⟩, hb⟩ := hrel
    by_cases hlt : q < n
    · obtain ⟨b1, o1, x1, y1, a1, n1, m1, l1, rfl, e1, c1, c2, c3, i1⟩ := (h.kept hb).at q hlt
      have E1 := hid e1
      clear e1
      have hs := hb.size
      have z1 := World.new_ne _ _ c1
      go_wp2_with fail
      refine (copyInss_any _ _ _ l1 _ (i1.kept (by go_grown))).mono ?_
      rintro e w1 ⟨cv, rfl, hc, hb1⟩
      obtain ⟨a2, n2, m2, rfl, i2⟩ := inss_of_owns hc (by rw [← i1.len]; exact i1.room)
      have k0 := kept_cell hb1 (b := wr.heap.size) (o := 0) (v := .int .i64 x1) (by simp [go_sem])
      have k1 := kept_cell hb1 (b := wr.heap.size) (o := 1) (v := .int .i64 y1) (by simp [go_sem])
      have k2 := kept_cell hb1 (b := wr.heap.size) (o := 2) (v := .slice a1 n1 m1) (by simp [go_sem])
      have kf : w1.frozen? ⟨wr.heap.size, 2, none⟩ = false := by rw [hb1.frozen (by simp)]; simp [go_sem]
      have g0' := kept_cell hb1 (b := w.heap.size) (o := 0) (v := .slice (some ⟨b1, o1, none⟩) n c) (kept_cell (by go_grown) g0)
      have g2' := kept_cell hb1 (b := w.heap.size + 1 + 1) (o := 0) (v := .slice va vn vc) (kept_cell (by go_grown) g2)
      have HB1 := hid hb1
      have hs1 : wr.heap.size + 1 ≤ w1.heap.size := by have := hb1.size; simpa using this
      have hlt2 := lt_of_cell g2
      obtain ⟨t, ht1, ht2, ht3, hsep⟩ := ho
      have hlen : (l.take q).length = q := by rw [List.length_take]; have := L.out; omega
      rw [hlen] at ht1 ht2 ht3
      have hB5 : Below wr.heap.size wr ((w1.setCell ⟨wr.heap.size, 2, none⟩ (.slice a2 n2 m2)).alloc (.cells #[.int .i64 x1, .int .i64 y1, .slice a2 n2 m2] 54)) :=
        Below.alloc (Below.setCell (kt (by go_grown) hb1) (Nat.le_refl _) _) (by simp; omega) _
      have hown5 := owns_kept ht2 hB5
      have hcode5 : ((w1.setCell ⟨wr.heap.size, 2, none⟩ (.slice a2 n2 m2)).alloc (.cells #[.int .i64 x1, .int .i64 y1, .slice a2 n2 m2] 54)).ownsRow (w.heap.size + 3) 42 2 (.slice a2 n2 m2) l1.length (flat2 l1) :=
        (owns_base (owns_set hc ⟨wr.heap.size, 2, none⟩ _ (by simp)) (by simp; omega)).alloc _
      have hnews := World.news_of_block (heap_alloc_new (w1.setCell ⟨wr.heap.size, 2, none⟩ (.slice a2 n2 m2)) (.cells #[.int .i64 x1, .int .i64 y1, .slice a2 n2 m2] 54))
      simp only [World.size_setCell] at hnews
      have h3 := fun i (hi : i < q) => (⟨(ht3 i hi).1, (ht3 i hi).2.1, (ht3 i hi).2.2.1, owns_kept (ht3 i hi).2.2.2 hB5⟩ : (t.getD i noT).1 = ((l.take q).getD i noFn).1 ∧ (t.getD i noT).2.1 = ((l.take q).getD i noFn).2.1 ∧ ((l.take q).getD i noFn).2.2.length * 16 ≤ 140737488351232 ∧ World.ownsRow _ (w.heap.size + 3) 42 2 (t.getD i noT).2.2 ((l.take q).getD i noFn).2.2.length (flat2 ((l.take q).getD i noFn).2.2))
      have hne : ∀ b, b < w.heap.size + 3 → some b ≠ (Value.slice va vn vc).ownBlock := fun b hb h => by have := (hown5.lt _ h.symm).1; omega
      have HN := hid hne
      have j0 := kept_cell hB5 g0
      have j1 := kept_cell hB5 g1
      have j2 := kept_cell hB5 g2
      have jf1 := (hB5.frozen (p := ⟨w.heap.size + 1, 0, none⟩) (lt_of_cell g1)).trans f1
      have jf2 := (hB5.frozen (p := ⟨w.heap.size + 1 + 1, 0, none⟩) (lt_of_cell g2)).trans f2
      have J := hid (And.intro j0 (And.intro j1 (And.intro j2 (And.intro jf1 jf2))))
      clear j0 j1 j2 jf1 jf2 hne
      have H3 := hid h3
      have HB5 := hid hB5
      have HC5 := hid hcode5
      have HO5 := hid hown5
      have HT1 := hid ht1
      have HL := hid hlen
      have SP : Hid (Sep (t ++ [(x1, y1, .slice a2 n2 m2)])) := hid (hsep.snoc (H := wr.heap.size) (fun i hi b hb' => ((ht3 i (by omega)).2.2.2.lt b hb').2) (fun b hb' => by have := (hc.lt b hb').1; simp at this; omega))
      clear hsep
      have R1 := hid i1.room
      have L1 := hid i1.len
      clear hb1 h3 hB5 hcode5 hown5 ht1 ht2 ht3 hlen hc i2
      go_wp2_with (at_builtin; go_must ((refine wpList_append_lies _ rfl _ _ 22 rfl (w.heap.size + 3) 54 i0 (.agg #[.int .i64 0, .int .i64 0, .slice none 0 0]) 3 40 Tryz.underlying22 hi hz0 hz1 hz2 rfl (by decide) (.slice va vn vc) q (flat3 t) rfl HO5.out ⟨w1.heap.size, 0, none⟩ 1 1 [.int .i64 x1, .int .i64 y1, .slice a2 n2 m2] rfl rfl hnews (by intro u hu; simp at hu; rcases hu with rfl | rfl | rfl <;> rfl) (by decide) (by unfold maxLen; omega) (by omega) (by simp; omega) (w1.heap.size + 1) (by simp) ?_; intro g cap w6 ho6 hg6 hat hlt6; have q0 := hg6.cell J.out.1 (HN.out w.heap.size (by omega)); have q1 := hg6.cell J.out.2.1 (HN.out (w.heap.size + 1) (by omega)); have q2 := hg6.cell J.out.2.2.1 (HN.out (w.heap.size + 1 + 1) (by omega)); have qf1 := (hg6.frozen_far ⟨w.heap.size + 1, 0, none⟩ (lt_of_cell J.out.2.1) (HN.out (w.heap.size + 1) (by omega))).trans J.out.2.2.2.1; have qf2 := (hg6.frozen_far ⟨w.heap.size + 1 + 1, 0, none⟩ (lt_of_cell J.out.2.2.1) (HN.out (w.heap.size + 1 + 1) (by omega))).trans J.out.2.2.2.2; have P := hid (And.intro ho6 (And.intro hg6 hlt6)); clear ho6 hg6 hat hlt6)))
      go_roundw
      case rel =>
        obtain ⟨p1, p2, p3⟩ := P.out
        refine ⟨q + 1, by omega, by go_num, cell_set_far q0 (by simp; omega), cell_set_far q1 (by simp), by simp [qf1], ⟨_, _, _, World.cell?_setCell_same _ _ _ q2, by simp [qf2], ?_⟩, ?_⟩
        · rw [take_snoc_getD (by have := L.out; omega) E1.out]
          exact (OwnFns2.snoc (by decide) HL.out HT1.out HO5.out H3.out HC5.out (by rw [← L1.out]; exact R1.out) p1 p2 SP.out).set _ _ (by simp)
        · exact Below.setCell (Below.grown (hb.trans (HB5.out.mono hs)) p2 (by have := HB5.out.size; omega) (fun k hk => by have := (HO5.out.lt k hk).1; omega)) (by simp; omega) _
      case measure => simp [intOf]; omega
    · go_wp2
      refine bodyPost_ret (v := .agg #[.slice va vn vc]) (by simp [results, Tryz.results19, go_sem, g1]) rfl ⟨_, rfl, ?_, ?_⟩
      · rw [List.take_of_length_le (by have := L.out; omega)] at ho
        exact ho.set _ _ (by simp)
      · exact Below.setCell hb (by simp) _


end Go.Proofs.YtbbfgdkjgolieabGreatDoor
