/- Frames and rows of rows as they lie in memory. Nothing of the program is named here. -/
import Derived.Test.YtaimpljkbpnigaaGreatDoorMemInts
import Derived.Test.YtaimpljkbpnigaaGreatDoorPlainFrame
namespace Go.Proofs.YtaimpljkbpnigaaGreatDoor
open Go.RowKit
set_option linter.unusedVariables false

/-- A list of frames lies from offset o of block b on: four cells each. -/
def frRow (w : World) (b o : Nat) (l : List Fr) : Prop :=
  ∀ i, i < l.length → w.cell? ⟨b, o + i * 4, none⟩ = some (.int .i64 (l.getD i noFr).1) ∧ w.cell? ⟨b, o + i * 4 + 1, none⟩ = some (.int .i64 (l.getD i noFr).2.1) ∧
    (∃ a n c, w.cell? ⟨b, o + i * 4 + 2, none⟩ = some (.slice a n c) ∧ Ints w a n c (l.getD i noFr).2.2.1) ∧ (∃ a n c, w.cell? ⟨b, o + i * 4 + 3, none⟩ = some (.slice a n c) ∧ Ints w a n c (l.getD i noFr).2.2.2)
/-- The slice (a, n, c) reads as the list l of frames. -/
structure Frs (w : World) (a : Option Addr) (n c : Nat) (l : List Fr) : Prop where
  len : n = l.length
  cap : n ≤ c
  room : n * 64 ≤ 140737488351232
  nilc : a = none → n = 0 ∧ c = 0
  row : 0 < n → ∃ b o, a = some ⟨b, o, none⟩ ∧ frRow w b o l
theorem frRow.kept {w w' : World} (hb : Below w.heap.size w w') {b o : Nat} {l : List Fr} (h : frRow w b o l) : frRow w' b o l := by
  intro i hi
  obtain ⟨h1, h2, ⟨a, n, c, h3, h4⟩, a', n', c', h5, h6⟩ := h i hi
  exact ⟨kept_cell hb h1, kept_cell hb h2, ⟨a, n, c, kept_cell hb h3, h4.kept hb⟩, a', n', c', kept_cell hb h5, h6.kept hb⟩
theorem Frs.kept {w w' : World} (hb : Below w.heap.size w w') {a : Option Addr} {n c : Nat} {l : List Fr} (h : Frs w a n c l) : Frs w' a n c l :=
  ⟨h.len, h.cap, h.room, h.nilc, fun hn => by obtain ⟨b, o, ha, hr⟩ := h.row hn; exact ⟨b, o, ha, hr.kept hb⟩⟩
theorem Frs.nil (w : World) : Frs w none 0 0 [] := ⟨rfl, Nat.le_refl _, by omega, fun _ => ⟨rfl, rfl⟩, fun h => absurd h (by omega)⟩
theorem Ints.nil (w : World) : Ints w none 0 0 [] := ⟨rfl, Nat.le_refl _, by omega, fun _ => ⟨rfl, rfl⟩, fun h => absurd h (by omega)⟩
/-- One frame of the list, as it lies. -/
theorem Frs.at {w : World} {a : Option Addr} {n c : Nat} {l : List Fr} (h : Frs w a n c l) (q : Nat) (hq : q < n) :
    ∃ b o x y la ln lc ll sa sn sc sl, a = some ⟨b, o, none⟩ ∧ l.getD q noFr = (x, y, ll, sl) ∧ w.cell? ⟨b, o + q * 4, none⟩ = some (.int .i64 x) ∧ w.cell? ⟨b, o + q * 4 + 1, none⟩ = some (.int .i64 y) ∧
      w.cell? ⟨b, o + q * 4 + 2, none⟩ = some (.slice la ln lc) ∧ w.cell? ⟨b, o + q * 4 + 3, none⟩ = some (.slice sa sn sc) ∧ Ints w la ln lc ll ∧ Ints w sa sn sc sl := by
  obtain ⟨b, o, ha, hr⟩ := h.row (by omega)
  obtain ⟨h1, h2, ⟨la, ln, lc, h3, h4⟩, sa, sn, sc, h5, h6⟩ := hr q (by rw [← h.len]; exact hq)
  exact ⟨b, o, _, _, la, ln, lc, _, sa, sn, sc, _, ha, rfl, h1, h2, h3, h5, h4, h6⟩

/-- The slice (a, n, c) reads as a list of rows of numbers. -/
structure Hts (w : World) (a : Option Addr) (n c : Nat) (l : List (List Int)) : Prop where
  len : n = l.length
  cap : n ≤ c
  room : n * 24 ≤ 140737488351232
  nilc : a = none → n = 0 ∧ c = 0
  row : 0 < n → ∃ b o, a = some ⟨b, o, none⟩ ∧ ∀ i, i < n → ∃ a' n' c', w.cell? ⟨b, o + i, none⟩ = some (.slice a' n' c') ∧ Ints w a' n' c' (l.getD i [])
theorem Hts.kept {w w' : World} (hb : Below w.heap.size w w') {a : Option Addr} {n c : Nat} {l : List (List Int)} (h : Hts w a n c l) : Hts w' a n c l :=
  ⟨h.len, h.cap, h.room, h.nilc, fun hn => by
    obtain ⟨b, o, ha, hr⟩ := h.row hn
    refine ⟨b, o, ha, fun i hi => ?_⟩
    obtain ⟨a', n', c', h1, h2⟩ := hr i hi
    exact ⟨a', n', c', kept_cell hb h1, h2.kept hb⟩⟩
theorem Hts.at {w : World} {a : Option Addr} {n c : Nat} {l : List (List Int)} (h : Hts w a n c l) (q : Nat) (hq : q < n) :
    ∃ b o a' n' c', a = some ⟨b, o, none⟩ ∧ w.cell? ⟨b, o + q, none⟩ = some (.slice a' n' c') ∧ Ints w a' n' c' (l.getD q []) := by
  obtain ⟨b, o, ha, hr⟩ := h.row (by omega)
  obtain ⟨a', n', c', h1, h2⟩ := hr q hq
  exact ⟨b, o, a', n', c', ha, h1, h2⟩
/-- Rows of rows in memory that the call itself made; e, f: the types' numbers. -/
def OwnHts (e f : Nat) (w : World) (base : Nat) (v : Value) (l : List (List Int)) : Prop :=
  ∃ t : List Value, t.length = l.length ∧ w.ownsRow base f 1 v l.length t ∧
    ∀ i, i < l.length → (l.getD i []).length * 8 ≤ 140737488351232 ∧ w.ownsRow base e 1 (t.getD i undef) (l.getD i []).length (ints (l.getD i []))
theorem OwnHts.nil (e f : Nat) (w : World) (base : Nat) : OwnHts e f w base (.slice none 0 0) [] :=
  ⟨[], rfl, World.ownsRow_nil _ _ _ _, fun i hi => by simp at hi⟩
theorem OwnHts.kept {e f : Nat} {w w' : World} {base : Nat} {v : Value} {l : List (List Int)} (h : OwnHts e f w base v l) (hb : Below w.heap.size w w') : OwnHts e f w' base v l := by
  obtain ⟨t, h1, h2, h3⟩ := h
  exact ⟨t, h1, owns_kept h2 hb, fun i hi => ⟨(h3 i hi).1, owns_kept (h3 i hi).2 hb⟩⟩
theorem OwnHts.set {e f : Nat} {w : World} {base : Nat} {v : Value} {l : List (List Int)} (h : OwnHts e f w base v l) (p : Addr) (u : Value) (hp : p.block < base) : OwnHts e f (w.setCell p u) base v l := by
  obtain ⟨t, h1, h2, h3⟩ := h
  exact ⟨t, h1, owns_set h2 p u hp, fun i hi => ⟨(h3 i hi).1, owns_set (h3 i hi).2 p u hp⟩⟩
theorem OwnHts.reads {e f : Nat} {w : World} {base : Nat} {v : Value} {l : List (List Int)} (h : OwnHts e f w base v l) (hl : l.length * 24 ≤ 140737488351232) : ∃ a n c, v = .slice a n c ∧ Hts w a n c l := by
  obtain ⟨t, h1, h2, h3⟩ := h
  rcases h2.2 with ⟨rfl, hn⟩ | ⟨g, cap, cur, rfl, hb, hg, hc, _, _, _⟩
  · exact ⟨none, 0, 0, rfl, hn.symm, Nat.le_refl _, by omega, fun _ => ⟨rfl, rfl⟩, fun h => absurd h (by omega)⟩
  · refine ⟨_, _, _, rfl, rfl, hc, hl, fun h => (by cases h), fun hn => ⟨g, 0, rfl, fun i hi => ?_⟩⟩
    obtain ⟨k1, k2⟩ := h3 i hi
    obtain ⟨a', n', c', hv, hi'⟩ := ints_of_owns k2 k1
    refine ⟨a', n', c', ?_, hi'⟩
    rw [Nat.zero_add, h2.cellAt i (by omega), ← hv]
    simp [List.getD_eq_getElem?_getD, h1, hi]
theorem OwnHts.snoc {e f : Nat} (hef : e ≠ f) {w5 w6 : World} {base m : Nat} {v v' cv : Value} {l : List (List Int)} {t : List Value} {x : List Int} (hm : l.length = m)
    (h1 : t.length = m) (h2 : w5.ownsRow base f 1 v m t)
    (h3 : ∀ i, i < m → (l.getD i []).length * 8 ≤ 140737488351232 ∧ w5.ownsRow base e 1 (t.getD i undef) (l.getD i []).length (ints (l.getD i [])))
    (hc : w5.ownsRow base e 1 cv x.length (ints x)) (hcl : x.length * 8 ≤ 140737488351232)
    (ha : w6.ownsRow base f 1 v' (m + 1) (t ++ [cv])) (hg : w5.grownBy w6 v.ownBlock) : OwnHts e f w6 base v' (l ++ [x]) := by
  subst hm
  refine ⟨t ++ [cv], by simp [h1], by rw [List.length_append]; exact ha, fun i hi => ?_⟩
  rw [List.length_append] at hi
  rcases Nat.lt_or_ge i l.length with hlt | hge
  · rw [getD_snoc_lt t _ _ _ (by omega), getD_snoc_lt l _ _ _ hlt]
    obtain ⟨k1, k2⟩ := h3 i hlt
    exact ⟨k1, k2.kept hg (owns_apart k2 h2 hef)⟩
  · have hi' : i = l.length := by simp at hi; omega
    rw [getD_snoc_eq t _ _ _ (by omega), getD_snoc_eq l _ _ _ hi']
    exact ⟨hcl, hc.kept hg (owns_apart hc h2 hef)⟩

/-- The cells of a list of frames, in a row: each with its two slices. -/
def flat4 : List (Int × Int × Value × Value) → List Value
  | [] => []
  | p :: r => .int .i64 p.1 :: .int .i64 p.2.1 :: p.2.2.1 :: p.2.2.2 :: flat4 r
theorem flat4_len (l : List (Int × Int × Value × Value)) : (flat4 l).length = l.length * 4 := by
  induction l with
  | nil => rfl
  | cons p r ih => simp [flat4, ih]; omega
theorem flat4_app (l k : List (Int × Int × Value × Value)) : flat4 (l ++ k) = flat4 l ++ flat4 k := by
  induction l with
  | nil => rfl
  | cons p r ih => simp [flat4, ih]
theorem flat4_at (l : List (Int × Int × Value × Value)) (i : Nat) (h : i < l.length) (d : Int × Int × Value × Value) :
    (flat4 l)[i * 4]? = some (.int .i64 (l.getD i d).1) ∧ (flat4 l)[i * 4 + 1]? = some (.int .i64 (l.getD i d).2.1) ∧ (flat4 l)[i * 4 + 2]? = some (l.getD i d).2.2.1 ∧ (flat4 l)[i * 4 + 3]? = some (l.getD i d).2.2.2 := by
  induction l generalizing i with
  | nil => simp at h
  | cons p r ih =>
    cases i with
    | zero => simp [flat4]
    | succ i =>
      have := ih i (by simpa using h)
      rw [show (i + 1) * 4 = i * 4 + 1 + 1 + 1 + 1 by omega, show i * 4 + 1 + 1 + 1 + 1 + 1 = (i * 4 + 1) + 1 + 1 + 1 + 1 by omega, show i * 4 + 1 + 1 + 1 + 1 + 2 = (i * 4 + 2) + 1 + 1 + 1 + 1 by omega, show i * 4 + 1 + 1 + 1 + 1 + 3 = (i * 4 + 3) + 1 + 1 + 1 + 1 by omega]
      simpa [flat4] using this
def noU : Int × Int × Value × Value := (0, 0, undef, undef)
/-- A slice of frames in memory that the call itself made (blocks from base on), their locals and stacks too; e, f: the types' numbers. -/
def OwnFrs (e f : Nat) (w : World) (base : Nat) (v : Value) (l : List Fr) : Prop :=
  ∃ t : List (Int × Int × Value × Value), t.length = l.length ∧ w.ownsRow base f 4 v l.length (flat4 t) ∧
    ∀ i, i < l.length → (t.getD i noU).1 = (l.getD i noFr).1 ∧ (t.getD i noU).2.1 = (l.getD i noFr).2.1 ∧
      ((l.getD i noFr).2.2.1.length * 8 ≤ 140737488351232 ∧ w.ownsRow base e 1 (t.getD i noU).2.2.1 (l.getD i noFr).2.2.1.length (ints (l.getD i noFr).2.2.1)) ∧
      ((l.getD i noFr).2.2.2.length * 8 ≤ 140737488351232 ∧ w.ownsRow base e 1 (t.getD i noU).2.2.2 (l.getD i noFr).2.2.2.length (ints (l.getD i noFr).2.2.2))
theorem OwnFrs.nil (e f : Nat) (w : World) (base : Nat) : OwnFrs e f w base (.slice none 0 0) [] :=
  ⟨[], rfl, World.ownsRow_nil _ _ _ _, fun i hi => by simp at hi⟩
theorem OwnFrs.kept {e f : Nat} {w w' : World} {base : Nat} {v : Value} {l : List Fr} (h : OwnFrs e f w base v l) (hb : Below w.heap.size w w') : OwnFrs e f w' base v l := by
  obtain ⟨t, h1, h2, h3⟩ := h
  exact ⟨t, h1, owns_kept h2 hb, fun i hi => ⟨(h3 i hi).1, (h3 i hi).2.1, ⟨(h3 i hi).2.2.1.1, owns_kept (h3 i hi).2.2.1.2 hb⟩, (h3 i hi).2.2.2.1, owns_kept (h3 i hi).2.2.2.2 hb⟩⟩
theorem OwnFrs.base {e f : Nat} {w : World} {base base' : Nat} {v : Value} {l : List Fr} (h : OwnFrs e f w base v l) (hb : base' ≤ base) : OwnFrs e f w base' v l := by
  obtain ⟨t, h1, h2, h3⟩ := h
  exact ⟨t, h1, owns_base h2 hb, fun i hi => ⟨(h3 i hi).1, (h3 i hi).2.1, ⟨(h3 i hi).2.2.1.1, owns_base (h3 i hi).2.2.1.2 hb⟩, (h3 i hi).2.2.2.1, owns_base (h3 i hi).2.2.2.2 hb⟩⟩
theorem OwnFrs.set {e f : Nat} {w : World} {base : Nat} {v : Value} {l : List Fr} (h : OwnFrs e f w base v l) (p : Addr) (u : Value) (hp : p.block < base) : OwnFrs e f (w.setCell p u) base v l := by
  obtain ⟨t, h1, h2, h3⟩ := h
  exact ⟨t, h1, owns_set h2 p u hp, fun i hi => ⟨(h3 i hi).1, (h3 i hi).2.1, ⟨(h3 i hi).2.2.1.1, owns_set (h3 i hi).2.2.1.2 p u hp⟩, (h3 i hi).2.2.2.1, owns_set (h3 i hi).2.2.2.2 p u hp⟩⟩
theorem OwnFrs.reads {e f : Nat} {w : World} {base : Nat} {v : Value} {l : List Fr} (h : OwnFrs e f w base v l) (hl : l.length * 64 ≤ 140737488351232) : ∃ a n c, v = .slice a n c ∧ Frs w a n c l := by
  obtain ⟨t, h1, h2, h3⟩ := h
  rcases h2.2 with ⟨rfl, hn⟩ | ⟨g, cap, cur, rfl, hb, hg, hc, _, _, _⟩
  · exact ⟨none, 0, 0, rfl, hn.symm, Nat.le_refl _, by omega, fun _ => ⟨rfl, rfl⟩, fun h => absurd h (by omega)⟩
  · refine ⟨_, _, _, rfl, rfl, hc, hl, fun h => (by cases h), fun hn => ⟨g, 0, rfl, fun i hi => ?_⟩⟩
    have c := fun j (hj : j < l.length * 4) => h2.cellAt j hj
    obtain ⟨e1, e2, e3, e4⟩ := flat4_at t i (by omega) noU
    obtain ⟨k1, k2, ⟨k3, k4⟩, k5, k6⟩ := h3 i hi
    obtain ⟨a', n', c', hv, hi'⟩ := ints_of_owns k4 k3
    obtain ⟨a2, n2, c2, hv2, hi2⟩ := ints_of_owns k6 k5
    refine ⟨?_, ?_, ⟨a', n', c', ?_, hi'⟩, a2, n2, c2, ?_, hi2⟩
    · rw [Nat.zero_add, c _ (by omega), e1, k1]
    · rw [Nat.zero_add, c _ (by omega), e2, k2]
    · rw [Nat.zero_add, c _ (by omega), e3, hv]
    · rw [Nat.zero_add, c _ (by omega), e4, hv2]
/-- One frame more. -/
theorem OwnFrs.snoc {e f : Nat} (hef : e ≠ f) {w5 w6 : World} {base m : Nat} {v v' lv sv : Value} {l : List Fr} {t : List (Int × Int × Value × Value)} {x y : Int} {ll sl : List Int} (hm : l.length = m)
    (h1 : t.length = m) (h2 : w5.ownsRow base f 4 v m (flat4 t))
    (h3 : ∀ i, i < m → (t.getD i noU).1 = (l.getD i noFr).1 ∧ (t.getD i noU).2.1 = (l.getD i noFr).2.1 ∧
      ((l.getD i noFr).2.2.1.length * 8 ≤ 140737488351232 ∧ w5.ownsRow base e 1 (t.getD i noU).2.2.1 (l.getD i noFr).2.2.1.length (ints (l.getD i noFr).2.2.1)) ∧
      ((l.getD i noFr).2.2.2.length * 8 ≤ 140737488351232 ∧ w5.ownsRow base e 1 (t.getD i noU).2.2.2 (l.getD i noFr).2.2.2.length (ints (l.getD i noFr).2.2.2)))
    (hl : w5.ownsRow base e 1 lv ll.length (ints ll)) (hll : ll.length * 8 ≤ 140737488351232) (hs : w5.ownsRow base e 1 sv sl.length (ints sl)) (hsl : sl.length * 8 ≤ 140737488351232)
    (ha : w6.ownsRow base f 4 v' (m + 1) (flat4 t ++ [.int .i64 x, .int .i64 y, lv, sv])) (hg : w5.grownBy w6 v.ownBlock) :
    OwnFrs e f w6 base v' (l ++ [(x, y, ll, sl)]) := by
  subst hm
  refine ⟨t ++ [(x, y, lv, sv)], by simp [h1], ?_, fun i hi => ?_⟩
  · rw [flat4_app, List.length_append]; exact ha
  · rw [List.length_append] at hi
    rcases Nat.lt_or_ge i l.length with hlt | hge
    · rw [getD_snoc_lt _ _ _ _ (by omega), getD_snoc_lt _ _ _ _ hlt]
      obtain ⟨k1, k2, ⟨k3, k4⟩, k5, k6⟩ := h3 i hlt
      exact ⟨k1, k2, ⟨k3, k4.kept hg (owns_apart k4 h2 hef)⟩, k5, k6.kept hg (owns_apart k6 h2 hef)⟩
    · have hi' : i = l.length := by simp at hi; omega
      rw [getD_snoc_eq _ _ _ _ (by omega), getD_snoc_eq _ _ _ _ hi']
      exact ⟨rfl, rfl, ⟨hll, hl.kept hg (owns_apart hl h2 hef)⟩, hsl, hs.kept hg (owns_apart hs h2 hef)⟩

/-- Numbers that may be written over: cells in blocks from base on, not frozen. -/
def SoftInts (w : World) (base : Nat) (a : Option Addr) (n : Nat) : Prop :=
  0 < n → ∃ b o, a = some ⟨b, o, none⟩ ∧ base ≤ b ∧ ∀ i, i < n → ∃ x, w.cell? ⟨b, o + i, none⟩ = some (.int .i64 x) ∧ w.frozen? ⟨b, o + i, none⟩ = false
theorem SoftInts.like {w w' : World} {base : Nat} {a : Option Addr} {n : Nat} (h : SoftInts w base a n) (hl : Like w w') : SoftInts w' base a n := by
  intro hn
  obtain ⟨b, o, ha, hb, hr⟩ := h hn
  refine ⟨b, o, ha, hb, fun i hi => ?_⟩
  obtain ⟨x, hx, hf⟩ := hr i hi
  obtain ⟨y, hy⟩ := hl.int hx
  exact ⟨y, hy, (hl.frozen _ _ _ hx).trans hf⟩
theorem softi_of_owns {w : World} {base base' e : Nat} {a : Option Addr} {n c : Nat} {l : List Int} (h : w.ownsRow base e 1 (.slice a n c) l.length (ints l)) (hb : base' ≤ base) : SoftInts w base' a n := by
  intro hn
  rcases h.2 with ⟨e0, _⟩ | ⟨g, cap, cur, e0, hbg, hg, hc, _, _, _⟩
  · cases e0; omega
  · cases e0
    refine ⟨g, 0, rfl, by omega, fun i hi => ⟨l.getD i 0, ?_, h.frozenAt _⟩⟩
    rw [Nat.zero_add, h.cellAt _ (by omega), ints_at l i hi]
/-- .. and frames. -/
def SoftFrs (w : World) (base : Nat) (a : Option Addr) (n : Nat) : Prop :=
  0 < n → ∃ b o, a = some ⟨b, o, none⟩ ∧ base ≤ b ∧ ∀ i, i < n → ∃ x, w.cell? ⟨b, o + i * 4 + 1, none⟩ = some (.int .i64 x) ∧ w.frozen? ⟨b, o + i * 4 + 1, none⟩ = false ∧
    (∃ a' n' c', w.cell? ⟨b, o + i * 4 + 2, none⟩ = some (.slice a' n' c') ∧ n' * 8 ≤ 140737488351232 ∧ n' ≤ c' ∧ SoftInts w base a' n') ∧
    (∃ a' n' c', w.cell? ⟨b, o + i * 4 + 3, none⟩ = some (.slice a' n' c') ∧ n' * 8 ≤ 140737488351232 ∧ n' ≤ c' ∧ SoftInts w base a' n')
theorem SoftFrs.like {w w' : World} {base : Nat} {a : Option Addr} {n : Nat} (h : SoftFrs w base a n) (hl : Like w w') : SoftFrs w' base a n := by
  intro hn
  obtain ⟨b, o, ha, hb, hr⟩ := h hn
  refine ⟨b, o, ha, hb, fun i hi => ?_⟩
  obtain ⟨x, hx, hf, ⟨a', n', c', h1, h2, h3, h4⟩, a2, n2, c2, k1, k2, k3, k4⟩ := hr i hi
  obtain ⟨y, hy⟩ := hl.int hx
  exact ⟨y, hy, (hl.frozen _ _ _ hx).trans hf, ⟨a', n', c', hl.slice h1, h2, h3, h4.like hl⟩, a2, n2, c2, hl.slice k1, k2, k3, k4.like hl⟩
theorem OwnFrs.soft {e f : Nat} {w : World} {base base' : Nat} {a : Option Addr} {n c : Nat} {l : List Fr} (h : OwnFrs e f w base (.slice a n c) l) (hb : base' ≤ base) : SoftFrs w base' a n := by
  intro hn
  obtain ⟨t, h1, h2, h3⟩ := h
  rcases h2.2 with ⟨e0, _⟩ | ⟨g, cap, cur, e0, hbg, hg, hc, _, _, _⟩
  · cases e0; omega
  · cases e0
    refine ⟨g, 0, rfl, by omega, fun i hi => ?_⟩
    obtain ⟨e1, e2, e3, e4⟩ := flat4_at t i (by omega) noU
    obtain ⟨k1, k2, ⟨k3, k4⟩, k5, k6⟩ := h3 i hi
    obtain ⟨a', n', c', hv, hi'⟩ := ints_of_owns k4 k3
    obtain ⟨a2, n2, c2, hv2, hi2⟩ := ints_of_owns k6 k5
    refine ⟨(t.getD i noU).2.1, ?_, h2.frozenAt _, ⟨a', n', c', ?_, hi'.room, hi'.cap, ?_⟩, a2, n2, c2, ?_, hi2.room, hi2.cap, ?_⟩
    · rw [Nat.zero_add, h2.cellAt _ (by omega), e2]
    · rw [Nat.zero_add, h2.cellAt _ (by omega), e3, hv]
    · rw [hv] at k4
      exact softi_of_owns k4 hb
    · rw [Nat.zero_add, h2.cellAt _ (by omega), e4, hv2]
    · rw [hv2] at k6
      exact softi_of_owns k6 hb

end Go.Proofs.YtaimpljkbpnigaaGreatDoor
