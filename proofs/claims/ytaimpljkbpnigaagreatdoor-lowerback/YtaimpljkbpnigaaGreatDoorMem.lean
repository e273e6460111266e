/- Programs as they lie in memory: instructions, functions, programs; what stays when the world grows. Nothing of the program is named here. -/
import Derived.WalkKit
import Derived.Handy
import Derived.WalkSmall
import Derived.Lib.QuietBelow
import Derived.Deep.QuietTactic
import Derived.BigQuiet
namespace Go.Proofs.YtaimpljkbpnigaaGreatDoor
open Go.RowKit

theorem bcell {W w1 : World} (hb : Below W.heap.size W w1) : (∀ b o, b < W.heap.size → w1.cell? ⟨b, o, none⟩ = W.cell? ⟨b, o, none⟩) ∧ (∀ b o, b < W.heap.size → w1.frozen? ⟨b, o, none⟩ = W.frozen? ⟨b, o, none⟩) :=
  ⟨fun b o h => hb.cell (p := ⟨b, o, none⟩) h, fun b o h => hb.frozen (p := ⟨b, o, none⟩) h⟩

theorem kt {a b c : World} (h : Below a.heap.size a b) (k : Below b.heap.size b c) : Below a.heap.size a c := h.trans (k.mono h.size)

theorem lt_of_cell {w : World} {b o : Nat} {v : Value} (h : w.cell? ⟨b, o, none⟩ = some v) : b < w.heap.size := block_lt_of_cell h
theorem kept_cell {w w' : World} (hb : Below w.heap.size w w') {b o : Nat} {v : Value} (h : w.cell? ⟨b, o, none⟩ = some v) : w'.cell? ⟨b, o, none⟩ = some v := by
  rw [hb.cell (p := ⟨b, o, none⟩) (lt_of_cell h)]; exact h

/-- A list of pairs of numbers lies from offset o of block b on. -/
def insRow (w : World) (b o : Nat) (l : List (Int × Int)) : Prop :=
  ∀ i, i < l.length → w.cell? ⟨b, o + i * 2, none⟩ = some (.int .i64 (l.getD i (0, 0)).1) ∧ w.cell? ⟨b, o + i * 2 + 1, none⟩ = some (.int .i64 (l.getD i (0, 0)).2)
/-- The slice (a, n, c) reads as the list l of instructions. -/
structure Inss (w : World) (a : Option Addr) (n c : Nat) (l : List (Int × Int)) : Prop where
  len : n = l.length
  cap : n ≤ c
  room : n * 16 ≤ 140737488351232
  nilc : a = none → n = 0 ∧ c = 0
  row : 0 < n → ∃ b o, a = some ⟨b, o, none⟩ ∧ insRow w b o l
theorem Inss.kept {w w' : World} (hb : Below w.heap.size w w') {a : Option Addr} {n c : Nat} {l : List (Int × Int)} (h : Inss w a n c l) : Inss w' a n c l :=
  ⟨h.len, h.cap, h.room, h.nilc, fun hn => by
    obtain ⟨b, o, ha, hr⟩ := h.row hn
    exact ⟨b, o, ha, fun i hi => ⟨kept_cell hb (hr i hi).1, kept_cell hb (hr i hi).2⟩⟩⟩

abbrev Fn := Int × Int × List (Int × Int)
def noFn : Fn := (0, 0, [])

/-- A list of functions lies from offset o of block b on: three cells each, the last one a slice of instructions. -/
def fnRow (w : World) (b o : Nat) (l : List Fn) : Prop :=
  ∀ i, i < l.length → w.cell? ⟨b, o + i * 3, none⟩ = some (.int .i64 (l.getD i noFn).1) ∧ w.cell? ⟨b, o + i * 3 + 1, none⟩ = some (.int .i64 (l.getD i noFn).2.1) ∧
    ∃ a n c, w.cell? ⟨b, o + i * 3 + 2, none⟩ = some (.slice a n c) ∧ Inss w a n c (l.getD i noFn).2.2
/-- The slice (a, n, c) reads as the list l of functions. -/
structure Fns (w : World) (a : Option Addr) (n c : Nat) (l : List Fn) : Prop where
  len : n = l.length
  cap : n ≤ c
  room : n * 40 ≤ 140737488351232
  nilc : a = none → n = 0 ∧ c = 0
  row : 0 < n → ∃ b o, a = some ⟨b, o, none⟩ ∧ fnRow w b o l
theorem Fns.kept {w w' : World} (hb : Below w.heap.size w w') {a : Option Addr} {n c : Nat} {l : List Fn} (h : Fns w a n c l) : Fns w' a n c l :=
  ⟨h.len, h.cap, h.room, h.nilc, fun hn => by
    obtain ⟨b, o, ha, hr⟩ := h.row hn
    refine ⟨b, o, ha, fun i hi => ?_⟩
    obtain ⟨h1, h2, a', n', c', h3, h4⟩ := hr i hi
    exact ⟨kept_cell hb h1, kept_cell hb h2, a', n', c', kept_cell hb h3, h4.kept hb⟩⟩
/-- One function of the list, as it lies. -/
theorem Fns.at {w : World} {a : Option Addr} {n c : Nat} {l : List Fn} (h : Fns w a n c l) (q : Nat) (hq : q < n) :
    ∃ b o x y a' n' c' k, a = some ⟨b, o, none⟩ ∧ l.getD q noFn = (x, y, k) ∧ w.cell? ⟨b, o + q * 3, none⟩ = some (.int .i64 x) ∧ w.cell? ⟨b, o + q * 3 + 1, none⟩ = some (.int .i64 y) ∧
      w.cell? ⟨b, o + q * 3 + 2, none⟩ = some (.slice a' n' c') ∧ Inss w a' n' c' k := by
  obtain ⟨b, o, ha, hr⟩ := h.row (by omega)
  obtain ⟨h1, h2, a', n', c', h3, h4⟩ := hr q (by rw [← h.len]; exact hq)
  exact ⟨b, o, _, _, a', n', c', _, ha, rfl, h1, h2, h3, h4⟩
theorem Inss.at {w : World} {a : Option Addr} {n c : Nat} {l : List (Int × Int)} (h : Inss w a n c l) (q : Nat) (hq : q < n) :
    ∃ b o x y, a = some ⟨b, o, none⟩ ∧ l.getD q (0, 0) = (x, y) ∧ w.cell? ⟨b, o + q * 2, none⟩ = some (.int .i64 x) ∧ w.cell? ⟨b, o + q * 2 + 1, none⟩ = some (.int .i64 y) := by
  obtain ⟨b, o, ha, hr⟩ := h.row (by omega)
  obtain ⟨h1, h2⟩ := hr q (by rw [← h.len]; exact hq)
  exact ⟨b, o, _, _, ha, rfl, h1, h2⟩

/-- The cells of a list of instructions, in a row. -/
def flat2 : List (Int × Int) → List Value
  | [] => []
  | p :: r => .int .i64 p.1 :: .int .i64 p.2 :: flat2 r
theorem flat2_len (l : List (Int × Int)) : (flat2 l).length = l.length * 2 := by
  induction l with
  | nil => rfl
  | cons p r ih => simp [flat2, ih]; omega
theorem flat2_app (l k : List (Int × Int)) : flat2 (l ++ k) = flat2 l ++ flat2 k := by
  induction l with
  | nil => rfl
  | cons p r ih => simp [flat2, ih]
theorem flat2_even (l : List (Int × Int)) (i : Nat) (h : i < l.length) : (flat2 l)[i * 2]? = some (.int .i64 (l.getD i (0, 0)).1) := by
  induction l generalizing i with
  | nil => simp at h
  | cons p r ih =>
    cases i with
    | zero => simp [flat2]
    | succ i => have := ih i (by simpa using h); rw [show (i + 1) * 2 = i * 2 + 1 + 1 by omega]; simpa [flat2] using this
theorem flat2_odd (l : List (Int × Int)) (i : Nat) (h : i < l.length) : (flat2 l)[i * 2 + 1]? = some (.int .i64 (l.getD i (0, 0)).2) := by
  induction l generalizing i with
  | nil => simp at h
  | cons p r ih =>
    cases i with
    | zero => simp [flat2]
    | succ i => have := ih i (by simpa using h); rw [show (i + 1) * 2 + 1 = i * 2 + 1 + 1 + 1 by omega]; simpa [flat2] using this
theorem flat2_one (l : List (Int × Int)) : ∀ u ∈ flat2 l, u.oneCell' = true := by
  induction l with
  | nil => intro u hu; cases hu
  | cons p r ih =>
    intro u hu
    simp [flat2] at hu
    rcases hu with rfl | rfl | hu
    · rfl
    · rfl
    · exact ih u hu
theorem flat2_cells {w : World} {b o : Nat} {l : List (Int × Int)} (h : insRow w b o l) : ∀ j u, (flat2 l)[j]? = some u → w.cell? ⟨b, o + j, none⟩ = some u := by
  intro j u hu
  have hj : j < (flat2 l).length := by
    rcases Nat.lt_or_ge j (flat2 l).length with h | h
    · exact h
    · rw [List.getElem?_eq_none h] at hu; cases hu
  rw [flat2_len] at hj
  have e := Nat.div_add_mod j 2
  rcases Nat.mod_two_eq_zero_or_one j with hm | hm
  · have hi : j / 2 < l.length := by omega
    have h1 := (h (j / 2) hi).1
    have h2 := flat2_even l (j / 2) hi
    rw [show j / 2 * 2 = j by omega] at h1 h2
    rw [h1, ← h2, hu]
  · have hi : j / 2 < l.length := by omega
    have h1 := (h (j / 2) hi).2
    have h2 := flat2_odd l (j / 2) hi
    rw [show j / 2 * 2 + 1 = j by omega] at h2
    rw [show o + j / 2 * 2 + 1 = o + j by omega] at h1
    rw [h1, ← h2, hu]
/-- A slice of instructions in memory that the call itself made reads as its list. -/
theorem inss_of_owns {w : World} {base e : Nat} {v : Value} {l : List (Int × Int)} (h : w.ownsRow base e 2 v l.length (flat2 l)) (hl : l.length * 16 ≤ 140737488351232) :
    ∃ a n c, v = .slice a n c ∧ Inss w a n c l := by
  rcases h.2 with ⟨rfl, hn⟩ | ⟨g, cap, cur, rfl, hb, hg, hc, _, _, _⟩
  · exact ⟨none, 0, 0, rfl, hn.symm, Nat.le_refl _, by omega, fun _ => ⟨rfl, rfl⟩, fun h => absurd h (by omega)⟩
  · refine ⟨_, _, _, rfl, rfl, hc, hl, fun h => (by cases h), fun hn => ⟨g, 0, rfl, fun i hi => ?_⟩⟩
    have c := fun j (hj : j < l.length * 2) => h.cellAt j hj
    constructor
    · rw [Nat.zero_add, c _ (by omega), flat2_even l i hi]
    · rw [Nat.zero_add, c _ (by omega), flat2_odd l i hi]

theorem owns_kept {w w' : World} {base e size : Nat} {v : Value} {n : Nat} {xs : List Value} (h : w.ownsRow base e size v n xs) (hb : Below w.heap.size w w') : w'.ownsRow base e size v n xs := by
  refine ⟨h.1, ?_⟩
  rcases h.2 with h0 | ⟨g, cap, cur, rfl, hbg, hg, r⟩
  · exact .inl h0
  · refine .inr ⟨g, cap, cur, rfl, hbg, ?_, r⟩
    have hlt : g < w.heap.size := by
      rcases Nat.lt_or_ge g w.heap.size with h | h
      · exact h
      · rw [Array.getElem?_eq_none h] at hg; cases hg
    rw [hb.block g hlt]; exact hg
theorem owns_set {w : World} {base e size : Nat} {v : Value} {n : Nat} {xs : List Value} (h : w.ownsRow base e size v n xs) (p : Addr) (u : Value) (hp : p.block < base) : (w.setCell p u).ownsRow base e size v n xs := by
  refine ⟨h.1, ?_⟩
  rcases h.2 with h0 | ⟨g, cap, cur, rfl, hbg, hg, r⟩
  · exact .inl h0
  · exact .inr ⟨g, cap, cur, rfl, hbg, by rw [Below.heap_setCell _ _ _ _ (by omega)]; exact hg, r⟩
theorem owns_base {w : World} {base base' e size : Nat} {v : Value} {n : Nat} {xs : List Value} (h : w.ownsRow base e size v n xs) (hb : base' ≤ base) : w.ownsRow base' e size v n xs := by
  refine ⟨h.1, ?_⟩
  rcases h.2 with h0 | ⟨g, cap, cur, rfl, hbg, hg, r⟩
  · exact .inl h0
  · exact .inr ⟨g, cap, cur, rfl, by omega, hg, r⟩
/-- Rows of two element types never lie in one block. -/
theorem owns_apart {w : World} {base base' e e' size size' : Nat} {v v' : Value} {n n' : Nat} {xs xs' : List Value} (h : w.ownsRow base e size v n xs) (h' : w.ownsRow base' e' size' v' n' xs') (he : e ≠ e') : v.ownBlock = none ∨ v.ownBlock ≠ v'.ownBlock := by
  rcases h.2 with ⟨rfl, _⟩ | ⟨g, cap, cur, rfl, _, hg, _⟩
  · exact .inl rfl
  · right
    rcases h'.2 with ⟨rfl, _⟩ | ⟨g', cap', cur', rfl, _, hg', _⟩
    · intro k; cases k
    · intro k
      simp [Value.ownBlock] at k
      subst k
      rw [hg] at hg'
      simp at hg'
      exact he hg'.2

/-- The cells of a list of functions, in a row: each with its code's slice. -/
def flat3 : List (Int × Int × Value) → List Value
  | [] => []
  | p :: r => .int .i64 p.1 :: .int .i64 p.2.1 :: p.2.2 :: flat3 r
theorem flat3_len (l : List (Int × Int × Value)) : (flat3 l).length = l.length * 3 := by
  induction l with
  | nil => rfl
  | cons p r ih => simp [flat3, ih]; omega
theorem flat3_app (l k : List (Int × Int × Value)) : flat3 (l ++ k) = flat3 l ++ flat3 k := by
  induction l with
  | nil => rfl
  | cons p r ih => simp [flat3, ih]
theorem flat3_at (l : List (Int × Int × Value)) (i : Nat) (h : i < l.length) (d : Int × Int × Value) :
    (flat3 l)[i * 3]? = some (.int .i64 (l.getD i d).1) ∧ (flat3 l)[i * 3 + 1]? = some (.int .i64 (l.getD i d).2.1) ∧ (flat3 l)[i * 3 + 2]? = some (l.getD i d).2.2 := by
  induction l generalizing i with
  | nil => simp at h
  | cons p r ih =>
    cases i with
    | zero => simp [flat3]
    | succ i =>
      have := ih i (by simpa using h)
      rw [show (i + 1) * 3 = i * 3 + 1 + 1 + 1 by omega, show i * 3 + 1 + 1 + 1 + 1 = (i * 3 + 1) + 1 + 1 + 1 by omega, show i * 3 + 1 + 1 + 1 + 2 = (i * 3 + 2) + 1 + 1 + 1 by omega]
      simpa [flat3] using this
def noT : Int × Int × Value := (0, 0, undef)
/-- A slice of functions in memory that the call itself made (blocks from base on), their codes too; e, f: the types' numbers. -/
def OwnFns (e f : Nat) (w : World) (base : Nat) (v : Value) (l : List Fn) : Prop :=
  ∃ t : List (Int × Int × Value), t.length = l.length ∧ w.ownsRow base f 3 v l.length (flat3 t) ∧
    ∀ i, i < l.length → (t.getD i noT).1 = (l.getD i noFn).1 ∧ (t.getD i noT).2.1 = (l.getD i noFn).2.1 ∧ (l.getD i noFn).2.2.length * 16 ≤ 140737488351232 ∧
      w.ownsRow base e 2 (t.getD i noT).2.2 (l.getD i noFn).2.2.length (flat2 (l.getD i noFn).2.2)
theorem OwnFns.nil (e f : Nat) (w : World) (base : Nat) : OwnFns e f w base (.slice none 0 0) [] :=
  ⟨[], rfl, World.ownsRow_nil _ _ _ _, fun i hi => by simp at hi⟩
theorem OwnFns.kept {e f : Nat} {w w' : World} {base : Nat} {v : Value} {l : List Fn} (h : OwnFns e f w base v l) (hb : Below w.heap.size w w') : OwnFns e f w' base v l := by
  obtain ⟨t, h1, h2, h3⟩ := h
  exact ⟨t, h1, owns_kept h2 hb, fun i hi => ⟨(h3 i hi).1, (h3 i hi).2.1, (h3 i hi).2.2.1, owns_kept (h3 i hi).2.2.2 hb⟩⟩
theorem OwnFns.set {e f : Nat} {w : World} {base : Nat} {v : Value} {l : List Fn} (h : OwnFns e f w base v l) (p : Addr) (u : Value) (hp : p.block < base) : OwnFns e f (w.setCell p u) base v l := by
  obtain ⟨t, h1, h2, h3⟩ := h
  exact ⟨t, h1, owns_set h2 p u hp, fun i hi => ⟨(h3 i hi).1, (h3 i hi).2.1, (h3 i hi).2.2.1, owns_set (h3 i hi).2.2.2 p u hp⟩⟩
theorem OwnFns.reads {e f : Nat} {w : World} {base : Nat} {v : Value} {l : List Fn} (h : OwnFns e f w base v l) (hl : l.length * 40 ≤ 140737488351232) : ∃ a n c, v = .slice a n c ∧ Fns w a n c l := by
  obtain ⟨t, h1, h2, h3⟩ := h
  rcases h2.2 with ⟨rfl, hn⟩ | ⟨g, cap, cur, rfl, hb, hg, hc, _, _, _⟩
  · exact ⟨none, 0, 0, rfl, hn.symm, Nat.le_refl _, by omega, fun _ => ⟨rfl, rfl⟩, fun h => absurd h (by omega)⟩
  · refine ⟨_, _, _, rfl, rfl, hc, hl, fun h => (by cases h), fun hn => ⟨g, 0, rfl, fun i hi => ?_⟩⟩
    have c := fun j (hj : j < l.length * 3) => h2.cellAt j hj
    obtain ⟨e1, e2, e3⟩ := flat3_at t i (by omega) noT
    obtain ⟨k1, k2, k3, k4⟩ := h3 i hi
    obtain ⟨a', n', c', hv, hi'⟩ := inss_of_owns k4 k3
    refine ⟨?_, ?_, a', n', c', ?_, hi'⟩
    · rw [Nat.zero_add, c _ (by omega), e1, k1]
    · rw [Nat.zero_add, c _ (by omega), e2, k2]
    · rw [Nat.zero_add, c _ (by omega), e3, hv]
theorem getD_snoc_lt {α : Type} (l : List α) (x d : α) (i : Nat) (h : i < l.length) : (l ++ [x]).getD i d = l.getD i d := by simp [List.getD_eq_getElem?_getD, List.getElem?_append_left h]
theorem getD_snoc_eq {α : Type} (l : List α) (x d : α) (i : Nat) (h : i = l.length) : (l ++ [x]).getD i d = x := by subst h; simp [List.getD_eq_getElem?_getD]
/-- One function more. -/
theorem OwnFns.snoc {e f : Nat} (hef : e ≠ f) {w5 w6 : World} {base m : Nat} {v v' cv : Value} {l : List Fn} {t : List (Int × Int × Value)} {x y : Int} {code : List (Int × Int)} (hm : l.length = m)
    (h1 : t.length = m) (h2 : w5.ownsRow base f 3 v m (flat3 t))
    (h3 : ∀ i, i < m → (t.getD i noT).1 = (l.getD i noFn).1 ∧ (t.getD i noT).2.1 = (l.getD i noFn).2.1 ∧ (l.getD i noFn).2.2.length * 16 ≤ 140737488351232 ∧ w5.ownsRow base e 2 (t.getD i noT).2.2 (l.getD i noFn).2.2.length (flat2 (l.getD i noFn).2.2))
    (hc : w5.ownsRow base e 2 cv code.length (flat2 code)) (hcl : code.length * 16 ≤ 140737488351232)
    (ha : w6.ownsRow base f 3 v' (m + 1) (flat3 t ++ [.int .i64 x, .int .i64 y, cv])) (hg : w5.grownBy w6 v.ownBlock) :
    OwnFns e f w6 base v' (l ++ [(x, y, code)]) := by
  subst hm
  refine ⟨t ++ [(x, y, cv)], by simp [h1], ?_, fun i hi => ?_⟩
  · rw [flat3_app, List.length_append]; exact ha
  · rw [List.length_append] at hi
    rcases Nat.lt_or_ge i l.length with hlt | hge
    · rw [getD_snoc_lt _ _ _ _ (by omega), getD_snoc_lt _ _ _ _ hlt]
      obtain ⟨k1, k2, k3, k4⟩ := h3 i hlt
      exact ⟨k1, k2, k3, k4.kept hg (owns_apart k4 h2 hef)⟩
    · have hi' : i = l.length := by simp at hi; omega
      rw [getD_snoc_eq _ _ _ _ (by omega), getD_snoc_eq _ _ _ _ hi']
      exact ⟨rfl, rfl, hcl, hc.kept hg (owns_apart hc h2 hef)⟩
theorem take_snoc_getD {α : Type} {l : List α} {q : Nat} {d x : α} (h : q < l.length) (e : l.getD q d = x) : l.take (q + 1) = l.take q ++ [x] := by
  rw [List.take_succ_eq_append_getElem h, ← e]; simp [List.getD_eq_getElem?_getD, h]
theorem cell_set_far {w : World} {p : Addr} {u v : Value} {b o : Nat} (h : w.cell? ⟨b, o, none⟩ = some v) (hb : b ≠ p.block) : (w.setCell p u).cell? ⟨b, o, none⟩ = some v := by
  rw [World.cell?_of_block (w := w) (Below.heap_setCell w p u b hb)]; exact h

/-- What was there is there still; numbers may have turned into other numbers of their kind; nothing was frozen or let go. -/
structure Like (w w' : World) : Prop where
  cell : ∀ b o v, w.cell? ⟨b, o, none⟩ = some v → ∃ v', w'.cell? ⟨b, o, none⟩ = some v' ∧ (v' = v ∨ ∃ k x x', v = .int k x ∧ v' = .int k x')
  frozen : ∀ b o v, w.cell? ⟨b, o, none⟩ = some v → w'.frozen? ⟨b, o, none⟩ = w.frozen? ⟨b, o, none⟩
theorem Like.refl (w : World) : Like w w := ⟨fun _ _ v h => ⟨v, h, .inl rfl⟩, fun _ _ _ _ => rfl⟩
theorem Like.trans {a b c : World} (h : Like a b) (k : Like b c) : Like a c := by
  refine ⟨fun b' o v hv => ?_, fun b' o v hv => ?_⟩
  · obtain ⟨v1, h1, e1⟩ := h.cell b' o v hv
    obtain ⟨v2, h2, e2⟩ := k.cell b' o v1 h1
    refine ⟨v2, h2, ?_⟩
    rcases e1 with rfl | ⟨k1, x1, x1', rfl, rfl⟩
    · exact e2
    · rcases e2 with rfl | ⟨k2, x2, x2', e, rfl⟩
      · exact .inr ⟨_, _, _, rfl, rfl⟩
      · cases e; exact .inr ⟨_, _, _, rfl, rfl⟩
  · obtain ⟨v1, h1, _⟩ := h.cell b' o v hv
    rw [k.frozen b' o v1 h1, h.frozen b' o v hv]
theorem Like.of_below {w w' : World} (hb : Below w.heap.size w w') : Like w w' :=
  ⟨fun _ _ v h => ⟨v, kept_cell hb h, .inl rfl⟩, fun _ _ _ h => hb.frozen (lt_of_cell h)⟩
theorem Like.set {w : World} {b o : Nat} {k : IntKind} {x y : Int} (h : w.cell? ⟨b, o, none⟩ = some (.int k x)) : Like w (w.setCell ⟨b, o, none⟩ (.int k y)) := by
  refine ⟨fun b' o' v hv => ?_, fun b' o' v hv => by simp⟩
  by_cases e : (⟨b, o, none⟩ : Addr) = ⟨b', o', none⟩
  · cases e
    rw [h] at hv
    cases hv
    exact ⟨_, World.cell?_setCell_same _ _ _ h, .inr ⟨_, _, _, rfl, rfl⟩⟩
  · exact ⟨v, by rw [World.cell?_setCell_other _ _ _ _ e]; exact hv, .inl rfl⟩
theorem Like.drew {w w' : World} (h : Like w w') : Like w w'.drew := ⟨h.cell, h.frozen⟩
theorem Like.int {w w' : World} (h : Like w w') {b o : Nat} {k : IntKind} {x : Int} (hc : w.cell? ⟨b, o, none⟩ = some (.int k x)) : ∃ y, w'.cell? ⟨b, o, none⟩ = some (.int k y) := by
  obtain ⟨v, h1, rfl | ⟨_, _, _, e, rfl⟩⟩ := h.cell b o _ hc
  · exact ⟨_, h1⟩
  · cases e; exact ⟨_, h1⟩
theorem Like.slice {w w' : World} (h : Like w w') {b o : Nat} {a : Option Addr} {n c : Nat} (hc : w.cell? ⟨b, o, none⟩ = some (.slice a n c)) : w'.cell? ⟨b, o, none⟩ = some (.slice a n c) := by
  obtain ⟨v, h1, rfl | ⟨_, _, _, e, rfl⟩⟩ := h.cell b o _ hc
  · exact h1
  · cases e

/-- A slice of instructions that may be written over: its cells lie in blocks from base on, not frozen. -/
def SoftInss (w : World) (base : Nat) (a : Option Addr) (n : Nat) : Prop :=
  0 < n → ∃ b o, a = some ⟨b, o, none⟩ ∧ base ≤ b ∧ ∀ i, i < n → ∃ x, w.cell? ⟨b, o + i * 2 + 1, none⟩ = some (.int .i64 x) ∧ w.frozen? ⟨b, o + i * 2 + 1, none⟩ = false
theorem SoftInss.like {w w' : World} {base : Nat} {a : Option Addr} {n : Nat} (h : SoftInss w base a n) (hl : Like w w') : SoftInss w' base a n := by
  intro hn
  obtain ⟨b, o, ha, hb, hr⟩ := h hn
  refine ⟨b, o, ha, hb, fun i hi => ?_⟩
  obtain ⟨x, hx, hf⟩ := hr i hi
  obtain ⟨y, hy⟩ := hl.int hx
  exact ⟨y, hy, (hl.frozen _ _ _ hx).trans hf⟩
theorem soft_of_owns {w : World} {base base' e : Nat} {a : Option Addr} {n c : Nat} {l : List (Int × Int)} (h : w.ownsRow base e 2 (.slice a n c) l.length (flat2 l)) (hb : base' ≤ base) : SoftInss w base' a n := by
  intro hn
  rcases h.2 with ⟨e0, _⟩ | ⟨g, cap, cur, e0, hbg, hg, hc, _, _, _⟩
  · cases e0; omega
  · cases e0
    refine ⟨g, 0, rfl, by omega, fun i hi => ⟨(l.getD i (0, 0)).2, ?_, h.frozenAt _⟩⟩
    rw [Nat.zero_add, h.cellAt _ (by omega), flat2_odd l i hi]
/-- .. and of functions. -/
def SoftFns (w : World) (base : Nat) (a : Option Addr) (n : Nat) : Prop :=
  0 < n → ∃ b o, a = some ⟨b, o, none⟩ ∧ base ≤ b ∧ ∀ i, i < n → ∃ x, w.cell? ⟨b, o + i * 3, none⟩ = some (.int .i64 x) ∧ w.frozen? ⟨b, o + i * 3, none⟩ = false ∧
    ∃ a' n' c', w.cell? ⟨b, o + i * 3 + 2, none⟩ = some (.slice a' n' c') ∧ n' * 16 ≤ 140737488351232 ∧ n' ≤ c' ∧ SoftInss w base a' n'
theorem SoftFns.like {w w' : World} {base : Nat} {a : Option Addr} {n : Nat} (h : SoftFns w base a n) (hl : Like w w') : SoftFns w' base a n := by
  intro hn
  obtain ⟨b, o, ha, hb, hr⟩ := h hn
  refine ⟨b, o, ha, hb, fun i hi => ?_⟩
  obtain ⟨x, hx, hf, a', n', c', h1, h2, h3, h4⟩ := hr i hi
  obtain ⟨y, hy⟩ := hl.int hx
  exact ⟨y, hy, (hl.frozen _ _ _ hx).trans hf, a', n', c', hl.slice h1, h2, h3, h4.like hl⟩
theorem OwnFns.soft {e f : Nat} {w : World} {base base' : Nat} {a : Option Addr} {n c : Nat} {l : List Fn} (h : OwnFns e f w base (.slice a n c) l) (hb : base' ≤ base) : SoftFns w base' a n := by
  intro hn
  obtain ⟨t, h1, h2, h3⟩ := h
  rcases h2.2 with ⟨e0, _⟩ | ⟨g, cap, cur, e0, hbg, hg, hc, _, _, _⟩
  · cases e0; omega
  · cases e0
    refine ⟨g, 0, rfl, by omega, fun i hi => ?_⟩
    obtain ⟨e1, e2, e3⟩ := flat3_at t i (by omega) noT
    obtain ⟨k1, k2, k3, k4⟩ := h3 i hi
    obtain ⟨a', n', c', hv, hi'⟩ := inss_of_owns k4 k3
    refine ⟨(t.getD i noT).1, ?_, h2.frozenAt _, a', n', c', ?_, hi'.room, hi'.cap, ?_⟩
    · rw [Nat.zero_add, h2.cellAt _ (by omega), e1]
    · rw [Nat.zero_add, h2.cellAt _ (by omega), e3, hv]
    · rw [hv] at k4
      exact soft_of_owns k4 hb

end Go.Proofs.YtaimpljkbpnigaaGreatDoor
