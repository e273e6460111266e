/- How data lie: one theory for every type of data that is made of numbers, booleans, structs and slices. Nothing of the program is named here. Data without slices: numbers and truth values side by side. Nothing of the program is named here. One element of a slice that the call itself made: read, and turned in place. Nothing of the program is named here. -/
import Derived.Test.YtaimpljkbpnigaaGreatDoorMemFr
import Derived.Laws.OwnMore
namespace Go.Proofs.YtaimpljkbpnigaaGreatDoor
open Go.RowKit
set_option linter.unusedVariables false

/-- How a type of data lies in memory: its cells from an offset of a block on; what a call made of it, every row of it in a block of its own, no two in one, all in the set B; cells of it that may be written over. -/
structure Lay (α : Type) where
  size : Nat
  reads : World → Nat → Nat → α → Prop
  owns : World → (Nat → Prop) → List Value → α → Prop
  soft : World → Nat → Nat → Nat → Prop
  keptR : ∀ {w w' : World} {b o : Nat} {x : α}, Below w.heap.size w w' → reads w b o x → reads w' b o x
  frmO : ∀ {w w' : World} {B : Nat → Prop} {cs : List Value} {x : α}, owns w B cs x → (∀ b, B b → b < w.heap.size → w'.heap[b]? = w.heap[b]?) → owns w' B cs x
  subO : ∀ {w : World} {B B' : Nat → Prop} {cs : List Value} {x : α}, owns w B cs x → (∀ b, B b → b < w.heap.size → B' b) → owns w B' cs x
  lenO : ∀ {w : World} {B : Nat → Prop} {cs : List Value} {x : α}, owns w B cs x → cs.length = size
  oneO : ∀ {w : World} {B : Nat → Prop} {cs : List Value} {x : α}, owns w B cs x → ∀ u ∈ cs, u.oneCell' = true
  toR : ∀ {w : World} {B : Nat → Prop} {b o : Nat} {cs : List Value} {x : α}, owns w B cs x → (∀ j u, cs[j]? = some u → w.cell? ⟨b, o + j, none⟩ = some u) → reads w b o x
  likeS : ∀ {w w' : World} {base b o : Nat}, Like w w' → soft w base b o → soft w' base b o
  toS : ∀ {w : World} {B : Nat → Prop} {base b o : Nat} {cs : List Value} {x : α}, owns w B cs x → (∀ b, B b → b < w.heap.size → base ≤ b) → (∀ j u, cs[j]? = some u → w.cell? ⟨b, o + j, none⟩ = some u) → (∀ j, w.frozen? ⟨b, o + j, none⟩ = false) → soft w base b o
variable {α β : Type}

/-- A number. -/
def layI : Lay Int where
  size := 1
  reads w b o x := w.cell? ⟨b, o, none⟩ = some (.int .i64 x)
  owns w B cs x := cs = [.int .i64 x]
  soft w base b o := ∃ x, w.cell? ⟨b, o, none⟩ = some (.int .i64 x) ∧ w.frozen? ⟨b, o, none⟩ = false
  keptR hb h := kept_cell hb h
  frmO h _ := h
  subO h _ := h
  lenO h := by rw [h]; rfl
  oneO h := by rw [h]; intro u hu; simp at hu; subst hu; rfl
  toR h k := by have := k 0 _ (by rw [h]; rfl); simpa using this
  likeS hl h := by
    obtain ⟨x, hx, hf⟩ := h
    obtain ⟨y, hy⟩ := hl.int hx
    exact ⟨y, hy, (hl.frozen _ _ _ hx).trans hf⟩
  toS h _ k hf := ⟨_, by have := k 0 _ (by rw [h]; rfl); simpa using this, by simpa using hf 0⟩
/-- A truth value. -/
def layB : Lay Bool where
  size := 1
  reads w b o x := w.cell? ⟨b, o, none⟩ = some (.bool x)
  owns w B cs x := cs = [.bool x]
  soft w base b o := ∃ x, w.cell? ⟨b, o, none⟩ = some (.bool x)
  keptR hb h := kept_cell hb h
  frmO h _ := h
  subO h _ := h
  lenO h := by rw [h]; rfl
  oneO h := by rw [h]; intro u hu; simp at hu; subst hu; rfl
  toR h k := by have := k 0 _ (by rw [h]; rfl); simpa using this
  likeS hl h := by
    obtain ⟨x, hx⟩ := h
    obtain ⟨v, h1, rfl | ⟨_, _, _, e, rfl⟩⟩ := hl.cell _ _ _ hx
    · exact ⟨_, h1⟩
    · cases e
  toS h _ k hf := ⟨_, by have := k 0 _ (by rw [h]; rfl); simpa using this⟩
/-- Two things behind one another. -/
def layP (L : Lay α) (M : Lay β) : Lay (α × β) where
  size := L.size + M.size
  reads w b o p := L.reads w b o p.1 ∧ M.reads w b (o + L.size) p.2
  owns w B cs p := ∃ c d B1 B2, cs = c ++ d ∧ (∀ b, B1 b → B b) ∧ (∀ b, B2 b → B b) ∧ (∀ b, B1 b → B2 b → False) ∧ L.owns w B1 c p.1 ∧ M.owns w B2 d p.2
  soft w base b o := L.soft w base b o ∧ M.soft w base b (o + L.size)
  keptR hb h := ⟨L.keptR hb h.1, M.keptR hb h.2⟩
  frmO h hf := by
    obtain ⟨c, d, B1, B2, rfl, k1, k2, k3, h1, h2⟩ := h
    exact ⟨c, d, B1, B2, rfl, k1, k2, k3, L.frmO h1 (fun b hb hl => hf b (k1 b hb) hl), M.frmO h2 (fun b hb hl => hf b (k2 b hb) hl)⟩
  subO {w B B' cs x} h hs := by
    obtain ⟨c, d, B1, B2, rfl, k1, k2, k3, h1, h2⟩ := h
    exact ⟨c, d, fun b => B1 b ∧ b < w.heap.size, fun b => B2 b ∧ b < w.heap.size, rfl, fun b hb => hs b (k1 b hb.1) hb.2, fun b hb => hs b (k2 b hb.1) hb.2, fun b hb hb' => k3 b hb.1 hb'.1, L.subO h1 (fun b hb hl => ⟨hb, hl⟩), M.subO h2 (fun b hb hl => ⟨hb, hl⟩)⟩
  lenO h := by
    obtain ⟨c, d, B1, B2, rfl, k1, k2, k3, h1, h2⟩ := h
    rw [List.length_append, L.lenO h1, M.lenO h2]
  oneO h := by
    obtain ⟨c, d, B1, B2, rfl, k1, k2, k3, h1, h2⟩ := h
    intro u hu
    rcases List.mem_append.1 hu with hu | hu
    · exact L.oneO h1 u hu
    · exact M.oneO h2 u hu
  toR h k := by
    obtain ⟨c, d, B1, B2, rfl, k1, k2, k3, h1, h2⟩ := h
    refine ⟨L.toR h1 (fun j u hj => k j u ?_), M.toR h2 (fun j u hj => ?_)⟩
    · rw [List.getElem?_append_left (List.getElem?_eq_some_iff.1 hj).1]; exact hj
    · have := k (L.size + j) u (by rw [← L.lenO h1, List.getElem?_append_right (by omega), Nat.add_sub_cancel_left]; exact hj)
      rwa [← Nat.add_assoc] at this
  likeS hl h := ⟨L.likeS hl h.1, M.likeS hl h.2⟩
  toS h hb k hf := by
    obtain ⟨c, d, B1, B2, rfl, k1, k2, k3, h1, h2⟩ := h
    refine ⟨L.toS h1 (fun b hB hl => hb b (k1 b hB) hl) (fun j u hj => k j u ?_) hf, M.toS h2 (fun b hB hl => hb b (k2 b hB) hl) (fun j u hj => ?_) (fun j => ?_)⟩
    · rw [List.getElem?_append_left (List.getElem?_eq_some_iff.1 hj).1]; exact hj
    · have := k (L.size + j) u (by rw [← L.lenO h1, List.getElem?_append_right (by omega), Nat.add_sub_cancel_left]; exact hj)
      rwa [← Nat.add_assoc] at this
    · have := hf (L.size + j)
      rwa [← Nat.add_assoc] at this

/-- The slice (a, n, c) reads as the list l; bytes: an element's. -/
structure Sl (L : Lay α) (bytes : Nat) (w : World) (a : Option Addr) (n c : Nat) (l : List α) : Prop where
  len : n = l.length
  cap : n ≤ c
  room : n * bytes ≤ 140737488351232
  nilc : a = none → n = 0 ∧ c = 0
  row : 0 < n → ∃ b o, a = some ⟨b, o, none⟩ ∧ ∀ i x, l[i]? = some x → L.reads w b (o + i * L.size) x
theorem Sl.kept {L : Lay α} {bytes : Nat} {w w' : World} {a : Option Addr} {n c : Nat} {l : List α} (h : Sl L bytes w a n c l) (hb : Below w.heap.size w w') : Sl L bytes w' a n c l :=
  ⟨h.len, h.cap, h.room, h.nilc, fun hn => by
    obtain ⟨b, o, ha, hr⟩ := h.row hn
    exact ⟨b, o, ha, fun i x hx => L.keptR hb (hr i x hx)⟩⟩
theorem Sl.nil (L : Lay α) (bytes : Nat) (w : World) : Sl L bytes w none 0 0 [] := ⟨rfl, Nat.le_refl _, by omega, fun _ => ⟨rfl, rfl⟩, fun h => absurd h (by omega)⟩
theorem Sl.at {L : Lay α} {bytes : Nat} {w : World} {a : Option Addr} {n c : Nat} {l : List α} (h : Sl L bytes w a n c l) (q : Nat) (hq : q < n) : ∃ b o x, a = some ⟨b, o, none⟩ ∧ l[q]? = some x ∧ L.reads w b (o + q * L.size) x := by
  obtain ⟨b, o, ha, hr⟩ := h.row (by omega)
  have hl : q < l.length := by rw [← h.len]; exact hq
  exact ⟨b, o, l[q], ha, List.getElem?_eq_getElem hl, hr q _ (List.getElem?_eq_getElem hl)⟩
theorem Sl.ints {w : World} {a : Option Addr} {n c : Nat} {l : List Int} (h : Sl layI 8 w a n c l) : Ints w a n c l :=
  ⟨h.len, h.cap, h.room, h.nilc, fun hn => by
    obtain ⟨b, o, ha, hr⟩ := h.row hn
    refine ⟨b, o, ha, fun i hi => ?_⟩
    have hl : i < l.length := by rw [← h.len]; exact hi
    have := hr i l[i] (List.getElem?_eq_getElem hl)
    rw [List.getD_eq_getElem?_getD, List.getElem?_eq_getElem hl]
    simpa [layI] using this⟩
theorem Ints.sl {w : World} {a : Option Addr} {n c : Nat} {l : List Int} (h : Ints w a n c l) : Sl layI 8 w a n c l :=
  ⟨h.len, h.cap, h.room, h.nilc, fun hn => by
    obtain ⟨b, o, ha, hr⟩ := h.row hn
    refine ⟨b, o, ha, fun i x hx => ?_⟩
    have hl := (List.getElem?_eq_some_iff.1 hx).1
    have := hr i (by rw [h.len]; exact hl)
    rw [List.getD_eq_getElem?_getD, hx] at this
    simpa [layI] using this⟩
/-- Rows of equal length behind one another. -/
theorem flat_at {k : Nat} : ∀ {t : List (List Value)}, (∀ c ∈ t, c.length = k) → ∀ i j, i < t.length → j < k → t.flatten[i * k + j]? = (t.getD i [])[j]?
  | [], _, i, j, hi, _ => by simp at hi
  | c :: t, h, 0, j, _, hj => by
    have hc := h c (by simp)
    rw [List.flatten_cons, Nat.zero_mul, Nat.zero_add, List.getElem?_append_left (by omega)]
    rfl
  | c :: t, h, i + 1, j, hi, hj => by
    have hc := h c (by simp)
    rw [List.flatten_cons, List.getElem?_append_right (by rw [hc, Nat.succ_mul]; omega), hc, show (i + 1) * k + j - k = i * k + j by rw [Nat.succ_mul]; omega, flat_at (fun c hc => h c (by simp [hc])) i j (by simpa using hi) hj]
    rfl
/-- A slice that the call itself made, whole, in the set B; T: the number of its elements' type; F: the blocks of each element. -/
def OSl (L : Lay α) (T bytes : Nat) (w : World) (B : Nat → Prop) (v : Value) (l : List α) : Prop :=
  l.length * bytes ≤ 140737488351232 ∧ ∃ (t : List (List Value)) (F : Nat → Nat → Prop), t.length = l.length ∧ w.ownsRow 0 T L.size v l.length t.flatten ∧ (∀ g, v.ownBlock = some g → B g ∧ ∀ i, ¬ F i g) ∧
    (∀ i b, F i b → B b) ∧ (∀ i j b, i ≠ j → F i b → F j b → False) ∧ ∀ i x, l[i]? = some x → L.owns w (F i) (t.getD i []) x
theorem OSl.nil (L : Lay α) (T bytes : Nat) (w : World) (B : Nat → Prop) : OSl L T bytes w B (.slice none 0 0) [] := ⟨by simp, [], fun _ _ => False, rfl, World.ownsRow_nil _ _ _ _, (fun g hg => by cases hg), (fun _ _ h => h.elim), (fun _ _ _ _ h => h.elim), (fun i x hx => by simp at hx)⟩
theorem own_row {w : World} {base e size n b : Nat} {v : Value} {xs : List Value} (h : w.ownsRow base e size v n xs) (hb : v.ownBlock = some b) : base ≤ b ∧ ∃ cur : Array Value, w.heap[b]? = some (.cells cur e (0, 0)) := by
  rcases h.2 with ⟨rfl, _⟩ | ⟨g, cap, cur, rfl, hbg, hg, _⟩
  · cases hb
  · cases hb; exact ⟨hbg, cur, hg⟩
/-- A row whose block stays as it was. -/
theorem row_frm {w w' : World} {base e size n : Nat} {v : Value} {xs : List Value} (h : w.ownsRow base e size v n xs) (hf : ∀ b, v.ownBlock = some b → w'.heap[b]? = w.heap[b]?) : w'.ownsRow base e size v n xs := by
  refine ⟨h.1, ?_⟩
  rcases h.2 with h1 | ⟨g, cap, cur, rfl, hbg, hg, h2⟩
  · exact .inl h1
  · exact .inr ⟨g, cap, cur, rfl, hbg, by rw [hf g rfl]; exact hg, h2⟩
theorem row_base {w : World} {base base' e size n : Nat} {v : Value} {xs : List Value} (h : w.ownsRow base e size v n xs) (hb : ∀ g, v.ownBlock = some g → base' ≤ g) : w.ownsRow base' e size v n xs := by
  refine ⟨h.1, ?_⟩
  rcases h.2 with h1 | ⟨g, cap, cur, rfl, hbg, h2⟩
  · exact .inl h1
  · exact .inr ⟨g, cap, cur, rfl, hb g rfl, h2⟩
theorem rows_len {L : Lay α} {w : World} {F : Nat → Nat → Prop} {t : List (List Value)} {l : List α} (ht : t.length = l.length) (h : ∀ i x, l[i]? = some x → L.owns w (F i) (t.getD i []) x) : ∀ c ∈ t, c.length = L.size := by
  intro c hc
  obtain ⟨i, hi, rfl⟩ := List.mem_iff_getElem.1 hc
  have := L.lenO (h i l[i] (List.getElem?_eq_getElem (by omega)))
  rwa [List.getD_eq_getElem?_getD, List.getElem?_eq_getElem hi] at this
theorem OSl.frm {L : Lay α} {T bytes : Nat} {w w' : World} {B : Nat → Prop} {v : Value} {l : List α} (h : OSl L T bytes w B v l) (hf : ∀ b, B b → b < w.heap.size → w'.heap[b]? = w.heap[b]?) : OSl L T bytes w' B v l := by
  obtain ⟨hl, t, F, h1, h2, h4, h5, h6, h3⟩ := h
  refine ⟨hl, t, F, h1, row_frm h2 (fun b hb => hf b (h4 b hb).1 (h2.lt b hb).2), h4, h5, h6, fun i x hx => L.frmO (h3 i x hx) (fun b hb hlt => hf b (h5 i b hb) hlt)⟩
theorem OSl.sub {L : Lay α} {T bytes : Nat} {w : World} {B B' : Nat → Prop} {v : Value} {l : List α} (h : OSl L T bytes w B v l) (hs : ∀ b, B b → b < w.heap.size → B' b) : OSl L T bytes w B' v l := by
  obtain ⟨hl, t, F, h1, h2, h4, h5, h6, h3⟩ := h
  exact ⟨hl, t, fun i b => F i b ∧ b < w.heap.size, h1, h2, fun g hg => ⟨hs g (h4 g hg).1 (h2.lt g hg).2, fun i hi => (h4 g hg).2 i hi.1⟩, fun i b hb => hs b (h5 i b hb.1) hb.2, fun i j b hij hb hb' => h6 i j b hij hb.1 hb'.1, fun i x hx => L.subO (h3 i x hx) (fun b hb hlt => ⟨hb, hlt⟩)⟩
theorem OSl.kept {L : Lay α} {T bytes : Nat} {w w' : World} {B : Nat → Prop} {v : Value} {l : List α} (h : OSl L T bytes w B v l) (hb : Below w.heap.size w w') : OSl L T bytes w' B v l :=
  h.frm (fun b _ hlt => hb.block b hlt)
/-- In the blocks that are there. -/
theorem OSl.clip {L : Lay α} {T bytes : Nat} {w : World} {B : Nat → Prop} {v : Value} {l : List α} (h : OSl L T bytes w B v l) : OSl L T bytes w (fun b => B b ∧ b < w.heap.size) v l := h.sub (fun b hb hlt => ⟨hb, hlt⟩)
theorem OSl.set {L : Lay α} {T bytes : Nat} {w : World} {B : Nat → Prop} {v : Value} {l : List α} (h : OSl L T bytes w B v l) (p : Addr) (u : Value) (hp : ¬ B p.block) : OSl L T bytes (w.setCell p u) B v l :=
  h.frm (fun b hb _ => Below.heap_setCell w p u b (fun e => hp (e ▸ hb)))
theorem OSl.cells {L : Lay α} {T : Nat} {w : World} {g cap : Nat} {F : Nat → Nat → Prop} {t : List (List Value)} {l : List α} (ht : t.length = l.length) (h2 : w.ownsRow 0 T L.size (.slice (some ⟨g, 0, none⟩) l.length cap) l.length t.flatten) (h3 : ∀ i x, l[i]? = some x → L.owns w (F i) (t.getD i []) x)
    (i : Nat) (x : α) (hx : l[i]? = some x) : ∀ j u, (t.getD i [])[j]? = some u → w.cell? ⟨g, 0 + i * L.size + j, none⟩ = some u := by
  intro j u hj
  have hi := (List.getElem?_eq_some_iff.1 hx).1
  have hjl : j < L.size := by have := L.lenO (h3 i x hx); have := (List.getElem?_eq_some_iff.1 hj).1; omega
  have hb : i * L.size + j < l.length * L.size := by
    have : (i + 1) * L.size ≤ l.length * L.size := Nat.mul_le_mul_right _ hi
    rw [Nat.succ_mul] at this
    omega
  rw [Nat.zero_add, h2.cellAt _ hb, flat_at (rows_len ht h3) i j (by omega) hjl, hj]
theorem OSl.reads {L : Lay α} {T bytes : Nat} {w : World} {B : Nat → Prop} {v : Value} {l : List α} (h : OSl L T bytes w B v l) : ∃ a n c, v = .slice a n c ∧ Sl L bytes w a n c l := by
  obtain ⟨hl, t, F, h1, h2, h4, h5, h6, h3⟩ := h
  rcases h2.2 with ⟨rfl, hn⟩ | ⟨g, cap, cur, rfl, hb, hg, hc, _, _, _⟩
  · exact ⟨none, 0, 0, rfl, hn.symm, Nat.le_refl _, by omega, fun _ => ⟨rfl, rfl⟩, fun h => absurd h (by omega)⟩
  · exact ⟨_, _, _, rfl, rfl, hc, hl, fun h => (by cases h), fun hn => ⟨g, 0, rfl, fun i x hx => L.toR (h3 i x hx) (OSl.cells h1 h2 h3 i x hx)⟩⟩
/-- One element more, appended: Bx its blocks. -/
theorem OSl.snoc {L : Lay α} {T bytes : Nat} {w5 w6 : World} {m g' cap' : Nat} {B Bx : Nat → Prop} {v : Value} {l : List α} {t : List (List Value)} {F : Nat → Nat → Prop} {x : α} {cs : List Value} (hm : l.length = m) (h1 : t.length = m) (h2 : w5.ownsRow 0 T L.size v m t.flatten)
    (h4 : ∀ g, v.ownBlock = some g → B g ∧ ∀ i, ¬ F i g) (h5 : ∀ i b, F i b → B b) (h6 : ∀ i j b, i ≠ j → F i b → F j b → False) (h3 : ∀ i x, l[i]? = some x → L.owns w5 (F i) (t.getD i []) x) (hx : L.owns w5 Bx cs x) (hd : ∀ b, B b → Bx b → False) (hl : (m + 1) * bytes ≤ 140737488351232)
    (ha : w6.ownsRow 0 T L.size (.slice (some ⟨g', 0, none⟩) (m + 1) cap') (m + 1) (t.flatten ++ cs)) (hg : w5.grownBy w6 v.ownBlock) (hat : v.ownBlock = some g' ∨ g' = w5.heap.size) : OSl L T bytes w6 (fun b => B b ∨ Bx b ∨ b = w5.heap.size) (.slice (some ⟨g', 0, none⟩) (m + 1) cap') (l ++ [x]) := by
  subst hm
  have hx' := L.subO hx (B' := fun b => Bx b ∧ b < w5.heap.size) (fun b hb hlt => ⟨hb, hlt⟩)
  have hfx : L.owns w6 (fun b => Bx b ∧ b < w5.heap.size) cs x := L.frmO hx' (fun b hb hlt => hg.block b hlt (fun e => hd b (h4 b e.symm).1 hb.1))
  have hF : ∀ i x, l[i]? = some x → L.owns w6 (fun b => F i b ∧ b < w5.heap.size) (t.getD i []) x := fun i x hx =>
    L.frmO (L.subO (h3 i x hx) (B' := fun b => F i b ∧ b < w5.heap.size) (fun b hb hlt => ⟨hb, hlt⟩)) (fun b hb hlt => hg.block b hlt (fun e => (h4 b e.symm).2 i hb.1))
  refine ⟨by simpa using hl, t ++ [cs], fun i b => if i < l.length then F i b ∧ b < w5.heap.size else (i = l.length ∧ Bx b ∧ b < w5.heap.size), by simp [h1], ?_, fun g hgg => ?_, fun i b hb => ?_, fun i j b hij hb hb' => ?_, fun i y hy => ?_⟩
  · rw [List.flatten_append, List.length_append]
    simpa using ha
  · have e : g' = g := Option.some.inj hgg
    subst e
    refine ⟨?_, fun i hi => ?_⟩
    · rcases hat with e | e
      · exact .inl (h4 g' e).1
      · exact .inr (.inr e)
    · by_cases hlt : i < l.length
      · simp only [if_pos hlt] at hi
        rcases hat with e | e
        · exact (h4 g' e).2 i hi.1
        · omega
      · simp only [if_neg hlt] at hi
        rcases hat with e | e
        · exact hd g' (h4 g' e).1 hi.2.1
        · omega
  · by_cases hlt : i < l.length
    · simp only [if_pos hlt] at hb
      exact .inl (h5 i b hb.1)
    · simp only [if_neg hlt] at hb
      exact .inr (.inl hb.2.1)
  · by_cases hi : i < l.length <;> by_cases hj : j < l.length
    · simp only [if_pos hi] at hb; simp only [if_pos hj] at hb'
      exact h6 i j b hij hb.1 hb'.1
    · simp only [if_pos hi] at hb; simp only [if_neg hj] at hb'
      exact hd b (h5 i b hb.1) hb'.2.1
    · simp only [if_neg hi] at hb; simp only [if_pos hj] at hb'
      exact hd b (h5 j b hb'.1) hb.2.1
    · simp only [if_neg hi] at hb; simp only [if_neg hj] at hb'
      omega
  · rcases Nat.lt_or_ge i l.length with hlt | hge
    · rw [getD_snoc_lt t _ _ _ (by omega)]
      rw [List.getElem?_append_left hlt] at hy
      simp only [if_pos hlt]
      exact hF i y hy
    · rw [List.getElem?_append_right hge] at hy
      have hi : i - l.length = 0 := by
        have := (List.getElem?_eq_some_iff.1 hy).1
        simpa using this
      rw [hi] at hy
      cases hy
      have hil : i = l.length := by omega
      subst hil
      rw [getD_snoc_eq t _ _ _ (by omega)]
      simp only [Nat.lt_irrefl, if_false, true_and]
      exact hfx
/-- One element's rows have turned, in their own blocks. -/
theorem OSl.turn {L : Lay α} {T bytes : Nat} {w w' : World} {B : Nat → Prop} {v : Value} {l : List α} {t : List (List Value)} {F : Nat → Nat → Prop} {i : Nat} {x' : α} (hl : l.length * bytes ≤ 140737488351232) (h1 : t.length = l.length) (h2 : w.ownsRow 0 T L.size v l.length t.flatten)
    (h4 : ∀ g, v.ownBlock = some g → B g ∧ ∀ i, ¬ F i g) (h5 : ∀ i b, F i b → B b) (h6 : ∀ i j b, i ≠ j → F i b → F j b → False) (h3 : ∀ i x, l[i]? = some x → L.owns w (F i) (t.getD i []) x)
    (hw : ∀ b, b < w.heap.size → ¬ F i b → w'.heap[b]? = w.heap[b]?) (hx : L.owns w' (F i) (t.getD i []) x') : OSl L T bytes w' B v (l.set i x') := by
  refine ⟨by simpa using hl, t, F, by simpa using h1, ?_, h4, h5, h6, fun j y hy => ?_⟩
  · rw [List.length_set]
    exact row_frm h2 (fun b hb => hw b (h2.lt b hb).2 ((h4 b hb).2 i))
  · rw [List.getElem?_set] at hy
    by_cases e : i = j
    · subst e
      rw [if_pos rfl] at hy
      split at hy
      · cases hy; exact hx
      · cases hy
    · rw [if_neg e] at hy
      exact L.frmO (h3 j y hy) (fun b hb hlt => hw b hlt (fun hi => h6 i j b e hi hb))
/-- One element's own cells have turned, in the row: its rows are as they were, or others of the set Bx. -/
theorem OSl.put {L : Lay α} {T bytes g cap : Nat} {w w' : World} {B Bx : Nat → Prop} {l : List α} {t : List (List Value)} {F : Nat → Nat → Prop} {i : Nat} {x' : α} {cs : List Value} (hl : l.length * bytes ≤ 140737488351232) (h1 : t.length = l.length)
    (h4 : B g ∧ ∀ i, ¬ F i g) (h5 : ∀ i b, F i b → B b) (h6 : ∀ i j b, i ≠ j → F i b → F j b → False) (h3 : ∀ j x, l[j]? = some x → L.owns w (F j) (t.getD j []) x)
    (h2 : w'.ownsRow 0 T L.size (.slice (some ⟨g, 0, none⟩) l.length cap) l.length (t.set i cs).flatten) (hw : ∀ b, b < w.heap.size → b ≠ g → w'.heap[b]? = w.heap[b]?) (hx : L.owns w' Bx cs x') (hi : i < l.length)
    (hBx : ∀ b, Bx b → B b ∧ b ≠ g) (hd : ∀ j b, j ≠ i → F j b → Bx b → False) : OSl L T bytes w' B (.slice (some ⟨g, 0, none⟩) l.length cap) (l.set i x') := by
  refine ⟨by simpa using hl, t.set i cs, fun j b => if j = i then Bx b else F j b, by simpa using h1, by rw [List.length_set]; exact h2, fun g' hg => ?_, fun j b hb => ?_, fun j k b hjk hb hb' => ?_, fun j y hy => ?_⟩
  · have e : g = g' := Option.some.inj hg
    subst e
    refine ⟨h4.1, fun j hj => ?_⟩
    by_cases e : j = i
    · simp only [if_pos e] at hj; exact (hBx g hj).2 rfl
    · simp only [if_neg e] at hj; exact h4.2 j hj
  · by_cases e : j = i
    · simp only [if_pos e] at hb; exact (hBx b hb).1
    · simp only [if_neg e] at hb; exact h5 j b hb
  · by_cases e : j = i <;> by_cases e' : k = i
    · omega
    · simp only [if_pos e] at hb; simp only [if_neg e'] at hb'; exact hd k b e' hb' hb
    · simp only [if_neg e] at hb; simp only [if_pos e'] at hb'; exact hd j b e hb hb'
    · simp only [if_neg e] at hb; simp only [if_neg e'] at hb'; exact h6 j k b hjk hb hb'
  · rw [List.getElem?_set] at hy
    by_cases e : i = j
    · subst e
      rw [if_pos rfl, if_pos hi] at hy
      cases hy
      simp only [if_true]
      have : (t.set i cs).getD i [] = cs := by rw [List.getD_eq_getElem?_getD, List.getElem?_set_self (by omega)]; rfl
      rw [this]; exact hx
    · rw [if_neg e] at hy
      have e' : ¬ j = i := fun h => e h.symm
      simp only [if_neg e']
      have : (t.set i cs).getD j [] = t.getD j [] := by rw [List.getD_eq_getElem?_getD, List.getElem?_set_ne e, ← List.getD_eq_getElem?_getD]
      rw [this]
      exact L.frmO (h3 j y hy) (fun b hb hlt => hw b hlt (fun hg => h4.2 j (hg ▸ hb)))
/-- .. that may be written over. -/
def SSl (L : Lay α) (w : World) (base : Nat) (a : Option Addr) (n : Nat) : Prop := 0 < n → ∃ b o, a = some ⟨b, o, none⟩ ∧ base ≤ b ∧ ∀ i, i < n → L.soft w base b (o + i * L.size)
theorem SSl.like {L : Lay α} {w w' : World} {base : Nat} {a : Option Addr} {n : Nat} (h : SSl L w base a n) (hl : Like w w') : SSl L w' base a n := fun hn => by
  obtain ⟨b, o, ha, hb, hr⟩ := h hn
  exact ⟨b, o, ha, hb, fun i hi => L.likeS hl (hr i hi)⟩
theorem OSl.soft {L : Lay α} {T bytes : Nat} {w : World} {B : Nat → Prop} {base : Nat} {a : Option Addr} {n c : Nat} {l : List α} (h : OSl L T bytes w B (.slice a n c) l) (hb : ∀ b, B b → b < w.heap.size → base ≤ b) : SSl L w base a n := by
  intro hn
  obtain ⟨hl, t, F, h1, h2, h4, h5, h6, h3⟩ := h
  rcases h2.2 with ⟨e0, _⟩ | ⟨g, cap, cur, e0, hbg, hg, hc, _, _, _⟩
  · cases e0; omega
  · cases e0
    refine ⟨g, 0, rfl, hb g (h4 g rfl).1 (h2.lt g rfl).2, fun i hi => ?_⟩
    have hx : l[i]? = some l[i] := List.getElem?_eq_getElem hi
    exact L.toS (h3 i _ hx) (fun b hB hlt => hb b (h5 i b hB) hlt) (OSl.cells h1 h2 h3 i _ hx) (fun j => h2.frozenAt _)
/-- A slice. -/
def layS (T bytes : Nat) (L : Lay α) : Lay (List α) where
  size := 1
  reads w b o l := ∃ a n c, w.cell? ⟨b, o, none⟩ = some (.slice a n c) ∧ Sl L bytes w a n c l
  owns w B cs l := ∃ v, cs = [v] ∧ OSl L T bytes w B v l
  soft w base b o := ∃ a n c, w.cell? ⟨b, o, none⟩ = some (.slice a n c) ∧ n * bytes ≤ 140737488351232 ∧ n ≤ c ∧ SSl L w base a n
  keptR hb h := by
    obtain ⟨a, n, c, h1, h2⟩ := h
    exact ⟨a, n, c, kept_cell hb h1, h2.kept hb⟩
  frmO h hf := by
    obtain ⟨v, rfl, h1⟩ := h
    exact ⟨v, rfl, h1.frm hf⟩
  subO h hs := by
    obtain ⟨v, rfl, h1⟩ := h
    exact ⟨v, rfl, h1.sub hs⟩
  lenO h := by
    obtain ⟨v, rfl, h1⟩ := h
    rfl
  oneO h := by
    obtain ⟨v, rfl, h1⟩ := h
    obtain ⟨a, n, c, rfl, _⟩ := h1.reads
    intro u hu
    simp at hu
    subst hu
    rfl
  toR h k := by
    obtain ⟨v, rfl, h1⟩ := h
    obtain ⟨a, n, c, rfl, h2⟩ := h1.reads
    exact ⟨a, n, c, by have := k 0 _ rfl; simpa using this, h2⟩
  likeS hl h := by
    obtain ⟨a, n, c, h1, h2, h3, h4⟩ := h
    exact ⟨a, n, c, hl.slice h1, h2, h3, h4.like hl⟩
  toS h hb k hf := by
    obtain ⟨v, rfl, h1⟩ := h
    obtain ⟨a, n, c, rfl, h2⟩ := h1.reads
    exact ⟨a, n, c, by have := k 0 _ rfl; simpa using this, h2.room, h2.cap, h1.soft hb⟩

end Go.Proofs.YtaimpljkbpnigaaGreatDoor

namespace Go.Proofs.YtaimpljkbpnigaaGreatDoor
open Go.RowKit
set_option linter.unusedVariables false
variable {α β : Type}

/-- The cells of such data are known from the data alone. -/
structure Flat (L : Lay α) (cells : α → List Value) : Prop where
  owns : ∀ (w : World) (B : Nat → Prop) (x : α), L.owns w B (cells x) x
  only : ∀ {w : World} {B : Nat → Prop} {cs : List Value} {x : α}, L.owns w B cs x → cs = cells x
  len : ∀ x : α, (cells x).length = L.size
  one1 : ∀ x : α, ∀ u ∈ cells x, u.oneCell' = true
  at_ : ∀ {w : World} {b o : Nat} {x : α}, L.reads w b o x → ∀ j u, (cells x)[j]? = some u → w.cell? ⟨b, o + j, none⟩ = some u
theorem flatI : Flat layI (fun x => [.int .i64 x]) := ⟨fun _ _ _ => rfl, fun h => h, fun _ => rfl, fun x u hu => by simp at hu; subst hu; rfl, fun {w b o x} h j u hu => by
  have h' : w.cell? ⟨b, o, none⟩ = some (.int .i64 x) := h
  cases j with
  | zero => simp at hu; subst hu; simpa using h'
  | succ j => simp at hu⟩
theorem flatB : Flat layB (fun x => [.bool x]) := ⟨fun _ _ _ => rfl, fun h => h, fun _ => rfl, fun x u hu => by simp at hu; subst hu; rfl, fun {w b o x} h j u hu => by
  have h' : w.cell? ⟨b, o, none⟩ = some (.bool x) := h
  cases j with
  | zero => simp at hu; subst hu; simpa using h'
  | succ j => simp at hu⟩
theorem flatP {L : Lay α} {M : Lay β} {c : α → List Value} {d : β → List Value} (h : Flat L c) (k : Flat M d) : Flat (layP L M) (fun p => c p.1 ++ d p.2) :=
  ⟨fun w B x => ⟨_, _, fun _ => False, fun _ => False, rfl, fun _ h => h.elim, fun _ h => h.elim, fun _ h _ => h.elim, h.owns _ _ _, k.owns _ _ _⟩, fun hx => by
    obtain ⟨a, b, _, _, rfl, _, _, _, h1, h2⟩ := hx
    rw [h.only h1, k.only h2], fun p => by rw [List.length_append, h.len, k.len]; rfl, fun p u hu => by
    rcases List.mem_append.1 hu with hu | hu
    · exact h.one1 _ u hu
    · exact k.one1 _ u hu, fun {w b o x} hx j u hu => by
    rcases Nat.lt_or_ge j (c _).length with hlt | hge
    · rw [List.getElem?_append_left hlt] at hu
      exact h.at_ hx.1 j u hu
    · rw [List.getElem?_append_right hge] at hu
      have := k.at_ hx.2 _ u hu
      rw [h.len] at this hge
      rwa [show o + L.size + (j - L.size) = o + j by omega] at this⟩
/-- All cells of a list. -/
def cellsOf (cells : α → List Value) (l : List α) : List Value := (l.map cells).flatten
theorem cellsOf_app (cells : α → List Value) (l k : List α) : cellsOf cells (l ++ k) = cellsOf cells l ++ cellsOf cells k := by simp [cellsOf]
theorem cellsOf_one (cells : α → List Value) (x : α) : cellsOf cells [x] = cells x := by simp [cellsOf]
theorem Flat.lenOf {L : Lay α} {cells : α → List Value} (h : Flat L cells) (l : List α) : (cellsOf cells l).length = l.length * L.size := by
  induction l with
  | nil => simp [cellsOf]
  | cons x l ih =>
    rw [show x :: l = [x] ++ l from rfl, cellsOf_app, List.length_append, cellsOf_one, h.len, ih, List.length_append, Nat.add_mul]
    simp
theorem Flat.rows {L : Lay α} {cells : α → List Value} (h : Flat L cells) (l : List α) : ∀ c ∈ l.map cells, c.length = L.size := by
  intro c hc
  obtain ⟨x, _, rfl⟩ := List.mem_map.1 hc
  exact h.len x
theorem Flat.one {L : Lay α} {cells : α → List Value} (h : Flat L cells) (l : List α) : ∀ u ∈ cellsOf cells l, u.oneCell' = true := by
  intro u hu
  obtain ⟨c, hc, hu'⟩ := List.mem_flatten.1 hu
  obtain ⟨x, _, rfl⟩ := List.mem_map.1 hc
  exact h.one1 x u hu'
theorem Flat.osl {L : Lay α} {cells : α → List Value} (h : Flat L cells) {T bytes base : Nat} {w : World} {B : Nat → Prop} {v : Value} {l : List α} (hl : l.length * bytes ≤ 140737488351232) (ho : w.ownsRow base T L.size v l.length (cellsOf cells l)) (hB : ∀ g, v.ownBlock = some g → B g) : OSl L T bytes w B v l :=
  ⟨hl, l.map cells, fun _ _ => False, by simp, row_base ho (fun _ _ => Nat.zero_le _), (fun g hg => ⟨hB g hg, fun _ k => k⟩), (fun _ _ k => k.elim), (fun _ _ _ _ k => k.elim), (fun i x hx => by
    have : (l.map cells).getD i [] = cells x := by rw [List.getD_eq_getElem?_getD, List.getElem?_map, hx]; rfl
    rw [this]; exact h.owns _ _ _)⟩
theorem Flat.row {L : Lay α} {cells : α → List Value} (h : Flat L cells) {T bytes : Nat} {w : World} {B : Nat → Prop} {v : Value} {l : List α} (ho : OSl L T bytes w B v l) : w.ownsRow 0 T L.size v l.length (cellsOf cells l) ∧ ∀ g, v.ownBlock = some g → B g := by
  obtain ⟨hl, t, F, h1, h2, h4, h5, h6, h3⟩ := ho
  have : t = l.map cells := by
    refine List.ext_getElem (by simp [h1]) (fun i hi hi' => ?_)
    have hil : i < l.length := by omega
    have := h.only (h3 i l[i] (List.getElem?_eq_getElem hil))
    rw [List.getD_eq_getElem?_getD, List.getElem?_eq_getElem hi] at this
    simpa using this
  rw [cellsOf, ← this]
  exact ⟨h2, fun g hg => (h4 g hg).1⟩
/-- What lies at the cells of a slice. -/
theorem Flat.cells {L : Lay α} {cells : α → List Value} (h : Flat L cells) (hs : 0 < L.size) {w : World} {b o : Nat} {l : List α} (hr : ∀ i x, l[i]? = some x → L.reads w b (o + i * L.size) x) : ∀ j u, (cellsOf cells l)[j]? = some u → w.cell? ⟨b, o + j, none⟩ = some u := by
  intro j u hu
  have hj : j < l.length * L.size := by rw [← h.lenOf]; exact (List.getElem?_eq_some_iff.1 hu).1
  have hi : j / L.size < l.length := Nat.div_lt_of_lt_mul (by rw [Nat.mul_comm]; exact hj)
  have hr' : j % L.size < L.size := Nat.mod_lt _ hs
  have hd : j / L.size * L.size + j % L.size = j := by rw [Nat.mul_comm]; exact Nat.div_add_mod j L.size
  have hf := flat_at (h.rows l) (j / L.size) (j % L.size) (by simpa using hi) hr'
  rw [hd] at hf
  have hx : l[j / L.size]? = some l[j / L.size] := List.getElem?_eq_getElem hi
  have hg : (l.map cells).getD (j / L.size) [] = cells l[j / L.size] := by rw [List.getD_eq_getElem?_getD, List.getElem?_map, hx]; rfl
  rw [hg] at hf
  have hu' : (cells l[j / L.size])[j % L.size]? = some u := by rw [← hf]; exact hu
  have := h.at_ (hr _ _ hx) _ u hu'
  rwa [show o + j / L.size * L.size + j % L.size = o + j by omega] at this
theorem take_step' {l k : List α} {q : Nat} {x : α} (hl : l[q]? = some x) (hk : k[q]? = some x) (h : l.take q = k.take q) : l.take (q + 1) = k.take (q + 1) := by
  rw [List.take_add_one, List.take_add_one, h, hl, hk]
theorem ne_at' {l k : List α} {q : Nat} {x y : α} (hl : l[q]? = some x) (hk : k[q]? = some y) (e : ¬ x = y) : ¬ l = k := fun h => by
  subst h
  rw [hl] at hk
  exact e (Option.some.inj hk)
theorem SoftInts.ssl {w : World} {base : Nat} {a : Option Addr} {n : Nat} (h : SoftInts w base a n) : SSl layI w base a n := fun hn => by
  obtain ⟨b, o, ha, hb, hr⟩ := h hn
  refine ⟨b, o, ha, hb, fun i hi => ?_⟩
  obtain ⟨x, h1, h2⟩ := hr i hi
  exact ⟨x, by simpa [layI] using h1, by simpa [layI] using h2⟩
theorem SSl.softi {w : World} {base : Nat} {a : Option Addr} {n : Nat} (h : SSl layI w base a n) : SoftInts w base a n := fun hn => by
  obtain ⟨b, o, ha, hb, hr⟩ := h hn
  refine ⟨b, o, ha, hb, fun i hi => ?_⟩
  obtain ⟨x, h1, h2⟩ := hr i hi
  exact ⟨x, by simpa [layI] using h1, by simpa [layI] using h2⟩
/-- A row of numbers of one's own, both ways. -/
theorem flatInts : cellsOf (fun x : Int => [Value.int .i64 x]) = ints := by
  funext l
  induction l with
  | nil => rfl
  | cons x l ih => rw [show x :: l = [x] ++ l from rfl, cellsOf_app, cellsOf_one, ih]; rfl
theorem OSl.row1 {T : Nat} {w : World} {B : Nat → Prop} {v : Value} {l : List Int} (h : OSl layI T 8 w B v l) : l.length * 8 ≤ 140737488351232 ∧ w.ownsRow 0 T 1 v l.length (ints l) ∧ ∀ g, v.ownBlock = some g → B g := ⟨h.1, by have := (flatI.row h).1; rwa [flatInts] at this, (flatI.row h).2⟩
theorem osl_ints {T base : Nat} {w : World} {B : Nat → Prop} {v : Value} {l : List Int} (hl : l.length * 8 ≤ 140737488351232) (h : w.ownsRow base T 1 v l.length (ints l)) (hB : ∀ g, v.ownBlock = some g → B g) : OSl layI T 8 w B v l := flatI.osl (base := base) hl (by rw [flatInts]; exact h) hB

end Go.Proofs.YtaimpljkbpnigaaGreatDoor

namespace Go.Proofs.YtaimpljkbpnigaaGreatDoor
open Go.RowKit
set_option linter.unusedVariables false
variable {α β : Type}

theorem flat_set {k : Nat} : ∀ {t : List (List Value)}, (∀ c ∈ t, c.length = k) → ∀ i j u, i < t.length → j < k → t.flatten.set (i * k + j) u = (t.set i ((t.getD i []).set j u)).flatten
  | [], _, i, j, u, hi, _ => by simp at hi
  | c :: t, h, 0, j, u, _, hj => by
    have hc := h c (by simp)
    rw [List.flatten_cons, Nat.zero_mul, Nat.zero_add, List.set_append_left _ _ (by omega)]
    rfl
  | c :: t, h, i + 1, j, u, hi, hj => by
    have hc := h c (by simp)
    rw [List.flatten_cons, List.set_append_right _ _ (by rw [hc, Nat.succ_mul]; omega), hc, show (i + 1) * k + j - k = i * k + j by rw [Nat.succ_mul]; omega, flat_set (fun c hc => h c (by simp [hc])) i j u (by simpa using hi) hj]
    rfl
theorem OSl.elem {L : Lay α} {T bytes : Nat} {w : World} {B : Nat → Prop} {v : Value} {l : List α} (h : OSl L T bytes w B v l) (k : Nat) (x : α) (hk : l[k]? = some x) :
    ∃ g cap cs Bk, v = .slice (some ⟨g, 0, none⟩) l.length cap ∧ l.length ≤ cap ∧ B g ∧ g < w.heap.size ∧ (∀ j u, cs[j]? = some u → w.cell? ⟨g, k * L.size + j, none⟩ = some u) ∧ (∀ j, w.frozen? ⟨g, j, none⟩ = false) ∧ L.owns w Bk cs x ∧ (∀ b, Bk b → B b ∧ b ≠ g) ∧
      (∀ w' x', (∀ b, b < w.heap.size → ¬ Bk b → w'.heap[b]? = w.heap[b]?) → L.owns w' Bk cs x' → OSl L T bytes w' B v (l.set k x')) ∧
      (∀ j u x', j < L.size → L.owns w Bk (cs.set j u) x' → OSl L T bytes (w.setCell ⟨g, k * L.size + j, none⟩ u) B v (l.set k x')) := by
  obtain ⟨hl, t, F, h1, h2, h4, h5, h6, h3⟩ := h
  have hkl := (List.getElem?_eq_some_iff.1 hk).1
  rcases h2.2 with ⟨rfl, hn⟩ | ⟨g, cap, cur, rfl, hb, hg, hc, hm, hcs, htk⟩
  · omega
  · refine ⟨g, cap, t.getD k [], F k, rfl, hc, (h4 g rfl).1, (h2.lt g rfl).2, ?_, fun j => h2.frozenAt j, h3 k x hk, fun b hb' => ⟨h5 k b hb', fun e => (h4 g rfl).2 k (e ▸ hb')⟩, ?_, ?_⟩
    · intro j u hj
      have := OSl.cells h1 h2 h3 k x hk j u hj
      rwa [Nat.zero_add] at this
    · intro w' x' hf ho
      exact OSl.turn hl h1 h2 h4 h5 h6 h3 hf ho
    · intro j u x' hj ho
      have hs := (h2.stored (k * L.size + j) u).1
      rw [flat_set (rows_len h1 h3) k j u (by omega) hj] at hs
      exact OSl.put (w := w) hl h1 (h4 g rfl) h5 h6 h3 hs (fun b _ hn => Below.heap_setCell _ _ _ b hn) (L.frmO ho (fun b hb' _ => Below.heap_setCell _ _ _ b (fun e => by have e' : b = g := e; subst e'; exact (h4 b rfl).2 k hb'))) hkl (fun b hb' => ⟨h5 k b hb', fun e => (h4 g rfl).2 k (e ▸ hb')⟩) (fun j' b hne hb' hb2 => h6 j' k b hne hb' hb2)

theorem getElem?_set_self' {l : List α} {k : Nat} {x y : α} (h : l[k]? = some x) : (l.set k y)[k]? = some y := by
  rw [List.getElem?_set_self (List.getElem?_eq_some_iff.1 h).1]
theorem set_set' (l : List α) (k : Nat) (x y : α) : (l.set k x).set k y = l.set k y := by rw [List.set_set]

end Go.Proofs.YtaimpljkbpnigaaGreatDoor
