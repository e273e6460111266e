/- Two variables in boxes beside two calls: what lies in a new block behind a call, and what a store into such a box leaves as it was. 'x, y := CopyProgram(p), CopyState(s)': two calls and two boxes in a drawn order: where all ways meet. -/
import Derived.Test.YtcngmkbgcfhmdaaGreatDoorJ6b
namespace Go.Proofs.YtcngmkbgcfhmdaaGreatDoor
open Go.RowKit
set_option linter.unusedVariables false

theorem below_new1 {c y : World} {o : Obj} (b : Below (c.alloc o).heap.size (c.alloc o) y) : y.heap[c.heap.size]? = some o := by
  rw [b.block _ (by simp)]; exact heap_alloc_new c o
theorem below_new2 {c y : World} {o o' : Obj} (b : Below ((c.alloc o).alloc o').heap.size ((c.alloc o).alloc o') y) : y.heap[c.heap.size]? = some o ∧ y.heap[c.heap.size + 1]? = some o' := by
  have h := b.mono (show (c.alloc o).heap.size ≤ ((c.alloc o).alloc o').heap.size by simp)
  refine ⟨?_, ?_⟩
  · rw [b.block _ (by simp; omega), (Below.alloc (Below.refl (c.alloc o).heap.size (c.alloc o)) (Nat.le_refl _) o').block _ (by simp)]; exact heap_alloc_new c o
  · have := heap_alloc_new (c.alloc o) o'
    rw [b.block _ (by simp)]
    simpa using this
theorem heap_ltP {w : World} {k : Nat} {o : Obj} (h : w.heap[k]? = some o) : k < w.heap.size := by
  rcases Nat.lt_or_ge k w.heap.size with h1 | h1
  · exact h1
  · rw [Array.getElem?_eq_none h1] at h; cases h
theorem heap_kept {w w' : World} {k : Nat} {o : Obj} (h : w.heap[k]? = some o) (b : Below w.heap.size w w') : w'.heap[k]? = some o := by rw [b.block k (heap_ltP h)]; exact h
theorem cell_of_heap {w : World} {k j : Nat} {c : Array Value} {t : TypeId} {v : Value} (h : w.heap[k]? = some (.cells c t)) (hv : c[j]? = some v) : w.cell? ⟨k, j, none⟩ = some v ∧ w.frozen? ⟨k, j, none⟩ = false := by
  simp [World.cell?, World.frozen?, h, hv]

/-- A row never lies in a block of another type. -/
theorem own_ne {w : World} {base e size n k : Nat} {v : Value} {xs : List Value} {c : Array Value} {t : TypeId} {z : Nat × Nat} (h : w.ownsRow base e size v n xs) (hk : w.heap[k]? = some (.cells c t z)) (ht : t ≠ e) : v.ownBlock ≠ some k := by
  rcases h.2 with ⟨rfl, _⟩ | ⟨g, cap, cur, rfl, _, hg, _⟩
  · intro h; cases h
  · intro h
    have e0 : g = k := Option.some.inj h
    rw [e0, hk] at hg
    simp at hg
    exact ht hg.2.1
theorem OwnFns.frm {e f : Nat} {w w' : World} {base : Nat} {v : Value} {l : List Fn} {S : Nat → Prop} (h : OwnFns e f w base v l) (fr : Frm S w w') (hS : ∀ k, S k → ∃ c t z, w.heap[k]? = some (.cells c t z) ∧ t ≠ e ∧ t ≠ f) : OwnFns e f w' base v l := by
  obtain ⟨t, h1, h2, h3⟩ := h
  refine ⟨t, h1, fr.owns h2 (fun k hk hs => ?_), fun i hi => ⟨(h3 i hi).1, (h3 i hi).2.1, (h3 i hi).2.2.1, fr.owns (h3 i hi).2.2.2 (fun k hk hs => ?_)⟩⟩
  · obtain ⟨c, t', z, hc, _, hf⟩ := hS k hs
    exact own_ne h2 hc hf hk
  · obtain ⟨c, t', z, hc, he, _⟩ := hS k hs
    exact own_ne (h3 i hi).2.2.2 hc he hk
theorem OwnFrs.frm {e f : Nat} {w w' : World} {base : Nat} {v : Value} {l : List Fr} {S : Nat → Prop} (h : OwnFrs e f w base v l) (fr : Frm S w w') (hS : ∀ k, S k → ∃ c t z, w.heap[k]? = some (.cells c t z) ∧ t ≠ e ∧ t ≠ f) : OwnFrs e f w' base v l := by
  obtain ⟨t, h1, h2, h3⟩ := h
  refine ⟨t, h1, fr.owns h2 (fun k hk hs => ?_), fun i hi => ⟨(h3 i hi).1, (h3 i hi).2.1, ⟨(h3 i hi).2.2.1.1, fr.owns (h3 i hi).2.2.1.2 (fun k hk hs => ?_)⟩, (h3 i hi).2.2.2.1, fr.owns (h3 i hi).2.2.2.2 (fun k hk hs => ?_)⟩⟩
  · obtain ⟨c, t', z, hc, _, hf⟩ := hS k hs
    exact own_ne h2 hc hf hk
  · obtain ⟨c, t', z, hc, he, _⟩ := hS k hs
    exact own_ne (h3 i hi).2.2.1.2 hc he hk
  · obtain ⟨c, t', z, hc, he, _⟩ := hS k hs
    exact own_ne (h3 i hi).2.2.2.2 hc he hk
theorem owns_frm_ty {e size n : Nat} {w w' : World} {base : Nat} {v : Value} {xs : List Value} {S : Nat → Prop} (h : w.ownsRow base e size v n xs) (fr : Frm S w w') (hS : ∀ k, S k → ∃ c t z, w.heap[k]? = some (.cells c t z) ∧ t ≠ e) : w'.ownsRow base e size v n xs :=
  fr.owns h (fun k hk hs => by obtain ⟨c, t', z, hc, he⟩ := hS k hs; exact own_ne h hc he hk)

end Go.Proofs.YtcngmkbgcfhmdaaGreatDoor

namespace Go.Proofs.YtcngmkbgcfhmdaaGreatDoor
open Go.RowKit
set_option linter.unusedVariables false

theorem pDrew {W w : World} (h : Below W.heap.size W w) : Below W.heap.size W w.drew := Below.drew h
theorem pAlloc {W w : World} {o : Obj} (h : Below W.heap.size W w) : Below W.heap.size W (w.alloc o) := Below.alloc h h.size o
theorem pSet {W w : World} {b o : Nat} {v : Value} (hb : W.heap.size ≤ b) (h : Below W.heap.size W w) : Below W.heap.size W (w.setCell ⟨b, o, none⟩ v) := Below.setCell (p := ⟨b, o, none⟩) h hb v
theorem pNew1 {c y : World} {o : Obj} (b : Below (c.alloc o).drew.heap.size (c.alloc o).drew y) : y.heap[c.heap.size]? = some o := below_new1 (c := c) (o := o) (y := y) (by
  have h : Below (c.alloc o).heap.size (c.alloc o) (c.alloc o).drew := Below.drew (Below.refl _ _)
  exact kt h b)
theorem pNew2 {c y : World} {o o' : Obj} (b : Below ((c.alloc o).alloc o').drew.heap.size ((c.alloc o).alloc o').drew y) : y.heap[c.heap.size]? = some o ∧ y.heap[c.heap.size + 1]? = some o' := below_new2 (c := c) (y := y) (by
  have h : Below ((c.alloc o).alloc o').heap.size ((c.alloc o).alloc o') ((c.alloc o).alloc o').drew := Below.drew (Below.refl _ _)
  exact kt h b)
theorem fAlloc {S : Nat → Prop} {a w : World} {o : Obj} (h : Frm S a w) : Frm S a (w.alloc o) := h.trans (Frm.of_below (S := S) (Below.alloc (Below.refl _ _) (Nat.le_refl _) o)) (fun _ _ k => k)
theorem fSet {S : Nat → Prop} {a w : World} {b o : Nat} {v : Value} (hs : S b) (h : Frm S a w) : Frm S a (w.setCell ⟨b, o, none⟩ v) := h.trans (Frm.set (S := S) (p := ⟨b, o, none⟩) v hs) (fun _ _ k => k)
theorem fDrew {S : Nat → Prop} {a w : World} (h : Frm S a w) : Frm S a w.drew := h.trans (Frm.of_below (S := S) (Below.drew (Below.refl _ _))) (fun _ _ k => k)

/-- The two copies in their boxes. -/
structure PairR (U : World) (l : List Fn) (fs : List Fr) (fu : Int) (os : List Int) (dn vl : Int) (s t : Value) (wx : World) : Prop where
  ex : ∃ bx bz ax nx cx af nf cf oa on oc, s = .pointer (some ⟨bx, 0, none⟩) ∧ t = .pointer (some ⟨bz, 0, none⟩) ∧ wx.cell? ⟨bx, 0, none⟩ = some (.slice ax nx cx) ∧ SX wx bz (.slice af nf cf) fu (.slice oa on oc) dn vl ∧ Fns wx ax nx cx l ∧ Frs wx af nf cf fs ∧ Ints wx oa on oc os
  below : Below U.heap.size U wx
theorem own_far {w : World} {base e size n k t : Nat} {v : Value} {xs : List Value} (h : w.ownsRow base e size v n xs) (hk : k < w.heap.size → ∃ c z, w.heap[k]? = some (.cells c t z)) (ht : t ≠ e) : v.ownBlock ≠ some k := by
  intro hv
  obtain ⟨c, z, hc⟩ := hk (h.lt k hv).2
  exact own_ne h hc ht hv
theorem pair_done {U y1 y2 wx : World} {l : List Fn} {fs : List Fr} {fu : Int} {os : List Int} {dn vl : Int} {kX kY b1 b2 : Nat} {ax af oa : Option Addr} {nx cx nf cf on oc : Nat} (ox : OwnFns 45 66 y1 b1 (.slice ax nx cx) l) (b12 : Below y1.heap.size y1 y2) (hl : l.length * 40 ≤ 140737488351232)
    (of : OwnFrs 3 51 y2 b2 (.slice af nf cf) fs) (hf : fs.length * 64 ≤ 140737488351232) (oo : y2.ownsRow b2 3 1 (.slice oa on oc) os.length (ints os)) (ho : os.length * 8 ≤ 140737488351232)
    (fr : Frm (fun k => k = kX ∨ k = kY) y2 wx) (tX : kX < y2.heap.size → ∃ c z, y2.heap[kX]? = some (.cells c 24 z)) (tY : kY < y2.heap.size → ∃ c z, y2.heap[kY]? = some (.cells c 28 z))
    (cX : wx.cell? ⟨kX, 0, none⟩ = some (.slice ax nx cx)) (sY : SX wx kY (.slice af nf cf) fu (.slice oa on oc) dn vl) (bel : Below U.heap.size U wx) : PairR U l fs fu os dn vl (.pointer (some ⟨kX, 0, none⟩)) (.pointer (some ⟨kY, 0, none⟩)) wx := by
  have far : ∀ {base e size n : Nat} {v : Value} {xs : List Value}, y2.ownsRow base e size v n xs → 24 ≠ e → 28 ≠ e → wx.ownsRow base e size v n xs := fun h h1 h2 => fr.owns h (fun k hk hs => by
    rcases hs with rfl | rfl
    · exact own_far h tX h1 hk
    · exact own_far h tY h2 hk)
  refine ⟨⟨kX, kY, ax, nx, cx, af, nf, cf, oa, on, oc, rfl, rfl, cX, sY, ?_, ?_, ?_⟩, bel⟩
  · obtain ⟨t, h1, h2, h3⟩ := OwnFns.kept ox b12
    have h : OwnFns 45 66 wx b1 (.slice ax nx cx) l := ⟨t, h1, far h2 (by decide) (by decide), fun i hi => ⟨(h3 i hi).1, (h3 i hi).2.1, (h3 i hi).2.2.1, far (h3 i hi).2.2.2 (by decide) (by decide)⟩⟩
    obtain ⟨_, _, _, e, r⟩ := h.reads hl
    cases e
    exact r
  · obtain ⟨t, h1, h2, h3⟩ := of
    have h : OwnFrs 3 51 wx b2 (.slice af nf cf) fs := ⟨t, h1, far h2 (by decide) (by decide), fun i hi => ⟨(h3 i hi).1, (h3 i hi).2.1, ⟨(h3 i hi).2.2.1.1, far (h3 i hi).2.2.1.2 (by decide) (by decide)⟩, (h3 i hi).2.2.2.1, far (h3 i hi).2.2.2.2 (by decide) (by decide)⟩⟩
    obtain ⟨_, _, _, e, r⟩ := h.reads hf
    cases e
    exact r
  · obtain ⟨_, _, _, e, r⟩ := ints_of_owns (far oo (by decide) (by decide)) ho
    cases e
    exact r

end Go.Proofs.YtcngmkbgcfhmdaaGreatDoor
