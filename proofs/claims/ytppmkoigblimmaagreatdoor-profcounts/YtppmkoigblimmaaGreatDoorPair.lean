/- Two variables in boxes beside two calls: what lies in a new block behind a call, and what a store into such a box leaves as it was. -/
import Derived.Test.YtppmkoigblimmaaGreatDoorJ6b
namespace Go.Proofs.YtppmkoigblimmaaGreatDoor
open Go.RowKit
set_option linter.unusedVariables false

theorem below_new1 {c y : World} {o : Obj} (b : Below (c.alloc o).heap.size (c.alloc o) y) : y.heap[c.heap.size]? = some o := by
  rw [b.block _ (by simp)]; exact heap_alloc_new c o
theorem below_new2 {c y : World} {o o' : Obj} (b : Below ((c.alloc o).alloc o').heap.size ((c.alloc o).alloc o') y) : y.heap[c.heap.size]? = some o ∧ y.heap[c.heap.size + 1]? = some o' := by
  have h := b.mono (show (c.alloc o).heap.size ≤ ((c.alloc o).alloc o').heap.size by simp)
  refine ⟨?_, ?_⟩
  · rw [b.block _ (by simp; omega), (Below.alloc (Below.refl (c.alloc o).heap.size (c.alloc o)) (Nat.le_refl _) o').block _ (by simp)]; exact heap_alloc_new c o
  · have := heap_alloc_new (c.alloc o) o'
    rw [b.block _ (by simp)]
    simpa using this
theorem heap_ltP {w : World} {k : Nat} {o : Obj} (h : w.heap[k]? = some o) : k < w.heap.size := by
  rcases Nat.lt_or_ge k w.heap.size with h1 | h1
  · exact h1
  · rw [Array.getElem?_eq_none h1] at h; cases h
theorem heap_kept {w w' : World} {k : Nat} {o : Obj} (h : w.heap[k]? = some o) (b : Below w.heap.size w w') : w'.heap[k]? = some o := by rw [b.block k (heap_ltP h)]; exact h
theorem cell_of_heap {w : World} {k j : Nat} {c : Array Value} {t : TypeId} {v : Value} (h : w.heap[k]? = some (.cells c t)) (hv : c[j]? = some v) : w.cell? ⟨k, j, none⟩ = some v ∧ w.frozen? ⟨k, j, none⟩ = false := by
  simp [World.cell?, World.frozen?, h, hv]

/-- A row never lies in a block of another type. -/
theorem own_ne {w : World} {base e size n k : Nat} {v : Value} {xs : List Value} {c : Array Value} {t : TypeId} {z : Nat × Nat} (h : w.ownsRow base e size v n xs) (hk : w.heap[k]? = some (.cells c t z)) (ht : t ≠ e) : v.ownBlock ≠ some k := by
  rcases h.2 with ⟨rfl, _⟩ | ⟨g, cap, cur, rfl, _, hg, _⟩
  · intro h; cases h
  · intro h
    have e0 : g = k := Option.some.inj h
    rw [e0, hk] at hg
    simp at hg
    exact ht hg.2.1
theorem OwnFns.frm {e f : Nat} {w w' : World} {base : Nat} {v : Value} {l : List Fn} {S : Nat → Prop} (h : OwnFns e f w base v l) (fr : Frm S w w') (hS : ∀ k, S k → ∃ c t z, w.heap[k]? = some (.cells c t z) ∧ t ≠ e ∧ t ≠ f) : OwnFns e f w' base v l := by
  obtain ⟨t, h1, h2, h3⟩ := h
  refine ⟨t, h1, fr.owns h2 (fun k hk hs => ?_), fun i hi => ⟨(h3 i hi).1, (h3 i hi).2.1, (h3 i hi).2.2.1, fr.owns (h3 i hi).2.2.2 (fun k hk hs => ?_)⟩⟩
  · obtain ⟨c, t', z, hc, _, hf⟩ := hS k hs
    exact own_ne h2 hc hf hk
  · obtain ⟨c, t', z, hc, he, _⟩ := hS k hs
    exact own_ne (h3 i hi).2.2.2 hc he hk
theorem OwnFrs.frm {e f : Nat} {w w' : World} {base : Nat} {v : Value} {l : List Fr} {S : Nat → Prop} (h : OwnFrs e f w base v l) (fr : Frm S w w') (hS : ∀ k, S k → ∃ c t z, w.heap[k]? = some (.cells c t z) ∧ t ≠ e ∧ t ≠ f) : OwnFrs e f w' base v l := by
  obtain ⟨t, h1, h2, h3⟩ := h
  refine ⟨t, h1, fr.owns h2 (fun k hk hs => ?_), fun i hi => ⟨(h3 i hi).1, (h3 i hi).2.1, ⟨(h3 i hi).2.2.1.1, fr.owns (h3 i hi).2.2.1.2 (fun k hk hs => ?_)⟩, (h3 i hi).2.2.2.1, fr.owns (h3 i hi).2.2.2.2 (fun k hk hs => ?_)⟩⟩
  · obtain ⟨c, t', z, hc, _, hf⟩ := hS k hs
    exact own_ne h2 hc hf hk
  · obtain ⟨c, t', z, hc, he, _⟩ := hS k hs
    exact own_ne (h3 i hi).2.2.1.2 hc he hk
  · obtain ⟨c, t', z, hc, he, _⟩ := hS k hs
    exact own_ne (h3 i hi).2.2.2.2 hc he hk
theorem owns_frm_ty {e size n : Nat} {w w' : World} {base : Nat} {v : Value} {xs : List Value} {S : Nat → Prop} (h : w.ownsRow base e size v n xs) (fr : Frm S w w') (hS : ∀ k, S k → ∃ c t z, w.heap[k]? = some (.cells c t z) ∧ t ≠ e) : w'.ownsRow base e size v n xs :=
  fr.owns h (fun k hk hs => by obtain ⟨c, t', z, hc, he⟩ := hS k hs; exact own_ne h hc he hk)

end Go.Proofs.YtppmkoigblimmaaGreatDoor
