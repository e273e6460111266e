/- What lies in a block that is known whole. Nothing of the program is named here. -/
import Derived.Test.YtfnfbebkeoilfaaGreatDoorMem
namespace Go.Proofs.YtfnfbebkeoilfaaGreatDoor
open Go.RowKit

theorem heap_ltP {w : World} {k : Nat} {o : Obj} (h : w.heap[k]? = some o) : k < w.heap.size := by
  rcases Nat.lt_or_ge k w.heap.size with h1 | h1
  · exact h1
  · rw [Array.getElem?_eq_none h1] at h; cases h
theorem heap_kept {w w' : World} {k : Nat} {o : Obj} (h : w.heap[k]? = some o) (b : Below w.heap.size w w') : w'.heap[k]? = some o := by rw [b.block k (heap_ltP h)]; exact h
theorem cell_of_heap {w : World} {k j : Nat} {c : Array Value} {t : TypeId} {v : Value} (h : w.heap[k]? = some (.cells c t)) (hv : c[j]? = some v) : w.cell? ⟨k, j, none⟩ = some v ∧ w.frozen? ⟨k, j, none⟩ = false := by
  simp [World.cell?, World.frozen?, h, hv]

end Go.Proofs.YtfnfbebkeoilfaaGreatDoor
