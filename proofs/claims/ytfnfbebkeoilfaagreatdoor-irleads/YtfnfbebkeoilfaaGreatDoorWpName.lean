/- The world gets a letter, whatever it is. Nothing of the program is named here. -/
import Derived.WalkKit
namespace Go.Proofs.YtfnfbebkeoilfaaGreatDoor
open Go.RowKit

theorem wp_name {P : Program} {c : Code} {Q : Exit → Act → World → Prop} {a : Act} {W : World} (k : ∀ Y : World, Y = W → Code.wp P c Q a Y) : Code.wp P c Q a W := k W rfl
theorem qDrew {B : Nat} {u y : World} (h : Below B u y) : Below B u y.drew := Below.drew h
theorem qAlloc {U y : World} {o : Obj} (h : Below U.heap.size U y) : Below U.heap.size U (y.alloc o) := Below.alloc h h.size o
theorem cellFrm {w w' : World} {b o : Nat} (h : w'.heap[b]? = w.heap[b]?) : w'.cell? ⟨b, o, none⟩ = w.cell? ⟨b, o, none⟩ := by simp [World.cell?, h]
theorem freeFrm {w w' : World} {b o : Nat} (h : w'.heap[b]? = w.heap[b]?) : w'.frozen? ⟨b, o, none⟩ = w.frozen? ⟨b, o, none⟩ := by simp [World.frozen?, h]

end Go.Proofs.YtfnfbebkeoilfaaGreatDoor
