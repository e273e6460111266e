/- The program of two functions that many statements begin with; integers, functions in rows of their own. The world gets a letter, whatever it is. Nothing of the program is named here. What lies in a block that is known whole. Nothing of the program is named here. -/
import Derived.Test.YtaimpljkbpnigaaGreatDoorMemFr
import Derived.Test.YtaimpljkbpnigaaGreatDoorJ6b
import Derived.WalkKit
import Derived.Test.YtaimpljkbpnigaaGreatDoorMem
namespace Go.Proofs.YtaimpljkbpnigaaGreatDoor
open Go.RowKit
set_option linter.unusedVariables false

theorem ints_lit (w : World) (l : List Int) (t : TypeId) (hl : l.length * 8 ≤ 140737488351232) : Ints (w.alloc (.cells (ints l).toArray t)) (some ⟨w.heap.size, 0, none⟩) l.length l.length l := by
  have h := World.ownsRow_lit (e := t) (size := 1) (base := 0) w (ints l).toArray l.length (Nat.zero_le _) (by unfold maxLen; omega) (by simp [ints_len])
  obtain ⟨a, n, c, e, hi⟩ := ints_of_owns (l := l) (by simpa using h) hl
  cases e
  exact hi
theorem ints_new {u : World} {H n : Nat} {l : List Int} {cs : Array Value} {t : TypeId} (hH : u.heap.size = H) (hcs : cs = (ints l).toArray) (hn : n = l.length) (hl : l.length * 8 ≤ 140737488351232) : Ints (u.alloc (.cells cs t)) (some ⟨H, 0, none⟩) n n l := by
  subst hH
  subst hcs
  subst hn
  exact ints_lit u l t hl
/-- One function in a row of its own. -/
theorem fns_one {w : World} {a : Option Addr} {n c : Nat} {l : List (Int × Int)} (h : Inss w a n c l) (x y : Int) (t : TypeId) : Fns (w.alloc (.cells #[.int .i64 x, .int .i64 y, .slice a n c] t)) (some ⟨w.heap.size, 0, none⟩) 1 1 [(x, y, l)] := by
  refine ⟨rfl, Nat.le_refl _, by omega, fun e => (by cases e), fun _ => ⟨w.heap.size, 0, rfl, fun i hi => ?_⟩⟩
  have h0 : i = 0 := by simpa using hi
  subst h0
  exact ⟨by simp [go_sem], by simp [go_sem], a, n, c, by simp [go_sem], h.kept (Below.alloc (Below.refl _ _) (Nat.le_refl _) _)⟩

def oneC : List (Int × Int) := [(1, 0), (0, 2), (14, 1), (10, 0), (15, 0), (16, 0)]
def addC : List (Int × Int) := [(1, 0), (1, 1), (3, 0), (16, 0)]
def twoL : List Fn := [(1, 1, oneC), (2, 2, addC)]

end Go.Proofs.YtaimpljkbpnigaaGreatDoor

namespace Go.Proofs.YtaimpljkbpnigaaGreatDoor
open Go.RowKit

theorem wp_name {P : Program} {c : Code} {Q : Exit → Act → World → Prop} {a : Act} {W : World} (k : ∀ Y : World, Y = W → Code.wp P c Q a Y) : Code.wp P c Q a W := k W rfl
theorem qDrew {B : Nat} {u y : World} (h : Below B u y) : Below B u y.drew := Below.drew h
theorem qAlloc {U y : World} {o : Obj} (h : Below U.heap.size U y) : Below U.heap.size U (y.alloc o) := Below.alloc h h.size o
theorem cellFrm {w w' : World} {b o : Nat} (h : w'.heap[b]? = w.heap[b]?) : w'.cell? ⟨b, o, none⟩ = w.cell? ⟨b, o, none⟩ := by simp [World.cell?, h]
theorem freeFrm {w w' : World} {b o : Nat} (h : w'.heap[b]? = w.heap[b]?) : w'.frozen? ⟨b, o, none⟩ = w.frozen? ⟨b, o, none⟩ := by simp [World.frozen?, h]

end Go.Proofs.YtaimpljkbpnigaaGreatDoor

namespace Go.Proofs.YtaimpljkbpnigaaGreatDoor
open Go.RowKit

theorem heap_ltP {w : World} {k : Nat} {o : Obj} (h : w.heap[k]? = some o) : k < w.heap.size := by
  rcases Nat.lt_or_ge k w.heap.size with h1 | h1
  · exact h1
  · rw [Array.getElem?_eq_none h1] at h; cases h
theorem heap_kept {w w' : World} {k : Nat} {o : Obj} (h : w.heap[k]? = some o) (b : Below w.heap.size w w') : w'.heap[k]? = some o := by rw [b.block k (heap_ltP h)]; exact h
theorem cell_of_heap {w : World} {k j : Nat} {c : Array Value} {t : TypeId} {v : Value} (h : w.heap[k]? = some (.cells c t)) (hv : c[j]? = some v) : w.cell? ⟨k, j, none⟩ = some v ∧ w.frozen? ⟨k, j, none⟩ = false := by
  simp [World.cell?, World.frozen?, h, hv]

end Go.Proofs.YtaimpljkbpnigaaGreatDoor
