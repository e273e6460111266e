/- Blocks laid one behind another: what lies in each of them. Nothing of the program is named here. -/
import Derived.Test.YtnmhoahkmampkaaDoorMemInts
namespace Go.Proofs.YtnmhoahkmampkaaDoor
open Go.RowKit
set_option linter.unusedVariables false

def allocs (u : World) : List Obj → World
  | [] => u
  | o :: r => allocs (u.alloc o) r
theorem allocs_below (u : World) (bs : List Obj) : Below u.heap.size u (allocs u bs) := by
  induction bs generalizing u with
  | nil => exact Below.refl _ _
  | cons o r ih => exact kt (Below.alloc (Below.refl _ _) (Nat.le_refl _) o) (ih (u.alloc o))
theorem allocs_size (u : World) (bs : List Obj) : (allocs u bs).heap.size = u.heap.size + bs.length := by
  induction bs generalizing u with
  | nil => rfl
  | cons o r ih => show (allocs (u.alloc o) r).heap.size = _; rw [ih]; simp; omega
theorem allocs_cell (u : World) (bs : List Obj) (i : Nat) (c : Array Value) (t : TypeId) (h : bs[i]? = some (.cells c t)) (o : Nat) (v : Value) (hv : c[o]? = some v) : (allocs u bs).cell? ⟨u.heap.size + i, o, none⟩ = some v := by
  induction bs generalizing u i with
  | nil => simp at h
  | cons b r ih =>
    cases i with
    | zero =>
      have e : b = .cells c t := by simpa using h
      subst e
      refine kept_cell (allocs_below (u.alloc (.cells c t)) r) (b := u.heap.size + 0) ?_
      rw [World.cell?_alloc_at _ _ _ _ (by simp)]; exact hv
    | succ i =>
      have := ih (u.alloc b) i (by simpa using h)
      simp only [World.size_alloc] at this
      rw [show u.heap.size + (i + 1) = u.heap.size + 1 + i by omega]
      exact this
theorem allocs_inss (u : World) (bs : List Obj) (i : Nat) (l : List (Int × Int)) (t : TypeId) (h : bs[i]? = some (.cells (flat2 l).toArray t)) (hl : l.length * 16 ≤ 140737488351232) : Inss (allocs u bs) (some ⟨u.heap.size + i, 0, none⟩) l.length l.length l := by
  refine ⟨rfl, Nat.le_refl _, hl, fun e => (by cases e), fun hn => ⟨u.heap.size + i, 0, rfl, fun j hj => ⟨?_, ?_⟩⟩⟩
  · exact allocs_cell u bs i _ t h _ _ (by rw [Nat.zero_add]; simpa using flat2_even l j hj)
  · exact allocs_cell u bs i _ t h _ _ (by rw [Nat.zero_add]; simpa using flat2_odd l j hj)
theorem wp_world {P : Program} {c : Code} {Q : Exit → Act → World → Prop} {a : Act} {W U : World} (h : U = W) (k : Code.wp P c Q a U) : Code.wp P c Q a W := h ▸ k
/-- Two functions in a row. -/
theorem fns_two {w : World} {g : Nat} {x y x' y' : Int} {a a' : Option Addr} {n c n' c' : Nat} {l l' : List (Int × Int)} (h : Inss w a n c l) (h' : Inss w a' n' c' l') (c0 : w.cell? ⟨g, 0, none⟩ = some (.int .i64 x)) (c1 : w.cell? ⟨g, 1, none⟩ = some (.int .i64 y)) (c2 : w.cell? ⟨g, 2, none⟩ = some (.slice a n c))
    (c3 : w.cell? ⟨g, 3, none⟩ = some (.int .i64 x')) (c4 : w.cell? ⟨g, 4, none⟩ = some (.int .i64 y')) (c5 : w.cell? ⟨g, 5, none⟩ = some (.slice a' n' c')) : Fns w (some ⟨g, 0, none⟩) 2 2 [(x, y, l), (x', y', l')] := by
  refine ⟨rfl, Nat.le_refl _, by omega, fun e => (by cases e), fun _ => ⟨g, 0, rfl, fun i hi => ?_⟩⟩
  rcases (show i = 0 ∨ i = 1 by simp at hi; omega) with rfl | rfl
  · exact ⟨c0, c1, a, n, c, c2, h⟩
  · exact ⟨c3, c4, a', n', c', c5, h'⟩

end Go.Proofs.YtnmhoahkmampkaaDoor
