/- What pack.Put and pack.Get return, wherever the package's variables hold what its text lays. -/
import Derived.Test.YtlknaanheieneaaDoorGet
namespace Go.Proofs.YtlknaanheieneaaDoor
open Go.RowKit
set_option linter.unusedVariables false

/-- The package's variables hold what its text lays. -/
def Ld (w : World) : Prop := ∃ a b, Laid a b w.heap.size w
theorem Ld.up {w w' : World} (h : Ld w) (hb : Below w.heap.size w w') : Ld w' := by
  obtain ⟨a, b, L⟩ := h
  exact ⟨a, b, L.up hb⟩
theorem putL (a : Option Addr) (n c : Nat) (l : List Fn) (w : World) (h : Fns w a n c l) (L : Ld w) :
    Calls Tryd.prog 9 #[.agg #[.slice a n c]] w fun e w' => e = .returned (.tuple #[.string (putS l), .int .i64 (putE l)]) ∧ Below w.heap.size w w' := by
  obtain ⟨x, y, L⟩ := L
  exact put_any a n c l w L h
theorem getL (s : ByteArray) (w : World) (hs : s.size ≤ 140737488351232) (L : Ld w) :
    Calls Tryd.prog 11 #[.string s] w fun e w' => ∃ v err, e = .returned (.tuple #[.agg #[v], .int .i64 err]) ∧ Below w.heap.size w w' ∧
      ((∃ l, isPut s l ∧ err = 0 ∧ OwnFns 43 46 w' w.heap.size v l) ∨ ((∀ l, ¬ isPut s l) ∧ err = 300 ∧ v = .slice none 0 0)) := by
  obtain ⟨x, y, L⟩ := L
  exact get_any s w hs L

end Go.Proofs.YtlknaanheieneaaDoor
