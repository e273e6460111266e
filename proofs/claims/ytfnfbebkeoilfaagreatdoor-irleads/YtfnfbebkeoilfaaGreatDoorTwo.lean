/- The program of two functions that many statements begin with; integers, functions in rows of their own. -/
import Derived.Test.YtfnfbebkeoilfaaGreatDoorMemFr
import Derived.Test.YtfnfbebkeoilfaaGreatDoorJ6b
namespace Go.Proofs.YtfnfbebkeoilfaaGreatDoor
open Go.RowKit
set_option linter.unusedVariables false

theorem ints_lit (w : World) (l : List Int) (t : TypeId) (hl : l.length * 8 ≤ 140737488351232) : Ints (w.alloc (.cells (ints l).toArray t)) (some ⟨w.heap.size, 0, none⟩) l.length l.length l := by
  have h := World.ownsRow_lit (e := t) (size := 1) (base := 0) w (ints l).toArray l.length (Nat.zero_le _) (by unfold maxLen; omega) (by simp [ints_len])
  obtain ⟨a, n, c, e, hi⟩ := ints_of_owns (l := l) (by simpa using h) hl
  cases e
  exact hi
theorem ints_new {u : World} {H n : Nat} {l : List Int} {cs : Array Value} {t : TypeId} (hH : u.heap.size = H) (hcs : cs = (ints l).toArray) (hn : n = l.length) (hl : l.length * 8 ≤ 140737488351232) : Ints (u.alloc (.cells cs t)) (some ⟨H, 0, none⟩) n n l := by
  subst hH
  subst hcs
  subst hn
  exact ints_lit u l t hl
/-- One function in a row of its own. -/
theorem fns_one {w : World} {a : Option Addr} {n c : Nat} {l : List (Int × Int)} (h : Inss w a n c l) (x y : Int) (t : TypeId) : Fns (w.alloc (.cells #[.int .i64 x, .int .i64 y, .slice a n c] t)) (some ⟨w.heap.size, 0, none⟩) 1 1 [(x, y, l)] := by
  refine ⟨rfl, Nat.le_refl _, by omega, fun e => (by cases e), fun _ => ⟨w.heap.size, 0, rfl, fun i hi => ?_⟩⟩
  have h0 : i = 0 := by simpa using hi
  subst h0
  exact ⟨by simp [go_sem], by simp [go_sem], a, n, c, by simp [go_sem], h.kept (Below.alloc (Below.refl _ _) (Nat.le_refl _) _)⟩

def oneC : List (Int × Int) := [(1, 0), (0, 2), (14, 1), (10, 0), (15, 0), (16, 0)]
def addC : List (Int × Int) := [(1, 0), (1, 1), (3, 0), (16, 0)]
def twoL : List Fn := [(1, 1, oneC), (2, 2, addC)]

end Go.Proofs.YtfnfbebkeoilfaaGreatDoor
