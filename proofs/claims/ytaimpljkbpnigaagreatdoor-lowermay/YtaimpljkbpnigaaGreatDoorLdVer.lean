/- What stands while package verify runs: its library's and package pack's variables hold what their text lays. -/
import Derived.Test.YtaimpljkbpnigaaGreatDoorJ3e
import Derived.Test.YtaimpljkbpnigaaGreatDoorTell
namespace Go.Proofs.YtaimpljkbpnigaaGreatDoor
open Go.RowKit
set_option linter.unusedVariables false

/-- The packages' variables hold what their text lays. -/
def Ld (w : World) : Prop := (∃ a b, Laid a b w.heap.size w) ∧ ErrTy w
theorem Ld.up {w w' : World} (h : Ld w) (hb : Below w.heap.size w w') : Ld w' := by
  obtain ⟨⟨a, b, L⟩, e⟩ := h
  exact ⟨⟨a, b, L.up hb⟩, e.kept hb⟩
theorem putL (a : Option Addr) (n c : Nat) (l : List Fn) (w : World) (h : Fns w a n c l) (L : Ld w) :
    Calls Tryz.prog 83 #[.agg #[.slice a n c]] w fun e w' => e = .returned (.tuple #[.string (putS l), .int .i64 (putE l)]) ∧ Below w.heap.size w w' := by
  obtain ⟨⟨x, y, L⟩, _⟩ := L
  exact put_any a n c l w L h

set_option maxHeartbeats 1000000 in
theorem mayBePacked_any (a : Option Addr) (n c : Nat) (l : List Fn) (w : World) (h : Fns w a n c l) (L : Ld w) :
    Calls Tryz.prog 69 #[.agg #[.slice a n c]] w fun e w' => e = .returned (.bool (packsB l)) ∧ Below w.heap.size w w' := by
  have hA : Below w.heap.size w (w.alloc (.cells #[.slice a n c] 24)) := Below.alloc (Below.refl _ _) (Nat.le_refl _) _
  have H := hid (putL a n c l _ (h.kept hA) (L.up hA))
  have HA := hid hA
  clear h L hA
  cases hp : packsB l
  · have e1 : putE l = 300 := by simp [putE, hp]
    rw [e1] at H
    go_enter Tryz.func69, Tryz.ntmps69
    go_wp2_with (go_at_call 83; refine H.out.mono ?_; rintro e w' ⟨rfl, hb⟩)
    go_ret
    exact ⟨rfl, kt HA.out hb⟩
  · have e1 : putE l = 0 := by simp [putE, hp]
    rw [e1] at H
    go_enter Tryz.func69, Tryz.ntmps69
    go_wp2_with (go_at_call 83; refine H.out.mono ?_; rintro e w' ⟨rfl, hb⟩)
    go_ret
    exact ⟨rfl, kt HA.out hb⟩

end Go.Proofs.YtaimpljkbpnigaaGreatDoor
