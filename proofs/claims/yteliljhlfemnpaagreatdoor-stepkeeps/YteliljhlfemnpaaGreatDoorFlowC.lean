/- What Leaders of package flow returns. -/
import Derived.Test.YteliljhlfemnpaaGreatDoorFlowB
import Derived.Deep.OwnRows
namespace Go.Proofs.YteliljhlfemnpaaGreatDoor
open Go.RowKit
set_option linter.unusedVariables false

theorem Tryz.infoBool : (Tryz.prog.info? 4).map (fun i => (i.zero, i.size, i.bytes)) = some (some (.bool false), 1, 1) := by kernel_rfl

/-- n marks, in a row of their own at block g. -/
structure MarkSt (w : World) (g n base : Nat) (bs : List Bool) : Prop where
  len : bs.length = n
  row : w.ownsRow base 4 1 (.slice (some ⟨g, 0, none⟩) n n) n (bools bs)
theorem MarkSt.at {w : World} {g n base : Nat} {bs : List Bool} (h : MarkSt w g n base bs) (i : Nat) (hi : i < n) : w.cell? ⟨g, i, none⟩ = some (.bool (bs.getD i false)) := by
  rw [h.row.cellAt i (by omega), bools_at bs i (by have := h.len; omega)]
theorem MarkSt.free {w : World} {g n base : Nat} {bs : List Bool} (h : MarkSt w g n base bs) (i : Nat) : w.frozen? ⟨g, i, none⟩ = false := h.row.frozenAt i
theorem MarkSt.put {w : World} {g n base : Nat} {bs : List Bool} (h : MarkSt w g n base bs) (i : Nat) : MarkSt (w.setCell ⟨g, i, none⟩ (.bool true)) g n base (bs.set i true) := by
  refine ⟨by simpa using h.len, ?_⟩
  have := (h.row.stored i (.bool true)).1
  rw [bools_set] at this
  exact this
theorem MarkSt.kept {w w' : World} {g n base : Nat} {bs : List Bool} (h : MarkSt w g n base bs) (hb : Below w.heap.size w w') : MarkSt w' g n base bs := ⟨h.len, owns_kept h.row hb⟩
theorem MarkSt.frm {S : Nat → Prop} {w w' : World} {g n base : Nat} {bs : List Bool} (h : MarkSt w g n base bs) (hf : Frm S w w') (hg : ¬ S g) : MarkSt w' g n base bs := ⟨h.len, hf.owns h.row (fun k hk => by cases hk; exact hg)⟩
theorem MarkSt.lt {w : World} {g n base : Nat} {bs : List Bool} (h : MarkSt w g n base bs) : base ≤ g ∧ g < w.heap.size := h.row.lt g rfl
theorem MarkSt.make (w : World) (n base : Nat) (hb : base ≤ w.heap.size) (hn : n ≤ maxLen) : MarkSt (w.alloc (.cells (madeCells #[.bool false] n) 4)) w.heap.size n base (List.replicate n false) := by
  refine ⟨by simp, ?_⟩
  have := World.ownsRow_lit (e := 4) (size := 1) w (madeCells #[.bool false] n) n hb hn (by simp [madeCells])
  rw [toList_madeCells_one, bools_rep] at this
  exact this

/-- The world behind the marks and the cell that holds them. -/
def markW (w : World) (n : Nat) : World := (w.alloc (.cells (madeCells #[.bool false] n) 4)).alloc (.cells #[.slice (some ⟨w.heap.size, 0, none⟩) n n] 127)
theorem markW_below (w : World) (n : Nat) : Below w.heap.size w (markW w n) := Below.alloc (Below.alloc (Below.refl _ _) (Nat.le_refl _) _) (by simp) _
theorem markW_cell (w : World) (n : Nat) : (markW w n).cell? ⟨w.heap.size + 1, 0, none⟩ = some (.slice (some ⟨w.heap.size, 0, none⟩) n n) := by simp [markW, go_sem]
theorem markW_free (w : World) (n : Nat) : (markW w n).frozen? ⟨w.heap.size + 1, 0, none⟩ = false := by simp [markW, go_sem]
theorem markW_size (w : World) (n : Nat) : (markW w n).heap.size = w.heap.size + 2 := by simp [markW]
theorem markW_st (w : World) (n base : Nat) (hb : base ≤ w.heap.size) (hn : n ≤ maxLen) : MarkSt (markW w n) w.heap.size n base (List.replicate n false) :=
  (MarkSt.make w n base hb hn).kept (Below.alloc (Below.refl _ _) (Nat.le_refl _) _)

end Go.Proofs.YteliljhlfemnpaaGreatDoor
