/- What Reached of package flow returns. -/
import Derived.Test.YteliljhlfemnpaaGreatDoorFlowC
namespace Go.Proofs.YteliljhlfemnpaaGreatDoor
open Go.RowKit
set_option linter.unusedVariables false

/-- The work list in the cell at block W, its row among the blocks from H on. -/
structure WorkSt (w : World) (W H : Nat) (ws : List Int) (v : Value) : Prop where
  cell : w.cell? ⟨W, 0, none⟩ = some v
  free : w.frozen? ⟨W, 0, none⟩ = false
  row : w.ownsRow H 3 1 v ws.length (ints ws)

set_option maxHeartbeats 2000000 in
theorem reach_any (x R W H g n base : Nat) (bs : List Bool) (ws : List Int) (v : Value) (w : World) (hR : w.cell? ⟨R, 0, none⟩ = some (.slice (some ⟨g, 0, none⟩) n n)) (hn : n ≤ 64) (hx : x < n) (ms : MarkSt w g n base bs) (wk : WorkSt w W H ws v) (hl : ws.length ≤ 100)
    (hgW : g ≠ W) (hRg : R ≠ g) (hRW : R ≠ W) (hgH : g < H) (hWH : W < H) (hH : H ≤ w.heap.size) :
    Calls Tryz.prog 114 #[.int .i64 x, .pointer (some ⟨R, 0, none⟩), .pointer (some ⟨W, 0, none⟩)] w fun e w' => e = .returned (.tuple #[]) ∧ ∃ v', MarkSt w' g n base (rch (bs, ws) x).1 ∧ WorkSt w' W H (rch (bs, ws) x).2 v' ∧
      Frm (fun k => k = g ∨ k = W ∨ v.ownBlock = some k) w w' ∧ (v'.ownBlock = v.ownBlock ∨ ∃ g', v'.ownBlock = some g' ∧ w.heap.size ≤ g') := by
  obtain ⟨i0, hi, hz0, hz1, hz2⟩ := info_parts Tryz.infoInt
  obtain ⟨va, vn, vc, rfl, HI⟩ := ints_of_owns wk.row (by omega)
  have c1 := ms.at x hx
  cases hb : bs.getD x false
  rotate_left
  · rw [hb] at c1
    rw [show rch (bs, ws) (x : Int) = (bs, ws) by unfold rch; rw [if_pos (by simpa using hb)]]
    go_enter Tryz.func114, Tryz.ntmps114
    go_wp2_with fail
    go_end0
    exact ⟨rfl, _, ms, wk, Frm.refl _ _, .inl rfl⟩
  · rw [hb] at c1
    have f1 := ms.free x
    have e1 : rch (bs, ws) (x : Int) = (bs.set x true, ws ++ [(x : Int)]) := by unfold rch; rw [if_neg (by simpa using hb)]; simp
    rw [e1]
    have hW := wk.cell
    have hWl := lt_of_cell hW
    have hf := wk.free
    have fr1 : Frm (fun k => k = g) w ((w.setCell ⟨g, x, none⟩ (.bool true)).alloc (.cells #[.int .i64 x] 3)) :=
      (Frm.set (S := fun k => k = g) (.bool true) rfl).trans (Frm.of_below (S := fun k => k = g) (Below.alloc (Below.refl _ _) (Nat.le_refl _) _)) (fun _ _ h => h)
    have hne : ∀ k, (Value.slice va vn vc).ownBlock = some k → H ≤ k ∧ k < w.heap.size := wk.row.lt
    have HO : Hid (((w.setCell ⟨g, x, none⟩ (.bool true)).alloc (.cells #[.int .i64 x] 3)).ownsRow H 3 1 (.slice va vn vc) ws.length (ints ws)) := hid (fr1.owns wk.row (fun k hk => by have := hne k hk; omega))
    have hnews := World.news_of_block (heap_alloc_new (w.setCell ⟨g, x, none⟩ (.bool true)) (.cells #[.int .i64 x] 3))
    simp only [World.size_setCell] at hnews
    have HN : Hid (some W ≠ (Value.slice va vn vc).ownBlock ∧ some g ≠ (Value.slice va vn vc).ownBlock) := hid ⟨fun h => by have := hne _ h.symm; omega, fun h => by have := hne _ h.symm; omega⟩
    have J := hid (And.intro (fr1.cell hW (by omega)) (fr1.free hW hf (by omega)))
    have M := hid ((ms.put x).kept (Below.alloc (Below.refl _ _) (Nat.le_refl _) (.cells #[.int .i64 x] 3)))
    have G0 := hid (And.intro hl hH)
    have NE := hid hne
    have FR := hid fr1
    clear hne fr1 ms wk e1 HI hb
    go_enter Tryz.func114, Tryz.ntmps114
    go_wp2_with (first | (at_builtin; go_must ((refine wpList_append_lies _ rfl _ _ 26 rfl H 3 i0 (.int .i64 0) 1 8 Tryz.underlying26 hi hz0 hz1 hz2 rfl (by decide) (.slice va vn vc) ws.length (ints ws) rfl HO.out ⟨w.heap.size, 0, none⟩ 1 1 [.int .i64 x] rfl rfl hnews (by intro u hu; simp at hu; subst hu; rfl) (by decide) (by unfold maxLen; have := G0.out.1; omega) (by have := G0.out.1; omega) (by simp; have := G0.out.2; omega) (w.heap.size + 1) (by simp) ?_; intro g' cap w6 ho6 hg6 hat hlt6; have q2 := hg6.cell J.out.1 HN.out.1; have qf2 := (hg6.frozen_far ⟨W, 0, none⟩ (lt_of_cell J.out.1) HN.out.1).trans J.out.2; have P := hid (And.intro ho6 (And.intro hg6 hat)); clear ho6 hg6 hat hlt6))))
    go_end0
    obtain ⟨p1, p2, p3⟩ := P.out
    refine ⟨rfl, _, ⟨M.out.len, ?_⟩, ⟨World.cell?_setCell_same _ _ _ q2, by simp [qf2], ints_snoc (owns_set p1 _ _ hWH)⟩, ?_, ?_⟩
    · exact (Frm.set (S := fun k => k = W) (w := w6) (p := ⟨W, 0, none⟩) _ rfl).owns (M.out.row.kept p2 (.inr HN.out.2)) (fun k hk => by cases hk; exact hgW)
    · refine ((Frm.trans (S := fun k => k = g ∨ k = W ∨ (Value.slice va vn vc).ownBlock = some k) ⟨FR.out.os, FR.out.tape, FR.out.output, FR.out.size, fun k hk hn => FR.out.block k hk (fun e => hn (.inl e))⟩ (Frm.of_grown (S := fun k => (Value.slice va vn vc).ownBlock = some k) p2 (fun k hk => hk)) (fun _ _ h => .inr (.inr h)))).trans (Frm.set (S := fun k => k = W) (p := ⟨W, 0, none⟩) _ rfl) (fun _ _ h => .inr (.inl h))
    · rcases p3 with h | h
      · exact .inl (by rw [h]; rfl)
      · exact .inr ⟨g', rfl, by omega⟩

end Go.Proofs.YteliljhlfemnpaaGreatDoor
