/- Register code that a call makes: its cells, its rows. -/
import Derived.Test.YtfnfbebkeoilfaaGreatDoorLaySnoc
import Derived.Test.YtfnfbebkeoilfaaGreatDoorMemIr
import Derived.Test.YtfnfbebkeoilfaaGreatDoorJ6b
namespace Go.Proofs.YtfnfbebkeoilfaaGreatDoor
open Go.RowKit
set_option linter.unusedVariables false

theorem Tryz.infoIr : (Tryz.prog.info? 42).map (fun i => (i.zero, i.size, i.bytes)) = some (some (.agg #[.int .i64 0, .int .i64 0, .int .i64 0, .int .i64 0, .int .i64 0, .slice none 0 0, .int .i64 0, .int .i64 0, .int .i64 0]), 9, 88) := by kernel_rfl
theorem Tryz.infoPart : (Tryz.prog.info? 44).map (fun i => (i.zero, i.size, i.bytes)) = some (some (.agg #[.int .i64 0, .int .i64 0, .slice none 0 0, .slice none 0 0]), 4, 64) := by kernel_rfl
theorem Tryz.infoMeta : (Tryz.prog.info? 47).map (fun i => (i.zero, i.size, i.bytes)) = some (some (.agg #[.slice none 0 0]), 1, 24) := by kernel_rfl
theorem Tryz.infoIntC : (Tryz.prog.info? 3).map (fun i => (i.zero, i.size, i.bytes)) = some (some (.int .i64 0), 1, 8) := by kernel_rfl

/-- Code in a block of its own: its four cells. -/
structure OutC (w : World) (b : Nat) (cf rg : Int) (c m : Value) : Prop where
  c0 : w.cell? ⟨b, 0, none⟩ = some (.int .i64 cf)
  c1 : w.cell? ⟨b, 1, none⟩ = some (.int .i64 rg)
  c2 : w.cell? ⟨b, 2, none⟩ = some c
  c3 : w.cell? ⟨b, 3, none⟩ = some m
  f2 : w.frozen? ⟨b, 2, none⟩ = false
  f3 : w.frozen? ⟨b, 3, none⟩ = false
theorem OutC.kept {w w' : World} {b : Nat} {cf rg : Int} {c m : Value} (h : OutC w b cf rg c m) (hb : Below w.heap.size w w') : OutC w' b cf rg c m :=
  ⟨kept_cell hb h.c0, kept_cell hb h.c1, kept_cell hb h.c2, kept_cell hb h.c3, by rw [hb.frozen (lt_of_cell h.c2)]; exact h.f2, by rw [hb.frozen (lt_of_cell h.c3)]; exact h.f3⟩
theorem OutC.grown {α : Type} {L : Lay α} {T : Nat} {V w5 w6 : World} {B : Nat → Prop} {v : Value} {l : List α} {t : List (List Value)} {F : Nat → Nat → Prop} {b : Nat} {cf rg : Int} {c m : Value} (h : OutC V b cf rg c m) (s : SnocIn L T V B v l t F) (hg : w5.grownBy w6 v.ownBlock) (bl : Below V.heap.size V w5) (hb : ¬ B b) : OutC w6 b cf rg c m :=
  ⟨s.cell hg bl hb h.c0, s.cell hg bl hb h.c1, s.cell hg bl hb h.c2, s.cell hg bl hb h.c3, s.free hg bl hb h.c2 h.f2, s.free hg bl hb h.c3 h.f3⟩
theorem OutC.set2 {w : World} {b : Nat} {cf rg : Int} {c m u : Value} (h : OutC w b cf rg c m) : OutC (w.setCell ⟨b, 2, none⟩ u) b cf rg u m :=
  ⟨by rw [World.cell?_setCell_other _ _ _ _ (by simp)]; exact h.c0, by rw [World.cell?_setCell_other _ _ _ _ (by simp)]; exact h.c1, World.cell?_setCell_same _ _ _ h.c2, by rw [World.cell?_setCell_other _ _ _ _ (by simp)]; exact h.c3, by simp [h.f2], by simp [h.f3]⟩
theorem OutC.set3 {w : World} {b : Nat} {cf rg : Int} {c m u : Value} (h : OutC w b cf rg c m) : OutC (w.setCell ⟨b, 3, none⟩ u) b cf rg c u :=
  ⟨by rw [World.cell?_setCell_other _ _ _ _ (by simp)]; exact h.c0, by rw [World.cell?_setCell_other _ _ _ _ (by simp)]; exact h.c1, by rw [World.cell?_setCell_other _ _ _ _ (by simp)]; exact h.c2, World.cell?_setCell_same _ _ _ h.c3, by simp [h.f2], by simp [h.f3]⟩
theorem OutC.setFar {w : World} {b : Nat} {cf rg : Int} {c m u : Value} {p : Addr} (h : OutC w b cf rg c m) (hp : p.block ≠ b) : OutC (w.setCell p u) b cf rg c m :=
  ⟨cell_set_far h.c0 (Ne.symm hp), cell_set_far h.c1 (Ne.symm hp), cell_set_far h.c2 (Ne.symm hp), cell_set_far h.c3 (Ne.symm hp), by simp [h.f2], by simp [h.f3]⟩
/-- An instruction's cells and its arguments. -/
theorem ir_owns {w : World} {B : Nat → Prop} {kd r ra rb k cost mt ip : Int} {v : Value} {args : List Int} (h : OSl layI 3 8 w B v args) : layIr.owns w B [.int .i64 kd, .int .i64 r, .int .i64 ra, .int .i64 rb, .int .i64 k, v, .int .i64 cost, .int .i64 mt, .int .i64 ip] (kd, r, ra, rb, k, args, cost, mt, ip) := by
  have no : ∀ b : Nat, (fun _ => False : Nat → Prop) b → B b := fun _ h => h.elim
  have step : ∀ {β : Type} {M : Lay β} {x : Int} {cs : List Value} {y : β}, M.owns w B cs y → (layP layI M).owns w B (.int .i64 x :: cs) (x, y) := fun {β M x cs y} hy => ⟨[.int .i64 x], cs, fun _ => False, B, rfl, no, fun _ h => h, fun _ h _ => h, rfl, hy⟩
  refine step (step (step (step (step ?_))))
  refine ⟨[v], [.int .i64 cost, .int .i64 mt, .int .i64 ip], B, fun _ => False, rfl, fun _ h => h, no, fun _ _ h => h, ⟨v, rfl, h⟩, ?_⟩
  exact ⟨[.int .i64 cost], [.int .i64 mt, .int .i64 ip], fun _ => False, fun _ => False, rfl, fun _ h => h, fun _ h => h, fun _ h _ => h, rfl, ⟨[.int .i64 mt], [.int .i64 ip], fun _ => False, fun _ => False, rfl, fun _ h => h, fun _ h => h, fun _ h _ => h, rfl, rfl⟩⟩
/-- A part's cells and its lists. -/
theorem part_owns {w : World} {B1 B2 : Nat → Prop} {f0 x0 : Int} {v u : Value} {ll sl : List SrcT} (h1 : OSl laySrcs 38 16 w B1 v ll) (h2 : OSl laySrcs 38 16 w B2 u sl) (hd : ∀ b, B1 b → B2 b → False) : layPart.owns w (fun b => B1 b ∨ B2 b) [.int .i64 f0, .int .i64 x0, v, u] (f0, x0, ll, sl) := by
  have step : ∀ {B : Nat → Prop} {β : Type} {M : Lay β} {x : Int} {cs : List Value} {y : β}, M.owns w B cs y → (layP layI M).owns w B (.int .i64 x :: cs) (x, y) := fun {B β M x cs y} hy => ⟨[.int .i64 x], cs, fun _ => False, B, rfl, fun _ h => h.elim, fun _ h => h, fun _ h _ => h, rfl, hy⟩
  refine step (step ?_)
  exact ⟨[v], [u], B1, B2, rfl, fun _ h => .inl h, fun _ h => .inr h, hd, ⟨v, rfl, h1⟩, ⟨u, rfl, h2⟩⟩
theorem meta_owns {w : World} {B : Nat → Prop} {v : Value} {parts : List PartT} (h : OSl layPart 44 64 w B v parts) : layMeta.owns w B [v] parts := ⟨v, rfl, h⟩

end Go.Proofs.YtfnfbebkeoilfaaGreatDoor
