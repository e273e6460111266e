/- One element more, appended to a slice of the call's own, whatever its layout: what append's law leaves, put together. Nothing of the program is named here. -/
import Derived.Test.YtfnfbebkeoilfaaGreatDoorJ9b
import Derived.Test.YtfnfbebkeoilfaaGreatDoorLawInts
namespace Go.Proofs.YtfnfbebkeoilfaaGreatDoor
open Go.RowKit
set_option linter.unusedVariables false
variable {α : Type}

/-- What is known of a row ahead of an append, its blocks all in a set B of blocks that are there. -/
structure SnocIn (L : Lay α) (T : Nat) (V : World) (B : Nat → Prop) (v : Value) (l : List α) (t : List (List Value)) (F : Nat → Nat → Prop) : Prop where
  tl : t.length = l.length
  row : V.ownsRow 0 T L.size v l.length t.flatten
  own : ∀ g, v.ownBlock = some g → (B g ∧ g < V.heap.size) ∧ ∀ i, ¬ F i g
  inn : ∀ i b, F i b → B b ∧ b < V.heap.size
  apart : ∀ i j b, i ≠ j → F i b → F j b → False
  each : ∀ i x, l[i]? = some x → L.owns V (F i) (t.getD i []) x
theorem OSl.snocIn {L : Lay α} {T bytes : Nat} {V : World} {B : Nat → Prop} {v : Value} {l : List α} (h : OSl L T bytes V B v l) : ∃ t F, SnocIn L T V B v l t F := by
  obtain ⟨_, t, F, h1, h2, h4, h5, h6, h3⟩ := h.clip
  exact ⟨t, F, h1, h2, h4, h5, h6, h3⟩
/-- Behind the append: V the world at first, w5 the one ahead of the append (with the new element in a row of its own), w6 behind it. -/
theorem SnocIn.snoc {L : Lay α} {T bytes : Nat} {V w5 w6 : World} {B Bx : Nat → Prop} {v : Value} {l : List α} {t : List (List Value)} {F : Nat → Nat → Prop} {q g' cap' : Nat} {cs : List Value} {y : α} (h : SnocIn L T V B v l t F) (hq : l.length = q) (hr8 : (q + 1) * bytes ≤ 140737488351232)
    (ho : w6.ownsRow 0 T L.size (.slice (some ⟨g', 0, none⟩) (q + 1) cap') (q + 1) (t.flatten ++ cs)) (hg : w5.grownBy w6 v.ownBlock) (hat : v.ownBlock = some g' ∨ g' = w5.heap.size) (bl : Below V.heap.size V w5) (hx : L.owns w5 Bx cs y) (hbx : ∀ b, Bx b → V.heap.size ≤ b) :
    OSl L T bytes w6 (fun b => B b ∨ V.heap.size ≤ b) (.slice (some ⟨g', 0, none⟩) (q + 1) cap') (l ++ [y]) := by
  subst hq
  have hsn := OSl.snoc (L := L) (bytes := bytes) (B := fun b => B b ∧ b < V.heap.size) rfl h.tl (owns_kept h.row bl) h.own h.inn h.apart (fun i x hx => L.frmO (h.each i x hx) (fun b hb hlt => bl.block b hlt)) hx (fun b hb hx => by have := hbx b hx; omega) hr8 ho hg hat
  refine hsn.sub (fun b hb _ => ?_)
  rcases hb with hb | hb | hb
  · exact .inl hb.1
  · exact .inr (hbx b hb)
  · exact .inr (by have := bl.size; omega)
/-- A cell of another block than the row's is as it was. -/
theorem SnocIn.cell {L : Lay α} {T : Nat} {V w5 w6 : World} {B : Nat → Prop} {v u : Value} {l : List α} {t : List (List Value)} {F : Nat → Nat → Prop} (h : SnocIn L T V B v l t F) (hg : w5.grownBy w6 v.ownBlock) (bl : Below V.heap.size V w5) {b j : Nat} (hb : ¬ B b) (hc : V.cell? ⟨b, j, none⟩ = some u) : w6.cell? ⟨b, j, none⟩ = some u :=
  hg.cell (kept_cell bl hc) (fun e => hb (h.own b e.symm).1.1)
theorem SnocIn.free {L : Lay α} {T : Nat} {V w5 w6 : World} {B : Nat → Prop} {v u : Value} {l : List α} {t : List (List Value)} {F : Nat → Nat → Prop} (h : SnocIn L T V B v l t F) (hg : w5.grownBy w6 v.ownBlock) (bl : Below V.heap.size V w5) {b j : Nat} (hb : ¬ B b) (hc : V.cell? ⟨b, j, none⟩ = some u) (hf : V.frozen? ⟨b, j, none⟩ = false) : w6.frozen? ⟨b, j, none⟩ = false :=
  (hg.frozen_far ⟨b, j, none⟩ (by have := bl.size; have := lt_of_cell hc; simp; omega) (fun e => hb (h.own b e.symm).1.1)).trans ((bl.frozen (p := ⟨b, j, none⟩) (lt_of_cell hc)).trans hf)
theorem SnocIn.frm {L : Lay α} {T : Nat} {V w5 w6 : World} {B : Nat → Prop} {v : Value} {l : List α} {t : List (List Value)} {F : Nat → Nat → Prop} (h : SnocIn L T V B v l t F) (hg : w5.grownBy w6 v.ownBlock) (bl : Below V.heap.size V w5) {b : Nat} (hb : ¬ B b) (hl : b < V.heap.size) : w6.heap[b]? = V.heap[b]? :=
  (hg.block b (by have := bl.size; omega) (fun e => hb (h.own b e.symm).1.1)).trans (bl.block b hl)
theorem below_grown {V w5 w6 : World} {rb : Nat} {row : Option Nat} (hg : w5.grownBy w6 row) (bl : Below V.heap.size V w5) (hr : ∀ k, row = some k → rb < k) (hs : rb ≤ V.heap.size) : Below rb V w6 :=
  (bl.mono hs).trans (Below.grown (Below.refl _ _) hg (Nat.le_trans hs bl.size) (fun k hk => Nat.le_of_lt (hr k hk)))

end Go.Proofs.YtfnfbebkeoilfaaGreatDoor
