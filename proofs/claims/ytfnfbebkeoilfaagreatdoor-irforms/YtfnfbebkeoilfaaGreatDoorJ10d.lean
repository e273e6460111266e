/- One element more, appended to a slice of the call's own, whatever its layout: what append's law leaves, put together. Nothing of the program is named here. Register code that a call makes: its cells, its rows. CopyCode of package swagelaw0. Written by copycodegen.py. SameIr, sameParts, SameCode: of two that read alike. -/
import Derived.Test.YtfnfbebkeoilfaaGreatDoorJ9b
import Derived.Test.YtfnfbebkeoilfaaGreatDoorLawInts
import Derived.Test.YtfnfbebkeoilfaaGreatDoorJ10h
import Derived.Test.YtfnfbebkeoilfaaGreatDoorJ6b
import Derived.Test.YtfnfbebkeoilfaaGreatDoorHeapBits
import Derived.Test.YtfnfbebkeoilfaaGreatDoorFlatSrcs
import Derived.Test.YtfnfbebkeoilfaaGreatDoorWpName
import Derived.Deep.DeepCutAuto
import Derived.Lib.QuietBelow
namespace Go.Proofs.YtfnfbebkeoilfaaGreatDoor
open Go.RowKit
set_option linter.unusedVariables false
variable {α : Type}

/-- What is known of a row ahead of an append, its blocks all in a set B of blocks that are there. -/
structure SnocIn (L : Lay α) (T : Nat) (V : World) (B : Nat → Prop) (v : Value) (l : List α) (t : List (List Value)) (F : Nat → Nat → Prop) : Prop where
  tl : t.length = l.length
  row : V.ownsRow 0 T L.size v l.length t.flatten
  own : ∀ g, v.ownBlock = some g → (B g ∧ g < V.heap.size) ∧ ∀ i, ¬ F i g
  inn : ∀ i b, F i b → B b ∧ b < V.heap.size
  apart : ∀ i j b, i ≠ j → F i b → F j b → False
  each : ∀ i x, l[i]? = some x → L.owns V (F i) (t.getD i []) x
theorem OSl.snocIn {L : Lay α} {T bytes : Nat} {V : World} {B : Nat → Prop} {v : Value} {l : List α} (h : OSl L T bytes V B v l) : ∃ t F, SnocIn L T V B v l t F := by
  obtain ⟨_, t, F, h1, h2, h4, h5, h6, h3⟩ := h.clip
  exact ⟨t, F, h1, h2, h4, h5, h6, h3⟩
/-- Behind the append: V the world at first, w5 the one ahead of the append (with the new element in a row of its own), w6 behind it. -/
theorem SnocIn.snoc {L : Lay α} {T bytes : Nat} {V w5 w6 : World} {B Bx : Nat → Prop} {v : Value} {l : List α} {t : List (List Value)} {F : Nat → Nat → Prop} {q g' cap' : Nat} {cs : List Value} {y : α} (h : SnocIn L T V B v l t F) (hq : l.length = q) (hr8 : (q + 1) * bytes ≤ 140737488351232)
    (ho : w6.ownsRow 0 T L.size (.slice (some ⟨g', 0, none⟩) (q + 1) cap') (q + 1) (t.flatten ++ cs)) (hg : w5.grownBy w6 v.ownBlock) (hat : v.ownBlock = some g' ∨ g' = w5.heap.size) (bl : Below V.heap.size V w5) (hx : L.owns w5 Bx cs y) (hbx : ∀ b, Bx b → V.heap.size ≤ b) :
    OSl L T bytes w6 (fun b => B b ∨ V.heap.size ≤ b) (.slice (some ⟨g', 0, none⟩) (q + 1) cap') (l ++ [y]) := by
  subst hq
  have hsn := OSl.snoc (L := L) (bytes := bytes) (B := fun b => B b ∧ b < V.heap.size) rfl h.tl (owns_kept h.row bl) h.own h.inn h.apart (fun i x hx => L.frmO (h.each i x hx) (fun b hb hlt => bl.block b hlt)) hx (fun b hb hx => by have := hbx b hx; omega) hr8 ho hg hat
  refine hsn.sub (fun b hb _ => ?_)
  rcases hb with hb | hb | hb
  · exact .inl hb.1
  · exact .inr (hbx b hb)
  · exact .inr (by have := bl.size; omega)
/-- A cell of another block than the row's is as it was. -/
theorem SnocIn.cell {L : Lay α} {T : Nat} {V w5 w6 : World} {B : Nat → Prop} {v u : Value} {l : List α} {t : List (List Value)} {F : Nat → Nat → Prop} (h : SnocIn L T V B v l t F) (hg : w5.grownBy w6 v.ownBlock) (bl : Below V.heap.size V w5) {b j : Nat} (hb : ¬ B b) (hc : V.cell? ⟨b, j, none⟩ = some u) : w6.cell? ⟨b, j, none⟩ = some u :=
  hg.cell (kept_cell bl hc) (fun e => hb (h.own b e.symm).1.1)
theorem SnocIn.free {L : Lay α} {T : Nat} {V w5 w6 : World} {B : Nat → Prop} {v u : Value} {l : List α} {t : List (List Value)} {F : Nat → Nat → Prop} (h : SnocIn L T V B v l t F) (hg : w5.grownBy w6 v.ownBlock) (bl : Below V.heap.size V w5) {b j : Nat} (hb : ¬ B b) (hc : V.cell? ⟨b, j, none⟩ = some u) (hf : V.frozen? ⟨b, j, none⟩ = false) : w6.frozen? ⟨b, j, none⟩ = false :=
  (hg.frozen_far ⟨b, j, none⟩ (by have := bl.size; have := lt_of_cell hc; simp; omega) (fun e => hb (h.own b e.symm).1.1)).trans ((bl.frozen (p := ⟨b, j, none⟩) (lt_of_cell hc)).trans hf)
theorem SnocIn.frm {L : Lay α} {T : Nat} {V w5 w6 : World} {B : Nat → Prop} {v : Value} {l : List α} {t : List (List Value)} {F : Nat → Nat → Prop} (h : SnocIn L T V B v l t F) (hg : w5.grownBy w6 v.ownBlock) (bl : Below V.heap.size V w5) {b : Nat} (hb : ¬ B b) (hl : b < V.heap.size) : w6.heap[b]? = V.heap[b]? :=
  (hg.block b (by have := bl.size; omega) (fun e => hb (h.own b e.symm).1.1)).trans (bl.block b hl)
theorem below_grown {V w5 w6 : World} {rb : Nat} {row : Option Nat} (hg : w5.grownBy w6 row) (bl : Below V.heap.size V w5) (hr : ∀ k, row = some k → rb < k) (hs : rb ≤ V.heap.size) : Below rb V w6 :=
  (bl.mono hs).trans (Below.grown (Below.refl _ _) hg (Nat.le_trans hs bl.size) (fun k hk => Nat.le_of_lt (hr k hk)))

end Go.Proofs.YtfnfbebkeoilfaaGreatDoor

namespace Go.Proofs.YtfnfbebkeoilfaaGreatDoor
open Go.RowKit
set_option linter.unusedVariables false

theorem Tryz.infoIr : (Tryz.prog.info? 42).map (fun i => (i.zero, i.size, i.bytes)) = some (some (.agg #[.int .i64 0, .int .i64 0, .int .i64 0, .int .i64 0, .int .i64 0, .slice none 0 0, .int .i64 0, .int .i64 0, .int .i64 0]), 9, 88) := by kernel_rfl
theorem Tryz.infoPart : (Tryz.prog.info? 44).map (fun i => (i.zero, i.size, i.bytes)) = some (some (.agg #[.int .i64 0, .int .i64 0, .slice none 0 0, .slice none 0 0]), 4, 64) := by kernel_rfl
theorem Tryz.infoMeta : (Tryz.prog.info? 47).map (fun i => (i.zero, i.size, i.bytes)) = some (some (.agg #[.slice none 0 0]), 1, 24) := by kernel_rfl
theorem Tryz.infoIntC : (Tryz.prog.info? 3).map (fun i => (i.zero, i.size, i.bytes)) = some (some (.int .i64 0), 1, 8) := by kernel_rfl

/-- Code in a block of its own: its four cells. -/
structure OutC (w : World) (b : Nat) (cf rg : Int) (c m : Value) : Prop where
  c0 : w.cell? ⟨b, 0, none⟩ = some (.int .i64 cf)
  c1 : w.cell? ⟨b, 1, none⟩ = some (.int .i64 rg)
  c2 : w.cell? ⟨b, 2, none⟩ = some c
  c3 : w.cell? ⟨b, 3, none⟩ = some m
  f2 : w.frozen? ⟨b, 2, none⟩ = false
  f3 : w.frozen? ⟨b, 3, none⟩ = false
theorem OutC.kept {w w' : World} {b : Nat} {cf rg : Int} {c m : Value} (h : OutC w b cf rg c m) (hb : Below w.heap.size w w') : OutC w' b cf rg c m :=
  ⟨kept_cell hb h.c0, kept_cell hb h.c1, kept_cell hb h.c2, kept_cell hb h.c3, by rw [hb.frozen (lt_of_cell h.c2)]; exact h.f2, by rw [hb.frozen (lt_of_cell h.c3)]; exact h.f3⟩
theorem OutC.grown {α : Type} {L : Lay α} {T : Nat} {V w5 w6 : World} {B : Nat → Prop} {v : Value} {l : List α} {t : List (List Value)} {F : Nat → Nat → Prop} {b : Nat} {cf rg : Int} {c m : Value} (h : OutC V b cf rg c m) (s : SnocIn L T V B v l t F) (hg : w5.grownBy w6 v.ownBlock) (bl : Below V.heap.size V w5) (hb : ¬ B b) : OutC w6 b cf rg c m :=
  ⟨s.cell hg bl hb h.c0, s.cell hg bl hb h.c1, s.cell hg bl hb h.c2, s.cell hg bl hb h.c3, s.free hg bl hb h.c2 h.f2, s.free hg bl hb h.c3 h.f3⟩
theorem OutC.set2 {w : World} {b : Nat} {cf rg : Int} {c m u : Value} (h : OutC w b cf rg c m) : OutC (w.setCell ⟨b, 2, none⟩ u) b cf rg u m :=
  ⟨by rw [World.cell?_setCell_other _ _ _ _ (by simp)]; exact h.c0, by rw [World.cell?_setCell_other _ _ _ _ (by simp)]; exact h.c1, World.cell?_setCell_same _ _ _ h.c2, by rw [World.cell?_setCell_other _ _ _ _ (by simp)]; exact h.c3, by simp [h.f2], by simp [h.f3]⟩
theorem OutC.set3 {w : World} {b : Nat} {cf rg : Int} {c m u : Value} (h : OutC w b cf rg c m) : OutC (w.setCell ⟨b, 3, none⟩ u) b cf rg c u :=
  ⟨by rw [World.cell?_setCell_other _ _ _ _ (by simp)]; exact h.c0, by rw [World.cell?_setCell_other _ _ _ _ (by simp)]; exact h.c1, by rw [World.cell?_setCell_other _ _ _ _ (by simp)]; exact h.c2, World.cell?_setCell_same _ _ _ h.c3, by simp [h.f2], by simp [h.f3]⟩
theorem OutC.setFar {w : World} {b : Nat} {cf rg : Int} {c m u : Value} {p : Addr} (h : OutC w b cf rg c m) (hp : p.block ≠ b) : OutC (w.setCell p u) b cf rg c m :=
  ⟨cell_set_far h.c0 (Ne.symm hp), cell_set_far h.c1 (Ne.symm hp), cell_set_far h.c2 (Ne.symm hp), cell_set_far h.c3 (Ne.symm hp), by simp [h.f2], by simp [h.f3]⟩
/-- An instruction's cells and its arguments. -/
theorem ir_owns {w : World} {B : Nat → Prop} {kd r ra rb k cost mt ip : Int} {v : Value} {args : List Int} (h : OSl layI 3 8 w B v args) : layIr.owns w B [.int .i64 kd, .int .i64 r, .int .i64 ra, .int .i64 rb, .int .i64 k, v, .int .i64 cost, .int .i64 mt, .int .i64 ip] (kd, r, ra, rb, k, args, cost, mt, ip) := by
  have no : ∀ b : Nat, (fun _ => False : Nat → Prop) b → B b := fun _ h => h.elim
  have step : ∀ {β : Type} {M : Lay β} {x : Int} {cs : List Value} {y : β}, M.owns w B cs y → (layP layI M).owns w B (.int .i64 x :: cs) (x, y) := fun {β M x cs y} hy => ⟨[.int .i64 x], cs, fun _ => False, B, rfl, no, fun _ h => h, fun _ h _ => h, rfl, hy⟩
  refine step (step (step (step (step ?_))))
  refine ⟨[v], [.int .i64 cost, .int .i64 mt, .int .i64 ip], B, fun _ => False, rfl, fun _ h => h, no, fun _ _ h => h, ⟨v, rfl, h⟩, ?_⟩
  exact ⟨[.int .i64 cost], [.int .i64 mt, .int .i64 ip], fun _ => False, fun _ => False, rfl, fun _ h => h, fun _ h => h, fun _ h _ => h, rfl, ⟨[.int .i64 mt], [.int .i64 ip], fun _ => False, fun _ => False, rfl, fun _ h => h, fun _ h => h, fun _ h _ => h, rfl, rfl⟩⟩
/-- A part's cells and its lists. -/
theorem part_owns {w : World} {B1 B2 : Nat → Prop} {f0 x0 : Int} {v u : Value} {ll sl : List SrcT} (h1 : OSl laySrcs 38 16 w B1 v ll) (h2 : OSl laySrcs 38 16 w B2 u sl) (hd : ∀ b, B1 b → B2 b → False) : layPart.owns w (fun b => B1 b ∨ B2 b) [.int .i64 f0, .int .i64 x0, v, u] (f0, x0, ll, sl) := by
  have step : ∀ {B : Nat → Prop} {β : Type} {M : Lay β} {x : Int} {cs : List Value} {y : β}, M.owns w B cs y → (layP layI M).owns w B (.int .i64 x :: cs) (x, y) := fun {B β M x cs y} hy => ⟨[.int .i64 x], cs, fun _ => False, B, rfl, fun _ h => h.elim, fun _ h => h, fun _ h _ => h, rfl, hy⟩
  refine step (step ?_)
  exact ⟨[v], [u], B1, B2, rfl, fun _ h => .inl h, fun _ h => .inr h, hd, ⟨v, rfl, h1⟩, ⟨u, rfl, h2⟩⟩
theorem meta_owns {w : World} {B : Nat → Prop} {v : Value} {parts : List PartT} (h : OSl layPart 44 64 w B v parts) : layMeta.owns w B [v] parts := ⟨v, rfl, h⟩

end Go.Proofs.YtfnfbebkeoilfaaGreatDoor

namespace Go.Proofs.YtfnfbebkeoilfaaGreatDoor
open Go.RowKit
set_option linter.unusedVariables false

set_option maxRecDepth 100000 in
set_option maxHeartbeats 16000000 in
theorem copyCode_any (ca : Option Addr) (cn cc : Nat) (ma : Option Addr) (mn mc : Nat) (cl : List IrT) (ml : List (List PartT)) (cf rg : Int) (w : World) (hcl : Sl layIr 88 w ca cn cc cl) (hml : Sl layMeta 24 w ma mn mc ml) :
    Calls Tryz.prog 6 #[.agg #[.int .i64 cf, .int .i64 rg, .slice ca cn cc, .slice ma mn mc]] w fun e w' => ∃ v u s, e = .returned (.agg #[.int .i64 cf, .int .i64 rg, v, u]) ∧ OSl layIr 42 88 w' (fun b => w.heap.size ≤ b ∧ b < s) v cl ∧ OSl layMeta 47 24 w' (fun b => w.heap.size ≤ b ∧ s ≤ b) u ml ∧ Below w.heap.size w w' := by
  obtain ⟨i0, hi, hz0, hz1, hz2⟩ := info_parts Tryz.infoIr
  obtain ⟨j0, hj, jz0, jz1, jz2⟩ := info_parts Tryz.infoIntC
  obtain ⟨p0, hp, pz0, pz1, pz2⟩ := info_parts Tryz.infoPart
  obtain ⟨m0, hm, mz0, mz1, mz2⟩ := info_parts Tryz.infoMeta
  have LC := hid hcl.len
  have hcr := hcl.room
  have hcc := hcl.cap
  have HC := hid hcl
  have LM := hid hml.len
  have hmr := hml.room
  have hmc := hml.cap
  have HM := hid hml
  clear hcl hml
  have W3 : Hid (∃ U : World, U = (((w.alloc (.cells #[.int .i64 cf, .int .i64 rg, .slice ca cn cc, .slice ma mn mc] 28)).alloc (.cells #[.int .i64 0, .int .i64 0, .slice none 0 0, .slice none 0 0] 28)).alloc (.cells #[.int .i64 cf, .int .i64 rg, .slice none 0 0, .slice none 0 0] 28))) := hid ⟨_, rfl⟩
  obtain ⟨w3, hw3⟩ := W3.out
  have B3 : Hid (Below w.heap.size w w3) := hid (by rw [hw3]; go_grown)
  have R3 : Hid (w3.cell? ⟨w.heap.size, 2, none⟩ = some (.slice ca cn cc) ∧ w3.cell? ⟨w.heap.size, 3, none⟩ = some (.slice ma mn mc)) := hid (by rw [hw3]; exact ⟨by simp [go_sem], by simp [go_sem]⟩)
  have Q3 : Hid ((w3.cell? ⟨w.heap.size + 1, 0, none⟩ = some (.int .i64 0) ∧ w3.cell? ⟨w.heap.size + 1, 1, none⟩ = some (.int .i64 0) ∧ w3.cell? ⟨w.heap.size + 1, 2, none⟩ = some (.slice none 0 0) ∧ w3.cell? ⟨w.heap.size + 1, 3, none⟩ = some (.slice none 0 0)) ∧ ∀ j, w3.frozen? ⟨w.heap.size + 1, j, none⟩ = false) := hid (by rw [hw3]; exact ⟨⟨by simp [go_sem], by simp [go_sem], by simp [go_sem], by simp [go_sem]⟩, fun j => by simp [go_sem]⟩)
  have O3 : Hid (OutC w3 (w.heap.size + 1 + 1) cf rg (.slice none 0 0) (.slice none 0 0)) := hid (by rw [hw3]; exact ⟨by simp [go_sem], by simp [go_sem], by simp [go_sem], by simp [go_sem], by simp [go_sem], by simp [go_sem]⟩)
  have HS3 : Hid (w3.heap.size = w.heap.size + 3) := hid (by rw [hw3]; simp)
  have E3 := hid hw3
  clear hw3 W3
  go_enter Tryz.func6, Tryz.ntmps6
  go_wp2_with fail
  refine wp_world (U := w3) (by rw [E3.out]) ?_
  go_loopw [4] (fun i wr => ∃ (q : Nat) (va : Option Addr) (vn vc : Nat), q ≤ cn ∧ i = .int .i64 q ∧ OutC wr (w.heap.size + 1 + 1) cf rg (.slice va vn vc) (.slice none 0 0) ∧ OSl layIr 42 88 wr (fun b => w.heap.size + 2 < b) (.slice va vn vc) (cl.take q) ∧ Below (w.heap.size + 2) w3 wr) (fun i _ => cn - (intOf i).toNat)
  case atStart => exact ⟨0, none, 0, 0, Nat.zero_le _, rfl, O3.out, OSl.nil _ _ _ _ _, Below.refl _ _⟩
  case round =>
    clear E3 O3
    obtain ⟨q, va, vn, vc, hq, rfl, oc, ho, hb⟩ := hrel
    obtain ⟨V, hV⟩ : ∃ V : World, V = wr := ⟨_, rfl⟩
    subst hV
    have HO := hid ho
    have HB := hid hb
    have OCV := hid oc
    have r2 : V.cell? ⟨w.heap.size, 2, none⟩ = some (.slice ca cn cc) := (hb.cell (p := ⟨w.heap.size, 2, none⟩) (by show w.heap.size < w.heap.size + 2; omega)).trans R3.out.1
    have r3 : V.cell? ⟨w.heap.size, 3, none⟩ = some (.slice ma mn mc) := (hb.cell (p := ⟨w.heap.size, 3, none⟩) (by show w.heap.size < w.heap.size + 2; omega)).trans R3.out.2
    have RV := hid (And.intro r2 r3)
    have hsv : w.heap.size + 3 ≤ V.heap.size := by have := hb.size; have := HS3.out; omega
    have BW : Hid (Below w.heap.size w V) := hid (B3.out.trans (hb.mono (by omega)))
    clear ho oc r3
    by_cases hlt : q < cn
    · obtain ⟨b0, o0, kd, r, ra, rb, k, xa, xn, xc, args, cost, mt, ip, rfl, hx, e0, e1, e2, e3, e4, e5, e6, e7, e8, hargs⟩ := ir_at (HC.out.kept BW.out) q hlt
      have HX := hid hx
      obtain ⟨U0, hU0⟩ : ∃ U : World, U = V.alloc (.cells #[.int .i64 kd, .int .i64 r, .int .i64 ra, .int .i64 rb, .int .i64 k, .slice xa xn xc, .int .i64 cost, .int .i64 mt, .int .i64 ip] 42) := ⟨_, rfl⟩
      have L0 : Hid (Below V.heap.size V U0) := hid (by rw [hU0]; exact Below.alloc (Below.refl _ _) (Nat.le_refl _) _)
      have h0 : U0.heap[V.heap.size]? = some (.cells #[.int .i64 kd, .int .i64 r, .int .i64 ra, .int .i64 rb, .int .i64 k, .slice xa xn xc, .int .i64 cost, .int .i64 mt, .int .i64 ip] 42) := by rw [hU0]; exact heap_alloc_new _ _
      have hu0 : U0.heap.size = V.heap.size + 1 := by rw [hU0]; simp
      have IA := hid hargs
      have EU := hid hU0
      have HU0 := hid hu0
      clear hx hargs hU0 hb hu0
      go_upto_region 6 with fail
      refine wp_world (U := U0) EU.out ?_
      clear e0 e1 e2 e3 e4 e5 e6 e7 e8 r2
      have x5 : (U0.alloc (.cells #[] 3)).cell? ⟨V.heap.size, 5, none⟩ = some (.slice xa xn xc) := kept_cell (Below.alloc (Below.refl _ _) (Nat.le_refl _) _) (cell_of_heap (j := 5) h0 rfl).1
      go_upto_region 7 with (at_builtin; refine wpList_copyF flatI 3 40 8 j0 (.int .i64 0) Tryz.underlying40 hj jz0 jz1 jz2 rfl (by decide) (by decide) U0 _ rfl _ _ rfl rfl U0.heap.size rfl rfl _ _ _ args rfl (IA.out.sl.kept L0.out) ?_; intro a1 n1 m1 w1 o1 b1; have g1 := heap_kept h0 b1; have y5 := (cell_of_heap (j := 5) g1 rfl); obtain ⟨y5, z5⟩ := y5; have O1 := hid o1; have B1 := hid b1; have G1 := hid g1; clear o1 b1 g1)
      obtain ⟨U1, hU1⟩ : ∃ U : World, U = w1.setCell ⟨V.heap.size, 5, none⟩ (.slice a1 n1 m1) := ⟨_, rfl⟩
      refine wp_world (U := U1) (by rw [hU1]) ?_
      have h1 : U1.heap[V.heap.size]? = some (.cells #[.int .i64 kd, .int .i64 r, .int .i64 ra, .int .i64 rb, .int .i64 k, .slice a1 n1 m1, .int .i64 cost, .int .i64 mt, .int .i64 ip] 42) := by rw [hU1]; exact heap_setCell_same _ _ 5 _ _ _ G1.out
      have L1 : Hid (Below V.heap.size V U1) := hid (by rw [hU1]; exact (kt L0.out B1.out).setCell (Nat.le_refl _) _)
      have S1 : Hid (U1.heap.size = w1.heap.size ∧ U0.heap.size ≤ w1.heap.size ∧ ∀ b, b ≠ V.heap.size → U1.heap[b]? = w1.heap[b]?) := hid ⟨by rw [hU1]; simp, B1.out.size, fun b hb => by rw [hU1]; exact Below.heap_setCell _ _ _ b hb⟩
      clear hU1 y5 z5 x5
      have c0 := (cell_of_heap (j := 0) h1 rfl).1
      have c1 := (cell_of_heap (j := 1) h1 rfl).1
      have c2 := (cell_of_heap (j := 2) h1 rfl).1
      have c3 := (cell_of_heap (j := 3) h1 rfl).1
      have c4 := (cell_of_heap (j := 4) h1 rfl).1
      have c5 := (cell_of_heap (j := 5) h1 rfl).1
      have c6 := (cell_of_heap (j := 6) h1 rfl).1
      have c7 := (cell_of_heap (j := 7) h1 rfl).1
      have c8 := (cell_of_heap (j := 8) h1 rfl).1
      have v2 := kept_cell L1.out OCV.out.c2
      have hA4 : Below U1.heap.size U1 (U1.alloc (.cells #[.int .i64 kd, .int .i64 r, .int .i64 ra, .int .i64 rb, .int .i64 k, .slice a1 n1 m1, .int .i64 cost, .int .i64 mt, .int .i64 ip] 42)) := Below.alloc (Below.refl _ _) (Nat.le_refl _) _
      have OX : Hid (layIr.owns (U1.alloc (.cells #[.int .i64 kd, .int .i64 r, .int .i64 ra, .int .i64 rb, .int .i64 k, .slice a1 n1 m1, .int .i64 cost, .int .i64 mt, .int .i64 ip] 42)) (fun b => U0.heap.size ≤ b) [.int .i64 kd, .int .i64 r, .int .i64 ra, .int .i64 rb, .int .i64 k, .slice a1 n1 m1, .int .i64 cost, .int .i64 mt, .int .i64 ip] (kd, r, ra, rb, k, args, cost, mt, ip)) := hid (ir_owns ((O1.out.frm (w' := U1) (fun b hb _ => S1.out.2.2 b (by have := HU0.out; omega))).kept hA4))
      have L4 := hid (kt L1.out hA4)
      obtain ⟨t, F, sn⟩ := HO.out.snocIn
      have SN := hid sn
      have HQ : Hid ((cl.take q).length = q) := hid (by rw [List.length_take]; have := LC.out; omega)
      have HRW : Hid (V.ownsRow 0 42 9 (.slice va vn vc) q t.flatten) := hid (by have := sn.row; rwa [HQ.out] at this)
      clear hA4 sn h0 h1
      go_wp2_with (at_builtin; refine wpList_append_lies _ rfl _ _ 25 rfl 0 42 i0 (.agg #[.int .i64 0, .int .i64 0, .int .i64 0, .int .i64 0, .int .i64 0, .slice none 0 0, .int .i64 0, .int .i64 0, .int .i64 0]) 9 88 Tryz.underlying25 hi hz0 hz1 hz2 rfl (by decide) (.slice va vn vc) q t.flatten rfl (owns_kept HRW.out L4.out) ⟨U1.heap.size, 0, none⟩ 1 1 [.int .i64 kd, .int .i64 r, .int .i64 ra, .int .i64 rb, .int .i64 k, .slice a1 n1 m1, .int .i64 cost, .int .i64 mt, .int .i64 ip] rfl rfl (news_of rfl _ 42) (by intro u hu; simp at hu; rcases hu with rfl | rfl | rfl | rfl | rfl | rfl | rfl | rfl | rfl <;> rfl) (by decide) (by unfold maxLen; omega) (by omega) (Nat.zero_le _) (U1.heap.size + 1) (by simp) ?_; intro g cap w6 ho6 hg6 hat hlt6; have P := hid (And.intro (OutC.grown OCV.out SN.out hg6 L4.out (by omega)) (SN.out.snoc (bytes := 88) HQ.out (by omega) ho6 hg6 (by simpa using hat) L4.out OX.out (fun b hb => by have := HU0.out; omega))); have PB := hid (below_grown (rb := w.heap.size + 2) hg6 L4.out (fun k hk => (SN.out.own k hk).1.1) (by omega)); obtain ⟨d2, df2⟩ := And.intro P.out.1.c2 P.out.1.f2; clear ho6 hg6 hat hlt6)
      go_roundw
      case rel =>
        refine ⟨q + 1, _, _, _, by omega, by go_num, P.out.1.set2, ?_, (HB.out.trans PB.out).setCell (by simp) _⟩
        rw [List.take_add_one, HX.out]
        exact (P.out.2.sub (fun b hb _ => by rcases hb with hb | hb; exact hb; show w.heap.size + 2 < b; omega)).set _ _ (by simp)
      case measure => simp [intOf]; omega
    · have hqn : q = cn := by omega
      subst hqn
      have OCD : Hid (OSl layIr 42 88 V (fun b => w.heap.size + 2 < b ∧ b < V.heap.size) (.slice va vn vc) cl) := hid (by
        have o := HO.out
        rw [List.take_of_length_le (by have := LC.out; omega)] at o
        exact o.clip)
      clear HO hb r2 hlt hq
      have r2 := RV.out.1
      go_wp2_with fail
      clear r2
      go_loopw [6] (fun i wr => ∃ (j : Nat) (xa : Option Addr) (xn xc : Nat), j ≤ mn ∧ i = .int .i64 j ∧ OutC wr (w.heap.size + 1 + 1) cf rg (.slice va vn vc) (.slice xa xn xc) ∧ OSl layMeta 47 24 wr (fun b => V.heap.size ≤ b) (.slice xa xn xc) (ml.take j) ∧ Frm (fun b => b = w.heap.size + 2) V wr) (fun i _ => mn - (intOf i).toNat)
      case atStart => exact ⟨0, none, 0, 0, Nat.zero_le _, rfl, OCV.out, OSl.nil _ _ _ _ _, Frm.refl _ _⟩
      case round =>
        obtain ⟨j, xa, xn, xc, hj', rfl, oc, om, fr⟩ := hrel
        obtain ⟨X, hX⟩ : ∃ X : World, X = wr := ⟨_, rfl⟩
        subst hX
        have OM := hid om
        have FR := hid fr
        have OCX := hid oc
        have hsx : V.heap.size ≤ X.heap.size := fr.size
        have BWX : Hid (Below w.heap.size w X) := hid (BW.out.trans (fr.below (by omega) (fun k hk => by omega)))
        have r3 : X.cell? ⟨w.heap.size, 3, none⟩ = some (.slice ma mn mc) := fr.cell RV.out.2 (by omega)
        have R3X := hid r3
        clear om fr oc
        by_cases hlt : j < mn
        · obtain ⟨bm, omm, ta, tn, tc, tl, rfl, hx, e0, htl⟩ := meta_at (HM.out.kept BWX.out) j hlt
          rw [Nat.mul_one] at e0
          have HX := hid hx
          have HTL := hid htl
          have LT := hid htl.len
          have htr := htl.room
          have htc := htl.cap
          have E0 := hid e0
          obtain ⟨X0, hX0⟩ : ∃ U : World, U = X.alloc (.cells #[.slice none 0 0] 47) := ⟨_, rfl⟩
          have L0 : Hid (Below X.heap.size X X0) := hid (by rw [hX0]; exact Below.alloc (Below.refl _ _) (Nat.le_refl _) _)
          have HX0 : Hid (X0.heap.size = X.heap.size + 1) := hid (by rw [hX0]; simp)
          have M0 : Hid (X0.cell? ⟨X.heap.size, 0, none⟩ = some (.slice none 0 0) ∧ X0.frozen? ⟨X.heap.size, 0, none⟩ = false) := hid (by rw [hX0]; exact ⟨by simp [go_sem], by simp [go_sem]⟩)
          have EX0 := hid hX0
          clear hx htl hX0
          go_upto_region 12 with fail
          refine wp_world (U := X0) (by rw [EX0.out]) ?_
          clear r3 e0
          go_wp2_with fail
          go_loopw [8] (fun i wr => ∃ (l : Nat) (ya : Option Addr) (yn yc : Nat), l ≤ tn ∧ i = .int .i64 l ∧ wr.cell? ⟨X.heap.size, 0, none⟩ = some (.slice ya yn yc) ∧ wr.frozen? ⟨X.heap.size, 0, none⟩ = false ∧ OSl layPart 44 64 wr (fun b => X.heap.size < b) (.slice ya yn yc) (tl.take l) ∧ Below X.heap.size X wr) (fun i _ => tn - (intOf i).toNat)
          case atStart => exact ⟨0, none, 0, 0, Nat.zero_le _, rfl, M0.out.1, M0.out.2, OSl.nil _ _ _ _ _, L0.out⟩
          case round =>
            clear M0 EX0 L0
            obtain ⟨l, ya, yn, yc, hl', rfl, y0, yf, oy, by0⟩ := hrel
            obtain ⟨Y, hY⟩ : ∃ Y : World, Y = wr := ⟨_, rfl⟩
            subst hY
            have OY := hid oy
            have BY := hid by0
            have YC := hid (And.intro y0 yf)
            have r3 := kept_cell by0 R3X.out
            have e0 := kept_cell by0 E0.out
            have hsy : X.heap.size + 1 ≤ Y.heap.size := by have := lt_of_cell y0; omega
            clear oy
            by_cases hlt2 : l < tn
            · obtain ⟨bp, op, f0, x0, la, ln, lc, ll, sa, sn, sc, sl, rfl, hx, t0, t1, t2, t3, hll, hsl⟩ := part_at (HTL.out.kept by0) l hlt2
              have HXP := hid hx
              obtain ⟨U0, hU0⟩ : ∃ U : World, U = Y.alloc (.cells #[.int .i64 f0, .int .i64 x0, .slice la ln lc, .slice sa sn sc] 44) := ⟨_, rfl⟩
              have L0 : Hid (Below Y.heap.size Y U0) := hid (by rw [hU0]; exact Below.alloc (Below.refl _ _) (Nat.le_refl _) _)
              have h0 : U0.heap[Y.heap.size]? = some (.cells #[.int .i64 f0, .int .i64 x0, .slice la ln lc, .slice sa sn sc] 44) := by rw [hU0]; exact heap_alloc_new _ _
              have HU0 : Hid (U0.heap.size = Y.heap.size + 1) := hid (by rw [hU0]; simp)
              have IL := hid hll
              have IS := hid hsl
              have EU := hid hU0
              clear hx hll hsl hU0 by0
              go_upto_region 16 with fail
              refine wp_world (U := U0) EU.out ?_
              clear t0 t1 t2 t3 r3 e0 y0 yf
              have x2 := (cell_of_heap (j := 2) h0 rfl).1
              go_wp2_with fail
              refine (copySrcs_any _ _ _ ll _ (IL.out.kept L0.out)).mono ?_
              rintro e w1 ⟨v1, rfl, o1, b1⟩
              obtain ⟨a1, n1, m1, rfl, _⟩ := o1.reads
              have g1 := heap_kept h0 b1
              obtain ⟨x2', z2⟩ := cell_of_heap (j := 2) g1 rfl
              have O1 := hid o1
              have B1 := hid b1
              have G1 := hid g1
              clear o1 b1 g1 x2
              go_upto_region 17 with fail
              obtain ⟨U1, hU1⟩ : ∃ U : World, U = w1.setCell ⟨Y.heap.size, 2, none⟩ (.slice a1 n1 m1) := ⟨_, rfl⟩
              refine wp_world (U := U1) (by rw [hU1]) ?_
              have h1 : U1.heap[Y.heap.size]? = some (.cells #[.int .i64 f0, .int .i64 x0, .slice a1 n1 m1, .slice sa sn sc] 44) := by rw [hU1]; exact heap_setCell_same _ _ 2 _ _ _ G1.out
              have L1 : Hid (Below Y.heap.size Y U1) := hid (by rw [hU1]; exact (kt L0.out B1.out).setCell (Nat.le_refl _) _)
              have S1 : Hid (U1.heap.size = w1.heap.size ∧ U0.heap.size ≤ w1.heap.size ∧ ∀ b, b ≠ Y.heap.size → U1.heap[b]? = w1.heap[b]?) := hid ⟨by rw [hU1]; simp, B1.out.size, fun b hb => by rw [hU1]; exact Below.heap_setCell _ _ _ b hb⟩
              clear hU1 x2' z2
              have x3 := (cell_of_heap (j := 3) h1 rfl).1
              go_wp2_with fail
              refine (copySrcs_any _ _ _ sl _ (IS.out.kept L1.out)).mono ?_
              rintro e w2 ⟨v2, rfl, o2, b2⟩
              obtain ⟨a2, n2, m2, rfl, _⟩ := o2.reads
              have g2 := heap_kept h1 b2
              obtain ⟨x3', z3⟩ := cell_of_heap (j := 3) g2 rfl
              have O2 := hid o2
              have B2 := hid b2
              have G2 := hid g2
              clear o2 b2 g2 x3
              go_upto_region 18 with fail
              obtain ⟨U2, hU2⟩ : ∃ U : World, U = w2.setCell ⟨Y.heap.size, 3, none⟩ (.slice a2 n2 m2) := ⟨_, rfl⟩
              refine wp_world (U := U2) (by rw [hU2]) ?_
              have h2 : U2.heap[Y.heap.size]? = some (.cells #[.int .i64 f0, .int .i64 x0, .slice a1 n1 m1, .slice a2 n2 m2] 44) := by rw [hU2]; exact heap_setCell_same _ _ 3 _ _ _ G2.out
              have L2 : Hid (Below Y.heap.size Y U2) := hid (by rw [hU2]; exact (kt L1.out B2.out).setCell (Nat.le_refl _) _)
              have S2 : Hid (U2.heap.size = w2.heap.size ∧ U1.heap.size ≤ w2.heap.size ∧ ∀ b, b ≠ Y.heap.size → U2.heap[b]? = w2.heap[b]?) := hid ⟨by rw [hU2]; simp, B2.out.size, fun b hb => by rw [hU2]; exact Below.heap_setCell _ _ _ b hb⟩
              clear hU2 x3' z3
              have c0 := (cell_of_heap (j := 0) h2 rfl).1
              have c1 := (cell_of_heap (j := 1) h2 rfl).1
              have c2 := (cell_of_heap (j := 2) h2 rfl).1
              have c3 := (cell_of_heap (j := 3) h2 rfl).1
              have y0 := kept_cell L2.out YC.out.1
              have hA4 : Below U2.heap.size U2 (U2.alloc (.cells #[.int .i64 f0, .int .i64 x0, .slice a1 n1 m1, .slice a2 n2 m2] 44)) := Below.alloc (Below.refl _ _) (Nat.le_refl _) _
              have OX : Hid (layPart.owns (U2.alloc (.cells #[.int .i64 f0, .int .i64 x0, .slice a1 n1 m1, .slice a2 n2 m2] 44)) (fun b => (U0.heap.size ≤ b ∧ b < w1.heap.size) ∨ U1.heap.size ≤ b) [.int .i64 f0, .int .i64 x0, .slice a1 n1 m1, .slice a2 n2 m2] (f0, x0, ll, sl)) := hid (by
                have hu := HU0.out
                have s1 := S1.out
                have s2 := S2.out
                have o1 := (O1.out.frm (w' := U1) (fun b hb _ => s1.2.2 b (by omega))).sub (B' := fun b => U0.heap.size ≤ b ∧ b < w1.heap.size) (fun b hb hl => ⟨hb, by omega⟩)
                have o1' := (o1.kept B2.out).frm (w' := U2) (fun b hb _ => s2.2.2 b (by omega))
                have o2 := O2.out.frm (w' := U2) (fun b hb _ => s2.2.2 b (by omega))
                exact part_owns (o1'.kept hA4) (o2.kept hA4) (fun b h k => by omega))
              have L4 := hid (kt L2.out hA4)
              obtain ⟨t, F, sn'⟩ := OY.out.snocIn
              have SN := hid sn'
              have HQ : Hid ((tl.take l).length = l) := hid (by rw [List.length_take]; have := LT.out; omega)
              have HRW : Hid (Y.ownsRow 0 44 4 (.slice ya yn yc) l t.flatten) := hid (by have := sn'.row; rwa [HQ.out] at this)
              clear hA4 sn' h0 h1 h2
              go_wp2_with (at_builtin; refine wpList_append_lies _ rfl _ _ 45 rfl 0 44 p0 (.agg #[.int .i64 0, .int .i64 0, .slice none 0 0, .slice none 0 0]) 4 64 Tryz.underlying45 hp pz0 pz1 pz2 rfl (by decide) (.slice ya yn yc) l t.flatten rfl (owns_kept HRW.out L4.out) ⟨U2.heap.size, 0, none⟩ 1 1 [.int .i64 f0, .int .i64 x0, .slice a1 n1 m1, .slice a2 n2 m2] rfl rfl (news_of rfl _ 44) (by intro u hu; simp at hu; rcases hu with rfl | rfl | rfl | rfl <;> rfl) (by decide) (by unfold maxLen; omega) (by omega) (Nat.zero_le _) (U2.heap.size + 1) (by simp) ?_; intro g cap w6 ho6 hg6 hat hlt6; have P := hid (And.intro (SN.out.cell hg6 L4.out (by omega) YC.out.1) (And.intro (SN.out.free hg6 L4.out (by omega) YC.out.1 YC.out.2) (SN.out.snoc (bytes := 64) HQ.out (by omega) ho6 hg6 (by simpa using hat) L4.out OX.out (fun b hb => by have := HU0.out; have := S1.out; omega)))); have PB := hid (below_grown (rb := X.heap.size) hg6 L4.out (fun k hk => (SN.out.own k hk).1.1) (by omega)); obtain ⟨d2, df2⟩ := And.intro P.out.1 P.out.2.1; clear ho6 hg6 hat hlt6)
              go_roundw
              case rel =>
                refine ⟨l + 1, _, _, _, by omega, by go_num, World.cell?_setCell_same _ _ _ P.out.1, by simp [P.out.2.1], ?_, (BY.out.trans PB.out).setCell (by simp) _⟩
                rw [List.take_add_one, HXP.out]
                exact (P.out.2.2.sub (fun b hb _ => by rcases hb with hb | hb; exact hb; show X.heap.size < b; omega)).set _ _ (by simp)
              case measure => simp [intOf]; omega
            · have hln : l = tn := by omega
              subst hln
              have OYD : Hid (OSl layPart 44 64 Y (fun b => X.heap.size < b) (.slice ya yn yc) tl) := hid (by
                have o := OY.out
                rwa [List.take_of_length_le (by have := LT.out; omega)] at o)
              have OCY := hid (OCX.out.kept by0)
              have v3 := OCY.out.c3
              have hA4 : Below Y.heap.size Y (Y.alloc (.cells #[.slice ya yn yc] 47)) := Below.alloc (Below.refl _ _) (Nat.le_refl _) _
              have L4 := hid (kt by0 hA4)
              have OXM : Hid (layMeta.owns (Y.alloc (.cells #[.slice ya yn yc] 47)) (fun b => X.heap.size < b) [.slice ya yn yc] tl) := hid (meta_owns (OYD.out.kept hA4))
              obtain ⟨t, F, sn'⟩ := OM.out.snocIn
              have SN := hid sn'
              have HQ : Hid ((ml.take j).length = j) := hid (by rw [List.length_take]; have := LM.out; omega)
              have HRW : Hid (X.ownsRow 0 47 1 (.slice xa xn xc) j t.flatten) := hid (by have := sn'.row; rwa [HQ.out] at this)
              clear hA4 sn' by0
              go_wp2_with (at_builtin; refine wpList_append_lies _ rfl _ _ 26 rfl 0 47 m0 (.agg #[.slice none 0 0]) 1 24 Tryz.underlying26 hm mz0 mz1 mz2 rfl (by decide) (.slice xa xn xc) j t.flatten rfl (owns_kept HRW.out L4.out) ⟨Y.heap.size, 0, none⟩ 1 1 [.slice ya yn yc] rfl rfl (news_of rfl _ 47) (by intro u hu; simp at hu; rcases hu with rfl <;> rfl) (by decide) (by unfold maxLen; omega) (by omega) (Nat.zero_le _) (Y.heap.size + 1) (by simp) ?_; intro g cap w6 ho6 hg6 hat hlt6; have P := hid (And.intro (OutC.grown OCX.out SN.out hg6 L4.out (by omega)) (And.intro (SN.out.snoc (bytes := 24) HQ.out (by omega) ho6 hg6 (by simpa using hat) L4.out OXM.out (fun b hb => by omega)) (Frm.mk (S := fun b => b = w.heap.size + 2) (w := V) (w' := w6) (by rw [hg6.os, L4.out.os, FR.out.os]) (by rw [hg6.tape, L4.out.tape, FR.out.tape]) (by rw [hg6.output, L4.out.output, FR.out.output]) (by have := hg6.size; have := L4.out.size; omega) (fun k hk hn => (SN.out.frm hg6 L4.out (by omega) (by omega)).trans (FR.out.block k hk hn))))); obtain ⟨d3, df3⟩ := And.intro P.out.1.c3 P.out.1.f3; clear ho6 hg6 hat hlt6)
              go_roundw
              case rel =>
                refine ⟨j + 1, _, _, _, by omega, by go_num, P.out.1.set3, ?_, P.out.2.2.trans (Frm.set (S := fun b => b = w.heap.size + 2) _ rfl) (fun _ _ h => h)⟩
                rw [List.take_add_one, HX.out]
                exact (P.out.2.1.sub (fun b hb _ => by rcases hb with hb | hb; exact hb; show V.heap.size ≤ b; omega)).set _ _ (by simp; omega)
              case measure => simp [intOf]; omega
        · have hjn : j = mn := by omega
          subst hjn
          have OMD : Hid (OSl layMeta 47 24 X (fun b => V.heap.size ≤ b) (.slice xa xn xc) ml) := hid (by
            have o := OM.out
            rwa [List.take_of_length_le (by have := LM.out; omega)] at o)
          have OCDX : Hid (OSl layIr 42 88 X (fun b => w.heap.size + 2 < b ∧ b < V.heap.size) (.slice va vn vc) cl) := hid (OCD.out.frm (fun b hb hlt => FR.out.block b hlt (by omega)))
          obtain ⟨c0, c1, c2, c3, f2, f3⟩ := OCX.out
          have hq3 : ∀ j u, w3.cell? ⟨w.heap.size + 1, j, none⟩ = some u → X.cell? ⟨w.heap.size + 1, j, none⟩ = some u := fun j u h => FR.out.cell ((HB.out.cell (p := ⟨w.heap.size + 1, j, none⟩) (by show w.heap.size + 1 < w.heap.size + 2; omega)).trans h) (by omega)
          have q0 := hq3 0 _ Q3.out.1.1
          have q1 := hq3 1 _ Q3.out.1.2.1
          have q2 := hq3 2 _ Q3.out.1.2.2.1
          have q3 := hq3 3 _ Q3.out.1.2.2.2
          have qf : ∀ j, X.frozen? ⟨w.heap.size + 1, j, none⟩ = false := fun j => by
            have h1 := (HB.out.frozen (p := ⟨w.heap.size + 1, j, none⟩) (by show w.heap.size + 1 < w.heap.size + 2; omega)).trans (Q3.out.2 j)
            have h2 := kept_cell (Below.refl V.heap.size V) ((HB.out.cell (p := ⟨w.heap.size + 1, 0, none⟩) (by show w.heap.size + 1 < w.heap.size + 2; omega)).trans Q3.out.1.1)
            have h3 := FR.out.block (w.heap.size + 1) (by omega) (by omega)
            simpa [World.frozen?, h3] using h1
          have BWX2 := hid BWX.out
          clear hq3 f2 f3
          go_wp2_with fail
          refine bodyPost_ret (v := .agg #[.int .i64 cf, .int .i64 rg, .slice va vn vc, .slice xa xn xc]) (by simp [results, Tryz.results6, go_sem, q0, q1, q2, q3]) rfl ⟨_, _, V.heap.size, rfl, ?_, ?_, ?_⟩
          · refine OSl.sub (B := fun b => w.heap.size + 2 < b ∧ b < V.heap.size) ?_ (fun b hb _ => ⟨by omega, hb.2⟩)
            repeat (first | exact OCDX.out | refine OSl.set ?_ _ _ (by show ¬ (w.heap.size + 2 < w.heap.size + 1 ∧ w.heap.size + 1 < V.heap.size); omega))
          · refine OSl.sub (B := fun b => V.heap.size ≤ b) ?_ (fun b hb _ => ⟨by omega, hb⟩)
            repeat (first | exact OMD.out | refine OSl.set ?_ _ _ (by show ¬ (V.heap.size ≤ w.heap.size + 1); omega))
          · repeat (first | exact BWX2.out | refine Below.setCell ?_ (by simp) _)

end Go.Proofs.YtfnfbebkeoilfaaGreatDoor

namespace Go.Proofs.YtfnfbebkeoilfaaGreatDoor
open Go.RowKit
set_option linter.unusedVariables false

set_option maxRecDepth 100000 in
set_option maxHeartbeats 4000000 in
theorem sameIr_same (kd r ra rb k : Int) (xa : Option Addr) (xn xc : Nat) (ya : Option Addr) (yn yc : Nat) (args : List Int) (cost mt ip : Int) (w : World) (hx : Ints w xa xn xc args) (hy : Ints w ya yn yc args) :
    Calls Tryz.prog 25 #[.agg #[.int .i64 kd, .int .i64 r, .int .i64 ra, .int .i64 rb, .int .i64 k, .slice xa xn xc, .int .i64 cost, .int .i64 mt, .int .i64 ip], .agg #[.int .i64 kd, .int .i64 r, .int .i64 ra, .int .i64 rb, .int .i64 k, .slice ya yn yc, .int .i64 cost, .int .i64 mt, .int .i64 ip]] w fun e w' => e = .returned (.bool true) ∧ Below w.heap.size w w' := by
  have HX := hid hx
  have HY := hid hy
  clear hx hy
  go_enter Tryz.func25, Tryz.ntmps25
  go_wp2_with fail
  refine (sameInts_any _ _ _ _ _ _ args args _ (HX.out.kept (by go_grown)) (HY.out.kept (by go_grown))).mono ?_
  rintro e w1 ⟨rfl, b1⟩
  go_wp2_with fail
  go_ret
  exact ⟨ret_bool (by simp), kt (by go_grown) b1⟩

set_option maxRecDepth 100000 in
set_option maxHeartbeats 4000000 in
theorem sameParts_same (a : Option Addr) (n c : Nat) (b : Option Addr) (m d : Nat) (l : List PartT) (w : World) (h1 : Sl layPart 64 w a n c l) (h2 : Sl layPart 64 w b m d l) :
    Calls Tryz.prog 26 #[.slice a n c, .slice b m d] w fun e w' => e = .returned (.bool true) ∧ Below w.heap.size w w' := by
  have hr := h1.room
  have hr2 := h2.room
  have hc := h1.cap
  have hc2 := h2.cap
  obtain rfl : n = m := by rw [h1.len, h2.len]
  have H1 := hid h1
  have H2 := hid h2
  clear h1 h2
  go_enter Tryz.func26, Tryz.ntmps26
  go_wp2_with fail
  go_loopw [5] (fun i wr => ∃ q : Nat, q ≤ n ∧ i = .int .i64 q ∧ Below w.heap.size w wr) (fun i _ => n - (intOf i).toNat)
  case atStart => exact ⟨0, Nat.zero_le _, rfl, Below.refl _ _⟩
  case round =>
    obtain ⟨q, hq, rfl, hb⟩ := hrel
    by_cases hlt : q < n
    · obtain ⟨b1, o1, f0, x0, la, ln, lc, ll, sa, sn, sc, sl, rfl, ex, s0, s1, s2, s3, hl, hs⟩ := part_at (H1.out.kept hb) q hlt
      obtain ⟨b2, o2, f0', x0', la', ln', lc', ll', sa', sn', sc', sl', rfl, ex', t0, t1, t2, t3, hl', hs'⟩ := part_at (H2.out.kept hb) q hlt
      have e := Option.some.inj (ex.symm.trans ex')
      obtain ⟨rfl, rfl, rfl, rfl⟩ : f0 = f0' ∧ x0 = x0' ∧ ll = ll' ∧ sl = sl' := by cases e; exact ⟨rfl, rfl, rfl, rfl⟩
      have HL := hid hl
      have HS := hid hs
      have HL' := hid hl'
      have HS' := hid hs'
      have HB := hid hb
      clear ex ex' e hl hs hl' hs'
      replace s0 := cell_regrown s0
      replace s1 := cell_regrown s1
      replace s2 := cell_regrown s2
      replace s3 := cell_regrown s3
      replace t0 := cell_regrown t0
      replace t1 := cell_regrown t1
      replace t2 := cell_regrown t2
      replace t3 := cell_regrown t3
      have q0 : (0 : Int) ≤ (q : Int) := by omega
      have q1 : (q : Int) < (n : Int) := by omega
      have SL : Hid (∀ u, Below wr.heap.size wr u → Calls Tryz.prog 44 #[.slice la ln lc, .slice la' ln' lc'] u fun e w' => e = .returned (.bool true) ∧ Below u.heap.size u w') := hid (fun u hu => (sameSrcs_any _ _ _ _ _ _ ll ll u (HL.out.kept hu) (HL'.out.kept hu)).mono (fun _ _ h => ⟨by rw [h.1]; simp, h.2⟩))
      have SS : Hid (∀ u, Below wr.heap.size wr u → Calls Tryz.prog 44 #[.slice sa sn sc, .slice sa' sn' sc'] u fun e w' => e = .returned (.bool true) ∧ Below u.heap.size u w') := hid (fun u hu => (sameSrcs_any _ _ _ _ _ _ sl sl u (HS.out.kept hu) (HS'.out.kept hu)).mono (fun _ _ h => ⟨by rw [h.1]; simp, h.2⟩))
      go_upto_region 6 with fail
      refine wp_region_quiet_below (by kernel_rfl) (by kernel_rfl) ?_
      repeat (go_big_quiet_step (first | (go_at_call 44; first | with_reducible exact Calls.regrown_of (SL.out _ (below_regrown _ _ _)) | with_reducible exact Calls.regrown_of (SS.out _ (below_regrown _ _ _)))))
      refine wpQuiet_nil ?_
      intro _ hw'
      obtain ⟨⟨dq, osq⟩, hw''⟩ := hw'
      subst hw''
      go_wp2_with fail
      go_roundw
      case rel => exact ⟨q + 1, by omega, by go_num, kt HB.out (below_regrown _ _ _)⟩
      case measure => simp [intOf]; omega
    · go_wp2_with fail
      go_ret
      exact ⟨rfl, hb⟩

set_option maxRecDepth 100000 in
set_option maxHeartbeats 8000000 in
theorem sameCode_same (cf rg : Int) (ca : Option Addr) (cn cc : Nat) (ma : Option Addr) (mn mc : Nat) (ca' : Option Addr) (cn' cc' : Nat) (ma' : Option Addr) (mn' mc' : Nat) (cl : List IrT) (ml : List (List PartT)) (w : World) (h1 : Sl layIr 88 w ca cn cc cl) (h2 : Sl layMeta 24 w ma mn mc ml) (k1 : Sl layIr 88 w ca' cn' cc' cl) (k2 : Sl layMeta 24 w ma' mn' mc' ml) :
    Calls Tryz.prog 12 #[.agg #[.int .i64 cf, .int .i64 rg, .slice ca cn cc, .slice ma mn mc], .agg #[.int .i64 cf, .int .i64 rg, .slice ca' cn' cc', .slice ma' mn' mc']] w fun e w' => e = .returned (.bool true) ∧ Below w.heap.size w w' := by
  have hr := h1.room
  have hr2 := h2.room
  have hc := h1.cap
  have hc2 := h2.cap
  have kc := k1.cap
  have kc2 := k2.cap
  obtain rfl : cn = cn' := by rw [h1.len, k1.len]
  obtain rfl : mn = mn' := by rw [h2.len, k2.len]
  have H1 := hid h1
  have H2 := hid h2
  have K1 := hid k1
  have K2 := hid k2
  clear h1 h2 k1 k2
  go_enter Tryz.func12, Tryz.ntmps12
  go_wp2_with fail
  go_loopw [5] (fun i wr => ∃ q : Nat, q ≤ cn ∧ i = .int .i64 q ∧ wr.cell? ⟨w.heap.size, 2, none⟩ = some (.slice ca cn cc) ∧ wr.cell? ⟨w.heap.size, 3, none⟩ = some (.slice ma mn mc) ∧ wr.cell? ⟨w.heap.size + 1, 2, none⟩ = some (.slice ca' cn cc') ∧ wr.cell? ⟨w.heap.size + 1, 3, none⟩ = some (.slice ma' mn mc') ∧ Below w.heap.size w wr) (fun i _ => cn - (intOf i).toNat)
  case atStart => exact ⟨0, Nat.zero_le _, rfl, by simp [go_sem], by simp [go_sem], by simp [go_sem], by simp [go_sem], by go_grown⟩
  case round =>
    obtain ⟨q, hq, rfl, p2, p3, r2, r3, hb⟩ := hrel
    by_cases hlt : q < cn
    · obtain ⟨b1, o1, kd, r, ra, rb, k, xa, xn, xc, args, cost, mt, ip, rfl, ex, e0, e1, e2, e3, e4, e5, e6, e7, e8, hx⟩ := ir_at (H1.out.kept hb) q hlt
      obtain ⟨b2, o2, kd', r', ra', rb', k', ya, yn, yc, args', cost', mt', ip', rfl, ey, f0, f1, f2, f3, f4, f5, f6, f7, f8, hy⟩ := ir_at (K1.out.kept hb) q hlt
      have e := Option.some.inj (ex.symm.trans ey)
      obtain ⟨rfl, rfl, rfl, rfl, rfl, rfl, rfl, rfl, rfl⟩ : kd = kd' ∧ r = r' ∧ ra = ra' ∧ rb = rb' ∧ k = k' ∧ args = args' ∧ cost = cost' ∧ mt = mt' ∧ ip = ip' := by cases e; exact ⟨rfl, rfl, rfl, rfl, rfl, rfl, rfl, rfl, rfl⟩
      have HX := hid hx
      have HY := hid hy
      have HB := hid hb
      have P := hid (And.intro p2 (And.intro p3 (And.intro r2 r3)))
      clear ex ey e hx hy
      replace e0 := cell_regrown e0
      replace e1 := cell_regrown e1
      replace e2 := cell_regrown e2
      replace e3 := cell_regrown e3
      replace e4 := cell_regrown e4
      replace e5 := cell_regrown e5
      replace e6 := cell_regrown e6
      replace e7 := cell_regrown e7
      replace e8 := cell_regrown e8
      replace f0 := cell_regrown f0
      replace f1 := cell_regrown f1
      replace f2 := cell_regrown f2
      replace f3 := cell_regrown f3
      replace f4 := cell_regrown f4
      replace f5 := cell_regrown f5
      replace f6 := cell_regrown f6
      replace f7 := cell_regrown f7
      replace f8 := cell_regrown f8
      have q0 : (0 : Int) ≤ (q : Int) := by omega
      have q1 : (q : Int) < (cn : Int) := by omega
      have SI : Hid (∀ u, Below wr.heap.size wr u → Calls Tryz.prog 25 #[.agg #[.int .i64 kd, .int .i64 r, .int .i64 ra, .int .i64 rb, .int .i64 k, .slice xa xn xc, .int .i64 cost, .int .i64 mt, .int .i64 ip], .agg #[.int .i64 kd, .int .i64 r, .int .i64 ra, .int .i64 rb, .int .i64 k, .slice ya yn yc, .int .i64 cost, .int .i64 mt, .int .i64 ip]] u fun e w' => e = .returned (.bool true) ∧ Below u.heap.size u w') := hid (fun u hu => sameIr_same _ _ _ _ _ _ _ _ _ _ _ args _ _ _ u (HX.out.kept hu) (HY.out.kept hu))
      go_upto_region 6 with fail
      replace p2 := cell_regrown p2
      replace r2 := cell_regrown r2
      refine wp_region_quiet_below (by kernel_rfl) (by kernel_rfl) ?_
      repeat (go_big_quiet_step (first | (go_at_call 25; exact Calls.regrown_of (SI.out _ (below_regrown _ _ _)))))
      refine wpQuiet_nil ?_
      intro _ hw'
      obtain ⟨⟨dq, osq⟩, hw''⟩ := hw'
      subst hw''
      go_wp2_with fail
      go_roundw
      case rel => exact ⟨q + 1, by omega, by go_num, kept_cell (below_regrown _ _ _) P.out.1, kept_cell (below_regrown _ _ _) P.out.2.1, kept_cell (below_regrown _ _ _) P.out.2.2.1, kept_cell (below_regrown _ _ _) P.out.2.2.2, kt HB.out (below_regrown _ _ _)⟩
      case measure => simp [intOf]; omega
    · have hqn : q = cn := by omega
      subst hqn
      have HB := hid hb
      clear hb hlt hq
      go_wp2_with fail
      go_loopw [6] (fun i ws => ∃ j : Nat, j ≤ mn ∧ i = .int .i64 j ∧ ws.cell? ⟨w.heap.size, 3, none⟩ = some (.slice ma mn mc) ∧ ws.cell? ⟨w.heap.size + 1, 3, none⟩ = some (.slice ma' mn mc') ∧ Below w.heap.size w ws) (fun i _ => mn - (intOf i).toNat)
      case atStart => exact ⟨0, Nat.zero_le _, rfl, p3, r3, HB.out⟩
      case round =>
        clear p2 p3 r2 r3 HB
        obtain ⟨j, hj, rfl, p3, r3, hb⟩ := hrel
        by_cases hlt : j < mn
        · obtain ⟨b1, o1, pa, pn, pc, parts, rfl, ex, e0, hx⟩ := meta_at (H2.out.kept hb) j hlt
          obtain ⟨b2, o2, pa', pn', pc', parts', rfl, ey, f0, hy⟩ := meta_at (K2.out.kept hb) j hlt
          obtain rfl : parts = parts' := Option.some.inj (ex.symm.trans ey)
          rw [Nat.mul_one] at e0 f0
          have HX := hid hx
          have HY := hid hy
          have HB := hid hb
          have P := hid (And.intro p3 r3)
          clear ex ey hx hy
          replace e0 := cell_regrown e0
          replace f0 := cell_regrown f0
          have q0 : (0 : Int) ≤ (j : Int) := by omega
          have q1 : (j : Int) < (mn : Int) := by omega
          have SP : Hid (∀ u, Below wr.heap.size wr u → Calls Tryz.prog 26 #[.slice pa pn pc, .slice pa' pn' pc'] u fun e w' => e = .returned (.bool true) ∧ Below u.heap.size u w') := hid (fun u hu => sameParts_same _ _ _ _ _ _ parts u (HX.out.kept hu) (HY.out.kept hu))
          go_upto_region 11 with fail
          replace p3 := cell_regrown p3
          replace r3 := cell_regrown r3
          refine wp_region_quiet_below (by kernel_rfl) (by kernel_rfl) ?_
          repeat (go_big_quiet_step (first | (go_at_call 26; exact Calls.regrown_of (SP.out _ (below_regrown _ _ _)))))
          refine wpQuiet_nil ?_
          intro _ hw'
          obtain ⟨⟨dq, osq⟩, hw''⟩ := hw'
          subst hw''
          go_wp2_with fail
          go_roundw
          case rel => exact ⟨j + 1, by omega, by go_num, kept_cell (below_regrown _ _ _) P.out.1, kept_cell (below_regrown _ _ _) P.out.2, kt HB.out (below_regrown _ _ _)⟩
          case measure => simp [intOf]; omega
        · go_wp2_with fail
          go_ret
          exact ⟨rfl, hb⟩

end Go.Proofs.YtfnfbebkeoilfaaGreatDoor
