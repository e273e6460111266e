/- One element more behind a slice of the call's own: what an append leaves (all at once, whatever the layout). Nothing of the program is named here. What lies in memory while Lower goes on: its boxes, the code, its metas, the places, whatever is appended. The document's rows (so many registers from one on) and Plain (the plain part of a pc). The document's Plain: the plain part of a pc. The document's own answer: what an instruction becomes (one): a call; whatever kind. Written by refonecallgen.py. The document's own Lower, of whatever function of a program that is verified. Written by lowgen.py. The document's own Lower, of whatever program and number. -/
import Derived.Test.YtaimpljkbpnigaaGreatDoorJ10d
import Derived.Test.YtaimpljkbpnigaaGreatDoorJ10f
import Derived.Test.YtaimpljkbpnigaaGreatDoorFlatSrcs
import Derived.Test.YtaimpljkbpnigaaGreatDoorJ10g
import Derived.Test.YtaimpljkbpnigaaGreatDoorJ11e
import Derived.Test.YtaimpljkbpnigaaGreatDoorJ6b
import Derived.Deep.RegionHeld3
import Derived.Deep.DrawnRows
import Derived.Deep.DeepCutAuto
import Derived.Test.YtaimpljkbpnigaaGreatDoorJ11d
namespace Go.Proofs.YtaimpljkbpnigaaGreatDoor
open Go.RowKit
set_option linter.unusedVariables false
variable {α : Type}

/-- The slice's blocks and the new ones are in S; nothing but what is in S has changed. -/
theorem app_snoc {L : Lay α} {T bytes : Nat} {S : Nat → Prop} {V w5 w6 : World} {g' cap' q : Nat} {c : Value} {l : List α} {t : List (List Value)} {F : Nat → Nat → Prop} {Bx : Nat → Prop} {cs : List Value} {y : α} (sn : SnocIn L T V S c l t F) (hq : l.length = q) (hr : (q + 1) * bytes ≤ 140737488351232)
    (ho : w6.ownsRow 0 T L.size (.slice (some ⟨g', 0, none⟩) (q + 1) cap') (q + 1) (t.flatten ++ cs)) (hg : w5.grownBy w6 c.ownBlock) (hat : c.ownBlock = some g' ∨ g' = w5.heap.size) (bl : Below V.heap.size V w5) (hx : L.owns w5 Bx cs y) (hbx : ∀ b, Bx b → V.heap.size ≤ b) (hS : ∀ b, V.heap.size ≤ b → S b) :
    OSl L T bytes w6 S (.slice (some ⟨g', 0, none⟩) (q + 1) cap') (l ++ [y]) ∧ Frm S V w6 :=
  ⟨(sn.snoc hq hr ho hg hat bl hx hbx).sub (fun b hb _ => by rcases hb with hb | hb; exact hb; exact hS b hb),
   (Frm.of_below bl).trans (Frm.of_grown hg (fun k hk => (sn.own k hk).1.1)) (fun _ _ h => h)⟩

end Go.Proofs.YtaimpljkbpnigaaGreatDoor

namespace Go.Proofs.YtaimpljkbpnigaaGreatDoor
open Go.RowKit
set_option linter.unusedVariables false

/-- wb: the block of the program's box (the result's behind it); xb: that of the function's box (the code's and the places' behind it). -/
structure LowIn (W : World) (wb xb : Nat) (pv : Value) (gy : Int) (gv : Value) (f rg : Int) (gn base : Nat) (vC vM : Value) (BC BM : Nat → Prop) (cl : List IrT) (ml : List (List PartT)) (pl : List Int) : Prop where
  oc : OutC W (xb + 1) f rg vC vM
  oi : OSl layIr 44 88 W BC vC cl
  om : OSl layMeta 57 24 W BM vM ml
  lo : ∀ b, BC b → xb + 1 + 1 < b ∧ b < W.heap.size
  lm : ∀ b, BM b → xb + 1 + 1 < b ∧ b < W.heap.size
  dj : ∀ b, BC b → BM b → False
  pls : PlSt W (xb + 1 + 1) gn base pl
  p0 : W.cell? ⟨wb, 0, none⟩ = some pv
  f1 : W.cell? ⟨xb, 1, none⟩ = some (.int .i64 gy)
  f2 : W.cell? ⟨xb, 2, none⟩ = some gv
  rs : Res0 W (wb + 1)
  wx : wb + 1 < xb
variable {W V w5 w6 : World} {wb xb : Nat} {pv gv vC vM : Value} {gy f rg : Int} {gn base : Nat} {BC BM : Nat → Prop} {cl : List IrT} {ml : List (List PartT)} {pl : List Int}

/-- Nothing but what is in S has changed, and S has none of these. -/
theorem LowIn.frm (h : LowIn W wb xb pv gy gv f rg gn base vC vM BC BM cl ml pl) {S : Nat → Prop} (fr : Frm S W V) (hS : ∀ b, S b → (xb + 1 + 1 < b ∧ ¬ BC b ∧ ¬ BM b) ∨ W.heap.size ≤ b) : LowIn V wb xb pv gy gv f rg gn base vC vM BC BM cl ml pl := by
  have n : ∀ b, b < W.heap.size → (b ≤ xb + 1 + 1 ∨ BC b ∨ BM b) → V.heap[b]? = W.heap[b]? := fun b hb hh => fr.block b hb (fun hs => by
    rcases hS b hs with ⟨h1, h2, h3⟩ | h1
    · rcases hh with hh | hh | hh
      · omega
      · exact h2 hh
      · exact h3 hh
    · omega)
  have e1 := n (xb + 1) (lt_of_cell h.oc.c0) (.inl (by omega))
  have e2 := n (xb + 1 + 1) (h.pls.row.lt _ rfl).2 (.inl (by omega))
  have e3 := n wb (lt_of_cell h.p0) (.inl (by have := h.wx; omega))
  have e4 := n xb (lt_of_cell h.f1) (.inl (by omega))
  have e5 := n (wb + 1) (lt_of_cell h.rs.c0) (.inl (by have := h.wx; omega))
  exact ⟨⟨(cellFrm e1).trans h.oc.c0, (cellFrm e1).trans h.oc.c1, (cellFrm e1).trans h.oc.c2, (cellFrm e1).trans h.oc.c3, (freeFrm e1).trans h.oc.f2, (freeFrm e1).trans h.oc.f3⟩,
    h.oi.frm (fun b hb hl => n b hl (.inr (.inl hb))), h.om.frm (fun b hb hl => n b hl (.inr (.inr hb))),
    fun b hb => ⟨(h.lo b hb).1, Nat.lt_of_lt_of_le (h.lo b hb).2 fr.size⟩, fun b hb => ⟨(h.lm b hb).1, Nat.lt_of_lt_of_le (h.lm b hb).2 fr.size⟩, h.dj, h.pls.frm e2, (cellFrm e3).trans h.p0, (cellFrm e4).trans h.f1, (cellFrm e4).trans h.f2, h.rs.frm e5, h.wx⟩
theorem LowIn.kept (h : LowIn W wb xb pv gy gv f rg gn base vC vM BC BM cl ml pl) (b : Below W.heap.size W V) : LowIn V wb xb pv gy gv f rg gn base vC vM BC BM cl ml pl :=
  h.frm (S := fun b => W.heap.size ≤ b) (Frm.of_below b) (fun b hb => .inr hb)
/-- A place is written down. -/
theorem LowIn.place (h : LowIn W wb xb pv gy gv f rg gn base vC vM BC BM cl ml pl) (i : Nat) (x : Int) : LowIn (W.setCell ⟨xb + 1 + 1, i, none⟩ (.int .i64 x)) wb xb pv gy gv f rg gn base vC vM BC BM cl ml (pl.set i x) := by
  have n : ∀ b, b ≠ xb + 1 + 1 → (W.setCell ⟨xb + 1 + 1, i, none⟩ (.int .i64 x)).heap[b]? = W.heap[b]? := fun b hb => Below.heap_setCell _ _ _ b hb
  have wx := h.wx
  exact ⟨h.oc.setFar (by show xb + 1 + 1 ≠ xb + 1; omega), h.oi.set _ _ (fun hb => by have := (h.lo _ hb).1; simp at this), h.om.set _ _ (fun hb => by have := (h.lm _ hb).1; simp at this),
    fun b hb => ⟨(h.lo b hb).1, by simpa using (h.lo b hb).2⟩, fun b hb => ⟨(h.lm b hb).1, by simpa using (h.lm b hb).2⟩, h.dj, h.pls.put i x, (cellFrm (n wb (by omega))).trans h.p0, (cellFrm (n xb (by omega))).trans h.f1, (cellFrm (n xb (by omega))).trans h.f2, h.rs.frm (n (wb + 1) (by omega)), wx⟩
/-- The code's slice is another one, in its box. -/
theorem LowIn.put2 (h : LowIn W wb xb pv gy gv f rg gn base vC vM BC BM cl ml pl) {u : Value} {cl' : List IrT} {BC' : Nat → Prop} (ho : OSl layIr 44 88 W BC' u cl') (hlo : ∀ b, BC' b → xb + 1 + 1 < b ∧ b < W.heap.size) (hdj : ∀ b, BC' b → BM b → False) : LowIn (W.setCell ⟨xb + 1, 2, none⟩ u) wb xb pv gy gv f rg gn base u vM BC' BM cl' ml pl := by
  have n : ∀ b, b ≠ xb + 1 → (W.setCell ⟨xb + 1, 2, none⟩ u).heap[b]? = W.heap[b]? := fun b hb => Below.heap_setCell _ _ _ b hb
  have wx := h.wx
  exact ⟨h.oc.set2, ho.set _ _ (fun hb => by have := (hlo _ hb).1; simp at this; omega), h.om.set _ _ (fun hb => by have := (h.lm _ hb).1; simp at this; omega),
    fun b hb => ⟨(hlo b hb).1, by simpa using (hlo b hb).2⟩, fun b hb => ⟨(h.lm b hb).1, by simpa using (h.lm b hb).2⟩, hdj, h.pls.frm (n _ (by omega)), (cellFrm (n wb (by omega))).trans h.p0, (cellFrm (n xb (by omega))).trans h.f1, (cellFrm (n xb (by omega))).trans h.f2, h.rs.frm (n (wb + 1) (by omega)), wx⟩
/-- The metas' slice is another one. -/
theorem LowIn.put3 (h : LowIn W wb xb pv gy gv f rg gn base vC vM BC BM cl ml pl) {u : Value} {ml' : List (List PartT)} {BM' : Nat → Prop} (ho : OSl layMeta 57 24 W BM' u ml') (hlo : ∀ b, BM' b → xb + 1 + 1 < b ∧ b < W.heap.size) (hdj : ∀ b, BC b → BM' b → False) : LowIn (W.setCell ⟨xb + 1, 3, none⟩ u) wb xb pv gy gv f rg gn base vC u BC BM' cl ml' pl := by
  have n : ∀ b, b ≠ xb + 1 → (W.setCell ⟨xb + 1, 3, none⟩ u).heap[b]? = W.heap[b]? := fun b hb => Below.heap_setCell _ _ _ b hb
  have wx := h.wx
  exact ⟨h.oc.set3, h.oi.set _ _ (fun hb => by have := (h.lo _ hb).1; simp at this; omega), ho.set _ _ (fun hb => by have := (hlo _ hb).1; simp at this; omega),
    fun b hb => ⟨(h.lo b hb).1, by simpa using (h.lo b hb).2⟩, fun b hb => ⟨(hlo b hb).1, by simpa using (hlo b hb).2⟩, hdj, h.pls.frm (n _ (by omega)), (cellFrm (n wb (by omega))).trans h.p0, (cellFrm (n xb (by omega))).trans h.f1, (cellFrm (n xb (by omega))).trans h.f2, h.rs.frm (n (wb + 1) (by omega)), wx⟩
theorem SnocIn.weak {α : Type} {L : Lay α} {T : Nat} {V : World} {B B' : Nat → Prop} {v : Value} {l : List α} {t : List (List Value)} {F : Nat → Nat → Prop} (h : SnocIn L T V B v l t F) (hs : ∀ b, B b → B' b) : SnocIn L T V B' v l t F :=
  ⟨h.tl, h.row, fun g hg => ⟨⟨hs _ (h.own g hg).1.1, (h.own g hg).1.2⟩, (h.own g hg).2⟩, fun i b hf => ⟨hs b (h.inn i b hf).1, (h.inn i b hf).2⟩, h.apart, h.each⟩
/-- An instruction appended to the code: behind the store of the slice; and ahead of it. -/
theorem LowIn.code (h : LowIn V wb xb pv gy gv f rg gn base vC vM BC BM cl ml pl) {g' cap' q : Nat} {t : List (List Value)} {F : Nat → Nat → Prop} {Bx : Nat → Prop} {cs : List Value} {y : IrT} (sn : SnocIn layIr 44 V BC vC cl t F) (hq : cl.length = q) (hr : q ≤ 100000)
    (ho : w6.ownsRow 0 44 9 (.slice (some ⟨g', 0, none⟩) (q + 1) cap') (q + 1) (t.flatten ++ cs)) (hg : w5.grownBy w6 vC.ownBlock) (hat : vC.ownBlock = some g' ∨ g' = w5.heap.size) (bl : Below V.heap.size V w5) (hx : layIr.owns w5 Bx cs y) (hbx : ∀ b, Bx b → V.heap.size ≤ b) :
    (∃ BC' : Nat → Prop, LowIn (w6.setCell ⟨xb + 1, 2, none⟩ (.slice (some ⟨g', 0, none⟩) (q + 1) cap')) wb xb pv gy gv f rg gn base (.slice (some ⟨g', 0, none⟩) (q + 1) cap') vM BC' BM (cl ++ [y]) ml pl) ∧ w6.cell? ⟨wb, 0, none⟩ = some pv ∧ w6.cell? ⟨xb + 1, 2, none⟩ = some vC ∧ w6.frozen? ⟨xb + 1, 2, none⟩ = false ∧ Below (xb + 1) V w6 := by
  have hz := lt_of_cell h.oc.c0
  have hw := h.wx
  obtain ⟨o1, fr⟩ := app_snoc (bytes := 88) (S := fun b => BC b ∨ V.heap.size ≤ b) (sn.weak (fun _ hb => .inl hb)) hq (by omega) ho hg hat bl hx hbx (fun b hb => .inr hb)
  have n : ∀ b, b < V.heap.size → ¬ BC b → w6.heap[b]? = V.heap[b]? := fun b hb hn => fr.block b hb (fun hs => by rcases hs with hs | hs; exact hn hs; omega)
  have nb : ∀ b, b ≤ xb + 1 + 1 → ¬ BC b := fun b hb hh => by have := (h.lo b hh).1; omega
  have hzs : xb + 1 + 1 < V.heap.size := (h.pls.row.lt _ rfl).2
  have e1 := n (xb + 1) hz (nb _ (by omega))
  have e2 := n (xb + 1 + 1) hzs (nb _ (by omega))
  have e3 := n wb (lt_of_cell h.p0) (nb _ (by omega))
  have e4 := n xb (lt_of_cell h.f1) (nb _ (by omega))
  have e5 := n (wb + 1) (lt_of_cell h.rs.c0) (nb _ (by omega))
  have hc : OutC w6 (xb + 1) f rg vC vM := ⟨(cellFrm e1).trans h.oc.c0, (cellFrm e1).trans h.oc.c1, (cellFrm e1).trans h.oc.c2, (cellFrm e1).trans h.oc.c3, (freeFrm e1).trans h.oc.f2, (freeFrm e1).trans h.oc.f3⟩
  have hom := h.om.frm (fun b hb hl => n b hl (fun hc => h.dj b hc hb))
  have m : ∀ b, b ≠ xb + 1 → (w6.setCell ⟨xb + 1, 2, none⟩ (.slice (some ⟨g', 0, none⟩) (q + 1) cap')).heap[b]? = w6.heap[b]? := fun b hb => Below.heap_setCell _ _ _ b hb
  refine ⟨⟨fun b => (BC b ∨ V.heap.size ≤ b) ∧ b < w6.heap.size, ?_⟩, (cellFrm e3).trans h.p0, hc.c2, hc.f2, fr.below (by omega) (fun b hb hs => by rcases hs with hs | hs; exact nb b (by omega) hs; omega)⟩
  exact ⟨hc.set2, o1.clip.set _ _ (fun hb => by have h1 := hb.1; rcases h1 with h1 | h1; exact nb (xb + 1) (by omega) h1; have h2 : V.heap.size ≤ xb + 1 := h1; omega), hom.set _ _ (fun hb => by have h1 : xb + 1 + 1 < xb + 1 := (h.lm _ hb).1; omega),
    fun b hb => ⟨by rcases hb.1 with h1 | h1; exact (h.lo b h1).1; omega, by simpa using hb.2⟩, fun b hb => ⟨(h.lm b hb).1, by have := (h.lm b hb).2; have := fr.size; simp; omega⟩, fun b hb hb' => by rcases hb.1 with h1 | h1; exact h.dj b h1 hb'; have := (h.lm b hb').2; omega,
    (h.pls.frm e2).frm (m _ (by omega)), (cellFrm (m wb (by omega))).trans ((cellFrm e3).trans h.p0), (cellFrm (m xb (by omega))).trans ((cellFrm e4).trans h.f1), (cellFrm (m xb (by omega))).trans ((cellFrm e4).trans h.f2), (h.rs.frm e5).frm (m (wb + 1) (by omega)), hw⟩
/-- A meta appended. -/
theorem LowIn.metas (h : LowIn V wb xb pv gy gv f rg gn base vC vM BC BM cl ml pl) {g' cap' q : Nat} {t : List (List Value)} {F : Nat → Nat → Prop} {Bx : Nat → Prop} {cs : List Value} {y : List PartT} (sn : SnocIn layMeta 57 V BM vM ml t F) (hq : ml.length = q) (hr : q ≤ 100000)
    (ho : w6.ownsRow 0 57 1 (.slice (some ⟨g', 0, none⟩) (q + 1) cap') (q + 1) (t.flatten ++ cs)) (hg : w5.grownBy w6 vM.ownBlock) (hat : vM.ownBlock = some g' ∨ g' = w5.heap.size) (bl : Below V.heap.size V w5) (hx : layMeta.owns w5 Bx cs y) (hbx : ∀ b, Bx b → V.heap.size ≤ b) :
    (∃ BM' : Nat → Prop, LowIn (w6.setCell ⟨xb + 1, 3, none⟩ (.slice (some ⟨g', 0, none⟩) (q + 1) cap')) wb xb pv gy gv f rg gn base vC (.slice (some ⟨g', 0, none⟩) (q + 1) cap') BC BM' cl (ml ++ [y]) pl) ∧ w6.cell? ⟨wb, 0, none⟩ = some pv ∧ w6.cell? ⟨xb + 1, 3, none⟩ = some vM ∧ w6.frozen? ⟨xb + 1, 3, none⟩ = false ∧ Below (xb + 1) V w6 := by
  have hz := lt_of_cell h.oc.c0
  have hw := h.wx
  obtain ⟨o1, fr⟩ := app_snoc (bytes := 24) (S := fun b => BM b ∨ V.heap.size ≤ b) (sn.weak (fun _ hb => .inl hb)) hq (by omega) ho hg hat bl hx hbx (fun b hb => .inr hb)
  have n : ∀ b, b < V.heap.size → ¬ BM b → w6.heap[b]? = V.heap[b]? := fun b hb hn => fr.block b hb (fun hs => by rcases hs with hs | hs; exact hn hs; omega)
  have nb : ∀ b, b ≤ xb + 1 + 1 → ¬ BM b := fun b hb hh => by have := (h.lm b hh).1; omega
  have hzs : xb + 1 + 1 < V.heap.size := (h.pls.row.lt _ rfl).2
  have e1 := n (xb + 1) hz (nb _ (by omega))
  have e2 := n (xb + 1 + 1) hzs (nb _ (by omega))
  have e3 := n wb (lt_of_cell h.p0) (nb _ (by omega))
  have e4 := n xb (lt_of_cell h.f1) (nb _ (by omega))
  have e5 := n (wb + 1) (lt_of_cell h.rs.c0) (nb _ (by omega))
  have hc : OutC w6 (xb + 1) f rg vC vM := ⟨(cellFrm e1).trans h.oc.c0, (cellFrm e1).trans h.oc.c1, (cellFrm e1).trans h.oc.c2, (cellFrm e1).trans h.oc.c3, (freeFrm e1).trans h.oc.f2, (freeFrm e1).trans h.oc.f3⟩
  have hoc := h.oi.frm (fun b hb hl => n b hl (fun hm => h.dj b hb hm))
  have m : ∀ b, b ≠ xb + 1 → (w6.setCell ⟨xb + 1, 3, none⟩ (.slice (some ⟨g', 0, none⟩) (q + 1) cap')).heap[b]? = w6.heap[b]? := fun b hb => Below.heap_setCell _ _ _ b hb
  refine ⟨⟨fun b => (BM b ∨ V.heap.size ≤ b) ∧ b < w6.heap.size, ?_⟩, (cellFrm e3).trans h.p0, hc.c3, hc.f3, fr.below (by omega) (fun b hb hs => by rcases hs with hs | hs; exact nb b (by omega) hs; omega)⟩
  exact ⟨hc.set3, hoc.set _ _ (fun hb => by have h1 : xb + 1 + 1 < xb + 1 := (h.lo _ hb).1; omega), o1.clip.set _ _ (fun hb => by have h1 := hb.1; rcases h1 with h1 | h1; exact nb (xb + 1) (by omega) h1; have h2 : V.heap.size ≤ xb + 1 := h1; omega),
    fun b hb => ⟨(h.lo b hb).1, by have := (h.lo b hb).2; have := fr.size; simp; omega⟩, fun b hb => ⟨by rcases hb.1 with h1 | h1; exact (h.lm b h1).1; omega, by simpa using hb.2⟩, fun b hb hb' => by rcases hb'.1 with h1 | h1; exact h.dj b hb h1; have := (h.lo b hb).2; omega,
    (h.pls.frm e2).frm (m _ (by omega)), (cellFrm (m wb (by omega))).trans ((cellFrm e3).trans h.p0), (cellFrm (m xb (by omega))).trans ((cellFrm e4).trans h.f1), (cellFrm (m xb (by omega))).trans ((cellFrm e4).trans h.f2), (h.rs.frm e5).frm (m (wb + 1) (by omega)), hw⟩
/-- An element of the code is turned in place. -/
theorem LowIn.turn (h : LowIn W wb xb pv gy gv f rg gn base vC vM BC BM cl ml pl) {g o : Nat} {u : Value} {cl' : List IrT} (ho : OSl layIr 44 88 (W.setCell ⟨g, o, none⟩ u) BC vC cl') (hg : BC g) : LowIn (W.setCell ⟨g, o, none⟩ u) wb xb pv gy gv f rg gn base vC vM BC BM cl' ml pl := by
  have hl := (h.lo g hg).1
  have wx := h.wx
  have n : ∀ b, b ≠ g → (W.setCell ⟨g, o, none⟩ u).heap[b]? = W.heap[b]? := fun b hb => Below.heap_setCell _ _ _ b hb
  exact ⟨h.oc.setFar (by show g ≠ xb + 1; omega), ho, h.om.set _ _ (fun hb => h.dj g hg hb), fun b hb => ⟨(h.lo b hb).1, by simpa using (h.lo b hb).2⟩, fun b hb => ⟨(h.lm b hb).1, by simpa using (h.lm b hb).2⟩, h.dj, h.pls.frm (n _ (by omega)), (cellFrm (n wb (by omega))).trans h.p0, (cellFrm (n xb (by omega))).trans h.f1, (cellFrm (n xb (by omega))).trans h.f2, h.rs.frm (n (wb + 1) (by omega)), wx⟩
/-- One element, in a block of its own. -/
theorem osl_one {α : Type} {L : Lay α} {T bytes : Nat} {w : World} {B : Nat → Prop} {cs : List Value} {x : α} (h : L.owns w B cs x) (hB : ∀ b, B b → b < w.heap.size) (hb : 1 * bytes ≤ 140737488351232) : OSl L T bytes (w.alloc (.cells cs.toArray T)) (fun b => B b ∨ b = w.heap.size) (.slice (some ⟨w.heap.size, 0, none⟩) 1 1) [x] := by
  have hl := L.lenO h
  have ho := World.ownsRow_lit (e := T) (size := L.size) (base := 0) w cs.toArray 1 (Nat.zero_le _) (by unfold maxLen; omega) (by simp [hl])
  refine ⟨by simpa using hb, [cs], fun i b => i = 0 ∧ B b, rfl, by simpa using ho, fun g hg => ?_, fun i b hb => .inl hb.2, fun i j b hij hi hj => hij (hi.1.trans hj.1.symm), fun i y hy => ?_⟩
  · cases hg
    exact ⟨.inr rfl, fun i hi => absurd (hB _ hi.2) (Nat.lt_irrefl _)⟩
  · obtain rfl : i = 0 := by have := (List.getElem?_eq_some_iff.1 hy).1; simpa using this
    cases hy
    exact L.frmO (L.subO h (fun b hb _ => ⟨rfl, hb⟩)) (fun b hb hl => (Below.alloc (Below.refl _ _) (Nat.le_refl _) _ : Below w.heap.size w (w.alloc _)).block b hl)
/-- An instruction of the code's own: its K may be turned. -/
theorem ir_k {w : World} {B : Nat → Prop} {cs : List Value} {kd r ra rb k cost mt ip : Int} {args : List Int} (h : layIr.owns w B cs (kd, r, ra, rb, k, args, cost, mt, ip)) (c : Int) : cs[0]? = some (.int .i64 kd) ∧ cs[4]? = some (.int .i64 k) ∧ layIr.owns w B (cs.set 4 (.int .i64 c)) (kd, r, ra, rb, c, args, cost, mt, ip) := by
  obtain ⟨c0, d0, A0, B0, rfl, -, k0, -, h0, c1, d1, A1, B1, rfl, -, k1, -, h1, c2, d2, A2, B2, rfl, -, k2, -, h2, c3, d3, A3, B3, rfl, -, k3, -, h3, c4, d4, A4, B4, rfl, -, k4, -, h4, c5, d5, A5, B5, rfl, k5, -, -, ⟨v, h5, o5⟩, c6, d6, A6, B6, rfl, -, -, -, h6, c7, d7, A7, B7, rfl, -, -, -, h7, h8⟩ := h
  have e0 : c0 = [.int .i64 kd] := h0
  have e1 : c1 = [.int .i64 r] := h1
  have e2 : c2 = [.int .i64 ra] := h2
  have e3 : c3 = [.int .i64 rb] := h3
  have e4 : c4 = [.int .i64 k] := h4
  have e6 : c6 = [.int .i64 cost] := h6
  have e7 : c7 = [.int .i64 mt] := h7
  have e8 : d7 = [.int .i64 ip] := h8
  subst e0 e1 e2 e3 e4 h5 e6 e7 e8
  exact ⟨rfl, rfl, ir_owns (o5.sub (fun b hb _ => k0 b (k1 b (k2 b (k3 b (k4 b (k5 b hb)))))))⟩

end Go.Proofs.YtaimpljkbpnigaaGreatDoor

namespace Go.Proofs.YtaimpljkbpnigaaGreatDoor
open Go.RowKit
set_option linter.unusedVariables false

theorem rowsV_succ (base : Int) (q : Nat) : rowsV base (q + 1) = rowsV base q ++ [(false, base + (q : Int))] := by simp [rowsV, List.range_succ]
theorem rowsV_len (base : Int) (q : Nat) : (rowsV base q).length = q := by simp [rowsV]

set_option maxRecDepth 100000 in
set_option maxHeartbeats 4000000 in
theorem refRows_any (base k : Int) (w : World) (h0 : 0 ≤ base) (h1 : base ≤ 100000) (hk : k ≤ 100000) :
    Calls Tryz.prog 47 #[.int .i64 base, .int .i64 k] w fun e w' => ∃ v, e = .returned v ∧ OSl laySrcs 63 16 w' (fun b => w.heap.size ≤ b) v (rowsV base k.toNat) ∧ Below w.heap.size w w' := by
  obtain ⟨i0, hi, hz0, hz1, hz2⟩ := info_parts Tryz.infoSrcs
  go_enter Tryz.func47, Tryz.ntmps47
  go_wp2_with fail
  go_loopw [5, 6] (fun c i wr => ∃ q : Nat, q ≤ k.toNat ∧ i = .int .i64 q ∧ OSl laySrcs 63 16 wr (fun b => w.heap.size ≤ b) c (rowsV base q) ∧ Below w.heap.size w wr) (fun _ i _ => k.toNat - (intOf i).toNat)
  case atStart => exact ⟨0, Nat.zero_le _, rfl, OSl.nil _ _ _ _ _, Below.refl _ _⟩
  case round =>
    obtain ⟨q, hq, rfl, oc, hb⟩ := hrel
    obtain ⟨Z, hZ⟩ : ∃ Z : World, Z = wr := ⟨_, rfl⟩
    subst hZ
    have HB := hid hb
    have OC := hid oc
    obtain ⟨va, vn, vc, rfl, vs⟩ := oc.reads
    have hvn : vn = q := by have := vs.len; rw [rowsV_len] at this; exact this
    subst hvn
    have hvc := vs.cap
    have hzz : w.heap.size ≤ Z.heap.size := hb.size
    clear hb oc vs
    by_cases hlt : (vn : Int) < k
    · have hlt' : vn < k.toNat := by omega
      have L4 : Hid (Below Z.heap.size Z (Z.alloc (.cells #[.bool false, .int .i64 (base + vn)] 63))) := hid (Below.alloc (Below.refl _ _) (Nat.le_refl _) _)
      have OX : Hid (laySrcs.owns (Z.alloc (.cells #[.bool false, .int .i64 (base + vn)] 63)) (fun _ => False) [.bool false, .int .i64 (base + vn)] (false, base + (vn : Int))) := hid (flatSrcs.owns _ _ (false, base + (vn : Int)))
      obtain ⟨t, F, sn⟩ := OC.out.snocIn
      have SN := hid sn
      have HRW : Hid (Z.ownsRow 0 63 2 (.slice va vn vc) vn t.flatten) := hid (by have := sn.row; rwa [rowsV_len] at this)
      clear sn
      go_wp2_with (at_builtin; refine wpList_append_lies _ rfl _ _ 58 rfl 0 63 i0 (.agg #[.bool false, .int .i64 0]) 2 16 Tryz.underlying58 hi hz0 hz1 hz2 rfl (by decide) (.slice va vn vc) vn t.flatten rfl (owns_kept HRW.out L4.out) ⟨Z.heap.size, 0, none⟩ 1 1 [.bool false, .int .i64 (base + vn)] rfl rfl (news_of rfl _ 63) (by intro u hu; simp only [List.mem_cons, List.not_mem_nil, or_false] at hu; rcases hu with rfl | rfl <;> rfl) (by decide) (by unfold maxLen; omega) (by omega) (Nat.zero_le _) (Z.heap.size + 1) (by simp) ?_; intro g cap w6 ho6 hg6 hat hlt6; have P := hid (app_snoc (bytes := 16) SN.out (rowsV_len base vn) (by omega) ho6 hg6 (by simpa using hat) L4.out OX.out (fun b hb => hb.elim) (fun b hb => by show w.heap.size ≤ b; omega)); clear ho6 hg6 hat hlt6)
      go_roundw
      case rel => exact ⟨vn + 1, hlt', by go_num, by rw [rowsV_succ]; exact P.out.1, HB.out.trans (P.out.2.below hzz (fun k hk => by omega))⟩
      case measure => simp [intOf]; omega
    · have hqk : vn = k.toNat := by omega
      subst hqk
      go_wp2_with fail
      refine bodyPost_ret (v := .slice va k.toNat vc) (by simp [results, Tryz.results47, go_sem]) rfl ⟨_, rfl, OC.out, HB.out⟩

end Go.Proofs.YtaimpljkbpnigaaGreatDoor

namespace Go.Proofs.YtaimpljkbpnigaaGreatDoor
open Go.RowKit
set_option linter.unusedVariables false

theorem set4_frm {y : World} {g : Nat} {v0 v1 v2 v3 : Value} : Frm (fun b => b = g) y ((((y.setCell ⟨g, 0, none⟩ v0).setCell ⟨g, 1, none⟩ v1).setCell ⟨g, 2, none⟩ v2).setCell ⟨g, 3, none⟩ v3) :=
  (((Frm.set (S := fun b => b = g) v0 rfl).trans (Frm.set (S := fun b => b = g) v1 rfl) (fun _ _ h => h)).trans (Frm.set (S := fun b => b = g) v2 rfl) (fun _ _ h => h)).trans (Frm.set (S := fun b => b = g) v3 rfl) (fun _ _ h => h)
theorem drew_size (u : World) : u.drew.heap.size = u.heap.size := rfl

set_option maxRecDepth 100000 in
set_option maxHeartbeats 8000000 in
theorem refPlain_any (pa : Option Addr) (pn pc : Nat) (ps : List Fn) (f : Nat) (q less base : Int) (gx gy : Int) (fl : List (Int × Int)) (w : World) (hp : Fns w pa pn pc ps) (hf : f < ps.length) (e3 : ps.getD f noFn = (gx, gy, fl)) (hgy : 0 ≤ gy ∧ gy ≤ 8) (hb0 : 0 ≤ base ∧ base ≤ 1000) (hl0 : 0 ≤ less ∧ less ≤ 1000) :
    Calls Tryz.prog 27 #[.agg #[.slice pa pn pc], .int .i64 (f : Int), .int .i64 q, .int .i64 less, .int .i64 base] w fun e w' => ∃ a1 n1 c1 a2 n2 c2, e = .returned (.agg #[.int .i64 (f : Int), .int .i64 q, .slice a1 n1 c1, .slice a2 n2 c2]) ∧ layPart.owns w' (fun b => w.heap.size ≤ b) [.int .i64 (f : Int), .int .i64 q, .slice a1 n1 c1, .slice a2 n2 c2] (plainV ps (f : Int) q less base) ∧ Below w.heap.size w w' := by
  have HP := hid hp
  have hpr := hp.room
  have hpc := hp.cap
  have LP := hid hp.len
  have hfn : f < pn := by rw [LP.out]; exact hf
  have hbd := height_le ps (f : Int) q
  obtain ⟨b0, o0, gx', gy', ga, gn, gc, gl, rfl, e3', d0, d1, d2, i3⟩ := hp.at f hfn
  have e := e3.symm.trans e3'
  obtain ⟨rfl, rfl, rfl⟩ : gx = gx' ∧ gy = gy' ∧ fl = gl := by cases e; exact ⟨rfl, rfl, rfl⟩
  have E3 := hid e3
  have z0 := lt_of_cell d0
  obtain ⟨H, hG⟩ : ∃ H : Int, heightV ps (f : Int) q = H := ⟨_, rfl⟩
  rw [hG] at hbd
  have EP : Hid (plainV ps (f : Int) q less base = ((f : Int), q, rowsV base gy.toNat, rowsV (base + gy) (H - less).toNat)) := hid (by
    unfold plainV
    rw [Int.toNat_natCast, e3, hG])
  have HH : Hid (∀ w', Below w.heap.size w w' → Calls Tryz.prog 26 #[.agg #[.slice (some ⟨b0, o0, none⟩) pn pc], .int .i64 (f : Int), .int .i64 q] w' fun e w'' => e = .returned (.int .i64 H) ∧ Below w'.heap.size w' w'') := hid (fun w' b => by
    rw [← hG]
    exact refHeight_any _ _ _ ps _ _ w' (HP.out.kept b))
  have HW : Hid (IntKind.i64.wrap (base + gy) = base + gy ∧ IntKind.i64.wrap (H - less) = H - less) := hid ⟨by rw [IntKind.wrap_i64]; omega, by rw [IntKind.wrap_i64]; omega⟩
  have qf0 : (0 : Int) ≤ (f : Int) := by omega
  have qf1 : (f : Int) < (pn : Int) := by omega
  clear hp e3' e i3 e3 hG d0 d2
  go_enter Tryz.func27, Tryz.ntmps27
  go_upto_region 2 with fail
  refine wp_name ?_
  intro U hU
  have B : Hid (Below w.heap.size w U) := hid (by rw [hU]; go_grown)
  have p0 : U.cell? ⟨w.heap.size, 0, none⟩ = some (.slice (some ⟨b0, o0, none⟩) pn pc) := by rw [hU]; simp [go_sem]
  have hsz : U.heap.size = w.heap.size + 1 + 1 := by rw [hU]; simp
  have RB : Hid (∀ w', Below U.heap.size U w' → (w'.cell? ⟨w.heap.size + 1, 0, none⟩ = some (.int .i64 0) ∧ w'.cell? ⟨w.heap.size + 1, 1, none⟩ = some (.int .i64 0) ∧ w'.cell? ⟨w.heap.size + 1, 2, none⟩ = some (.slice none 0 0) ∧ w'.cell? ⟨w.heap.size + 1, 3, none⟩ = some (.slice none 0 0)) ∧ ∀ j, w'.frozen? ⟨w.heap.size + 1, j, none⟩ = false) := hid (fun w' b => by
    have h0 : U.cell? ⟨w.heap.size + 1, 0, none⟩ = some (.int .i64 0) := by rw [hU]; simp [go_sem]
    have h1 : U.cell? ⟨w.heap.size + 1, 1, none⟩ = some (.int .i64 0) := by rw [hU]; simp [go_sem]
    have h2 : U.cell? ⟨w.heap.size + 1, 2, none⟩ = some (.slice none 0 0) := by rw [hU]; simp [go_sem]
    have h3 : U.cell? ⟨w.heap.size + 1, 3, none⟩ = some (.slice none 0 0) := by rw [hU]; simp [go_sem]
    have hz : ∀ j, U.frozen? ⟨w.heap.size + 1, j, none⟩ = false := by intro j; rw [hU]; simp [go_sem]
    exact ⟨⟨kept_cell b h0, kept_cell b h1, kept_cell b h2, kept_cell b h3⟩, fun j => (b.frozen (p := ⟨w.heap.size + 1, j, none⟩) (lt_of_cell h0)).trans (hz j)⟩)
  have R1 : Hid (∀ w' : World, Calls Tryz.prog 47 #[.int .i64 base, .int .i64 gy] w' fun e w'' => ∃ a n c, e = .returned (.slice a n c) ∧ OSl laySrcs 63 16 w'' (fun b => w'.heap.size ≤ b ∧ b < w''.heap.size) (.slice a n c) (rowsV base gy.toNat) ∧ Below w'.heap.size w' w'') := hid (fun w' => by
    refine (refRows_any base gy w' hb0.1 (by omega) (by omega)).mono ?_
    rintro e y ⟨v, rfl, o, b⟩
    obtain ⟨a, n, c, rfl, _⟩ := o.reads
    exact ⟨a, n, c, rfl, o.clip, b⟩)
  have R2 : Hid (∀ w' : World, Calls Tryz.prog 47 #[.int .i64 (base + gy), .int .i64 (H - less)] w' fun e w'' => ∃ a n c, e = .returned (.slice a n c) ∧ OSl laySrcs 63 16 w'' (fun b => w'.heap.size ≤ b ∧ b < w''.heap.size) (.slice a n c) (rowsV (base + gy) (H - less).toNat) ∧ Below w'.heap.size w' w'') := hid (fun w' => by
    refine (refRows_any (base + gy) (H - less) w' (by omega) (by omega) (by omega)).mono ?_
    rintro e y ⟨v, rfl, o, b⟩
    obtain ⟨a, n, c, rfl, _⟩ := o.reads
    exact ⟨a, n, c, rfl, o.clip, b⟩)
  have SA : Hid (∀ w', Below (w.heap.size + 1) U w' → w'.cell? ⟨w.heap.size, 0, none⟩ = some (.slice (some ⟨b0, o0, none⟩) pn pc)) := hid (fun w' b => (b.cell (p := ⟨w.heap.size, 0, none⟩) (by show w.heap.size < w.heap.size + 1; omega)).trans p0)
  have BC : Below U.heap.size U U := Below.refl _ _
  clear hU p0 d1 E3 HP
  go_region_held3 (fun w' => w'.cell? ⟨w.heap.size, 0, none⟩ = some (.slice (some ⟨b0, o0, none⟩) pn pc)) (first | (refine SA.out _ ?_; (repeat (first | with_reducible exact BC.mono (by omega) | with_reducible refine qDrew ?_ | with_reducible refine Below.setCell ?_ (by first | exact Nat.le_refl _ | omega) _))))
    (first
      | (go_at_call 26; refine (HH.out _ ?hb).mono ?_; (case hb => exact kt B.out (by repeat (first | with_reducible exact BC | with_reducible refine qDrew ?_))); rintro e y2 ⟨rfl, b⟩; have hs2 := b.size; (try rw [drew_size] at hs2); (try (replace O1 := hid (O1.out.kept b))); replace BC : Below U.heap.size U y2 := kt (by repeat (first | with_reducible exact BC | with_reducible refine qDrew ?_)) b; (try clear r0 r1 r2 r3 rz); obtain ⟨⟨r0, r1, r2, r3⟩, rz⟩ := RB.out _ BC; clear b)
      | (go_at_call 47; with_reducible refine (R1.out _).mono ?_; rintro e y1 ⟨a1, n1, c1, rfl, o1, b⟩; have hs1 := b.size; (try rw [drew_size] at hs1); (try (replace O2 := hid (O2.out.kept b))); have O1 := hid o1; replace BC : Below U.heap.size U y1 := kt (by repeat (first | with_reducible exact BC | with_reducible refine qDrew ?_)) b; (try clear r0 r1 r2 r3 rz); obtain ⟨⟨r0, r1, r2, r3⟩, rz⟩ := RB.out _ BC; clear b o1)
      | (go_at_call 47; rw [HW.out.1, HW.out.2]; with_reducible refine (R2.out _).mono ?_; rintro e y3 ⟨a2, n2, c2, rfl, o2, b⟩; have hs3 := b.size; (try rw [drew_size] at hs3); (try (replace O1 := hid (O1.out.kept b))); have O2 := hid o2; replace BC : Below U.heap.size U y3 := kt (by repeat (first | with_reducible exact BC | with_reducible refine qDrew ?_)) b; (try clear r0 r1 r2 r3 rz); obtain ⟨⟨r0, r1, r2, r3⟩, rz⟩ := RB.out _ BC; clear b o2))
  all_goals
    have hdz := drew_size U
    go_wp2_with fail
    refine bodyPost_ret (v := .agg #[.int .i64 (f : Int), .int .i64 q, .slice a1 n1 c1, .slice a2 n2 c2]) (by simp [results, Tryz.results27, go_sem, r0, r1, r2, r3]) rfl ⟨_, _, _, _, _, _, rfl, ?_, ?_⟩
    · rw [EP.out]
      refine layPart.subO (layPart.frmO (part_owns O1.out O2.out (fun b h1 h2 => by omega)) (fun b hb hl => set4_frm.block b hl (fun e => ?_))) (fun b hb _ => ?_)
      · have e' : b = w.heap.size + 1 := e
        rcases hb with ⟨h1, _⟩ | ⟨h1, _⟩ <;> omega
      · show w.heap.size ≤ b
        rcases hb with ⟨h1, _⟩ | ⟨h1, _⟩ <;> omega
    · exact ((((kt B.out BC).setCell (by show w.heap.size ≤ w.heap.size + 1; omega) _).setCell (by show w.heap.size ≤ w.heap.size + 1; omega) _).setCell (by show w.heap.size ≤ w.heap.size + 1; omega) _).setCell (by show w.heap.size ≤ w.heap.size + 1; omega) _

end Go.Proofs.YtaimpljkbpnigaaGreatDoor

namespace Go.Proofs.YtaimpljkbpnigaaGreatDoor
open Go.RowKit
set_option linter.unusedVariables false

/-- The arguments of a call: so many registers ahead of T. -/
def argsN (T kx : Int) (k : Nat) : List Int := (List.range k).map (fun i : Nat => T - kx + (i : Int))
theorem argsN_succ (T kx : Int) (k : Nat) : argsN T kx (k + 1) = argsN T kx k ++ [T - kx + (k : Int)] := by simp [argsN, List.range_succ]
theorem argsN_len (T kx : Int) (k : Nat) : (argsN T kx k).length = k := by simp [argsN]
/-- An instruction in its box. -/
structure IrBox (w : World) (b : Nat) (kd r ra rb k : Int) (v : Value) (cost mt ip : Int) : Prop where
  c0 : w.cell? ⟨b, 0, none⟩ = some (.int .i64 kd)
  c1 : w.cell? ⟨b, 1, none⟩ = some (.int .i64 r)
  c2 : w.cell? ⟨b, 2, none⟩ = some (.int .i64 ra)
  c3 : w.cell? ⟨b, 3, none⟩ = some (.int .i64 rb)
  c4 : w.cell? ⟨b, 4, none⟩ = some (.int .i64 k)
  c5 : w.cell? ⟨b, 5, none⟩ = some v
  c6 : w.cell? ⟨b, 6, none⟩ = some (.int .i64 cost)
  c7 : w.cell? ⟨b, 7, none⟩ = some (.int .i64 mt)
  c8 : w.cell? ⟨b, 8, none⟩ = some (.int .i64 ip)
  fz : ∀ j, w.frozen? ⟨b, j, none⟩ = false
theorem IrBox.frm {w w' : World} {b : Nat} {kd r ra rb k cost mt ip : Int} {v : Value} (h : IrBox w b kd r ra rb k v cost mt ip) (e : w'.heap[b]? = w.heap[b]?) : IrBox w' b kd r ra rb k v cost mt ip :=
  ⟨(cellFrm e).trans h.c0, (cellFrm e).trans h.c1, (cellFrm e).trans h.c2, (cellFrm e).trans h.c3, (cellFrm e).trans h.c4, (cellFrm e).trans h.c5, (cellFrm e).trans h.c6, (cellFrm e).trans h.c7, (cellFrm e).trans h.c8, fun j => (freeFrm e).trans (h.fz j)⟩
theorem IrBox.set5 {w : World} {b : Nat} {kd r ra rb k cost mt ip : Int} {v u : Value} (h : IrBox w b kd r ra rb k v cost mt ip) : IrBox (w.setCell ⟨b, 5, none⟩ u) b kd r ra rb k u cost mt ip :=
  ⟨by rw [World.cell?_setCell_other _ _ _ _ (fun e => by cases e)]; exact h.c0, by rw [World.cell?_setCell_other _ _ _ _ (fun e => by cases e)]; exact h.c1, by rw [World.cell?_setCell_other _ _ _ _ (fun e => by cases e)]; exact h.c2, by rw [World.cell?_setCell_other _ _ _ _ (fun e => by cases e)]; exact h.c3, by rw [World.cell?_setCell_other _ _ _ _ (fun e => by cases e)]; exact h.c4, World.cell?_setCell_same _ _ _ h.c5, by rw [World.cell?_setCell_other _ _ _ _ (fun e => by cases e)]; exact h.c6, by rw [World.cell?_setCell_other _ _ _ _ (fun e => by cases e)]; exact h.c7, by rw [World.cell?_setCell_other _ _ _ _ (fun e => by cases e)]; exact h.c8, fun j => (World.frozen?_setCell _ _ _ _).trans (h.fz j)⟩

set_option maxRecDepth 100000 in
set_option maxHeartbeats 8000000 in
theorem refOneCall_any (pa : Option Addr) (pn pc : Nat) (ps : List Fn) (f q : Nat) (gx gy : Int) (fl : List (Int × Int)) (aN : Nat) (kx ky : Int) (kl : List (Int × Int)) (w : World) (hp : Fns w pa pn pc ps) (hh : 0 ≤ heightV ps (f : Int) (q : Int)) (e3 : ps.getD f noFn = (gx, gy, fl)) (hx : fl[q]? = some (14, (aN : Int))) (ha : aN < ps.length) (e4 : ps.getD aN noFn = (kx, ky, kl)) (hkx : 0 ≤ kx ∧ kx ≤ 4) :
    Calls Tryz.prog 28 #[.agg #[.slice pa pn pc], .int .i64 (f : Int), .int .i64 (q : Int)] w fun e w' => ∃ a n c, e = .returned (.agg #[.int .i64 6, .int .i64 (gy + heightV ps (f : Int) (q : Int) - kx), .int .i64 0, .int .i64 0, .int .i64 (aN : Int), .slice a n c, .int .i64 1, .int .i64 0, .int .i64 (q : Int)]) ∧ OSl layI 3 8 w' (fun b => w.heap.size ≤ b) (.slice a n c) (argsN (gy + heightV ps (f : Int) (q : Int)) kx kx.toNat) ∧ Below w.heap.size w w' := by
  have E4 := hid e4
  have han : aN < pn := by rw [hp.len]; exact ha
  clear e4 ha
  have HP := hid hp
  have LP := hid hp.len
  have hpr := hp.room
  have hpc := hp.cap
  have hbd := height_le ps (f : Int) (q : Int)
  obtain ⟨f', q', hf', hq', hf, hq, he, _, _⟩ := reached_in hh
  obtain rfl : f = f' := by omega
  obtain rfl : q = q' := by omega
  have hpk := (hts_ok he).1
  have hfn : f < pn := by rw [LP.out]; exact hf
  have hvf := fnB_bd (fnB_of hpk hf e3)
  obtain ⟨b0, o0, gx', gy', ga, gn, gc, gl, rfl, e3', d0, d1, d2, i3⟩ := hp.at f hfn
  have e := e3.symm.trans e3'
  obtain ⟨rfl, rfl, rfl⟩ : gx = gx' ∧ gy = gy' ∧ fl = gl := by cases e; exact ⟨rfl, rfl, rfl⟩
  have hqn : q < gn := by rw [i3.len]; exact (List.getElem?_eq_some_iff.1 hx).1
  have hgr := i3.room
  have hgc := i3.cap
  obtain ⟨b1, o1, K', A', rfl, e7, c0, c1⟩ := i3.at q hqn
  have ex : ((14 : Int), (aN : Int)) = (K', A') := by
    rw [List.getD_eq_getElem?_getD, hx] at e7; exact e7
  obtain ⟨rfl, rfl⟩ : 14 = K' ∧ (aN : Int) = A' := by cases ex; exact ⟨rfl, rfl⟩
  have hq64 : q < 64 := by have := i3.len; omega
  have z0 := lt_of_cell d0
  have z1 := lt_of_cell c0
  have hgy : 0 ≤ gy ∧ gy ≤ 8 := by omega
  clear hf' hq' hq he hpk hp e3' e i3 e7 ex hx hvf e3
  have HH := hid hh
  generalize hG : heightV ps (f : Int) (q : Int) = H at hh hbd
  obtain ⟨T, hT⟩ : ∃ T : Int, gy + H = T := ⟨_, rfl⟩
  have hTb : 0 ≤ T ∧ T ≤ 16 := by omega
  have HG := hid hG
  rw [hT]
  clear hG
  go_enter Tryz.func28, Tryz.ntmps28
  go_upto_region 2 with fail
  refine wp_name ?_
  intro U0 hU0
  have B0 : Hid (Below w.heap.size w U0) := hid (by rw [hU0]; go_grown)
  have q0 : U0.cell? ⟨w.heap.size, 0, none⟩ = some (.slice (some ⟨b0, o0, none⟩) pn pc) := by rw [hU0]; simp [go_sem]
  have f1 : U0.cell? ⟨w.heap.size + 1 + 1, 1, none⟩ = some (.int .i64 gy) := by rw [hU0]; simp [go_sem]
  have f2 : U0.cell? ⟨w.heap.size + 1 + 1, 2, none⟩ = some (.slice (some ⟨b1, o1, none⟩) gn gc) := by rw [hU0]; simp [go_sem]
  have s0 : U0.cell? ⟨w.heap.size + 1, 0, none⟩ = some (.int .i64 0) := by rw [hU0]; simp [go_sem]
  have s1 : U0.cell? ⟨w.heap.size + 1, 1, none⟩ = some (.int .i64 0) := by rw [hU0]; simp [go_sem]
  have s2 : U0.cell? ⟨w.heap.size + 1, 2, none⟩ = some (.int .i64 0) := by rw [hU0]; simp [go_sem]
  have s3 : U0.cell? ⟨w.heap.size + 1, 3, none⟩ = some (.int .i64 0) := by rw [hU0]; simp [go_sem]
  have s4 : U0.cell? ⟨w.heap.size + 1, 4, none⟩ = some (.int .i64 0) := by rw [hU0]; simp [go_sem]
  have s5 : U0.cell? ⟨w.heap.size + 1, 5, none⟩ = some (.slice none 0 0) := by rw [hU0]; simp [go_sem]
  have s6 : U0.cell? ⟨w.heap.size + 1, 6, none⟩ = some (.int .i64 0) := by rw [hU0]; simp [go_sem]
  have s7 : U0.cell? ⟨w.heap.size + 1, 7, none⟩ = some (.int .i64 0) := by rw [hU0]; simp [go_sem]
  have s8 : U0.cell? ⟨w.heap.size + 1, 8, none⟩ = some (.int .i64 0) := by rw [hU0]; simp [go_sem]
  have sf : ∀ j, U0.frozen? ⟨w.heap.size + 1, j, none⟩ = false := by intro j; rw [hU0]; simp [go_sem]
  have hu0 : U0.heap.size = w.heap.size + 1 + 1 + 1 := by rw [hU0]; simp
  replace c0 := kept_cell B0.out c0
  replace c1 := kept_cell B0.out c1
  clear hU0 d0 d1 d2 z0 z1
  have HU0 := hid hu0
  clear hu0
  go_upto_region 3 with fail
  refine wp_name ?_
  intro U hU
  have AU : Hid (Below U0.heap.size U0 U) := hid (by rw [hU]; exact Below.alloc (Below.refl _ _) (Nat.le_refl _) _)
  have B : Hid (Below w.heap.size w U) := hid (kt B0.out AU.out)
  have p0 := kept_cell AU.out q0
  have f1 := kept_cell AU.out f1
  have x0 : U.cell? ⟨U0.heap.size, 0, none⟩ = some (.int .i64 14) := by rw [hU]; simp [go_sem]
  have x1 : U.cell? ⟨U0.heap.size, 1, none⟩ = some (.int .i64 (aN : Int)) := by rw [hU]; simp [go_sem]
  have r0 := kept_cell AU.out s0
  have r1 := kept_cell AU.out s1
  have r2 := kept_cell AU.out s2
  have r3 := kept_cell AU.out s3
  have r4 := kept_cell AU.out s4
  have r5 := kept_cell AU.out s5
  have r6 := kept_cell AU.out s6
  have r7 := kept_cell AU.out s7
  have r8 := kept_cell AU.out s8
  have zs : w.heap.size + 1 < U0.heap.size := by have := HU0.out; omega
  have rf : ∀ j, U.frozen? ⟨w.heap.size + 1, j, none⟩ = false := fun j => by rw [AU.out.frozen (p := ⟨w.heap.size + 1, j, none⟩) zs]; exact sf j
  have hzu : w.heap.size + 1 < U.heap.size := lt_of_cell r0
  clear hU c0 c1 q0 f2 sf zs s0 s1 s2 s3 s4 s5 s6 s7 s8
  have gp0 := cell_regrown p0
  have gf1 := cell_regrown f1
  have SH : Hid (∀ u, Below U.heap.size U u → Calls Tryz.prog 26 #[.agg #[.slice (some ⟨b0, o0, none⟩) pn pc], .int .i64 (f : Int), .int .i64 (q : Int)] u fun e w' => e = .returned (.int .i64 H) ∧ Below u.heap.size u w') := hid (fun u hu => by have h := refHeight_any _ _ _ ps (f : Int) (q : Int) u (HP.out.kept (kt B.out hu)); rwa [HG.out] at h)
  refine wp_region_quiet_below (by kernel_rfl) (by kernel_rfl) ?_
  repeat (go_big_quiet_step (first | (go_at_call 26; exact Calls.regrown_of (SH.out _ (below_regrown _ _ _)))))
  refine wpQuiet_nil ?_
  intro _ hw'
  obtain ⟨⟨dq, osq⟩, hw''⟩ := hw'
  subst hw''
  go_upto_region 4 with fail
  refine wp_name ?_
  intro W2 hW2
  have bq : Below U.heap.size U W2 := by rw [hW2]; exact below_regrown _ _ _
  clear hW2
  have B2 := hid (kt B.out bq)
  have rf2 := fun j : Nat => (bq.frozen (p := ⟨w.heap.size + 1, j, none⟩) (by show w.heap.size + 1 < U.heap.size; omega)).trans (rf j)
  replace x0 := kept_cell bq x0
  replace x1 := kept_cell bq x1
  replace r0 := kept_cell bq r0
  replace r1 := kept_cell bq r1
  replace r2 := kept_cell bq r2
  replace r3 := kept_cell bq r3
  replace r4 := kept_cell bq r4
  replace r5 := kept_cell bq r5
  replace r6 := kept_cell bq r6
  replace r7 := kept_cell bq r7
  replace r8 := kept_cell bq r8
  have hz2 := lt_of_cell x0
  have hz3 := lt_of_cell r0
  have HSZ : Hid (w.heap.size ≤ W2.heap.size) := hid (by omega)
  replace p0 := kept_cell bq p0
  clear gp0 gf1 f1 SH rf bq
  obtain ⟨b0', o0', kx', ky', ka, kn, kc, kl', eb, e5, j0, -, -, -⟩ := (HP.out.kept B2.out).at aN han
  cases eb
  have e6 := E4.out.symm.trans e5
  obtain ⟨rfl, rfl, rfl⟩ : kx = kx' ∧ ky = ky' ∧ kl = kl' := by cases e6; exact ⟨rfl, rfl, rfl⟩
  have hA0 : (0 : Int) ≤ (aN : Int) := by omega
  have hA1 : (aN : Int) < (pn : Int) := by omega
  have hkx0 := hkx.1
  have hkx4 := hkx.2
  clear e5 e6
  have hz4 := lt_of_cell p0
  have hz5 := lt_of_cell j0
  have RB := hid (And.intro r0 (And.intro r1 (And.intro r2 (And.intro r3 (And.intro r4 (And.intro r5 (And.intro r6 (And.intro r7 (And.intro r8 rf2)))))))))
  go_upto_region 48 with fail
  refine wp_name ?_
  intro Y hY
  have bY : Hid (Below W2.heap.size W2 Y) := hid (by rw [hY]; go_grown)
  have YB : Hid (IrBox Y W2.heap.size 6 (T - kx) 0 0 (aN : Int) (.slice none 0 0) 1 0 (q : Int)) := hid (by rw [hY]; exact ⟨by simp [go_sem], by simp [go_sem], by simp [go_sem], by simp [go_sem], by simp [go_sem], by simp [go_sem], by simp [go_sem], by simp [go_sem], by simp [go_sem], fun j => by simp [go_sem]⟩)
  clear hY x0 x1 p0 j0 r0 r1 r2 r3 r4 r5 r6 r7 r8 rf2
  go_loopw [12] (fun i wr => ∃ (m : Nat) (va : Option Addr) (vn vc : Nat), m ≤ kx.toNat ∧ i = .int .i64 m ∧ IrBox wr W2.heap.size 6 (T - kx) 0 0 (aN : Int) (.slice va vn vc) 1 0 (q : Int) ∧ OSl layI 3 8 wr (fun b => W2.heap.size < b) (.slice va vn vc) (argsN T kx m) ∧ Below W2.heap.size W2 wr) (fun i _ => kx.toNat - (intOf i).toNat)
  case atStart => exact ⟨0, none, 0, 0, Nat.zero_le _, rfl, YB.out, OSl.nil _ _ _ _ _, bY.out⟩
  case round =>
    clear YB bY
    obtain ⟨m, va, vn, vc, hm, rfl, yb, oc, hb⟩ := hrel
    obtain ⟨Z, hZ⟩ : ∃ Z : World, Z = wr := ⟨_, rfl⟩
    subst hZ
    have HB := hid hb
    have OC := hid oc
    have YB := hid yb
    have hvn : vn = m := by obtain ⟨_, _, _, e9, r9⟩ := oc.reads; cases e9; have := r9.len; rw [argsN_len] at this; exact this
    subst hvn
    have hvc : vn ≤ vc := by obtain ⟨_, _, _, e9, r9⟩ := oc.reads; cases e9; exact r9.cap
    have hwz : W2.heap.size < Z.heap.size := lt_of_cell yb.c0
    clear hb oc
    by_cases hlt : (vn : Int) < kx
    · have hlt' : vn < kx.toNat := by omega
      obtain ⟨j0', hjf, hy0, hy1, hy2⟩ := info_parts Tryz.infoIntC
      have y5 := yb.c5
      have yf := yb.fz 5
      have L4 : Hid (Below Z.heap.size Z (Z.alloc (.cells #[.int .i64 (T - kx + vn)] 3))) := hid (Below.alloc (Below.refl _ _) (Nat.le_refl _) _)
      obtain ⟨t, F, sn⟩ := OC.out.snocIn
      have SN := hid sn
      have HRW : Hid (Z.ownsRow 0 3 1 (.slice va vn vc) vn t.flatten) := hid (by have := sn.row; rwa [argsN_len] at this)
      clear sn yb
      go_wp2_with (at_builtin; refine wpList_append_lies _ rfl _ _ 42 rfl 0 3 j0' (.int .i64 0) 1 8 Tryz.underlying42 hjf hy0 hy1 hy2 rfl (by decide) (.slice va vn vc) vn t.flatten rfl (owns_kept HRW.out L4.out) ⟨Z.heap.size, 0, none⟩ 1 1 [.int .i64 (T - kx + vn)] rfl rfl (news_of rfl _ 3) (by intro u hu; simp only [List.mem_cons, List.not_mem_nil, or_false] at hu; subst hu; rfl) (by decide) (by unfold maxLen; omega) (by omega) (Nat.zero_le _) (Z.heap.size + 1) (by simp) ?_; intro g cap w6 ho6 hg6 hat hlt6; have P := hid (app_snoc (bytes := 8) (L := layI) (y := T - kx + (vn : Int)) (Bx := fun _ => False) SN.out (argsN_len T kx vn) (by omega) ho6 hg6 (by simpa using hat) L4.out rfl (fun b hb => hb.elim) (fun b hb => by show W2.heap.size < b; omega)); have Y6 := hid (YB.out.frm (P.out.2.block _ hwz (Nat.lt_irrefl _))); have y6 := Y6.out.c5; have yf6 := Y6.out.fz 5; clear ho6 hg6 hat hlt6 y5 yf)
      go_roundw
      case rel => exact ⟨vn + 1, _, _, _, hlt', by go_num, Y6.out.set5, by rw [argsN_succ]; exact P.out.1.set _ _ (Nat.lt_irrefl _), (HB.out.trans (P.out.2.below (Nat.le_of_lt hwz) (fun k hk => by omega))).setCell (Nat.le_refl _) _⟩
      case measure => simp [intOf]; omega
    · have hqk : vn = kx.toNat := by omega
      subst hqk
      have bz := HB.out
      have r0 := kept_cell bz RB.out.1
      have r1 := kept_cell bz RB.out.2.1
      have r2 := kept_cell bz RB.out.2.2.1
      have r3 := kept_cell bz RB.out.2.2.2.1
      have r4 := kept_cell bz RB.out.2.2.2.2.1
      have r5 := kept_cell bz RB.out.2.2.2.2.2.1
      have r6 := kept_cell bz RB.out.2.2.2.2.2.2.1
      have r7 := kept_cell bz RB.out.2.2.2.2.2.2.2.1
      have r8 := kept_cell bz RB.out.2.2.2.2.2.2.2.2.1
      have rf := fun j : Nat => (bz.frozen (p := ⟨w.heap.size + 1, j, none⟩) hz3).trans (RB.out.2.2.2.2.2.2.2.2.2 j)
      obtain ⟨y0, y1, y2, y3, y4, y5, y6, y7, y8, -⟩ := yb
      have BZ := hid (kt B2.out bz)
      clear bz
      go_wp2_with fail
      refine bodyPost_ret (v := .agg #[.int .i64 6, .int .i64 (T - kx), .int .i64 0, .int .i64 0, .int .i64 (aN : Int), .slice va kx.toNat vc, .int .i64 1, .int .i64 0, .int .i64 (q : Int)]) (by simp [results, Tryz.results28, go_sem, r0, r1, r2, r3, r4, r5, r6, r7, r8]) rfl ⟨_, _, _, rfl, ?_, ?_⟩
      · have OS := OC.out.sub (B' := fun b => w.heap.size ≤ b ∧ b ≠ w.heap.size + 1) (fun b hb _ => by have hb' : W2.heap.size < b := hb; exact ⟨by omega, by omega⟩)
        refine OSl.sub (B := fun b => w.heap.size ≤ b ∧ b ≠ w.heap.size + 1) ?_ (fun b hb _ => hb.1)
        repeat (first | with_reducible exact OS | with_reducible refine OSl.set ?_ _ _ (fun h => absurd rfl h.2))
      · repeat (first | with_reducible exact BZ.out | with_reducible refine Below.setCell ?_ (by simp) _)

theorem argsN_eq (ps : List Fn) {aN : Nat} {kx ky : Int} {kl : List (Int × Int)} (e4 : ps.getD aN noFn = (kx, ky, kl)) (T pc : Int) : oneV ps T pc (14, (aN : Int)) = (6, T - kx, 0, 0, (aN : Int), argsN T kx kx.toNat, 1, 0, pc) := by
  unfold oneV argsN
  simp only [Int.toNat_natCast, e4]
  rfl
/-- Whatever kind: what is returned is owned. A call's callee is there. -/
theorem refOneAll_any (pa : Option Addr) (pn pc : Nat) (ps : List Fn) (f q : Nat) (gx gy : Int) (fl : List (Int × Int)) (K A : Int) (w : World) (hp : Fns w pa pn pc ps) (hh : 0 ≤ heightV ps (f : Int) (q : Int)) (e3 : ps.getD f noFn = (gx, gy, fl)) (hx : fl[q]? = some (K, A)) (hk : K = 14 → ∃ aN : Nat, A = aN ∧ aN < ps.length ∧ 0 ≤ (ps.getD aN noFn).1 ∧ (ps.getD aN noFn).1 ≤ 4) :
    Calls Tryz.prog 28 #[.agg #[.slice pa pn pc], .int .i64 (f : Int), .int .i64 (q : Int)] w fun e w' => ∃ kd r ra rb k a n c, e = .returned (.agg #[.int .i64 kd, .int .i64 r, .int .i64 ra, .int .i64 rb, .int .i64 k, .slice a n c, .int .i64 1, .int .i64 0, .int .i64 (q : Int)]) ∧ layIr.owns w' (fun b => w.heap.size ≤ b ∧ b < w'.heap.size) [.int .i64 kd, .int .i64 r, .int .i64 ra, .int .i64 rb, .int .i64 k, .slice a n c, .int .i64 1, .int .i64 0, .int .i64 (q : Int)] (oneV ps (gy + heightV ps (f : Int) (q : Int)) (q : Int) (K, A)) ∧ Below w.heap.size w w' := by
  by_cases h : K = 14
  · subst h
    obtain ⟨aN, rfl, ha, h0, h4⟩ := hk rfl
    obtain ⟨⟨kx, ky, kl⟩, hq⟩ : ∃ x, ps.getD aN noFn = x := ⟨_, rfl⟩
    rw [hq] at h0 h4
    refine (refOneCall_any _ _ _ ps f q gx gy fl aN kx ky kl w hp hh e3 hx ha hq ⟨h0, h4⟩).mono ?_
    rintro e y ⟨a, n, c, rfl, o, b⟩
    refine ⟨_, _, _, _, _, _, _, _, rfl, ?_, b⟩
    rw [argsN_eq ps hq]
    exact ir_owns o.clip
  · refine (refOne_any _ _ _ ps f q gx gy fl K A w hp hh e3 hx h).mono ?_
    rintro e y ⟨kd, r, ra, rb, k, rfl, eo, b⟩
    refine ⟨_, _, _, _, _, _, _, _, rfl, ?_, b⟩
    rw [eo]
    exact ir_owns (OSl.nil layI 3 8 _ _)

end Go.Proofs.YtaimpljkbpnigaaGreatDoor

namespace Go.Proofs.YtaimpljkbpnigaaGreatDoor
open Go.RowKit
set_option linter.unusedVariables false

theorem take_set {pl s : List Int} {q : Nat} {x : Int} (h : pl.take q = s) (hq : q < pl.length) : (pl.set q x).take (q + 1) = s ++ [x] := by
  rw [List.take_add_one, List.take_set_of_le (Nat.le_refl _), h]
  simp [hq]

set_option maxRecDepth 100000 in
set_option maxHeartbeats 40000000 in
theorem refLow_any (pa : Option Addr) (pn pc : Nat) (ps : List Fn) (f : Nat) (gx gy : Int) (fl : List (Int × Int)) (w : World) (hp : Fns w pa pn pc ps) (hv : verV ps = 0) (hf : f < ps.length) (e3 : ps.getD f noFn = (gx, gy, fl)) :
    Calls Tryz.prog 9 #[.agg #[.slice pa pn pc], .int .i64 (f : Int)] w fun e w' => ∃ v u B1 B2, e = .returned (.tuple #[.agg #[.int .i64 (f : Int), .int .i64 (gy + 8), v, u], .int .i64 0]) ∧ OSl layIr 44 88 w' B1 v ((lowN ps f (gx, gy, fl) fl.length).1.map (toPlace (lowN ps f (gx, gy, fl) fl.length).2.2)) ∧ OSl layMeta 57 24 w' B2 u (lowN ps f (gx, gy, fl) fl.length).2.1 ∧ (∀ b, B1 b → w.heap.size ≤ b) ∧ (∀ b, B2 b → w.heap.size ≤ b) ∧ (∀ b, B1 b → B2 b → False) ∧ Below w.heap.size w w' := by
  obtain ⟨i0, hi, hz0, hz1, hz2⟩ := info_parts Tryz.infoIr
  obtain ⟨m0, hm, mz0, mz1, mz2⟩ := info_parts Tryz.infoMeta
  have HP := hid hp
  have LP := hid hp.len
  have hpr := hp.room
  have hpc := hp.cap
  have HV := hid hv
  have E3 := hid e3
  have hvf := ver_fn hv hf e3
  have hfn : f < pn := by rw [LP.out]; exact hf
  have hgy : 0 ≤ gy ∧ gy ≤ 8 := by omega
  have HF := hid hf
  have HGY := hid hgy
  clear hp hv e3
  have qf0 : (0 : Int) ≤ (f : Int) := by omega
  have qf1 : (f : Int) < (pn : Int) := by omega
  go_enter Tryz.func9, Tryz.ntmps9
  go_upto_region 1 with fail
  refine wp_name ?_
  intro U hU
  have B : Hid (Below w.heap.size w U) := hid (by rw [hU]; go_grown)
  have p0 : U.cell? ⟨w.heap.size, 0, none⟩ = some (.slice pa pn pc) := by rw [hU]; simp [go_sem]
  have R0 : Hid ((U.cell? ⟨w.heap.size + 1, 0, none⟩ = some (.int .i64 0) ∧ U.cell? ⟨w.heap.size + 1, 1, none⟩ = some (.int .i64 0) ∧ U.cell? ⟨w.heap.size + 1, 2, none⟩ = some (.slice none 0 0) ∧ U.cell? ⟨w.heap.size + 1, 3, none⟩ = some (.slice none 0 0)) ∧ ∀ j, U.frozen? ⟨w.heap.size + 1, j, none⟩ = false) := hid (by rw [hU]; exact ⟨⟨by simp [go_sem], by simp [go_sem], by simp [go_sem], by simp [go_sem]⟩, fun j => by simp [go_sem]⟩)
  clear hU
  have SV : Hid (∀ u, Below U.heap.size U u → Calls Tryz.prog 25 #[.agg #[.slice pa pn pc]] u fun e w' => e = .returned (.int .i64 0) ∧ Below u.heap.size u w') := hid (fun u hu => by have h := refVerify_any _ _ _ ps u (HP.out.kept (kt B.out hu)); rwa [HV.out] at h)
  have d1 : decide ((f : Int) < 0) = false := by simp
  have d2 : decide ((pn : Int) ≤ (f : Int)) = false := by simp; omega
  have d2' : decide (pn ≤ f) = false := by simp; omega
  go_wp2_with fail
  refine (SV.out _ (Below.refl _ _)).mono ?_
  rintro e X ⟨rfl, bX⟩
  have BX := hid (kt B.out bX)
  replace p0 := kept_cell bX p0
  have RX : Hid ((X.cell? ⟨w.heap.size + 1, 0, none⟩ = some (.int .i64 0) ∧ X.cell? ⟨w.heap.size + 1, 1, none⟩ = some (.int .i64 0) ∧ X.cell? ⟨w.heap.size + 1, 2, none⟩ = some (.slice none 0 0) ∧ X.cell? ⟨w.heap.size + 1, 3, none⟩ = some (.slice none 0 0)) ∧ ∀ j, X.frozen? ⟨w.heap.size + 1, j, none⟩ = false) := hid ⟨⟨kept_cell bX R0.out.1.1, kept_cell bX R0.out.1.2.1, kept_cell bX R0.out.1.2.2.1, kept_cell bX R0.out.1.2.2.2⟩, fun j => (bX.frozen (p := ⟨w.heap.size + 1, j, none⟩) (lt_of_cell R0.out.1.1)).trans (R0.out.2 j)⟩
  clear SV bX
  have D12 := hid (And.intro d1 (And.intro d2 d2'))
  clear d1 d2 d2'
  obtain ⟨bp, op, gx', gy', ga, gn, gc, gl, rfl, e3', d0, d1, d2, i3⟩ := HP.out.at f hfn
  have e := E3.out.symm.trans e3'
  obtain ⟨rfl, rfl, rfl⟩ : gx = gx' ∧ gy = gy' ∧ fl = gl := by cases e; exact ⟨rfl, rfl, rfl⟩
  have LG := hid i3.len
  have hgr := i3.room
  have hgc := i3.cap
  have hgn : gn ≤ 64 := by rw [LG.out]; omega
  have I3 := hid i3
  replace d0 := kept_cell BX.out d0
  replace d1 := kept_cell BX.out d1
  replace d2 := kept_cell BX.out d2
  have hzX := lt_of_cell d0
  have hzp := lt_of_cell p0
  have hmk := make_places gn (by omega)
  clear e3' e i3
  have D1 := D12.out.1
  have D2 := D12.out.2.1
  have D3 := D12.out.2.2
  go_upto_region 7 with fail
  refine wp_name ?_
  intro Y hY
  have AY : Hid (Below X.heap.size X Y) := hid (by rw [hY]; go_grown)
  have BY := hid (kt BX.out AY.out)
  have hWX : Hid (w.heap.size + 2 ≤ X.heap.size) := hid (by have := lt_of_cell RX.out.1.1; omega)
  have LY : Hid (LowIn Y w.heap.size X.heap.size (.slice (some ⟨bp, op, none⟩) pn pc) gy (.slice ga gn gc) (f : Int) (gy + 8) gn w.heap.size (.slice none 0 0) (.slice none 0 0) (fun _ => False) (fun _ => False) [] [] (List.replicate gn 0)) := hid (by
    have e : Y.heap[w.heap.size + 1]? = X.heap[w.heap.size + 1]? := AY.out.block _ (lt_of_cell RX.out.1.1)
    have h0 := kept_cell AY.out p0
    have hps : PlSt Y (X.heap.size + 1 + 1) gn w.heap.size (List.replicate gn 0) := by
      rw [hY]
      have := PlSt.make ((X.alloc (.cells #[.int .i64 gx, .int .i64 gy, .slice ga gn gc] 51)).alloc (.cells #[.int .i64 (f : Int), .int .i64 (gy + 8), .slice none 0 0, .slice none 0 0] 29)) gn w.heap.size (by have := BX.out.size; simp; omega) (by unfold maxLen; omega)
      simpa using this
    have hoc : OutC Y (X.heap.size + 1) (f : Int) (gy + 8) (.slice none 0 0) (.slice none 0 0) := by rw [hY]; exact ⟨by simp [go_sem], by simp [go_sem], by simp [go_sem], by simp [go_sem], by simp [go_sem], by simp [go_sem]⟩
    exact ⟨hoc, OSl.nil _ _ _ _ _, OSl.nil _ _ _ _ _, fun b hb => hb.elim, fun b hb => hb.elim, fun b hb _ => hb, hps, h0, by rw [hY]; simp [go_sem], by rw [hY]; simp [go_sem], (Res0.mk RX.out.1.1 RX.out.1.2.1 RX.out.1.2.2.1 RX.out.1.2.2.2 RX.out.2).frm e, by have := hWX.out; omega⟩)
  have y0 := LY.out.f2
  have HGN := hid hgn
  clear hY d0 d1 d2 hzX hmk D1 D2 D3 p0 hzp
  go_loopw [9] (fun i wr => ∃ (q : Nat) (vC vM : Value) (CB MB : Nat → Prop) (pl : List Int), q ≤ gn ∧ i = .int .i64 q ∧ LowIn wr w.heap.size X.heap.size (.slice (some ⟨bp, op, none⟩) pn pc) gy (.slice ga gn gc) (f : Int) (gy + 8) gn w.heap.size vC vM CB MB (lowN ps f (gx, gy, fl) q).1 (lowN ps f (gx, gy, fl) q).2.1 pl ∧ pl.take q = (lowN ps f (gx, gy, fl) q).2.2 ∧ Below w.heap.size w wr) (fun i _ => gn - (intOf i).toNat)
  case atStart => exact ⟨0, _, _, _, _, _, Nat.zero_le _, rfl, LY.out, by simp [lowN], BY.out⟩
  case round =>
    clear LY BY AY y0
    obtain ⟨q, vC, vM, CB, MB, pl, hq, rfl, li, hpl, hb⟩ := hrel
    obtain ⟨V, hV⟩ : ∃ V : World, V = wr := ⟨_, rfl⟩
    subst hV
    have L0 := hid li
    have HB := hid hb
    obtain ⟨va, vn, vc, rfl, rC⟩ := li.oi.reads
    obtain ⟨ma, mn, mc, rfl, rM⟩ := li.om.reads
    have HQ : Hid ((lowN ps f (gx, gy, fl) q).1.length = vn) := hid rC.len.symm
    have LENQ : Hid ((lowN ps f (gx, gy, fl) q).1.length = vn) := hid rC.len.symm
    have HM : Hid ((lowN ps f (gx, gy, fl) q).2.1.length = mn) := hid rM.len.symm
    have hlb := low_len ps f (gx, gy, fl) q
    have hv128 : vn ≤ 128 := by have := HQ.out; omega
    have hm64 : mn ≤ 64 := by have := HM.out; omega
    have hvc := rC.cap
    have hmc := rM.cap
    have hwx := hWX.out
    have hpll : pl.length = gn := li.pls.len
    have f2 := li.f2
    have HPL := hid hpl
    clear li hb rC rM hlb
    by_cases hlt : q < gn
    · obtain ⟨bi, oi, kN, aN, rfl, e7, k0w, k1w⟩ := I3.out.at q hlt
      have hx0 : fl[q]? = some (kN, aN) := by
        rw [List.getD_eq_getElem?_getD, List.getElem?_eq_getElem (by have := LG.out; omega)] at e7
        rw [List.getElem?_eq_getElem (by have := LG.out; omega), ← e7]; rfl
      have HX := hid hx0
      have hbi := lt_of_cell k0w
      have s1 := L0.out.pls.at q hlt
      have s2 := L0.out.pls.free q
      have c2 := L0.out.oc.c2
      have hq64 : q < 64 := by omega
      generalize pl.getD q 0 = y at s1
      clear e7 hx0 hpl
      go_upto_region 10 with fail
      refine wp_name ?_
      intro VS hVS
      have L1 : Hid (LowIn VS w.heap.size X.heap.size (.slice (some ⟨bp, op, none⟩) pn pc) gy (.slice (some ⟨bi, oi, none⟩) gn gc) (f : Int) (gy + 8) gn w.heap.size (.slice va vn vc) (.slice ma mn mc) CB MB (lowN ps f (gx, gy, fl) q).1 (lowN ps f (gx, gy, fl) q).2.1 (pl.set q (vn : Int))) := hid (by rw [hVS]; exact L0.out.place q _)
      have BW1 : Hid (Below w.heap.size w VS) := hid (by rw [hVS]; exact HB.out.setCell (by show w.heap.size ≤ X.heap.size + 1 + 1; omega) _)
      have p0 := L1.out.p0
      clear hVS s1 s2 c2 f2
      go_wp2_with fail
      refine (refHeight_any _ _ _ ps (f : Int) (q : Int) _ (HP.out.kept BW1.out)).mono ?_
      rintro e V1 ⟨rfl, bV1⟩
      have L2 := hid (L1.out.kept bV1)
      have BW2 := hid (kt BW1.out bV1)
      have f2 := L2.out.f2
      have k0 := kept_cell BW2.out k0w
      have k1 := kept_cell BW2.out k1w
      clear bV1 p0
      obtain ⟨HT, hHT⟩ : ∃ HT : Int, heightV ps (f : Int) (q : Int) = HT := ⟨_, rfl⟩
      rw [hHT]
      by_cases hh : HT < 0
      · have LG2 := hid (lowN_gone (ps := ps) (fn := f) (f := (gx, gy, fl)) (q := q) (by rw [hHT]; exact hh))
        go_wp2_with fail
        go_roundw
        case rel =>
          refine ⟨q + 1, _, _, CB, MB, _, by omega, by go_num, by rw [LG2.out]; exact L2.out, ?_, BW2.out⟩
          rw [LG2.out, HQ.out]
          exact take_set HPL.out (by omega)
        case measure => simp [intOf]; omega
      have HH : Hid (0 ≤ heightV ps (f : Int) (q : Int)) := hid (by rw [hHT]; omega)
      have HIN := hid (ins_in HV.out HH.out E3.out HX.out)
      have zk := lt_of_cell k0
      have zf := lt_of_cell f2
      go_upto_region 12 with fail
      refine wp_name ?_
      intro V2 hV2
      have b2 : Below V1.heap.size V1 V2 := by rw [hV2]; exact Below.alloc (Below.refl _ _) (Nat.le_refl _) _
      have x0 : V2.cell? ⟨V1.heap.size, 0, none⟩ = some (.int .i64 kN) := by rw [hV2]; simp [go_sem]
      have x1 : V2.cell? ⟨V1.heap.size, 1, none⟩ = some (.int .i64 aN) := by rw [hV2]; simp [go_sem]
      have L3 := hid (L2.out.kept b2)
      have BW3 := hid (kt BW2.out b2)
      obtain ⟨bk, hbk⟩ : ∃ bk : Bool, backB (q : Int) (kN, aN) = bk := ⟨_, rfl⟩
      have HBK := hid hbk
      clear hV2 b2 k0 k1 f2 zk zf hHT hh k0w k1w hbi
      go_cut [77] (fun c wx => c = .bool bk ∧ wx = V2)
      case first =>
        by_cases h12 : kN = 12
        · subst h12
          by_cases hle : aN ≤ (q : Int)
          · have d1 : decide (aN ≤ (q : Int)) = true := by simpa using hle
            go_wp2_with fail
            go_meet
            case rel => exact ⟨by rw [← HBK.out]; simp [backB, hle], rfl⟩
          · have d1 : decide (aN ≤ (q : Int)) = false := by simpa using hle
            go_wp2_with fail
            go_meet
            case rel => exact ⟨by rw [← HBK.out]; simp [backB, hle], rfl⟩
        · have g12 : (kN == 12) = false := by simpa using h12
          by_cases h13 : kN = 13
          · subst h13
            by_cases hle : aN ≤ (q : Int)
            · have d1 : decide (aN ≤ (q : Int)) = true := by simpa using hle
              go_wp2_with fail
              go_meet
              case rel => exact ⟨by rw [← HBK.out]; simp [backB, hle], rfl⟩
            · have d1 : decide (aN ≤ (q : Int)) = false := by simpa using hle
              go_wp2_with fail
              go_meet
              case rel => exact ⟨by rw [← HBK.out]; simp [backB, hle], rfl⟩
          · have g13 : (kN == 13) = false := by simpa using h13
            go_wp2_with fail
            go_meet
            case rel => exact ⟨by rw [← HBK.out]; simp [backB, h12, h13], rfl⟩
      case rest =>
        obtain ⟨rfl, rfl⟩ := hcut
        clear x0 x1
        have d3 := L3.out.oc.c3
        have d2 := L3.out.oc.c2
        have df2 := L3.out.oc.f2
        have hzq := lt_of_cell d2
        have HWC : Hid (w.heap.size ≤ wc.heap.size) := hid (by omega)
        cases bk
        · have ST := hid (lowN_on (gx := gx) (gy := gy) (Int.not_lt.2 HH.out) HX.out HBK.out)
          clear d2 df2 d3
          go_upto_region 15 with fail
          obtain ⟨t, F, sn⟩ := L3.out.oi.snocIn
          have SN := hid sn
          have HRW : Hid (wc.ownsRow 0 44 9 (.slice va vn vc) vn t.flatten) := hid (by have := sn.row; rwa [HQ.out] at this)
          have SA : Hid (∀ w', Below wc.heap.size wc w' → w'.cell? ⟨w.heap.size, 0, none⟩ = some (.slice (some ⟨bp, op, none⟩) pn pc) ∧ w'.cell? ⟨X.heap.size + 1, 2, none⟩ = some (.slice va vn vc)) := hid (fun w' b => ⟨kept_cell b L3.out.p0, kept_cell b L3.out.oc.c2⟩)
          have BC : Below wc.heap.size wc wc := Below.refl _ _
          clear sn
          refine wp_region_L 9 (fun w' => w'.cell? ⟨w.heap.size, 0, none⟩ = some (.slice (some ⟨bp, op, none⟩) pn pc)) (fun w' => w'.cell? ⟨X.heap.size + 1, 2, none⟩ = some (.slice va vn vc)) (by kernel_rfl) ?_ (fun hH0 => ?_)
          · (try dsimp only); first | (refine SA.out _ ?_; (repeat (first | with_reducible exact BC | with_reducible refine qDrew ?_ | with_reducible refine qAlloc ?_)); done) | exact ⟨P.out.2.1, P.out.2.2.1⟩
          refine wpL_take (i := 0) (oi := ⟨_, _, _, _, _, _⟩) (v := ?_) rfl (by kernel_rfl) (by kernel_rfl) (by kernel_rfl) (by kernel_rfl) (by kernel_rfl) (fun _ _ _ h => h) (Or.inl ⟨by rfl, ?_⟩) (by exact hH0) ?_
          rotate_left
          · (intro x hx; (try dsimp only at hx); go_simp; try (with_reducible rfl))
          try simp only [Act.put, List.setIfInBounds_toArray, List.set_cons_zero, List.set_cons_succ]
          refine wpL_take (i := 1) (oi := ⟨_, _, _, _, _, _⟩) (v := ?_) rfl (by kernel_rfl) (by kernel_rfl) (by kernel_rfl) (by kernel_rfl) (by kernel_rfl) (fun _ _ _ h => h) (Or.inl ⟨by rfl, ?_⟩) (by exact hH0) ?_
          rotate_left
          · (intro x hx; (try dsimp only at hx); go_simp; try (with_reducible rfl))
          try simp only [Act.put, List.setIfInBounds_toArray, List.set_cons_zero, List.set_cons_succ]
          refine wpL_take (i := 2) (oi := ⟨_, _, _, _, _, _⟩) (v := ?_) rfl (by kernel_rfl) (by kernel_rfl) (by kernel_rfl) (by kernel_rfl) (by kernel_rfl) (fun _ _ _ h => h) (Or.inl ⟨by rfl, ?_⟩) (by exact hH0) ?_
          rotate_left
          · (intro x hx; (try dsimp only at hx); go_simp; try (with_reducible rfl))
          try simp only [Act.put, List.setIfInBounds_toArray, List.set_cons_zero, List.set_cons_succ]
          refine wpL_take (i := 3) (oi := ⟨_, _, _, _, _, _⟩) (v := ?_) rfl (by kernel_rfl) (by kernel_rfl) (by kernel_rfl) (by kernel_rfl) (by kernel_rfl) (fun _ _ _ h => h) (Or.inl ⟨by rfl, ?_⟩) (by exact hH0) ?_
          rotate_left
          · (intro x hx; (try dsimp only at hx); go_simp; try (with_reducible rfl))
          try simp only [Act.put, List.setIfInBounds_toArray, List.set_cons_zero, List.set_cons_succ]
          refine wpL_take (i := 4) (oi := ⟨_, _, _, _, _, _⟩) (v := ?_) rfl (by kernel_rfl) (by kernel_rfl) (by kernel_rfl) (by kernel_rfl) (by kernel_rfl) (fun _ _ _ h => h) (Or.inl ⟨by rfl, ?_⟩) (by exact hH0) ?_
          rotate_left
          · (intro x hx; (try dsimp only at hx); go_simp; try (with_reducible rfl))
          try simp only [Act.put, List.setIfInBounds_toArray, List.set_cons_zero, List.set_cons_succ]
          refine wpL_ready (rs := [5]) (by kernel_rfl) (by simp) ?_
          refine eachL_cons (o := ⟨_, _, _, _, _, _⟩) rfl (by rfl) (fun K hK => ?_) ?_
          · skip
            go_simp
            refine (refOneAll_any _ _ _ ps f q gx gy fl kN aN _ (HP.out.kept (kt BW3.out (by repeat (first | with_reducible exact BC | with_reducible refine qDrew ?_ | with_reducible refine qAlloc ?_)))) HH.out E3.out HX.out HIN.out.1).mono ?_; rintro e w1 ⟨kd, r, ra, rb, k, xa, xn, xc, rfl, ow, b1⟩; have OW := hid ow; replace BC := kt (Below.drew BC) b1; clear ow b1
            refine hK.out _ _ ?_ (fun hH1 => ?_)
            · (try dsimp only); first | (refine SA.out _ ?_; (repeat (first | with_reducible exact BC | with_reducible refine qDrew ?_ | with_reducible refine qAlloc ?_)); done) | exact ⟨P.out.2.1, P.out.2.2.1⟩
            clear hK K hH0
            try simp only [Act.put, List.setIfInBounds_toArray, List.set_cons_zero, List.set_cons_succ]
            refine wpL_ready (rs := [6]) (by kernel_rfl) (by simp) ?_
            refine eachL_cons (o := ⟨_, _, _, _, _, _⟩) rfl (by rfl) (fun K hK => ?_) ?_
            · skip
              go_simp
              refine hK.out _ _ ?_ (fun hH2 => ?_)
              · (try dsimp only); first | (refine SA.out _ ?_; (repeat (first | with_reducible exact BC | with_reducible refine qDrew ?_ | with_reducible refine qAlloc ?_)); done) | exact ⟨P.out.2.1, P.out.2.2.1⟩
              clear hK K hH1
              try simp only [Act.put, List.setIfInBounds_toArray, List.set_cons_zero, List.set_cons_succ]
              refine wpL_ready (rs := [7]) (by kernel_rfl) (by simp) ?_
              refine eachL_cons (o := ⟨_, _, _, _, _, _⟩) rfl (by rfl) (fun K hK => ?_) ?_
              · skip
                refine step_append_lies _ rfl (.tmp 100) (.tmp 105) 26 rfl 0 44 i0 (.agg #[.int .i64 0, .int .i64 0, .int .i64 0, .int .i64 0, .int .i64 0, .slice none 0 0, .int .i64 0, .int .i64 0, .int .i64 0]) 9 88 Tryz.underlying26 hi hz0 hz1 hz2 rfl (by decide) (.slice va vn vc) vn t.flatten (by simp [Act.eval]) (owns_kept HRW.out (by repeat (first | with_reducible exact BC | with_reducible refine qDrew ?_ | with_reducible refine qAlloc ?_))) ⟨w1.heap.size, 0, none⟩ 1 1 [.int .i64 kd, .int .i64 r, .int .i64 ra, .int .i64 rb, .int .i64 k, .slice xa xn xc, .int .i64 1, .int .i64 0, .int .i64 (q : Int)] (by simp [Act.eval]) rfl (news_of (by simp) _ 44) (by intro u hu; simp only [List.mem_cons, List.not_mem_nil, or_false] at hu; rcases hu with rfl | rfl | rfl | rfl | rfl | rfl | rfl | rfl | rfl <;> rfl) (by decide) (by unfold maxLen; omega) (by omega) (Nat.zero_le _) (w1.heap.size + 1) (by simp) ?_; intro g cap w6 ho6 hg6 hat hlt6; have L5 := hid (show Below wc.heap.size wc (w1.alloc (.cells #[.int .i64 kd, .int .i64 r, .int .i64 ra, .int .i64 rb, .int .i64 k, .slice xa xn xc, .int .i64 1, .int .i64 0, .int .i64 (q : Int)] 44)) from by repeat (first | with_reducible exact BC | with_reducible refine qDrew ?_ | with_reducible refine qAlloc ?_)); have OX := hid (layIr.frmO OW.out (fun b hb hl => (Below.alloc (Below.refl _ _) (Nat.le_refl _) _ : Below w1.heap.size w1 (w1.alloc (.cells #[.int .i64 kd, .int .i64 r, .int .i64 ra, .int .i64 rb, .int .i64 k, .slice xa xn xc, .int .i64 1, .int .i64 0, .int .i64 (q : Int)] 44))).block b hl)); have P := hid (L3.out.code SN.out HQ.out (by omega) ho6 hg6 (by simpa using hat) L5.out OX.out (fun b hb => hb.1)); obtain ⟨d2, df2⟩ := And.intro P.out.2.2.1 P.out.2.2.2.1; clear ho6 hg6 hat hlt6
                refine hK.out _ _ ?_ (fun hH3 => ?_)
                · (try dsimp only); first | (refine SA.out _ ?_; (repeat (first | with_reducible exact BC | with_reducible refine qDrew ?_ | with_reducible refine qAlloc ?_)); done) | exact ⟨P.out.2.1, P.out.2.2.1⟩
                clear hK K hH2
                try simp only [Act.put, List.setIfInBounds_toArray, List.set_cons_zero, List.set_cons_succ]
                refine wpL_take (i := 8) (oi := ⟨_, _, _, _, _, _⟩) (v := ?_) rfl (by kernel_rfl) (by kernel_rfl) (by kernel_rfl) (by kernel_rfl) (by kernel_rfl) (fun _ _ _ h => h) (Or.inl ⟨by rfl, ?_⟩) (by exact hH3) ?_
                rotate_left
                · (intro x hx; (try dsimp only at hx); go_simp; try (with_reducible rfl))
                try simp only [Act.put, List.setIfInBounds_toArray, List.set_cons_zero, List.set_cons_succ]
                refine wpL_ready (rs := [9]) (by kernel_rfl) (by simp) ?_
                refine eachL_last (o := ⟨_, _, _, _, _, _⟩) rfl (fun K hK => ?_)
                go_simp
                refine hK.out _ _ ?_ ?_
                · (try dsimp only); exact cell_set_far P.out.2.1 (by show w.heap.size ≠ X.heap.size + 1; omega)
                clear hK K
                try simp only [Act.put, List.setIfInBounds_toArray, List.set_cons_zero, List.set_cons_succ]
                refine wpL_done (by kernel_rfl) ?_ _
                go_wp2_with fail
                go_roundw
                case rel =>
                  obtain ⟨CB', L'⟩ := P.out.1
                  refine ⟨q + 1, _, _, CB', _, _, by omega, by go_num, by rw [ST.out]; exact L', ?_, ?_⟩
                  · rw [ST.out, LENQ.out]; exact take_set HPL.out (by omega)
                  · exact ((BW3.out.trans (P.out.2.2.2.2.mono (by omega))).setCell (by show w.heap.size ≤ X.heap.size + 1; omega) _)
                case measure => simp [intOf]; omega
              exact eachL_nil
            exact eachL_nil
          exact eachL_nil
        · have ST := hid (lowN_back (gx := gx) (gy := gy) (Int.not_lt.2 HH.out) HX.out HBK.out)
          obtain ⟨t, F, sn⟩ := L3.out.oi.snocIn
          have SN := hid sn
          have HRW : Hid (wc.ownsRow 0 44 9 (.slice va vn vc) vn t.flatten) := hid (by have := sn.row; rwa [HQ.out] at this)
          have L4 : Hid (Below wc.heap.size wc (wc.alloc (.cells #[.int .i64 10, .int .i64 0, .int .i64 0, .int .i64 0, .int .i64 0, .slice none 0 0, .int .i64 0, .int .i64 (mn : Int), .int .i64 (q : Int)] 44))) := hid (Below.alloc (Below.refl _ _) (Nat.le_refl _) _)
          have OX := hid (ir_owns (w := wc.alloc (.cells #[.int .i64 10, .int .i64 0, .int .i64 0, .int .i64 0, .int .i64 0, .slice none 0 0, .int .i64 0, .int .i64 (mn : Int), .int .i64 (q : Int)] 44)) (kd := 10) (r := 0) (ra := 0) (rb := 0) (k := 0) (cost := 0) (mt := (mn : Int)) (ip := (q : Int)) (OSl.nil layI 3 8 (wc.alloc (.cells #[.int .i64 10, .int .i64 0, .int .i64 0, .int .i64 0, .int .i64 0, .slice none 0 0, .int .i64 0, .int .i64 (mn : Int), .int .i64 (q : Int)] 44)) (fun _ => False)))
          clear sn
          go_upto_region 14 with (at_builtin; refine wpList_append_lies _ rfl _ _ 26 rfl 0 44 i0 (.agg #[.int .i64 0, .int .i64 0, .int .i64 0, .int .i64 0, .int .i64 0, .slice none 0 0, .int .i64 0, .int .i64 0, .int .i64 0]) 9 88 Tryz.underlying26 hi hz0 hz1 hz2 rfl (by decide) (.slice va vn vc) vn t.flatten rfl (owns_kept HRW.out L4.out) ⟨wc.heap.size, 0, none⟩ 1 1 [.int .i64 10, .int .i64 0, .int .i64 0, .int .i64 0, .int .i64 0, .slice none 0 0, .int .i64 0, .int .i64 (mn : Int), .int .i64 (q : Int)] rfl rfl (news_of rfl _ 44) (by intro u hu; simp only [List.mem_cons, List.not_mem_nil, or_false] at hu; rcases hu with rfl | rfl | rfl | rfl | rfl | rfl | rfl | rfl | rfl <;> rfl) (by decide) (by unfold maxLen; omega) (by omega) (Nat.zero_le _) (wc.heap.size + 1) (by simp) ?_; intro g cap w6 ho6 hg6 hat hlt6; have P := hid (L3.out.code (y := (10, 0, 0, 0, 0, [], 0, (mn : Int), (q : Int))) SN.out HQ.out (by omega) ho6 hg6 (by simpa using hat) L4.out OX.out (fun b hb => hb.elim)); clear d2 df2; obtain ⟨d2, df2⟩ := And.intro P.out.2.2.1 P.out.2.2.2.1; clear ho6 hg6 hat hlt6)
          refine wp_name ?_
          intro V3 hV3
          obtain ⟨CB3, l3⟩ := P.out.1
          have L4 : Hid (LowIn V3 w.heap.size X.heap.size (.slice (some ⟨bp, op, none⟩) pn pc) gy (.slice (some ⟨bi, oi, none⟩) gn gc) (f : Int) (gy + 8) gn w.heap.size (.slice (some ⟨g, 0, none⟩) (vn + 1) cap) (.slice ma mn mc) CB3 MB ((lowN ps f (gx, gy, fl) q).1 ++ [(10, 0, 0, 0, 0, [], 0, (mn : Int), (q : Int))]) (lowN ps f (gx, gy, fl) q).2.1 (pl.set q (vn : Int))) := hid (by rw [hV3]; exact l3)
          have BW4 : Hid (Below w.heap.size w V3) := hid (by rw [hV3]; exact (BW3.out.trans (P.out.2.2.2.2.mono (by omega))).setCell (by show w.heap.size ≤ X.heap.size + 1; omega) _)
          clear hV3 l3 d2 df2 d3 HRW SN OX P hzq
          have hzq := lt_of_cell L4.out.oc.c2
          obtain ⟨t, F, sn⟩ := L4.out.om.snocIn
          have SN := hid sn
          have HRW : Hid (V3.ownsRow 0 57 1 (.slice ma mn mc) mn t.flatten) := hid (by have := sn.row; rwa [HM.out] at this)
          have SA : Hid (∀ w', Below V3.heap.size V3 w' → w'.cell? ⟨w.heap.size, 0, none⟩ = some (.slice (some ⟨bp, op, none⟩) pn pc) ∧ w'.cell? ⟨X.heap.size + 1, 3, none⟩ = some (.slice ma mn mc)) := hid (fun w' b => ⟨kept_cell b L4.out.p0, kept_cell b L4.out.oc.c3⟩)
          have BC : Below V3.heap.size V3 V3 := Below.refl _ _
          clear sn
          refine wp_region_L 11 (fun w' => w'.cell? ⟨w.heap.size, 0, none⟩ = some (.slice (some ⟨bp, op, none⟩) pn pc)) (fun w' => w'.cell? ⟨X.heap.size + 1, 3, none⟩ = some (.slice ma mn mc)) (by kernel_rfl) ?_ (fun hH0 => ?_)
          · (try dsimp only); first | (refine SA.out _ ?_; (repeat (first | with_reducible exact BC | with_reducible refine qDrew ?_ | with_reducible refine qAlloc ?_)); done) | exact ⟨P4.out.2.1, P4.out.2.2.1⟩
          refine wpL_take (i := 0) (oi := ⟨_, _, _, _, _, _⟩) (v := ?_) rfl (by kernel_rfl) (by kernel_rfl) (by kernel_rfl) (by kernel_rfl) (by kernel_rfl) (fun _ _ _ h => h) (Or.inl ⟨by rfl, ?_⟩) (by exact hH0) ?_
          rotate_left
          · (intro x hx; (try dsimp only at hx); go_simp; try (with_reducible rfl))
          try simp only [Act.put, List.setIfInBounds_toArray, List.set_cons_zero, List.set_cons_succ]
          refine wpL_take (i := 1) (oi := ⟨_, _, _, _, _, _⟩) (v := ?_) rfl (by kernel_rfl) (by kernel_rfl) (by kernel_rfl) (by kernel_rfl) (by kernel_rfl) (fun _ _ _ h => h) (Or.inl ⟨by rfl, ?_⟩) (by exact hH0) ?_
          rotate_left
          · (intro x hx; (try dsimp only at hx); go_simp; try (with_reducible rfl))
          try simp only [Act.put, List.setIfInBounds_toArray, List.set_cons_zero, List.set_cons_succ]
          refine wpL_take (i := 2) (oi := ⟨_, _, _, _, _, _⟩) (v := ?_) rfl (by kernel_rfl) (by kernel_rfl) (by kernel_rfl) (by kernel_rfl) (by kernel_rfl) (fun _ _ _ h => h) (Or.inl ⟨by rfl, ?_⟩) (by exact hH0) ?_
          rotate_left
          · (intro x hx; (try dsimp only at hx); go_simp; try (with_reducible rfl))
          try simp only [Act.put, List.setIfInBounds_toArray, List.set_cons_zero, List.set_cons_succ]
          refine wpL_take (i := 3) (oi := ⟨_, _, _, _, _, _⟩) (v := ?_) rfl (by kernel_rfl) (by kernel_rfl) (by kernel_rfl) (by kernel_rfl) (by kernel_rfl) (fun _ _ _ h => h) (Or.inl ⟨by rfl, ?_⟩) (by exact hH0) ?_
          rotate_left
          · (intro x hx; (try dsimp only at hx); go_simp; try (with_reducible rfl))
          try simp only [Act.put, List.setIfInBounds_toArray, List.set_cons_zero, List.set_cons_succ]
          refine wpL_take (i := 4) (oi := ⟨_, _, _, _, _, _⟩) (v := ?_) rfl (by kernel_rfl) (by kernel_rfl) (by kernel_rfl) (by kernel_rfl) (by kernel_rfl) (fun _ _ _ h => h) (Or.inl ⟨by rfl, ?_⟩) (by exact hH0) ?_
          rotate_left
          · (intro x hx; (try dsimp only at hx); go_simp; try (with_reducible rfl))
          try simp only [Act.put, List.setIfInBounds_toArray, List.set_cons_zero, List.set_cons_succ]
          refine wpL_ready (rs := [5]) (by kernel_rfl) (by simp) ?_
          refine eachL_cons (o := ⟨_, _, _, _, _, _⟩) rfl (by rfl) (fun K hK => ?_) ?_
          · skip
            go_simp
            refine (refPlain_any _ _ _ ps f (q : Int) 0 0 gx gy fl _ (HP.out.kept (kt BW4.out (by repeat (first | with_reducible exact BC | with_reducible refine qDrew ?_ | with_reducible refine qAlloc ?_)))) HF.out E3.out HGY.out (by omega) (by omega)).mono ?_; rintro e w1 ⟨ya, yn, yc, za, zn, zc, rfl, ow, b1⟩; have OW := hid (layPart.subO ow (B' := fun b => V3.heap.size ≤ b ∧ b < w1.heap.size) (fun b hb hl => ⟨hb, hl⟩)); replace BC := kt (Below.drew BC) b1; clear ow b1
            refine hK.out _ _ ?_ (fun hH1 => ?_)
            · (try dsimp only); first | (refine SA.out _ ?_; (repeat (first | with_reducible exact BC | with_reducible refine qDrew ?_ | with_reducible refine qAlloc ?_)); done) | exact ⟨P4.out.2.1, P4.out.2.2.1⟩
            clear hK K hH0
            try simp only [Act.put, List.setIfInBounds_toArray, List.set_cons_zero, List.set_cons_succ]
            refine wpL_ready (rs := [6]) (by kernel_rfl) (by simp) ?_
            refine eachL_cons (o := ⟨_, _, _, _, _, _⟩) rfl (by rfl) (fun K hK => ?_) ?_
            · skip
              go_simp
              refine hK.out _ _ ?_ (fun hH2 => ?_)
              · (try dsimp only); first | (refine SA.out _ ?_; (repeat (first | with_reducible exact BC | with_reducible refine qDrew ?_ | with_reducible refine qAlloc ?_)); done) | exact ⟨P4.out.2.1, P4.out.2.2.1⟩
              clear hK K hH1
              try simp only [Act.put, List.setIfInBounds_toArray, List.set_cons_zero, List.set_cons_succ]
              refine wpL_take (i := 7) (oi := ⟨_, _, _, _, _, _⟩) (v := ?_) rfl (by kernel_rfl) (by kernel_rfl) (by kernel_rfl) (by kernel_rfl) (by kernel_rfl) (fun _ _ _ h => h) (Or.inl ⟨by rfl, ?_⟩) (by exact hH2) ?_
              rotate_left
              · (intro x hx; (try dsimp only at hx); go_simp; try (with_reducible rfl))
              try simp only [Act.put, List.setIfInBounds_toArray, List.set_cons_zero, List.set_cons_succ]
              refine wpL_ready (rs := [8]) (by kernel_rfl) (by simp) ?_
              refine eachL_cons (o := ⟨_, _, _, _, _, _⟩) rfl (by rfl) (fun K hK => ?_) ?_
              · skip
                go_simp
                refine hK.out _ _ ?_ (fun hH3 => ?_)
                · (try dsimp only); first | (refine SA.out _ ?_; (repeat (first | with_reducible exact BC | with_reducible refine qDrew ?_ | with_reducible refine qAlloc ?_)); done) | exact ⟨P4.out.2.1, P4.out.2.2.1⟩
                clear hK K hH2
                try simp only [Act.put, List.setIfInBounds_toArray, List.set_cons_zero, List.set_cons_succ]
                refine wpL_ready (rs := [9]) (by kernel_rfl) (by simp) ?_
                refine eachL_cons (o := ⟨_, _, _, _, _, _⟩) rfl (by rfl) (fun K hK => ?_) ?_
                · skip
                  refine step_append_lies _ rfl (.tmp 89) (.tmp 96) 27 rfl 0 57 m0 (.agg #[.slice none 0 0]) 1 24 Tryz.underlying27 hm mz0 mz1 mz2 rfl (by decide) (.slice ma mn mc) mn t.flatten (by simp [Act.eval]) (owns_kept HRW.out (by repeat (first | with_reducible exact BC | with_reducible refine qDrew ?_ | with_reducible refine qAlloc ?_))) ⟨w1.heap.size + 1, 0, none⟩ 1 1 [.slice (some ⟨w1.heap.size, 0, none⟩) 1 1] (by simp [Act.eval]) rfl (news_of (by simp) _ 57) (by intro u hu; simp only [List.mem_cons, List.not_mem_nil, or_false] at hu; subst hu; rfl) (by decide) (by unfold maxLen; omega) (by omega) (Nat.zero_le _) (w1.heap.size + 1 + 1) (by simp) ?_; intro g3 cap3 w6 ho6 hg6 hat hlt6; have L5 := hid (show Below V3.heap.size V3 ((w1.alloc (.cells #[.int .i64 (f : Int), .int .i64 (q : Int), .slice ya yn yc, .slice za zn zc] 60)).alloc (.cells #[.slice (some ⟨w1.heap.size, 0, none⟩) 1 1] 57)) from by repeat (first | with_reducible exact BC | with_reducible refine qDrew ?_ | with_reducible refine qAlloc ?_)); have OP := hid (osl_one (T := 60) (bytes := 64) OW.out (fun b hb => hb.2) (by decide)); have OX : Hid (layMeta.owns ((w1.alloc (.cells #[.int .i64 (f : Int), .int .i64 (q : Int), .slice ya yn yc, .slice za zn zc] 60)).alloc (.cells #[.slice (some ⟨w1.heap.size, 0, none⟩) 1 1] 57)) (fun b => ((V3.heap.size ≤ b ∧ b < w1.heap.size) ∨ b = w1.heap.size)) [.slice (some ⟨w1.heap.size, 0, none⟩) 1 1] [plainV ps (f : Int) (q : Int) 0 0]) := hid (meta_owns (OP.out.kept (Below.alloc (Below.refl _ _) (Nat.le_refl _) _))); have hsB : V3.heap.size ≤ w1.heap.size := BC.size; have P4 := hid (L4.out.metas SN.out HM.out (by omega) ho6 hg6 (by simpa using hat) L5.out OX.out (fun b hb => by rcases hb with hb | hb; exact hb.1; omega)); obtain ⟨d3, df3⟩ := And.intro P4.out.2.2.1 P4.out.2.2.2.1; clear ho6 hg6 hat hlt6
                  refine hK.out _ _ ?_ (fun hH4 => ?_)
                  · (try dsimp only); first | (refine SA.out _ ?_; (repeat (first | with_reducible exact BC | with_reducible refine qDrew ?_ | with_reducible refine qAlloc ?_)); done) | exact ⟨P4.out.2.1, P4.out.2.2.1⟩
                  clear hK K hH3
                  try simp only [Act.put, List.setIfInBounds_toArray, List.set_cons_zero, List.set_cons_succ]
                  refine wpL_take (i := 10) (oi := ⟨_, _, _, _, _, _⟩) (v := ?_) rfl (by kernel_rfl) (by kernel_rfl) (by kernel_rfl) (by kernel_rfl) (by kernel_rfl) (fun _ _ _ h => h) (Or.inl ⟨by rfl, ?_⟩) (by exact hH4) ?_
                  rotate_left
                  · (intro x hx; (try dsimp only at hx); go_simp; try (with_reducible rfl))
                  try simp only [Act.put, List.setIfInBounds_toArray, List.set_cons_zero, List.set_cons_succ]
                  refine wpL_ready (rs := [11]) (by kernel_rfl) (by simp) ?_
                  refine eachL_last (o := ⟨_, _, _, _, _, _⟩) rfl (fun K hK => ?_)
                  go_simp
                  refine hK.out _ _ ?_ ?_
                  · (try dsimp only); exact cell_set_far P4.out.2.1 (by show w.heap.size ≠ X.heap.size + 1; omega)
                  clear hK K
                  try simp only [Act.put, List.setIfInBounds_toArray, List.set_cons_zero, List.set_cons_succ]
                  refine wpL_done (by kernel_rfl) ?_ _
                  go_upto_region 15 with fail
                  refine wp_name ?_
                  intro V5 hV5
                  obtain ⟨MB5, l5⟩ := P4.out.1
                  have L6 : Hid (LowIn V5 w.heap.size X.heap.size (.slice (some ⟨bp, op, none⟩) pn pc) gy (.slice (some ⟨bi, oi, none⟩) gn gc) (f : Int) (gy + 8) gn w.heap.size (.slice (some ⟨g, 0, none⟩) (vn + 1) cap) (.slice (some ⟨g3, 0, none⟩) (mn + 1) cap3) CB3 MB5 ((lowN ps f (gx, gy, fl) q).1 ++ [(10, 0, 0, 0, 0, [], 0, (mn : Int), (q : Int))]) ((lowN ps f (gx, gy, fl) q).2.1 ++ [[plainV ps (f : Int) (q : Int) 0 0]]) (pl.set q (vn : Int))) := hid (by rw [hV5]; exact l5)
                  have BW6 : Hid (Below w.heap.size w V5) := hid (by rw [hV5]; exact (BW4.out.trans (P4.out.2.2.2.2.mono (by omega))).setCell (by show w.heap.size ≤ X.heap.size + 1; omega) _)
                  have HQ6 : Hid (((lowN ps f (gx, gy, fl) q).1 ++ [(10, 0, 0, 0, 0, [], 0, (mn : Int), (q : Int))]).length = vn + 1) := hid (by rw [List.length_append, HQ.out]; rfl)
                  have hcap : vn + 1 ≤ cap := by obtain ⟨_, _, _, e9, r9⟩ := L6.out.oi.reads; cases e9; exact r9.cap
                  clear hV5 l5 d3 df3 HRW SN OX OP OW P4 BC SA hzq L5
                  have hzq := lt_of_cell L6.out.oc.c2
                  obtain ⟨t, F, sn⟩ := L6.out.oi.snocIn
                  have SN := hid sn
                  have HRW : Hid (V5.ownsRow 0 44 9 (.slice (some ⟨g, 0, none⟩) (vn + 1) cap) (vn + 1) t.flatten) := hid (by have := sn.row; rwa [HQ6.out] at this)
                  have SA : Hid (∀ w', Below V5.heap.size V5 w' → w'.cell? ⟨w.heap.size, 0, none⟩ = some (.slice (some ⟨bp, op, none⟩) pn pc) ∧ w'.cell? ⟨X.heap.size + 1, 2, none⟩ = some (.slice (some ⟨g, 0, none⟩) (vn + 1) cap)) := hid (fun w' b => ⟨kept_cell b L6.out.p0, kept_cell b L6.out.oc.c2⟩)
                  have BC : Below V5.heap.size V5 V5 := Below.refl _ _
                  clear sn
                  refine wp_region_L 9 (fun w' => w'.cell? ⟨w.heap.size, 0, none⟩ = some (.slice (some ⟨bp, op, none⟩) pn pc)) (fun w' => w'.cell? ⟨X.heap.size + 1, 2, none⟩ = some (.slice (some ⟨g, 0, none⟩) (vn + 1) cap)) (by kernel_rfl) ?_ (fun hH0 => ?_)
                  · (try dsimp only); first | (refine SA.out _ ?_; (repeat (first | with_reducible exact BC | with_reducible refine qDrew ?_ | with_reducible refine qAlloc ?_)); done) | exact ⟨P.out.2.1, P.out.2.2.1⟩
                  refine wpL_take (i := 0) (oi := ⟨_, _, _, _, _, _⟩) (v := ?_) rfl (by kernel_rfl) (by kernel_rfl) (by kernel_rfl) (by kernel_rfl) (by kernel_rfl) (fun _ _ _ h => h) (Or.inl ⟨by rfl, ?_⟩) (by exact hH0) ?_
                  rotate_left
                  · (intro x hx; (try dsimp only at hx); go_simp; try (with_reducible rfl))
                  try simp only [Act.put, List.setIfInBounds_toArray, List.set_cons_zero, List.set_cons_succ]
                  refine wpL_take (i := 1) (oi := ⟨_, _, _, _, _, _⟩) (v := ?_) rfl (by kernel_rfl) (by kernel_rfl) (by kernel_rfl) (by kernel_rfl) (by kernel_rfl) (fun _ _ _ h => h) (Or.inl ⟨by rfl, ?_⟩) (by exact hH0) ?_
                  rotate_left
                  · (intro x hx; (try dsimp only at hx); go_simp; try (with_reducible rfl))
                  try simp only [Act.put, List.setIfInBounds_toArray, List.set_cons_zero, List.set_cons_succ]
                  refine wpL_take (i := 2) (oi := ⟨_, _, _, _, _, _⟩) (v := ?_) rfl (by kernel_rfl) (by kernel_rfl) (by kernel_rfl) (by kernel_rfl) (by kernel_rfl) (fun _ _ _ h => h) (Or.inl ⟨by rfl, ?_⟩) (by exact hH0) ?_
                  rotate_left
                  · (intro x hx; (try dsimp only at hx); go_simp; try (with_reducible rfl))
                  try simp only [Act.put, List.setIfInBounds_toArray, List.set_cons_zero, List.set_cons_succ]
                  refine wpL_take (i := 3) (oi := ⟨_, _, _, _, _, _⟩) (v := ?_) rfl (by kernel_rfl) (by kernel_rfl) (by kernel_rfl) (by kernel_rfl) (by kernel_rfl) (fun _ _ _ h => h) (Or.inl ⟨by rfl, ?_⟩) (by exact hH0) ?_
                  rotate_left
                  · (intro x hx; (try dsimp only at hx); go_simp; try (with_reducible rfl))
                  try simp only [Act.put, List.setIfInBounds_toArray, List.set_cons_zero, List.set_cons_succ]
                  refine wpL_take (i := 4) (oi := ⟨_, _, _, _, _, _⟩) (v := ?_) rfl (by kernel_rfl) (by kernel_rfl) (by kernel_rfl) (by kernel_rfl) (by kernel_rfl) (fun _ _ _ h => h) (Or.inl ⟨by rfl, ?_⟩) (by exact hH0) ?_
                  rotate_left
                  · (intro x hx; (try dsimp only at hx); go_simp; try (with_reducible rfl))
                  try simp only [Act.put, List.setIfInBounds_toArray, List.set_cons_zero, List.set_cons_succ]
                  refine wpL_ready (rs := [5]) (by kernel_rfl) (by simp) ?_
                  refine eachL_cons (o := ⟨_, _, _, _, _, _⟩) rfl (by rfl) (fun K hK => ?_) ?_
                  · skip
                    go_simp
                    refine (refOneAll_any _ _ _ ps f q gx gy fl kN aN _ (HP.out.kept (kt BW6.out (by repeat (first | with_reducible exact BC | with_reducible refine qDrew ?_ | with_reducible refine qAlloc ?_)))) HH.out E3.out HX.out HIN.out.1).mono ?_; rintro e w1 ⟨kd, r, ra, rb, k, xa, xn, xc, rfl, ow, b1⟩; have OW := hid ow; replace BC := kt (Below.drew BC) b1; clear ow b1
                    refine hK.out _ _ ?_ (fun hH1 => ?_)
                    · (try dsimp only); first | (refine SA.out _ ?_; (repeat (first | with_reducible exact BC | with_reducible refine qDrew ?_ | with_reducible refine qAlloc ?_)); done) | exact ⟨P.out.2.1, P.out.2.2.1⟩
                    clear hK K hH0
                    try simp only [Act.put, List.setIfInBounds_toArray, List.set_cons_zero, List.set_cons_succ]
                    refine wpL_ready (rs := [6]) (by kernel_rfl) (by simp) ?_
                    refine eachL_cons (o := ⟨_, _, _, _, _, _⟩) rfl (by rfl) (fun K hK => ?_) ?_
                    · skip
                      go_simp
                      refine hK.out _ _ ?_ (fun hH2 => ?_)
                      · (try dsimp only); first | (refine SA.out _ ?_; (repeat (first | with_reducible exact BC | with_reducible refine qDrew ?_ | with_reducible refine qAlloc ?_)); done) | exact ⟨P.out.2.1, P.out.2.2.1⟩
                      clear hK K hH1
                      try simp only [Act.put, List.setIfInBounds_toArray, List.set_cons_zero, List.set_cons_succ]
                      refine wpL_ready (rs := [7]) (by kernel_rfl) (by simp) ?_
                      refine eachL_cons (o := ⟨_, _, _, _, _, _⟩) rfl (by rfl) (fun K hK => ?_) ?_
                      · skip
                        refine step_append_lies _ rfl (.tmp 100) (.tmp 105) 26 rfl 0 44 i0 (.agg #[.int .i64 0, .int .i64 0, .int .i64 0, .int .i64 0, .int .i64 0, .slice none 0 0, .int .i64 0, .int .i64 0, .int .i64 0]) 9 88 Tryz.underlying26 hi hz0 hz1 hz2 rfl (by decide) (.slice (some ⟨g, 0, none⟩) (vn + 1) cap) (vn + 1) t.flatten (by simp [Act.eval]) (owns_kept HRW.out (by repeat (first | with_reducible exact BC | with_reducible refine qDrew ?_ | with_reducible refine qAlloc ?_))) ⟨w1.heap.size, 0, none⟩ 1 1 [.int .i64 kd, .int .i64 r, .int .i64 ra, .int .i64 rb, .int .i64 k, .slice xa xn xc, .int .i64 1, .int .i64 0, .int .i64 (q : Int)] (by simp [Act.eval]) rfl (news_of (by simp) _ 44) (by intro u hu; simp only [List.mem_cons, List.not_mem_nil, or_false] at hu; rcases hu with rfl | rfl | rfl | rfl | rfl | rfl | rfl | rfl | rfl <;> rfl) (by decide) (by unfold maxLen; omega) (by omega) (Nat.zero_le _) (w1.heap.size + 1) (by simp) ?_; intro g7 cap7 w6 ho6 hg6 hat hlt6; have L5 := hid (show Below V5.heap.size V5 (w1.alloc (.cells #[.int .i64 kd, .int .i64 r, .int .i64 ra, .int .i64 rb, .int .i64 k, .slice xa xn xc, .int .i64 1, .int .i64 0, .int .i64 (q : Int)] 44)) from by repeat (first | with_reducible exact BC | with_reducible refine qDrew ?_ | with_reducible refine qAlloc ?_)); have OX := hid (layIr.frmO OW.out (fun b hb hl => (Below.alloc (Below.refl _ _) (Nat.le_refl _) _ : Below w1.heap.size w1 (w1.alloc (.cells #[.int .i64 kd, .int .i64 r, .int .i64 ra, .int .i64 rb, .int .i64 k, .slice xa xn xc, .int .i64 1, .int .i64 0, .int .i64 (q : Int)] 44))).block b hl)); have P := hid (L6.out.code SN.out HQ6.out (by omega) ho6 hg6 (by simpa using hat) L5.out OX.out (fun b hb => hb.1)); obtain ⟨d2, df2⟩ := And.intro P.out.2.2.1 P.out.2.2.2.1; clear ho6 hg6 hat hlt6
                        refine hK.out _ _ ?_ (fun hH3 => ?_)
                        · (try dsimp only); first | (refine SA.out _ ?_; (repeat (first | with_reducible exact BC | with_reducible refine qDrew ?_ | with_reducible refine qAlloc ?_)); done) | exact ⟨P.out.2.1, P.out.2.2.1⟩
                        clear hK K hH2
                        try simp only [Act.put, List.setIfInBounds_toArray, List.set_cons_zero, List.set_cons_succ]
                        refine wpL_take (i := 8) (oi := ⟨_, _, _, _, _, _⟩) (v := ?_) rfl (by kernel_rfl) (by kernel_rfl) (by kernel_rfl) (by kernel_rfl) (by kernel_rfl) (fun _ _ _ h => h) (Or.inl ⟨by rfl, ?_⟩) (by exact hH3) ?_
                        rotate_left
                        · (intro x hx; (try dsimp only at hx); go_simp; try (with_reducible rfl))
                        try simp only [Act.put, List.setIfInBounds_toArray, List.set_cons_zero, List.set_cons_succ]
                        refine wpL_ready (rs := [9]) (by kernel_rfl) (by simp) ?_
                        refine eachL_last (o := ⟨_, _, _, _, _, _⟩) rfl (fun K hK => ?_)
                        go_simp
                        refine hK.out _ _ ?_ ?_
                        · (try dsimp only); exact cell_set_far P.out.2.1 (by show w.heap.size ≠ X.heap.size + 1; omega)
                        clear hK K
                        try simp only [Act.put, List.setIfInBounds_toArray, List.set_cons_zero, List.set_cons_succ]
                        refine wpL_done (by kernel_rfl) ?_ _
                        go_wp2_with fail
                        go_roundw
                        case rel =>
                          obtain ⟨CB', L'⟩ := P.out.1
                          refine ⟨q + 1, _, _, CB', _, _, by omega, by go_num, by rw [ST.out, HM.out]; exact L', ?_, ?_⟩
                          · rw [ST.out, LENQ.out]; exact take_set HPL.out (by omega)
                          · exact ((BW6.out.trans (P.out.2.2.2.2.mono (by omega))).setCell (by show w.heap.size ≤ X.heap.size + 1; omega) _)
                        case measure => simp [intOf]; omega
                      exact eachL_nil
                    exact eachL_nil
                  exact eachL_nil
                exact eachL_nil
              exact eachL_nil
            exact eachL_nil
          exact eachL_nil
    · have hqn : q = gn := by omega
      subst hqn
      have EPL : Hid (pl = (lowN ps f (gx, gy, fl) q).2.2) := hid (by have := HPL.out; rwa [List.take_of_length_le (by omega)] at this)
      have QL : Hid (q = fl.length) := hid LG.out
      clear hpl f2 HPL
      have LZ : Hid (LowIn V w.heap.size X.heap.size (.slice (some ⟨bp, op, none⟩) pn pc) gy (.slice ga q gc) (f : Int) (gy + 8) q w.heap.size (.slice va vn vc) (.slice ma mn mc) CB MB (mixP pl (lowN ps f (gx, gy, fl) q).1 0) (lowN ps f (gx, gy, fl) q).2.1 pl) := hid (by rw [mixP_zero]; exact L0.out)
      have f2 := LZ.out.f2
      clear L0
      go_wp2_with fail
      clear f2 hlt hq
      go_loopw [11] (fun i wr => ∃ j : Nat, j ≤ vn ∧ i = .int .i64 j ∧ LowIn wr w.heap.size X.heap.size (.slice (some ⟨bp, op, none⟩) pn pc) gy (.slice ga q gc) (f : Int) (gy + 8) q w.heap.size (.slice va vn vc) (.slice ma mn mc) CB MB (mixP pl (lowN ps f (gx, gy, fl) q).1 j) (lowN ps f (gx, gy, fl) q).2.1 pl ∧ Below w.heap.size w wr) (fun i _ => vn - (intOf i).toNat)
      case atStart => exact ⟨0, Nat.zero_le _, rfl, LZ.out, HB.out⟩
      case round =>
        clear LZ HB
        obtain ⟨j, hj, rfl, lz, hb⟩ := hrel
        obtain ⟨Z, hZ⟩ : ∃ Z : World, Z = wr := ⟨_, rfl⟩
        subst hZ
        have LZ := hid lz
        have HB := hid hb
        clear lz hb
        by_cases hlt : j < vn
        · have hjl : j < (lowN ps f (gx, gy, fl) q).1.length := by rw [HQ.out]; exact hlt
          obtain ⟨⟨kd, r, ra, rb, k, args, cost, mt, ip⟩, hx⟩ : ∃ x, (lowN ps f (gx, gy, fl) q).1[j]? = some x := ⟨_, List.getElem?_eq_getElem hjl⟩
          have HX := hid hx
          have c2 := LZ.out.oc.c2
          have KIN := hid (low_kinds HV.out E3.out q (by have := QL.out; omega) _ (List.mem_of_getElem? hx))
          obtain ⟨g, cap, cs, Bk, e3', hcap, hBg, hgl, hcell, hfz, hown, hBk, -, hput⟩ := LZ.out.oi.elem j _ (mixP_at hx)
          have ev : va = some ⟨g, 0, none⟩ := by injection e3'
          subst ev
          have HLO := hid (LZ.out.lo g hBg)
          by_cases h45 : kd = 4 ∨ kd = 5
          · obtain ⟨kN, rfl⟩ : ∃ kN : Nat, k = kN := ⟨k.toNat, by have h1 : 0 ≤ k := (KIN.out h45).1; omega⟩
            have hkq : kN < q := by have h1 : ((kN : Nat) : Int) < (fl.length : Int) := (KIN.out h45).2; have := QL.out; omega
            obtain ⟨ik0, ik4, iown⟩ := ir_k hown (pl.getD kN 0)
            have a0 : Z.cell? ⟨g, j * 9, none⟩ = some (.int .i64 kd) := hcell 0 _ ik0
            have a4 : Z.cell? ⟨g, j * 9 + 4, none⟩ = some (.int .i64 (kN : Int)) := hcell 4 _ ik4
            have a4f : Z.frozen? ⟨g, j * 9 + 4, none⟩ = false := hfz _
            have s1 := LZ.out.pls.at kN hkq
            have HPUT := hid (hput 4 (.int .i64 (pl.getD kN 0)) _ (by decide) iown)
            have ET : Hid (toPlace pl (kd, r, ra, rb, (kN : Int), args, cost, mt, ip) = (kd, r, ra, rb, pl.getD kN 0, args, cost, mt, ip)) := hid (by unfold toPlace; rw [if_pos h45]; simp)
            have HBG := hid hBg
            generalize hpv : pl.getD kN 0 = pvv at s1
            rw [hpv] at HPUT ET
            have LT : Hid (LowIn (Z.setCell ⟨g, j * 9 + 4, none⟩ (.int .i64 pvv)) w.heap.size X.heap.size (.slice (some ⟨bp, op, none⟩) pn pc) gy (.slice ga q gc) (f : Int) (gy + 8) q w.heap.size (.slice (some ⟨g, 0, none⟩) vn vc) (.slice ma mn mc) CB MB (mixP pl (lowN ps f (gx, gy, fl) q).1 (j + 1)) (lowN ps f (gx, gy, fl) q).2.1 pl) := hid (by
              rw [mixP_succ HX.out, ET.out]
              exact LZ.out.turn HPUT.out HBG.out)
            have hg0 : w.heap.size ≤ g := by have := HLO.out.1; omega
            have H45 := hid h45
            clear e3' hcap hx hcell hfz hown hBk hput iown ik0 ik4 hpv h45 hBg
            by_cases h4 : kd = 4
            · subst h4
              go_upto_region 20 with fail
              go_region
              all_goals
                go_wp2_with fail
                go_roundw
                case rel => exact ⟨j + 1, hlt, by go_num, by first | exact LT.out.kept (Below.drew (Below.refl _ _)) | exact LT.out, by first | exact (HB.out.setCell hg0 _).drew | exact HB.out.drew.setCell hg0 _⟩
                case measure => simp [intOf]; omega
            · have g4 : (kd == 4) = false := by simpa using h4
              obtain rfl : kd = 5 := H45.out.resolve_left h4
              clear g4 h4
              go_upto_region 20 with fail
              go_region
              all_goals
                go_wp2_with fail
                go_roundw
                case rel => exact ⟨j + 1, hlt, by go_num, by first | exact LT.out.kept (Below.drew (Below.refl _ _)) | exact LT.out, by first | exact (HB.out.setCell hg0 _).drew | exact HB.out.drew.setCell hg0 _⟩
                case measure => simp [intOf]; omega
          · obtain ⟨ik0, -, -⟩ := ir_k hown 0
            have a0 : Z.cell? ⟨g, j * 9, none⟩ = some (.int .i64 kd) := hcell 0 _ ik0
            have g4 : (kd == 4) = false := by simp; omega
            have g5 : (kd == 5) = false := by simp; omega
            have LT := hid (mixP_stay (pl := pl) hx h45)
            clear e3' hcap hx hcell hfz hown hBk hput ik0 h45 hBg
            go_wp2_with fail
            go_roundw
            case rel => exact ⟨j + 1, hlt, by go_num, by rw [LT.out]; exact LZ.out, HB.out⟩
            case measure => simp [intOf]; omega
        · have hjn : j = vn := by omega
          subst hjn
          obtain ⟨o0, o1, o2, o3, -, -⟩ := LZ.out.oc
          obtain ⟨r0, r1, r2, r3, rf⟩ := LZ.out.rs
          have EM : Hid (mixP pl (lowN ps f (gx, gy, fl) q).1 j = (lowN ps f (gx, gy, fl) q).1.map (toPlace (lowN ps f (gx, gy, fl) q).2.2)) := hid (by
            have h := mixP_all pl (lowN ps f (gx, gy, fl) q).1
            rw [HQ.out, EPL.out] at h
            rw [EPL.out]
            exact h)
          clear hlt
          go_wp2_with fail
          refine bodyPost_ret (v := .tuple #[.agg #[.int .i64 (f : Int), .int .i64 (gy + 8), .slice va j vc, .slice ma mn mc], .int .i64 0]) (by simp [results, Tryz.results9, go_sem, r0, r1, r2, r3]) rfl ⟨_, _, CB, MB, rfl, ?_, ?_, ?_, ?_, LZ.out.dj, ?_⟩
          · rw [← QL.out, ← EM.out]
            repeat (first | exact LZ.out.oi | refine OSl.set ?_ _ _ (fun hb => by have h1 : X.heap.size + 1 + 1 < w.heap.size + 1 := (LZ.out.lo _ hb).1; omega))
          · rw [← QL.out]
            repeat (first | exact LZ.out.om | refine OSl.set ?_ _ _ (fun hb => by have h1 : X.heap.size + 1 + 1 < w.heap.size + 1 := (LZ.out.lm _ hb).1; omega))
          · exact fun b hb => by have := (LZ.out.lo b hb).1; omega
          · exact fun b hb => by have := (LZ.out.lm b hb).1; omega
          · repeat (first | exact HB.out | refine Below.setCell ?_ (by show w.heap.size ≤ w.heap.size + 1; omega) _)

end Go.Proofs.YtaimpljkbpnigaaGreatDoor

namespace Go.Proofs.YtaimpljkbpnigaaGreatDoor
open Go.RowKit
set_option linter.unusedVariables false

set_option maxRecDepth 100000 in
set_option maxHeartbeats 8000000 in
theorem refLowNo_any (pa : Option Addr) (pn pc : Nat) (ps : List Fn) (fn : Int) (w : World) (hp : Fns w pa pn pc ps) (h : lowOk ps fn = false) :
    Calls Tryz.prog 9 #[.agg #[.slice pa pn pc], .int .i64 fn] w fun e w' => e = .returned (.tuple #[.agg #[.int .i64 0, .int .i64 0, .slice none 0 0, .slice none 0 0], .int .i64 1100]) ∧ Below w.heap.size w w' := by
  have HP := hid hp
  have LP := hid hp.len
  have hpr := hp.room
  have hpc := hp.cap
  have HK := hid h
  clear hp h
  go_enter Tryz.func9, Tryz.ntmps9
  go_upto_region 1 with fail
  refine wp_name ?_
  intro U hU
  have B : Hid (Below w.heap.size w U) := hid (by rw [hU]; go_grown)
  have p0 : U.cell? ⟨w.heap.size, 0, none⟩ = some (.slice pa pn pc) := by rw [hU]; simp [go_sem]
  have R0 : Hid (Res0 U (w.heap.size + 1)) := hid (by rw [hU]; exact ⟨by simp [go_sem], by simp [go_sem], by simp [go_sem], by simp [go_sem], fun j => by simp [go_sem]⟩)
  clear hU
  go_wp2_with fail
  refine (refVerify_any _ _ _ ps _ (HP.out.kept B.out)).mono ?_
  rintro e X ⟨rfl, bX⟩
  have BX := hid (kt B.out bX)
  have RX := hid (R0.out.frm (bX.block _ (lt_of_cell R0.out.c0)))
  replace p0 := kept_cell bX p0
  obtain ⟨r0, r1, r2, r3, rf⟩ := RX.out
  clear bX R0
  obtain ⟨v, hv⟩ : ∃ v : Int, verV ps = v := ⟨_, rfl⟩
  have HV := hid hv
  rw [hv]
  clear hv
  by_cases h0 : v = 0
  · subst h0
    by_cases h1 : fn < 0
    · have d1 : decide (fn < 0) = true := by simpa using h1
      go_wp2_with fail
      refine bodyPost_ret (v := .tuple #[.agg #[.int .i64 0, .int .i64 0, .slice none 0 0, .slice none 0 0], .int .i64 1100]) (by simp [results, Tryz.results9, go_sem, r0, r1, r2, r3]) rfl ⟨rfl, ?_⟩
      repeat (first | exact BX.out | refine Below.setCell ?_ (by show w.heap.size ≤ w.heap.size + 1; omega) _)
    · have d1 : decide (fn < 0) = false := by simpa using h1
      have h2 : (pn : Int) ≤ fn := by
        have hk := HK.out
        unfold lowOk at hk
        rw [HV.out] at hk
        have h3 : inB ps.length fn = false := by simpa using hk
        unfold inB at h3
        have := LP.out
        have h4 := of_decide_eq_false h3
        omega
      have d2 : decide ((pn : Int) ≤ fn) = true := by simpa using h2
      go_wp2_with fail
      refine bodyPost_ret (v := .tuple #[.agg #[.int .i64 0, .int .i64 0, .slice none 0 0, .slice none 0 0], .int .i64 1100]) (by simp [results, Tryz.results9, go_sem, r0, r1, r2, r3]) rfl ⟨rfl, ?_⟩
      repeat (first | exact BX.out | refine Below.setCell ?_ (by show w.heap.size ≤ w.heap.size + 1; omega) _)
  · have d0 : (v != 0) = true := by simpa using h0
    go_wp2_with fail
    refine bodyPost_ret (v := .tuple #[.agg #[.int .i64 0, .int .i64 0, .slice none 0 0, .slice none 0 0], .int .i64 1100]) (by simp [results, Tryz.results9, go_sem, r0, r1, r2, r3]) rfl ⟨rfl, ?_⟩
    repeat (first | exact BX.out | refine Below.setCell ?_ (by show w.heap.size ≤ w.heap.size + 1; omega) _)

/-- Whatever program and number: the code reckoned (lowerV), the error (lowerE). -/
theorem refLower_any (pa : Option Addr) (pn pc : Nat) (ps : List Fn) (fn : Int) (w : World) (hp : Fns w pa pn pc ps) :
    Calls Tryz.prog 9 #[.agg #[.slice pa pn pc], .int .i64 fn] w fun e w' => ∃ v u B1 B2, e = .returned (.tuple #[.agg #[.int .i64 (lowerV ps fn).1, .int .i64 (lowerV ps fn).2.1, v, u], .int .i64 (lowerE ps fn)]) ∧ OSl layIr 44 88 w' B1 v (lowerV ps fn).2.2.1 ∧ OSl layMeta 57 24 w' B2 u (lowerV ps fn).2.2.2 ∧ (∀ b, B1 b → w.heap.size ≤ b) ∧ (∀ b, B2 b → w.heap.size ≤ b) ∧ (∀ b, B1 b → B2 b → False) ∧ Below w.heap.size w w' := by
  by_cases h : lowOk ps fn = true
  · have h' := h
    unfold lowOk at h'
    rw [Bool.and_eq_true, decide_eq_true_eq] at h'
    obtain ⟨hv, hi⟩ := h'
    have hi' : 0 ≤ fn ∧ fn < ps.length := by unfold inB at hi; simpa using hi
    obtain ⟨f, rfl⟩ : ∃ f : Nat, fn = f := ⟨fn.toNat, by omega⟩
    obtain ⟨⟨gx, gy, fl⟩, e3⟩ : ∃ x, ps.getD f noFn = x := ⟨_, rfl⟩
    refine (refLow_any _ _ _ ps f gx gy fl w hp hv (by omega) e3).mono ?_
    rintro e y ⟨v, u, B1, B2, rfl, o1, o2, h1, h2, h3, b⟩
    have ev : lowerV ps (f : Int) = ((f : Int), gy + 8, (lowN ps f (gx, gy, fl) fl.length).1.map (toPlace (lowN ps f (gx, gy, fl) fl.length).2.2), (lowN ps f (gx, gy, fl) fl.length).2.1) := by
      unfold lowerV
      rw [if_pos h, Int.toNat_natCast, e3]
    have ee : lowerE ps (f : Int) = 0 := if_pos h
    rw [ev, ee]
    exact ⟨v, u, B1, B2, rfl, o1, o2, h1, h2, h3, b⟩
  · have hf : lowOk ps fn = false := by simpa using h
    refine (refLowNo_any _ _ _ ps fn w hp hf).mono ?_
    rintro e y ⟨rfl, b⟩
    have ev : lowerV ps fn = noCd := if_neg h
    have ee : lowerE ps fn = 1100 := if_neg h
    rw [ev, ee]
    exact ⟨_, _, fun _ => False, fun _ => False, rfl, OSl.nil _ _ _ _ _, OSl.nil _ _ _ _ _, fun _ h => h.elim, fun _ h => h.elim, fun _ h _ => h, b⟩

end Go.Proofs.YtaimpljkbpnigaaGreatDoor
