/- One element more, appended to a slice of the call's own, whatever its layout: what append's law leaves, put together. Nothing of the program is named here. Register code that a call makes: its cells, its rows. SameIr, sameParts, SameCode: of two that read alike. -/
import Derived.Test.YtaimpljkbpnigaaGreatDoorJ9b
import Derived.Test.YtaimpljkbpnigaaGreatDoorLawInts
import Derived.Test.YtaimpljkbpnigaaGreatDoorMemIr
import Derived.Test.YtaimpljkbpnigaaGreatDoorJ6b
import Derived.Test.YtaimpljkbpnigaaGreatDoorFlatSrcs
import Derived.Test.YtaimpljkbpnigaaGreatDoorJ11e
import Derived.Deep.DeepCutAuto
import Derived.Lib.QuietBelow
namespace Go.Proofs.YtaimpljkbpnigaaGreatDoor
open Go.RowKit
set_option linter.unusedVariables false
variable {α : Type}

/-- What is known of a row ahead of an append, its blocks all in a set B of blocks that are there. -/
structure SnocIn (L : Lay α) (T : Nat) (V : World) (B : Nat → Prop) (v : Value) (l : List α) (t : List (List Value)) (F : Nat → Nat → Prop) : Prop where
  tl : t.length = l.length
  row : V.ownsRow 0 T L.size v l.length t.flatten
  own : ∀ g, v.ownBlock = some g → (B g ∧ g < V.heap.size) ∧ ∀ i, ¬ F i g
  inn : ∀ i b, F i b → B b ∧ b < V.heap.size
  apart : ∀ i j b, i ≠ j → F i b → F j b → False
  each : ∀ i x, l[i]? = some x → L.owns V (F i) (t.getD i []) x
theorem OSl.snocIn {L : Lay α} {T bytes : Nat} {V : World} {B : Nat → Prop} {v : Value} {l : List α} (h : OSl L T bytes V B v l) : ∃ t F, SnocIn L T V B v l t F := by
  obtain ⟨_, t, F, h1, h2, h4, h5, h6, h3⟩ := h.clip
  exact ⟨t, F, h1, h2, h4, h5, h6, h3⟩
/-- Behind the append: V the world at first, w5 the one ahead of the append (with the new element in a row of its own), w6 behind it. -/
theorem SnocIn.snoc {L : Lay α} {T bytes : Nat} {V w5 w6 : World} {B Bx : Nat → Prop} {v : Value} {l : List α} {t : List (List Value)} {F : Nat → Nat → Prop} {q g' cap' : Nat} {cs : List Value} {y : α} (h : SnocIn L T V B v l t F) (hq : l.length = q) (hr8 : (q + 1) * bytes ≤ 140737488351232)
    (ho : w6.ownsRow 0 T L.size (.slice (some ⟨g', 0, none⟩) (q + 1) cap') (q + 1) (t.flatten ++ cs)) (hg : w5.grownBy w6 v.ownBlock) (hat : v.ownBlock = some g' ∨ g' = w5.heap.size) (bl : Below V.heap.size V w5) (hx : L.owns w5 Bx cs y) (hbx : ∀ b, Bx b → V.heap.size ≤ b) :
    OSl L T bytes w6 (fun b => B b ∨ V.heap.size ≤ b) (.slice (some ⟨g', 0, none⟩) (q + 1) cap') (l ++ [y]) := by
  subst hq
  have hsn := OSl.snoc (L := L) (bytes := bytes) (B := fun b => B b ∧ b < V.heap.size) rfl h.tl (owns_kept h.row bl) h.own h.inn h.apart (fun i x hx => L.frmO (h.each i x hx) (fun b hb hlt => bl.block b hlt)) hx (fun b hb hx => by have := hbx b hx; omega) hr8 ho hg hat
  refine hsn.sub (fun b hb _ => ?_)
  rcases hb with hb | hb | hb
  · exact .inl hb.1
  · exact .inr (hbx b hb)
  · exact .inr (by have := bl.size; omega)
/-- A cell of another block than the row's is as it was. -/
theorem SnocIn.cell {L : Lay α} {T : Nat} {V w5 w6 : World} {B : Nat → Prop} {v u : Value} {l : List α} {t : List (List Value)} {F : Nat → Nat → Prop} (h : SnocIn L T V B v l t F) (hg : w5.grownBy w6 v.ownBlock) (bl : Below V.heap.size V w5) {b j : Nat} (hb : ¬ B b) (hc : V.cell? ⟨b, j, none⟩ = some u) : w6.cell? ⟨b, j, none⟩ = some u :=
  hg.cell (kept_cell bl hc) (fun e => hb (h.own b e.symm).1.1)
theorem SnocIn.free {L : Lay α} {T : Nat} {V w5 w6 : World} {B : Nat → Prop} {v u : Value} {l : List α} {t : List (List Value)} {F : Nat → Nat → Prop} (h : SnocIn L T V B v l t F) (hg : w5.grownBy w6 v.ownBlock) (bl : Below V.heap.size V w5) {b j : Nat} (hb : ¬ B b) (hc : V.cell? ⟨b, j, none⟩ = some u) (hf : V.frozen? ⟨b, j, none⟩ = false) : w6.frozen? ⟨b, j, none⟩ = false :=
  (hg.frozen_far ⟨b, j, none⟩ (by have := bl.size; have := lt_of_cell hc; simp; omega) (fun e => hb (h.own b e.symm).1.1)).trans ((bl.frozen (p := ⟨b, j, none⟩) (lt_of_cell hc)).trans hf)
theorem SnocIn.frm {L : Lay α} {T : Nat} {V w5 w6 : World} {B : Nat → Prop} {v : Value} {l : List α} {t : List (List Value)} {F : Nat → Nat → Prop} (h : SnocIn L T V B v l t F) (hg : w5.grownBy w6 v.ownBlock) (bl : Below V.heap.size V w5) {b : Nat} (hb : ¬ B b) (hl : b < V.heap.size) : w6.heap[b]? = V.heap[b]? :=
  (hg.block b (by have := bl.size; omega) (fun e => hb (h.own b e.symm).1.1)).trans (bl.block b hl)
theorem below_grown {V w5 w6 : World} {rb : Nat} {row : Option Nat} (hg : w5.grownBy w6 row) (bl : Below V.heap.size V w5) (hr : ∀ k, row = some k → rb < k) (hs : rb ≤ V.heap.size) : Below rb V w6 :=
  (bl.mono hs).trans (Below.grown (Below.refl _ _) hg (Nat.le_trans hs bl.size) (fun k hk => Nat.le_of_lt (hr k hk)))

end Go.Proofs.YtaimpljkbpnigaaGreatDoor

namespace Go.Proofs.YtaimpljkbpnigaaGreatDoor
open Go.RowKit
set_option linter.unusedVariables false

theorem Tryz.infoIr : (Tryz.prog.info? 44).map (fun i => (i.zero, i.size, i.bytes)) = some (some (.agg #[.int .i64 0, .int .i64 0, .int .i64 0, .int .i64 0, .int .i64 0, .slice none 0 0, .int .i64 0, .int .i64 0, .int .i64 0]), 9, 88) := by kernel_rfl
theorem Tryz.infoPart : (Tryz.prog.info? 60).map (fun i => (i.zero, i.size, i.bytes)) = some (some (.agg #[.int .i64 0, .int .i64 0, .slice none 0 0, .slice none 0 0]), 4, 64) := by kernel_rfl
theorem Tryz.infoMeta : (Tryz.prog.info? 57).map (fun i => (i.zero, i.size, i.bytes)) = some (some (.agg #[.slice none 0 0]), 1, 24) := by kernel_rfl
theorem Tryz.infoIntC : (Tryz.prog.info? 3).map (fun i => (i.zero, i.size, i.bytes)) = some (some (.int .i64 0), 1, 8) := by kernel_rfl

/-- Code in a block of its own: its four cells. -/
structure OutC (w : World) (b : Nat) (cf rg : Int) (c m : Value) : Prop where
  c0 : w.cell? ⟨b, 0, none⟩ = some (.int .i64 cf)
  c1 : w.cell? ⟨b, 1, none⟩ = some (.int .i64 rg)
  c2 : w.cell? ⟨b, 2, none⟩ = some c
  c3 : w.cell? ⟨b, 3, none⟩ = some m
  f2 : w.frozen? ⟨b, 2, none⟩ = false
  f3 : w.frozen? ⟨b, 3, none⟩ = false
theorem OutC.kept {w w' : World} {b : Nat} {cf rg : Int} {c m : Value} (h : OutC w b cf rg c m) (hb : Below w.heap.size w w') : OutC w' b cf rg c m :=
  ⟨kept_cell hb h.c0, kept_cell hb h.c1, kept_cell hb h.c2, kept_cell hb h.c3, by rw [hb.frozen (lt_of_cell h.c2)]; exact h.f2, by rw [hb.frozen (lt_of_cell h.c3)]; exact h.f3⟩
theorem OutC.grown {α : Type} {L : Lay α} {T : Nat} {V w5 w6 : World} {B : Nat → Prop} {v : Value} {l : List α} {t : List (List Value)} {F : Nat → Nat → Prop} {b : Nat} {cf rg : Int} {c m : Value} (h : OutC V b cf rg c m) (s : SnocIn L T V B v l t F) (hg : w5.grownBy w6 v.ownBlock) (bl : Below V.heap.size V w5) (hb : ¬ B b) : OutC w6 b cf rg c m :=
  ⟨s.cell hg bl hb h.c0, s.cell hg bl hb h.c1, s.cell hg bl hb h.c2, s.cell hg bl hb h.c3, s.free hg bl hb h.c2 h.f2, s.free hg bl hb h.c3 h.f3⟩
theorem OutC.set2 {w : World} {b : Nat} {cf rg : Int} {c m u : Value} (h : OutC w b cf rg c m) : OutC (w.setCell ⟨b, 2, none⟩ u) b cf rg u m :=
  ⟨by rw [World.cell?_setCell_other _ _ _ _ (by simp)]; exact h.c0, by rw [World.cell?_setCell_other _ _ _ _ (by simp)]; exact h.c1, World.cell?_setCell_same _ _ _ h.c2, by rw [World.cell?_setCell_other _ _ _ _ (by simp)]; exact h.c3, by simp [h.f2], by simp [h.f3]⟩
theorem OutC.set3 {w : World} {b : Nat} {cf rg : Int} {c m u : Value} (h : OutC w b cf rg c m) : OutC (w.setCell ⟨b, 3, none⟩ u) b cf rg c u :=
  ⟨by rw [World.cell?_setCell_other _ _ _ _ (by simp)]; exact h.c0, by rw [World.cell?_setCell_other _ _ _ _ (by simp)]; exact h.c1, by rw [World.cell?_setCell_other _ _ _ _ (by simp)]; exact h.c2, World.cell?_setCell_same _ _ _ h.c3, by simp [h.f2], by simp [h.f3]⟩
theorem OutC.setFar {w : World} {b : Nat} {cf rg : Int} {c m u : Value} {p : Addr} (h : OutC w b cf rg c m) (hp : p.block ≠ b) : OutC (w.setCell p u) b cf rg c m :=
  ⟨cell_set_far h.c0 (Ne.symm hp), cell_set_far h.c1 (Ne.symm hp), cell_set_far h.c2 (Ne.symm hp), cell_set_far h.c3 (Ne.symm hp), by simp [h.f2], by simp [h.f3]⟩
/-- An instruction's cells and its arguments. -/
theorem ir_owns {w : World} {B : Nat → Prop} {kd r ra rb k cost mt ip : Int} {v : Value} {args : List Int} (h : OSl layI 3 8 w B v args) : layIr.owns w B [.int .i64 kd, .int .i64 r, .int .i64 ra, .int .i64 rb, .int .i64 k, v, .int .i64 cost, .int .i64 mt, .int .i64 ip] (kd, r, ra, rb, k, args, cost, mt, ip) := by
  have no : ∀ b : Nat, (fun _ => False : Nat → Prop) b → B b := fun _ h => h.elim
  have step : ∀ {β : Type} {M : Lay β} {x : Int} {cs : List Value} {y : β}, M.owns w B cs y → (layP layI M).owns w B (.int .i64 x :: cs) (x, y) := fun {β M x cs y} hy => ⟨[.int .i64 x], cs, fun _ => False, B, rfl, no, fun _ h => h, fun _ h _ => h, rfl, hy⟩
  refine step (step (step (step (step ?_))))
  refine ⟨[v], [.int .i64 cost, .int .i64 mt, .int .i64 ip], B, fun _ => False, rfl, fun _ h => h, no, fun _ _ h => h, ⟨v, rfl, h⟩, ?_⟩
  exact ⟨[.int .i64 cost], [.int .i64 mt, .int .i64 ip], fun _ => False, fun _ => False, rfl, fun _ h => h, fun _ h => h, fun _ h _ => h, rfl, ⟨[.int .i64 mt], [.int .i64 ip], fun _ => False, fun _ => False, rfl, fun _ h => h, fun _ h => h, fun _ h _ => h, rfl, rfl⟩⟩
/-- A part's cells and its lists. -/
theorem part_owns {w : World} {B1 B2 : Nat → Prop} {f0 x0 : Int} {v u : Value} {ll sl : List SrcT} (h1 : OSl laySrcs 63 16 w B1 v ll) (h2 : OSl laySrcs 63 16 w B2 u sl) (hd : ∀ b, B1 b → B2 b → False) : layPart.owns w (fun b => B1 b ∨ B2 b) [.int .i64 f0, .int .i64 x0, v, u] (f0, x0, ll, sl) := by
  have step : ∀ {B : Nat → Prop} {β : Type} {M : Lay β} {x : Int} {cs : List Value} {y : β}, M.owns w B cs y → (layP layI M).owns w B (.int .i64 x :: cs) (x, y) := fun {B β M x cs y} hy => ⟨[.int .i64 x], cs, fun _ => False, B, rfl, fun _ h => h.elim, fun _ h => h, fun _ h _ => h, rfl, hy⟩
  refine step (step ?_)
  exact ⟨[v], [u], B1, B2, rfl, fun _ h => .inl h, fun _ h => .inr h, hd, ⟨v, rfl, h1⟩, ⟨u, rfl, h2⟩⟩
theorem meta_owns {w : World} {B : Nat → Prop} {v : Value} {parts : List PartT} (h : OSl layPart 60 64 w B v parts) : layMeta.owns w B [v] parts := ⟨v, rfl, h⟩

end Go.Proofs.YtaimpljkbpnigaaGreatDoor

namespace Go.Proofs.YtaimpljkbpnigaaGreatDoor
open Go.RowKit
set_option linter.unusedVariables false

set_option maxRecDepth 100000 in
set_option maxHeartbeats 4000000 in
theorem sameIr_same (kd r ra rb k : Int) (xa : Option Addr) (xn xc : Nat) (ya : Option Addr) (yn yc : Nat) (args : List Int) (cost mt ip : Int) (w : World) (hx : Ints w xa xn xc args) (hy : Ints w ya yn yc args) :
    Calls Tryz.prog 16 #[.agg #[.int .i64 kd, .int .i64 r, .int .i64 ra, .int .i64 rb, .int .i64 k, .slice xa xn xc, .int .i64 cost, .int .i64 mt, .int .i64 ip], .agg #[.int .i64 kd, .int .i64 r, .int .i64 ra, .int .i64 rb, .int .i64 k, .slice ya yn yc, .int .i64 cost, .int .i64 mt, .int .i64 ip]] w fun e w' => e = .returned (.bool true) ∧ Below w.heap.size w w' := by
  have HX := hid hx
  have HY := hid hy
  clear hx hy
  go_enter Tryz.func16, Tryz.ntmps16
  go_wp2_with fail
  refine (sameInts_any _ _ _ _ _ _ args args _ (HX.out.kept (by go_grown)) (HY.out.kept (by go_grown))).mono ?_
  rintro e w1 ⟨rfl, b1⟩
  go_wp2_with fail
  go_ret
  exact ⟨ret_bool (by simp), kt (by go_grown) b1⟩

set_option maxRecDepth 100000 in
set_option maxHeartbeats 4000000 in
theorem sameParts_same (a : Option Addr) (n c : Nat) (b : Option Addr) (m d : Nat) (l : List PartT) (w : World) (h1 : Sl layPart 64 w a n c l) (h2 : Sl layPart 64 w b m d l) :
    Calls Tryz.prog 29 #[.slice a n c, .slice b m d] w fun e w' => e = .returned (.bool true) ∧ Below w.heap.size w w' := by
  have hr := h1.room
  have hr2 := h2.room
  have hc := h1.cap
  have hc2 := h2.cap
  obtain rfl : n = m := by rw [h1.len, h2.len]
  have H1 := hid h1
  have H2 := hid h2
  clear h1 h2
  go_enter Tryz.func29, Tryz.ntmps29
  go_wp2_with fail
  go_loopw [5] (fun i wr => ∃ q : Nat, q ≤ n ∧ i = .int .i64 q ∧ Below w.heap.size w wr) (fun i _ => n - (intOf i).toNat)
  case atStart => exact ⟨0, Nat.zero_le _, rfl, Below.refl _ _⟩
  case round =>
    obtain ⟨q, hq, rfl, hb⟩ := hrel
    by_cases hlt : q < n
    · obtain ⟨b1, o1, f0, x0, la, ln, lc, ll, sa, sn, sc, sl, rfl, ex, s0, s1, s2, s3, hl, hs⟩ := part_at (H1.out.kept hb) q hlt
      obtain ⟨b2, o2, f0', x0', la', ln', lc', ll', sa', sn', sc', sl', rfl, ex', t0, t1, t2, t3, hl', hs'⟩ := part_at (H2.out.kept hb) q hlt
      have e := Option.some.inj (ex.symm.trans ex')
      obtain ⟨rfl, rfl, rfl, rfl⟩ : f0 = f0' ∧ x0 = x0' ∧ ll = ll' ∧ sl = sl' := by cases e; exact ⟨rfl, rfl, rfl, rfl⟩
      have HL := hid hl
      have HS := hid hs
      have HL' := hid hl'
      have HS' := hid hs'
      have HB := hid hb
      clear ex ex' e hl hs hl' hs'
      replace s0 := cell_regrown s0
      replace s1 := cell_regrown s1
      replace s2 := cell_regrown s2
      replace s3 := cell_regrown s3
      replace t0 := cell_regrown t0
      replace t1 := cell_regrown t1
      replace t2 := cell_regrown t2
      replace t3 := cell_regrown t3
      have q0 : (0 : Int) ≤ (q : Int) := by omega
      have q1 : (q : Int) < (n : Int) := by omega
      have SL : Hid (∀ u, Below wr.heap.size wr u → Calls Tryz.prog 18 #[.slice la ln lc, .slice la' ln' lc'] u fun e w' => e = .returned (.bool true) ∧ Below u.heap.size u w') := hid (fun u hu => (sameSrcs_any _ _ _ _ _ _ ll ll u (HL.out.kept hu) (HL'.out.kept hu)).mono (fun _ _ h => ⟨by rw [h.1]; simp, h.2⟩))
      have SS : Hid (∀ u, Below wr.heap.size wr u → Calls Tryz.prog 18 #[.slice sa sn sc, .slice sa' sn' sc'] u fun e w' => e = .returned (.bool true) ∧ Below u.heap.size u w') := hid (fun u hu => (sameSrcs_any _ _ _ _ _ _ sl sl u (HS.out.kept hu) (HS'.out.kept hu)).mono (fun _ _ h => ⟨by rw [h.1]; simp, h.2⟩))
      go_upto_region 6 with fail
      refine wp_region_quiet_below (by kernel_rfl) (by kernel_rfl) ?_
      repeat (go_big_quiet_step (first | (go_at_call 18; first | with_reducible exact Calls.regrown_of (SL.out _ (below_regrown _ _ _)) | with_reducible exact Calls.regrown_of (SS.out _ (below_regrown _ _ _)))))
      refine wpQuiet_nil ?_
      intro _ hw'
      obtain ⟨⟨dq, osq⟩, hw''⟩ := hw'
      subst hw''
      go_wp2_with fail
      go_roundw
      case rel => exact ⟨q + 1, by omega, by go_num, kt HB.out (below_regrown _ _ _)⟩
      case measure => simp [intOf]; omega
    · go_wp2_with fail
      go_ret
      exact ⟨rfl, hb⟩

set_option maxRecDepth 100000 in
set_option maxHeartbeats 8000000 in
theorem sameCode_same (cf rg : Int) (ca : Option Addr) (cn cc : Nat) (ma : Option Addr) (mn mc : Nat) (ca' : Option Addr) (cn' cc' : Nat) (ma' : Option Addr) (mn' mc' : Nat) (cl : List IrT) (ml : List (List PartT)) (w : World) (h1 : Sl layIr 88 w ca cn cc cl) (h2 : Sl layMeta 24 w ma mn mc ml) (k1 : Sl layIr 88 w ca' cn' cc' cl) (k2 : Sl layMeta 24 w ma' mn' mc' ml) :
    Calls Tryz.prog 10 #[.agg #[.int .i64 cf, .int .i64 rg, .slice ca cn cc, .slice ma mn mc], .agg #[.int .i64 cf, .int .i64 rg, .slice ca' cn' cc', .slice ma' mn' mc']] w fun e w' => e = .returned (.bool true) ∧ Below w.heap.size w w' := by
  have hr := h1.room
  have hr2 := h2.room
  have hc := h1.cap
  have hc2 := h2.cap
  have kc := k1.cap
  have kc2 := k2.cap
  obtain rfl : cn = cn' := by rw [h1.len, k1.len]
  obtain rfl : mn = mn' := by rw [h2.len, k2.len]
  have H1 := hid h1
  have H2 := hid h2
  have K1 := hid k1
  have K2 := hid k2
  clear h1 h2 k1 k2
  go_enter Tryz.func10, Tryz.ntmps10
  go_wp2_with fail
  go_loopw [5] (fun i wr => ∃ q : Nat, q ≤ cn ∧ i = .int .i64 q ∧ wr.cell? ⟨w.heap.size, 2, none⟩ = some (.slice ca cn cc) ∧ wr.cell? ⟨w.heap.size, 3, none⟩ = some (.slice ma mn mc) ∧ wr.cell? ⟨w.heap.size + 1, 2, none⟩ = some (.slice ca' cn cc') ∧ wr.cell? ⟨w.heap.size + 1, 3, none⟩ = some (.slice ma' mn mc') ∧ Below w.heap.size w wr) (fun i _ => cn - (intOf i).toNat)
  case atStart => exact ⟨0, Nat.zero_le _, rfl, by simp [go_sem], by simp [go_sem], by simp [go_sem], by simp [go_sem], by go_grown⟩
  case round =>
    obtain ⟨q, hq, rfl, p2, p3, r2, r3, hb⟩ := hrel
    by_cases hlt : q < cn
    · obtain ⟨b1, o1, kd, r, ra, rb, k, xa, xn, xc, args, cost, mt, ip, rfl, ex, e0, e1, e2, e3, e4, e5, e6, e7, e8, hx⟩ := ir_at (H1.out.kept hb) q hlt
      obtain ⟨b2, o2, kd', r', ra', rb', k', ya, yn, yc, args', cost', mt', ip', rfl, ey, f0, f1, f2, f3, f4, f5, f6, f7, f8, hy⟩ := ir_at (K1.out.kept hb) q hlt
      have e := Option.some.inj (ex.symm.trans ey)
      obtain ⟨rfl, rfl, rfl, rfl, rfl, rfl, rfl, rfl, rfl⟩ : kd = kd' ∧ r = r' ∧ ra = ra' ∧ rb = rb' ∧ k = k' ∧ args = args' ∧ cost = cost' ∧ mt = mt' ∧ ip = ip' := by cases e; exact ⟨rfl, rfl, rfl, rfl, rfl, rfl, rfl, rfl, rfl⟩
      have HX := hid hx
      have HY := hid hy
      have HB := hid hb
      have P := hid (And.intro p2 (And.intro p3 (And.intro r2 r3)))
      clear ex ey e hx hy
      replace e0 := cell_regrown e0
      replace e1 := cell_regrown e1
      replace e2 := cell_regrown e2
      replace e3 := cell_regrown e3
      replace e4 := cell_regrown e4
      replace e5 := cell_regrown e5
      replace e6 := cell_regrown e6
      replace e7 := cell_regrown e7
      replace e8 := cell_regrown e8
      replace f0 := cell_regrown f0
      replace f1 := cell_regrown f1
      replace f2 := cell_regrown f2
      replace f3 := cell_regrown f3
      replace f4 := cell_regrown f4
      replace f5 := cell_regrown f5
      replace f6 := cell_regrown f6
      replace f7 := cell_regrown f7
      replace f8 := cell_regrown f8
      have q0 : (0 : Int) ≤ (q : Int) := by omega
      have q1 : (q : Int) < (cn : Int) := by omega
      have SI : Hid (∀ u, Below wr.heap.size wr u → Calls Tryz.prog 16 #[.agg #[.int .i64 kd, .int .i64 r, .int .i64 ra, .int .i64 rb, .int .i64 k, .slice xa xn xc, .int .i64 cost, .int .i64 mt, .int .i64 ip], .agg #[.int .i64 kd, .int .i64 r, .int .i64 ra, .int .i64 rb, .int .i64 k, .slice ya yn yc, .int .i64 cost, .int .i64 mt, .int .i64 ip]] u fun e w' => e = .returned (.bool true) ∧ Below u.heap.size u w') := hid (fun u hu => sameIr_same _ _ _ _ _ _ _ _ _ _ _ args _ _ _ u (HX.out.kept hu) (HY.out.kept hu))
      go_upto_region 6 with fail
      replace p2 := cell_regrown p2
      replace r2 := cell_regrown r2
      refine wp_region_quiet_below (by kernel_rfl) (by kernel_rfl) ?_
      repeat (go_big_quiet_step (first | (go_at_call 16; exact Calls.regrown_of (SI.out _ (below_regrown _ _ _)))))
      refine wpQuiet_nil ?_
      intro _ hw'
      obtain ⟨⟨dq, osq⟩, hw''⟩ := hw'
      subst hw''
      go_wp2_with fail
      go_roundw
      case rel => exact ⟨q + 1, by omega, by go_num, kept_cell (below_regrown _ _ _) P.out.1, kept_cell (below_regrown _ _ _) P.out.2.1, kept_cell (below_regrown _ _ _) P.out.2.2.1, kept_cell (below_regrown _ _ _) P.out.2.2.2, kt HB.out (below_regrown _ _ _)⟩
      case measure => simp [intOf]; omega
    · have hqn : q = cn := by omega
      subst hqn
      have HB := hid hb
      clear hb hlt hq
      go_wp2_with fail
      go_loopw [6] (fun i ws => ∃ j : Nat, j ≤ mn ∧ i = .int .i64 j ∧ ws.cell? ⟨w.heap.size, 3, none⟩ = some (.slice ma mn mc) ∧ ws.cell? ⟨w.heap.size + 1, 3, none⟩ = some (.slice ma' mn mc') ∧ Below w.heap.size w ws) (fun i _ => mn - (intOf i).toNat)
      case atStart => exact ⟨0, Nat.zero_le _, rfl, p3, r3, HB.out⟩
      case round =>
        clear p2 p3 r2 r3 HB
        obtain ⟨j, hj, rfl, p3, r3, hb⟩ := hrel
        by_cases hlt : j < mn
        · obtain ⟨b1, o1, pa, pn, pc, parts, rfl, ex, e0, hx⟩ := meta_at (H2.out.kept hb) j hlt
          obtain ⟨b2, o2, pa', pn', pc', parts', rfl, ey, f0, hy⟩ := meta_at (K2.out.kept hb) j hlt
          obtain rfl : parts = parts' := Option.some.inj (ex.symm.trans ey)
          rw [Nat.mul_one] at e0 f0
          have HX := hid hx
          have HY := hid hy
          have HB := hid hb
          have P := hid (And.intro p3 r3)
          clear ex ey hx hy
          replace e0 := cell_regrown e0
          replace f0 := cell_regrown f0
          have q0 : (0 : Int) ≤ (j : Int) := by omega
          have q1 : (j : Int) < (mn : Int) := by omega
          have SP : Hid (∀ u, Below wr.heap.size wr u → Calls Tryz.prog 29 #[.slice pa pn pc, .slice pa' pn' pc'] u fun e w' => e = .returned (.bool true) ∧ Below u.heap.size u w') := hid (fun u hu => sameParts_same _ _ _ _ _ _ parts u (HX.out.kept hu) (HY.out.kept hu))
          go_upto_region 11 with fail
          replace p3 := cell_regrown p3
          replace r3 := cell_regrown r3
          refine wp_region_quiet_below (by kernel_rfl) (by kernel_rfl) ?_
          repeat (go_big_quiet_step (first | (go_at_call 29; exact Calls.regrown_of (SP.out _ (below_regrown _ _ _)))))
          refine wpQuiet_nil ?_
          intro _ hw'
          obtain ⟨⟨dq, osq⟩, hw''⟩ := hw'
          subst hw''
          go_wp2_with fail
          go_roundw
          case rel => exact ⟨j + 1, by omega, by go_num, kept_cell (below_regrown _ _ _) P.out.1, kept_cell (below_regrown _ _ _) P.out.2, kt HB.out (below_regrown _ _ _)⟩
          case measure => simp [intOf]; omega
        · go_wp2_with fail
          go_ret
          exact ⟨rfl, hb⟩

end Go.Proofs.YtaimpljkbpnigaaGreatDoor
