/- The document's own push and pop. The document's own Instr: what is so amid it; push, pop, the program counter, a local. The document's own Instr: what it tells. The document's own call. The document's own Instr: const, drop, print, ret. The document's own Instr: jump, zero0, zero1. The document's own Instr: op, trap. The document's own Instr: load, store. The document's own Instr: dup. The document's own Instr: deep, call. The document's own Instr, whole. The document's own over and CopyFrame. The document's own Copy. -/
import Derived.Test.YtcngmkbgcfhmdaaGreatDoorJ7
import Derived.Test.YtcngmkbgcfhmdaaGreatDoorJ4
import Derived.Deep.AppendLies
import Derived.Test.YtcngmkbgcfhmdaaGreatDoorJ7p
import Derived.Test.YtcngmkbgcfhmdaaGreatDoorJ6b
import Derived.Deep.RegionHeld3
import Derived.Deep.QuietTactic
import Derived.BigQuiet
import Derived.Test.YtcngmkbgcfhmdaaGreatDoorRefDo
import Derived.Deep.RegionWith
import Derived.Deep.RegionLaw
import Derived.Deep.DrawnRows
namespace Go.Proofs.YtcngmkbgcfhmdaaGreatDoor
open Go.RowKit
set_option linter.unusedVariables false

set_option maxHeartbeats 2000000 in
/-- One more on the last frame's stack. -/
theorem refPush_any {base mb g cap : Nat} {t : List U4} {lv sv ov : Value} {fs : List Fr} {x y : Int} {ll sl out : List Int} (z : Int) (w : World) (m : MSt w base mb (.slice (some ⟨g, 0, none⟩) (fs.length + 1) cap) (t ++ [(x, y, lv, sv)]) ov (fs ++ [(x, y, ll, sl)]) out) (hl : sl.length ≤ 100) (hb : base ≤ w.heap.size) :
    Calls Tryz.prog 58 #[.pointer (some ⟨g, fs.length * 4, none⟩), .int .i64 z] w fun e w' => e = .returned (.tuple #[]) ∧ Frm (fun b => b = g ∨ sv.ownBlock = some b) w w' ∧ ∃ sv', MSt w' base mb (.slice (some ⟨g, 0, none⟩) (fs.length + 1) cap) (t ++ [(x, y, lv, sv')]) ov (fs ++ [(x, y, ll, sl ++ [z])]) out := by
  obtain ⟨i0, hi, hz0, hz1, hz2⟩ := info_parts Tryz.infoInt
  have hr := m.stk
  obtain ⟨sa, sn, sc, rfl, _⟩ := ints_of_owns hr.2 hr.1
  obtain ⟨_, _, _, c3, hfz⟩ := m.cells
  have f3 := hfz (fs.length * 4 + 3)
  have hg := m.gNe
  have M := hid m
  have HG := hid hg
  have fr1 : Frm (fun b => (Value.slice sa sn sc).ownBlock = some b) w (w.alloc (.cells #[.int .i64 z] 3)) := Frm.of_below (Below.alloc (Below.refl _ _) (Nat.le_refl _) _)
  have FR := hid fr1
  have HO : Hid ((w.alloc (.cells #[.int .i64 z] 3)).ownsRow base 3 1 (.slice sa sn sc) sl.length (ints sl)) := hid (hr.2.alloc _)
  have q3 := kept_cell (Below.alloc (Below.refl _ _) (Nat.le_refl _) (.cells #[.int .i64 z] 3)) c3
  have J := hid (And.intro q3 (show (w.alloc (.cells #[.int .i64 z] 3)).frozen? ⟨g, fs.length * 4 + 3, none⟩ = false by rw [(Below.alloc (Below.refl w.heap.size w) (Nat.le_refl _) (.cells #[.int .i64 z] 3)).frozen (p := ⟨g, fs.length * 4 + 3, none⟩) hg.2.2.1]; exact f3))
  have hnews := World.news_of_block (heap_alloc_new w (.cells #[.int .i64 z] 3))
  have HN : Hid (some g ≠ (Value.slice sa sn sc).ownBlock) := hid (fun e => hg.2.2.2.1 e.symm)
  have BB := hid hb
  clear m hr hg fr1 hfz q3 hb
  go_enter Tryz.func58, Tryz.ntmps58
  go_wp2_with (at_builtin; go_must ((refine wpList_append_lies _ rfl _ _ 26 rfl base 3 i0 (.int .i64 0) 1 8 Tryz.underlying26 hi hz0 hz1 hz2 rfl (by decide) (.slice sa sn sc) sl.length (ints sl) rfl HO.out ⟨w.heap.size, 0, none⟩ 1 1 [.int .i64 z] rfl rfl hnews (by intro u hu; simp at hu; subst hu; rfl) (by decide) (by unfold maxLen; omega) (by omega) (by simp; have := BB.out; omega) (w.heap.size + 1) (by simp) ?_; intro g' cap' w6 ho6 hg6 hat hlt6; have q2 := hg6.cell J.out.1 HN.out; have qf2 := (hg6.frozen_far ⟨g, fs.length * 4 + 3, none⟩ (lt_of_cell J.out.1) HN.out).trans J.out.2; have P := hid (And.intro ho6 (And.intro hg6 hat)); clear ho6 hg6 hat hlt6)))
  go_end0
  obtain ⟨p1, p2, p3⟩ := P.out
  have fr2 : Frm (fun b => (Value.slice sa sn sc).ownBlock = some b) w w6 := FR.out.trans (Frm.of_grown p2 (fun k hk => hk)) (fun _ _ h => h)
  refine ⟨rfl, (Frm.trans (S := fun b => b = g ∨ (Value.slice sa sn sc).ownBlock = some b) ⟨fr2.os, fr2.tape, fr2.output, fr2.size, fun k hk hn => fr2.block k hk (fun e => hn (.inr e))⟩ (Frm.set (S := fun b => b = g) (p := ⟨g, fs.length * 4 + 3, none⟩) _ rfl) (fun _ _ h => .inl h)), _, M.out.setStk fr2 ⟨by simp; omega, ints_snoc p1⟩ (fun b hb => ?_)⟩
  cases hb
  rcases p3 with h | h
  · exact .inl h
  · exact .inr (by show w.heap.size ≤ g'; omega)

set_option maxHeartbeats 2000000 in
/-- The last one off the last frame's stack. -/
theorem refPop_any {base mb g cap : Nat} {t : List U4} {lv sv ov : Value} {fs : List Fr} {x y : Int} {ll sl out : List Int} {z : Int} (w : World) (m : MSt w base mb (.slice (some ⟨g, 0, none⟩) (fs.length + 1) cap) (t ++ [(x, y, lv, sv)]) ov (fs ++ [(x, y, ll, sl ++ [z])]) out) (hl : sl.length ≤ 100) :
    Calls Tryz.prog 76 #[.pointer (some ⟨g, fs.length * 4, none⟩)] w fun e w' => e = .returned (.int .i64 z) ∧ ∃ sv', MSt w' base mb (.slice (some ⟨g, 0, none⟩) (fs.length + 1) cap) (t ++ [(x, y, lv, sv')]) ov (fs ++ [(x, y, ll, sl)]) out ∧ sv'.ownBlock = sv.ownBlock ∧ w' = w.setCell ⟨g, fs.length * 4 + 3, none⟩ sv' := by
  have hr := m.stk
  obtain ⟨b0, sc, cur, rfl, h1, h2, h3, h4, h5, h6⟩ : ∃ b0 sc cur, sv = .slice (some ⟨b0, 0, none⟩) (sl.length + 1) sc ∧ base ≤ b0 ∧ w.heap[b0]? = some (.cells cur 3 (0, 0)) ∧ sl.length + 1 ≤ sc ∧ sc ≤ maxLen ∧ cur.size = sc * 1 ∧ cur.toList.take ((sl.length + 1) * 1) = ints (sl ++ [z]) := by
    have h0 := hr.2
    rw [show (sl ++ [z]).length = sl.length + 1 by simp] at h0
    rcases h0.2 with ⟨_, e⟩ | ⟨b0, sc, cur, rfl, h1, h2, h3, h4, h5, h6⟩
    · omega
    · exact ⟨b0, sc, cur, rfl, h1, h2, h3, h4, h5, h6⟩
  obtain ⟨_, _, _, c3, hfz⟩ := m.cells
  have f3 := hfz (fs.length * 4 + 3)
  have d0 : w.cell? ⟨b0, sl.length, none⟩ = some (.int .i64 z) := by
    have h0 := hr.2
    rw [show (sl ++ [z]).length = sl.length + 1 by simp] at h0
    rw [h0.cellAt _ (by omega), ints_at _ _ (by simp)]
    simp [List.getD_eq_getElem?_getD]
  have R : Hid (Row1 w base (.slice (some ⟨b0, 0, none⟩) sl.length sc) sl) := hid ⟨by omega, by simp [ints_len], .inr ⟨b0, sc, cur, rfl, h1, h2, by omega, h4, h5, by
    rw [show cur.toList.take (sl.length * 1) = (cur.toList.take ((sl.length + 1) * 1)).take (sl.length * 1) by rw [List.take_take, Nat.min_eq_left (by omega)], h6, ints_app, List.take_append_of_le_length (by rw [ints_len]; omega), List.take_of_length_le (by rw [ints_len]; omega)]⟩⟩
  have M := hid m
  have hsc : sl.length + 1 ≤ sc := h3
  clear m hr hfz h1 h2 h3 h5 h6
  go_enter Tryz.func76, Tryz.ntmps76
  go_wp2_with fail
  go_ret
  refine ⟨rfl, .slice (some ⟨b0, 0, none⟩) sl.length sc, M.out.setStk (Frm.refl _ _) R.out (fun b hb => .inl hb), rfl, ?_⟩
  simp

end Go.Proofs.YtcngmkbgcfhmdaaGreatDoor

namespace Go.Proofs.YtcngmkbgcfhmdaaGreatDoor
open Go.RowKit
set_option linter.unusedVariables false

/-- A block of another type than rows have may be written. -/
theorem MSt.setTy {w : World} {base mb k T : Nat} {v ov : Value} {t : List U4} {fs : List Fr} {out : List Int} {c : Array Value} (h : MSt w base mb v t ov fs out) (hk : w.heap[k]? = some (.cells c T)) (h1 : T ≠ 3) (h2 : T ≠ 51) (o : Nat) (u : Value) :
    MSt (w.setCell ⟨k, o, none⟩ u) base mb v t ov fs out ∧ (w.setCell ⟨k, o, none⟩ u).heap[k]? = some (.cells (c.setIfInBounds o u) T) := by
  have hf : Frm (fun b => b = k) w (w.setCell ⟨k, o, none⟩ u) := Frm.set _ rfl
  refine ⟨⟨h.heads, hf.owns h.own (fun b hb e => ?_), h.rows.frm hf (fun r hr b hb e => ?_), by have := h.hm; simpa using this, h.vm⟩, heap_setCell_same w k o c T u hk⟩
  · subst e; exact own_ne h.own hk h2 hb
  · subst e
    obtain ⟨_, _, _, cur, hc⟩ := h.rows.lt r hr b hb
    rw [hk] at hc
    simp at hc
    exact h1 hc.2
def zDid : Array Value := #[.bool false, .int .i64 0, .slice none 0 0, .bool false, .int .i64 0, .bool false, .int .i64 0]
theorem did_cells {w : World} {k : Nat} (h : w.heap[k]? = some (.cells zDid 99)) : (w.cell? ⟨k, 0, none⟩ = some (.bool false) ∧ w.cell? ⟨k, 1, none⟩ = some (.int .i64 0) ∧ w.cell? ⟨k, 2, none⟩ = some (.slice none 0 0) ∧ w.cell? ⟨k, 3, none⟩ = some (.bool false) ∧ w.cell? ⟨k, 4, none⟩ = some (.int .i64 0) ∧ w.cell? ⟨k, 5, none⟩ = some (.bool false) ∧ w.cell? ⟨k, 6, none⟩ = some (.int .i64 0)) ∧
    (∀ o, w.frozen? ⟨k, o, none⟩ = false) := by
  refine ⟨⟨(cell_of_heap (j := 0) h rfl).1, (cell_of_heap (j := 1) h rfl).1, (cell_of_heap (j := 2) h rfl).1, (cell_of_heap (j := 3) h rfl).1, (cell_of_heap (j := 4) h rfl).1, (cell_of_heap (j := 5) h rfl).1, (cell_of_heap (j := 6) h rfl).1⟩, fun o => ?_⟩
  simp [World.frozen?, h]
theorem Frm.heap {S : Nat → Prop} {w w' : World} {k : Nat} {o : Obj} (hf : Frm S w w') (h : w.heap[k]? = some o) (hs : ¬ S k) : w'.heap[k]? = some o := by rw [hf.block k (heap_lt h) hs]; exact h

/-- All but numbers and frames of one's own stays. -/
structure Kq (base : Nat) (W w : World) : Prop where
  os : w.os = W.os
  tape : w.tape = W.tape
  output : w.output = W.output
  size : W.heap.size ≤ w.heap.size
  low : ∀ b : Nat, b < W.heap.size → b < base → w.heap[b]? = W.heap[b]?
  typ : ∀ (b : Nat) (cur : Array Value) (e : TypeId) (z : Nat × Nat), W.heap[b]? = some (.cells cur e z) → e ≠ 3 → e ≠ 51 → w.heap[b]? = some (.cells cur e z)
theorem Kq.refl (base : Nat) (w : World) : Kq base w w := ⟨rfl, rfl, rfl, Nat.le_refl _, fun _ _ _ => rfl, fun _ _ _ _ h _ _ => h⟩
/-- A block that may turn: a new one, or a row of numbers or of frames of one's own. -/
def May (base : Nat) (W w : World) (b : Nat) : Prop := W.heap.size ≤ b ∨ (base ≤ b ∧ ∃ (cur : Array Value) (e : TypeId) (z : Nat × Nat), w.heap[b]? = some (.cells cur e z) ∧ (e = 3 ∨ e = 51))
theorem Kq.frm {base : Nat} {S : Nat → Prop} {W w w' : World} (h : Kq base W w) (hf : Frm S w w') (hS : ∀ b, S b → May base W w b) : Kq base W w' := by
  refine ⟨hf.os.trans h.os, hf.tape.trans h.tape, hf.output.trans h.output, Nat.le_trans h.size hf.size, fun b hb hbb => ?_, fun b cur e z hb h1 h2 => ?_⟩
  · rw [hf.block b (Nat.lt_of_lt_of_le hb h.size) (fun hs => ?_), h.low b hb hbb]
    rcases hS b hs with k | ⟨k, _⟩ <;> omega
  · have hw := h.typ b cur e z hb h1 h2
    rw [hf.block b (heap_lt hw) (fun hs => ?_), hw]
    rcases hS b hs with k | ⟨_, c2, e2, z2, k, k2⟩
    · have := heap_lt hb; omega
    · rw [hw] at k
      cases k
      rcases k2 with k2 | k2
      · exact h1 k2
      · exact h2 k2
theorem Kq.kept {base : Nat} {W w w' : World} (h : Kq base W w) (hb : Below w.heap.size w w') : Kq base W w' := h.frm (Frm.of_below (S := fun _ => False) hb) (fun _ k => k.elim)
theorem Kq.trans {base : Nat} {a b c : World} (h : Kq base a b) (k : Kq base b c) (hb : base ≤ a.heap.size) : Kq base a c :=
  ⟨k.os.trans h.os, k.tape.trans h.tape, k.output.trans h.output, Nat.le_trans h.size k.size, fun i hi hib => (k.low i (Nat.lt_of_lt_of_le hi h.size) hib).trans (h.low i hi hib), fun i cur e z hi h1 h2 => k.typ i cur e z (h.typ i cur e z hi h1 h2) h1 h2⟩
theorem Kq.below {base : Nat} {W w : World} (h : Kq base W w) (hb : base ≤ W.heap.size) : Below base W w := ⟨h.os, h.tape, h.output, h.size, fun b hbb => h.low b (by omega) hbb⟩

/-- Amid an instruction: its frame on top, p's box, its result's box, the instruction's box. -/
structure RunI (W w : World) (base mb g cap : Nat) (t : List U4) (x y : Int) (lv sv ov : Value) (fs : List Fr) (ll sl out : List Int) (db ib : Nat) (k a : Int) : Prop where
  M : MSt w base mb (.slice (some ⟨g, 0, none⟩) (fs.length + 1) cap) (t ++ [(x, y, lv, sv)]) ov (fs ++ [(x, y, ll, sl)]) out
  D : w.heap[db]? = some (.cells zDid 99)
  I : w.heap[ib]? = some (.cells #[.int .i64 k, .int .i64 a] 45)
  K : Kq base W w
  hd : W.heap.size ≤ db
  hsz : base ≤ W.heap.size
section
variable {W w : World} {base mb g cap : Nat} {t : List U4} {x y : Int} {lv sv ov : Value} {fs : List Fr} {ll sl out : List Int} {db ib : Nat} {k a : Int}
theorem MSt.gTy (m : MSt w base mb (.slice (some ⟨g, 0, none⟩) (fs.length + 1) cap) (t ++ [(x, y, lv, sv)]) ov (fs ++ [(x, y, ll, sl)]) out) : ∃ cur z, w.heap[g]? = some (.cells cur 51 z) := by
  rcases m.own'.2 with ⟨e0, _⟩ | ⟨g', cap', cur, e0, _, hg, _⟩
  · cases e0
  · cases e0; exact ⟨cur, _, hg⟩
theorem MSt.rTy (m : MSt w base mb (.slice (some ⟨g, 0, none⟩) (fs.length + 1) cap) (t ++ [(x, y, lv, sv)]) ov (fs ++ [(x, y, ll, sl)]) out) {u : Value} (hu : u ∈ ov :: rowsR (t ++ [(x, y, lv, sv)]).reverse) {b : Nat} (hb : u.ownBlock = some b) : base ≤ b ∧ ∃ cur z, w.heap[b]? = some (.cells cur 3 z) := by
  obtain ⟨_, h1, _, cur, hc⟩ := m.rows.lt u hu b hb
  exact ⟨h1, cur, _, hc⟩
theorem MSt.mayG (W : World) (m : MSt w base mb (.slice (some ⟨g, 0, none⟩) (fs.length + 1) cap) (t ++ [(x, y, lv, sv)]) ov (fs ++ [(x, y, ll, sl)]) out) : May base W w g := by
  obtain ⟨cur, z, h⟩ := m.gTy
  exact .inr ⟨m.gNe.2.1, cur, _, z, h, .inr rfl⟩
theorem MSt.mayR (W : World) (m : MSt w base mb (.slice (some ⟨g, 0, none⟩) (fs.length + 1) cap) (t ++ [(x, y, lv, sv)]) ov (fs ++ [(x, y, ll, sl)]) out) {u : Value} (hu : u ∈ ov :: rowsR (t ++ [(x, y, lv, sv)]).reverse) {b : Nat} (hb : u.ownBlock = some b) : May base W w b := by
  obtain ⟨h1, cur, z, h⟩ := m.rTy hu hb
  exact .inr ⟨h1, cur, _, z, h, .inl rfl⟩
/-- Boxes of other types stay where such a block turns. -/
theorem box_stays {S : Nat → Prop} {w w' : World} {b T : Nat} {c : Array Value} {z : Nat × Nat} (hf : Frm S w w') (h : w.heap[b]? = some (.cells c T z)) (hS : ∀ i, S i → ∃ cur e z, w.heap[i]? = some (.cells cur e z) ∧ e ≠ T) : w'.heap[b]? = some (.cells c T z) :=
  hf.heap h (fun hs => by
    obtain ⟨cur, e, z2, h2, h3⟩ := hS b hs
    rw [h] at h2
    cases h2
    exact h3 rfl)
theorem RunI.step {S : Nat → Prop} {w' : World} {y' : Int} {lv' sv' : Value} {ll' sl' : List Int} (h : RunI W w base mb g cap t x y lv sv ov fs ll sl out db ib k a) (hf : Frm S w w') (hS : ∀ i, S i → i = g ∨ sv.ownBlock = some i ∨ lv.ownBlock = some i)
    (m : MSt w' base mb (.slice (some ⟨g, 0, none⟩) (fs.length + 1) cap) (t ++ [(x, y', lv', sv')]) ov (fs ++ [(x, y', ll', sl')]) out) : RunI W w' base mb g cap t x y' lv' sv' ov fs ll' sl' out db ib k a := by
  have ty : ∀ i, S i → ∃ cur e z, w.heap[i]? = some (.cells cur e z) ∧ (e = 3 ∨ e = 51) := fun i hs => by
    rcases hS i hs with e | e | e
    · obtain ⟨cur, z, h1⟩ := h.M.gTy; rw [e]; exact ⟨cur, _, z, h1, .inr rfl⟩
    · obtain ⟨_, cur, z, h1⟩ := h.M.rTy (u := sv) (by simp [rowsR]) e; exact ⟨cur, _, z, h1, .inl rfl⟩
    · obtain ⟨_, cur, z, h1⟩ := h.M.rTy (u := lv) (by simp [rowsR]) e; exact ⟨cur, _, z, h1, .inl rfl⟩
  refine ⟨m, box_stays hf h.D (fun i hs => ?_), box_stays hf h.I (fun i hs => ?_), h.K.frm hf (fun i hs => ?_), h.hd, h.hsz⟩
  · obtain ⟨cur, e, z, h1, h2⟩ := ty i hs; exact ⟨cur, e, z, h1, by rcases h2 with rfl | rfl <;> decide⟩
  · obtain ⟨cur, e, z, h1, h2⟩ := ty i hs; exact ⟨cur, e, z, h1, by rcases h2 with rfl | rfl <;> decide⟩
  · rcases hS i hs with e | e | e
    · rw [e]; exact h.M.mayG W
    · exact h.M.mayR W (u := sv) (by simp [rowsR]) e
    · exact h.M.mayR W (u := lv) (by simp [rowsR]) e
theorem RunI.kept {w' : World} (h : RunI W w base mb g cap t x y lv sv ov fs ll sl out db ib k a) (hb : Below w.heap.size w w') : RunI W w' base mb g cap t x y lv sv ov fs ll sl out db ib k a :=
  ⟨h.M.kept hb, heap_kept h.D hb, heap_kept h.I hb, h.K.kept hb, h.hd, h.hsz⟩
theorem RunI.drew (h : RunI W w base mb g cap t x y lv sv ov fs ll sl out db ib k a) : RunI W w.drew base mb g cap t x y lv sv ov fs ll sl out db ib k a := h.kept (Below.drew (Below.refl _ _))
theorem RunI.setPc (h : RunI W w base mb g cap t x y lv sv ov fs ll sl out db ib k a) (z : Int) : RunI W (w.setCell ⟨g, fs.length * 4 + 1, none⟩ (.int .i64 z)) base mb g cap t x z lv sv ov fs ll sl out db ib k a :=
  h.step (S := fun b => b = g) (Frm.set _ rfl) (fun i e => .inl e) (h.M.pc z)
theorem RunI.setLoc {lb n c : Nat} (h : RunI W w base mb g cap t x y (.slice (some ⟨lb, 0, none⟩) n c) sv ov fs ll sl out db ib k a) (i : Nat) (z : Int) : RunI W (w.setCell ⟨lb, i, none⟩ (.int .i64 z)) base mb g cap t x y (.slice (some ⟨lb, 0, none⟩) n c) sv ov fs (ll.set i z) sl out db ib k a :=
  h.step (S := fun b => b = lb) (Frm.set _ rfl) (fun i e => .inr (.inr (by rw [e]; rfl))) (h.M.setLoc i z)
theorem RunI.locForm (h : RunI W w base mb g cap t x y lv sv ov fs ll sl out db ib k a) {i : Nat} (hi : i < ll.length) : ∃ lb c, lv = .slice (some ⟨lb, 0, none⟩) ll.length c ∧ ll.length ≤ c ∧ w.cell? ⟨lb, i, none⟩ = some (.int .i64 (ll.getD i 0)) ∧ w.frozen? ⟨lb, i, none⟩ = false := by
  have hr := h.M.loc.2
  rcases hr.2 with ⟨_, e⟩ | ⟨lb, c, cur, rfl, _, _, hc, _⟩
  · omega
  · exact ⟨lb, c, rfl, hc, by rw [hr.cellAt _ (by omega), ints_at _ _ hi], hr.frozenAt _⟩
theorem RunI.stkForm {z : Int} (h : RunI W w base mb g cap t x y lv sv ov fs ll (sl ++ [z]) out db ib k a) : ∃ sb c, sv = .slice (some ⟨sb, 0, none⟩) (sl.length + 1) c ∧ sl.length + 1 ≤ c ∧ w.cell? ⟨sb, sl.length, none⟩ = some (.int .i64 z) := by
  have hr := h.M.stk.2
  rw [show (sl ++ [z]).length = sl.length + 1 by simp] at hr
  rcases hr.2 with ⟨_, e⟩ | ⟨sb, c, cur, rfl, _, _, hc, _⟩
  · omega
  · exact ⟨sb, c, rfl, hc, by rw [hr.cellAt _ (by omega), ints_at _ _ (by simp)]; simp [List.getD_eq_getElem?_getD]⟩
theorem RunI.ins (h : RunI W w base mb g cap t x y lv sv ov fs ll sl out db ib k a) : w.cell? ⟨ib, 0, none⟩ = some (.int .i64 k) ∧ w.cell? ⟨ib, 1, none⟩ = some (.int .i64 a) := ⟨(cell_of_heap (j := 0) h.I rfl).1, (cell_of_heap (j := 1) h.I rfl).1⟩
theorem RunI.ne (h : RunI W w base mb g cap t x y lv sv ov fs ll sl out db ib k a) : db ≠ g ∧ ib ≠ g := by
  obtain ⟨cur, z, h1⟩ := h.M.gTy
  constructor
  · intro e; have := h.D; rw [e, h1] at this; cases this
  · intro e; have := h.I; rw [e, h1] at this; cases this
/-- Its result is stored. -/
theorem RunI.fin (h : RunI W w base mb g cap t x y lv sv ov fs ll sl out db ib k a) (v0 v1 v2 v3 v4 v5 v6 : Value) :
    MSt (((((((w.setCell ⟨db, 0, none⟩ v0).setCell ⟨db, 1, none⟩ v1).setCell ⟨db, 2, none⟩ v2).setCell ⟨db, 3, none⟩ v3).setCell ⟨db, 4, none⟩ v4).setCell ⟨db, 5, none⟩ v5).setCell ⟨db, 6, none⟩ v6) base mb (.slice (some ⟨g, 0, none⟩) (fs.length + 1) cap) (t ++ [(x, y, lv, sv)]) ov (fs ++ [(x, y, ll, sl)]) out ∧
    Kq base W (((((((w.setCell ⟨db, 0, none⟩ v0).setCell ⟨db, 1, none⟩ v1).setCell ⟨db, 2, none⟩ v2).setCell ⟨db, 3, none⟩ v3).setCell ⟨db, 4, none⟩ v4).setCell ⟨db, 5, none⟩ v5).setCell ⟨db, 6, none⟩ v6) := by
  obtain ⟨m1, z1⟩ := h.M.setTy h.D (by decide) (by decide) 0 v0
  obtain ⟨m2, z2⟩ := m1.setTy z1 (by decide) (by decide) 1 v1
  obtain ⟨m3, z3⟩ := m2.setTy z2 (by decide) (by decide) 2 v2
  obtain ⟨m4, z4⟩ := m3.setTy z3 (by decide) (by decide) 3 v3
  obtain ⟨m5, z5⟩ := m4.setTy z4 (by decide) (by decide) 4 v4
  obtain ⟨m6, z6⟩ := m5.setTy z5 (by decide) (by decide) 5 v5
  obtain ⟨m7, z7⟩ := m6.setTy z6 (by decide) (by decide) 6 v6
  refine ⟨m7, h.K.frm (S := fun b => b = db) ?_ (fun b e => .inl (by rw [e]; exact h.hd))⟩
  exact fSet rfl (fSet rfl (fSet rfl (fSet rfl (fSet rfl (fSet rfl (fSet rfl (Frm.refl _ _)))))))
end
section
variable {W : World} {base mb g cap : Nat} {t : List U4} {x y : Int} {lv sv ov : Value} {fs : List Fr} {ll sl out : List Int} {db ib : Nat} {k a : Int}
theorem pushI (z : Int) (w : World) (h : RunI W w base mb g cap t x y lv sv ov fs ll sl out db ib k a) (hl : sl.length ≤ 100) :
    Calls Tryz.prog 58 #[.pointer (some ⟨g, fs.length * 4, none⟩), .int .i64 z] w fun e w' => e = .returned (.tuple #[]) ∧ ∃ sv', RunI W w' base mb g cap t x y lv sv' ov fs ll (sl ++ [z]) out db ib k a := by
  refine (refPush_any z w h.M hl (Nat.le_trans h.hsz h.K.size)).mono ?_
  rintro e w' ⟨rfl, hf, sv', m⟩
  exact ⟨rfl, sv', h.step hf (fun i e => by rcases e with e | e; exact .inl e; exact .inr (.inl e)) m⟩
theorem popI {z : Int} (w : World) (h : RunI W w base mb g cap t x y lv sv ov fs ll (sl ++ [z]) out db ib k a) (hl : sl.length ≤ 100) :
    Calls Tryz.prog 76 #[.pointer (some ⟨g, fs.length * 4, none⟩)] w fun e w' => e = .returned (.int .i64 z) ∧ ∃ sv', RunI W w' base mb g cap t x y lv sv' ov fs ll sl out db ib k a := by
  refine (refPop_any w h.M hl).mono ?_
  rintro e w' ⟨rfl, sv', m, hs, rfl⟩
  exact ⟨rfl, sv', h.step (S := fun b => b = g) (Frm.set _ rfl) (fun i e => .inl e) m⟩
end
/-- Where one begins. -/
theorem RunI.new {W w : World} {base mb g cap : Nat} {t : List U4} {x y : Int} {lv sv ov : Value} {fs : List Fr} {ll sl out : List Int} {db ib : Nat} {k a : Int}
    (m : MSt W base mb (.slice (some ⟨g, 0, none⟩) (fs.length + 1) cap) (t ++ [(x, y, lv, sv)]) ov (fs ++ [(x, y, ll, sl)]) out) (hb : Below W.heap.size W w) (hD : w.heap[db]? = some (.cells zDid 99)) (hI : w.heap[ib]? = some (.cells #[.int .i64 k, .int .i64 a] 45)) (hd : W.heap.size ≤ db) (hsz : base ≤ W.heap.size) :
    RunI W w base mb g cap t x y lv sv ov fs ll sl out db ib k a := ⟨m.kept hb, hD, hI, (Kq.refl base W).kept hb, hd, hsz⟩

end Go.Proofs.YtcngmkbgcfhmdaaGreatDoor

namespace Go.Proofs.YtcngmkbgcfhmdaaGreatDoor
open Go.RowKit
set_option linter.unusedVariables false

/-- What it tells, and what lies behind it. -/
def IPost (base mb g cap : Nat) (t : List U4) (x : Int) (ov : Value) (fs : List Fr) (out : List Int) (W : World) (c : Bool) (fn : Int) (args : List Int) (r : Bool) (v : Int) (p : Bool) (d : Int) (y : Int) (ll sl : List Int) (e : Ending) (w' : World) : Prop :=
  ∃ aa an ac lv' sv', e = .returned (.agg #[.bool c, .int .i64 fn, .slice aa an ac, .bool r, .int .i64 v, .bool p, .int .i64 d]) ∧ Row1 w' base (.slice aa an ac) args ∧ MSt w' base mb (.slice (some ⟨g, 0, none⟩) (fs.length + 1) cap) (t ++ [(x, y, lv', sv')]) ov (fs ++ [(x, y, ll, sl)]) out ∧ Kq base W w'

theorem row1_nil (w : World) (base : Nat) : Row1 w base (.slice none 0 0) [] := ⟨by simp, World.ownsRow_nil _ _ _ _⟩

end Go.Proofs.YtcngmkbgcfhmdaaGreatDoor

namespace Go.Proofs.YtcngmkbgcfhmdaaGreatDoor
open Go.RowKit
set_option linter.unusedVariables false
section
variable {W : World} {base mb g cap : Nat} {t : List U4} {x y : Int} {lv sv ov : Value} {fs : List Fr} {ll out : List Int} {db ib : Nat} {k a : Int} {pa : Option Addr} {pn pc : Nat} {ps : List Fn}

set_option maxRecDepth 100000 in
set_option maxHeartbeats 4000000 in
theorem refCall_deep {sl : List Int} (fn dp : Int) (hd : 12 ≤ dp) (w : World) (h : RunI W w base mb g cap t x y lv sv ov fs ll sl out db ib k a) :
    Calls Tryz.prog 77 #[.agg #[.slice pa pn pc], .pointer (some ⟨g, fs.length * 4, none⟩), .int .i64 fn, .int .i64 dp] w fun e w' => e = .returned (.agg #[.bool false, .int .i64 0, .slice none 0 0, .bool false, .int .i64 0, .bool false, .int .i64 3]) ∧ RunI W w' base mb g cap t x y lv sv ov fs ll sl out db ib k a := by
  have H : Hid (RunI W ((w.alloc (.cells #[.slice pa pn pc] 24)).alloc (.cells #[.bool false, .int .i64 0, .slice none 0 0, .bool false, .int .i64 0, .bool false, .int .i64 3] 99)) base mb g cap t x y lv sv ov fs ll sl out db ib k a) := hid (h.kept (Below.alloc (Below.alloc (Below.refl _ _) (Nat.le_refl _) _) (by simp) _))
  clear h
  go_enter Tryz.func77, Tryz.ntmps77
  go_wp2_with fail
  refine bodyPost_ret (v := .agg #[.bool false, .int .i64 0, .slice none 0 0, .bool false, .int .i64 0, .bool false, .int .i64 3]) (by simp [results, Tryz.results77, go_sem]) rfl ⟨rfl, H.out⟩

theorem RunI.setStk {W w : World} {base mb g cap : Nat} {t : List U4} {x y : Int} {lv sv ov : Value} {fs : List Fr} {ll sl out : List Int} {db ib : Nat} {k a : Int} (h : RunI W w base mb g cap t x y lv sv ov fs ll sl out db ib k a) {sv' : Value} {sl' : List Int} (hr : Row1 w base sv' sl') (hn : ∀ b, sv'.ownBlock = some b → sv.ownBlock = some b) :
    RunI W (w.setCell ⟨g, fs.length * 4 + 3, none⟩ sv') base mb g cap t x y lv sv' ov fs ll sl' out db ib k a :=
  h.step (S := fun b => b = g) (Frm.set _ rfl) (fun i e => .inl e) (h.M.setStk (Frm.refl _ _) hr (fun b hb => .inl (hn b hb)))
theorem RunI.setBox {W w : World} {base mb g cap : Nat} {t : List U4} {x y : Int} {lv sv ov : Value} {fs : List Fr} {ll sl out : List Int} {db ib : Nat} {k a : Int} (h : RunI W w base mb g cap t x y lv sv ov fs ll sl out db ib k a) {b T : Nat} {c : Array Value} (hb : w.heap[b]? = some (.cells c T)) (h1 : T ≠ 3) (h2 : T ≠ 51) (h3 : T ≠ 45) (hd : b ≠ db) (hW : W.heap.size ≤ b) (o : Nat) (u : Value) :
    RunI W (w.setCell ⟨b, o, none⟩ u) base mb g cap t x y lv sv ov fs ll sl out db ib k a ∧ (w.setCell ⟨b, o, none⟩ u).heap[b]? = some (.cells (c.setIfInBounds o u) T) := by
  have hf : Frm (fun i => i = b) w (w.setCell ⟨b, o, none⟩ u) := Frm.set _ rfl
  obtain ⟨m, z⟩ := h.M.setTy hb h1 h2 o u
  refine ⟨⟨m, hf.heap h.D (fun e => hd e.symm), box_stays hf h.I (fun i e => ?_), h.K.frm hf (fun i e => .inl (by rw [e]; exact hW)), h.hd, h.hsz⟩, z⟩
  rw [e]
  exact ⟨c, T, _, hb, h3⟩
theorem RunI.setDid {W w : World} {base mb g cap : Nat} {t : List U4} {x y : Int} {lv sv ov : Value} {fs : List Fr} {ll sl out : List Int} {db ib : Nat} {k a : Int} (h : RunI W w base mb g cap t x y lv sv ov fs ll sl out db ib k a) {b : Nat} (hb : w.heap[b]? = some (.cells zDid 99)) (hd : b ≠ db) (hW : W.heap.size ≤ b) (v0 v1 v2 v3 v4 v5 v6 : Value) :
    RunI W (((((((w.setCell ⟨b, 0, none⟩ v0).setCell ⟨b, 1, none⟩ v1).setCell ⟨b, 2, none⟩ v2).setCell ⟨b, 3, none⟩ v3).setCell ⟨b, 4, none⟩ v4).setCell ⟨b, 5, none⟩ v5).setCell ⟨b, 6, none⟩ v6) base mb g cap t x y lv sv ov fs ll sl out db ib k a := by
  obtain ⟨m1, z1⟩ := h.setBox hb (by decide) (by decide) (by decide) hd hW 0 v0
  obtain ⟨m2, z2⟩ := m1.setBox z1 (by decide) (by decide) (by decide) hd hW 1 v1
  obtain ⟨m3, z3⟩ := m2.setBox z2 (by decide) (by decide) (by decide) hd hW 2 v2
  obtain ⟨m4, z4⟩ := m3.setBox z3 (by decide) (by decide) (by decide) hd hW 3 v3
  obtain ⟨m5, z5⟩ := m4.setBox z4 (by decide) (by decide) (by decide) hd hW 4 v4
  obtain ⟨m6, z6⟩ := m5.setBox z5 (by decide) (by decide) (by decide) hd hW 5 v5
  exact (m6.setBox z6 (by decide) (by decide) (by decide) hd hW 6 v6).1
theorem row_reads0 {w : World} {base : Nat} {a : Option Addr} {n c : Nat} {l : List Int} (h : Row1 w base (.slice a n c) l) : Ints w a n c l := by
  obtain ⟨_, _, _, e, h1⟩ := ints_of_owns h.2 h.1
  cases e
  exact h1
theorem row_setDid {w : World} {base base' b : Nat} {v : Value} {l : List Int} (h : w.ownsRow base 3 1 v l.length (ints l)) (hl : l.length * 8 ≤ 140737488351232) (hb : b < base) (hbb : base' ≤ base) (v0 v1 v2 v3 v4 v5 v6 : Value) :
    Row1 (((((((w.setCell ⟨b, 0, none⟩ v0).setCell ⟨b, 1, none⟩ v1).setCell ⟨b, 2, none⟩ v2).setCell ⟨b, 3, none⟩ v3).setCell ⟨b, 4, none⟩ v4).setCell ⟨b, 5, none⟩ v5).setCell ⟨b, 6, none⟩ v6) base' v l :=
  ⟨hl, owns_base (owns_set (owns_set (owns_set (owns_set (owns_set (owns_set (owns_set h ⟨b, 0, none⟩ v0 hb) ⟨b, 1, none⟩ v1 hb) ⟨b, 2, none⟩ v2 hb) ⟨b, 3, none⟩ v3 hb) ⟨b, 4, none⟩ v4 hb) ⟨b, 5, none⟩ v5 hb) ⟨b, 6, none⟩ v6 hb) hbb⟩

set_option maxRecDepth 100000 in
set_option maxHeartbeats 8000000 in
theorem refCall_go {s0 ag : List Int} (cf : Nat) (dp : Int) (hd : dp < 12) (w : World) (h : RunI W w base mb g cap t x y lv sv ov fs ll (s0 ++ ag) out db ib k a) (hp : Fns w pa pn pc ps) (hcf : cf < ps.length) (hE : (ps.getD cf noFn).1 = (ag.length : Int)) (hl : (s0 ++ ag).length ≤ 50) :
    Calls Tryz.prog 77 #[.agg #[.slice pa pn pc], .pointer (some ⟨g, fs.length * 4, none⟩), .int .i64 (cf : Int), .int .i64 dp] w fun e w' => ∃ aa an ac sv', e = .returned (.agg #[.bool true, .int .i64 (cf : Int), .slice aa an ac, .bool false, .int .i64 0, .bool false, .int .i64 0]) ∧ Row1 w' w.heap.size (.slice aa an ac) ag ∧ RunI W w' base mb g cap t x y lv sv' ov fs ll s0 out db ib k a := by
  have hpn : cf < pn := by rw [hp.len]; exact hcf
  have hpr := hp.room
  have hpc := hp.cap
  obtain ⟨b0, o0, fx, fy, ca, cn, cc, cl, rfl, e3, d0, _, _, _⟩ := hp.at cf hpn
  rw [e3] at hE
  simp only [] at hE
  subst hE
  have W0 : Hid (∃ U : World, U = (w.alloc (.cells #[.slice (some ⟨b0, o0, none⟩) pn pc] 24)).alloc (.cells #[.bool false, .int .i64 0, .slice none 0 0, .bool false, .int .i64 0, .bool false, .int .i64 0] 99)) := hid ⟨_, rfl⟩
  obtain ⟨U, hU⟩ := W0.out
  have hBU : Below w.heap.size w U := by rw [hU]; exact Below.alloc (Below.alloc (Below.refl _ _) (Nat.le_refl _) _) (by simp) _
  have p0 : U.cell? ⟨w.heap.size, 0, none⟩ = some (.slice (some ⟨b0, o0, none⟩) pn pc) := by rw [hU]; simp [go_sem]
  have hDU : U.heap[w.heap.size + 1]? = some (.cells zDid 99) := by rw [hU, show w.heap.size + 1 = (w.alloc (.cells #[.slice (some ⟨b0, o0, none⟩) pn pc] 24)).heap.size by simp, heap_alloc_new]; rfl
  have d0' := kept_cell hBU d0
  have R := hid (h.kept hBU)
  have hr := h.M.stk
  have hgw := h.M.gNe.2.2.1
  have hWw := h.K.size
  have hdw := heap_lt h.D
  have hdg : w.heap.size + 1 ≠ g := by omega
  have hcf' : (cf : Int) < (pn : Int) := by omega
  have EU := hid hU
  have hAg : ag.length ≤ 50 := by simp at hl; omega
  have LA50 := hid (show ag.length * 8 ≤ 140737488351232 by omega)
  rcases hr.2.2 with ⟨rfl, hz⟩ | ⟨sb, sc, cur, rfl, hb1, hb2, hb3, hb4, hb5, hb6⟩
  · obtain ⟨e1, e2⟩ : s0 = [] ∧ ag = [] := by simpa using hz
    subst e1
    subst e2
    have c3 := R.out.M.cells.2.2.2.1
    simp only [List.length_nil] at d0'
    clear hr d0 h hp W0 hU hBU e3 hz
    go_enter Tryz.func77, Tryz.ntmps77
    go_wp2_with fail
    refine wp_world (U := U) EU.out ?_
    go_quiet (fail)
    obtain ⟨X, hX⟩ : ∃ X, X = U.drewN nq := ⟨_, rfl⟩
    rw [← hX]
    have bX : Below U.heap.size U X := by rw [hX]; exact below_drewN (Below.refl _ _) _
    have RX := hid (R.out.kept bX)
    have BXw := hid bX
    have DX := hid (heap_kept hDU bX)
    have hXs : w.heap.size + 1 < X.heap.size := heap_lt DX.out
    replace c3 := RX.out.M.cells.2.2.2.1
    have zb := World.new_ne _ _ c3
    have c3a := kept_cell (Below.alloc (Below.refl X.heap.size X) (Nat.le_refl _) (.cells #[] 3)) c3
    have IS : Hid (Ints X none 0 0 []) := hid (by
      exact Ints.nil _)
    have hgX : g < X.heap.size := RX.out.M.gNe.2.2.1
    clear hX bX p0 d0' hDU
    go_wp2_with (at_builtin; refine wpList_copyI X _ rfl _ _ rfl rfl X.heap.size rfl rfl none 0 0 [] rfl IS.out ?_; intro aa an ac w4 o4 b4; have B4w := hid b4; have R4 := hid (RX.out.kept b4); have e3 := R4.out.M.cells.2.2.2.1; have e3f := R4.out.M.cells.2.2.2.2 (fs.length * 4 + 3); have D4 := hid (heap_kept DX.out b4); have O4 := hid o4; obtain ⟨⟨y0, y1, y2, y3, y4, y5, y6⟩, yf⟩ := did_cells D4.out; have k0 := yf 0; have k1 := yf 1; have k2 := yf 2; have k3 := yf 3; have k4 := yf 4; have k5 := yf 5; have k6 := yf 6; clear yf o4 b4 c3 c3a)
    have R5 : Hid (RunI W (w4.setCell ⟨g, fs.length * 4 + 3, none⟩ (.slice none 0 0)) base mb g cap t x y lv (.slice none 0 0) ov fs ll [] out db ib k a) := hid (R4.out.setStk (⟨by simp, World.ownsRow_nil _ _ _ _⟩) (fun b hb => hb))
    have O5 : Hid ((w4.setCell ⟨g, fs.length * 4 + 3, none⟩ (.slice none 0 0)).ownsRow X.heap.size 3 1 (.slice aa an ac) ([] : List Int).length (ints ([] : List Int))) := hid (owns_set O4.out ⟨g, fs.length * 4 + 3, none⟩ _ hgX)
    have D5 : Hid ((w4.setCell ⟨g, fs.length * 4 + 3, none⟩ (.slice none 0 0)).heap[w.heap.size + 1]? = some (.cells zDid 99)) := hid ((Frm.set (S := fun b => b = g) (w := w4) (p := ⟨g, fs.length * 4 + 3, none⟩) (.slice none 0 0) rfl).heap D4.out (by omega))
    refine bodyPost_ret (v := .agg #[.bool true, .int .i64 (cf : Int), .slice aa an ac, .bool false, .int .i64 0, .bool false, .int .i64 0]) (by simp [results, Tryz.results77, go_sem, y0, y1, y2, y3, y4, y5, y6]) rfl ?_
    first | exact ⟨aa, an, ac, rfl, row_setDid O5.out LA50.out (by omega) (by omega) _ _ _ _ _ _ _, _, R5.out.setDid D5.out (by omega) (by omega) _ _ _ _ _ _ _⟩ | exact ⟨aa, an, ac, _, rfl, row_setDid O5.out LA50.out (by omega) (by omega) _ _ _ _ _ _ _, R5.out.setDid D5.out (by omega) (by omega) _ _ _ _ _ _ _⟩
  · obtain ⟨m, hm⟩ : ∃ m, ag.length = m := ⟨_, rfl⟩
    obtain ⟨n, hn0⟩ : ∃ n, s0.length = n := ⟨_, rfl⟩
    have hlen : (s0 ++ ag).length = n + m := by rw [List.length_append, hm, hn0]
    have c3 := R.out.M.cells.2.2.2.1
    rw [hlen] at c3 hb3 hb6
    rw [hm] at d0'
    have hwr : IntKind.i64.wrap (((n + m : Nat) : Int) - (m : Int)) = (n : Int) := by rw [IntKind.wrap_i64]; omega
    have SRW : Hid (Row1 w base (.slice (some ⟨sb, 0, none⟩) n sc) s0) := hid ⟨by omega, by simp [ints_len], .inr ⟨sb, sc, cur, by rw [hn0], hb1, hb2, by omega, hb4, hb5, by
      rw [show cur.toList.take (s0.length * 1) = (cur.toList.take ((n + m) * 1)).take (s0.length * 1) by rw [List.take_take, Nat.min_eq_left (by omega)], hb6, ints_app, List.take_append_of_le_length (by rw [ints_len]; omega), List.take_of_length_le (by rw [ints_len]; omega)]⟩⟩
    have SCELL : Hid (∀ i, i < m → w.cell? ⟨sb, n + i, none⟩ = some (.int .i64 (ag.getD i 0))) := hid (fun i hi => by
      have hr2 := hr.2
      rw [hlen] at hr2
      rw [hr2.cellAt (n + i) (by omega), ints_at _ _ (by rw [hlen]; omega)]
      rw [show (s0 ++ ag).getD (n + i) 0 = ag.getD i 0 by rw [List.getD_eq_getElem?_getD, List.getD_eq_getElem?_getD, List.getElem?_append_right (by omega), hn0, show n + i - n = i by omega]])
    have BUw := hid hBU
    have HM := hid (And.intro hm hn0)
    have hnm : n + m ≤ 50 := by omega
    clear hr d0 h hp W0 hU hBU e3 hb1 hb2 hb4 hb5 hb6 hlen hl
    by_cases hsc : sc = n
    · have hm0 : m = 0 := by omega
      subst hm0
      subst hsc
      have e2 : ag = [] := List.length_eq_zero_iff.1 HM.out.1
      subst e2
      go_enter Tryz.func77, Tryz.ntmps77
      go_wp2_with fail
      refine wp_world (U := U) EU.out ?_
      go_quiet (fail)
      obtain ⟨X, hX⟩ : ∃ X, X = U.drewN nq := ⟨_, rfl⟩
      rw [← hX]
      have bX : Below U.heap.size U X := by rw [hX]; exact below_drewN (Below.refl _ _) _
      have RX := hid (R.out.kept bX)
      have BXw := hid bX
      have DX := hid (heap_kept hDU bX)
      have hXs : w.heap.size + 1 < X.heap.size := heap_lt DX.out
      replace c3 := RX.out.M.cells.2.2.2.1
      have zb := World.new_ne _ _ c3
      have c3a := kept_cell (Below.alloc (Below.refl X.heap.size X) (Nat.le_refl _) (.cells #[] 3)) c3
      have IS : Hid (Ints X (some ⟨sb, 0, none⟩) 0 0 []) := hid (by
        exact ⟨rfl, by omega, by omega, fun e => (by cases e), fun h0 => by omega⟩)
      have hgX : g < X.heap.size := RX.out.M.gNe.2.2.1
      clear hX bX p0 d0' hDU
      go_wp2_with (at_builtin; refine wpList_copyI X _ rfl _ _ rfl rfl X.heap.size rfl rfl (some ⟨sb, 0, none⟩) 0 0 [] rfl IS.out ?_; intro aa an ac w4 o4 b4; have B4w := hid b4; have R4 := hid (RX.out.kept b4); have e3 := R4.out.M.cells.2.2.2.1; have e3f := R4.out.M.cells.2.2.2.2 (fs.length * 4 + 3); have D4 := hid (heap_kept DX.out b4); have O4 := hid o4; obtain ⟨⟨y0, y1, y2, y3, y4, y5, y6⟩, yf⟩ := did_cells D4.out; have k0 := yf 0; have k1 := yf 1; have k2 := yf 2; have k3 := yf 3; have k4 := yf 4; have k5 := yf 5; have k6 := yf 6; clear yf o4 b4 c3 c3a)
      have R5 : Hid (RunI W (w4.setCell ⟨g, fs.length * 4 + 3, none⟩ (.slice (some ⟨sb, 0, none⟩) sc sc)) base mb g cap t x y lv (.slice (some ⟨sb, 0, none⟩) sc sc) ov fs ll s0 out db ib k a) := hid (R4.out.setStk (SRW.out.frm (Frm.of_below (S := fun _ => False) (kt (kt BUw.out BXw.out) B4w.out)) (fun _ _ k => k)) (fun b hb => hb))
      have O5 : Hid ((w4.setCell ⟨g, fs.length * 4 + 3, none⟩ (.slice (some ⟨sb, 0, none⟩) sc sc)).ownsRow X.heap.size 3 1 (.slice aa an ac) ([] : List Int).length (ints ([] : List Int))) := hid (owns_set O4.out ⟨g, fs.length * 4 + 3, none⟩ _ hgX)
      have D5 : Hid ((w4.setCell ⟨g, fs.length * 4 + 3, none⟩ (.slice (some ⟨sb, 0, none⟩) sc sc)).heap[w.heap.size + 1]? = some (.cells zDid 99)) := hid ((Frm.set (S := fun b => b = g) (w := w4) (p := ⟨g, fs.length * 4 + 3, none⟩) (.slice (some ⟨sb, 0, none⟩) sc sc) rfl).heap D4.out (by omega))
      refine bodyPost_ret (v := .agg #[.bool true, .int .i64 (cf : Int), .slice aa an ac, .bool false, .int .i64 0, .bool false, .int .i64 0]) (by simp [results, Tryz.results77, go_sem, y0, y1, y2, y3, y4, y5, y6]) rfl ?_
      first | exact ⟨aa, an, ac, rfl, row_setDid O5.out LA50.out (by omega) (by omega) _ _ _ _ _ _ _, _, R5.out.setDid D5.out (by omega) (by omega) _ _ _ _ _ _ _⟩ | exact ⟨aa, an, ac, _, rfl, row_setDid O5.out LA50.out (by omega) (by omega) _ _ _ _ _ _ _, R5.out.setDid D5.out (by omega) (by omega) _ _ _ _ _ _ _⟩
    · have hsn : 0 < sc - n := by omega
      have hsn' : ¬ sc - n = 0 := by omega
      go_enter Tryz.func77, Tryz.ntmps77
      go_wp2_with fail
      refine wp_world (U := U) EU.out ?_
      go_quiet (fail)
      obtain ⟨X, hX⟩ : ∃ X, X = U.drewN nq := ⟨_, rfl⟩
      rw [← hX]
      have bX : Below U.heap.size U X := by rw [hX]; exact below_drewN (Below.refl _ _) _
      have RX := hid (R.out.kept bX)
      have BXw := hid bX
      have DX := hid (heap_kept hDU bX)
      have hXs : w.heap.size + 1 < X.heap.size := heap_lt DX.out
      replace c3 := RX.out.M.cells.2.2.2.1
      have zb := World.new_ne _ _ c3
      have c3a := kept_cell (Below.alloc (Below.refl X.heap.size X) (Nat.le_refl _) (.cells #[] 3)) c3
      have IS : Hid (Ints X (some ⟨sb, n, none⟩) m (sc - n) ag) := hid (by
        exact ⟨HM.out.1.symm, by omega, by omega, fun e => (by cases e), fun h0 => ⟨sb, n, rfl, fun i hi => by exact kept_cell (kt BUw.out BXw.out) (SCELL.out i hi)⟩⟩)
      have hgX : g < X.heap.size := RX.out.M.gNe.2.2.1
      clear hX bX p0 d0' hDU
      go_wp2_with (at_builtin; refine wpList_copyI X _ rfl _ _ rfl rfl X.heap.size rfl rfl (some ⟨sb, n, none⟩) m (sc - n) ag rfl IS.out ?_; intro aa an ac w4 o4 b4; have B4w := hid b4; have R4 := hid (RX.out.kept b4); have e3 := R4.out.M.cells.2.2.2.1; have e3f := R4.out.M.cells.2.2.2.2 (fs.length * 4 + 3); have D4 := hid (heap_kept DX.out b4); have O4 := hid o4; obtain ⟨⟨y0, y1, y2, y3, y4, y5, y6⟩, yf⟩ := did_cells D4.out; have k0 := yf 0; have k1 := yf 1; have k2 := yf 2; have k3 := yf 3; have k4 := yf 4; have k5 := yf 5; have k6 := yf 6; clear yf o4 b4 c3 c3a)
      have R5 : Hid (RunI W (w4.setCell ⟨g, fs.length * 4 + 3, none⟩ (.slice (some ⟨sb, 0, none⟩) n sc)) base mb g cap t x y lv (.slice (some ⟨sb, 0, none⟩) n sc) ov fs ll s0 out db ib k a) := hid (R4.out.setStk (SRW.out.frm (Frm.of_below (S := fun _ => False) (kt (kt BUw.out BXw.out) B4w.out)) (fun _ _ k => k)) (fun b hb => hb))
      have O5 : Hid ((w4.setCell ⟨g, fs.length * 4 + 3, none⟩ (.slice (some ⟨sb, 0, none⟩) n sc)).ownsRow X.heap.size 3 1 (.slice aa an ac) ag.length (ints ag)) := hid (owns_set O4.out ⟨g, fs.length * 4 + 3, none⟩ _ hgX)
      have D5 : Hid ((w4.setCell ⟨g, fs.length * 4 + 3, none⟩ (.slice (some ⟨sb, 0, none⟩) n sc)).heap[w.heap.size + 1]? = some (.cells zDid 99)) := hid ((Frm.set (S := fun b => b = g) (w := w4) (p := ⟨g, fs.length * 4 + 3, none⟩) (.slice (some ⟨sb, 0, none⟩) n sc) rfl).heap D4.out (by omega))
      refine bodyPost_ret (v := .agg #[.bool true, .int .i64 (cf : Int), .slice aa an ac, .bool false, .int .i64 0, .bool false, .int .i64 0]) (by simp [results, Tryz.results77, go_sem, y0, y1, y2, y3, y4, y5, y6]) rfl ?_
      first | exact ⟨aa, an, ac, rfl, row_setDid O5.out LA50.out (by omega) (by omega) _ _ _ _ _ _ _, _, R5.out.setDid D5.out (by omega) (by omega) _ _ _ _ _ _ _⟩ | exact ⟨aa, an, ac, _, rfl, row_setDid O5.out LA50.out (by omega) (by omega) _ _ _ _ _ _ _, R5.out.setDid D5.out (by omega) (by omega) _ _ _ _ _ _ _⟩
end

end Go.Proofs.YtcngmkbgcfhmdaaGreatDoor

namespace Go.Proofs.YtcngmkbgcfhmdaaGreatDoor
open Go.RowKit
set_option linter.unusedVariables false
section
variable {base mb g cap : Nat} {t : List U4} {lv sv ov : Value} {fs : List Fr} {ll out : List Int} {pa : Option Addr} {pn pc : Nat} {ps : List Fn}

set_option maxRecDepth 100000 in
set_option maxHeartbeats 8000000 in
theorem refI_const {a : Int} {sl : List Int} (xn yn : Nat) (w : World) (m : MSt w base mb (.slice (some ⟨g, 0, none⟩) (fs.length + 1) cap) (t ++ [((xn : Int), (yn : Int), lv, sv)]) ov (fs ++ [((xn : Int), (yn : Int), ll, sl)]) out) (ok : Ok ps fs (xn : Int) (yn : Int) ll sl 0 a) {w0 : World} (h0 : Below w0.heap.size w0 w) (hb0 : w0.heap.size ≤ base) (hp0 : Fns w0 pa pn pc ps) (hsz : base ≤ w.heap.size)  :
    Calls Tryz.prog 56 #[.agg #[.slice pa pn pc], .pointer (some ⟨g, fs.length * 4, none⟩), .int .i64 ((fs.length : Int) + 1)] w fun e w' => IPost base mb g cap t xn ov fs out w false (0) [] false (0) false (0) ((yn : Int) + 1) (ll) (sl ++ [a]) e w' := by
  have hp := hp0.kept h0
  have HP := hid hp0
  have H00 := hid (And.intro h0 (And.intro hb0 hsz))
  have hxl := ok.fx
  have hyl := ok.py
  have hin := ok.ins
  rw [Int.toNat_natCast] at hyl hin
  rw [Int.toNat_natCast] at hin
  have hs8 := ok.stk.2
  have hl8 := ok.locs.2
  have hdp := ok.deep
  have W0 : Hid (∃ U : World, U = (w.alloc (.cells #[.slice pa pn pc] 24)).alloc (.cells #[.bool false, .int .i64 0, .slice none 0 0, .bool false, .int .i64 0, .bool false, .int .i64 0] 99)) := hid ⟨_, rfl⟩
  obtain ⟨U, hU⟩ := W0.out
  have hBU : Below w.heap.size w U := by rw [hU]; exact Below.alloc (Below.alloc (Below.refl _ _) (Nat.le_refl _) _) (by simp) _
  have hUs : U.heap.size = w.heap.size + 2 := by rw [hU]; simp
  have hDU : U.heap[w.heap.size + 1]? = some (.cells zDid 99) := by rw [hU, show w.heap.size + 1 = (w.alloc (.cells #[.slice pa pn pc] 24)).heap.size by simp, heap_alloc_new]; rfl
  have p0 : U.cell? ⟨w.heap.size, 0, none⟩ = some (.slice pa pn pc) := by rw [hU]; simp [go_sem]
  have MU := m.kept hBU
  have hpn : xn < pn := by rw [hp.len]; omega
  have hpr := hp.room
  have hpc := hp.cap
  obtain ⟨b0, o0, fx, fy, ca, cn, cc, cl, rfl, e3, _, _, d2, i3⟩ := (hp.kept hBU).at xn hpn
  rw [e3] at hyl hin
  simp only [] at hyl hin
  have hyn : yn < cn := by rw [i3.len]; omega
  obtain ⟨b1, o1, k', a', rfl, e4, j0, j1⟩ := i3.at yn hyn
  have eka : (k', a') = (0, a) := by rw [← e4]; exact hin
  have e5 : k' = 0 ∧ a' = a := by simpa using eka
  rw [e5.1] at j0
  rw [e5.2] at j1
  have hcr := i3.room
  have hcc := i3.cap
  have hgw := m.gNe.2.2.1
  have hgU : g < U.heap.size := by omega
  obtain ⟨q0, q1, q2, q3, qf⟩ := MU.cells
  have SA : Hid (∀ w', Below U.heap.size U w' → (w'.cell? ⟨w.heap.size, 0, none⟩ = some (.slice (some ⟨b0, o0, none⟩) pn pc) ∧ w'.cell? ⟨g, fs.length * 4, none⟩ = some (.int .i64 (xn : Int)) ∧ w'.cell? ⟨g, fs.length * 4 + 1, none⟩ = some (.int .i64 (yn : Int)) ∧ w'.cell? ⟨b0, o0 + xn * 3 + 2, none⟩ = some (.slice (some ⟨b1, o1, none⟩) cn cc) ∧ w'.cell? ⟨b1, o1 + yn * 2, none⟩ = some (.int .i64 0) ∧ w'.cell? ⟨b1, o1 + yn * 2 + 1, none⟩ = some (.int .i64 a))) := hid (fun w' b => ⟨kept_cell b p0, kept_cell b q0, kept_cell b q1, kept_cell b d2, kept_cell b j0, kept_cell b j1⟩)
  have BC : Below U.heap.size U U := Below.refl _ _
  have hA4 : Below U.heap.size U (U.alloc (.cells #[.int .i64 0, .int .i64 a] 45)).drew := Below.drew (Below.alloc (Below.refl _ _) (Nat.le_refl _) _)
  have W5 : Hid (∃ V : World, V = (U.alloc (.cells #[.int .i64 0, .int .i64 a] 45)).drew) := hid ⟨_, rfl⟩
  obtain ⟨V, hV⟩ := W5.out
  rw [← hV] at hA4
  have P0 := hid (kept_cell hA4 p0)
  have hIV : V.heap[U.heap.size]? = some (.cells #[.int .i64 0, .int .i64 a] 45 (0, 0)) := by rw [hV]; exact heap_alloc_new U _
  have RR := RunI.new m (kt hBU hA4) (heap_kept hDU hA4) hIV (by omega) hsz
  have R0 := hid RR
  have R1 := hid (RR.setPc ((yn : Int) + 1))
  obtain ⟨iv0, iv1⟩ := RR.ins
  have r1 := RR.M.cells.2.1
  have rf1 := RR.M.cells.2.2.2.2 (fs.length * 4 + 1)
  obtain ⟨hdg, hig⟩ := RR.ne
  have hpg : w.heap.size ≠ g := by omega
  have EV := hid hV
  have EU := hid hU
  skip
  clear hUs hBU hU W0 hDU p0 d2 i3 e3 e4 j0 j1 q0 q1 q2 q3 qf hin eka e5 hA4 hV W5 RR hIV MU m hp hp0 h0 ok hyl hxl
  go_enter Tryz.func56, Tryz.ntmps56
  go_wp2_with fail
  refine wp_world (U := U) EU.out ?_
  go_region_held3 (fun w' => w'.cell? ⟨w.heap.size, 0, none⟩ = some (.slice (some ⟨b0, o0, none⟩) pn pc) ∧ w'.cell? ⟨g, fs.length * 4, none⟩ = some (.int .i64 (xn : Int)) ∧ w'.cell? ⟨g, fs.length * 4 + 1, none⟩ = some (.int .i64 (yn : Int)) ∧ w'.cell? ⟨b0, o0 + xn * 3 + 2, none⟩ = some (.slice (some ⟨b1, o1, none⟩) cn cc) ∧ w'.cell? ⟨b1, o1 + yn * 2, none⟩ = some (.int .i64 0) ∧ w'.cell? ⟨b1, o1 + yn * 2 + 1, none⟩ = some (.int .i64 a)) (first | (refine SA.out _ ?_; (repeat (first | with_reducible exact BC | with_reducible refine pDrew ?_ | with_reducible refine pAlloc ?_ | with_reducible refine pSet (Nat.le_refl _) ?_)))) (fail)
  all_goals
    clear SA BC EU
    rw [← EV.out]
    go_wp2_with fail
    refine (pushI a _ R1.out (by omega)).mono ?_
    rintro e w_H1 ⟨rfl, sv_H1, h1⟩
    have H1 := hid h1
    clear h1
    obtain ⟨⟨d0, d1, d2, d3, d4, d5, d6⟩, df⟩ := did_cells H1.out.D
    have f0 := df 0
    have f1 := df 1
    have f2 := df 2
    have f3 := df 3
    have f4 := df 4
    have f5 := df 5
    have f6 := df 6
    clear df
    go_wp2_with fail
    refine bodyPost_ret (v := .agg #[.bool false, .int .i64 0, .slice none 0 0, .bool false, .int .i64 0, .bool false, .int .i64 0]) (by simp [results, Tryz.results56, go_sem, d0, d1, d2, d3, d4, d5, d6]) rfl ⟨_, _, _, _, _, rfl, row1_nil _ _, (H1.out.fin _ _ _ _ _ _ _).1, (H1.out.fin _ _ _ _ _ _ _).2⟩

set_option maxRecDepth 100000 in
set_option maxHeartbeats 8000000 in
theorem refI_drop {a z : Int} {sl : List Int} (xn yn : Nat) (w : World) (m : MSt w base mb (.slice (some ⟨g, 0, none⟩) (fs.length + 1) cap) (t ++ [((xn : Int), (yn : Int), lv, sv)]) ov (fs ++ [((xn : Int), (yn : Int), ll, (sl ++ [z]))]) out) (ok : Ok ps fs (xn : Int) (yn : Int) ll (sl ++ [z]) 11 a) {w0 : World} (h0 : Below w0.heap.size w0 w) (hb0 : w0.heap.size ≤ base) (hp0 : Fns w0 pa pn pc ps) (hsz : base ≤ w.heap.size)  :
    Calls Tryz.prog 56 #[.agg #[.slice pa pn pc], .pointer (some ⟨g, fs.length * 4, none⟩), .int .i64 ((fs.length : Int) + 1)] w fun e w' => IPost base mb g cap t xn ov fs out w false (0) [] false (0) false (0) ((yn : Int) + 1) (ll) (sl) e w' := by
  have hp := hp0.kept h0
  have HP := hid hp0
  have H00 := hid (And.intro h0 (And.intro hb0 hsz))
  have hxl := ok.fx
  have hyl := ok.py
  have hin := ok.ins
  rw [Int.toNat_natCast] at hyl hin
  rw [Int.toNat_natCast] at hin
  have hs8 := ok.stk.2
  have hl8 := ok.locs.2
  have hdp := ok.deep
  have W0 : Hid (∃ U : World, U = (w.alloc (.cells #[.slice pa pn pc] 24)).alloc (.cells #[.bool false, .int .i64 0, .slice none 0 0, .bool false, .int .i64 0, .bool false, .int .i64 0] 99)) := hid ⟨_, rfl⟩
  obtain ⟨U, hU⟩ := W0.out
  have hBU : Below w.heap.size w U := by rw [hU]; exact Below.alloc (Below.alloc (Below.refl _ _) (Nat.le_refl _) _) (by simp) _
  have hUs : U.heap.size = w.heap.size + 2 := by rw [hU]; simp
  have hDU : U.heap[w.heap.size + 1]? = some (.cells zDid 99) := by rw [hU, show w.heap.size + 1 = (w.alloc (.cells #[.slice pa pn pc] 24)).heap.size by simp, heap_alloc_new]; rfl
  have p0 : U.cell? ⟨w.heap.size, 0, none⟩ = some (.slice pa pn pc) := by rw [hU]; simp [go_sem]
  have MU := m.kept hBU
  have hpn : xn < pn := by rw [hp.len]; omega
  have hpr := hp.room
  have hpc := hp.cap
  obtain ⟨b0, o0, fx, fy, ca, cn, cc, cl, rfl, e3, _, _, d2, i3⟩ := (hp.kept hBU).at xn hpn
  rw [e3] at hyl hin
  simp only [] at hyl hin
  have hyn : yn < cn := by rw [i3.len]; omega
  obtain ⟨b1, o1, k', a', rfl, e4, j0, j1⟩ := i3.at yn hyn
  have eka : (k', a') = (11, a) := by rw [← e4]; exact hin
  have e5 : k' = 11 ∧ a' = a := by simpa using eka
  rw [e5.1] at j0
  rw [e5.2] at j1
  have hcr := i3.room
  have hcc := i3.cap
  have hgw := m.gNe.2.2.1
  have hgU : g < U.heap.size := by omega
  obtain ⟨q0, q1, q2, q3, qf⟩ := MU.cells
  have SA : Hid (∀ w', Below U.heap.size U w' → (w'.cell? ⟨w.heap.size, 0, none⟩ = some (.slice (some ⟨b0, o0, none⟩) pn pc) ∧ w'.cell? ⟨g, fs.length * 4, none⟩ = some (.int .i64 (xn : Int)) ∧ w'.cell? ⟨g, fs.length * 4 + 1, none⟩ = some (.int .i64 (yn : Int)) ∧ w'.cell? ⟨b0, o0 + xn * 3 + 2, none⟩ = some (.slice (some ⟨b1, o1, none⟩) cn cc) ∧ w'.cell? ⟨b1, o1 + yn * 2, none⟩ = some (.int .i64 11) ∧ w'.cell? ⟨b1, o1 + yn * 2 + 1, none⟩ = some (.int .i64 a))) := hid (fun w' b => ⟨kept_cell b p0, kept_cell b q0, kept_cell b q1, kept_cell b d2, kept_cell b j0, kept_cell b j1⟩)
  have BC : Below U.heap.size U U := Below.refl _ _
  have hA4 : Below U.heap.size U (U.alloc (.cells #[.int .i64 11, .int .i64 a] 45)).drew := Below.drew (Below.alloc (Below.refl _ _) (Nat.le_refl _) _)
  have W5 : Hid (∃ V : World, V = (U.alloc (.cells #[.int .i64 11, .int .i64 a] 45)).drew) := hid ⟨_, rfl⟩
  obtain ⟨V, hV⟩ := W5.out
  rw [← hV] at hA4
  have P0 := hid (kept_cell hA4 p0)
  have hIV : V.heap[U.heap.size]? = some (.cells #[.int .i64 11, .int .i64 a] 45 (0, 0)) := by rw [hV]; exact heap_alloc_new U _
  have RR := RunI.new m (kt hBU hA4) (heap_kept hDU hA4) hIV (by omega) hsz
  have R0 := hid RR
  have R1 := hid (RR.setPc ((yn : Int) + 1))
  obtain ⟨iv0, iv1⟩ := RR.ins
  have r1 := RR.M.cells.2.1
  have rf1 := RR.M.cells.2.2.2.2 (fs.length * 4 + 1)
  obtain ⟨hdg, hig⟩ := RR.ne
  have hpg : w.heap.size ≠ g := by omega
  have EV := hid hV
  have EU := hid hU
  skip
  clear hUs hBU hU W0 hDU p0 d2 i3 e3 e4 j0 j1 q0 q1 q2 q3 qf hin eka e5 hA4 hV W5 RR hIV MU m hp hp0 h0 ok hyl hxl
  go_enter Tryz.func56, Tryz.ntmps56
  go_wp2_with fail
  refine wp_world (U := U) EU.out ?_
  go_region_held3 (fun w' => w'.cell? ⟨w.heap.size, 0, none⟩ = some (.slice (some ⟨b0, o0, none⟩) pn pc) ∧ w'.cell? ⟨g, fs.length * 4, none⟩ = some (.int .i64 (xn : Int)) ∧ w'.cell? ⟨g, fs.length * 4 + 1, none⟩ = some (.int .i64 (yn : Int)) ∧ w'.cell? ⟨b0, o0 + xn * 3 + 2, none⟩ = some (.slice (some ⟨b1, o1, none⟩) cn cc) ∧ w'.cell? ⟨b1, o1 + yn * 2, none⟩ = some (.int .i64 11) ∧ w'.cell? ⟨b1, o1 + yn * 2 + 1, none⟩ = some (.int .i64 a)) (first | (refine SA.out _ ?_; (repeat (first | with_reducible exact BC | with_reducible refine pDrew ?_ | with_reducible refine pAlloc ?_ | with_reducible refine pSet (Nat.le_refl _) ?_)))) (fail)
  all_goals
    clear SA BC EU
    rw [← EV.out]
    go_wp2_with fail
    refine (popI _ R1.out (by simp at hs8; omega)).mono ?_
    rintro e w_H1 ⟨rfl, sv_H1, h1⟩
    have H1 := hid h1
    clear h1
    obtain ⟨⟨d0, d1, d2, d3, d4, d5, d6⟩, df⟩ := did_cells H1.out.D
    have f0 := df 0
    have f1 := df 1
    have f2 := df 2
    have f3 := df 3
    have f4 := df 4
    have f5 := df 5
    have f6 := df 6
    clear df
    go_wp2_with fail
    refine bodyPost_ret (v := .agg #[.bool false, .int .i64 0, .slice none 0 0, .bool false, .int .i64 0, .bool false, .int .i64 0]) (by simp [results, Tryz.results56, go_sem, d0, d1, d2, d3, d4, d5, d6]) rfl ⟨_, _, _, _, _, rfl, row1_nil _ _, (H1.out.fin _ _ _ _ _ _ _).1, (H1.out.fin _ _ _ _ _ _ _).2⟩

set_option maxRecDepth 100000 in
set_option maxHeartbeats 8000000 in
theorem refI_print {a z : Int} {sl : List Int} (xn yn : Nat) (w : World) (m : MSt w base mb (.slice (some ⟨g, 0, none⟩) (fs.length + 1) cap) (t ++ [((xn : Int), (yn : Int), lv, sv)]) ov (fs ++ [((xn : Int), (yn : Int), ll, (sl ++ [z]))]) out) (ok : Ok ps fs (xn : Int) (yn : Int) ll (sl ++ [z]) 15 a) {w0 : World} (h0 : Below w0.heap.size w0 w) (hb0 : w0.heap.size ≤ base) (hp0 : Fns w0 pa pn pc ps) (hsz : base ≤ w.heap.size)  :
    Calls Tryz.prog 56 #[.agg #[.slice pa pn pc], .pointer (some ⟨g, fs.length * 4, none⟩), .int .i64 ((fs.length : Int) + 1)] w fun e w' => IPost base mb g cap t xn ov fs out w false (0) [] false (z) true (0) ((yn : Int) + 1) (ll) (sl) e w' := by
  have hp := hp0.kept h0
  have HP := hid hp0
  have H00 := hid (And.intro h0 (And.intro hb0 hsz))
  have hxl := ok.fx
  have hyl := ok.py
  have hin := ok.ins
  rw [Int.toNat_natCast] at hyl hin
  rw [Int.toNat_natCast] at hin
  have hs8 := ok.stk.2
  have hl8 := ok.locs.2
  have hdp := ok.deep
  have W0 : Hid (∃ U : World, U = (w.alloc (.cells #[.slice pa pn pc] 24)).alloc (.cells #[.bool false, .int .i64 0, .slice none 0 0, .bool false, .int .i64 0, .bool false, .int .i64 0] 99)) := hid ⟨_, rfl⟩
  obtain ⟨U, hU⟩ := W0.out
  have hBU : Below w.heap.size w U := by rw [hU]; exact Below.alloc (Below.alloc (Below.refl _ _) (Nat.le_refl _) _) (by simp) _
  have hUs : U.heap.size = w.heap.size + 2 := by rw [hU]; simp
  have hDU : U.heap[w.heap.size + 1]? = some (.cells zDid 99) := by rw [hU, show w.heap.size + 1 = (w.alloc (.cells #[.slice pa pn pc] 24)).heap.size by simp, heap_alloc_new]; rfl
  have p0 : U.cell? ⟨w.heap.size, 0, none⟩ = some (.slice pa pn pc) := by rw [hU]; simp [go_sem]
  have MU := m.kept hBU
  have hpn : xn < pn := by rw [hp.len]; omega
  have hpr := hp.room
  have hpc := hp.cap
  obtain ⟨b0, o0, fx, fy, ca, cn, cc, cl, rfl, e3, _, _, d2, i3⟩ := (hp.kept hBU).at xn hpn
  rw [e3] at hyl hin
  simp only [] at hyl hin
  have hyn : yn < cn := by rw [i3.len]; omega
  obtain ⟨b1, o1, k', a', rfl, e4, j0, j1⟩ := i3.at yn hyn
  have eka : (k', a') = (15, a) := by rw [← e4]; exact hin
  have e5 : k' = 15 ∧ a' = a := by simpa using eka
  rw [e5.1] at j0
  rw [e5.2] at j1
  have hcr := i3.room
  have hcc := i3.cap
  have hgw := m.gNe.2.2.1
  have hgU : g < U.heap.size := by omega
  obtain ⟨q0, q1, q2, q3, qf⟩ := MU.cells
  have SA : Hid (∀ w', Below U.heap.size U w' → (w'.cell? ⟨w.heap.size, 0, none⟩ = some (.slice (some ⟨b0, o0, none⟩) pn pc) ∧ w'.cell? ⟨g, fs.length * 4, none⟩ = some (.int .i64 (xn : Int)) ∧ w'.cell? ⟨g, fs.length * 4 + 1, none⟩ = some (.int .i64 (yn : Int)) ∧ w'.cell? ⟨b0, o0 + xn * 3 + 2, none⟩ = some (.slice (some ⟨b1, o1, none⟩) cn cc) ∧ w'.cell? ⟨b1, o1 + yn * 2, none⟩ = some (.int .i64 15) ∧ w'.cell? ⟨b1, o1 + yn * 2 + 1, none⟩ = some (.int .i64 a))) := hid (fun w' b => ⟨kept_cell b p0, kept_cell b q0, kept_cell b q1, kept_cell b d2, kept_cell b j0, kept_cell b j1⟩)
  have BC : Below U.heap.size U U := Below.refl _ _
  have hA4 : Below U.heap.size U (U.alloc (.cells #[.int .i64 15, .int .i64 a] 45)).drew := Below.drew (Below.alloc (Below.refl _ _) (Nat.le_refl _) _)
  have W5 : Hid (∃ V : World, V = (U.alloc (.cells #[.int .i64 15, .int .i64 a] 45)).drew) := hid ⟨_, rfl⟩
  obtain ⟨V, hV⟩ := W5.out
  rw [← hV] at hA4
  have P0 := hid (kept_cell hA4 p0)
  have hIV : V.heap[U.heap.size]? = some (.cells #[.int .i64 15, .int .i64 a] 45 (0, 0)) := by rw [hV]; exact heap_alloc_new U _
  have RR := RunI.new m (kt hBU hA4) (heap_kept hDU hA4) hIV (by omega) hsz
  have R0 := hid RR
  have R1 := hid (RR.setPc ((yn : Int) + 1))
  obtain ⟨iv0, iv1⟩ := RR.ins
  have r1 := RR.M.cells.2.1
  have rf1 := RR.M.cells.2.2.2.2 (fs.length * 4 + 1)
  obtain ⟨hdg, hig⟩ := RR.ne
  have hpg : w.heap.size ≠ g := by omega
  have EV := hid hV
  have EU := hid hU
  skip
  clear hUs hBU hU W0 hDU p0 d2 i3 e3 e4 j0 j1 q0 q1 q2 q3 qf hin eka e5 hA4 hV W5 RR hIV MU m hp hp0 h0 ok hyl hxl
  go_enter Tryz.func56, Tryz.ntmps56
  go_wp2_with fail
  refine wp_world (U := U) EU.out ?_
  go_region_held3 (fun w' => w'.cell? ⟨w.heap.size, 0, none⟩ = some (.slice (some ⟨b0, o0, none⟩) pn pc) ∧ w'.cell? ⟨g, fs.length * 4, none⟩ = some (.int .i64 (xn : Int)) ∧ w'.cell? ⟨g, fs.length * 4 + 1, none⟩ = some (.int .i64 (yn : Int)) ∧ w'.cell? ⟨b0, o0 + xn * 3 + 2, none⟩ = some (.slice (some ⟨b1, o1, none⟩) cn cc) ∧ w'.cell? ⟨b1, o1 + yn * 2, none⟩ = some (.int .i64 15) ∧ w'.cell? ⟨b1, o1 + yn * 2 + 1, none⟩ = some (.int .i64 a)) (first | (refine SA.out _ ?_; (repeat (first | with_reducible exact BC | with_reducible refine pDrew ?_ | with_reducible refine pAlloc ?_ | with_reducible refine pSet (Nat.le_refl _) ?_)))) (fail)
  all_goals
    clear SA BC EU
    rw [← EV.out]
    go_wp2_with fail
    refine (popI _ R1.out (by simp at hs8; omega)).mono ?_
    rintro e w_H1 ⟨rfl, sv_H1, h1⟩
    have H1 := hid h1
    clear h1
    obtain ⟨⟨d0, d1, d2, d3, d4, d5, d6⟩, df⟩ := did_cells H1.out.D
    have f0 := df 0
    have f1 := df 1
    have f2 := df 2
    have f3 := df 3
    have f4 := df 4
    have f5 := df 5
    have f6 := df 6
    clear df
    go_wp2_with fail
    refine bodyPost_ret (v := .agg #[.bool false, .int .i64 0, .slice none 0 0, .bool false, .int .i64 z, .bool true, .int .i64 0]) (by simp [results, Tryz.results56, go_sem, d0, d1, d2, d3, d4, d5, d6]) rfl ⟨_, _, _, _, _, rfl, row1_nil _ _, (H1.out.fin _ _ _ _ _ _ _).1, (H1.out.fin _ _ _ _ _ _ _).2⟩

set_option maxRecDepth 100000 in
set_option maxHeartbeats 8000000 in
theorem refI_ret {a z : Int} {sl : List Int} (xn yn : Nat) (w : World) (m : MSt w base mb (.slice (some ⟨g, 0, none⟩) (fs.length + 1) cap) (t ++ [((xn : Int), (yn : Int), lv, sv)]) ov (fs ++ [((xn : Int), (yn : Int), ll, (sl ++ [z]))]) out) (ok : Ok ps fs (xn : Int) (yn : Int) ll (sl ++ [z]) 16 a) {w0 : World} (h0 : Below w0.heap.size w0 w) (hb0 : w0.heap.size ≤ base) (hp0 : Fns w0 pa pn pc ps) (hsz : base ≤ w.heap.size)  :
    Calls Tryz.prog 56 #[.agg #[.slice pa pn pc], .pointer (some ⟨g, fs.length * 4, none⟩), .int .i64 ((fs.length : Int) + 1)] w fun e w' => IPost base mb g cap t xn ov fs out w false (0) [] true (z) false (0) ((yn : Int) + 1) (ll) (sl) e w' := by
  have hp := hp0.kept h0
  have HP := hid hp0
  have H00 := hid (And.intro h0 (And.intro hb0 hsz))
  have hxl := ok.fx
  have hyl := ok.py
  have hin := ok.ins
  rw [Int.toNat_natCast] at hyl hin
  rw [Int.toNat_natCast] at hin
  have hs8 := ok.stk.2
  have hl8 := ok.locs.2
  have hdp := ok.deep
  have W0 : Hid (∃ U : World, U = (w.alloc (.cells #[.slice pa pn pc] 24)).alloc (.cells #[.bool false, .int .i64 0, .slice none 0 0, .bool false, .int .i64 0, .bool false, .int .i64 0] 99)) := hid ⟨_, rfl⟩
  obtain ⟨U, hU⟩ := W0.out
  have hBU : Below w.heap.size w U := by rw [hU]; exact Below.alloc (Below.alloc (Below.refl _ _) (Nat.le_refl _) _) (by simp) _
  have hUs : U.heap.size = w.heap.size + 2 := by rw [hU]; simp
  have hDU : U.heap[w.heap.size + 1]? = some (.cells zDid 99) := by rw [hU, show w.heap.size + 1 = (w.alloc (.cells #[.slice pa pn pc] 24)).heap.size by simp, heap_alloc_new]; rfl
  have p0 : U.cell? ⟨w.heap.size, 0, none⟩ = some (.slice pa pn pc) := by rw [hU]; simp [go_sem]
  have MU := m.kept hBU
  have hpn : xn < pn := by rw [hp.len]; omega
  have hpr := hp.room
  have hpc := hp.cap
  obtain ⟨b0, o0, fx, fy, ca, cn, cc, cl, rfl, e3, _, _, d2, i3⟩ := (hp.kept hBU).at xn hpn
  rw [e3] at hyl hin
  simp only [] at hyl hin
  have hyn : yn < cn := by rw [i3.len]; omega
  obtain ⟨b1, o1, k', a', rfl, e4, j0, j1⟩ := i3.at yn hyn
  have eka : (k', a') = (16, a) := by rw [← e4]; exact hin
  have e5 : k' = 16 ∧ a' = a := by simpa using eka
  rw [e5.1] at j0
  rw [e5.2] at j1
  have hcr := i3.room
  have hcc := i3.cap
  have hgw := m.gNe.2.2.1
  have hgU : g < U.heap.size := by omega
  obtain ⟨q0, q1, q2, q3, qf⟩ := MU.cells
  have SA : Hid (∀ w', Below U.heap.size U w' → (w'.cell? ⟨w.heap.size, 0, none⟩ = some (.slice (some ⟨b0, o0, none⟩) pn pc) ∧ w'.cell? ⟨g, fs.length * 4, none⟩ = some (.int .i64 (xn : Int)) ∧ w'.cell? ⟨g, fs.length * 4 + 1, none⟩ = some (.int .i64 (yn : Int)) ∧ w'.cell? ⟨b0, o0 + xn * 3 + 2, none⟩ = some (.slice (some ⟨b1, o1, none⟩) cn cc) ∧ w'.cell? ⟨b1, o1 + yn * 2, none⟩ = some (.int .i64 16) ∧ w'.cell? ⟨b1, o1 + yn * 2 + 1, none⟩ = some (.int .i64 a))) := hid (fun w' b => ⟨kept_cell b p0, kept_cell b q0, kept_cell b q1, kept_cell b d2, kept_cell b j0, kept_cell b j1⟩)
  have BC : Below U.heap.size U U := Below.refl _ _
  have hA4 : Below U.heap.size U (U.alloc (.cells #[.int .i64 16, .int .i64 a] 45)).drew := Below.drew (Below.alloc (Below.refl _ _) (Nat.le_refl _) _)
  have W5 : Hid (∃ V : World, V = (U.alloc (.cells #[.int .i64 16, .int .i64 a] 45)).drew) := hid ⟨_, rfl⟩
  obtain ⟨V, hV⟩ := W5.out
  rw [← hV] at hA4
  have P0 := hid (kept_cell hA4 p0)
  have hIV : V.heap[U.heap.size]? = some (.cells #[.int .i64 16, .int .i64 a] 45 (0, 0)) := by rw [hV]; exact heap_alloc_new U _
  have RR := RunI.new m (kt hBU hA4) (heap_kept hDU hA4) hIV (by omega) hsz
  have R0 := hid RR
  have R1 := hid (RR.setPc ((yn : Int) + 1))
  obtain ⟨iv0, iv1⟩ := RR.ins
  have r1 := RR.M.cells.2.1
  have rf1 := RR.M.cells.2.2.2.2 (fs.length * 4 + 1)
  obtain ⟨hdg, hig⟩ := RR.ne
  have hpg : w.heap.size ≠ g := by omega
  have EV := hid hV
  have EU := hid hU
  skip
  clear hUs hBU hU W0 hDU p0 d2 i3 e3 e4 j0 j1 q0 q1 q2 q3 qf hin eka e5 hA4 hV W5 RR hIV MU m hp hp0 h0 ok hyl hxl
  go_enter Tryz.func56, Tryz.ntmps56
  go_wp2_with fail
  refine wp_world (U := U) EU.out ?_
  go_region_held3 (fun w' => w'.cell? ⟨w.heap.size, 0, none⟩ = some (.slice (some ⟨b0, o0, none⟩) pn pc) ∧ w'.cell? ⟨g, fs.length * 4, none⟩ = some (.int .i64 (xn : Int)) ∧ w'.cell? ⟨g, fs.length * 4 + 1, none⟩ = some (.int .i64 (yn : Int)) ∧ w'.cell? ⟨b0, o0 + xn * 3 + 2, none⟩ = some (.slice (some ⟨b1, o1, none⟩) cn cc) ∧ w'.cell? ⟨b1, o1 + yn * 2, none⟩ = some (.int .i64 16) ∧ w'.cell? ⟨b1, o1 + yn * 2 + 1, none⟩ = some (.int .i64 a)) (first | (refine SA.out _ ?_; (repeat (first | with_reducible exact BC | with_reducible refine pDrew ?_ | with_reducible refine pAlloc ?_ | with_reducible refine pSet (Nat.le_refl _) ?_)))) (fail)
  all_goals
    clear SA BC EU
    rw [← EV.out]
    go_wp2_with fail
    refine (popI _ R1.out (by simp at hs8; omega)).mono ?_
    rintro e w_H1 ⟨rfl, sv_H1, h1⟩
    have H1 := hid h1
    clear h1
    obtain ⟨⟨d0, d1, d2, d3, d4, d5, d6⟩, df⟩ := did_cells H1.out.D
    have f0 := df 0
    have f1 := df 1
    have f2 := df 2
    have f3 := df 3
    have f4 := df 4
    have f5 := df 5
    have f6 := df 6
    clear df
    go_wp2_with fail
    refine bodyPost_ret (v := .agg #[.bool false, .int .i64 0, .slice none 0 0, .bool true, .int .i64 z, .bool false, .int .i64 0]) (by simp [results, Tryz.results56, go_sem, d0, d1, d2, d3, d4, d5, d6]) rfl ⟨_, _, _, _, _, rfl, row1_nil _ _, (H1.out.fin _ _ _ _ _ _ _).1, (H1.out.fin _ _ _ _ _ _ _).2⟩
end

end Go.Proofs.YtcngmkbgcfhmdaaGreatDoor

namespace Go.Proofs.YtcngmkbgcfhmdaaGreatDoor
open Go.RowKit
set_option linter.unusedVariables false
section
variable {base mb g cap : Nat} {t : List U4} {lv sv ov : Value} {fs : List Fr} {ll out : List Int} {pa : Option Addr} {pn pc : Nat} {ps : List Fn}

set_option maxRecDepth 100000 in
set_option maxHeartbeats 8000000 in
theorem refI_jump {a : Int} {sl : List Int} (xn yn : Nat) (w : World) (m : MSt w base mb (.slice (some ⟨g, 0, none⟩) (fs.length + 1) cap) (t ++ [((xn : Int), (yn : Int), lv, sv)]) ov (fs ++ [((xn : Int), (yn : Int), ll, sl)]) out) (ok : Ok ps fs (xn : Int) (yn : Int) ll sl 12 a) {w0 : World} (h0 : Below w0.heap.size w0 w) (hb0 : w0.heap.size ≤ base) (hp0 : Fns w0 pa pn pc ps) (hsz : base ≤ w.heap.size)  :
    Calls Tryz.prog 56 #[.agg #[.slice pa pn pc], .pointer (some ⟨g, fs.length * 4, none⟩), .int .i64 ((fs.length : Int) + 1)] w fun e w' => IPost base mb g cap t xn ov fs out w false (0) [] false (0) false (0) (a) (ll) (sl) e w' := by
  have hp := hp0.kept h0
  have HP := hid hp0
  have H00 := hid (And.intro h0 (And.intro hb0 hsz))
  have hxl := ok.fx
  have hyl := ok.py
  have hin := ok.ins
  rw [Int.toNat_natCast] at hyl hin
  rw [Int.toNat_natCast] at hin
  have hs8 := ok.stk.2
  have hl8 := ok.locs.2
  have hdp := ok.deep
  have W0 : Hid (∃ U : World, U = (w.alloc (.cells #[.slice pa pn pc] 24)).alloc (.cells #[.bool false, .int .i64 0, .slice none 0 0, .bool false, .int .i64 0, .bool false, .int .i64 0] 99)) := hid ⟨_, rfl⟩
  obtain ⟨U, hU⟩ := W0.out
  have hBU : Below w.heap.size w U := by rw [hU]; exact Below.alloc (Below.alloc (Below.refl _ _) (Nat.le_refl _) _) (by simp) _
  have hUs : U.heap.size = w.heap.size + 2 := by rw [hU]; simp
  have hDU : U.heap[w.heap.size + 1]? = some (.cells zDid 99) := by rw [hU, show w.heap.size + 1 = (w.alloc (.cells #[.slice pa pn pc] 24)).heap.size by simp, heap_alloc_new]; rfl
  have p0 : U.cell? ⟨w.heap.size, 0, none⟩ = some (.slice pa pn pc) := by rw [hU]; simp [go_sem]
  have MU := m.kept hBU
  have hpn : xn < pn := by rw [hp.len]; omega
  have hpr := hp.room
  have hpc := hp.cap
  obtain ⟨b0, o0, fx, fy, ca, cn, cc, cl, rfl, e3, _, _, d2, i3⟩ := (hp.kept hBU).at xn hpn
  rw [e3] at hyl hin
  simp only [] at hyl hin
  have hyn : yn < cn := by rw [i3.len]; omega
  obtain ⟨b1, o1, k', a', rfl, e4, j0, j1⟩ := i3.at yn hyn
  have eka : (k', a') = (12, a) := by rw [← e4]; exact hin
  have e5 : k' = 12 ∧ a' = a := by simpa using eka
  rw [e5.1] at j0
  rw [e5.2] at j1
  have hcr := i3.room
  have hcc := i3.cap
  have hgw := m.gNe.2.2.1
  have hgU : g < U.heap.size := by omega
  obtain ⟨q0, q1, q2, q3, qf⟩ := MU.cells
  have SA : Hid (∀ w', Below U.heap.size U w' → (w'.cell? ⟨w.heap.size, 0, none⟩ = some (.slice (some ⟨b0, o0, none⟩) pn pc) ∧ w'.cell? ⟨g, fs.length * 4, none⟩ = some (.int .i64 (xn : Int)) ∧ w'.cell? ⟨g, fs.length * 4 + 1, none⟩ = some (.int .i64 (yn : Int)) ∧ w'.cell? ⟨b0, o0 + xn * 3 + 2, none⟩ = some (.slice (some ⟨b1, o1, none⟩) cn cc) ∧ w'.cell? ⟨b1, o1 + yn * 2, none⟩ = some (.int .i64 12) ∧ w'.cell? ⟨b1, o1 + yn * 2 + 1, none⟩ = some (.int .i64 a))) := hid (fun w' b => ⟨kept_cell b p0, kept_cell b q0, kept_cell b q1, kept_cell b d2, kept_cell b j0, kept_cell b j1⟩)
  have BC : Below U.heap.size U U := Below.refl _ _
  have hA4 : Below U.heap.size U (U.alloc (.cells #[.int .i64 12, .int .i64 a] 45)).drew := Below.drew (Below.alloc (Below.refl _ _) (Nat.le_refl _) _)
  have W5 : Hid (∃ V : World, V = (U.alloc (.cells #[.int .i64 12, .int .i64 a] 45)).drew) := hid ⟨_, rfl⟩
  obtain ⟨V, hV⟩ := W5.out
  rw [← hV] at hA4
  have P0 := hid (kept_cell hA4 p0)
  have hIV : V.heap[U.heap.size]? = some (.cells #[.int .i64 12, .int .i64 a] 45 (0, 0)) := by rw [hV]; exact heap_alloc_new U _
  have RR := RunI.new m (kt hBU hA4) (heap_kept hDU hA4) hIV (by omega) hsz
  have R0 := hid RR
  have R1 := hid (RR.setPc ((yn : Int) + 1))
  obtain ⟨iv0, iv1⟩ := RR.ins
  have r1 := RR.M.cells.2.1
  have rf1 := RR.M.cells.2.2.2.2 (fs.length * 4 + 1)
  obtain ⟨hdg, hig⟩ := RR.ne
  have hpg : w.heap.size ≠ g := by omega
  have EV := hid hV
  have EU := hid hU
  skip
  clear hUs hBU hU W0 hDU p0 d2 i3 e3 e4 j0 j1 q0 q1 q2 q3 qf hin eka e5 hA4 hV W5 RR hIV MU m hp hp0 h0 ok hyl hxl
  go_enter Tryz.func56, Tryz.ntmps56
  go_wp2_with fail
  refine wp_world (U := U) EU.out ?_
  go_region_held3 (fun w' => w'.cell? ⟨w.heap.size, 0, none⟩ = some (.slice (some ⟨b0, o0, none⟩) pn pc) ∧ w'.cell? ⟨g, fs.length * 4, none⟩ = some (.int .i64 (xn : Int)) ∧ w'.cell? ⟨g, fs.length * 4 + 1, none⟩ = some (.int .i64 (yn : Int)) ∧ w'.cell? ⟨b0, o0 + xn * 3 + 2, none⟩ = some (.slice (some ⟨b1, o1, none⟩) cn cc) ∧ w'.cell? ⟨b1, o1 + yn * 2, none⟩ = some (.int .i64 12) ∧ w'.cell? ⟨b1, o1 + yn * 2 + 1, none⟩ = some (.int .i64 a)) (first | (refine SA.out _ ?_; (repeat (first | with_reducible exact BC | with_reducible refine pDrew ?_ | with_reducible refine pAlloc ?_ | with_reducible refine pSet (Nat.le_refl _) ?_)))) (fail)
  all_goals
    clear SA BC EU
    rw [← EV.out]
    have RJ := hid (R1.out.setPc a)
    have RK := hid (R0.out.setPc a)
    obtain ⟨⟨d0, d1, d2, d3, d4, d5, d6⟩, df⟩ := did_cells R0.out.D
    have f0 := df 0
    have f1 := df 1
    have f2 := df 2
    have f3 := df 3
    have f4 := df 4
    have f5 := df 5
    have f6 := df 6
    clear df
    go_wp2_with fail
    refine bodyPost_ret (v := .agg #[.bool false, .int .i64 0, .slice none 0 0, .bool false, .int .i64 0, .bool false, .int .i64 0]) (by simp [results, Tryz.results56, go_sem, d0, d1, d2, d3, d4, d5, d6]) rfl ⟨_, _, _, lv, sv, rfl, row1_nil _ _, ?_, ?_⟩
    · first | exact (RJ.out.fin _ _ _ _ _ _ _).1 | exact (RK.out.fin _ _ _ _ _ _ _).1
    · first | exact (RJ.out.fin _ _ _ _ _ _ _).2 | exact (RK.out.fin _ _ _ _ _ _ _).2

set_option maxRecDepth 100000 in
set_option maxHeartbeats 8000000 in
theorem refI_zero0 {a : Int} {sl : List Int} (xn yn : Nat) (w : World) (m : MSt w base mb (.slice (some ⟨g, 0, none⟩) (fs.length + 1) cap) (t ++ [((xn : Int), (yn : Int), lv, sv)]) ov (fs ++ [((xn : Int), (yn : Int), ll, (sl ++ [0]))]) out) (ok : Ok ps fs (xn : Int) (yn : Int) ll (sl ++ [0]) 13 a) {w0 : World} (h0 : Below w0.heap.size w0 w) (hb0 : w0.heap.size ≤ base) (hp0 : Fns w0 pa pn pc ps) (hsz : base ≤ w.heap.size)  :
    Calls Tryz.prog 56 #[.agg #[.slice pa pn pc], .pointer (some ⟨g, fs.length * 4, none⟩), .int .i64 ((fs.length : Int) + 1)] w fun e w' => IPost base mb g cap t xn ov fs out w false (0) [] false (0) false (0) (a) (ll) (sl) e w' := by
  have hp := hp0.kept h0
  have HP := hid hp0
  have H00 := hid (And.intro h0 (And.intro hb0 hsz))
  have hxl := ok.fx
  have hyl := ok.py
  have hin := ok.ins
  rw [Int.toNat_natCast] at hyl hin
  rw [Int.toNat_natCast] at hin
  have hs8 := ok.stk.2
  have hl8 := ok.locs.2
  have hdp := ok.deep
  have W0 : Hid (∃ U : World, U = (w.alloc (.cells #[.slice pa pn pc] 24)).alloc (.cells #[.bool false, .int .i64 0, .slice none 0 0, .bool false, .int .i64 0, .bool false, .int .i64 0] 99)) := hid ⟨_, rfl⟩
  obtain ⟨U, hU⟩ := W0.out
  have hBU : Below w.heap.size w U := by rw [hU]; exact Below.alloc (Below.alloc (Below.refl _ _) (Nat.le_refl _) _) (by simp) _
  have hUs : U.heap.size = w.heap.size + 2 := by rw [hU]; simp
  have hDU : U.heap[w.heap.size + 1]? = some (.cells zDid 99) := by rw [hU, show w.heap.size + 1 = (w.alloc (.cells #[.slice pa pn pc] 24)).heap.size by simp, heap_alloc_new]; rfl
  have p0 : U.cell? ⟨w.heap.size, 0, none⟩ = some (.slice pa pn pc) := by rw [hU]; simp [go_sem]
  have MU := m.kept hBU
  have hpn : xn < pn := by rw [hp.len]; omega
  have hpr := hp.room
  have hpc := hp.cap
  obtain ⟨b0, o0, fx, fy, ca, cn, cc, cl, rfl, e3, _, _, d2, i3⟩ := (hp.kept hBU).at xn hpn
  rw [e3] at hyl hin
  simp only [] at hyl hin
  have hyn : yn < cn := by rw [i3.len]; omega
  obtain ⟨b1, o1, k', a', rfl, e4, j0, j1⟩ := i3.at yn hyn
  have eka : (k', a') = (13, a) := by rw [← e4]; exact hin
  have e5 : k' = 13 ∧ a' = a := by simpa using eka
  rw [e5.1] at j0
  rw [e5.2] at j1
  have hcr := i3.room
  have hcc := i3.cap
  have hgw := m.gNe.2.2.1
  have hgU : g < U.heap.size := by omega
  obtain ⟨q0, q1, q2, q3, qf⟩ := MU.cells
  have SA : Hid (∀ w', Below U.heap.size U w' → (w'.cell? ⟨w.heap.size, 0, none⟩ = some (.slice (some ⟨b0, o0, none⟩) pn pc) ∧ w'.cell? ⟨g, fs.length * 4, none⟩ = some (.int .i64 (xn : Int)) ∧ w'.cell? ⟨g, fs.length * 4 + 1, none⟩ = some (.int .i64 (yn : Int)) ∧ w'.cell? ⟨b0, o0 + xn * 3 + 2, none⟩ = some (.slice (some ⟨b1, o1, none⟩) cn cc) ∧ w'.cell? ⟨b1, o1 + yn * 2, none⟩ = some (.int .i64 13) ∧ w'.cell? ⟨b1, o1 + yn * 2 + 1, none⟩ = some (.int .i64 a))) := hid (fun w' b => ⟨kept_cell b p0, kept_cell b q0, kept_cell b q1, kept_cell b d2, kept_cell b j0, kept_cell b j1⟩)
  have BC : Below U.heap.size U U := Below.refl _ _
  have hA4 : Below U.heap.size U (U.alloc (.cells #[.int .i64 13, .int .i64 a] 45)).drew := Below.drew (Below.alloc (Below.refl _ _) (Nat.le_refl _) _)
  have W5 : Hid (∃ V : World, V = (U.alloc (.cells #[.int .i64 13, .int .i64 a] 45)).drew) := hid ⟨_, rfl⟩
  obtain ⟨V, hV⟩ := W5.out
  rw [← hV] at hA4
  have P0 := hid (kept_cell hA4 p0)
  have hIV : V.heap[U.heap.size]? = some (.cells #[.int .i64 13, .int .i64 a] 45 (0, 0)) := by rw [hV]; exact heap_alloc_new U _
  have RR := RunI.new m (kt hBU hA4) (heap_kept hDU hA4) hIV (by omega) hsz
  have R0 := hid RR
  have R1 := hid (RR.setPc ((yn : Int) + 1))
  obtain ⟨iv0, iv1⟩ := RR.ins
  have r1 := RR.M.cells.2.1
  have rf1 := RR.M.cells.2.2.2.2 (fs.length * 4 + 1)
  obtain ⟨hdg, hig⟩ := RR.ne
  have hpg : w.heap.size ≠ g := by omega
  have EV := hid hV
  have EU := hid hU
  skip
  clear hUs hBU hU W0 hDU p0 d2 i3 e3 e4 j0 j1 q0 q1 q2 q3 qf hin eka e5 hA4 hV W5 RR hIV MU m hp hp0 h0 ok hyl hxl
  go_enter Tryz.func56, Tryz.ntmps56
  go_wp2_with fail
  refine wp_world (U := U) EU.out ?_
  go_region_held3 (fun w' => w'.cell? ⟨w.heap.size, 0, none⟩ = some (.slice (some ⟨b0, o0, none⟩) pn pc) ∧ w'.cell? ⟨g, fs.length * 4, none⟩ = some (.int .i64 (xn : Int)) ∧ w'.cell? ⟨g, fs.length * 4 + 1, none⟩ = some (.int .i64 (yn : Int)) ∧ w'.cell? ⟨b0, o0 + xn * 3 + 2, none⟩ = some (.slice (some ⟨b1, o1, none⟩) cn cc) ∧ w'.cell? ⟨b1, o1 + yn * 2, none⟩ = some (.int .i64 13) ∧ w'.cell? ⟨b1, o1 + yn * 2 + 1, none⟩ = some (.int .i64 a)) (first | (refine SA.out _ ?_; (repeat (first | with_reducible exact BC | with_reducible refine pDrew ?_ | with_reducible refine pAlloc ?_ | with_reducible refine pSet (Nat.le_refl _) ?_)))) (fail)
  all_goals
    clear SA BC EU
    rw [← EV.out]
    go_wp2_with fail
    refine (popI _ R1.out (by simp at hs8; omega)).mono ?_
    rintro e w_H1 ⟨rfl, sv_H1, h1⟩
    have H1 := hid h1
    clear h1
    have c1 := H1.out.M.cells.2.1
    have cf1 := H1.out.M.cells.2.2.2.2 (fs.length * 4 + 1)
    obtain ⟨iw0, iw1⟩ := H1.out.ins
    have RJ := hid (H1.out.setPc a)
    obtain ⟨⟨d0, d1, d2, d3, d4, d5, d6⟩, df⟩ := did_cells H1.out.D
    have f0 := df 0
    have f1 := df 1
    have f2 := df 2
    have f3 := df 3
    have f4 := df 4
    have f5 := df 5
    have f6 := df 6
    clear df
    go_wp2_with fail
    refine bodyPost_ret (v := .agg #[.bool false, .int .i64 0, .slice none 0 0, .bool false, .int .i64 0, .bool false, .int .i64 0]) (by simp [results, Tryz.results56, go_sem, d0, d1, d2, d3, d4, d5, d6]) rfl ⟨_, _, _, _, _, rfl, row1_nil _ _, (RJ.out.fin _ _ _ _ _ _ _).1, (RJ.out.fin _ _ _ _ _ _ _).2⟩

set_option maxRecDepth 100000 in
set_option maxHeartbeats 8000000 in
theorem refI_zero1 {a z : Int} {sl : List Int} (xn yn : Nat) (w : World) (m : MSt w base mb (.slice (some ⟨g, 0, none⟩) (fs.length + 1) cap) (t ++ [((xn : Int), (yn : Int), lv, sv)]) ov (fs ++ [((xn : Int), (yn : Int), ll, (sl ++ [z]))]) out) (ok : Ok ps fs (xn : Int) (yn : Int) ll (sl ++ [z]) 13 a) {w0 : World} (h0 : Below w0.heap.size w0 w) (hb0 : w0.heap.size ≤ base) (hp0 : Fns w0 pa pn pc ps) (hsz : base ≤ w.heap.size) (hz : ¬ z = 0) :
    Calls Tryz.prog 56 #[.agg #[.slice pa pn pc], .pointer (some ⟨g, fs.length * 4, none⟩), .int .i64 ((fs.length : Int) + 1)] w fun e w' => IPost base mb g cap t xn ov fs out w false (0) [] false (0) false (0) ((yn : Int) + 1) (ll) (sl) e w' := by
  have hp := hp0.kept h0
  have HP := hid hp0
  have H00 := hid (And.intro h0 (And.intro hb0 hsz))
  have hxl := ok.fx
  have hyl := ok.py
  have hin := ok.ins
  rw [Int.toNat_natCast] at hyl hin
  rw [Int.toNat_natCast] at hin
  have hs8 := ok.stk.2
  have hl8 := ok.locs.2
  have hdp := ok.deep
  have W0 : Hid (∃ U : World, U = (w.alloc (.cells #[.slice pa pn pc] 24)).alloc (.cells #[.bool false, .int .i64 0, .slice none 0 0, .bool false, .int .i64 0, .bool false, .int .i64 0] 99)) := hid ⟨_, rfl⟩
  obtain ⟨U, hU⟩ := W0.out
  have hBU : Below w.heap.size w U := by rw [hU]; exact Below.alloc (Below.alloc (Below.refl _ _) (Nat.le_refl _) _) (by simp) _
  have hUs : U.heap.size = w.heap.size + 2 := by rw [hU]; simp
  have hDU : U.heap[w.heap.size + 1]? = some (.cells zDid 99) := by rw [hU, show w.heap.size + 1 = (w.alloc (.cells #[.slice pa pn pc] 24)).heap.size by simp, heap_alloc_new]; rfl
  have p0 : U.cell? ⟨w.heap.size, 0, none⟩ = some (.slice pa pn pc) := by rw [hU]; simp [go_sem]
  have MU := m.kept hBU
  have hpn : xn < pn := by rw [hp.len]; omega
  have hpr := hp.room
  have hpc := hp.cap
  obtain ⟨b0, o0, fx, fy, ca, cn, cc, cl, rfl, e3, _, _, d2, i3⟩ := (hp.kept hBU).at xn hpn
  rw [e3] at hyl hin
  simp only [] at hyl hin
  have hyn : yn < cn := by rw [i3.len]; omega
  obtain ⟨b1, o1, k', a', rfl, e4, j0, j1⟩ := i3.at yn hyn
  have eka : (k', a') = (13, a) := by rw [← e4]; exact hin
  have e5 : k' = 13 ∧ a' = a := by simpa using eka
  rw [e5.1] at j0
  rw [e5.2] at j1
  have hcr := i3.room
  have hcc := i3.cap
  have hgw := m.gNe.2.2.1
  have hgU : g < U.heap.size := by omega
  obtain ⟨q0, q1, q2, q3, qf⟩ := MU.cells
  have SA : Hid (∀ w', Below U.heap.size U w' → (w'.cell? ⟨w.heap.size, 0, none⟩ = some (.slice (some ⟨b0, o0, none⟩) pn pc) ∧ w'.cell? ⟨g, fs.length * 4, none⟩ = some (.int .i64 (xn : Int)) ∧ w'.cell? ⟨g, fs.length * 4 + 1, none⟩ = some (.int .i64 (yn : Int)) ∧ w'.cell? ⟨b0, o0 + xn * 3 + 2, none⟩ = some (.slice (some ⟨b1, o1, none⟩) cn cc) ∧ w'.cell? ⟨b1, o1 + yn * 2, none⟩ = some (.int .i64 13) ∧ w'.cell? ⟨b1, o1 + yn * 2 + 1, none⟩ = some (.int .i64 a))) := hid (fun w' b => ⟨kept_cell b p0, kept_cell b q0, kept_cell b q1, kept_cell b d2, kept_cell b j0, kept_cell b j1⟩)
  have BC : Below U.heap.size U U := Below.refl _ _
  have hA4 : Below U.heap.size U (U.alloc (.cells #[.int .i64 13, .int .i64 a] 45)).drew := Below.drew (Below.alloc (Below.refl _ _) (Nat.le_refl _) _)
  have W5 : Hid (∃ V : World, V = (U.alloc (.cells #[.int .i64 13, .int .i64 a] 45)).drew) := hid ⟨_, rfl⟩
  obtain ⟨V, hV⟩ := W5.out
  rw [← hV] at hA4
  have P0 := hid (kept_cell hA4 p0)
  have hIV : V.heap[U.heap.size]? = some (.cells #[.int .i64 13, .int .i64 a] 45 (0, 0)) := by rw [hV]; exact heap_alloc_new U _
  have RR := RunI.new m (kt hBU hA4) (heap_kept hDU hA4) hIV (by omega) hsz
  have R0 := hid RR
  have R1 := hid (RR.setPc ((yn : Int) + 1))
  obtain ⟨iv0, iv1⟩ := RR.ins
  have r1 := RR.M.cells.2.1
  have rf1 := RR.M.cells.2.2.2.2 (fs.length * 4 + 1)
  obtain ⟨hdg, hig⟩ := RR.ne
  have hpg : w.heap.size ≠ g := by omega
  have EV := hid hV
  have EU := hid hU
  have hz' : (z == 0) = false := by simpa using hz
  clear hz
  clear hUs hBU hU W0 hDU p0 d2 i3 e3 e4 j0 j1 q0 q1 q2 q3 qf hin eka e5 hA4 hV W5 RR hIV MU m hp hp0 h0 ok hyl hxl
  go_enter Tryz.func56, Tryz.ntmps56
  go_wp2_with fail
  refine wp_world (U := U) EU.out ?_
  go_region_held3 (fun w' => w'.cell? ⟨w.heap.size, 0, none⟩ = some (.slice (some ⟨b0, o0, none⟩) pn pc) ∧ w'.cell? ⟨g, fs.length * 4, none⟩ = some (.int .i64 (xn : Int)) ∧ w'.cell? ⟨g, fs.length * 4 + 1, none⟩ = some (.int .i64 (yn : Int)) ∧ w'.cell? ⟨b0, o0 + xn * 3 + 2, none⟩ = some (.slice (some ⟨b1, o1, none⟩) cn cc) ∧ w'.cell? ⟨b1, o1 + yn * 2, none⟩ = some (.int .i64 13) ∧ w'.cell? ⟨b1, o1 + yn * 2 + 1, none⟩ = some (.int .i64 a)) (first | (refine SA.out _ ?_; (repeat (first | with_reducible exact BC | with_reducible refine pDrew ?_ | with_reducible refine pAlloc ?_ | with_reducible refine pSet (Nat.le_refl _) ?_)))) (fail)
  all_goals
    clear SA BC EU
    rw [← EV.out]
    go_wp2_with fail
    refine (popI _ R1.out (by simp at hs8; omega)).mono ?_
    rintro e w_H1 ⟨rfl, sv_H1, h1⟩
    have H1 := hid h1
    clear h1
    obtain ⟨⟨d0, d1, d2, d3, d4, d5, d6⟩, df⟩ := did_cells H1.out.D
    have f0 := df 0
    have f1 := df 1
    have f2 := df 2
    have f3 := df 3
    have f4 := df 4
    have f5 := df 5
    have f6 := df 6
    clear df
    go_wp2_with fail
    refine bodyPost_ret (v := .agg #[.bool false, .int .i64 0, .slice none 0 0, .bool false, .int .i64 0, .bool false, .int .i64 0]) (by simp [results, Tryz.results56, go_sem, d0, d1, d2, d3, d4, d5, d6]) rfl ⟨_, _, _, _, _, rfl, row1_nil _ _, (H1.out.fin _ _ _ _ _ _ _).1, (H1.out.fin _ _ _ _ _ _ _).2⟩
end

end Go.Proofs.YtcngmkbgcfhmdaaGreatDoor

namespace Go.Proofs.YtcngmkbgcfhmdaaGreatDoor
open Go.RowKit
set_option linter.unusedVariables false
section
variable {base mb g cap : Nat} {t : List U4} {lv sv ov : Value} {fs : List Fr} {ll out : List Int} {pa : Option Addr} {pn pc : Nat} {ps : List Fn}

set_option maxRecDepth 100000 in
set_option maxHeartbeats 8000000 in
theorem refI_op {a b c k : Int} {sl : List Int} (xn yn : Nat) (w : World) (m : MSt w base mb (.slice (some ⟨g, 0, none⟩) (fs.length + 1) cap) (t ++ [((xn : Int), (yn : Int), lv, sv)]) ov (fs ++ [((xn : Int), (yn : Int), ll, (sl ++ [b] ++ [c]))]) out) (ok : Ok ps fs (xn : Int) (yn : Int) ll (sl ++ [b] ++ [c]) k a) {w0 : World} (h0 : Below w0.heap.size w0 w) (hb0 : w0.heap.size ≤ base) (hp0 : Fns w0 pa pn pc ps) (hsz : base ≤ w.heap.size) (hk : 3 ≤ k ∧ k ≤ 9) (ht : trapB k b c = false) :
    Calls Tryz.prog 56 #[.agg #[.slice pa pn pc], .pointer (some ⟨g, fs.length * 4, none⟩), .int .i64 ((fs.length : Int) + 1)] w fun e w' => IPost base mb g cap t xn ov fs out w false (0) [] false (0) false (0) ((yn : Int) + 1) (ll) (sl ++ [doV k b c]) e w' := by
  have hp := hp0.kept h0
  have HP := hid hp0
  have H00 := hid (And.intro h0 (And.intro hb0 hsz))
  have hxl := ok.fx
  have hyl := ok.py
  have hin := ok.ins
  rw [Int.toNat_natCast] at hyl hin
  rw [Int.toNat_natCast] at hin
  have hs8 := ok.stk.2
  have hl8 := ok.locs.2
  have hdp := ok.deep
  have W0 : Hid (∃ U : World, U = (w.alloc (.cells #[.slice pa pn pc] 24)).alloc (.cells #[.bool false, .int .i64 0, .slice none 0 0, .bool false, .int .i64 0, .bool false, .int .i64 0] 99)) := hid ⟨_, rfl⟩
  obtain ⟨U, hU⟩ := W0.out
  have hBU : Below w.heap.size w U := by rw [hU]; exact Below.alloc (Below.alloc (Below.refl _ _) (Nat.le_refl _) _) (by simp) _
  have hUs : U.heap.size = w.heap.size + 2 := by rw [hU]; simp
  have hDU : U.heap[w.heap.size + 1]? = some (.cells zDid 99) := by rw [hU, show w.heap.size + 1 = (w.alloc (.cells #[.slice pa pn pc] 24)).heap.size by simp, heap_alloc_new]; rfl
  have p0 : U.cell? ⟨w.heap.size, 0, none⟩ = some (.slice pa pn pc) := by rw [hU]; simp [go_sem]
  have MU := m.kept hBU
  have hpn : xn < pn := by rw [hp.len]; omega
  have hpr := hp.room
  have hpc := hp.cap
  obtain ⟨b0, o0, fx, fy, ca, cn, cc, cl, rfl, e3, _, _, d2, i3⟩ := (hp.kept hBU).at xn hpn
  rw [e3] at hyl hin
  simp only [] at hyl hin
  have hyn : yn < cn := by rw [i3.len]; omega
  obtain ⟨b1, o1, k', a', rfl, e4, j0, j1⟩ := i3.at yn hyn
  have eka : (k', a') = (k, a) := by rw [← e4]; exact hin
  have e5 : k' = k ∧ a' = a := by simpa using eka
  rw [e5.1] at j0
  rw [e5.2] at j1
  have hcr := i3.room
  have hcc := i3.cap
  have hgw := m.gNe.2.2.1
  have hgU : g < U.heap.size := by omega
  obtain ⟨q0, q1, q2, q3, qf⟩ := MU.cells
  have SA : Hid (∀ w', Below U.heap.size U w' → (w'.cell? ⟨w.heap.size, 0, none⟩ = some (.slice (some ⟨b0, o0, none⟩) pn pc) ∧ w'.cell? ⟨g, fs.length * 4, none⟩ = some (.int .i64 (xn : Int)) ∧ w'.cell? ⟨g, fs.length * 4 + 1, none⟩ = some (.int .i64 (yn : Int)) ∧ w'.cell? ⟨b0, o0 + xn * 3 + 2, none⟩ = some (.slice (some ⟨b1, o1, none⟩) cn cc) ∧ w'.cell? ⟨b1, o1 + yn * 2, none⟩ = some (.int .i64 k) ∧ w'.cell? ⟨b1, o1 + yn * 2 + 1, none⟩ = some (.int .i64 a))) := hid (fun w' b => ⟨kept_cell b p0, kept_cell b q0, kept_cell b q1, kept_cell b d2, kept_cell b j0, kept_cell b j1⟩)
  have BC : Below U.heap.size U U := Below.refl _ _
  have hA4 : Below U.heap.size U (U.alloc (.cells #[.int .i64 k, .int .i64 a] 45)).drew := Below.drew (Below.alloc (Below.refl _ _) (Nat.le_refl _) _)
  have W5 : Hid (∃ V : World, V = (U.alloc (.cells #[.int .i64 k, .int .i64 a] 45)).drew) := hid ⟨_, rfl⟩
  obtain ⟨V, hV⟩ := W5.out
  rw [← hV] at hA4
  have P0 := hid (kept_cell hA4 p0)
  have hIV : V.heap[U.heap.size]? = some (.cells #[.int .i64 k, .int .i64 a] 45 (0, 0)) := by rw [hV]; exact heap_alloc_new U _
  have RR := RunI.new m (kt hBU hA4) (heap_kept hDU hA4) hIV (by omega) hsz
  have R0 := hid RR
  have R1 := hid (RR.setPc ((yn : Int) + 1))
  obtain ⟨iv0, iv1⟩ := RR.ins
  have r1 := RR.M.cells.2.1
  have rf1 := RR.M.cells.2.2.2.2 (fs.length * 4 + 1)
  obtain ⟨hdg, hig⟩ := RR.ne
  have hpg : w.heap.size ≠ g := by omega
  have EV := hid hV
  have EU := hid hU
  skip
  clear hUs hBU hU W0 hDU p0 d2 i3 e3 e4 j0 j1 q0 q1 q2 q3 qf hin eka e5 hA4 hV W5 RR hIV MU m hp hp0 h0 ok hyl hxl
  go_enter Tryz.func56, Tryz.ntmps56
  go_wp2_with fail
  refine wp_world (U := U) EU.out ?_
  go_region_held3 (fun w' => w'.cell? ⟨w.heap.size, 0, none⟩ = some (.slice (some ⟨b0, o0, none⟩) pn pc) ∧ w'.cell? ⟨g, fs.length * 4, none⟩ = some (.int .i64 (xn : Int)) ∧ w'.cell? ⟨g, fs.length * 4 + 1, none⟩ = some (.int .i64 (yn : Int)) ∧ w'.cell? ⟨b0, o0 + xn * 3 + 2, none⟩ = some (.slice (some ⟨b1, o1, none⟩) cn cc) ∧ w'.cell? ⟨b1, o1 + yn * 2, none⟩ = some (.int .i64 k) ∧ w'.cell? ⟨b1, o1 + yn * 2 + 1, none⟩ = some (.int .i64 a)) (first | (refine SA.out _ ?_; (repeat (first | with_reducible exact BC | with_reducible refine pDrew ?_ | with_reducible refine pAlloc ?_ | with_reducible refine pSet (Nat.le_refl _) ?_)))) (fail)
  all_goals
    clear SA BC EU
    rw [← EV.out]
    have n0 : (k == 0) = false := by simp; omega
    have n1 : (k == 1) = false := by simp; omega
    have n2 : (k == 2) = false := by simp; omega
    have n3 : (k == 10) = false := by simp; omega
    have n4 : (k == 11) = false := by simp; omega
    have n5 : (k == 12) = false := by simp; omega
    have n6 : (k == 13) = false := by simp; omega
    have n7 : (k == 14) = false := by simp; omega
    have n8 : (k == 15) = false := by simp; omega
    have n9 : (k == 16) = false := by simp; omega
    go_wp2_with fail
    refine (popI _ R1.out (by simp at hs8 ⊢; omega)).mono ?_
    rintro e w_H1 ⟨rfl, sv_H1, h1⟩
    have H1 := hid h1
    clear h1
    go_wp2_with fail
    refine (popI _ H1.out (by simp at hs8; omega)).mono ?_
    rintro e w_H2 ⟨rfl, sv_H2, h1⟩
    have H2 := hid h1
    clear h1
    obtain ⟨iw0, iw1⟩ := H2.out.ins
    go_wp2_with (go_at_call 78; refine (refDo_any _ _ _ _).mono ?_; rintro e x ⟨rfl, hx⟩; rw [hx]; clear hx; rw [ht])
    refine (pushI (doV k b c) _ H2.out (by simp at hs8; omega)).mono ?_
    rintro e w_H3 ⟨rfl, sv_H3, h1⟩
    have H3 := hid h1
    clear h1
    obtain ⟨⟨d0, d1, d2, d3, d4, d5, d6⟩, df⟩ := did_cells H3.out.D
    have f0 := df 0
    have f1 := df 1
    have f2 := df 2
    have f3 := df 3
    have f4 := df 4
    have f5 := df 5
    have f6 := df 6
    clear df
    go_wp2_with fail
    refine bodyPost_ret (v := .agg #[.bool false, .int .i64 0, .slice none 0 0, .bool false, .int .i64 0, .bool false, .int .i64 0]) (by simp [results, Tryz.results56, go_sem, d0, d1, d2, d3, d4, d5, d6]) rfl ⟨_, _, _, _, _, rfl, row1_nil _ _, (H3.out.fin _ _ _ _ _ _ _).1, (H3.out.fin _ _ _ _ _ _ _).2⟩

set_option maxRecDepth 100000 in
set_option maxHeartbeats 8000000 in
theorem refI_trap {a b c k : Int} {sl : List Int} (xn yn : Nat) (w : World) (m : MSt w base mb (.slice (some ⟨g, 0, none⟩) (fs.length + 1) cap) (t ++ [((xn : Int), (yn : Int), lv, sv)]) ov (fs ++ [((xn : Int), (yn : Int), ll, (sl ++ [b] ++ [c]))]) out) (ok : Ok ps fs (xn : Int) (yn : Int) ll (sl ++ [b] ++ [c]) k a) {w0 : World} (h0 : Below w0.heap.size w0 w) (hb0 : w0.heap.size ≤ base) (hp0 : Fns w0 pa pn pc ps) (hsz : base ≤ w.heap.size) (hk : 3 ≤ k ∧ k ≤ 9) (ht : trapB k b c = true) :
    Calls Tryz.prog 56 #[.agg #[.slice pa pn pc], .pointer (some ⟨g, fs.length * 4, none⟩), .int .i64 ((fs.length : Int) + 1)] w fun e w' => IPost base mb g cap t xn ov fs out w false (0) [] false (0) false (2) ((yn : Int) + 1) (ll) (sl) e w' := by
  have hp := hp0.kept h0
  have HP := hid hp0
  have H00 := hid (And.intro h0 (And.intro hb0 hsz))
  have hxl := ok.fx
  have hyl := ok.py
  have hin := ok.ins
  rw [Int.toNat_natCast] at hyl hin
  rw [Int.toNat_natCast] at hin
  have hs8 := ok.stk.2
  have hl8 := ok.locs.2
  have hdp := ok.deep
  have W0 : Hid (∃ U : World, U = (w.alloc (.cells #[.slice pa pn pc] 24)).alloc (.cells #[.bool false, .int .i64 0, .slice none 0 0, .bool false, .int .i64 0, .bool false, .int .i64 0] 99)) := hid ⟨_, rfl⟩
  obtain ⟨U, hU⟩ := W0.out
  have hBU : Below w.heap.size w U := by rw [hU]; exact Below.alloc (Below.alloc (Below.refl _ _) (Nat.le_refl _) _) (by simp) _
  have hUs : U.heap.size = w.heap.size + 2 := by rw [hU]; simp
  have hDU : U.heap[w.heap.size + 1]? = some (.cells zDid 99) := by rw [hU, show w.heap.size + 1 = (w.alloc (.cells #[.slice pa pn pc] 24)).heap.size by simp, heap_alloc_new]; rfl
  have p0 : U.cell? ⟨w.heap.size, 0, none⟩ = some (.slice pa pn pc) := by rw [hU]; simp [go_sem]
  have MU := m.kept hBU
  have hpn : xn < pn := by rw [hp.len]; omega
  have hpr := hp.room
  have hpc := hp.cap
  obtain ⟨b0, o0, fx, fy, ca, cn, cc, cl, rfl, e3, _, _, d2, i3⟩ := (hp.kept hBU).at xn hpn
  rw [e3] at hyl hin
  simp only [] at hyl hin
  have hyn : yn < cn := by rw [i3.len]; omega
  obtain ⟨b1, o1, k', a', rfl, e4, j0, j1⟩ := i3.at yn hyn
  have eka : (k', a') = (k, a) := by rw [← e4]; exact hin
  have e5 : k' = k ∧ a' = a := by simpa using eka
  rw [e5.1] at j0
  rw [e5.2] at j1
  have hcr := i3.room
  have hcc := i3.cap
  have hgw := m.gNe.2.2.1
  have hgU : g < U.heap.size := by omega
  obtain ⟨q0, q1, q2, q3, qf⟩ := MU.cells
  have SA : Hid (∀ w', Below U.heap.size U w' → (w'.cell? ⟨w.heap.size, 0, none⟩ = some (.slice (some ⟨b0, o0, none⟩) pn pc) ∧ w'.cell? ⟨g, fs.length * 4, none⟩ = some (.int .i64 (xn : Int)) ∧ w'.cell? ⟨g, fs.length * 4 + 1, none⟩ = some (.int .i64 (yn : Int)) ∧ w'.cell? ⟨b0, o0 + xn * 3 + 2, none⟩ = some (.slice (some ⟨b1, o1, none⟩) cn cc) ∧ w'.cell? ⟨b1, o1 + yn * 2, none⟩ = some (.int .i64 k) ∧ w'.cell? ⟨b1, o1 + yn * 2 + 1, none⟩ = some (.int .i64 a))) := hid (fun w' b => ⟨kept_cell b p0, kept_cell b q0, kept_cell b q1, kept_cell b d2, kept_cell b j0, kept_cell b j1⟩)
  have BC : Below U.heap.size U U := Below.refl _ _
  have hA4 : Below U.heap.size U (U.alloc (.cells #[.int .i64 k, .int .i64 a] 45)).drew := Below.drew (Below.alloc (Below.refl _ _) (Nat.le_refl _) _)
  have W5 : Hid (∃ V : World, V = (U.alloc (.cells #[.int .i64 k, .int .i64 a] 45)).drew) := hid ⟨_, rfl⟩
  obtain ⟨V, hV⟩ := W5.out
  rw [← hV] at hA4
  have P0 := hid (kept_cell hA4 p0)
  have hIV : V.heap[U.heap.size]? = some (.cells #[.int .i64 k, .int .i64 a] 45 (0, 0)) := by rw [hV]; exact heap_alloc_new U _
  have RR := RunI.new m (kt hBU hA4) (heap_kept hDU hA4) hIV (by omega) hsz
  have R0 := hid RR
  have R1 := hid (RR.setPc ((yn : Int) + 1))
  obtain ⟨iv0, iv1⟩ := RR.ins
  have r1 := RR.M.cells.2.1
  have rf1 := RR.M.cells.2.2.2.2 (fs.length * 4 + 1)
  obtain ⟨hdg, hig⟩ := RR.ne
  have hpg : w.heap.size ≠ g := by omega
  have EV := hid hV
  have EU := hid hU
  skip
  clear hUs hBU hU W0 hDU p0 d2 i3 e3 e4 j0 j1 q0 q1 q2 q3 qf hin eka e5 hA4 hV W5 RR hIV MU m hp hp0 h0 ok hyl hxl
  go_enter Tryz.func56, Tryz.ntmps56
  go_wp2_with fail
  refine wp_world (U := U) EU.out ?_
  go_region_held3 (fun w' => w'.cell? ⟨w.heap.size, 0, none⟩ = some (.slice (some ⟨b0, o0, none⟩) pn pc) ∧ w'.cell? ⟨g, fs.length * 4, none⟩ = some (.int .i64 (xn : Int)) ∧ w'.cell? ⟨g, fs.length * 4 + 1, none⟩ = some (.int .i64 (yn : Int)) ∧ w'.cell? ⟨b0, o0 + xn * 3 + 2, none⟩ = some (.slice (some ⟨b1, o1, none⟩) cn cc) ∧ w'.cell? ⟨b1, o1 + yn * 2, none⟩ = some (.int .i64 k) ∧ w'.cell? ⟨b1, o1 + yn * 2 + 1, none⟩ = some (.int .i64 a)) (first | (refine SA.out _ ?_; (repeat (first | with_reducible exact BC | with_reducible refine pDrew ?_ | with_reducible refine pAlloc ?_ | with_reducible refine pSet (Nat.le_refl _) ?_)))) (fail)
  all_goals
    clear SA BC EU
    rw [← EV.out]
    have n0 : (k == 0) = false := by simp; omega
    have n1 : (k == 1) = false := by simp; omega
    have n2 : (k == 2) = false := by simp; omega
    have n3 : (k == 10) = false := by simp; omega
    have n4 : (k == 11) = false := by simp; omega
    have n5 : (k == 12) = false := by simp; omega
    have n6 : (k == 13) = false := by simp; omega
    have n7 : (k == 14) = false := by simp; omega
    have n8 : (k == 15) = false := by simp; omega
    have n9 : (k == 16) = false := by simp; omega
    go_wp2_with fail
    refine (popI _ R1.out (by simp at hs8 ⊢; omega)).mono ?_
    rintro e w_H1 ⟨rfl, sv_H1, h1⟩
    have H1 := hid h1
    clear h1
    go_wp2_with fail
    refine (popI _ H1.out (by simp at hs8; omega)).mono ?_
    rintro e w_H2 ⟨rfl, sv_H2, h1⟩
    have H2 := hid h1
    clear h1
    obtain ⟨iw0, iw1⟩ := H2.out.ins
    obtain ⟨⟨d0, d1, d2, d3, d4, d5, d6⟩, df⟩ := did_cells H2.out.D
    have f0 := df 0
    have f1 := df 1
    have f2 := df 2
    have f3 := df 3
    have f4 := df 4
    have f5 := df 5
    have f6 := df 6
    clear df
    go_wp2_with (go_at_call 78; refine (refDo_any _ _ _ _).mono ?_; rintro e x ⟨rfl, hx⟩; rw [hx]; clear hx; rw [ht])
    refine bodyPost_ret (v := .agg #[.bool false, .int .i64 0, .slice none 0 0, .bool false, .int .i64 0, .bool false, .int .i64 2]) (by simp [results, Tryz.results56, go_sem, d0, d1, d2, d3, d4, d5, d6]) rfl ⟨_, _, _, _, _, rfl, row1_nil _ _, (H2.out.fin _ _ _ _ _ _ _).1, (H2.out.fin _ _ _ _ _ _ _).2⟩
end

end Go.Proofs.YtcngmkbgcfhmdaaGreatDoor

namespace Go.Proofs.YtcngmkbgcfhmdaaGreatDoor
open Go.RowKit
set_option linter.unusedVariables false
section
variable {base mb g cap : Nat} {t : List U4} {lv sv ov : Value} {fs : List Fr} {ll out : List Int} {pa : Option Addr} {pn pc : Nat} {ps : List Fn}

set_option maxRecDepth 100000 in
set_option maxHeartbeats 8000000 in
theorem refI_load {i : Nat} {sl : List Int} (xn yn : Nat) (w : World) (m : MSt w base mb (.slice (some ⟨g, 0, none⟩) (fs.length + 1) cap) (t ++ [((xn : Int), (yn : Int), lv, sv)]) ov (fs ++ [((xn : Int), (yn : Int), ll, sl)]) out) (ok : Ok ps fs (xn : Int) (yn : Int) ll sl 1 (i : Int)) {w0 : World} (h0 : Below w0.heap.size w0 w) (hb0 : w0.heap.size ≤ base) (hp0 : Fns w0 pa pn pc ps) (hsz : base ≤ w.heap.size) (hi : i < ll.length) :
    Calls Tryz.prog 56 #[.agg #[.slice pa pn pc], .pointer (some ⟨g, fs.length * 4, none⟩), .int .i64 ((fs.length : Int) + 1)] w fun e w' => IPost base mb g cap t xn ov fs out w false (0) [] false (0) false (0) ((yn : Int) + 1) (ll) (sl ++ [ll.getD i 0]) e w' := by
  have hp := hp0.kept h0
  have HP := hid hp0
  have H00 := hid (And.intro h0 (And.intro hb0 hsz))
  have hxl := ok.fx
  have hyl := ok.py
  have hin := ok.ins
  rw [Int.toNat_natCast] at hyl hin
  rw [Int.toNat_natCast] at hin
  have hs8 := ok.stk.2
  have hl8 := ok.locs.2
  have hdp := ok.deep
  have W0 : Hid (∃ U : World, U = (w.alloc (.cells #[.slice pa pn pc] 24)).alloc (.cells #[.bool false, .int .i64 0, .slice none 0 0, .bool false, .int .i64 0, .bool false, .int .i64 0] 99)) := hid ⟨_, rfl⟩
  obtain ⟨U, hU⟩ := W0.out
  have hBU : Below w.heap.size w U := by rw [hU]; exact Below.alloc (Below.alloc (Below.refl _ _) (Nat.le_refl _) _) (by simp) _
  have hUs : U.heap.size = w.heap.size + 2 := by rw [hU]; simp
  have hDU : U.heap[w.heap.size + 1]? = some (.cells zDid 99) := by rw [hU, show w.heap.size + 1 = (w.alloc (.cells #[.slice pa pn pc] 24)).heap.size by simp, heap_alloc_new]; rfl
  have p0 : U.cell? ⟨w.heap.size, 0, none⟩ = some (.slice pa pn pc) := by rw [hU]; simp [go_sem]
  have MU := m.kept hBU
  have hpn : xn < pn := by rw [hp.len]; omega
  have hpr := hp.room
  have hpc := hp.cap
  obtain ⟨b0, o0, fx, fy, ca, cn, cc, cl, rfl, e3, _, _, d2, i3⟩ := (hp.kept hBU).at xn hpn
  rw [e3] at hyl hin
  simp only [] at hyl hin
  have hyn : yn < cn := by rw [i3.len]; omega
  obtain ⟨b1, o1, k', a', rfl, e4, j0, j1⟩ := i3.at yn hyn
  have eka : (k', a') = (1, (i : Int)) := by rw [← e4]; exact hin
  have e5 : k' = 1 ∧ a' = (i : Int) := by simpa using eka
  rw [e5.1] at j0
  rw [e5.2] at j1
  have hcr := i3.room
  have hcc := i3.cap
  have hgw := m.gNe.2.2.1
  have hgU : g < U.heap.size := by omega
  obtain ⟨q0, q1, q2, q3, qf⟩ := MU.cells
  have SA : Hid (∀ w', Below U.heap.size U w' → (w'.cell? ⟨w.heap.size, 0, none⟩ = some (.slice (some ⟨b0, o0, none⟩) pn pc) ∧ w'.cell? ⟨g, fs.length * 4, none⟩ = some (.int .i64 (xn : Int)) ∧ w'.cell? ⟨g, fs.length * 4 + 1, none⟩ = some (.int .i64 (yn : Int)) ∧ w'.cell? ⟨b0, o0 + xn * 3 + 2, none⟩ = some (.slice (some ⟨b1, o1, none⟩) cn cc) ∧ w'.cell? ⟨b1, o1 + yn * 2, none⟩ = some (.int .i64 1) ∧ w'.cell? ⟨b1, o1 + yn * 2 + 1, none⟩ = some (.int .i64 (i : Int)))) := hid (fun w' b => ⟨kept_cell b p0, kept_cell b q0, kept_cell b q1, kept_cell b d2, kept_cell b j0, kept_cell b j1⟩)
  have BC : Below U.heap.size U U := Below.refl _ _
  have hA4 : Below U.heap.size U (U.alloc (.cells #[.int .i64 1, .int .i64 (i : Int)] 45)).drew := Below.drew (Below.alloc (Below.refl _ _) (Nat.le_refl _) _)
  have W5 : Hid (∃ V : World, V = (U.alloc (.cells #[.int .i64 1, .int .i64 (i : Int)] 45)).drew) := hid ⟨_, rfl⟩
  obtain ⟨V, hV⟩ := W5.out
  rw [← hV] at hA4
  have P0 := hid (kept_cell hA4 p0)
  have hIV : V.heap[U.heap.size]? = some (.cells #[.int .i64 1, .int .i64 (i : Int)] 45 (0, 0)) := by rw [hV]; exact heap_alloc_new U _
  have RR := RunI.new m (kt hBU hA4) (heap_kept hDU hA4) hIV (by omega) hsz
  have R0 := hid RR
  have R1 := hid (RR.setPc ((yn : Int) + 1))
  obtain ⟨iv0, iv1⟩ := RR.ins
  have r1 := RR.M.cells.2.1
  have rf1 := RR.M.cells.2.2.2.2 (fs.length * 4 + 1)
  obtain ⟨hdg, hig⟩ := RR.ne
  have hpg : w.heap.size ≠ g := by omega
  have EV := hid hV
  have EU := hid hU
  generalize hz : ll.getD i 0 = z
  have HZ := hid hz
  clear hz
  clear hUs hBU hU W0 hDU p0 d2 i3 e3 e4 j0 j1 q0 q1 q2 q3 qf hin eka e5 hA4 hV W5 RR hIV MU m hp hp0 h0 ok hyl hxl
  go_enter Tryz.func56, Tryz.ntmps56
  go_wp2_with fail
  refine wp_world (U := U) EU.out ?_
  go_region_held3 (fun w' => w'.cell? ⟨w.heap.size, 0, none⟩ = some (.slice (some ⟨b0, o0, none⟩) pn pc) ∧ w'.cell? ⟨g, fs.length * 4, none⟩ = some (.int .i64 (xn : Int)) ∧ w'.cell? ⟨g, fs.length * 4 + 1, none⟩ = some (.int .i64 (yn : Int)) ∧ w'.cell? ⟨b0, o0 + xn * 3 + 2, none⟩ = some (.slice (some ⟨b1, o1, none⟩) cn cc) ∧ w'.cell? ⟨b1, o1 + yn * 2, none⟩ = some (.int .i64 1) ∧ w'.cell? ⟨b1, o1 + yn * 2 + 1, none⟩ = some (.int .i64 (i : Int))) (first | (refine SA.out _ ?_; (repeat (first | with_reducible exact BC | with_reducible refine pDrew ?_ | with_reducible refine pAlloc ?_ | with_reducible refine pSet (Nat.le_refl _) ?_)))) (fail)
  all_goals
    clear SA BC EU
    rw [← EV.out]
    go_wp2_with fail
    have RD := hid R1.out.drew
    obtain ⟨iw0, iw1⟩ := RD.out.ins
    have c2 := RD.out.M.cells.2.2.1
    have c3 := RD.out.M.cells.2.2.2.1
    obtain ⟨lb, lc, elv, hlc, l1, l1f⟩ := RD.out.locForm hi
    rw [elv] at c2
    have ELV := hid elv
    clear elv
    rw [HZ.out] at l1
    go_region_with (go_at_call 58; refine (pushI z _ RD.out (by omega)).mono ?_; rintro e w1 ⟨rfl, sv1, h1⟩; have H1 := hid h1; clear h1)
    all_goals
      obtain ⟨⟨d0, d1, d2, d3, d4, d5, d6⟩, df⟩ := did_cells H1.out.D
      have f0 := df 0
      have f1 := df 1
      have f2 := df 2
      have f3 := df 3
      have f4 := df 4
      have f5 := df 5
      have f6 := df 6
      clear df
      go_wp2_with fail
      refine bodyPost_ret (v := .agg #[.bool false, .int .i64 0, .slice none 0 0, .bool false, .int .i64 0, .bool false, .int .i64 0]) (by simp [results, Tryz.results56, go_sem, d0, d1, d2, d3, d4, d5, d6]) rfl ⟨_, _, _, _, _, rfl, row1_nil _ _, (H1.out.fin _ _ _ _ _ _ _).1, (H1.out.fin _ _ _ _ _ _ _).2⟩

set_option maxRecDepth 100000 in
set_option maxHeartbeats 8000000 in
theorem refI_store {i : Nat} {z : Int} {sl : List Int} (xn yn : Nat) (w : World) (m : MSt w base mb (.slice (some ⟨g, 0, none⟩) (fs.length + 1) cap) (t ++ [((xn : Int), (yn : Int), lv, sv)]) ov (fs ++ [((xn : Int), (yn : Int), ll, (sl ++ [z]))]) out) (ok : Ok ps fs (xn : Int) (yn : Int) ll (sl ++ [z]) 2 (i : Int)) {w0 : World} (h0 : Below w0.heap.size w0 w) (hb0 : w0.heap.size ≤ base) (hp0 : Fns w0 pa pn pc ps) (hsz : base ≤ w.heap.size) (hi : i < ll.length) :
    Calls Tryz.prog 56 #[.agg #[.slice pa pn pc], .pointer (some ⟨g, fs.length * 4, none⟩), .int .i64 ((fs.length : Int) + 1)] w fun e w' => IPost base mb g cap t xn ov fs out w false (0) [] false (0) false (0) ((yn : Int) + 1) (ll.set i z) (sl) e w' := by
  have hp := hp0.kept h0
  have HP := hid hp0
  have H00 := hid (And.intro h0 (And.intro hb0 hsz))
  have hxl := ok.fx
  have hyl := ok.py
  have hin := ok.ins
  rw [Int.toNat_natCast] at hyl hin
  rw [Int.toNat_natCast] at hin
  have hs8 := ok.stk.2
  have hl8 := ok.locs.2
  have hdp := ok.deep
  have W0 : Hid (∃ U : World, U = (w.alloc (.cells #[.slice pa pn pc] 24)).alloc (.cells #[.bool false, .int .i64 0, .slice none 0 0, .bool false, .int .i64 0, .bool false, .int .i64 0] 99)) := hid ⟨_, rfl⟩
  obtain ⟨U, hU⟩ := W0.out
  have hBU : Below w.heap.size w U := by rw [hU]; exact Below.alloc (Below.alloc (Below.refl _ _) (Nat.le_refl _) _) (by simp) _
  have hUs : U.heap.size = w.heap.size + 2 := by rw [hU]; simp
  have hDU : U.heap[w.heap.size + 1]? = some (.cells zDid 99) := by rw [hU, show w.heap.size + 1 = (w.alloc (.cells #[.slice pa pn pc] 24)).heap.size by simp, heap_alloc_new]; rfl
  have p0 : U.cell? ⟨w.heap.size, 0, none⟩ = some (.slice pa pn pc) := by rw [hU]; simp [go_sem]
  have MU := m.kept hBU
  have hpn : xn < pn := by rw [hp.len]; omega
  have hpr := hp.room
  have hpc := hp.cap
  obtain ⟨b0, o0, fx, fy, ca, cn, cc, cl, rfl, e3, _, _, d2, i3⟩ := (hp.kept hBU).at xn hpn
  rw [e3] at hyl hin
  simp only [] at hyl hin
  have hyn : yn < cn := by rw [i3.len]; omega
  obtain ⟨b1, o1, k', a', rfl, e4, j0, j1⟩ := i3.at yn hyn
  have eka : (k', a') = (2, (i : Int)) := by rw [← e4]; exact hin
  have e5 : k' = 2 ∧ a' = (i : Int) := by simpa using eka
  rw [e5.1] at j0
  rw [e5.2] at j1
  have hcr := i3.room
  have hcc := i3.cap
  have hgw := m.gNe.2.2.1
  have hgU : g < U.heap.size := by omega
  obtain ⟨q0, q1, q2, q3, qf⟩ := MU.cells
  have SA : Hid (∀ w', Below U.heap.size U w' → (w'.cell? ⟨w.heap.size, 0, none⟩ = some (.slice (some ⟨b0, o0, none⟩) pn pc) ∧ w'.cell? ⟨g, fs.length * 4, none⟩ = some (.int .i64 (xn : Int)) ∧ w'.cell? ⟨g, fs.length * 4 + 1, none⟩ = some (.int .i64 (yn : Int)) ∧ w'.cell? ⟨b0, o0 + xn * 3 + 2, none⟩ = some (.slice (some ⟨b1, o1, none⟩) cn cc) ∧ w'.cell? ⟨b1, o1 + yn * 2, none⟩ = some (.int .i64 2) ∧ w'.cell? ⟨b1, o1 + yn * 2 + 1, none⟩ = some (.int .i64 (i : Int)))) := hid (fun w' b => ⟨kept_cell b p0, kept_cell b q0, kept_cell b q1, kept_cell b d2, kept_cell b j0, kept_cell b j1⟩)
  have BC : Below U.heap.size U U := Below.refl _ _
  have hA4 : Below U.heap.size U (U.alloc (.cells #[.int .i64 2, .int .i64 (i : Int)] 45)).drew := Below.drew (Below.alloc (Below.refl _ _) (Nat.le_refl _) _)
  have W5 : Hid (∃ V : World, V = (U.alloc (.cells #[.int .i64 2, .int .i64 (i : Int)] 45)).drew) := hid ⟨_, rfl⟩
  obtain ⟨V, hV⟩ := W5.out
  rw [← hV] at hA4
  have P0 := hid (kept_cell hA4 p0)
  have hIV : V.heap[U.heap.size]? = some (.cells #[.int .i64 2, .int .i64 (i : Int)] 45 (0, 0)) := by rw [hV]; exact heap_alloc_new U _
  have RR := RunI.new m (kt hBU hA4) (heap_kept hDU hA4) hIV (by omega) hsz
  have R0 := hid RR
  have R1 := hid (RR.setPc ((yn : Int) + 1))
  obtain ⟨iv0, iv1⟩ := RR.ins
  have r1 := RR.M.cells.2.1
  have rf1 := RR.M.cells.2.2.2.2 (fs.length * 4 + 1)
  obtain ⟨hdg, hig⟩ := RR.ne
  have hpg : w.heap.size ≠ g := by omega
  have EV := hid hV
  have EU := hid hU
  have hs7 : sl.length ≤ 100 := by simp at hs8; omega
  have HL := hid hs7
  clear hs7
  clear hUs hBU hU W0 hDU p0 d2 i3 e3 e4 j0 j1 q0 q1 q2 q3 qf hin eka e5 hA4 hV W5 RR hIV MU m hp hp0 h0 ok hyl hxl
  go_enter Tryz.func56, Tryz.ntmps56
  go_wp2_with fail
  refine wp_world (U := U) EU.out ?_
  go_region_held3 (fun w' => w'.cell? ⟨w.heap.size, 0, none⟩ = some (.slice (some ⟨b0, o0, none⟩) pn pc) ∧ w'.cell? ⟨g, fs.length * 4, none⟩ = some (.int .i64 (xn : Int)) ∧ w'.cell? ⟨g, fs.length * 4 + 1, none⟩ = some (.int .i64 (yn : Int)) ∧ w'.cell? ⟨b0, o0 + xn * 3 + 2, none⟩ = some (.slice (some ⟨b1, o1, none⟩) cn cc) ∧ w'.cell? ⟨b1, o1 + yn * 2, none⟩ = some (.int .i64 2) ∧ w'.cell? ⟨b1, o1 + yn * 2 + 1, none⟩ = some (.int .i64 (i : Int))) (first | (refine SA.out _ ?_; (repeat (first | with_reducible exact BC | with_reducible refine pDrew ?_ | with_reducible refine pAlloc ?_ | with_reducible refine pSet (Nat.le_refl _) ?_)))) (fail)
  all_goals
    clear SA BC EU
    rw [← EV.out]
    go_wp2_with fail
    have RD := hid R1.out.drew
    obtain ⟨iw0, iw1⟩ := RD.out.ins
    have c2 := RD.out.M.cells.2.2.1
    have c3 := RD.out.M.cells.2.2.2.1
    obtain ⟨lb, lc, rfl, hlc, l1, l1f⟩ := RD.out.locForm hi
    clear l1 l1f
    go_region_with (go_at_call 76; refine (popI _ RD.out HL.out).mono ?_; rintro e w1 ⟨rfl, sv1, h1⟩; have l3 : w1.cell? ⟨lb, i, none⟩ = some (.int .i64 (ll.getD i 0)) ∧ w1.frozen? ⟨lb, i, none⟩ = false := (by obtain ⟨lb', c', e', _, k1, k2⟩ := h1.locForm hi; cases e'; exact ⟨k1, k2⟩); obtain ⟨l3, l3f⟩ := l3; have d2 := h1.M.cells.2.2.1; obtain ⟨jw0, jw1⟩ := h1.ins; have H0 := hid h1; have H1 := hid (h1.setLoc i z); clear h1)
    all_goals
      obtain ⟨⟨d0, d1, d2, d3, d4, d5, d6⟩, df⟩ := did_cells H1.out.D
      have f0 := df 0
      have f1 := df 1
      have f2 := df 2
      have f3 := df 3
      have f4 := df 4
      have f5 := df 5
      have f6 := df 6
      clear df
      go_wp2_with fail
      refine bodyPost_ret (v := .agg #[.bool false, .int .i64 0, .slice none 0 0, .bool false, .int .i64 0, .bool false, .int .i64 0]) (by simp [results, Tryz.results56, go_sem, d0, d1, d2, d3, d4, d5, d6]) rfl ⟨_, _, _, _, _, rfl, row1_nil _ _, (H1.out.fin _ _ _ _ _ _ _).1, (H1.out.fin _ _ _ _ _ _ _).2⟩
end

end Go.Proofs.YtcngmkbgcfhmdaaGreatDoor

namespace Go.Proofs.YtcngmkbgcfhmdaaGreatDoor
open Go.RowKit
set_option linter.unusedVariables false
section
variable {base mb g cap : Nat} {t : List U4} {lv sv ov : Value} {fs : List Fr} {ll out : List Int} {pa : Option Addr} {pn pc : Nat} {ps : List Fn}

set_option maxRecDepth 100000 in
set_option maxHeartbeats 8000000 in
theorem refI_dup {a z : Int} {sl : List Int} (xn yn : Nat) (w : World) (m : MSt w base mb (.slice (some ⟨g, 0, none⟩) (fs.length + 1) cap) (t ++ [((xn : Int), (yn : Int), lv, sv)]) ov (fs ++ [((xn : Int), (yn : Int), ll, (sl ++ [z]))]) out) (ok : Ok ps fs (xn : Int) (yn : Int) ll (sl ++ [z]) 10 a) {w0 : World} (h0 : Below w0.heap.size w0 w) (hb0 : w0.heap.size ≤ base) (hp0 : Fns w0 pa pn pc ps) (hsz : base ≤ w.heap.size)  :
    Calls Tryz.prog 56 #[.agg #[.slice pa pn pc], .pointer (some ⟨g, fs.length * 4, none⟩), .int .i64 ((fs.length : Int) + 1)] w fun e w' => IPost base mb g cap t xn ov fs out w false (0) [] false (0) false (0) ((yn : Int) + 1) (ll) (sl ++ [z] ++ [z]) e w' := by
  have hp := hp0.kept h0
  have HP := hid hp0
  have H00 := hid (And.intro h0 (And.intro hb0 hsz))
  have hxl := ok.fx
  have hyl := ok.py
  have hin := ok.ins
  rw [Int.toNat_natCast] at hyl hin
  rw [Int.toNat_natCast] at hin
  have hs8 := ok.stk.2
  have hl8 := ok.locs.2
  have hdp := ok.deep
  have W0 : Hid (∃ U : World, U = (w.alloc (.cells #[.slice pa pn pc] 24)).alloc (.cells #[.bool false, .int .i64 0, .slice none 0 0, .bool false, .int .i64 0, .bool false, .int .i64 0] 99)) := hid ⟨_, rfl⟩
  obtain ⟨U, hU⟩ := W0.out
  have hBU : Below w.heap.size w U := by rw [hU]; exact Below.alloc (Below.alloc (Below.refl _ _) (Nat.le_refl _) _) (by simp) _
  have hUs : U.heap.size = w.heap.size + 2 := by rw [hU]; simp
  have hDU : U.heap[w.heap.size + 1]? = some (.cells zDid 99) := by rw [hU, show w.heap.size + 1 = (w.alloc (.cells #[.slice pa pn pc] 24)).heap.size by simp, heap_alloc_new]; rfl
  have p0 : U.cell? ⟨w.heap.size, 0, none⟩ = some (.slice pa pn pc) := by rw [hU]; simp [go_sem]
  have MU := m.kept hBU
  have hpn : xn < pn := by rw [hp.len]; omega
  have hpr := hp.room
  have hpc := hp.cap
  obtain ⟨b0, o0, fx, fy, ca, cn, cc, cl, rfl, e3, _, _, d2, i3⟩ := (hp.kept hBU).at xn hpn
  rw [e3] at hyl hin
  simp only [] at hyl hin
  have hyn : yn < cn := by rw [i3.len]; omega
  obtain ⟨b1, o1, k', a', rfl, e4, j0, j1⟩ := i3.at yn hyn
  have eka : (k', a') = (10, a) := by rw [← e4]; exact hin
  have e5 : k' = 10 ∧ a' = a := by simpa using eka
  rw [e5.1] at j0
  rw [e5.2] at j1
  have hcr := i3.room
  have hcc := i3.cap
  have hgw := m.gNe.2.2.1
  have hgU : g < U.heap.size := by omega
  obtain ⟨q0, q1, q2, q3, qf⟩ := MU.cells
  have SA : Hid (∀ w', Below U.heap.size U w' → (w'.cell? ⟨w.heap.size, 0, none⟩ = some (.slice (some ⟨b0, o0, none⟩) pn pc) ∧ w'.cell? ⟨g, fs.length * 4, none⟩ = some (.int .i64 (xn : Int)) ∧ w'.cell? ⟨g, fs.length * 4 + 1, none⟩ = some (.int .i64 (yn : Int)) ∧ w'.cell? ⟨b0, o0 + xn * 3 + 2, none⟩ = some (.slice (some ⟨b1, o1, none⟩) cn cc) ∧ w'.cell? ⟨b1, o1 + yn * 2, none⟩ = some (.int .i64 10) ∧ w'.cell? ⟨b1, o1 + yn * 2 + 1, none⟩ = some (.int .i64 a))) := hid (fun w' b => ⟨kept_cell b p0, kept_cell b q0, kept_cell b q1, kept_cell b d2, kept_cell b j0, kept_cell b j1⟩)
  have BC : Below U.heap.size U U := Below.refl _ _
  have hA4 : Below U.heap.size U (U.alloc (.cells #[.int .i64 10, .int .i64 a] 45)).drew := Below.drew (Below.alloc (Below.refl _ _) (Nat.le_refl _) _)
  have W5 : Hid (∃ V : World, V = (U.alloc (.cells #[.int .i64 10, .int .i64 a] 45)).drew) := hid ⟨_, rfl⟩
  obtain ⟨V, hV⟩ := W5.out
  rw [← hV] at hA4
  have P0 := hid (kept_cell hA4 p0)
  have hIV : V.heap[U.heap.size]? = some (.cells #[.int .i64 10, .int .i64 a] 45 (0, 0)) := by rw [hV]; exact heap_alloc_new U _
  have RR := RunI.new m (kt hBU hA4) (heap_kept hDU hA4) hIV (by omega) hsz
  have R0 := hid RR
  have R1 := hid (RR.setPc ((yn : Int) + 1))
  obtain ⟨iv0, iv1⟩ := RR.ins
  have r1 := RR.M.cells.2.1
  have rf1 := RR.M.cells.2.2.2.2 (fs.length * 4 + 1)
  obtain ⟨hdg, hig⟩ := RR.ne
  have hpg : w.heap.size ≠ g := by omega
  have EV := hid hV
  have EU := hid hU
  have hs7 : (sl ++ [z]).length ≤ 100 := by omega
  have HL := hid hs7
  clear hs7
  clear hUs hBU hU W0 hDU p0 d2 i3 e3 e4 j0 j1 q0 q1 q2 q3 qf hin eka e5 hA4 hV W5 RR hIV MU m hp hp0 h0 ok hyl hxl
  go_enter Tryz.func56, Tryz.ntmps56
  go_wp2_with fail
  refine wp_world (U := U) EU.out ?_
  go_region_held3 (fun w' => w'.cell? ⟨w.heap.size, 0, none⟩ = some (.slice (some ⟨b0, o0, none⟩) pn pc) ∧ w'.cell? ⟨g, fs.length * 4, none⟩ = some (.int .i64 (xn : Int)) ∧ w'.cell? ⟨g, fs.length * 4 + 1, none⟩ = some (.int .i64 (yn : Int)) ∧ w'.cell? ⟨b0, o0 + xn * 3 + 2, none⟩ = some (.slice (some ⟨b1, o1, none⟩) cn cc) ∧ w'.cell? ⟨b1, o1 + yn * 2, none⟩ = some (.int .i64 10) ∧ w'.cell? ⟨b1, o1 + yn * 2 + 1, none⟩ = some (.int .i64 a)) (first | (refine SA.out _ ?_; (repeat (first | with_reducible exact BC | with_reducible refine pDrew ?_ | with_reducible refine pAlloc ?_ | with_reducible refine pSet (Nat.le_refl _) ?_)))) (fail)
  all_goals
    clear SA BC EU
    rw [← EV.out]
    go_wp2_with fail
    obtain ⟨V1, hV1⟩ : ∃ V1, V1 = V.setCell ⟨g, fs.length * 4 + 1, none⟩ (.int .i64 ((yn : Int) + 1)) := ⟨_, rfl⟩
    rw [← hV1] at R1 ⊢
    have R2 := hid R1.out.drew
    clear hV1
    have c3 := R2.out.M.cells.2.2.2.1
    obtain ⟨sb, sc, esv, hsc, s1⟩ := R2.out.stkForm
    rw [esv] at c3
    have ESV := hid esv
    clear esv
    obtain ⟨n, hn⟩ : ∃ n, sl.length = n := ⟨_, rfl⟩
    have hn7 : n ≤ 7 := by simp at hs8; omega
    rw [hn] at c3 s1 hsc
    have HN := hid hn
    clear hn hs8
    obtain ⟨N, hN⟩ : ∃ N, n + 1 = N := ⟨_, rfl⟩
    rw [hN] at c3 hsc
    have hwr : IntKind.i64.wrap ((N : Int) - 1) = (n : Int) := by rw [IntKind.wrap_i64]; omega
    have hnN : (n : Int) < (N : Int) := by omega
    have hN8 : (N : Int) ≤ 8 := by omega
    have hN1 : (1 : Int) ≤ (N : Int) := by omega
    clear hN
    have n0 : (0 : Int) ≤ (n : Int) := by omega
    go_region_with (go_at_call 58; refine (pushI z _ R2.out HL.out).mono ?_; rintro e w1 ⟨rfl, sv1, h1⟩; have H1 := hid h1; clear h1)
    all_goals
      obtain ⟨⟨d0, d1, d2, d3, d4, d5, d6⟩, df⟩ := did_cells H1.out.D
      have f0 := df 0
      have f1 := df 1
      have f2 := df 2
      have f3 := df 3
      have f4 := df 4
      have f5 := df 5
      have f6 := df 6
      clear df
      go_wp2_with fail
      refine bodyPost_ret (v := .agg #[.bool false, .int .i64 0, .slice none 0 0, .bool false, .int .i64 0, .bool false, .int .i64 0]) (by simp [results, Tryz.results56, go_sem, d0, d1, d2, d3, d4, d5, d6]) rfl ⟨_, _, _, _, _, rfl, row1_nil _ _, (H1.out.fin _ _ _ _ _ _ _).1, (H1.out.fin _ _ _ _ _ _ _).2⟩
end

end Go.Proofs.YtcngmkbgcfhmdaaGreatDoor

namespace Go.Proofs.YtcngmkbgcfhmdaaGreatDoor
open Go.RowKit
set_option linter.unusedVariables false
section
variable {base mb g cap : Nat} {t : List U4} {lv sv ov : Value} {fs : List Fr} {ll out : List Int} {pa : Option Addr} {pn pc : Nat} {ps : List Fn}

set_option maxRecDepth 100000 in
set_option maxHeartbeats 8000000 in
theorem refI_deep {a : Int} {sl : List Int} (xn yn : Nat) (w : World) (m : MSt w base mb (.slice (some ⟨g, 0, none⟩) (fs.length + 1) cap) (t ++ [((xn : Int), (yn : Int), lv, sv)]) ov (fs ++ [((xn : Int), (yn : Int), ll, sl)]) out) (ok : Ok ps fs (xn : Int) (yn : Int) ll sl 14 a) {w0 : World} (h0 : Below w0.heap.size w0 w) (hb0 : w0.heap.size ≤ base) (hp0 : Fns w0 pa pn pc ps) (hsz : base ≤ w.heap.size) (hd : fs.length + 1 = 12) :
    Calls Tryz.prog 56 #[.agg #[.slice pa pn pc], .pointer (some ⟨g, fs.length * 4, none⟩), .int .i64 ((fs.length : Int) + 1)] w fun e w' => IPost base mb g cap t xn ov fs out w false (0) [] false (0) false (3) ((yn : Int) + 1) (ll) (sl) e w' := by
  have hp := hp0.kept h0
  have HP := hid hp0
  have H00 := hid (And.intro h0 (And.intro hb0 hsz))
  have hxl := ok.fx
  have hyl := ok.py
  have hin := ok.ins
  rw [Int.toNat_natCast] at hyl hin
  rw [Int.toNat_natCast] at hin
  have hs8 := ok.stk.2
  have hl8 := ok.locs.2
  have hdp := ok.deep
  have W0 : Hid (∃ U : World, U = (w.alloc (.cells #[.slice pa pn pc] 24)).alloc (.cells #[.bool false, .int .i64 0, .slice none 0 0, .bool false, .int .i64 0, .bool false, .int .i64 0] 99)) := hid ⟨_, rfl⟩
  obtain ⟨U, hU⟩ := W0.out
  have hBU : Below w.heap.size w U := by rw [hU]; exact Below.alloc (Below.alloc (Below.refl _ _) (Nat.le_refl _) _) (by simp) _
  have hUs : U.heap.size = w.heap.size + 2 := by rw [hU]; simp
  have hDU : U.heap[w.heap.size + 1]? = some (.cells zDid 99) := by rw [hU, show w.heap.size + 1 = (w.alloc (.cells #[.slice pa pn pc] 24)).heap.size by simp, heap_alloc_new]; rfl
  have p0 : U.cell? ⟨w.heap.size, 0, none⟩ = some (.slice pa pn pc) := by rw [hU]; simp [go_sem]
  have MU := m.kept hBU
  have hpn : xn < pn := by rw [hp.len]; omega
  have hpr := hp.room
  have hpc := hp.cap
  obtain ⟨b0, o0, fx, fy, ca, cn, cc, cl, rfl, e3, _, _, d2, i3⟩ := (hp.kept hBU).at xn hpn
  rw [e3] at hyl hin
  simp only [] at hyl hin
  have hyn : yn < cn := by rw [i3.len]; omega
  obtain ⟨b1, o1, k', a', rfl, e4, j0, j1⟩ := i3.at yn hyn
  have eka : (k', a') = (14, a) := by rw [← e4]; exact hin
  have e5 : k' = 14 ∧ a' = a := by simpa using eka
  rw [e5.1] at j0
  rw [e5.2] at j1
  have hcr := i3.room
  have hcc := i3.cap
  have hgw := m.gNe.2.2.1
  have hgU : g < U.heap.size := by omega
  obtain ⟨q0, q1, q2, q3, qf⟩ := MU.cells
  have SA : Hid (∀ w', Below U.heap.size U w' → (w'.cell? ⟨w.heap.size, 0, none⟩ = some (.slice (some ⟨b0, o0, none⟩) pn pc) ∧ w'.cell? ⟨g, fs.length * 4, none⟩ = some (.int .i64 (xn : Int)) ∧ w'.cell? ⟨g, fs.length * 4 + 1, none⟩ = some (.int .i64 (yn : Int)) ∧ w'.cell? ⟨b0, o0 + xn * 3 + 2, none⟩ = some (.slice (some ⟨b1, o1, none⟩) cn cc) ∧ w'.cell? ⟨b1, o1 + yn * 2, none⟩ = some (.int .i64 14) ∧ w'.cell? ⟨b1, o1 + yn * 2 + 1, none⟩ = some (.int .i64 a))) := hid (fun w' b => ⟨kept_cell b p0, kept_cell b q0, kept_cell b q1, kept_cell b d2, kept_cell b j0, kept_cell b j1⟩)
  have BC : Below U.heap.size U U := Below.refl _ _
  have hA4 : Below U.heap.size U (U.alloc (.cells #[.int .i64 14, .int .i64 a] 45)).drew := Below.drew (Below.alloc (Below.refl _ _) (Nat.le_refl _) _)
  have W5 : Hid (∃ V : World, V = (U.alloc (.cells #[.int .i64 14, .int .i64 a] 45)).drew) := hid ⟨_, rfl⟩
  obtain ⟨V, hV⟩ := W5.out
  rw [← hV] at hA4
  have P0 := hid (kept_cell hA4 p0)
  have hIV : V.heap[U.heap.size]? = some (.cells #[.int .i64 14, .int .i64 a] 45 (0, 0)) := by rw [hV]; exact heap_alloc_new U _
  have RR := RunI.new m (kt hBU hA4) (heap_kept hDU hA4) hIV (by omega) hsz
  have R0 := hid RR
  have R1 := hid (RR.setPc ((yn : Int) + 1))
  obtain ⟨iv0, iv1⟩ := RR.ins
  have r1 := RR.M.cells.2.1
  have rf1 := RR.M.cells.2.2.2.2 (fs.length * 4 + 1)
  obtain ⟨hdg, hig⟩ := RR.ne
  have hpg : w.heap.size ≠ g := by omega
  have EV := hid hV
  have EU := hid hU
  skip
  clear hUs hBU hU W0 hDU p0 d2 i3 e3 e4 j0 j1 q0 q1 q2 q3 qf hin eka e5 hA4 hV W5 RR hIV MU m hp hp0 h0 ok hyl hxl
  go_enter Tryz.func56, Tryz.ntmps56
  go_wp2_with fail
  refine wp_world (U := U) EU.out ?_
  go_region_held3 (fun w' => w'.cell? ⟨w.heap.size, 0, none⟩ = some (.slice (some ⟨b0, o0, none⟩) pn pc) ∧ w'.cell? ⟨g, fs.length * 4, none⟩ = some (.int .i64 (xn : Int)) ∧ w'.cell? ⟨g, fs.length * 4 + 1, none⟩ = some (.int .i64 (yn : Int)) ∧ w'.cell? ⟨b0, o0 + xn * 3 + 2, none⟩ = some (.slice (some ⟨b1, o1, none⟩) cn cc) ∧ w'.cell? ⟨b1, o1 + yn * 2, none⟩ = some (.int .i64 14) ∧ w'.cell? ⟨b1, o1 + yn * 2 + 1, none⟩ = some (.int .i64 a)) (first | (refine SA.out _ ?_; (repeat (first | with_reducible exact BC | with_reducible refine pDrew ?_ | with_reducible refine pAlloc ?_ | with_reducible refine pSet (Nat.le_refl _) ?_)))) (fail)
  all_goals
    clear SA BC EU
    rw [← EV.out]
    have pz := P0.out
    go_wp2_with fail
    refine (refCall_deep _ _ (by omega) _ R1.out).mono ?_
    rintro e w1 ⟨rfl, h1⟩
    have H1 := hid h1
    clear h1
    obtain ⟨⟨d0, d1, d2, d3, d4, d5, d6⟩, df⟩ := did_cells H1.out.D
    have f0 := df 0
    have f1 := df 1
    have f2 := df 2
    have f3 := df 3
    have f4 := df 4
    have f5 := df 5
    have f6 := df 6
    clear df
    go_wp2_with fail
    refine bodyPost_ret (v := .agg #[.bool false, .int .i64 0, .slice none 0 0, .bool false, .int .i64 0, .bool false, .int .i64 3]) (by simp [results, Tryz.results56, go_sem, d0, d1, d2, d3, d4, d5, d6]) rfl ⟨_, _, _, _, _, rfl, row1_nil _ _, (H1.out.fin _ _ _ _ _ _ _).1, (H1.out.fin _ _ _ _ _ _ _).2⟩

set_option maxRecDepth 100000 in
set_option maxHeartbeats 8000000 in
theorem refI_call {cf : Nat} {s0 ag : List Int} (xn yn : Nat) (w : World) (m : MSt w base mb (.slice (some ⟨g, 0, none⟩) (fs.length + 1) cap) (t ++ [((xn : Int), (yn : Int), lv, sv)]) ov (fs ++ [((xn : Int), (yn : Int), ll, (s0 ++ ag))]) out) (ok : Ok ps fs (xn : Int) (yn : Int) ll (s0 ++ ag) 14 (cf : Int)) {w0 : World} (h0 : Below w0.heap.size w0 w) (hb0 : w0.heap.size ≤ base) (hp0 : Fns w0 pa pn pc ps) (hsz : base ≤ w.heap.size) (hd : ¬ fs.length + 1 = 12) (hE : (ps.getD cf noFn).1 = (ag.length : Int)) :
    Calls Tryz.prog 56 #[.agg #[.slice pa pn pc], .pointer (some ⟨g, fs.length * 4, none⟩), .int .i64 ((fs.length : Int) + 1)] w fun e w' => IPost base mb g cap t xn ov fs out w true ((cf : Int)) ag false (0) false (0) ((yn : Int) + 1) (ll) (s0) e w' := by
  have hp := hp0.kept h0
  have HP := hid hp0
  have H00 := hid (And.intro h0 (And.intro hb0 hsz))
  have hxl := ok.fx
  have hyl := ok.py
  have hin := ok.ins
  rw [Int.toNat_natCast] at hyl hin
  rw [Int.toNat_natCast] at hin
  have hs8 := ok.stk.2
  have hl8 := ok.locs.2
  have hdp := ok.deep
  have W0 : Hid (∃ U : World, U = (w.alloc (.cells #[.slice pa pn pc] 24)).alloc (.cells #[.bool false, .int .i64 0, .slice none 0 0, .bool false, .int .i64 0, .bool false, .int .i64 0] 99)) := hid ⟨_, rfl⟩
  obtain ⟨U, hU⟩ := W0.out
  have hBU : Below w.heap.size w U := by rw [hU]; exact Below.alloc (Below.alloc (Below.refl _ _) (Nat.le_refl _) _) (by simp) _
  have hUs : U.heap.size = w.heap.size + 2 := by rw [hU]; simp
  have hDU : U.heap[w.heap.size + 1]? = some (.cells zDid 99) := by rw [hU, show w.heap.size + 1 = (w.alloc (.cells #[.slice pa pn pc] 24)).heap.size by simp, heap_alloc_new]; rfl
  have p0 : U.cell? ⟨w.heap.size, 0, none⟩ = some (.slice pa pn pc) := by rw [hU]; simp [go_sem]
  have MU := m.kept hBU
  have hpn : xn < pn := by rw [hp.len]; omega
  have hpr := hp.room
  have hpc := hp.cap
  obtain ⟨b0, o0, fx, fy, ca, cn, cc, cl, rfl, e3, _, _, d2, i3⟩ := (hp.kept hBU).at xn hpn
  rw [e3] at hyl hin
  simp only [] at hyl hin
  have hyn : yn < cn := by rw [i3.len]; omega
  obtain ⟨b1, o1, k', a', rfl, e4, j0, j1⟩ := i3.at yn hyn
  have eka : (k', a') = (14, (cf : Int)) := by rw [← e4]; exact hin
  have e5 : k' = 14 ∧ a' = (cf : Int) := by simpa using eka
  rw [e5.1] at j0
  rw [e5.2] at j1
  have hcr := i3.room
  have hcc := i3.cap
  have hgw := m.gNe.2.2.1
  have hgU : g < U.heap.size := by omega
  obtain ⟨q0, q1, q2, q3, qf⟩ := MU.cells
  have SA : Hid (∀ w', Below U.heap.size U w' → (w'.cell? ⟨w.heap.size, 0, none⟩ = some (.slice (some ⟨b0, o0, none⟩) pn pc) ∧ w'.cell? ⟨g, fs.length * 4, none⟩ = some (.int .i64 (xn : Int)) ∧ w'.cell? ⟨g, fs.length * 4 + 1, none⟩ = some (.int .i64 (yn : Int)) ∧ w'.cell? ⟨b0, o0 + xn * 3 + 2, none⟩ = some (.slice (some ⟨b1, o1, none⟩) cn cc) ∧ w'.cell? ⟨b1, o1 + yn * 2, none⟩ = some (.int .i64 14) ∧ w'.cell? ⟨b1, o1 + yn * 2 + 1, none⟩ = some (.int .i64 (cf : Int)))) := hid (fun w' b => ⟨kept_cell b p0, kept_cell b q0, kept_cell b q1, kept_cell b d2, kept_cell b j0, kept_cell b j1⟩)
  have BC : Below U.heap.size U U := Below.refl _ _
  have hA4 : Below U.heap.size U (U.alloc (.cells #[.int .i64 14, .int .i64 (cf : Int)] 45)).drew := Below.drew (Below.alloc (Below.refl _ _) (Nat.le_refl _) _)
  have W5 : Hid (∃ V : World, V = (U.alloc (.cells #[.int .i64 14, .int .i64 (cf : Int)] 45)).drew) := hid ⟨_, rfl⟩
  obtain ⟨V, hV⟩ := W5.out
  rw [← hV] at hA4
  have P0 := hid (kept_cell hA4 p0)
  have hIV : V.heap[U.heap.size]? = some (.cells #[.int .i64 14, .int .i64 (cf : Int)] 45 (0, 0)) := by rw [hV]; exact heap_alloc_new U _
  have RR := RunI.new m (kt hBU hA4) (heap_kept hDU hA4) hIV (by omega) hsz
  have R0 := hid RR
  have R1 := hid (RR.setPc ((yn : Int) + 1))
  obtain ⟨iv0, iv1⟩ := RR.ins
  have r1 := RR.M.cells.2.1
  have rf1 := RR.M.cells.2.2.2.2 (fs.length * 4 + 1)
  obtain ⟨hdg, hig⟩ := RR.ne
  have hpg : w.heap.size ≠ g := by omega
  have EV := hid hV
  have EU := hid hU
  have hcf : cf < ps.length := by have := ok.call rfl; omega
  clear hUs hBU hU W0 hDU p0 d2 i3 e3 e4 j0 j1 q0 q1 q2 q3 qf hin eka e5 hA4 hV W5 RR hIV MU m hp hp0 h0 ok hyl hxl
  go_enter Tryz.func56, Tryz.ntmps56
  go_wp2_with fail
  refine wp_world (U := U) EU.out ?_
  go_region_held3 (fun w' => w'.cell? ⟨w.heap.size, 0, none⟩ = some (.slice (some ⟨b0, o0, none⟩) pn pc) ∧ w'.cell? ⟨g, fs.length * 4, none⟩ = some (.int .i64 (xn : Int)) ∧ w'.cell? ⟨g, fs.length * 4 + 1, none⟩ = some (.int .i64 (yn : Int)) ∧ w'.cell? ⟨b0, o0 + xn * 3 + 2, none⟩ = some (.slice (some ⟨b1, o1, none⟩) cn cc) ∧ w'.cell? ⟨b1, o1 + yn * 2, none⟩ = some (.int .i64 14) ∧ w'.cell? ⟨b1, o1 + yn * 2 + 1, none⟩ = some (.int .i64 (cf : Int))) (first | (refine SA.out _ ?_; (repeat (first | with_reducible exact BC | with_reducible refine pDrew ?_ | with_reducible refine pAlloc ?_ | with_reducible refine pSet (Nat.le_refl _) ?_)))) (fail)
  all_goals
    clear SA BC EU
    rw [← EV.out]
    have pz := P0.out
    go_wp2_with fail
    refine (refCall_go cf _ (by omega) _ R1.out (HP.out.kept (H00.out.1.trans ((R1.out.K.below H00.out.2.2).mono H00.out.2.1))) hcf hE (by omega)).mono ?_
    rintro e w1 ⟨aa, an, ac, sv1, rfl, ra, h1⟩
    have H1 := hid h1
    have RA := hid ra
    have hdb : w.heap.size + 1 < V.heap.size := heap_lt R0.out.D
    clear h1 ra
    obtain ⟨⟨d0, d1, d2, d3, d4, d5, d6⟩, df⟩ := did_cells H1.out.D
    have f0 := df 0
    have f1 := df 1
    have f2 := df 2
    have f3 := df 3
    have f4 := df 4
    have f5 := df 5
    have f6 := df 6
    clear df
    go_wp2_with fail
    refine bodyPost_ret (v := .agg #[.bool true, .int .i64 (cf : Int), .slice aa an ac, .bool false, .int .i64 0, .bool false, .int .i64 0]) (by simp [results, Tryz.results56, go_sem, d0, d1, d2, d3, d4, d5, d6]) rfl ⟨_, _, _, _, _, rfl, ?_, (H1.out.fin _ _ _ _ _ _ _).1, (H1.out.fin _ _ _ _ _ _ _).2⟩
    have hbb := H00.out.2.2
    exact row_setDid RA.out.2 RA.out.1 (by simp; omega) (by simp; omega) _ _ _ _ _ _ _
end

end Go.Proofs.YtcngmkbgcfhmdaaGreatDoor

namespace Go.Proofs.YtcngmkbgcfhmdaaGreatDoor
open Go.RowKit
set_option linter.unusedVariables false

/-- What an instruction's result makes of the state. -/
def afterV (ps : List Fn) (fs : List Fr) (x y : Int) (ll sl : List Int) (fu : Int) (out : List Int) (c : Bool) (fn : Int) (args : List Int) (r : Bool) (v : Int) (p : Bool) (d : Int) : St :=
  if ¬ d = 0 then ([], fu, out, d, 0) else if p = true then (fs ++ [(x, y, ll, sl)], fu, out ++ [v], 0, 0)
  else if c = true then (fs ++ [(x, y, ll, sl)] ++ [(fn, 0, freshL (ps.getD fn.toNat noFn).2.1.toNat args, [])], fu, out, 0, 0)
  else if r = true then retV fs v fu out else (fs ++ [(x, y, ll, sl)], fu, out, 0, 0)
/-- Which results there are. -/
def ClsV (ps : List Fn) (fs : List Fr) (c : Bool) (fn : Int) (args : List Int) (r : Bool) (v : Int) (p : Bool) (d : Int) : Prop :=
  (d = 2 ∨ d = 3) ∨ (d = 0 ∧ p = true) ∨ (d = 0 ∧ p = false ∧ c = true ∧ 0 ≤ fn ∧ fn < ps.length ∧ fs.length + 1 < 12 ∧ (args.length : Int) = (ps.getD fn.toNat noFn).1) ∨ (d = 0 ∧ p = false ∧ c = false ∧ r = true) ∨ (d = 0 ∧ p = false ∧ c = false ∧ r = false)
section
variable {base mb g cap : Nat} {t : List U4} {lv sv ov : Value} {fs : List Fr} {ll sl out : List Int} {pa : Option Addr} {pn pc : Nat} {ps : List Fn}
set_option maxHeartbeats 2000000 in
theorem refInstr_any (k a : Int) (xn yn : Nat) (fu : Int) (ok : Ok ps fs (xn : Int) (yn : Int) ll sl k a) : ∃ c fn args r v p d y' ll' sl', ClsV ps fs c fn args r v p d ∧ sl'.length ≤ 9 ∧
    instrV ps fs xn yn ll sl fu out k a = afterV ps fs xn y' ll' sl' fu out c fn args r v p d ∧
    (∀ (w : World) (m : MSt w base mb (.slice (some ⟨g, 0, none⟩) (fs.length + 1) cap) (t ++ [((xn : Int), (yn : Int), lv, sv)]) ov (fs ++ [((xn : Int), (yn : Int), ll, sl)]) out) {w0 : World} (h0 : Below w0.heap.size w0 w) (hb0 : w0.heap.size ≤ base) (hp0 : Fns w0 pa pn pc ps) (hsz : base ≤ w.heap.size),
      Calls Tryz.prog 56 #[.agg #[.slice pa pn pc], .pointer (some ⟨g, fs.length * 4, none⟩), .int .i64 ((fs.length : Int) + 1)] w fun e w' => IPost base mb g cap t xn ov fs out w c fn args r v p d y' ll' sl' e w') := by
  have htk := ok.takes
  have hs8 := ok.stk.2
  have hdp := ok.deep
  unfold instrV
  rcases kinds17 k ok.kind with rfl | rfl | rfl | hk
  · rw [if_pos rfl]
    exact ⟨false, 0, [], false, 0, false, 0, _, _, _, by simp [ClsV], by simp; omega, rfl, fun w m w0 h0 hb0 hp0 hsz => refI_const xn yn w m ok h0 hb0 hp0 hsz⟩
  · rw [if_neg (by decide), if_pos rfl]
    have hlo := ok.loc (.inl rfl)
    obtain ⟨i, rfl⟩ : ∃ i : Nat, a = i := ⟨a.toNat, by omega⟩
    rw [Int.toNat_natCast]
    exact ⟨false, 0, [], false, 0, false, 0, _, _, _, by simp [ClsV], by simp; omega, rfl, fun w m w0 h0 hb0 hp0 hsz => refI_load xn yn w m ok h0 hb0 hp0 hsz (by omega)⟩
  · rw [if_neg (by decide), if_neg (by decide), if_pos rfl]
    have hlo := ok.loc (.inr rfl)
    obtain ⟨i, rfl⟩ : ∃ i : Nat, a = i := ⟨a.toNat, by omega⟩
    obtain ⟨s0, z, rfl, hs0⟩ := snocI (l := sl) (by simp [takesV] at htk; omega)
    rw [Int.toNat_natCast, lastI_snoc, List.dropLast_concat]
    exact ⟨false, 0, [], false, 0, false, 0, _, _, _, by simp [ClsV], by omega, rfl, fun w m w0 h0 hb0 hp0 hsz => refI_store xn yn w m ok h0 hb0 hp0 hsz (by omega)⟩
  by_cases hop : 3 ≤ k ∧ k ≤ 9
  · rw [if_neg (by omega), if_neg (by omega), if_neg (by omega), if_pos hop]
    have et : takesV k (argsOf ps k a) = 2 := by unfold takesV; rw [if_neg (by omega), if_neg (by omega), if_pos hop]
    rw [et] at htk
    obtain ⟨s0, z, rfl, hs0⟩ := snocI (l := sl) (by omega)
    obtain ⟨s1, z1, rfl, hs1⟩ := snocI (l := s0) (by omega)
    simp only [List.dropLast_concat, lastI_snoc]
    cases ht : trapB k z1 z
    · rw [if_neg (by simp)]
      exact ⟨false, 0, [], false, 0, false, 0, _, _, _, by simp [ClsV], by simp; omega, rfl, fun w m w0 h0 hb0 hp0 hsz => refI_op xn yn w m ok h0 hb0 hp0 hsz hop ht⟩
    · rw [if_pos rfl]
      exact ⟨false, 0, [], false, 0, false, 2, (yn : Int) + 1, ll, s1, by simp [ClsV], by omega, rfl, fun w m w0 h0 hb0 hp0 hsz => refI_trap xn yn w m ok h0 hb0 hp0 hsz hop ht⟩
  rcases (show k = 10 ∨ k = 11 ∨ k = 12 ∨ k = 13 ∨ k = 14 ∨ k = 15 ∨ k = 16 by omega) with rfl | rfl | rfl | rfl | rfl | rfl | rfl
  · rw [if_neg (by decide), if_neg (by decide), if_neg (by decide), if_neg (by decide), if_pos rfl]
    obtain ⟨s0, z, rfl, hs0⟩ := snocI (l := sl) (by simp [takesV] at htk; omega)
    rw [lastI_snoc, List.dropLast_concat]
    exact ⟨false, 0, [], false, 0, false, 0, _, _, _, by simp [ClsV], by simp at hs8 ⊢; omega, rfl, fun w m w0 h0 hb0 hp0 hsz => refI_dup xn yn w m ok h0 hb0 hp0 hsz⟩
  · rw [if_neg (by decide), if_neg (by decide), if_neg (by decide), if_neg (by decide), if_neg (by decide), if_pos rfl]
    obtain ⟨s0, z, rfl, hs0⟩ := snocI (l := sl) (by simp [takesV] at htk; omega)
    rw [List.dropLast_concat]
    exact ⟨false, 0, [], false, 0, false, 0, _, _, _, by simp [ClsV], by omega, rfl, fun w m w0 h0 hb0 hp0 hsz => refI_drop xn yn w m ok h0 hb0 hp0 hsz⟩
  · rw [if_neg (by decide), if_neg (by decide), if_neg (by decide), if_neg (by decide), if_neg (by decide), if_neg (by decide), if_pos rfl]
    exact ⟨false, 0, [], false, 0, false, 0, _, _, _, by simp [ClsV], by omega, rfl, fun w m w0 h0 hb0 hp0 hsz => refI_jump xn yn w m ok h0 hb0 hp0 hsz⟩
  · rw [if_neg (by decide), if_neg (by decide), if_neg (by decide), if_neg (by decide), if_neg (by decide), if_neg (by decide), if_neg (by decide), if_pos rfl]
    obtain ⟨s0, z, rfl, hs0⟩ := snocI (l := sl) (by simp [takesV] at htk; omega)
    rw [List.dropLast_concat, lastI_snoc]
    by_cases hz : z = 0
    · subst hz
      rw [if_pos rfl]
      exact ⟨false, 0, [], false, 0, false, 0, _, _, _, by simp [ClsV], by omega, rfl, fun w m w0 h0 hb0 hp0 hsz => refI_zero0 xn yn w m ok h0 hb0 hp0 hsz⟩
    · rw [if_neg hz]
      exact ⟨false, 0, [], false, 0, false, 0, _, _, _, by simp [ClsV], by omega, rfl, fun w m w0 h0 hb0 hp0 hsz => refI_zero1 xn yn w m ok h0 hb0 hp0 hsz hz⟩
  · rw [if_neg (by decide), if_neg (by decide), if_neg (by decide), if_neg (by decide), if_neg (by decide), if_neg (by decide), if_neg (by decide), if_neg (by decide), if_pos rfl]
    have hca := ok.call rfl
    obtain ⟨cf, rfl⟩ : ∃ q : Nat, a = q := ⟨a.toNat, by omega⟩
    have hcf : cf < ps.length := by omega
    have hfn := ver_fn ok.ver hcf (x := (ps.getD cf noFn).1) (y := (ps.getD cf noFn).2.1) (l := (ps.getD cf noFn).2.2) rfl
    have htk' : (ps.getD cf noFn).1 ≤ sl.length := by simpa [takesV, argsOf] using htk
    by_cases h12 : fs.length + 1 = 12
    · rw [if_pos h12]
      exact ⟨false, 0, [], false, 0, false, 3, (yn : Int) + 1, ll, sl, by simp [ClsV], by omega, rfl, fun w m w0 h0 hb0 hp0 hsz => refI_deep xn yn w m ok h0 hb0 hp0 hsz h12⟩
    · rw [if_neg h12, Int.toNat_natCast]
      have hdl : (sl.drop (sl.length - (ps.getD cf noFn).1.toNat)).length = (ps.getD cf noFn).1.toNat := by rw [List.length_drop]; omega
      have hE : (ps.getD cf noFn).1 = ((sl.drop (sl.length - (ps.getD cf noFn).1.toNat)).length : Int) := by rw [hdl]; omega
      have htd : sl.take (sl.length - (ps.getD cf noFn).1.toNat) ++ sl.drop (sl.length - (ps.getD cf noFn).1.toNat) = sl := List.take_append_drop _ _
      refine ⟨true, (cf : Int), sl.drop (sl.length - (ps.getD cf noFn).1.toNat), false, 0, false, 0, (yn : Int) + 1, ll, sl.take (sl.length - (ps.getD cf noFn).1.toNat), ?_, by rw [List.length_take]; omega, by simp [afterV], fun w m w0 h0 hb0 hp0 hsz => ?_⟩
      · exact .inr (.inr (.inl ⟨rfl, rfl, rfl, by omega, by omega, by omega, by rw [Int.toNat_natCast]; exact hE.symm⟩))
      · refine refI_call (s0 := sl.take (sl.length - (ps.getD cf noFn).1.toNat)) (ag := sl.drop (sl.length - (ps.getD cf noFn).1.toNat)) xn yn w (by rw [htd]; exact m) (by rw [htd]; exact ok) h0 hb0 hp0 hsz h12 hE
  · rw [if_neg (by decide), if_neg (by decide), if_neg (by decide), if_neg (by decide), if_neg (by decide), if_neg (by decide), if_neg (by decide), if_neg (by decide), if_neg (by decide), if_pos rfl]
    obtain ⟨s0, z, rfl, hs0⟩ := snocI (l := sl) (by simp [takesV] at htk; omega)
    rw [List.dropLast_concat, lastI_snoc]
    exact ⟨false, 0, [], false, z, true, 0, _, _, _, by simp [ClsV], by omega, rfl, fun w m w0 h0 hb0 hp0 hsz => refI_print xn yn w m ok h0 hb0 hp0 hsz⟩
  · rw [if_neg (by decide), if_neg (by decide), if_neg (by decide), if_neg (by decide), if_neg (by decide), if_neg (by decide), if_neg (by decide), if_neg (by decide), if_neg (by decide), if_neg (by decide)]
    obtain ⟨s0, z, rfl, hs0⟩ := snocI (l := sl) (by simp [takesV] at htk; omega)
    rw [lastI_snoc]
    exact ⟨false, 0, [], true, z, false, 0, (yn : Int) + 1, ll, s0, by simp [ClsV], by omega, rfl, fun w m w0 h0 hb0 hp0 hsz => refI_ret xn yn w m ok h0 hb0 hp0 hsz⟩
end

end Go.Proofs.YtcngmkbgcfhmdaaGreatDoor

namespace Go.Proofs.YtcngmkbgcfhmdaaGreatDoor
open Go.RowKit
set_option linter.unusedVariables false

set_option maxHeartbeats 2000000 in
theorem refOver_any (fv : Value) (fa : Option Addr) (fn fc : Nat) (hfv : fv = .slice fa fn fc) (fu : Int) (oa : Option Addr) (on oc : Nat) (dn vl d z : Int) (w : World) :
    Calls Tryz.prog 55 #[.agg #[fv, .int .i64 fu, .slice oa on oc, .int .i64 dn, .int .i64 vl], .int .i64 d, .int .i64 z] w fun e w' => e = .returned (.agg #[.slice none 0 0, .int .i64 fu, .slice oa on oc, .int .i64 d, .int .i64 z]) ∧ Below w.heap.size w w' := by
  subst hfv
  have B : Hid (Below w.heap.size w ((w.alloc (.cells #[.slice none 0 0, .int .i64 fu, .slice oa on oc, .int .i64 d, .int .i64 z] 28)).alloc (.cells #[.slice none 0 0, .int .i64 fu, .slice oa on oc, .int .i64 d, .int .i64 z] 28))) := hid (Below.alloc (Below.alloc (Below.refl _ _) (Nat.le_refl _) _) (by simp) _)
  go_enter Tryz.func55, Tryz.ntmps55
  go_wp2_with fail
  refine bodyPost_ret (v := .agg #[.slice none 0 0, .int .i64 fu, .slice oa on oc, .int .i64 d, .int .i64 z]) (by simp [results, Tryz.results55, go_sem]) rfl ⟨rfl, ?_⟩
  simpa [go_sem] using B.out

set_option maxRecDepth 100000 in
set_option maxHeartbeats 4000000 in
theorem refCopyFrame_any (x y : Int) (la : Option Addr) (ln lc : Nat) (ll : List Int) (sa : Option Addr) (sn sc : Nat) (sl : List Int) (w : World) (h1 : Ints w la ln lc ll) (h2 : Ints w sa sn sc sl) :
    Calls Tryz.prog 59 #[.agg #[.int .i64 x, .int .i64 y, .slice la ln lc, .slice sa sn sc]] w fun e w' => ∃ a1 n1 m1 a2 n2 m2, e = .returned (.agg #[.int .i64 x, .int .i64 y, .slice a1 n1 m1, .slice a2 n2 m2]) ∧
      Row1 w' w.heap.size (.slice a1 n1 m1) ll ∧ Row1 w' w.heap.size (.slice a2 n2 m2) sl ∧ (∀ b, (Value.slice a2 n2 m2).ownBlock = some b → (Value.slice a1 n1 m1).ownBlock ≠ some b) ∧ Below w.heap.size w w' := by
  have W2 : Hid (∃ w2 : World, w2 = (w.alloc (.cells #[.int .i64 x, .int .i64 y, .slice la ln lc, .slice sa sn sc] 51)).alloc (.cells #[.int .i64 0, .int .i64 0, .slice none 0 0, .slice none 0 0] 51)) := hid ⟨_, rfl⟩
  obtain ⟨w2, hw2⟩ := W2.out
  have hs2 : w2.heap.size = w.heap.size + 1 + 1 := by rw [hw2]; simp
  have B2 : Hid (Below w.heap.size w w2) := hid (by rw [hw2]; exact Below.alloc (Below.alloc (Below.refl _ _) (Nat.le_refl _) _) (by simp) _)
  have F2 : Hid (FX w2 w.heap.size x y (.slice la ln lc) (.slice sa sn sc)) := hid (by rw [hw2]; exact ⟨by simp [go_sem], by simp [go_sem], by simp [go_sem], by simp [go_sem], by simp [go_sem], by simp [go_sem]⟩)
  have Z2 : Hid (Z4 w2 (w.heap.size + 1)) := hid (by rw [hw2]; exact ⟨by simp [go_sem], by simp [go_sem], by simp [go_sem], by simp [go_sem], by simp [go_sem], by simp [go_sem], by simp [go_sem], by simp [go_sem]⟩)
  have I1 := hid (h1.kept B2.out)
  have I0 := hid h2
  have HR := hid (And.intro (show ll.length * 8 ≤ 140737488351232 by rw [← h1.len]; exact h1.room) (show sl.length * 8 ≤ 140737488351232 by rw [← h2.len]; exact h2.room))
  have E2 := hid hw2
  have HS2 := hid hs2
  have ldA : (w2.alloc (.cells #[] 3)).cell? ⟨w.heap.size, 2, none⟩ = some (.slice la ln lc) := kept_cell (Below.alloc (Below.refl _ _) (Nat.le_refl _) _) F2.out.c2
  clear h1 h2 hw2 W2 hs2
  go_enter Tryz.func59, Tryz.ntmps59
  go_wp2_with (first
    | (at_builtin; refine wpList_copyI w2 _ rfl _ _ rfl (by rw [E2.out]) (w.heap.size + 1 + 1) HS2.out rfl _ _ _ ll rfl I1.out ?_; intro a1 n1 m1 w3 o1 b1; have b1' : Below w2.heap.size w2 w3 := (by rw [HS2.out]; exact b1); have F3 := F2.out.kept b1'; have x2 := F3.c2; have xf2 := F3.f2; have P3 := hid (F3.set2 (.slice a1 n1 m1)); have ldB := kept_cell (Below.alloc (Below.refl _ _) (Nat.le_refl _) (.cells #[] 3)) P3.out.c3; have O1 := hid o1; have B3 : Hid (Below w.heap.size w (w3.setCell ⟨w.heap.size, 2, none⟩ (.slice a1 n1 m1))) := hid ((kt B2.out b1').setCell (by simp) _); have I3 : Hid (Ints (w3.setCell ⟨w.heap.size, 2, none⟩ (.slice a1 n1 m1)) sa sn sc sl) := hid (I0.out.kept B3.out); have Z3 := hid ((Z2.out.frm (Frm.of_below (S := fun k => k = w.heap.size) b1') (by omega)).frm (Frm.set (S := fun k => k = w.heap.size) (p := ⟨w.heap.size, 2, none⟩) (.slice a1 n1 m1) rfl) (by omega)); have hs3 : w.heap.size + 1 + 1 ≤ w3.heap.size := (by have := b1'.size; rw [HS2.out] at this; exact this); clear o1 b1 b1' F3)
    | (at_builtin; refine wpList_copyI (w3.setCell ⟨w.heap.size, 2, none⟩ (.slice a1 n1 m1)) _ rfl _ _ rfl rfl w3.heap.size (by simp) rfl _ _ _ sl rfl I3.out ?_; intro a2 n2 m2 w4 o2 b2; have b2' : Below (w3.setCell ⟨w.heap.size, 2, none⟩ (.slice a1 n1 m1)).heap.size (w3.setCell ⟨w.heap.size, 2, none⟩ (.slice a1 n1 m1)) w4 := (by simpa using b2); have F4 := P3.out.kept b2'; have y3 := F4.c3; have yf3 := F4.f3; have P4 := hid (F4.set3 (.slice a2 n2 m2)); obtain ⟨k0, k1, k2, k3, _, _⟩ := P4.out; have Z4' := ((Z3.out.frm (Frm.of_below (S := fun k => k = w.heap.size) b2') (by omega)).frm (Frm.set (S := fun k => k = w.heap.size) (p := ⟨w.heap.size, 3, none⟩) (.slice a2 n2 m2) rfl) (by omega)); obtain ⟨c0, c1, c2, c3, f0, f1, f2, f3⟩ := Z4'; have PP := hid (And.intro o2 b2'); clear o2 b2 b2' F4 x2 xf2 ldA ldB))
  refine bodyPost_ret (v := .agg #[.int .i64 x, .int .i64 y, .slice a1 n1 m1, .slice a2 n2 m2]) (by simp [results, Tryz.results59, go_sem, c0, c1, c2, c3]) rfl ⟨_, _, _, _, _, _, rfl, ?_, ?_, ?_, ?_⟩
  · exact ⟨HR.out.1, owns_base (owns_set (owns_set (owns_set (owns_set (owns_set (owns_kept (owns_set O1.out ⟨w.heap.size, 2, none⟩ _ (by simp; omega)) PP.out.2) ⟨w.heap.size, 3, none⟩ _ (by simp; omega)) ⟨w.heap.size + 1, 0, none⟩ _ (by simp)) ⟨w.heap.size + 1, 1, none⟩ _ (by simp)) ⟨w.heap.size + 1, 2, none⟩ _ (by simp)) ⟨w.heap.size + 1, 3, none⟩ _ (by simp)) (by omega)⟩
  · exact ⟨HR.out.2, owns_base (owns_set (owns_set (owns_set (owns_set (owns_set PP.out.1 ⟨w.heap.size, 3, none⟩ _ (by simp; omega)) ⟨w.heap.size + 1, 0, none⟩ _ (by simp; omega)) ⟨w.heap.size + 1, 1, none⟩ _ (by simp; omega)) ⟨w.heap.size + 1, 2, none⟩ _ (by simp; omega)) ⟨w.heap.size + 1, 3, none⟩ _ (by simp; omega)) (by omega)⟩
  · intro b hb e
    have h1 := (O1.out.lt b e).2
    have h2 := (PP.out.1.lt b hb).1
    omega
  · have h := ((kt B3.out PP.out.2).setCell (p := ⟨w.heap.size, 3, none⟩) (by simp) (.slice a2 n2 m2))
    exact (((h.setCell (p := ⟨w.heap.size + 1, 0, none⟩) (by simp) _).setCell (p := ⟨w.heap.size + 1, 1, none⟩) (by simp) _).setCell (p := ⟨w.heap.size + 1, 2, none⟩) (by simp) _).setCell (p := ⟨w.heap.size + 1, 3, none⟩) (by simp) _

end Go.Proofs.YtcngmkbgcfhmdaaGreatDoor

namespace Go.Proofs.YtcngmkbgcfhmdaaGreatDoor
open Go.RowKit
set_option linter.unusedVariables false

/-- What is so while the document copies frames. -/
structure CopyInvR (w : World) (fn : Nat) (fs : List Fr) (fu : Int) (oa : Option Addr) (on oc : Nat) (dn vl : Int) (i : Value) (wr : World) : Prop where
  ex : ∃ (q : Nat) (t : List U4) (va : Option Addr) (vn vc : Nat), q ≤ fn ∧ i = .int .i64 q ∧ MSt wr (w.heap.size + 2) w.heap.size (.slice va vn vc) t (.slice none 0 0) (fs.take q) [] ∧
    SX wr w.heap.size (.slice va vn vc) fu (.slice oa on oc) dn vl ∧ Z5 wr (w.heap.size + 1) ∧ Below w.heap.size w wr ∧ w.heap.size + 2 ≤ wr.heap.size

attribute [local go_sem ↓] Go.wp_at_zero Go.wp_at_succ in
set_option maxRecDepth 100000 in
set_option maxHeartbeats 8000000 in
theorem refCopy_any (fa : Option Addr) (fn fc : Nat) (fs : List Fr) (fu : Int) (oa : Option Addr) (on oc : Nat) (os : List Int) (dn vl : Int) (w : World) (hf : Frs w fa fn fc fs) (ho : Ints w oa on oc os) :
    Calls Tryz.prog 31 #[.agg #[.slice fa fn fc, .int .i64 fu, .slice oa on oc, .int .i64 dn, .int .i64 vl]] w fun e w' => ∃ va vn vc t oa' on' oc', e = .returned (.agg #[.slice va vn vc, .int .i64 fu, .slice oa' on' oc', .int .i64 dn, .int .i64 vl]) ∧
      MSt w' (w.heap.size + 2) w.heap.size (.slice va vn vc) t (.slice oa' on' oc') fs os ∧ Below w.heap.size w w' ∧ w.heap.size + 2 ≤ w'.heap.size := by
  obtain ⟨i0, hi, hz0, hz1, hz2⟩ := info_parts Tryz.infoFrame
  have L := hid hf.len
  have hr := hf.room
  have hcp := hf.cap
  have HF := hid hf
  have HO := hid ho
  clear hf ho
  have W3 : Hid (∃ w3 : World, w3 = (w.alloc (.cells #[.slice none 0 0, .int .i64 fu, .slice oa on oc, .int .i64 dn, .int .i64 vl] 28)).alloc (.cells #[.slice none 0 0, .int .i64 0, .slice none 0 0, .int .i64 0, .int .i64 0] 28)) := hid ⟨_, rfl⟩
  obtain ⟨w3, hw3⟩ := W3.out
  have hs3 : w3.heap.size = w.heap.size + 2 := by rw [hw3]; simp
  have B3 : Hid (Below w.heap.size w w3) := hid (by rw [hw3]; exact Below.alloc (Below.alloc (Below.refl _ _) (Nat.le_refl _) _) (by simp) _)
  have Z3 : Hid (Z5 w3 (w.heap.size + 1)) := hid (by rw [hw3]; exact ⟨by simp [go_sem], by simp [go_sem], by simp [go_sem], by simp [go_sem], by simp [go_sem], by simp [go_sem], by simp [go_sem], by simp [go_sem], by simp [go_sem], by simp [go_sem]⟩)
  have S3 : Hid (SX w3 w.heap.size (.slice none 0 0) fu (.slice oa on oc) dn vl) := hid (by rw [hw3]; exact ⟨by simp [go_sem], by simp [go_sem], by simp [go_sem], by simp [go_sem], by simp [go_sem], by simp [go_sem], by simp [go_sem]⟩)
  have E3 := hid hw3
  have HS3 := hid hs3
  clear hw3 W3 hs3
  go_enter Tryz.func31, Tryz.ntmps31
  go_wp2_with fail
  refine wp_world (U := w3) (by rw [E3.out]) ?_
  go_loopw [4] (fun i wr => CopyInvR w fn fs fu oa on oc dn vl i wr) (fun i _ => fn - (intOf i).toNat)
  case atStart => exact ⟨0, [], none, 0, 0, Nat.zero_le _, rfl, MSt.nil ⟨by simp, World.ownsRow_nil _ _ _ _⟩ (by rw [HS3.out]; omega) (by simp [Value.ownBlock]), S3.out, Z3.out, B3.out, by rw [HS3.out]; exact Nat.le_refl _⟩
  case round =>
    clear Z3 S3 B3 E3 HS3
    obtain ⟨q, t, va, vn, vc, hq, rfl, m, sx, z5, hb, hsz⟩ := hrel.ex
    clear hrel
    by_cases hlt : q < fn
    · have hD : Below wr.heap.size wr wr.drew := Below.drew (Below.refl _ _)
      obtain ⟨b0, o0, x, y, la, ln, lc, ll, sa, sn, sc, sl, ha', e0, c0, c1, c2, c3, i1, i2⟩ := (HF.out.kept (kt hb hD)).at q hlt
      subst ha'
      have I1 := hid i1
      have I2 := hid i2
      have E0 := hid e0
      have sx' := sx.kept hD
      have s0 := sx'.c0
      have RR := hid (And.intro (m.kept hD) (And.intro (z5.kept hD) sx'))
      have hlen : (fs.take q).length = q := by rw [List.length_take]; have := L.out; omega
      have HL := hid hlen
      have HB := hid (kt hb hD)
      have hszd : w.heap.size + 2 ≤ wr.drew.heap.size := by have := hD.size; omega
      have HZ := hid hszd
      clear hD i1 i2 e0 z5 sx m hlen hb sx' hszd
      go_wp2_with fail
      go_region_law (first
        | (go_simp; go_at_call 59; refine (refCopyFrame_any x y _ _ _ ll _ _ _ sl _ I1.out I2.out).mono ?_; rintro e w1 ⟨a1, n1, m1, a2, n2, m2, rfl, r1, r2, ap, b1⟩; have d0 := kept_cell b1 RR.out.2.2.c0; have M1 := hid (RR.out.1.kept b1); have hA : Below w1.heap.size w1 (w1.alloc (.cells #[.int .i64 x, .int .i64 y, .slice a1 n1 m1, .slice a2 n2 m2] 51)) := Below.alloc (Below.refl _ _) (Nat.le_refl _) _; have d1 := kept_cell hA d0; have A1 := hid hA; have X1 := hid ((RR.out.2.2.kept b1).kept hA); have OW : Hid ((w1.alloc (.cells #[.int .i64 x, .int .i64 y, .slice a1 n1 m1, .slice a2 n2 m2] 51)).ownsRow (w.heap.size + 2) 51 4 (.slice va vn vc) q (flat4 t)) := hid (by have := (M1.out.kept hA).own; rw [HL.out] at this; exact this); have HN : Hid (some w.heap.size ≠ (Value.slice va vn vc).ownBlock) := hid (fun e => M1.out.vm e.symm); have R1 := hid (And.intro r1 (And.intro r2 (And.intro ap b1))); have hs1 := b1.size; clear r1 r2 ap b1 hA)
        | (refine step_append_lies _ rfl (.tmp 15) (.tmp 21) 25 rfl (w.heap.size + 2) 51 i0 (.agg #[.int .i64 0, .int .i64 0, .slice none 0 0, .slice none 0 0]) 4 64 Tryz.underlying25 hi hz0 hz1 hz2 rfl (by decide) (.slice va vn vc) q (flat4 t) (by simp [Act.eval]) OW.out ⟨w1.heap.size, 0, none⟩ 1 1 [.int .i64 x, .int .i64 y, .slice a1 n1 m1, .slice a2 n2 m2] (by simp [Act.eval]) rfl (news_of rfl _ 51) (by intro u hu; simp at hu; rcases hu with rfl | rfl | rfl | rfl <;> rfl) (by decide) (by unfold maxLen; omega) (by omega) (by simp; have := HZ.out; omega) (w1.heap.size + 1) (by simp) ?_; intro g cap w6 ho6 hg6 hat hlt6; have q2 := hg6.cell X1.out.c0 HN.out; have qf2 := (hg6.frozen_far ⟨w.heap.size, 0, none⟩ (lt_of_cell X1.out.c0) HN.out).trans X1.out.f0; have P := hid (And.intro ho6 (And.intro hg6 hat)); clear ho6 hg6 hat hlt6))
      all_goals
        go_wp2_with fail
        go_roundw
        case rel =>
          obtain ⟨p1, p2, p3⟩ := P.out
          obtain ⟨r1, r2, ap, b1⟩ := R1.out
          have fr6 : Frm (fun k => (Value.slice va vn vc).ownBlock = some k) (w1.alloc (.cells #[.int .i64 x, .int .i64 y, .slice a1 n1 m1, .slice a2 n2 m2] 51)) w6 := Frm.of_grown p2 (fun k h => h)
          have nb : ∀ b, b < w.heap.size + 2 → ¬ (Value.slice va vn vc).ownBlock = some b := fun b hb h => by have := (OW.out.lt _ h).1; omega
          have inb := RR.out.1.inB
          have hzz := HZ.out
          have r1' : Row1 w1 (w.heap.size + 2) (.slice a1 n1 m1) ll := ⟨r1.1, owns_base r1.2 hzz⟩
          have r2' : Row1 w1 (w.heap.size + 2) (.slice a2 n2 m2) sl := ⟨r2.1, owns_base r2.2 hzz⟩
          have ms := MSt.snoc (x := x) (y := y) (ll := ll) (sl := sl) (lv := .slice a1 n1 m1) (sv := .slice a2 n2 m2) (B := wr.drew.heap.size) (M1.out.kept A1.out) (r1'.frm (Frm.of_below (S := fun _ => False) A1.out) (fun _ _ k => k)) (r2'.frm (Frm.of_below (S := fun _ => False) A1.out) (fun _ _ k => k))
            (fun u hu b hb => inb u (by simp at hu ⊢; exact .inr hu) b hb) RR.out.1.hm (fun b hb => (r1.2.lt b hb).1) (fun b hb => ⟨(r2.2.lt b hb).1, ap b hb⟩) (v' := .slice (some ⟨g, 0, none⟩) (q + 1) cap) (w' := w6) (by rw [HL.out]; exact p1) fr6 (fun b hb => by
              cases hb
              rcases p3 with e | e
              · exact .inl e
              · right; show _ ≤ g; rw [e]; simp)
          have B26 := kt b1 A1.out
          have fs7 : Frm (fun k => k = w.heap.size) w6 (w6.setCell ⟨w.heap.size, 0, none⟩ (.slice (some ⟨g, 0, none⟩) (q + 1) cap)) := Frm.set _ rfl
          refine ⟨q + 1, _, _, _, _, by omega, by go_num, by rw [take_snoc_getD (by have := L.out; omega) E0.out]; exact ms.setM 0 _, (X1.out.frm fr6 (nb _ (by omega))).set0 _, (((RR.out.2.1.kept B26).frm fr6 (nb _ (by omega))).frm fs7 (by omega)), ?_, by have := fr6.size; have := B26.size; simp; omega⟩
          exact (Below.trans (kt HB.out B26) (fr6.below (by have := B26.size; have := HB.out.size; omega) (fun k hk => nb k (by omega)))).setCell (by simp) _
        case measure => simp [intOf]; omega
    · have hqn : q = fn := by omega
      subst hqn
      rw [List.take_of_length_le (by have := L.out; omega)] at m
      have X1 := hid sx
      have M1 := hid m
      have Z1 := hid z5
      have B1 := hid hb
      have ldA : (wr.alloc (.cells #[] 3)).cell? ⟨w.heap.size, 2, none⟩ = some (.slice oa on oc) := kept_cell (Below.alloc (Below.refl _ _) (Nat.le_refl _) _) sx.c2
      have I5 := hid (HO.out.kept hb)
      have HR5 : Hid (os.length * 8 ≤ 140737488351232) := hid (by rw [← HO.out.len]; exact HO.out.room)
      clear m sx z5 hb
      go_wp2_with (at_builtin; refine wpList_copyI wr _ rfl _ _ rfl rfl wr.heap.size rfl rfl _ _ _ os rfl I5.out ?_; intro a5 n5 m5 w5 o5 b5; have X5 := X1.out.kept b5; have x52 := X5.c2; have x5f := X5.f2; have X6 := hid (X5.set2 (.slice a5 n5 m5)); obtain ⟨g0, g1, g2, g3, g4, _, _⟩ := X6.out; have Z6 := (Z1.out.kept b5).frm (Frm.set (S := fun k => k = w.heap.size) (p := ⟨w.heap.size, 2, none⟩) (.slice a5 n5 m5) rfl) (by omega); obtain ⟨c0, c1, c2, c3, c4, f0, f1, f2, f3, f4⟩ := Z6; have hs5 := b5.size; have PP := hid b5; have M5 : Hid (MSt w5 (w.heap.size + 2) w.heap.size (.slice va vn vc) t (.slice a5 n5 m5) fs os) := hid (M1.out.setOut (Frm.of_below b5) ⟨HR5.out, owns_base o5 (by omega)⟩ (fun b hb => .inr (o5.lt b hb).1)); clear o5 b5 X5 ldA)
      refine bodyPost_ret (v := .agg #[.slice va vn vc, .int .i64 fu, .slice a5 n5 m5, .int .i64 dn, .int .i64 vl]) (by simp [results, Tryz.results31, go_sem, c0, c1, c2, c3, c4]) rfl ⟨_, _, _, t, _, _, _, rfl, ?_, ?_, ?_⟩
      · have key : ∀ (u : World) (o : Nat) (z : Value), MSt u (w.heap.size + 2) w.heap.size (.slice va vn vc) t (.slice a5 n5 m5) fs os → MSt (u.setCell ⟨w.heap.size + 1, o, none⟩ z) (w.heap.size + 2) w.heap.size (.slice va vn vc) t (.slice a5 n5 m5) fs os :=
          fun u o z h => h.frm (S := fun b => b = w.heap.size + 1) (Frm.set _ rfl) (fun b _ _ hb e => by omega)
        exact key _ _ _ (key _ _ _ (key _ _ _ (key _ _ _ (key _ _ _ (M5.out.setM 2 _)))))
      · exact below5 ((kt B1.out PP.out).setCell (by simp) _) (by omega) _ _ _ _ _
      · simp; omega

end Go.Proofs.YtcngmkbgcfhmdaaGreatDoor
