/- A state that runs, in memory of its own: its frames in a row, each with a row of locals and a stack, what it printed in another, no two in one block. Nothing of the program is named here but types' numbers. Package step: put, take, top, end, copyOfList. One instruction, reckoned: what comes of a state. Nothing of the program is named here. Package step: a machine that runs; operate and ret. Package step: call. Package step: an instruction's doing, kind by kind. Package step: InsPrint. From a state that may be a step leads to one that may be. Nothing of the program is named here. Package step: an instruction, and a step of the machine. Package step: copyOfState and Step. Package machine: New and State. Package step: Step. The opening question of the statements over steps (awake) is answered yes. What the statements over steps lean on: Begins; what a step keeps. -/
import Derived.Test.YtcngmkbgcfhmdaaGreatDoorMemFr
import Derived.Test.YtcngmkbgcfhmdaaGreatDoorJ4
import Derived.Laws.AppendOwnNone
import Derived.Deep.AppendLies
import Derived.Test.YtcngmkbgcfhmdaaGreatDoorPlainFrame
import Derived.Test.YtcngmkbgcfhmdaaGreatDoorDo
import Derived.Test.YtcngmkbgcfhmdaaGreatDoorJ6b
import Derived.Test.YtcngmkbgcfhmdaaGreatDoorLawInts
import Derived.Deep.OwnRows
import Derived.Deep.RegionLaw
import Derived.Deep.DrawnRows
import Derived.Deep.RegionHeld3
namespace Go.Proofs.YtcngmkbgcfhmdaaGreatDoor
open Go.RowKit
set_option linter.unusedVariables false

/-- A row of numbers of the call's own. -/
def Row1 (w : World) (base : Nat) (v : Value) (l : List Int) : Prop := l.length * 8 ≤ 140737488351232 ∧ w.ownsRow base 3 1 v l.length (ints l)
/-- Rows of numbers, no two of them in one block, none in block mb. -/
def Rows (w : World) (base mb : Nat) : List Value → List (List Int) → Prop
  | [], [] => True
  | v :: vs, l :: ls => Row1 w base v l ∧ (∀ b, v.ownBlock = some b → b ≠ mb ∧ ∀ u ∈ vs, u.ownBlock ≠ some b) ∧ Rows w base mb vs ls
  | _, _ => False
theorem Row1.frm {S : Nat → Prop} {w w' : World} {base : Nat} {v : Value} {l : List Int} (h : Row1 w base v l) (hf : Frm S w w') (hS : ∀ b, v.ownBlock = some b → ¬ S b) : Row1 w' base v l := ⟨h.1, hf.owns h.2 hS⟩
theorem Rows.frm {S : Nat → Prop} {w w' : World} {base mb : Nat} (hf : Frm S w w') : ∀ {vs : List Value} {ls : List (List Int)}, Rows w base mb vs ls → (∀ u ∈ vs, ∀ b, u.ownBlock = some b → ¬ S b) → Rows w' base mb vs ls
  | [], [], _, _ => trivial
  | v :: vs, l :: ls, h, hS => ⟨h.1.frm hf (hS v (by simp)), h.2.1, Rows.frm hf h.2.2 (fun u hu => hS u (by simp [hu]))⟩
  | [], _ :: _, h, _ => h.elim
  | _ :: _, [], h, _ => h.elim
/-- Where the rows are. -/
theorem Rows.lt {w : World} {base mb : Nat} : ∀ {vs : List Value} {ls : List (List Int)}, Rows w base mb vs ls → ∀ u ∈ vs, ∀ b, u.ownBlock = some b → b < w.heap.size ∧ base ≤ b ∧ b ≠ mb ∧ ∃ cur, w.heap[b]? = some (.cells cur 3 (0, 0))
  | [], [], _, u, hu, _, _ => by cases hu
  | v :: vs, l :: ls, h, u, hu, b, hb => by
    rcases List.mem_cons.1 hu with rfl | hu
    · have h1 := h.1.2.lt b hb
      refine ⟨h1.2, h1.1, (h.2.1 b hb).1, ?_⟩
      rcases h.1.2.2 with ⟨rfl, _⟩ | ⟨g, cap, cur, rfl, _, hg, _⟩
      · cases hb
      · cases hb; exact ⟨cur, hg⟩
    · exact Rows.lt h.2.2 u hu b hb
  | [], _ :: _, h, _, _, _, _ => h.elim
  | _ :: _, [], h, _, _, _, _ => h.elim
theorem Rows.swap {w : World} {base mb : Nat} {a b : Value} {vs : List Value} {l m : List Int} {ls : List (List Int)} (h : Rows w base mb (a :: b :: vs) (l :: m :: ls)) : Rows w base mb (b :: a :: vs) (m :: l :: ls) := by
  obtain ⟨h1, h2, h3, h4, h5⟩ := h
  refine ⟨h3, fun k hk => ⟨(h4 k hk).1, fun u hu => ?_⟩, h1, fun k hk => ⟨(h2 k hk).1, fun u hu => (h2 k hk).2 u (by simp [hu])⟩, h5⟩
  rcases List.mem_cons.1 hu with rfl | hu
  · exact fun e => (h2 k e).2 b (by simp) hk
  · exact (h4 k hk).2 u hu
theorem Rows.swap2 {w : World} {base mb : Nat} {a b c : Value} {vs : List Value} {l m n : List Int} {ls : List (List Int)} (h : Rows w base mb (a :: b :: c :: vs) (l :: m :: n :: ls)) : Rows w base mb (a :: c :: b :: vs) (l :: n :: m :: ls) :=
  ⟨h.1, fun k hk => ⟨(h.2.1 k hk).1, fun u hu => (h.2.1 k hk).2 u (by simp at hu ⊢; rcases hu with h | h | h <;> simp [h])⟩, Rows.swap h.2.2⟩
/-- The first row is another one, in its block or in a new one. -/
theorem Rows.head {w w' : World} {base mb : Nat} {v v' : Value} {vs : List Value} {l l' : List Int} {ls : List (List Int)} (h : Rows w base mb (v :: vs) (l :: ls)) (hm : mb < w.heap.size) (hf : Frm (fun b => v.ownBlock = some b) w w')
    (hr : Row1 w' base v' l') (hn : ∀ b, v'.ownBlock = some b → v.ownBlock = some b ∨ w.heap.size ≤ b) : Rows w' base mb (v' :: vs) (l' :: ls) := by
  have hS : ∀ u ∈ vs, ∀ b, u.ownBlock = some b → ¬ v.ownBlock = some b := fun u hu b hb e => (h.2.1 b e).2 u hu hb
  refine ⟨hr, fun b hb => ?_, h.2.2.frm hf hS⟩
  rcases hn b hb with h1 | h1
  · exact h.2.1 b h1
  · refine ⟨by omega, fun u hu e => ?_⟩
    have := (h.2.2.lt u hu b e).1
    omega
/-- One row more. -/
theorem Rows.cons {w : World} {base mb : Nat} {v : Value} {vs : List Value} {l : List Int} {ls : List (List Int)} (h : Rows w base mb vs ls) (hr : Row1 w base v l) (hn : ∀ b, v.ownBlock = some b → b ≠ mb ∧ ∀ u ∈ vs, u.ownBlock ≠ some b) : Rows w base mb (v :: vs) (l :: ls) := ⟨hr, hn, h⟩

abbrev U4 := Int × Int × Value × Value
/-- The rows of frames, the last frame's first. -/
def rowsR : List U4 → List Value
  | [] => []
  | p :: r => p.2.2.2 :: p.2.2.1 :: rowsR r
def listsR : List Fr → List (List Int)
  | [] => []
  | p :: r => p.2.2.2 :: p.2.2.1 :: listsR r
theorem Rows.at {w : World} {base mb : Nat} : ∀ {t : List U4} {l : List Fr}, Rows w base mb (rowsR t) (listsR l) → ∀ i, i < l.length → Row1 w base (t.getD i noU).2.2.1 (l.getD i noFr).2.2.1 ∧ Row1 w base (t.getD i noU).2.2.2 (l.getD i noFr).2.2.2
  | [], [], _, i, hi => by simp at hi
  | p :: t, f :: l, h, 0, _ => ⟨h.2.2.1, h.1⟩
  | p :: t, f :: l, h, i + 1, hi => Rows.at (t := t) (l := l) h.2.2.2.2 i (by simpa using hi)
  | [], _ :: _, h, _, _ => h.elim
  | _ :: _, [], h, _, _ => h.elim
theorem flat4_snoc_set (t : List U4) (x y : Int) (a b : Value) (u : Value) :
    (flat4 (t ++ [(x, y, a, b)])).set (t.length * 4 + 3) u = flat4 (t ++ [(x, y, a, u)]) ∧ (flat4 (t ++ [(x, y, a, b)])).set (t.length * 4 + 2) u = flat4 (t ++ [(x, y, u, b)]) := by
  rw [flat4_app, flat4_app, flat4_app]
  constructor
  · rw [List.set_append_right _ _ (by rw [flat4_len]; omega), flat4_len, show t.length * 4 + 3 - t.length * 4 = 3 by omega]; rfl
  · rw [List.set_append_right _ _ (by rw [flat4_len]; omega), flat4_len, show t.length * 4 + 2 - t.length * 4 = 2 by omega]; rfl
theorem flat4_snoc_pc (t : List U4) (x y : Int) (a b : Value) (z : Int) : (flat4 (t ++ [(x, y, a, b)])).set (t.length * 4 + 1) (.int .i64 z) = flat4 (t ++ [(x, z, a, b)]) := by
  rw [flat4_app, flat4_app]
  rw [List.set_append_right _ _ (by rw [flat4_len]; omega), flat4_len, show t.length * 4 + 1 - t.length * 4 = 1 by omega]; rfl

/-- A state's lists, in blocks of its own from base on, none of them mb. -/
structure MSt (w : World) (base mb : Nat) (v : Value) (t : List U4) (ov : Value) (fs : List Fr) (out : List Int) : Prop where
  heads : t.map (fun p => (p.1, p.2.1)) = fs.map (fun f => (f.1, f.2.1))
  own : w.ownsRow base 51 4 v fs.length (flat4 t)
  rows : Rows w base mb (ov :: rowsR t.reverse) (out :: listsR fs.reverse)
  hm : mb < w.heap.size
  vm : v.ownBlock ≠ some mb
theorem MSt.len {w : World} {base mb : Nat} {v : Value} {t : List U4} {ov : Value} {fs : List Fr} {out : List Int} (h : MSt w base mb v t ov fs out) : t.length = fs.length := by
  have := congrArg List.length h.heads; simpa using this
theorem MSt.frm {S : Nat → Prop} {w w' : World} {base mb : Nat} {v : Value} {t : List U4} {ov : Value} {fs : List Fr} {out : List Int} (h : MSt w base mb v t ov fs out) (hf : Frm S w w') (hS : ∀ b, b < w.heap.size → b ≠ mb → base ≤ b → ¬ S b) : MSt w' base mb v t ov fs out :=
  ⟨h.heads, hf.owns h.own (fun b hb => hS b (h.own.lt b hb).2 (fun e => h.vm (by rw [hb, e])) (h.own.lt b hb).1), h.rows.frm hf (fun u hu b hb => hS b (h.rows.lt u hu b hb).1 (h.rows.lt u hu b hb).2.2.1 (h.rows.lt u hu b hb).2.1), by have := hf.size; have := h.hm; omega, h.vm⟩
theorem MSt.kept {w w' : World} {base mb : Nat} {v : Value} {t : List U4} {ov : Value} {fs : List Fr} {out : List Int} (h : MSt w base mb v t ov fs out) (hb : Below w.heap.size w w') : MSt w' base mb v t ov fs out :=
  h.frm (Frm.of_below (S := fun _ => False) hb) (fun _ _ _ _ k => k)
theorem MSt.setM {w : World} {base mb : Nat} {v : Value} {t : List U4} {ov : Value} {fs : List Fr} {out : List Int} (h : MSt w base mb v t ov fs out) (o : Nat) (u : Value) : MSt (w.setCell ⟨mb, o, none⟩ u) base mb v t ov fs out :=
  h.frm (S := fun b => b = mb) (Frm.set _ rfl) (fun b _ hn _ e => hn e)
theorem MSt.rowNe {w : World} {base mb : Nat} {v : Value} {t : List U4} {ov : Value} {fs : List Fr} {out : List Int} (h : MSt w base mb v t ov fs out) {u : Value} (hu : u ∈ ov :: rowsR t.reverse) : ∀ b, u.ownBlock = some b → v.ownBlock ≠ some b := by
  intro b hb hv
  obtain ⟨_, _, _, cur, hc⟩ := h.rows.lt u hu b hb
  rcases h.own.2 with ⟨rfl, _⟩ | ⟨g, cap, cur', rfl, _, hg, _⟩
  · cases hv
  · cases hv
    rw [hg] at hc
    cases hc
/-- The last frame, as it lies. -/
theorem MSt.top {w : World} {base mb : Nat} {v : Value} {t : List U4} {ov : Value} {fs : List Fr} {x y : Int} {ll sl out : List Int} (h : MSt w base mb v t ov (fs ++ [(x, y, ll, sl)]) out) :
    ∃ t0 lv sv g cap, t = t0 ++ [(x, y, lv, sv)] ∧ t0.length = fs.length ∧ v = .slice (some ⟨g, 0, none⟩) (fs.length + 1) cap := by
  have hl := h.len
  simp at hl
  obtain ⟨t0, p, rfl⟩ : ∃ t0 p, t = t0 ++ [p] := by
    rcases List.eq_nil_or_concat t with h0 | ⟨a, b, h0⟩
    · rw [h0] at hl; simp at hl
    · exact ⟨a, b, by simpa using h0⟩
  obtain ⟨px, py, lv, sv⟩ := p
  have hh := h.heads
  simp at hh hl
  obtain ⟨h3, rfl, rfl⟩ := hh
  have ho := h.own
  rw [show (fs ++ [(px, py, ll, sl)]).length = fs.length + 1 by simp] at ho
  obtain ⟨g, cap, e, _, _⟩ := ho.form (by omega)
  exact ⟨t0, lv, sv, g, cap, rfl, hl, e⟩
section
variable {w : World} {base mb g cap : Nat} {t : List U4} {lv sv ov : Value} {fs : List Fr} {x y : Int} {ll sl out : List Int}
theorem MSt.own' (h : MSt w base mb (.slice (some ⟨g, 0, none⟩) (fs.length + 1) cap) (t ++ [(x, y, lv, sv)]) ov (fs ++ [(x, y, ll, sl)]) out) : w.ownsRow base 51 4 (.slice (some ⟨g, 0, none⟩) (fs.length + 1) cap) (fs.length + 1) (flat4 (t ++ [(x, y, lv, sv)])) := by
  have ho := h.own
  rw [show (fs ++ [(x, y, ll, sl)]).length = fs.length + 1 by simp] at ho
  exact ho
theorem MSt.lenT (h : MSt w base mb (.slice (some ⟨g, 0, none⟩) (fs.length + 1) cap) (t ++ [(x, y, lv, sv)]) ov (fs ++ [(x, y, ll, sl)]) out) : t.length = fs.length := by have := h.len; simpa using this
theorem MSt.rows' (h : MSt w base mb (.slice (some ⟨g, 0, none⟩) (fs.length + 1) cap) (t ++ [(x, y, lv, sv)]) ov (fs ++ [(x, y, ll, sl)]) out) : Rows w base mb (ov :: sv :: lv :: rowsR t.reverse) (out :: sl :: ll :: listsR fs.reverse) := by
  have hr := h.rows
  simp only [List.reverse_append, List.reverse_cons, List.reverse_nil, List.nil_append, List.singleton_append] at hr
  exact hr
/-- Its cells. -/
theorem MSt.cells (h : MSt w base mb (.slice (some ⟨g, 0, none⟩) (fs.length + 1) cap) (t ++ [(x, y, lv, sv)]) ov (fs ++ [(x, y, ll, sl)]) out) :
    w.cell? ⟨g, fs.length * 4, none⟩ = some (.int .i64 x) ∧ w.cell? ⟨g, fs.length * 4 + 1, none⟩ = some (.int .i64 y) ∧ w.cell? ⟨g, fs.length * 4 + 2, none⟩ = some lv ∧ w.cell? ⟨g, fs.length * 4 + 3, none⟩ = some sv ∧ (∀ o, w.frozen? ⟨g, o, none⟩ = false) := by
  have ho := h.own'
  have hl := h.lenT
  obtain ⟨e1, e2, e3, e4⟩ := flat4_at (t ++ [(x, y, lv, sv)]) t.length (by simp) noU
  rw [getD_snoc_eq _ _ _ _ rfl] at e1 e2 e3 e4
  rw [hl] at e1 e2 e3 e4
  exact ⟨by rw [ho.cellAt _ (by omega), e1], by rw [ho.cellAt _ (by omega), e2], by rw [ho.cellAt _ (by omega), e3], by rw [ho.cellAt _ (by omega), e4], fun o => ho.frozenAt o⟩
theorem MSt.stk (h : MSt w base mb (.slice (some ⟨g, 0, none⟩) (fs.length + 1) cap) (t ++ [(x, y, lv, sv)]) ov (fs ++ [(x, y, ll, sl)]) out) : Row1 w base sv sl := h.rows'.2.2.1
theorem MSt.loc (h : MSt w base mb (.slice (some ⟨g, 0, none⟩) (fs.length + 1) cap) (t ++ [(x, y, lv, sv)]) ov (fs ++ [(x, y, ll, sl)]) out) : Row1 w base lv ll := h.rows'.2.2.2.2.1
theorem MSt.gNe (h : MSt w base mb (.slice (some ⟨g, 0, none⟩) (fs.length + 1) cap) (t ++ [(x, y, lv, sv)]) ov (fs ++ [(x, y, ll, sl)]) out) : g ≠ mb ∧ base ≤ g ∧ g < w.heap.size ∧ sv.ownBlock ≠ some g ∧ lv.ownBlock ≠ some g ∧ ov.ownBlock ≠ some g := by
  have h0 := h.own.lt g rfl
  refine ⟨fun e => h.vm (by rw [e]; rfl), h0.1, h0.2, fun e => ?_, fun e => ?_, fun e => ?_⟩
  · exact h.rowNe (u := sv) (by simp [rowsR]) g e rfl
  · exact h.rowNe (u := lv) (by simp [rowsR]) g e rfl
  · exact h.rowNe (u := ov) (by simp [rowsR]) g e rfl
theorem MSt.pc (h : MSt w base mb (.slice (some ⟨g, 0, none⟩) (fs.length + 1) cap) (t ++ [(x, y, lv, sv)]) ov (fs ++ [(x, y, ll, sl)]) out) (z : Int) :
    MSt (w.setCell ⟨g, fs.length * 4 + 1, none⟩ (.int .i64 z)) base mb (.slice (some ⟨g, 0, none⟩) (fs.length + 1) cap) (t ++ [(x, z, lv, sv)]) ov (fs ++ [(x, z, ll, sl)]) out := by
  have hl := h.lenT
  have hh := h.heads
  have hs := (h.own'.stored (fs.length * 4 + 1) (.int .i64 z)).1
  rw [← hl, flat4_snoc_pc, hl] at hs
  simp only [List.map_append, List.map_cons, List.map_nil] at hh
  refine ⟨by simp only [List.map_append, List.map_cons, List.map_nil]; rw [(List.append_inj' hh rfl).1], by rw [show (fs ++ [(x, z, ll, sl)]).length = fs.length + 1 by simp]; exact hs, ?_, by have := h.hm; simpa using this, h.vm⟩
  simp only [List.reverse_append, List.reverse_cons, List.reverse_nil, List.nil_append, List.singleton_append]
  exact (h.rows').frm (S := fun b => b = g) (Frm.set _ rfl) (fun u hu b hb e => h.rowNe (u := u) (by simpa [rowsR] using hu) b hb (by rw [e]; rfl))
/-- Its stack is another row, in its block or in a new one. -/
theorem MSt.setStk (h : MSt w base mb (.slice (some ⟨g, 0, none⟩) (fs.length + 1) cap) (t ++ [(x, y, lv, sv)]) ov (fs ++ [(x, y, ll, sl)]) out) {w' : World} {sv' : Value} {sl' : List Int} (hf : Frm (fun b => sv.ownBlock = some b) w w')
    (hr : Row1 w' base sv' sl') (hn : ∀ b, sv'.ownBlock = some b → sv.ownBlock = some b ∨ w.heap.size ≤ b) :
    MSt (w'.setCell ⟨g, fs.length * 4 + 3, none⟩ sv') base mb (.slice (some ⟨g, 0, none⟩) (fs.length + 1) cap) (t ++ [(x, y, lv, sv')]) ov (fs ++ [(x, y, ll, sl')]) out := by
  have hl := h.lenT
  have hh := h.heads
  have hg := h.gNe
  have ho : w'.ownsRow base 51 4 (.slice (some ⟨g, 0, none⟩) (fs.length + 1) cap) (fs.length + 1) (flat4 (t ++ [(x, y, lv, sv)])) := hf.owns h.own' (fun b hb e => by cases hb; exact hg.2.2.2.1 e)
  have hs := (ho.stored (fs.length * 4 + 3) sv').1
  rw [← hl, (flat4_snoc_set _ _ _ _ _ _).1, hl] at hs
  simp only [List.map_append, List.map_cons, List.map_nil] at hh
  have hr1 := (h.rows'.swap.head h.hm hf hr hn).swap
  have hsz := hf.size
  refine ⟨by simp only [List.map_append, List.map_cons, List.map_nil]; rw [(List.append_inj' hh rfl).1], by rw [show (fs ++ [(x, y, ll, sl')]).length = fs.length + 1 by simp]; exact hs, ?_, by have := h.hm; simp; omega, h.vm⟩
  simp only [List.reverse_append, List.reverse_cons, List.reverse_nil, List.nil_append, List.singleton_append]
  refine hr1.frm (S := fun b => b = g) (Frm.set _ rfl) (fun u hu b hb e => ?_)
  subst e
  rcases List.mem_cons.1 hu with rfl | hu
  · exact hg.2.2.2.2.2 hb
  rcases List.mem_cons.1 hu with rfl | hu
  · rcases hn b hb with h1 | h1
    · exact hg.2.2.2.1 h1
    · omega
  exact h.rowNe (u := u) (by simp only [List.reverse_append, List.reverse_cons, List.reverse_nil, List.nil_append, List.singleton_append, rowsR]; simp [hu]) b hb rfl
/-- A local of it is set. -/
theorem MSt.setLoc {lb n c : Nat} (h : MSt w base mb (.slice (some ⟨g, 0, none⟩) (fs.length + 1) cap) (t ++ [(x, y, .slice (some ⟨lb, 0, none⟩) n c, sv)]) ov (fs ++ [(x, y, ll, sl)]) out) (i : Nat) (z : Int) :
    MSt (w.setCell ⟨lb, i, none⟩ (.int .i64 z)) base mb (.slice (some ⟨g, 0, none⟩) (fs.length + 1) cap) (t ++ [(x, y, .slice (some ⟨lb, 0, none⟩) n c, sv)]) ov (fs ++ [(x, y, ll.set i z, sl)]) out := by
  have hh := h.heads
  have hg := h.gNe
  have hr := h.loc
  obtain rfl : n = ll.length := by
    rcases hr.2.2 with ⟨e0, _⟩ | ⟨_, _, _, e0, _⟩
    · cases e0
    · cases e0; rfl
  have hs := hr.2.stored i (.int .i64 z)
  have hf : Frm (fun b => (Value.slice (some ⟨lb, 0, none⟩) ll.length c).ownBlock = some b) w (w.setCell ⟨lb, i, none⟩ (.int .i64 z)) := Frm.set _ rfl
  have hr' : Row1 (w.setCell ⟨lb, i, none⟩ (.int .i64 z)) base (.slice (some ⟨lb, 0, none⟩) ll.length c) (ll.set i z) := ⟨by simpa using hr.1, by
    have := hs.1
    rw [show (ints ll).set i (.int .i64 z) = ints (ll.set i z) by simp [ints, List.map_set]] at this
    simpa using this⟩
  simp only [List.map_append, List.map_cons, List.map_nil] at hh
  have hr1 := ((h.rows'.swap2.swap.head h.hm hf hr' (fun b hb => .inl hb)).swap).swap2
  refine ⟨by simp only [List.map_append, List.map_cons, List.map_nil]; rw [(List.append_inj' hh rfl).1], by
    rw [show (fs ++ [(x, y, ll.set i z, sl)]).length = fs.length + 1 by simp]
    exact hf.owns h.own' (fun b hb e => by cases hb; exact hg.2.2.2.2.1 e), ?_, by have := h.hm; simpa using this, h.vm⟩
  simp only [List.reverse_append, List.reverse_cons, List.reverse_nil, List.nil_append, List.singleton_append]
  exact hr1
/-- The last frame goes. -/
theorem MSt.pop (h : MSt w base mb (.slice (some ⟨g, 0, none⟩) (fs.length + 1) cap) (t ++ [(x, y, lv, sv)]) ov (fs ++ [(x, y, ll, sl)]) out) : MSt w base mb (.slice (some ⟨g, 0, none⟩) fs.length cap) t ov fs out := by
  have hh := h.heads
  simp only [List.map_append, List.map_cons, List.map_nil] at hh
  refine ⟨(List.append_inj' hh rfl).1, ?_, ?_, h.hm, h.vm⟩
  · have hl := h.lenT
    have ho := h.own'
    rcases ho.2 with ⟨e0, _⟩ | ⟨g', cap', cur, e0, hb, hg, h1, h2, h3, h4⟩
    · cases e0
    · cases e0
      refine ⟨by rw [flat4_len, hl], .inr ⟨g, cap, cur, rfl, hb, hg, by omega, h2, h3, ?_⟩⟩
      rw [show cur.toList.take (fs.length * 4) = (cur.toList.take ((fs.length + 1) * 4)).take (fs.length * 4) by rw [List.take_take, Nat.min_eq_left (by omega)], h4, flat4_app, List.take_append_of_le_length (by rw [flat4_len]; omega), List.take_of_length_le (by rw [flat4_len]; omega)]
  · have hr := h.rows'
    exact hr.swap.2.2.swap.2.2
end
/-- What was printed is another row. -/
theorem MSt.setOut {w w' : World} {base mb : Nat} {v ov ov' : Value} {t : List U4} {fs : List Fr} {out out' : List Int} (h : MSt w base mb v t ov fs out) (hf : Frm (fun b => ov.ownBlock = some b) w w') (hr : Row1 w' base ov' out') (hn : ∀ b, ov'.ownBlock = some b → ov.ownBlock = some b ∨ w.heap.size ≤ b) : MSt w' base mb v t ov' fs out' :=
  ⟨h.heads, hf.owns h.own (fun b hb e => h.rowNe (u := ov) (by simp) b e hb), h.rows.head h.hm hf hr hn, by have := h.hm; have := hf.size; omega, h.vm⟩
/-- A frame more, its rows new ones. -/
theorem MSt.snoc {w w' : World} {base mb B : Nat} {v v' lv sv ov : Value} {t : List U4} {fs : List Fr} {x y : Int} {ll sl out : List Int} (h : MSt w base mb v t ov fs out) (hl : Row1 w base lv ll) (hs : Row1 w base sv sl)
    (hB : ∀ u ∈ ov :: rowsR t.reverse, ∀ b, u.ownBlock = some b → b < B) (hmB : mb < B) (hlB : ∀ b, lv.ownBlock = some b → B ≤ b) (hsB : ∀ b, sv.ownBlock = some b → B ≤ b ∧ lv.ownBlock ≠ some b)
    (ha : w'.ownsRow base 51 4 v' (fs.length + 1) (flat4 t ++ [.int .i64 x, .int .i64 y, lv, sv])) (hg : Frm (fun b => v.ownBlock = some b) w w') (hn : ∀ b, v'.ownBlock = some b → v.ownBlock = some b ∨ w.heap.size ≤ b) :
    MSt w' base mb v' (t ++ [(x, y, lv, sv)]) ov (fs ++ [(x, y, ll, sl)]) out := by
  have hty : ∀ {u : Value} {l : List Int}, Row1 w base u l → ∀ b, u.ownBlock = some b → ¬ v.ownBlock = some b := fun hu b hb e => by
    rcases owns_apart hu.2 h.own (by decide) with h0 | h0
    · rw [h0] at hb; cases hb
    · rw [hb, e] at h0; exact h0 rfl
  have hm := h.hm
  have hr := h.rows.frm hg (fun u hu b hb e => h.rowNe hu b hb e)
  refine ⟨by rw [List.map_append, List.map_append, h.heads]; rfl, by rw [flat4_app, List.length_append]; exact ha, ?_, by have := hg.size; omega, fun e => ?_⟩
  · simp only [List.reverse_append, List.reverse_cons, List.reverse_nil, List.nil_append, List.singleton_append]
    have h1 : Rows w' base mb (lv :: ov :: rowsR t.reverse) (ll :: out :: listsR fs.reverse) := hr.cons (hl.frm hg (hty hl)) (fun b hb => ⟨by have := hlB b hb; omega, fun u hu e => by have := hB u hu b e; have := hlB b hb; omega⟩)
    have h2 : Rows w' base mb (sv :: lv :: ov :: rowsR t.reverse) (sl :: ll :: out :: listsR fs.reverse) := h1.cons (hs.frm hg (hty hs)) (fun b hb => ⟨by have := (hsB b hb).1; omega, fun u hu e => by
      rcases List.mem_cons.1 hu with rfl | hu
      · exact (hsB b hb).2 e
      · have := hB u hu b e; have := (hsB b hb).1; omega⟩)
    exact h2.swap2.swap
  · rcases hn mb e with h0 | h0
    · exact h.vm h0
    · omega
theorem MSt.nil {w : World} {base mb : Nat} {ov : Value} {out : List Int} (ho : Row1 w base ov out) (hm : mb < w.heap.size) (hn : ov.ownBlock ≠ some mb) : MSt w base mb (.slice none 0 0) [] ov [] out :=
  ⟨rfl, World.ownsRow_nil _ _ _ _, ⟨ho, fun b hb => ⟨fun e => hn (by rw [hb, e]), fun u hu => by cases hu⟩, trivial⟩, hm, by simp [Value.ownBlock]⟩
/-- What stays of it where its frames are no longer. -/
theorem MSt.over {w : World} {base mb : Nat} {v ov : Value} {t : List U4} {fs : List Fr} {out : List Int} (h : MSt w base mb v t ov fs out) : MSt w base mb (.slice none 0 0) [] ov [] out :=
  MSt.nil h.rows.1 h.hm (fun e => (h.rows.2.1 mb e).1 rfl)
/-- Another block than mb is the one apart. -/
theorem MSt.move {w : World} {base mb mb' : Nat} {v ov : Value} {t : List U4} {fs : List Fr} {out : List Int} (h : MSt w base mb v t ov fs out) (hm : mb' < w.heap.size) (hv : v.ownBlock ≠ some mb') (hr : ∀ u ∈ ov :: rowsR t.reverse, u.ownBlock ≠ some mb') : MSt w base mb' v t ov fs out := by
  refine ⟨h.heads, h.own, ?_, hm, hv⟩
  have key : ∀ {vs : List Value} {ls : List (List Int)}, Rows w base mb vs ls → (∀ u ∈ vs, u.ownBlock ≠ some mb') → Rows w base mb' vs ls := by
    intro vs
    induction vs with
    | nil => intro ls h _; cases ls with
      | nil => trivial
      | cons _ _ => exact h.elim
    | cons v vs ih => intro ls h hn; cases ls with
      | nil => exact h.elim
      | cons l ls => exact ⟨h.1, fun b hb => ⟨fun e => hn v (by simp) (by rw [hb, e]), (h.2.1 b hb).2⟩, ih h.2.2 (fun u hu => hn u (by simp [hu]))⟩
  exact key h.rows hr
/-- It is in memory of the call's own. -/
theorem MSt.owns {w : World} {base mb : Nat} {v ov : Value} {t : List U4} {fs : List Fr} {out : List Int} (h : MSt w base mb v t ov fs out) : OwnFrs 3 51 w base v fs ∧ Row1 w base ov out := by
  refine ⟨⟨t, h.len, h.own, fun i hi => ?_⟩, h.rows.1⟩
  have hl := h.len
  have hh := h.heads
  have e1 : ((t.map (fun p => (p.1, p.2.1))).getD i (0, 0)) = ((fs.map (fun f => (f.1, f.2.1))).getD i (0, 0)) := by rw [hh]
  have et : t.getD i noU = t.reverse.getD (fs.length - 1 - i) noU := by
    rw [List.getD_eq_getElem?_getD, List.getD_eq_getElem?_getD, List.getElem?_reverse (by omega), hl, show fs.length - 1 - (fs.length - 1 - i) = i by omega]
  have ef : fs.getD i noFr = fs.reverse.getD (fs.length - 1 - i) noFr := by
    rw [List.getD_eq_getElem?_getD, List.getD_eq_getElem?_getD, List.getElem?_reverse (by omega), show fs.length - 1 - (fs.length - 1 - i) = i by omega]
  have ha := Rows.at h.rows.2.2 (fs.length - 1 - i) (by simp; omega)
  rw [← et, ← ef] at ha
  simp only [List.getD_eq_getElem?_getD, List.getElem?_map] at e1
  have g1 : t[i]? = some (t.getD i noU) := by simp [List.getD_eq_getElem?_getD, hl, hi]
  have g2 : fs[i]? = some (fs.getD i noFr) := by simp [List.getD_eq_getElem?_getD, hi]
  rw [g1, g2] at e1
  simp only [Option.map_some, Option.getD_some, Prod.mk.injEq] at e1
  exact ⟨e1.1, e1.2, ha.1, ha.2⟩

end Go.Proofs.YtcngmkbgcfhmdaaGreatDoor

namespace Go.Proofs.YtcngmkbgcfhmdaaGreatDoor
open Go.RowKit
set_option linter.unusedVariables false

set_option maxHeartbeats 2000000 in
/-- One more on the last frame's stack. -/
theorem stpPut_any {base mb g cap : Nat} {t : List U4} {lv sv ov : Value} {fs : List Fr} {x y : Int} {ll sl out : List Int} (z : Int) (w : World) (m : MSt w base mb (.slice (some ⟨g, 0, none⟩) (fs.length + 1) cap) (t ++ [(x, y, lv, sv)]) ov (fs ++ [(x, y, ll, sl)]) out) (hl : sl.length ≤ 100) (hb : base ≤ w.heap.size) :
    Calls Tryz.prog 68 #[.pointer (some ⟨g, fs.length * 4, none⟩), .int .i64 z] w fun e w' => e = .returned (.tuple #[]) ∧ Frm (fun b => b = g ∨ sv.ownBlock = some b) w w' ∧ ∃ sv', MSt w' base mb (.slice (some ⟨g, 0, none⟩) (fs.length + 1) cap) (t ++ [(x, y, lv, sv')]) ov (fs ++ [(x, y, ll, sl ++ [z])]) out := by
  obtain ⟨i0, hi, hz0, hz1, hz2⟩ := info_parts Tryz.infoInt
  have hr := m.stk
  obtain ⟨sa, sn, sc, rfl, _⟩ := ints_of_owns hr.2 hr.1
  obtain ⟨_, _, _, c3, hfz⟩ := m.cells
  have f3 := hfz (fs.length * 4 + 3)
  have hg := m.gNe
  have M := hid m
  have HG := hid hg
  have fr1 : Frm (fun b => (Value.slice sa sn sc).ownBlock = some b) w (w.alloc (.cells #[.int .i64 z] 3)) := Frm.of_below (Below.alloc (Below.refl _ _) (Nat.le_refl _) _)
  have FR := hid fr1
  have HO : Hid ((w.alloc (.cells #[.int .i64 z] 3)).ownsRow base 3 1 (.slice sa sn sc) sl.length (ints sl)) := hid (hr.2.alloc _)
  have q3 := kept_cell (Below.alloc (Below.refl _ _) (Nat.le_refl _) (.cells #[.int .i64 z] 3)) c3
  have J := hid (And.intro q3 (show (w.alloc (.cells #[.int .i64 z] 3)).frozen? ⟨g, fs.length * 4 + 3, none⟩ = false by rw [(Below.alloc (Below.refl w.heap.size w) (Nat.le_refl _) (.cells #[.int .i64 z] 3)).frozen (p := ⟨g, fs.length * 4 + 3, none⟩) hg.2.2.1]; exact f3))
  have hnews := World.news_of_block (heap_alloc_new w (.cells #[.int .i64 z] 3))
  have HN : Hid (some g ≠ (Value.slice sa sn sc).ownBlock) := hid (fun e => hg.2.2.2.1 e.symm)
  have BB := hid hb
  clear m hr hg fr1 hfz q3 hb
  go_enter Tryz.func68, Tryz.ntmps68
  go_wp2_with (at_builtin; go_must ((refine wpList_append_lies _ rfl _ _ 26 rfl base 3 i0 (.int .i64 0) 1 8 Tryz.underlying26 hi hz0 hz1 hz2 rfl (by decide) (.slice sa sn sc) sl.length (ints sl) rfl HO.out ⟨w.heap.size, 0, none⟩ 1 1 [.int .i64 z] rfl rfl hnews (by intro u hu; simp at hu; subst hu; rfl) (by decide) (by unfold maxLen; omega) (by omega) (by simp; have := BB.out; omega) (w.heap.size + 1) (by simp) ?_; intro g' cap' w6 ho6 hg6 hat hlt6; have q2 := hg6.cell J.out.1 HN.out; have qf2 := (hg6.frozen_far ⟨g, fs.length * 4 + 3, none⟩ (lt_of_cell J.out.1) HN.out).trans J.out.2; have P := hid (And.intro ho6 (And.intro hg6 hat)); clear ho6 hg6 hat hlt6)))
  go_end0
  obtain ⟨p1, p2, p3⟩ := P.out
  have fr2 : Frm (fun b => (Value.slice sa sn sc).ownBlock = some b) w w6 := FR.out.trans (Frm.of_grown p2 (fun k hk => hk)) (fun _ _ h => h)
  refine ⟨rfl, (Frm.trans (S := fun b => b = g ∨ (Value.slice sa sn sc).ownBlock = some b) ⟨fr2.os, fr2.tape, fr2.output, fr2.size, fun k hk hn => fr2.block k hk (fun e => hn (.inr e))⟩ (Frm.set (S := fun b => b = g) (p := ⟨g, fs.length * 4 + 3, none⟩) _ rfl) (fun _ _ h => .inl h)), _, M.out.setStk fr2 ⟨by simp; omega, ints_snoc p1⟩ (fun b hb => ?_)⟩
  cases hb
  rcases p3 with h | h
  · exact .inl h
  · exact .inr (by show w.heap.size ≤ g'; omega)

set_option maxHeartbeats 2000000 in
/-- The last one off the last frame's stack. -/
theorem stpTake_any {base mb g cap : Nat} {t : List U4} {lv sv ov : Value} {fs : List Fr} {x y : Int} {ll sl out : List Int} {z : Int} (w : World) (m : MSt w base mb (.slice (some ⟨g, 0, none⟩) (fs.length + 1) cap) (t ++ [(x, y, lv, sv)]) ov (fs ++ [(x, y, ll, sl ++ [z])]) out) (hl : sl.length ≤ 100) :
    Calls Tryz.prog 69 #[.pointer (some ⟨g, fs.length * 4, none⟩)] w fun e w' => e = .returned (.int .i64 z) ∧ ∃ sv', MSt w' base mb (.slice (some ⟨g, 0, none⟩) (fs.length + 1) cap) (t ++ [(x, y, lv, sv')]) ov (fs ++ [(x, y, ll, sl)]) out ∧ sv'.ownBlock = sv.ownBlock ∧ w' = w.setCell ⟨g, fs.length * 4 + 3, none⟩ sv' := by
  have hr := m.stk
  obtain ⟨b0, sc, cur, rfl, h1, h2, h3, h4, h5, h6⟩ : ∃ b0 sc cur, sv = .slice (some ⟨b0, 0, none⟩) (sl.length + 1) sc ∧ base ≤ b0 ∧ w.heap[b0]? = some (.cells cur 3 (0, 0)) ∧ sl.length + 1 ≤ sc ∧ sc ≤ maxLen ∧ cur.size = sc * 1 ∧ cur.toList.take ((sl.length + 1) * 1) = ints (sl ++ [z]) := by
    have h0 := hr.2
    rw [show (sl ++ [z]).length = sl.length + 1 by simp] at h0
    rcases h0.2 with ⟨_, e⟩ | ⟨b0, sc, cur, rfl, h1, h2, h3, h4, h5, h6⟩
    · omega
    · exact ⟨b0, sc, cur, rfl, h1, h2, h3, h4, h5, h6⟩
  obtain ⟨_, _, _, c3, hfz⟩ := m.cells
  have f3 := hfz (fs.length * 4 + 3)
  have d0 : w.cell? ⟨b0, sl.length, none⟩ = some (.int .i64 z) := by
    have h0 := hr.2
    rw [show (sl ++ [z]).length = sl.length + 1 by simp] at h0
    rw [h0.cellAt _ (by omega), ints_at _ _ (by simp)]
    simp [List.getD_eq_getElem?_getD]
  have R : Hid (Row1 w base (.slice (some ⟨b0, 0, none⟩) sl.length sc) sl) := hid ⟨by omega, by simp [ints_len], .inr ⟨b0, sc, cur, rfl, h1, h2, by omega, h4, h5, by
    rw [show cur.toList.take (sl.length * 1) = (cur.toList.take ((sl.length + 1) * 1)).take (sl.length * 1) by rw [List.take_take, Nat.min_eq_left (by omega)], h6, ints_app, List.take_append_of_le_length (by rw [ints_len]; omega), List.take_of_length_le (by rw [ints_len]; omega)]⟩⟩
  have M := hid m
  have hsc : sl.length + 1 ≤ sc := h3
  clear m hr hfz h1 h2 h3 h5 h6
  go_enter Tryz.func69, Tryz.ntmps69
  go_wp2_with fail
  go_ret
  refine ⟨rfl, .slice (some ⟨b0, 0, none⟩) sl.length sc, M.out.setStk (Frm.refl _ _) R.out (fun b hb => .inl hb), rfl, ?_⟩
  simp

theorem ints_srcS {w : World} {a : Option Addr} {n c : Nat} {l : List Int} (h : Ints w a n c l) : 0 < (ints l).length → ∃ ad, a = some ad ∧ ∀ j v, (ints l)[j]? = some v → w.cell? (ad.add j) = some v := by
  intro h0
  rw [ints_len] at h0
  obtain ⟨b, o, ha, hr⟩ := h.row (by rw [h.len]; exact h0)
  refine ⟨_, ha, fun j v hv => ?_⟩
  have hj : j < l.length := by
    rcases Nat.lt_or_ge j l.length with h | h
    · exact h
    · rw [List.getElem?_eq_none (by rw [ints_len]; exact h)] at hv; cases hv
  rw [ints_at l j hj] at hv
  cases hv
  have := hr j (by rw [h.len]; exact hj)
  rw [show (⟨b, o, none⟩ : Addr).add j = ⟨b, o + j, none⟩ by simp [Addr.add]]
  exact this

set_option maxRecDepth 100000 in
set_option maxHeartbeats 1000000 in
theorem copyOfList_any (a : Option Addr) (n c : Nat) (l : List Int) (w : World) (h : Ints w a n c l) :
    Calls Tryz.prog 67 #[.slice a n c] w fun e w' => ∃ a' n' c', e = .returned (.slice a' n' c') ∧ w'.ownsRow w.heap.size 3 1 (.slice a' n' c') l.length (ints l) ∧ Below w.heap.size w w' := by
  obtain ⟨i0, hi, hz0, hz1, hz2⟩ := info_parts Tryz.infoInt
  have hown0 : w.ownsRow w.heap.size 3 1 (.slice none 0 0) 0 [] := World.ownsRow_nil _ _ _ _
  have hr := h.room
  have hL := h.len
  cases a with
  | none =>
    obtain ⟨rfl, rfl⟩ := h.nilc rfl
    obtain rfl : l = [] := List.length_eq_zero_iff.1 h.len.symm
    clear hL hr h
    go_enter Tryz.func67, Tryz.ntmps67
    go_wp2_with (at_builtin; refine wpList_append_own_none rfl _ _ 26 rfl w.heap.size 3 i0 1 Tryz.underlying26 hi _ 0 [] rfl hown0 rfl ?_)
    go_ret
    exact ⟨_, _, _, rfl, hown0, Below.refl _ _⟩
  | some ad =>
    have hn : Hid (∀ j u, (ints l)[j]? = some u → w.cell? (ad.add j) = some u) := hid (by
      intro j u hu
      have h0 : 0 < (ints l).length := by
        rcases Nat.eq_zero_or_pos (ints l).length with h0 | h0
        · rw [List.getElem?_eq_none (by omega)] at hu; cases hu
        · exact h0
      obtain ⟨ad', e, hc⟩ := ints_srcS h h0
      cases e
      exact hc j u hu)
    have HL := hid hL
    clear h hL
    go_enter Tryz.func67, Tryz.ntmps67
    go_wp2_with (at_builtin; refine wpList_append_own _ rfl _ _ 26 rfl w.heap.size 3 i0 (.int .i64 0) 1 8 Tryz.underlying26 hi hz0 hz1 hz2 rfl (by decide) (.slice none 0 0) 0 [] rfl hown0 ad n c (ints l) rfl (by rw [ints_len, HL.out, Nat.mul_one]) hn.out (ints_one l) (by unfold maxLen; omega) (by omega) (Nat.le_refl _) ?_; intro v' w1 ho hg _)
    simp only [Nat.zero_add, List.nil_append] at ho
    go_ret
    rw [HL.out] at ho
    obtain ⟨a', n', c', rfl, _⟩ := ints_of_owns ho (by rw [← HL.out]; exact hr)
    exact ⟨a', n', c', rfl, ho, Below.grown (Below.refl _ _) hg (Nat.le_refl _) (by intro k hk; cases hk)⟩

/-- A machine's cells: the functions, and a state. -/
structure MX (w : World) (mb : Nat) (pa : Option Addr) (pn pc : Nat) (fv : Value) (fu : Int) (ov : Value) (dn vl : Int) : Prop where
  c0 : w.cell? ⟨mb, 0, none⟩ = some (.slice pa pn pc)
  c1 : w.cell? ⟨mb, 1, none⟩ = some fv
  c2 : w.cell? ⟨mb, 2, none⟩ = some (.int .i64 fu)
  c3 : w.cell? ⟨mb, 3, none⟩ = some ov
  c4 : w.cell? ⟨mb, 4, none⟩ = some (.int .i64 dn)
  c5 : w.cell? ⟨mb, 5, none⟩ = some (.int .i64 vl)
  fz : ∀ o, w.frozen? ⟨mb, o, none⟩ = false
theorem MX.frm {S : Nat → Prop} {w w' : World} {mb : Nat} {pa : Option Addr} {pn pc : Nat} {fv ov : Value} {fu dn vl : Int} (h : MX w mb pa pn pc fv fu ov dn vl) (hf : Frm S w w') (hb : ¬ S mb) : MX w' mb pa pn pc fv fu ov dn vl :=
  ⟨hf.cell h.c0 hb, hf.cell h.c1 hb, hf.cell h.c2 hb, hf.cell h.c3 hb, hf.cell h.c4 hb, hf.cell h.c5 hb, fun o => by rw [World.frozen?_of_block (w := w) (hf.block mb (lt_of_cell h.c0) hb)]; exact h.fz o⟩
theorem MX.kept {w w' : World} {mb : Nat} {pa : Option Addr} {pn pc : Nat} {fv ov : Value} {fu dn vl : Int} (h : MX w mb pa pn pc fv fu ov dn vl) (hb : Below w.heap.size w w') : MX w' mb pa pn pc fv fu ov dn vl := h.frm (Frm.of_below (S := fun _ => False) hb) (fun k => k)
section
variable {w : World} {mb : Nat} {pa : Option Addr} {pn pc : Nat} {fv ov : Value} {fu dn vl : Int}
theorem MX.set1 (h : MX w mb pa pn pc fv fu ov dn vl) (u : Value) : MX (w.setCell ⟨mb, 1, none⟩ u) mb pa pn pc u fu ov dn vl :=
  ⟨by rw [World.cell?_setCell_other _ _ _ _ (by simp)]; exact h.c0, World.cell?_setCell_same _ _ _ h.c1, by rw [World.cell?_setCell_other _ _ _ _ (by simp)]; exact h.c2, by rw [World.cell?_setCell_other _ _ _ _ (by simp)]; exact h.c3, by rw [World.cell?_setCell_other _ _ _ _ (by simp)]; exact h.c4, by rw [World.cell?_setCell_other _ _ _ _ (by simp)]; exact h.c5, fun o => by simp [h.fz o]⟩
theorem MX.set2 (h : MX w mb pa pn pc fv fu ov dn vl) (z : Int) : MX (w.setCell ⟨mb, 2, none⟩ (.int .i64 z)) mb pa pn pc fv z ov dn vl :=
  ⟨by rw [World.cell?_setCell_other _ _ _ _ (by simp)]; exact h.c0, by rw [World.cell?_setCell_other _ _ _ _ (by simp)]; exact h.c1, World.cell?_setCell_same _ _ _ h.c2, by rw [World.cell?_setCell_other _ _ _ _ (by simp)]; exact h.c3, by rw [World.cell?_setCell_other _ _ _ _ (by simp)]; exact h.c4, by rw [World.cell?_setCell_other _ _ _ _ (by simp)]; exact h.c5, fun o => by simp [h.fz o]⟩
theorem MX.set3 (h : MX w mb pa pn pc fv fu ov dn vl) (u : Value) : MX (w.setCell ⟨mb, 3, none⟩ u) mb pa pn pc fv fu u dn vl :=
  ⟨by rw [World.cell?_setCell_other _ _ _ _ (by simp)]; exact h.c0, by rw [World.cell?_setCell_other _ _ _ _ (by simp)]; exact h.c1, by rw [World.cell?_setCell_other _ _ _ _ (by simp)]; exact h.c2, World.cell?_setCell_same _ _ _ h.c3, by rw [World.cell?_setCell_other _ _ _ _ (by simp)]; exact h.c4, by rw [World.cell?_setCell_other _ _ _ _ (by simp)]; exact h.c5, fun o => by simp [h.fz o]⟩
theorem MX.set4 (h : MX w mb pa pn pc fv fu ov dn vl) (z : Int) : MX (w.setCell ⟨mb, 4, none⟩ (.int .i64 z)) mb pa pn pc fv fu ov z vl :=
  ⟨by rw [World.cell?_setCell_other _ _ _ _ (by simp)]; exact h.c0, by rw [World.cell?_setCell_other _ _ _ _ (by simp)]; exact h.c1, by rw [World.cell?_setCell_other _ _ _ _ (by simp)]; exact h.c2, by rw [World.cell?_setCell_other _ _ _ _ (by simp)]; exact h.c3, World.cell?_setCell_same _ _ _ h.c4, by rw [World.cell?_setCell_other _ _ _ _ (by simp)]; exact h.c5, fun o => by simp [h.fz o]⟩
theorem MX.set5 (h : MX w mb pa pn pc fv fu ov dn vl) (z : Int) : MX (w.setCell ⟨mb, 5, none⟩ (.int .i64 z)) mb pa pn pc fv fu ov dn z :=
  ⟨by rw [World.cell?_setCell_other _ _ _ _ (by simp)]; exact h.c0, by rw [World.cell?_setCell_other _ _ _ _ (by simp)]; exact h.c1, by rw [World.cell?_setCell_other _ _ _ _ (by simp)]; exact h.c2, by rw [World.cell?_setCell_other _ _ _ _ (by simp)]; exact h.c3, by rw [World.cell?_setCell_other _ _ _ _ (by simp)]; exact h.c4, World.cell?_setCell_same _ _ _ h.c5, fun o => by simp [h.fz o]⟩
end
/-- Results that lie somewhere stay. -/
def Kp (mb : Nat) (wk w : World) : Prop := ∀ r cur x, r ≠ mb → wk.heap[r]? = some (.cells cur 55 x) → w.heap[r]? = some (.cells cur 55 x)
theorem Kp.refl (mb : Nat) (w : World) : Kp mb w w := fun _ _ _ _ h => h
theorem heap_lt {w : World} {r : Nat} {o : Obj} (h : w.heap[r]? = some o) : r < w.heap.size := by
  rcases Nat.lt_or_ge r w.heap.size with h1 | h1
  · exact h1
  · rw [Array.getElem?_eq_none h1] at h; cases h
theorem Kp.frm {S : Nat → Prop} {mb : Nat} {wk w w' : World} (h : Kp mb wk w) (hf : Frm S w w') (hS : ∀ b, S b → b = mb ∨ ∃ cur e x, w.heap[b]? = some (.cells cur e x) ∧ e ≠ 55) : Kp mb wk w' := by
  intro r cur x hr h0
  have h1 := h r cur x hr h0
  rw [hf.block r (heap_lt h1) (fun hs => ?_)]
  · exact h1
  · rcases hS r hs with e | ⟨c', e', x', e1, e2⟩
    · exact hr e
    · rw [h1] at e1
      cases e1
      exact e2 rfl
theorem Kp.kept {mb : Nat} {wk w w' : World} (h : Kp mb wk w) (hb : Below w.heap.size w w') : Kp mb wk w' := h.frm (Frm.of_below (S := fun _ => False) hb) (fun _ k => k.elim)
theorem Kp.setM {mb : Nat} {wk w : World} (h : Kp mb wk w) (o : Nat) (v : Value) : Kp mb wk (w.setCell ⟨mb, o, none⟩ v) := h.frm (Frm.set (S := fun b => b = mb) (p := ⟨mb, o, none⟩) v rfl) (fun _ e => .inl e)
/-- A machine that runs: its cells, its lists; w0: the world behind it, which stays. -/
structure Mach (w0 wk w : World) (base mb : Nat) (pa : Option Addr) (pn pc : Nat) (s : St) : Prop where
  ex : ∃ fa fn fc t oa on oc, MX w mb pa pn pc (.slice fa fn fc) s.2.1 (.slice oa on oc) s.2.2.2.1 s.2.2.2.2 ∧ MSt w base mb (.slice fa fn fc) t (.slice oa on oc) s.1 s.2.2.1
  old : Below w0.heap.size w0 w
  hb : w0.heap.size ≤ base
  hm : w0.heap.size ≤ mb
  hsz : base ≤ w.heap.size
  kp : Kp mb wk w

set_option maxHeartbeats 1000000 in
theorem end_any {mb : Nat} {pa : Option Addr} {pn pc : Nat} {fv ov : Value} {fu dn vl : Int} (d z : Int) (w : World) (h : MX w mb pa pn pc fv fu ov dn vl) :
    Calls Tryz.prog 47 #[.pointer (some ⟨mb, 0, none⟩), .int .i64 d, .int .i64 z] w fun e w' => e = .returned (.tuple #[]) ∧ w' = ((w.setCell ⟨mb, 1, none⟩ (.slice none 0 0)).setCell ⟨mb, 4, none⟩ (.int .i64 d)).setCell ⟨mb, 5, none⟩ (.int .i64 z) := by
  obtain ⟨c0, c1, c2, c3, c4, c5, fz⟩ := h
  have f1 := fz 1
  have f4 := fz 4
  have f5 := fz 5
  clear fz
  go_enter Tryz.func47, Tryz.ntmps47
  go_wp2_with fail
  go_end0
  exact ⟨rfl, rfl⟩

set_option maxHeartbeats 1000000 in
theorem top_any {mb g n cap : Nat} {pa : Option Addr} {pn pc : Nat} {ov : Value} {fu dn vl : Int} (w : World) (h : MX w mb pa pn pc (.slice (some ⟨g, 0, none⟩) (n + 1) cap) fu ov dn vl) (hn : n ≤ 100) :
    Calls Tryz.prog 48 #[.pointer (some ⟨mb, 0, none⟩)] w fun e w' => e = .returned (.pointer (some ⟨g, n * 4, none⟩)) ∧ Below w.heap.size w w' := by
  obtain ⟨c0, c1, c2, c3, c4, c5, fz⟩ := h
  clear fz
  go_enter Tryz.func48, Tryz.ntmps48
  go_wp2_with fail
  go_quiet (fail)
  go_wp2_with fail
  go_ret
  exact ⟨rfl, below_drewN (Below.refl _ _) _⟩

set_option maxHeartbeats 1000000 in
theorem runs_any {mb : Nat} {pa : Option Addr} {pn pc : Nat} {fv ov : Value} {fu dn vl : Int} (b : Bool) (w : World) (h : MX w mb pa pn pc fv fu ov dn vl) (hb : (dn == 0) = b) :
    Calls Tryz.prog 46 #[.pointer (some ⟨mb, 0, none⟩)] w fun e w' => e = .returned (.bool b) ∧ w' = w := by
  have c4 := h.c4
  clear h
  subst hb
  go_enter Tryz.func46, Tryz.ntmps46
  go_wp2_with fail
  go_ret
  exact ⟨rfl, rfl⟩

end Go.Proofs.YtcngmkbgcfhmdaaGreatDoor

namespace Go.Proofs.YtcngmkbgcfhmdaaGreatDoor
open Go.RowKit
set_option linter.unusedVariables false

def lastI (l : List Int) : Int := l.getLastD 0
def retV (fs : List Fr) (z fu : Int) (out : List Int) : St :=
  if fs = [] then ([], fu, out, 1, z) else (fs.dropLast ++ [((fs.getLastD noFr).1, (fs.getLastD noFr).2.1, (fs.getLastD noFr).2.2.1, (fs.getLastD noFr).2.2.2 ++ [z])], fu, out, 0, 0)
/-- What comes of the last frame's instruction (k, a); x, y, ll, sl: that frame; fs: those below. -/
def instrV (ps : List Fn) (fs : List Fr) (x y : Int) (ll sl : List Int) (fu : Int) (out : List Int) (k a : Int) : St :=
  if k = 0 then (fs ++ [(x, y + 1, ll, sl ++ [a])], fu, out, 0, 0)
  else if k = 1 then (fs ++ [(x, y + 1, ll, sl ++ [ll.getD a.toNat 0])], fu, out, 0, 0)
  else if k = 2 then (fs ++ [(x, y + 1, ll.set a.toNat (lastI sl), sl.dropLast)], fu, out, 0, 0)
  else if 3 ≤ k ∧ k ≤ 9 then
    (if trapB k (lastI sl.dropLast) (lastI sl) = true then ([], fu, out, 2, 0) else (fs ++ [(x, y + 1, ll, sl.dropLast.dropLast ++ [doV k (lastI sl.dropLast) (lastI sl)])], fu, out, 0, 0))
  else if k = 10 then (fs ++ [(x, y + 1, ll, sl.dropLast ++ [lastI sl] ++ [lastI sl])], fu, out, 0, 0)
  else if k = 11 then (fs ++ [(x, y + 1, ll, sl.dropLast)], fu, out, 0, 0)
  else if k = 12 then (fs ++ [(x, a, ll, sl)], fu, out, 0, 0)
  else if k = 13 then (fs ++ [(x, if lastI sl = 0 then a else y + 1, ll, sl.dropLast)], fu, out, 0, 0)
  else if k = 14 then
    (if fs.length + 1 = 12 then ([], fu, out, 3, 0) else
      (fs ++ [(x, y + 1, ll, sl.take (sl.length - (ps.getD a.toNat noFn).1.toNat))] ++ [(a, 0, freshL (ps.getD a.toNat noFn).2.1.toNat (sl.drop (sl.length - (ps.getD a.toNat noFn).1.toNat)), [])], fu, out, 0, 0))
  else if k = 15 then (fs ++ [(x, y + 1, ll, sl.dropLast)], fu, out ++ [lastI sl], 0, 0)
  else retV fs (lastI sl) fu out
def topI (ps : List Fn) (f : Fr) : Int × Int := insAt (ps.getD f.1.toNat noFn).2.2 f.2.1.toNat
def stepV (ps : List Fn) (s : St) : St :=
  if ¬ s.2.2.2.1 = 0 then s else if s.2.1 = 0 then ([], 0, s.2.2.1, 4, 0) else
    instrV ps s.1.dropLast (s.1.getLastD noFr).1 (s.1.getLastD noFr).2.1 (s.1.getLastD noFr).2.2.1 (s.1.getLastD noFr).2.2.2 (s.2.1 - 1) s.2.2.1 (topI ps (s.1.getLastD noFr)).1 (topI ps (s.1.getLastD noFr)).2
def stepS (ps : List Fn) (s : St) : St := if stateB ps s = true then stepV ps s else noSt
def stepE (ps : List Fn) (s : St) : Int := if stateB ps s = true then 0 else 700
theorem lastI_snoc (l : List Int) (z : Int) : lastI (l ++ [z]) = z := by simp [lastI]
theorem stepV_top {ps : List Fn} {fs : List Fr} {x y : Int} {ll sl out : List Int} {fu vl : Int} (h : ¬ fu = 0) : stepV ps (fs ++ [(x, y, ll, sl)], fu, out, 0, vl) = instrV ps fs x y ll sl (fu - 1) out (topI ps (x, y, ll, sl)).1 (topI ps (x, y, ll, sl)).2 := by
  unfold stepV
  simp [h]

theorem numsB_at {l : List Int} (h : numsB l = true) (i : Nat) (hi : i < l.length) : isNum (l.getD i 0) = true := by
  have := (List.all_eq_true.1 h) (l.getD i 0) (by rw [List.getD_eq_getElem?_getD, List.getElem?_eq_getElem hi]; exact List.getElem_mem _)
  exact this
theorem numsB_app (l k : List Int) : numsB (l ++ k) = (numsB l && numsB k) := by simp [numsB]
theorem numsB_take {l : List Int} (h : numsB l = true) (n : Nat) : numsB (l.take n) = true := List.all_eq_true.2 (fun x hx => List.all_eq_true.1 h x (List.mem_of_mem_take hx))
theorem numsB_drop {l : List Int} (h : numsB l = true) (n : Nat) : numsB (l.drop n) = true := List.all_eq_true.2 (fun x hx => List.all_eq_true.1 h x (List.mem_of_mem_drop hx))
theorem callsB_iff {ps : List Fn} {fs : List Fr} : callsB ps fs = true ↔ ∀ i, i < fs.length → callAt ps fs i = true := by
  unfold callsB
  constructor
  · intro h i hi
    have h0 : firstAt (fun i => !callAt ps fs i) fs.length 0 = none := by simpa using h
    have := firstAt_none _ _ h0 i (Nat.zero_le _) (by omega)
    simpa using this
  · intro h
    have key : ∀ k i, i + k ≤ fs.length → firstAt (fun i => !callAt ps fs i) k i = none := by
      intro k
      induction k with
      | zero => intro i _; rfl
      | succ k ih => intro i hi; rw [firstAt_step (by rw [h i (by omega)]; rfl)]; exact ih (i + 1) (by omega)
    rw [key fs.length 0 (by omega)]; rfl
/-- What is so of the last frame and its instruction. -/
structure Ok (ps : List Fn) (fs : List Fr) (x y : Int) (ll sl : List Int) (k a : Int) : Prop where
  ver : verV ps = 0
  fx : 0 ≤ x ∧ x < ps.length
  py : 0 ≤ y ∧ y < (ps.getD x.toNat noFn).2.2.length
  ins : insAt (ps.getD x.toNat noFn).2.2 y.toNat = (k, a)
  kind : 0 ≤ k ∧ k ≤ 16
  locs : (ll.length : Int) = (ps.getD x.toNat noFn).2.1 ∧ ll.length ≤ 8
  stk : (sl.length : Int) = heightV ps x y ∧ sl.length ≤ 8
  takes : takesV k (argsOf ps k a) ≤ sl.length
  loc : k = 1 ∨ k = 2 → 0 ≤ a ∧ a < ll.length
  jmp : k = 12 ∨ k = 13 → 0 ≤ a ∧ a < (ps.getD x.toNat noFn).2.2.length
  call : k = 14 → 0 ≤ a ∧ a < ps.length
  num : k = 0 → isNum a = true
  numl : numsB ll = true
  nums : numsB sl = true
  deep : fs.length + 1 ≤ 12
theorem WInv.high {ps : List Fn} {l : List (Int × Int)} {out : List Int} (h : WInv ps l out []) (hl : 0 < l.length) {i : Nat} (hr : Reach l i) : out.getD i 0 ≤ 8 := by
  refine (hr (fun i => i < l.length ∧ 0 ≤ out.getD i 0 ∧ out.getD i 0 ≤ 8) ⟨hl, by rw [h.first]; omega, by rw [h.first]; omega⟩ (fun p q hp hq => ?_)).2.2
  have hq' := nextL_in _ hq
  rcases h.gone p hp.1 hp.2.1 with h1 | h1
  · cases h1
  · exact ⟨by omega, by rw [h1.2.2 q hq]; exact goes_nonneg h1.1, by rw [h1.2.2 q hq]; exact h1.2.1⟩
/-- What a reached pc of a verified program is. -/
theorem at_reached {ps : List Fn} {x y : Int} (hv : verV ps = 0) (h : 0 ≤ heightV ps x y) : ∃ f q : Nat, x = f ∧ y = q ∧ f < ps.length ∧ q < (ps.getD f noFn).2.2.length ∧ heightV ps x y = (htsV ps x).1.getD q 0 ∧ WInv ps (ps.getD f noFn).2.2 (htsV ps x).1 [] ∧
    Gone ps (ps.getD f noFn).2.2 (htsV ps x).1 q ∧ Reach (ps.getD f noFn).2.2 q ∧ heightV ps x y ≤ 8 ∧
    rangedB ps.length (ps.getD f noFn).2.1 (ps.getD f noFn).2.2.length (insAt (ps.getD f noFn).2.2 q).1 (insAt (ps.getD f noFn).2.2 q).2 = true ∧ openEnd (ps.getD f noFn) = false := by
  obtain ⟨f, q, rfl, rfl, hf, hq, he, hq', hh⟩ := reached_in h
  obtain ⟨_, f', e, _, hw, _, hr, ho⟩ := hts_ok he
  have : f' = f := by omega
  subst this
  have h0 : 0 ≤ (htsV ps (f' : Int)).1.getD q 0 := by rw [← hh]; exact h
  have hR := hw.only q hq h0
  refine ⟨f', q, rfl, rfl, hf, hq, hh, hw, ?_, hR, by rw [hh]; exact hw.high (by omega) hR, hr q hR, ho⟩
  rcases hw.gone q hq h0 with h1 | h1
  · cases h1
  · exact h1
/-- The heights of those behind it. -/
theorem next_height {ps : List Fn} {x y : Int} {q' : Nat} (hv : verV ps = 0) (h : 0 ≤ heightV ps x y) (hn : (q' : Int) ∈ nextL (ps.getD x.toNat noFn).2.2 y.toNat) :
    heightV ps x q' = heightV ps x y - takesV (insAt (ps.getD x.toNat noFn).2.2 y.toNat).1 (argsOf ps (insAt (ps.getD x.toNat noFn).2.2 y.toNat).1 (insAt (ps.getD x.toNat noFn).2.2 y.toNat).2) + putsV (insAt (ps.getD x.toNat noFn).2.2 y.toNat).1 ∧ 0 ≤ heightV ps x q' := by
  obtain ⟨f, q, rfl, rfl, hf, hq, hh, hw, hg, hR, h8, hr, ho⟩ := at_reached hv h
  rw [Int.toNat_natCast, Int.toNat_natCast] at *
  have hin := nextL_in _ hn
  have he : (htsV ps (f : Int)).2.2 = 0 := ver_at hv hf
  have e1 : heightV ps (f : Int) (q' : Int) = (htsV ps (f : Int)).1.getD q' 0 := height_at he (by rw [hw.len]; omega)
  rw [e1, hg.2.2 q' hn, hh]
  exact ⟨rfl, goes_nonneg hg.1⟩
/-- Where it does not end, there is a next one. -/
theorem next_in {ps : List Fn} {x y : Int} (hv : verV ps = 0) (h : 0 ≤ heightV ps x y) :
    (¬ (insAt (ps.getD x.toNat noFn).2.2 y.toNat).1 = 12 → ¬ (insAt (ps.getD x.toNat noFn).2.2 y.toNat).1 = 16 → ((y.toNat + 1 : Nat) : Int) ∈ nextL (ps.getD x.toNat noFn).2.2 y.toNat) ∧
    ((insAt (ps.getD x.toNat noFn).2.2 y.toNat).1 = 12 ∨ (insAt (ps.getD x.toNat noFn).2.2 y.toNat).1 = 13 → 0 ≤ (insAt (ps.getD x.toNat noFn).2.2 y.toNat).2 → (insAt (ps.getD x.toNat noFn).2.2 y.toNat).2 ∈ nextL (ps.getD x.toNat noFn).2.2 y.toNat) := by
  obtain ⟨f, q, rfl, rfl, hf, hq, hh, hw, hg, hR, h8, hr, ho⟩ := at_reached hv h
  rw [Int.toNat_natCast, Int.toNat_natCast] at *
  generalize ps.getD f noFn = F at *
  obtain ⟨fa, fl, l⟩ := F
  simp only at *
  have hkk : l.getD q (0, 0) = insAt l q := rfl
  constructor
  · intro h12 h16
    have hlt : q + 1 < l.length := by
      rcases Nat.lt_or_ge (q + 1) l.length with h1 | h1
      · exact h1
      · exfalso
        have hql : q = l.length - 1 := by omega
        unfold openEnd at ho
        simp only at ho
        rw [← hql, ((reachL_marked (by omega)).2 q hq).2 hR] at ho
        simp [h12, h16] at ho
    have h1 : ((q + 1 : Nat) : Int) ∈ fallL l.length q (insAt l q).1 := by
      rw [fallL_yes h12 h16, addN_yes (by simp [inB]; omega) (by simp [hasB])]; simp
    unfold nextL nextOf
    rw [hkk]
    split
    · unfold addN; split
      · exact List.mem_append_left _ h1
      · exact h1
    · exact h1
  · intro hj h0
    have hlt : (insAt l q).2 < l.length := by
      unfold rangedB at hr
      rw [if_neg (by omega), if_pos hj] at hr
      simpa using hr
    unfold nextL nextOf
    rw [hkk, if_pos (by simp [isBr]; exact hj)]
    unfold addN; split
    · simp
    · rename_i hc
      have hi : inB l.length (insAt l q).2 = true := by simp [inB]; omega
      cases hb : hasB (fallL l.length q (insAt l q).1) (insAt l q).2
      · exact absurd ⟨hi, hb⟩ hc
      · simpa [hasB] using hb
theorem ver_may {ps : List Fn} (hv : verV ps = 0) {f q : Nat} (hf : f < ps.length) (hq : q < (ps.getD f noFn).2.2.length) : mayB (insAt (ps.getD f noFn).2.2 q).1 (insAt (ps.getD f noFn).2.2 q).2 = true := by
  have h1 := fnB_of (ver_packs hv) hf rfl
  generalize ps.getD f noFn = F at h1 hq ⊢
  obtain ⟨a, b, l⟩ := F
  exact mayB_of h1 hq rfl
theorem state_parts {ps : List Fn} {s : St} (h : stateB ps s = true) : verV ps = 0 ∧ fuelB s.2.1 s.2.2.1.length = true ∧ numsB s.2.2.1 = true ∧ outB s.2.2.2.1 s.2.2.2.2 s.1.length = true ∧ ∀ i, i < s.1.length → callAt ps s.1 i = true := by
  unfold stateB at h
  simp only [Bool.and_eq_true, decide_eq_true_eq] at h
  exact ⟨h.2.2.2.1, h.1, h.2.1, h.2.2.1, callsB_iff.1 h.2.2.2.2⟩
theorem frParts {ps : List Fn} {less : Int} {f : Fr} (h : frB ps less f = true) : 0 ≤ heightV ps f.1 f.2.1 ∧ (f.2.2.1.length : Int) = (ps.getD f.1.toNat noFn).2.1 ∧ (f.2.2.2.length : Int) = heightV ps f.1 f.2.1 - less ∧ numsB f.2.2.1 = true ∧ numsB f.2.2.2 = true := by
  unfold frB reachedB lenB at h
  simp only [Bool.and_eq_true, decide_eq_true_eq] at h
  exact h
theorem frB_of {ps : List Fn} {less x y : Int} {ll sl : List Int} (h : 0 ≤ heightV ps x y) (h1 : (ll.length : Int) = (ps.getD x.toNat noFn).2.1) (h2 : (sl.length : Int) = heightV ps x y - less) (h3 : numsB ll = true) (h4 : numsB sl = true) : frB ps less (x, y, ll, sl) = true := by
  unfold frB reachedB lenB
  simp only [Bool.and_eq_true, decide_eq_true_eq]
  exact ⟨h, h1, h2, h3, h4⟩
/-- A state that may be and is not done: its last frame. -/
theorem ok_of {ps : List Fn} {s : St} (h : stateB ps s = true) (hd : s.2.2.2.1 = 0) : ∃ fs x y ll sl, s.1 = fs ++ [(x, y, ll, sl)] ∧ s.2.2.2.2 = 0 ∧ Ok ps fs x y ll sl (topI ps (x, y, ll, sl)).1 (topI ps (x, y, ll, sl)).2 := by
  obtain ⟨hv, hf, hn, ho, hc⟩ := state_parts h
  unfold outB at ho
  rw [if_pos hd] at ho
  simp at ho
  obtain ⟨fs, p, e⟩ : ∃ fs p, s.1 = fs ++ [p] := by
    rcases List.eq_nil_or_concat s.1 with h0 | ⟨a, b, h0⟩
    · rw [h0] at ho; simp at ho
    · exact ⟨a, b, by simpa using h0⟩
  obtain ⟨x, y, ll, sl⟩ := p
  refine ⟨fs, x, y, ll, sl, e, ho.1, ?_⟩
  have h1 := hc fs.length (by rw [e]; simp)
  unfold callAt at h1
  rw [e, if_pos (by simp), getD_snoc_eq _ _ _ _ rfl] at h1
  obtain ⟨k1, k2, k3, k4, k5⟩ := frParts h1
  simp only [] at k1 k2 k3 k4 k5
  obtain ⟨f, q, rfl, rfl, hf', hq, hh, hw, hg, hR, h8, hr, hoe⟩ := at_reached hv k1
  have hm := ver_may hv hf' hq
  have hk := may_kind hm
  have hfn := ver_fn hv hf' (x := (ps.getD f noFn).1) (y := (ps.getD f noFn).2.1) (l := (ps.getD f noFn).2.2) rfl
  have htk := hg.1
  unfold takesAt at htk
  have e0 : topI ps ((f : Int), (q : Int), ll, sl) = insAt (ps.getD f noFn).2.2 q := rfl
  rw [e0]
  simp only [Int.toNat_natCast] at k2
  have hlen : (fs ++ [((f : Int), (q : Int), ll, sl)]).length ≤ 12 := by rw [← e]; omega
  simp at hlen
  refine ⟨hv, ⟨by omega, by omega⟩, by simp only [Int.toNat_natCast]; omega, rfl, hk, by simp only [Int.toNat_natCast]; omega, by omega, by omega, fun h1 => ?_, fun h1 => ?_, fun h1 => ?_, fun h1 => ?_, k4, k5, by omega⟩
  · unfold rangedB at hr
    rw [if_pos h1] at hr
    have hm2 : belowB (insAt (ps.getD f noFn).2.2 q).2 8 = true := by rcases h1 with h1 | h1 <;> (rw [h1] at hm; exact hm)
    have hm3 := of_decide_eq_true hm2
    have hr3 := of_decide_eq_true hr
    omega
  · unfold rangedB at hr
    rw [if_neg (by omega), if_pos h1] at hr
    have hm2 : belowB (insAt (ps.getD f noFn).2.2 q).2 64 = true := by rcases h1 with h1 | h1 <;> (rw [h1] at hm; exact hm)
    have hm3 := of_decide_eq_true hm2
    have hr3 := of_decide_eq_true hr
    simp only [Int.toNat_natCast]
    omega
  · unfold rangedB at hr
    rw [if_neg (by omega), if_neg (by omega), if_pos h1] at hr
    rw [h1] at hm
    have hm2 : belowB (insAt (ps.getD f noFn).2.2 q).2 8 = true := hm
    have hm3 := of_decide_eq_true hm2
    have hr3 := of_decide_eq_true hr
    omega
  · rw [h1] at hm
    exact hm

end Go.Proofs.YtcngmkbgcfhmdaaGreatDoor

namespace Go.Proofs.YtcngmkbgcfhmdaaGreatDoor
open Go.RowKit
set_option linter.unusedVariables false

/-- A machine amid an instruction: g: the frames' block; x, y, ll, sl: the last frame; w0: the world behind it, which stays. -/
structure Run (w0 wk w : World) (base mb : Nat) (pa : Option Addr) (pn pc g cap : Nat) (t : List U4) (x y : Int) (lv sv : Value) (oa : Option Addr) (on oc : Nat) (fs : List Fr) (ll sl : List Int) (fu : Int) (out : List Int) : Prop where
  X : MX w mb pa pn pc (.slice (some ⟨g, 0, none⟩) (fs.length + 1) cap) fu (.slice oa on oc) 0 0
  M : MSt w base mb (.slice (some ⟨g, 0, none⟩) (fs.length + 1) cap) (t ++ [(x, y, lv, sv)]) (.slice oa on oc) (fs ++ [(x, y, ll, sl)]) out
  old : Below w0.heap.size w0 w
  hb : w0.heap.size ≤ base
  hm : w0.heap.size ≤ mb
  hsz : base ≤ w.heap.size
  kp : Kp mb wk w
section
variable {w0 wk w : World} {base mb : Nat} {pa : Option Addr} {pn pc g cap : Nat} {t : List U4} {x y : Int} {lv sv : Value} {oa : Option Addr} {on oc : Nat} {fs : List Fr} {ll sl : List Int} {fu : Int} {out : List Int}
theorem Run.svLt (h : Run w0 wk w base mb pa pn pc g cap t x y lv sv oa on oc fs ll sl fu out) : ∀ b, sv.ownBlock = some b → base ≤ b ∧ b ≠ mb := fun b hb => ⟨(h.M.stk.2.lt b hb).1, (h.M.rows'.2.2.2.1 b hb).1⟩
theorem Run.lvLt (h : Run w0 wk w base mb pa pn pc g cap t x y lv sv oa on oc fs ll sl fu out) : ∀ b, lv.ownBlock = some b → base ≤ b ∧ b ≠ mb := fun b hb => ⟨(h.M.loc.2.lt b hb).1, (h.M.rows'.2.2.2.2.2.1 b hb).1⟩
theorem Run.stay {S : Nat → Prop} {w' : World} (h : Run w0 wk w base mb pa pn pc g cap t x y lv sv oa on oc fs ll sl fu out) (hf : Frm S w w') (hS : ∀ b, b < base → ¬ S b) : Below w0.heap.size w0 w' :=
  h.old.trans (hf.below h.old.size (fun k hk => hS k (by have := h.hb; omega)))
theorem Run.gK (h : Run w0 wk w base mb pa pn pc g cap t x y lv sv oa on oc fs ll sl fu out) : ∃ cur e z, w.heap[g]? = some (.cells cur e z) ∧ e ≠ 55 := by
  rcases h.M.own'.2 with ⟨e0, _⟩ | ⟨g', cap', cur, e0, _, hg, _⟩
  · cases e0
  · cases e0; exact ⟨cur, _, _, hg, by decide⟩
theorem Run.rK (h : Run w0 wk w base mb pa pn pc g cap t x y lv sv oa on oc fs ll sl fu out) {u : Value} (hu : u ∈ Value.slice oa on oc :: rowsR (t ++ [(x, y, lv, sv)]).reverse) {b : Nat} (hb : u.ownBlock = some b) : ∃ cur e z, w.heap[b]? = some (.cells cur e z) ∧ e ≠ 55 := by
  obtain ⟨_, _, _, cur, hc⟩ := h.M.rows.lt u hu b hb
  exact ⟨cur, _, _, hc, by decide⟩
theorem Run.next {w' : World} {sv' : Value} {sl' : List Int} (h : Run w0 wk w base mb pa pn pc g cap t x y lv sv oa on oc fs ll sl fu out) (hf : Frm (fun b => b = g ∨ sv.ownBlock = some b) w w')
    (m : MSt w' base mb (.slice (some ⟨g, 0, none⟩) (fs.length + 1) cap) (t ++ [(x, y, lv, sv')]) (.slice oa on oc) (fs ++ [(x, y, ll, sl')]) out) : Run w0 wk w' base mb pa pn pc g cap t x y lv sv' oa on oc fs ll sl' fu out := by
  have hg := h.M.gNe
  refine ⟨h.X.frm hf (fun e => ?_), m, h.stay hf (fun b hb e => ?_), h.hb, h.hm, Nat.le_trans h.hsz hf.size, h.kp.frm hf (fun b e => .inr ?_)⟩
  · rcases e with e | e
    · exact hg.1 e.symm
    · exact (h.svLt mb e).2 rfl
  · rcases e with e | e
    · have := hg.2.1; omega
    · have := (h.svLt b e).1; omega
  · rcases e with e | e
    · rw [e]; exact h.gK
    · exact h.rK (u := sv) (by simp [rowsR]) e
theorem Run.mach (h : Run w0 wk w base mb pa pn pc g cap t x y lv sv oa on oc fs ll sl fu out) : Mach w0 wk w base mb pa pn pc (fs ++ [(x, y, ll, sl)], fu, out, 0, 0) :=
  ⟨⟨_, _, _, _, _, _, _, h.X, h.M⟩, h.old, h.hb, h.hm, h.hsz, h.kp⟩
theorem Run.kept {w' : World} (h : Run w0 wk w base mb pa pn pc g cap t x y lv sv oa on oc fs ll sl fu out) (hb : Below w.heap.size w w') : Run w0 wk w' base mb pa pn pc g cap t x y lv sv oa on oc fs ll sl fu out :=
  ⟨h.X.kept hb, h.M.kept hb, kt h.old hb, h.hb, h.hm, Nat.le_trans h.hsz hb.size, h.kp.kept hb⟩
theorem Run.over (h : Run w0 wk w base mb pa pn pc g cap t x y lv sv oa on oc fs ll sl fu out) (d z : Int) :
    Mach w0 wk (((w.setCell ⟨mb, 1, none⟩ (.slice none 0 0)).setCell ⟨mb, 4, none⟩ (.int .i64 d)).setCell ⟨mb, 5, none⟩ (.int .i64 z)) base mb pa pn pc ([], fu, out, d, z) :=
  ⟨⟨none, 0, 0, [], oa, on, oc, ((h.X.set1 _).set4 _).set5 _, ((h.M.over.setM _ _).setM _ _).setM _ _⟩, ((h.old.setCell (p := ⟨mb, 1, none⟩) h.hm _).setCell (p := ⟨mb, 4, none⟩) h.hm _).setCell (p := ⟨mb, 5, none⟩) h.hm _, h.hb, h.hm, (by have := h.hsz; simpa using this), ((h.kp.setM _ _).setM _ _).setM _ _⟩
end

section
variable {w0 wk : World} {base mb : Nat} {pa : Option Addr} {pn pc g cap : Nat} {t : List U4} {x y : Int} {lv sv : Value} {oa : Option Addr} {on oc : Nat} {fs : List Fr} {ll sl : List Int} {fu : Int} {out : List Int}
theorem put_run (z : Int) (w : World) (h : Run w0 wk w base mb pa pn pc g cap t x y lv sv oa on oc fs ll sl fu out) (hl : sl.length ≤ 100) :
    Calls Tryz.prog 68 #[.pointer (some ⟨g, fs.length * 4, none⟩), .int .i64 z] w fun e w' => e = .returned (.tuple #[]) ∧ ∃ sv', Run w0 wk w' base mb pa pn pc g cap t x y lv sv' oa on oc fs ll (sl ++ [z]) fu out := by
  refine (stpPut_any z w h.M hl h.hsz).mono ?_
  rintro e w' ⟨rfl, hf, sv', m⟩
  exact ⟨rfl, sv', h.next hf m⟩
theorem take_run {z : Int} (w : World) (h : Run w0 wk w base mb pa pn pc g cap t x y lv sv oa on oc fs ll (sl ++ [z]) fu out) (hl : sl.length ≤ 100) :
    Calls Tryz.prog 69 #[.pointer (some ⟨g, fs.length * 4, none⟩)] w fun e w' => e = .returned (.int .i64 z) ∧ ∃ sv', Run w0 wk w' base mb pa pn pc g cap t x y lv sv' oa on oc fs ll sl fu out ∧ Frm (fun b => b = g) w w' ∧ w'.heap.size = w.heap.size ∧ sv'.ownBlock = sv.ownBlock := by
  refine (stpTake_any w h.M hl).mono ?_
  rintro e w' ⟨rfl, sv', m, hs, rfl⟩
  exact ⟨rfl, sv', h.next (Frm.set _ (.inl rfl)) m, Frm.set _ rfl, by simp, hs⟩
theorem end_run (d z : Int) (w : World) (h : Run w0 wk w base mb pa pn pc g cap t x y lv sv oa on oc fs ll sl fu out) :
    Calls Tryz.prog 47 #[.pointer (some ⟨mb, 0, none⟩), .int .i64 d, .int .i64 z] w fun e w' => e = .returned (.tuple #[]) ∧ Mach w0 wk w' base mb pa pn pc ([], fu, out, d, z) := by
  refine (end_any d z w h.X).mono ?_
  rintro e w' ⟨rfl, rfl⟩
  exact ⟨rfl, h.over d z⟩

set_option maxHeartbeats 2000000 in
theorem operate_run {a b : Int} (k : Int) (w : World) (h : Run w0 wk w base mb pa pn pc g cap t x y lv sv oa on oc fs ll (sl ++ [a] ++ [b]) fu out) (hl : sl.length ≤ 50) :
    Calls Tryz.prog 70 #[.pointer (some ⟨mb, 0, none⟩), .pointer (some ⟨g, fs.length * 4, none⟩), .int .i64 k] w fun e w' => e = .returned (.tuple #[]) ∧
      Mach w0 wk w' base mb pa pn pc (if trapB k a b = true then ([], fu, out, 2, 0) else (fs ++ [(x, y, ll, sl ++ [doV k a b])], fu, out, 0, 0)) := by
  have H := hid h
  generalize hS : (if trapB k a b = true then (([], fu, out, 2, 0) : St) else (fs ++ [(x, y, ll, sl ++ [doV k a b])], fu, out, 0, 0)) = S
  have HS := hid hS
  clear h hS
  go_enter Tryz.func70, Tryz.ntmps70
  go_wp2_with fail
  refine (take_run _ H.out (by simp; omega)).mono ?_
  rintro e w1 ⟨rfl, sv1, h1, -, -, -⟩
  have H1 := hid h1
  clear h1
  go_wp2_with fail
  refine (take_run _ H1.out (by omega)).mono ?_
  rintro e w2 ⟨rfl, sv2, h2, -, -, -⟩
  have H2 := hid h2
  clear h2
  go_wp2_with fail
  refine (do_any _ _ _ _).mono ?_
  rintro e w3 ⟨rfl, rfl⟩
  cases ht : trapB k a b
  · go_wp2_with fail
    refine (put_run _ _ H2.out (by omega)).mono ?_
    rintro e w4 ⟨rfl, sv4, h4⟩
    have H4 := hid h4
    clear h4
    go_wp2_with fail
    go_end0
    refine ⟨rfl, ?_⟩
    rw [← HS.out, ht]
    exact H4.out.mach
  · go_wp2_with fail
    refine (end_run _ _ _ H2.out).mono ?_
    rintro e w4 ⟨rfl, h4⟩
    have H4 := hid h4
    clear h4
    go_wp2_with fail
    refine bodyPost_ret (results_none rfl _ _ _) rfl ⟨rfl, ?_⟩
    rw [← HS.out, ht]
    exact H4.out

set_option maxHeartbeats 2000000 in
theorem ret_run (z : Int) (w : World) (h : Run w0 wk w base mb pa pn pc g cap t x y lv sv oa on oc fs ll sl fu out) (hd : fs.length + 1 ≤ 12) (hl : ∀ f ∈ fs, f.2.2.2.length ≤ 50) :
    Calls Tryz.prog 72 #[.pointer (some ⟨mb, 0, none⟩), .int .i64 z] w fun e w' => e = .returned (.tuple #[]) ∧ Mach w0 wk w' base mb pa pn pc (retV fs z fu out) := by
  obtain ⟨c0, c1, c2, c3, c4, c5, fz⟩ := h.X
  have f1 := fz 1
  have hcap : fs.length + 1 ≤ cap := by
    rcases h.M.own'.2 with ⟨e0, _⟩ | ⟨_, _, _, e0, _, _, h3, _⟩
    · cases e0
    · cases e0; exact h3
  have H := hid h
  clear fz h
  by_cases h0 : fs = []
  · subst h0
    have EV : Hid (retV [] z fu out = ([], fu, out, 1, z)) := hid rfl
    rw [EV.out]
    simp only [List.length_nil] at c1 hcap hd
    go_enter Tryz.func72, Tryz.ntmps72
    go_wp2_with fail
    refine (end_run _ _ _ H.out).mono ?_
    rintro e w4 ⟨rfl, h4⟩
    have H4 := hid h4
    clear h4
    go_wp2_with fail
    exact bodyPost_ret (results_none rfl _ _ _) rfl ⟨rfl, H4.out⟩
  · obtain ⟨f0, p, rfl⟩ : ∃ f0 p, fs = f0 ++ [p] := by
      rcases List.eq_nil_or_concat fs with e | ⟨a, b, e⟩
      · exact absurd e h0
      · exact ⟨a, b, by simpa using e⟩
    obtain ⟨px, py, pl, psk⟩ := p
    have hpl := hl (px, py, pl, psk) (by simp)
    simp only [] at hpl
    have EV : Hid (retV (f0 ++ [(px, py, pl, psk)]) z fu out = (f0 ++ [(px, py, pl, psk ++ [z])], fu, out, 0, 0)) := hid (by simp [retV])
    rw [EV.out]
    have m1 := H.out.M.pop
    have el : (f0 ++ [(px, py, pl, psk)]).length = f0.length + 1 := by simp
    rw [el] at m1 c1 hcap hd
    obtain ⟨t0, plv, psv, g', cap', et, etl, ev⟩ := m1.top
    cases ev
    subst et
    have R1 : Hid (Run w0 wk (w.setCell ⟨mb, 1, none⟩ (.slice (some ⟨g, 0, none⟩) (f0.length + 1) cap)) base mb pa pn pc g cap t0 px py plv psv oa on oc f0 pl psk fu out) :=
      hid ⟨H.out.X.set1 _, m1.setM _ _, H.out.old.setCell (p := ⟨mb, 1, none⟩) H.out.hm _, H.out.hb, H.out.hm, (by have := H.out.hsz; simpa using this), H.out.kp.setM _ _⟩
    have hb1 : ¬ (f0.length + 1 = 0) := by omega
    clear m1 el EV h0 hl
    go_enter Tryz.func72, Tryz.ntmps72
    go_wp2_with fail
    refine (top_any _ R1.out.X (by omega)).mono ?_
    rintro e w2 ⟨rfl, b2⟩
    have R2 := hid (R1.out.kept b2)
    clear b2
    go_wp2_with fail
    refine (put_run _ _ R2.out (by omega)).mono ?_
    rintro e w4 ⟨rfl, sv4, h4⟩
    have H4 := hid h4
    clear h4
    go_wp2_with fail
    go_end0
    exact ⟨rfl, H4.out.mach⟩
end

end Go.Proofs.YtcngmkbgcfhmdaaGreatDoor

namespace Go.Proofs.YtcngmkbgcfhmdaaGreatDoor
open Go.RowKit
set_option linter.unusedVariables false

theorem Tryz.infoFrm : (Tryz.prog.info? 51).map (fun i => (i.zero, i.size, i.bytes)) = some (some (.agg #[.int .i64 0, .int .i64 0, .slice none 0 0, .slice none 0 0]), 4, 64) := by kernel_rfl

theorem freshS_len (k : Nat) (args : List Int) : (freshL k args).length = k := by simp [freshL]
theorem madeS_ints (n : Nat) : madeCells #[.int .i64 0] n = (ints (List.replicate n 0)).toArray := by
  have : (ints (List.replicate n 0)) = List.replicate n (.int .i64 0) := by simp [ints]
  rw [this, ← toList_madeCells_one]
theorem ownsS_full {w : World} {base e g n : Nat} {xs : List Int} (hl : xs.length = n) (hb : base ≤ g) (hm : n ≤ maxLen) (h : w.heap[g]? = some (.cells (ints xs).toArray e (0, 0))) : w.ownsRow base e 1 (.slice (some ⟨g, 0, none⟩) n n) xs.length (ints xs) := by
  subst hl
  refine ⟨by simp [ints_len], .inr ⟨g, xs.length, (ints xs).toArray, rfl, hb, h, Nat.le_refl _, hm, by simp [ints_len], ?_⟩⟩
  simp [ints_len, List.take_of_length_le]
/-- All its blocks lie below B. -/
def InB (B : Nat) (v : Value) (t : List U4) (ov : Value) : Prop := ∀ u ∈ v :: ov :: rowsR t.reverse, ∀ b, u.ownBlock = some b → b < B
theorem MSt.inB {w : World} {base mb : Nat} {v ov : Value} {t : List U4} {fs : List Fr} {out : List Int} (h : MSt w base mb v t ov fs out) : InB w.heap.size v t ov := by
  intro u hu b hb
  rcases List.mem_cons.1 hu with rfl | hu
  · exact (h.own.lt b hb).2
  · exact (h.rows.lt u hu b hb).1
theorem MSt.frmB {S : Nat → Prop} {w w' : World} {base mb B : Nat} {v ov : Value} {t : List U4} {fs : List Fr} {out : List Int} (h : MSt w base mb v t ov fs out) (hi : InB B v t ov) (hf : Frm S w w') (hS : ∀ b, b < B → ¬ S b) : MSt w' base mb v t ov fs out :=
  ⟨h.heads, hf.owns h.own (fun b hb => hS b (hi v (by simp) b hb)), h.rows.frm hf (fun u hu b hb => hS b (hi u (by simp at hu ⊢; exact .inr hu) b hb)), by have := hf.size; have := h.hm; omega, h.vm⟩
theorem InB.sv {B : Nat} {v ov lv sv sv' : Value} {t : List U4} {x y : Int} (h : InB B v (t ++ [(x, y, lv, sv)]) ov) (e : sv'.ownBlock = sv.ownBlock) : InB B v (t ++ [(x, y, lv, sv')]) ov := by
  intro u hu b hb
  simp only [List.reverse_append, List.reverse_cons, List.reverse_nil, List.nil_append, List.singleton_append, rowsR] at hu
  have key : ∀ u ∈ v :: ov :: sv :: lv :: rowsR t.reverse, ∀ b, u.ownBlock = some b → b < B := by
    intro u hu; exact h u (by simpa only [List.reverse_append, List.reverse_cons, List.reverse_nil, List.nil_append, List.singleton_append, rowsR] using hu)
  simp only [List.mem_cons] at hu
  rcases hu with rfl | rfl | rfl | rfl | hu
  · exact key u (by simp) b hb
  · exact key u (by simp) b hb
  · exact key sv (by simp) b (by rw [← e]; exact hb)
  · exact key u (by simp) b hb
  · exact key u (by simp [hu]) b hb
/-- The locals of a new frame while its arguments come, the last one first. -/
def locJ (n : Nat) (ag : List Int) (j : Nat) : List Int := List.replicate j 0 ++ (ag.drop j ++ List.replicate (n - ag.length) 0)
theorem locJ_len {n : Nat} {ag : List Int} {j : Nat} (h : ag.length ≤ n) (hj : j ≤ ag.length) : (locJ n ag j).length = n := by simp [locJ]; omega
theorem locJ_start {n : Nat} {ag : List Int} (h : ag.length ≤ n) : locJ n ag ag.length = List.replicate n 0 := by
  simp [locJ]; congr 1; omega
theorem locJ_end {n : Nat} {ag : List Int} (h : ag.length ≤ n) : locJ n ag 0 = freshL n ag := by
  simp [locJ, freshL, List.take_append, List.take_of_length_le h, List.take_replicate]
theorem locJ_set {n : Nat} {ag : List Int} {j : Nat} (h : ag.length ≤ n) (hj : j < ag.length) : (locJ n ag (j + 1)).set j (ag.getD j 0) = locJ n ag j := by
  apply List.ext_getElem?
  intro i
  have e : ∀ k, (locJ n ag k)[i]? = if i < k then some 0 else (ag.drop k ++ List.replicate (n - ag.length) 0)[i - k]? := by
    intro k
    unfold locJ
    by_cases hk : i < k
    · rw [if_pos hk, List.getElem?_append_left (by simpa using hk), List.getElem?_replicate, if_pos hk]
    · rw [if_neg hk, List.getElem?_append_right (by simp; omega)]; simp
  rw [List.getElem?_set, e, e]
  by_cases h1 : j = i
  · subst h1
    rw [if_pos rfl, if_pos (by rw [locJ_len h (by omega)]; omega), if_neg (by omega), List.getElem?_append_left (by simp; omega), List.getElem?_drop, Nat.sub_self, Nat.add_zero, List.getD_eq_getElem?_getD, List.getElem?_eq_getElem hj]
    rfl
  · rw [if_neg h1]
    by_cases h2 : i < j
    · rw [if_pos (by omega), if_pos h2]
    · rw [if_neg (by omega), if_neg h2, show ag.drop j = ag[j] :: ag.drop (j + 1) from (List.drop_eq_getElem_cons hj), List.cons_append, show i - j = (i - (j + 1)) + 1 by omega, List.getElem?_cons_succ]

/-- What is so while the arguments come. -/
structure CallInv (w0 wk : World) (base mb : Nat) (pa : Option Addr) (pn pc g cap : Nat) (t : List U4) (x y : Int) (lv : Value) (oa : Option Addr) (on oc : Nat) (fs : List Fr) (ll s0 ag : List Int) (fu : Int) (out : List Int) (nl W : Nat) (i : Value) (wr : World) : Prop where
  ex : ∃ (j : Nat) (sv' : Value), j ≤ ag.length ∧ i = .int .i64 ((j : Int) - 1) ∧ Run w0 wk wr base mb pa pn pc g cap t x y lv sv' oa on oc fs ll (s0 ++ ag.take j) fu out ∧ InB W (.slice (some ⟨g, 0, none⟩) (fs.length + 1) cap) (t ++ [(x, y, lv, sv')]) (.slice oa on oc) ∧
      wr.ownsRow base 3 1 (.slice (some ⟨W + 1, 0, none⟩) nl nl) nl (ints (locJ nl ag j)) ∧ W + 2 ≤ wr.heap.size

section
variable {w0 wk : World} {base mb : Nat} {pa : Option Addr} {pn pc g cap : Nat} {t : List U4} {x y : Int} {lv sv : Value} {oa : Option Addr} {on oc : Nat} {fs : List Fr} {ll s0 ag : List Int} {fu : Int} {out : List Int}
set_option maxRecDepth 100000 in
set_option maxHeartbeats 8000000 in
theorem call_run (cf nl : Nat) (ps : List Fn) (code : List (Int × Int)) (w : World) (h : Run w0 wk w base mb pa pn pc g cap t x y lv sv oa on oc fs ll (s0 ++ ag) fu out) (hp : Fns w0 pa pn pc ps) (hcf : cf < ps.length) (hE : ps.getD cf noFn = ((ag.length : Int), (nl : Int), code))
    (han : ag.length ≤ nl) (hnl : nl ≤ 8) (hs0 : s0.length ≤ 50) (hd : fs.length + 1 ≤ 12) :
    Calls Tryz.prog 71 #[.pointer (some ⟨mb, 0, none⟩), .pointer (some ⟨g, fs.length * 4, none⟩), .int .i64 (cf : Int)] w fun e w' => e = .returned (.tuple #[]) ∧
      Mach w0 wk w' base mb pa pn pc (if fs.length + 1 = 12 then ([], fu, out, 3, 0) else (fs ++ [(x, y, ll, s0)] ++ [((cf : Int), 0, freshL nl ag, [])], fu, out, 0, 0)) := by
  obtain ⟨i0, hi, hz0, hz1, hz2⟩ := info_parts Tryz.infoFrm
  have H := hid h
  have HP := hid hp
  generalize hS : (if fs.length + 1 = 12 then (([], fu, out, 3, 0) : St) else (fs ++ [(x, y, ll, s0)] ++ [((cf : Int), 0, freshL nl ag, [])], fu, out, 0, 0)) = S
  have HS := hid hS
  obtain ⟨c0, c1, c2, c3, c4, c5, fz⟩ := h.X
  clear h hp hS fz
  by_cases h12 : fs.length + 1 = 12
  · go_enter Tryz.func71, Tryz.ntmps71
    go_wp2_with fail
    refine (end_run _ _ _ H.out).mono ?_
    rintro e w4 ⟨rfl, h4⟩
    have H4 := hid h4
    clear h4
    go_wp2_with fail
    refine bodyPost_ret (results_none rfl _ _ _) rfl ⟨rfl, ?_⟩
    rw [← HS.out, if_pos h12]
    exact H4.out
  have h12' : (((fs.length : Int) + 1) == 12) = false := by simp; omega
  have hpn : cf < pn := by rw [HP.out.len]; exact hcf
  have hpr := HP.out.room
  have hpc := HP.out.cap
  obtain ⟨b0, o0, fx, fy, fa, fn, fc, fl, rfl, e3, d0, d1, d2, i3⟩ := (HP.out.kept H.out.old).at cf hpn
  rw [hE] at e3
  cases e3
  have hmk := run_make_row' (P := Tryz.prog) 26 3 (.int .i64 0) 8 Tryz.underlying26 Tryz.infoInt rfl .i64 .i64 nl (by omega) (by omega)
  have W2 : Hid (∃ w2 : World, w2 = (w.alloc (.cells #[.int .i64 (ag.length : Int), .int .i64 (nl : Int), .slice fa fn fc] 66)).alloc (.cells (madeCells #[.int .i64 0] nl) 3)) := hid ⟨_, rfl⟩
  obtain ⟨w2, hw2⟩ := W2.out
  have hA : Below w.heap.size w w2 := by rw [hw2]; exact Below.alloc (Below.alloc (Below.refl _ _) (Nat.le_refl _) _) (by simp) _
  have hs2 : w2.heap.size = w.heap.size + 2 := by rw [hw2]; simp
  have A2 := hid hA
  have r0 : w2.cell? ⟨w.heap.size, 0, none⟩ = some (.int .i64 (ag.length : Int)) := by rw [hw2]; simp [go_sem]
  have O2 : Hid (w2.ownsRow base 3 1 (.slice (some ⟨w.heap.size + 1, 0, none⟩) nl nl) nl (ints (locJ nl ag ag.length))) := hid (by
    rw [locJ_start han]
    have := ownsS_full (w := w2) (base := base) (e := 3) (g := w.heap.size + 1) (n := nl) (xs := List.replicate nl 0) (by simp) (by have := H.out.hsz; omega) (by unfold maxLen; omega) (by rw [hw2, show w.heap.size + 1 = (w.alloc (.cells #[.int .i64 (ag.length : Int), .int .i64 (nl : Int), .slice fa fn fc] 66)).heap.size by simp, heap_alloc_new, madeS_ints])
    simpa using this)
  have E2 := hid hw2
  have HS2 := hid hs2
  clear hw2 W2 hs2 hA i3
  go_enter Tryz.func71, Tryz.ntmps71
  go_wp2_with fail
  refine wp_world (U := w2) (by rw [E2.out]) ?_
  clear c0 c1 c2 c3 c4 c5 d0 d1 d2 r0 hmk
  go_loopw [8] (fun i wr => CallInv w0 wk base mb (some ⟨b0, o0, none⟩) pn pc g cap t x y lv oa on oc fs ll s0 ag fu out nl w.heap.size i wr) (fun i _ => (intOf i + 1).toNat)
  case atStart => exact ⟨ag.length, sv, Nat.le_refl _, rfl, by rw [List.take_length]; exact H.out.kept A2.out, H.out.M.inB, O2.out, by rw [HS2.out]; exact Nat.le_refl _⟩
  case round =>
    clear O2 E2 HS2
    obtain ⟨j, sv', hj, hii, hr, hin, ho, hsz⟩ := hrel.ex
    cases j with
    | succ j =>
      have hi2 := hii.trans (show Value.int .i64 (((j + 1 : Nat) : Int) - 1) = Value.int .i64 (j : Int) by congr 1; omega)
      clear hii
      subst hi2
      have hjl : j < ag.length := by omega
      obtain ⟨z, hz⟩ : ∃ z, ag.getD j 0 = z := ⟨_, rfl⟩
      have HZ := hid hz
      have R : Hid (Run w0 wk wr base mb (some ⟨b0, o0, none⟩) pn pc g cap t x y lv sv' oa on oc fs ll (s0 ++ ag.take j ++ [z]) fu out) := hid (by
        rw [List.append_assoc, ← take_snoc_getD (d := 0) hjl hz]; exact hr)
      have HI := hid hin
      have HO := hid ho
      clear hr hin ho hz
      go_wp2_with fail
      refine (take_run _ R.out (by simp; omega)).mono ?_
      rintro e w3 ⟨rfl, sv3, h3, f3, z3, q3⟩
      have hg := R.out.M.gNe
      have hgw := HI.out (.slice (some ⟨g, 0, none⟩) (fs.length + 1) cap) (by simp) g rfl
      have o3 : w3.ownsRow base 3 1 (.slice (some ⟨w.heap.size + 1, 0, none⟩) nl nl) nl (ints (locJ nl ag (j + 1))) := f3.owns HO.out (fun k hk e => by cases hk; have e' : w.heap.size + 1 = g := e; omega)
      have l3 : w3.cell? ⟨w.heap.size + 1, j, none⟩ = some (.int .i64 ((locJ nl ag (j + 1)).getD j 0)) := by
        rw [o3.cellAt _ (by omega), ints_at _ _ (by rw [locJ_len han hj]; omega)]
      have l3f : w3.frozen? ⟨w.heap.size + 1, j, none⟩ = false := o3.frozenAt _
      have Q := hid (And.intro h3 (And.intro o3 (And.intro z3 q3)))
      have hjn : j < nl := by omega
      clear h3 o3 f3 z3 q3 hg
      go_wp2_with fail
      go_roundw
      case rel =>
        obtain ⟨h3, o3, z3, q3⟩ := Q.out
        have fs3 : Frm (fun b => b = w.heap.size + 1) w3 (w3.setCell ⟨w.heap.size + 1, j, none⟩ (.int .i64 (z))) := Frm.set _ rfl
        have hin3 := HI.out.sv q3
        have hmw : mb < w.heap.size := H.out.M.hm
        refine ⟨j, sv3, by omega, rfl, ⟨h3.X.frm fs3 (by omega), h3.M.frmB hin3 fs3 (fun b hb e => by omega), h3.stay fs3 (fun b hb e => by have := H.out.hsz; omega), h3.hb, h3.hm, (by have := h3.hsz; simpa using this), h3.kp.frm fs3 (fun b e => .inr (by
          rw [e]
          rcases o3.2 with ⟨e0, _⟩ | ⟨g', cap', cur, e0, _, hg', _⟩
          · cases e0
          · cases e0; exact ⟨cur, _, _, hg', by decide⟩))⟩, hin3, ?_, by simp; omega⟩
        have := (o3.stored j (.int .i64 (z))).1
        rw [show (ints (locJ nl ag (j + 1))).set j (.int .i64 (z)) = ints ((locJ nl ag (j + 1)).set j (z)) by simp [ints, List.map_set], ← HZ.out, locJ_set han hjl, HZ.out] at this
        exact this
      case measure => simp [intOf] <;> omega
    | zero =>
      have hi2 := hii.trans (show Value.int .i64 (((0 : Nat) : Int) - 1) = Value.int .i64 (-1) from rfl)
      clear hii
      subst hi2
      rw [List.take_zero, List.append_nil] at hr
      rw [locJ_end han] at ho
      have hll : (freshL nl ag).length = nl := freshS_len nl ag
      have hmw : mb < w.heap.size := H.out.M.hm
      have hgw := hin (.slice (some ⟨g, 0, none⟩) (fs.length + 1) cap) (by simp) g rfl
      have hAl : Below wr.heap.size wr (wr.alloc (.cells #[.int .i64 (cf : Int), .int .i64 0, .slice (some ⟨w.heap.size + 1, 0, none⟩) nl nl, .slice none 0 0] 51)) := Below.alloc (Below.refl _ _) (Nat.le_refl _) _
      have R := hid (hr.kept hAl)
      have HI := hid hin
      have HO := hid (owns_kept ho hAl)
      obtain ⟨c0, c1, c2, c3, c4, c5, fz⟩ := hr.X
      have hbs := hr.hsz
      have hgm := hr.M.gNe
      have X1 := (hr.kept hAl).X.c1
      have XF := (hr.kept hAl).X.fz 1
      have J := hid (And.intro X1 XF)
      have OW := hid (hr.kept hAl).M.own'
      have HN : Hid (some mb ≠ (Value.slice (some ⟨g, 0, none⟩) (fs.length + 1) cap).ownBlock) := hid (fun e => hgm.1 (by cases e; rfl))
      clear hr hin ho fz X1 XF hAl c0 c2 c3 c4 c5 hgm
      go_wp2_with (at_builtin; go_must ((refine wpList_append_lies _ rfl _ _ 25 rfl base 51 i0 (.agg #[.int .i64 0, .int .i64 0, .slice none 0 0, .slice none 0 0]) 4 64 Tryz.underlying25 hi hz0 hz1 hz2 rfl (by decide) (.slice (some ⟨g, 0, none⟩) (fs.length + 1) cap) (fs.length + 1) (flat4 (t ++ [(x, y, lv, sv')])) rfl OW.out ⟨wr.heap.size, 0, none⟩ 1 1 [.int .i64 (cf : Int), .int .i64 0, .slice (some ⟨w.heap.size + 1, 0, none⟩) nl nl, .slice none 0 0] rfl rfl (news_of rfl _ 51) (by intro u hu; simp at hu; rcases hu with rfl | rfl | rfl | rfl <;> rfl) (by decide) (by unfold maxLen; omega) (by omega) (by simp; omega) (wr.heap.size + 1) (by simp) ?_; intro g' cap' w6 ho6 hg6 hat hlt6; have q2 := hg6.cell J.out.1 HN.out; have qf2 := (hg6.frozen_far ⟨mb, 1, none⟩ (lt_of_cell J.out.1) HN.out).trans J.out.2; have P := hid (And.intro ho6 (And.intro hg6 hat)); clear ho6 hg6 hat hlt6)))
      go_end0
      obtain ⟨p1, p2, p3⟩ := P.out
      have el : (fs ++ [(x, y, ll, s0)]).length = fs.length + 1 := by simp
      have fr6 : Frm (fun b => (Value.slice (some ⟨g, 0, none⟩) (fs.length + 1) cap).ownBlock = some b) (wr.alloc (.cells #[.int .i64 (cf : Int), .int .i64 0, .slice (some ⟨w.heap.size + 1, 0, none⟩) nl nl, .slice none 0 0] 51)) w6 := Frm.of_grown p2 (fun k hk => hk)
      have hrr := R.out
      have ms := MSt.snoc (x := (cf : Int)) (y := 0) (ll := freshL nl ag) (sl := []) (lv := .slice (some ⟨w.heap.size + 1, 0, none⟩) nl nl) (sv := .slice none 0 0) (B := w.heap.size) hrr.M ⟨by rw [hll]; omega, by rw [hll]; exact HO.out⟩ ⟨by simp, World.ownsRow_nil _ _ _ _⟩
        (fun u hu b hb => HI.out u (by simp at hu ⊢; exact .inr hu) b hb) hmw (fun b hb => by cases hb; show w.heap.size ≤ w.heap.size + 1; omega) (fun b hb => by cases hb) (v' := .slice (some ⟨g', 0, none⟩) (fs.length + 1 + 1) cap') (w' := w6) (by rw [el]; exact p1) fr6 (fun b hb => by
          cases hb
          rcases p3 with e | e
          · exact .inl e
          · right; show _ ≤ g'; rw [e]; simp)
      refine ⟨rfl, ?_⟩
      rw [← HS.out, if_neg h12]
      refine ⟨⟨_, _, _, _, _, _, _, (hrr.X.frm fr6 (fun e => HN.out e.symm)).set1 _, ms.setM _ _⟩, (hrr.stay fr6 (fun b hb e => by have e' : g = b := (by cases e; rfl); have := hrr.M.gNe.2.1; omega)).setCell (p := ⟨mb, 1, none⟩) hrr.hm _, hrr.hb, hrr.hm, (by have := hrr.hsz; have := fr6.size; simp at *; omega), (hrr.kp.frm fr6 (fun b e => .inr (by cases e; exact hrr.gK))).setM _ _⟩
end

end Go.Proofs.YtcngmkbgcfhmdaaGreatDoor

namespace Go.Proofs.YtcngmkbgcfhmdaaGreatDoor
open Go.RowKit
set_option linter.unusedVariables false
section
variable {w0 wk w : World} {base mb : Nat} {pa : Option Addr} {pn pc g cap : Nat} {t : List U4} {x y : Int} {lv sv : Value} {oa : Option Addr} {on oc : Nat} {fs : List Fr} {ll sl : List Int} {fu : Int} {out : List Int}
theorem Run.setPc (h : Run w0 wk w base mb pa pn pc g cap t x y lv sv oa on oc fs ll sl fu out) (z : Int) : Run w0 wk (w.setCell ⟨g, fs.length * 4 + 1, none⟩ (.int .i64 z)) base mb pa pn pc g cap t x z lv sv oa on oc fs ll sl fu out := by
  have hg := h.M.gNe
  have hf : Frm (fun b => b = g) w (w.setCell ⟨g, fs.length * 4 + 1, none⟩ (.int .i64 z)) := Frm.set _ rfl
  exact ⟨h.X.frm hf (fun e => hg.1 e.symm), h.M.pc z, h.stay hf (fun b hb e => by have := hg.2.1; omega), h.hb, h.hm, (by have := h.hsz; simpa using this), h.kp.frm hf (fun b e => .inr (by rw [e]; exact h.gK))⟩
theorem Run.locForm (h : Run w0 wk w base mb pa pn pc g cap t x y lv sv oa on oc fs ll sl fu out) {i : Nat} (hi : i < ll.length) : ∃ lb c, lv = .slice (some ⟨lb, 0, none⟩) ll.length c ∧ ll.length ≤ c ∧ w.cell? ⟨lb, i, none⟩ = some (.int .i64 (ll.getD i 0)) ∧ w.frozen? ⟨lb, i, none⟩ = false := by
  have hr := h.M.loc.2
  rcases hr.2 with ⟨_, e⟩ | ⟨lb, c, cur, rfl, _, _, hc, _⟩
  · omega
  · exact ⟨lb, c, rfl, hc, by rw [hr.cellAt _ (by omega), ints_at _ _ hi], hr.frozenAt _⟩
theorem Run.setLoc {lb n c : Nat} (h : Run w0 wk w base mb pa pn pc g cap t x y (.slice (some ⟨lb, 0, none⟩) n c) sv oa on oc fs ll sl fu out) (i : Nat) (z : Int) : Run w0 wk (w.setCell ⟨lb, i, none⟩ (.int .i64 z)) base mb pa pn pc g cap t x y (.slice (some ⟨lb, 0, none⟩) n c) sv oa on oc fs (ll.set i z) sl fu out := by
  have hl := h.lvLt lb rfl
  have hf : Frm (fun b => b = lb) w (w.setCell ⟨lb, i, none⟩ (.int .i64 z)) := Frm.set _ rfl
  exact ⟨h.X.frm hf (fun e => hl.2 e.symm), h.M.setLoc i z, h.stay hf (fun b hb e => by have := hl.1; omega), h.hb, h.hm, (by have := h.hsz; simpa using this), h.kp.frm hf (fun b e => .inr (by rw [e]; exact h.rK (u := .slice (some ⟨lb, 0, none⟩) n c) (by simp [rowsR]) rfl))⟩
theorem Run.drew (h : Run w0 wk w base mb pa pn pc g cap t x y lv sv oa on oc fs ll sl fu out) : Run w0 wk w.drew base mb pa pn pc g cap t x y lv sv oa on oc fs ll sl fu out := h.kept (Below.drew (Below.refl _ _))
end
section
variable {w0 wk : World} {base mb : Nat} {pa : Option Addr} {pn pc g cap : Nat} {t : List U4} {x y : Int} {lv sv : Value} {oa : Option Addr} {on oc : Nat} {fs : List Fr} {ll sl : List Int} {fu : Int} {out : List Int}
set_option maxHeartbeats 4000000 in
theorem do_const (a : Int) (w : World) (h : Run w0 wk w base mb pa pn pc g cap t x y lv sv oa on oc fs ll sl fu out) (hl : sl.length ≤ 50) :
    Calls Tryz.prog 49 #[.pointer (some ⟨mb, 0, none⟩), .pointer (some ⟨g, fs.length * 4, none⟩), .int .i64 0, .int .i64 a] w fun e w' => e = .returned (.tuple #[]) ∧ Mach w0 wk w' base mb pa pn pc (fs ++ [(x, y, ll, sl ++ [a])], fu, out, 0, 0) := by
  have H := hid h
  clear h
  go_enter Tryz.func49, Tryz.ntmps49
  go_wp2_with fail
  refine (put_run _ _ H.out (by omega)).mono ?_
  rintro e w1 ⟨rfl, sv1, h1⟩
  have H1 := hid h1
  clear h1
  go_wp2_with fail
  go_end0
  exact ⟨rfl, H1.out.mach⟩

set_option maxHeartbeats 4000000 in
theorem do_load (i : Nat) (w : World) (h : Run w0 wk w base mb pa pn pc g cap t x y lv sv oa on oc fs ll sl fu out) (hl : sl.length ≤ 50) (hi : i < ll.length) (hll : ll.length ≤ 8) :
    Calls Tryz.prog 49 #[.pointer (some ⟨mb, 0, none⟩), .pointer (some ⟨g, fs.length * 4, none⟩), .int .i64 1, .int .i64 (i : Int)] w fun e w' => e = .returned (.tuple #[]) ∧ Mach w0 wk w' base mb pa pn pc (fs ++ [(x, y, ll, sl ++ [ll.getD i 0])], fu, out, 0, 0) := by
  obtain ⟨lb, c, rfl, hc, l1, _⟩ := h.locForm hi
  obtain ⟨_, _, c2, _, _⟩ := h.M.cells
  generalize ll.getD i 0 = z at l1 ⊢
  have H := hid h
  clear h
  go_enter Tryz.func49, Tryz.ntmps49
  go_wp2_with fail
  refine (put_run _ _ H.out (by omega)).mono ?_
  rintro e w1 ⟨rfl, sv1, h1⟩
  have H1 := hid h1
  clear h1
  go_wp2_with fail
  go_end0
  exact ⟨rfl, H1.out.mach⟩

attribute [local go_sem ↓] Go.wp_at_zero Go.wp_at_succ in
set_option maxHeartbeats 8000000 in
theorem do_store {z : Int} (i : Nat) (w : World) (h : Run w0 wk w base mb pa pn pc g cap t x y lv sv oa on oc fs ll (sl ++ [z]) fu out) (hl : sl.length ≤ 50) (hi : i < ll.length) (hll : ll.length ≤ 8) :
    Calls Tryz.prog 49 #[.pointer (some ⟨mb, 0, none⟩), .pointer (some ⟨g, fs.length * 4, none⟩), .int .i64 2, .int .i64 (i : Int)] w fun e w' => e = .returned (.tuple #[]) ∧ Mach w0 wk w' base mb pa pn pc (fs ++ [(x, y, ll.set i z, sl)], fu, out, 0, 0) := by
  obtain ⟨lb, c, rfl, hc, l1, _⟩ := h.locForm hi
  have c2 := h.drew.M.cells.2.2.1
  have H := hid h.drew
  clear h l1
  go_enter Tryz.func49, Tryz.ntmps49
  go_wp2_with fail
  go_region_with (go_at_call 69; refine (take_run _ H.out (by omega)).mono ?_; rintro e w1 ⟨rfl, sv1, h1, -, -, -⟩; have d2 := h1.M.cells.2.2.1; have l3 : w1.cell? ⟨lb, i, none⟩ = some (.int .i64 (ll.getD i 0)) ∧ w1.frozen? ⟨lb, i, none⟩ = false := (by obtain ⟨lb', c', e', _, k1, k2⟩ := h1.locForm hi; cases e'; exact ⟨k1, k2⟩); obtain ⟨l3, l3f⟩ := l3; have H1 := hid h1; clear h1)
  all_goals
    go_wp2_with fail
    go_end0
    exact ⟨rfl, (H1.out.setLoc i z).mach⟩

set_option maxHeartbeats 8000000 in
theorem do_op {a b : Int} (k : Int) (hk : 3 ≤ k ∧ k ≤ 9) (c : Int) (w : World) (h : Run w0 wk w base mb pa pn pc g cap t x y lv sv oa on oc fs ll (sl ++ [a] ++ [b]) fu out) (hl : sl.length ≤ 50) :
    Calls Tryz.prog 49 #[.pointer (some ⟨mb, 0, none⟩), .pointer (some ⟨g, fs.length * 4, none⟩), .int .i64 k, .int .i64 c] w fun e w' => e = .returned (.tuple #[]) ∧ Mach w0 wk w' base mb pa pn pc (if trapB k a b = true then ([], fu, out, 2, 0) else (fs ++ [(x, y, ll, sl ++ [doV k a b])], fu, out, 0, 0)) := by
  have H := hid h
  have C := hid (operate_run k w h hl)
  generalize (if trapB k a b = true then (([], fu, out, 2, 0) : St) else (fs ++ [(x, y, ll, sl ++ [doV k a b])], fu, out, 0, 0)) = S at C ⊢
  clear h
  rcases (show k = 3 ∨ k = 4 ∨ k = 5 ∨ k = 6 ∨ k = 7 ∨ k = 8 ∨ k = 9 by omega) with rfl | rfl | rfl | rfl | rfl | rfl | rfl
  all_goals
    go_enter Tryz.func49, Tryz.ntmps49
    go_wp2_with fail
    refine C.out.mono ?_
    rintro e w1 ⟨rfl, h1⟩
    have H1 := hid h1
    clear h1
    go_wp2_with fail
    go_end0
    exact ⟨rfl, H1.out⟩

set_option maxHeartbeats 4000000 in
theorem do_dup {z : Int} (a : Int) (w : World) (h : Run w0 wk w base mb pa pn pc g cap t x y lv sv oa on oc fs ll (sl ++ [z]) fu out) (hl : sl.length ≤ 50) :
    Calls Tryz.prog 49 #[.pointer (some ⟨mb, 0, none⟩), .pointer (some ⟨g, fs.length * 4, none⟩), .int .i64 10, .int .i64 a] w fun e w' => e = .returned (.tuple #[]) ∧ Mach w0 wk w' base mb pa pn pc (fs ++ [(x, y, ll, sl ++ [z] ++ [z])], fu, out, 0, 0) := by
  have H := hid h
  clear h
  go_enter Tryz.func49, Tryz.ntmps49
  go_wp2_with fail
  refine (take_run _ H.out (by omega)).mono ?_
  rintro e w1 ⟨rfl, sv1, h1, -, -, -⟩
  have H1 := hid h1
  clear h1
  go_wp2_with fail
  refine (put_run _ _ H1.out (by omega)).mono ?_
  rintro e w2 ⟨rfl, sv2, h2⟩
  have H2 := hid h2
  clear h2
  go_wp2_with fail
  refine (put_run _ _ H2.out (by simp; omega)).mono ?_
  rintro e w3 ⟨rfl, sv3, h3⟩
  have H3 := hid h3
  clear h3
  go_wp2_with fail
  go_end0
  exact ⟨rfl, H3.out.mach⟩

set_option maxHeartbeats 4000000 in
theorem do_drop {z : Int} (a : Int) (w : World) (h : Run w0 wk w base mb pa pn pc g cap t x y lv sv oa on oc fs ll (sl ++ [z]) fu out) (hl : sl.length ≤ 50) :
    Calls Tryz.prog 49 #[.pointer (some ⟨mb, 0, none⟩), .pointer (some ⟨g, fs.length * 4, none⟩), .int .i64 11, .int .i64 a] w fun e w' => e = .returned (.tuple #[]) ∧ Mach w0 wk w' base mb pa pn pc (fs ++ [(x, y, ll, sl)], fu, out, 0, 0) := by
  have H := hid h
  clear h
  go_enter Tryz.func49, Tryz.ntmps49
  go_wp2_with fail
  refine (take_run _ H.out (by omega)).mono ?_
  rintro e w1 ⟨rfl, sv1, h1, -, -, -⟩
  have H1 := hid h1
  clear h1
  go_wp2_with fail
  go_end0
  exact ⟨rfl, H1.out.mach⟩

set_option maxHeartbeats 4000000 in
theorem do_jump (a : Int) (w : World) (h : Run w0 wk w base mb pa pn pc g cap t x y lv sv oa on oc fs ll sl fu out) :
    Calls Tryz.prog 49 #[.pointer (some ⟨mb, 0, none⟩), .pointer (some ⟨g, fs.length * 4, none⟩), .int .i64 12, .int .i64 a] w fun e w' => e = .returned (.tuple #[]) ∧ Mach w0 wk w' base mb pa pn pc (fs ++ [(x, a, ll, sl)], fu, out, 0, 0) := by
  obtain ⟨_, c1, _, _, hf⟩ := h.M.cells
  have f1 := hf (fs.length * 4 + 1)
  have H := hid h
  clear h hf
  go_enter Tryz.func49, Tryz.ntmps49
  go_wp2_with fail
  go_end0
  exact ⟨rfl, (H.out.setPc a).mach⟩

set_option maxHeartbeats 4000000 in
theorem do_zero {z : Int} (a : Int) (w : World) (h : Run w0 wk w base mb pa pn pc g cap t x y lv sv oa on oc fs ll (sl ++ [z]) fu out) (hl : sl.length ≤ 50) :
    Calls Tryz.prog 49 #[.pointer (some ⟨mb, 0, none⟩), .pointer (some ⟨g, fs.length * 4, none⟩), .int .i64 13, .int .i64 a] w fun e w' => e = .returned (.tuple #[]) ∧ Mach w0 wk w' base mb pa pn pc (fs ++ [(x, if z = 0 then a else y, ll, sl)], fu, out, 0, 0) := by
  have H := hid h
  clear h
  by_cases h0 : z = 0
  · subst h0
    rw [if_pos rfl]
    go_enter Tryz.func49, Tryz.ntmps49
    go_wp2_with fail
    refine (take_run _ H.out (by omega)).mono ?_
    rintro e w1 ⟨rfl, sv1, h1, -, -, -⟩
    obtain ⟨_, c1, _, _, hf⟩ := h1.M.cells
    have f1 := hf (fs.length * 4 + 1)
    have H1 := hid h1
    clear h1 hf
    go_wp2_with fail
    go_end0
    exact ⟨rfl, (H1.out.setPc a).mach⟩
  · rw [if_neg h0]
    have h0' : (z != 0) = true := by simpa using h0
    go_enter Tryz.func49, Tryz.ntmps49
    go_wp2_with fail
    refine (take_run _ H.out (by omega)).mono ?_
    rintro e w1 ⟨rfl, sv1, h1, -, -, -⟩
    have H1 := hid h1
    clear h1 h0
    go_wp2_with fail
    exact bodyPost_ret (results_none rfl _ _ _) rfl ⟨rfl, H1.out.mach⟩

set_option maxHeartbeats 4000000 in
theorem do_call {s0 ag : List Int} (cf nl : Nat) (ps : List Fn) (code : List (Int × Int)) (w : World) (h : Run w0 wk w base mb pa pn pc g cap t x y lv sv oa on oc fs ll (s0 ++ ag) fu out) (hp : Fns w0 pa pn pc ps) (hcf : cf < ps.length) (hE : ps.getD cf noFn = ((ag.length : Int), (nl : Int), code))
    (han : ag.length ≤ nl) (hnl : nl ≤ 8) (hs0 : s0.length ≤ 50) (hd : fs.length + 1 ≤ 12) :
    Calls Tryz.prog 49 #[.pointer (some ⟨mb, 0, none⟩), .pointer (some ⟨g, fs.length * 4, none⟩), .int .i64 14, .int .i64 (cf : Int)] w fun e w' => e = .returned (.tuple #[]) ∧
      Mach w0 wk w' base mb pa pn pc (if fs.length + 1 = 12 then ([], fu, out, 3, 0) else (fs ++ [(x, y, ll, s0)] ++ [((cf : Int), 0, freshL nl ag, [])], fu, out, 0, 0)) := by
  have C := hid (call_run cf nl ps code w h hp hcf hE han hnl hs0 hd)
  generalize (if fs.length + 1 = 12 then (([], fu, out, 3, 0) : St) else (fs ++ [(x, y, ll, s0)] ++ [((cf : Int), 0, freshL nl ag, [])], fu, out, 0, 0)) = S at C ⊢
  clear h hp hE
  go_enter Tryz.func49, Tryz.ntmps49
  go_wp2_with fail
  refine C.out.mono ?_
  rintro e w1 ⟨rfl, h1⟩
  have H1 := hid h1
  clear h1
  go_wp2_with fail
  go_end0
  exact ⟨rfl, H1.out⟩

set_option maxHeartbeats 4000000 in
theorem do_ret {z : Int} (a : Int) (w : World) (h : Run w0 wk w base mb pa pn pc g cap t x y lv sv oa on oc fs ll (sl ++ [z]) fu out) (hl : sl.length ≤ 50) (hd : fs.length + 1 ≤ 12) (hst : ∀ f ∈ fs, f.2.2.2.length ≤ 50) :
    Calls Tryz.prog 49 #[.pointer (some ⟨mb, 0, none⟩), .pointer (some ⟨g, fs.length * 4, none⟩), .int .i64 16, .int .i64 a] w fun e w' => e = .returned (.tuple #[]) ∧ Mach w0 wk w' base mb pa pn pc (retV fs z fu out) := by
  have H := hid h
  have HST := hid hst
  generalize hS : retV fs z fu out = S
  have HS := hid hS
  clear h hst hS
  go_enter Tryz.func49, Tryz.ntmps49
  go_wp2_with fail
  refine (take_run _ H.out (by omega)).mono ?_
  rintro e w1 ⟨rfl, sv1, h1, -, -, -⟩
  have H1 := hid h1
  clear h1
  go_wp2_with fail
  refine (ret_run _ _ H1.out hd HST.out).mono ?_
  rintro e w2 ⟨rfl, h2⟩
  have H2 := hid h2
  clear h2
  go_wp2_with fail
  go_end0
  exact ⟨rfl, by rw [← HS.out]; exact H2.out⟩
end

end Go.Proofs.YtcngmkbgcfhmdaaGreatDoor

namespace Go.Proofs.YtcngmkbgcfhmdaaGreatDoor
open Go.RowKit
set_option linter.unusedVariables false
section
variable {w0 wk : World} {base mb : Nat} {pa : Option Addr} {pn pc g cap : Nat} {t : List U4} {x y : Int} {lv sv : Value} {oa : Option Addr} {on oc : Nat} {fs : List Fr} {ll sl : List Int} {fu : Int} {out : List Int}
attribute [local go_sem ↓] Go.wp_at_zero Go.wp_at_succ in
set_option maxRecDepth 100000 in
set_option maxHeartbeats 8000000 in
theorem do_print {z : Int} (a : Int) (w : World) (h : Run w0 wk w base mb pa pn pc g cap t x y lv sv oa on oc fs ll (sl ++ [z]) fu out) (hl : sl.length ≤ 50) (ho : out.length ≤ 100000) :
    Calls Tryz.prog 49 #[.pointer (some ⟨mb, 0, none⟩), .pointer (some ⟨g, fs.length * 4, none⟩), .int .i64 15, .int .i64 a] w fun e w' => e = .returned (.tuple #[]) ∧ Mach w0 wk w' base mb pa pn pc (fs ++ [(x, y, ll, sl)], fu, out ++ [z], 0, 0) := by
  obtain ⟨i0, hi, hz0, hz1, hz2⟩ := info_parts Tryz.infoInt
  have c3 := h.drew.X.c3
  have H := hid h.drew
  clear h
  go_enter Tryz.func49, Tryz.ntmps49
  go_wp2_with fail
  go_region_law (first
    | (go_simp; go_at_call 69; refine (take_run _ H.out (by omega)).mono ?_; rintro e w1 ⟨rfl, sv1, h1, -, -, -⟩; have d3 := h1.X.c3; have H1 := hid h1; have OW := hid ((h1.kept (Below.alloc (Below.refl _ _) (Nat.le_refl _) (.cells #[.int .i64 z] 3))).M.rows.1.2); have BS := hid h1.hsz; have HN : Hid (some mb ≠ (Value.slice oa on oc).ownBlock) := hid (fun e => (h1.M.rows.2.1 mb e.symm).1 rfl); have J := hid (And.intro (h1.kept (Below.alloc (Below.refl _ _) (Nat.le_refl _) (.cells #[.int .i64 z] 3))).X.c3 ((h1.kept (Below.alloc (Below.refl _ _) (Nat.le_refl _) (.cells #[.int .i64 z] 3))).X.fz 3)); have d3b := J.out.1; clear h1)
    | (refine step_append_lies _ rfl (.tmp 82) (.tmp 85) 26 rfl base 3 i0 (.int .i64 0) 1 8 Tryz.underlying26 hi hz0 hz1 hz2 rfl (by decide) (.slice oa on oc) out.length (ints out) (by simp [Act.eval]) OW.out ⟨w1.heap.size, 0, none⟩ 1 1 [.int .i64 z] (by simp [Act.eval]) rfl (World.news_of_block (heap_alloc_new w1 (.cells #[.int .i64 z] 3))) (by intro u hu; simp at hu; subst hu; rfl) (by decide) (by unfold maxLen; omega) (by omega) (by simp; have := BS.out; omega) (w1.heap.size + 1) (by simp) ?_; intro g' cap' w6 ho6 hg6 hat hlt6; have q2 := hg6.cell J.out.1 HN.out; have qf2 := (hg6.frozen_far ⟨mb, 3, none⟩ (lt_of_cell J.out.1) HN.out).trans J.out.2; have P := hid (And.intro ho6 (And.intro hg6 hat)); clear ho6 hg6 hat hlt6))
  all_goals
    go_wp2_with fail
    go_end0
    refine ⟨rfl, ?_⟩
    obtain ⟨p1, p2, p3⟩ := P.out
    have h2 := H1.out.kept (Below.alloc (Below.refl _ _) (Nat.le_refl _) (.cells #[.int .i64 z] 3))
    have fr6 : Frm (fun b => (Value.slice oa on oc).ownBlock = some b) (w1.alloc (.cells #[.int .i64 z] 3)) w6 := Frm.of_grown p2 (fun k hk => hk)
    have ms := h2.M.setOut (ov' := .slice (some ⟨g', 0, none⟩) (out.length + 1) cap') (out' := out ++ [z]) fr6 ⟨by simp; omega, ints_snoc p1⟩ (fun b hb => by
      cases hb
      rcases p3 with e | e
      · exact .inl e
      · right; show _ ≤ g'; rw [e]; simp)
    refine ⟨⟨_, _, _, _, _, _, _, (h2.X.frm fr6 (fun e => HN.out e.symm)).set3 _, ms.setM _ _⟩, (h2.stay fr6 (fun b hb e => by have := (h2.M.rows.1.2.lt b e).1; omega)).setCell (p := ⟨mb, 3, none⟩) h2.hm _, h2.hb, h2.hm, (by have := h2.hsz; have := fr6.size; simp at *; omega), (h2.kp.frm fr6 (fun b e => .inr (h2.rK (u := .slice oa on oc) (by simp) e))).setM _ _⟩
end

end Go.Proofs.YtcngmkbgcfhmdaaGreatDoor

namespace Go.Proofs.YtcngmkbgcfhmdaaGreatDoor
open Go.RowKit
set_option linter.unusedVariables false

theorem state_of {ps : List Fn} {s : St} (hv : verV ps = 0) (h1 : fuelB s.2.1 s.2.2.1.length = true) (h2 : numsB s.2.2.1 = true) (h3 : outB s.2.2.2.1 s.2.2.2.2 s.1.length = true) (h4 : callsB ps s.1 = true) : stateB ps s = true := by
  unfold stateB
  simp only [Bool.and_eq_true, decide_eq_true_eq]
  exact ⟨h1, h2, h3, hv, h4⟩
def Waits (ps : List Fn) (fs : List Fr) (c : Int) : Prop := ∀ i, i < fs.length → waitB ps (fs.getD i noFr) (fs.getD (i + 1) (c, 0, [], [])).1 = true
theorem calls_snoc {ps : List Fn} {fs : List Fr} {f : Fr} : callsB ps (fs ++ [f]) = true ↔ frB ps 0 f = true ∧ Waits ps fs f.1 := by
  rw [callsB_iff]
  have g : ∀ i, i < fs.length → ((fs ++ [f]).getD (i + 1) noFr).1 = (fs.getD (i + 1) (f.1, 0, [], [])).1 := by
    intro i hi
    rcases Nat.lt_or_ge (i + 1) fs.length with h1 | h1
    · rw [getD_snoc_lt _ _ _ _ h1]; simp [List.getD_eq_getElem?_getD, h1]
    · rw [getD_snoc_eq _ _ _ _ (by omega), List.getD_eq_getElem?_getD, List.getElem?_eq_none h1]; rfl
  constructor
  · intro h
    constructor
    · have h1 := h fs.length (by simp)
      unfold callAt at h1
      rw [if_pos (by simp), getD_snoc_eq _ _ _ _ rfl] at h1
      exact h1
    · intro i hi
      have h1 := h i (by simp; omega)
      unfold callAt at h1
      rw [if_neg (by simp; omega), getD_snoc_lt _ _ _ _ hi, g i hi] at h1
      exact h1
  · rintro ⟨h1, h2⟩ i hi
    unfold callAt
    rcases Nat.lt_or_ge i fs.length with h3 | h3
    · rw [if_neg (by simp; omega), getD_snoc_lt _ _ _ _ h3, g i h3]; exact h2 i h3
    · simp at hi
      rw [if_pos (by simp; omega), getD_snoc_eq _ _ _ _ (by omega)]; exact h1
theorem waits_snoc {ps : List Fn} {fs : List Fr} {g : Fr} {c : Int} : Waits ps (fs ++ [g]) c ↔ waitB ps g c = true ∧ Waits ps fs g.1 := by
  have e : ∀ i, i < fs.length → ((fs ++ [g]).getD (i + 1) (c, 0, [], [])).1 = (fs.getD (i + 1) (g.1, 0, [], [])).1 := by
    intro i hi
    rcases Nat.lt_or_ge (i + 1) fs.length with h1 | h1
    · rw [getD_snoc_lt _ _ _ _ h1]; simp [List.getD_eq_getElem?_getD, h1]
    · rw [getD_snoc_eq _ _ _ _ (by omega), List.getD_eq_getElem?_getD, List.getElem?_eq_none h1]; rfl
  constructor
  · intro h
    constructor
    · have h1 := h fs.length (by simp)
      rw [getD_snoc_eq _ _ _ _ rfl, List.getD_eq_getElem?_getD, List.getElem?_eq_none (by simp)] at h1
      exact h1
    · intro i hi
      have h1 := h i (by simp; omega)
      rw [getD_snoc_lt _ _ _ _ hi, e i hi] at h1
      exact h1
  · rintro ⟨h1, h2⟩ i hi
    rcases Nat.lt_or_ge i fs.length with h3 | h3
    · rw [getD_snoc_lt _ _ _ _ h3, e i h3]; exact h2 i h3
    · simp at hi
      rw [getD_snoc_eq _ _ _ _ (by omega), List.getD_eq_getElem?_getD, List.getElem?_eq_none (by simp; omega)]; exact h1
theorem fresh_nums {k : Nat} {args : List Int} (h : numsB args = true) : numsB (freshL k args) = true := by
  unfold freshL
  refine numsB_take ?_ _
  rw [numsB_app, h, Bool.true_and]
  exact List.all_eq_true.2 (fun x hx => by rw [(List.mem_replicate.1 hx).2]; rfl)
theorem nums_last {l : List Int} {z : Int} (h : numsB (l ++ [z]) = true) : numsB l = true ∧ isNum z = true := by
  rw [numsB_app] at h
  simpa [numsB] using h
theorem nums_snoc {l : List Int} {z : Int} (h : numsB l = true) (hz : isNum z = true) : numsB (l ++ [z]) = true := by
  rw [numsB_app, h]; simp [numsB, hz]
theorem doV_num (k a b : Int) : isNum (doV k a b) = true := by
  unfold doV; split
  · exact num_wrap _
  · rfl
theorem snocI {l : List Int} (h : 1 ≤ l.length) : ∃ l0 z, l = l0 ++ [z] ∧ l0.length + 1 = l.length := by
  rcases List.eq_nil_or_concat l with h0 | ⟨a, b, h0⟩
  · rw [h0] at h; simp at h
  · exact ⟨a, b, by simpa using h0, by rw [h0]; simp⟩
/-- What a step tells besides: the fuel, the trace, the frames. -/
structure Stepped (s s' : St) : Prop where
  fuel : s'.2.1 = s.2.1 - 1
  out : s'.2.2.1 = s.2.2.1 ∨ ∃ z, s'.2.2.1 = s.2.2.1 ++ [z]
  frames : s'.1.length ≤ s.1.length + 1
  done : ¬ s'.2.2.2.1 = 4
set_option maxHeartbeats 1000000 in
theorem step_run {ps : List Fn} {fs : List Fr} {x y : Int} {ll sl out : List Int} {fu vl : Int} (h : stateB ps (fs ++ [(x, y, ll, sl)], fu, out, 0, vl) = true) (hfu : ¬ fu = 0) (ok : Ok ps fs x y ll sl (topI ps (x, y, ll, sl)).1 (topI ps (x, y, ll, sl)).2) :
    stateB ps (instrV ps fs x y ll sl (fu - 1) out (topI ps (x, y, ll, sl)).1 (topI ps (x, y, ll, sl)).2) = true ∧ Stepped (fs ++ [(x, y, ll, sl)], fu, out, 0, vl) (instrV ps fs x y ll sl (fu - 1) out (topI ps (x, y, ll, sl)).1 (topI ps (x, y, ll, sl)).2) := by
  obtain ⟨hv, hf, hn, ho, hc⟩ := state_parts h
  have hcs := calls_snoc.1 (callsB_iff.2 hc)
  obtain ⟨hfr, hwt⟩ := hcs
  simp only [] at hf hn hwt
  obtain ⟨k1, k2, k3, k4, k5⟩ := frParts hfr
  simp only [] at k1 k2 k3 k4 k5
  have hni := next_in hv k1
  have hnh := fun q' => next_height (q' := q') hv k1
  have htop : topI ps (x, y, ll, sl) = insAt (ps.getD x.toNat noFn).2.2 y.toNat := rfl
  rw [← htop] at hni hnh
  have hfu' : 0 ≤ fu ∧ fu ≤ 100000 - (out.length : Int) := by simpa [fuelB] using hf
  have hdeep := ok.deep
  have hy := ok.py
  have hx := ok.fx
  have htk := ok.takes
  have hkd := ok.kind
  have hloc := ok.loc
  have hjmp := ok.jmp
  have hcall := ok.call
  have hnum := ok.num
  generalize topI ps (x, y, ll, sl) = ka at *
  obtain ⟨k, a⟩ := ka
  simp only [] at *
  have fb : ∀ m : Nat, m ≤ out.length + 1 → fuelB (fu - 1) m = true := fun m hm => by simp [fuelB]; omega
  -- a frame that stays on top
  have top : ∀ (y' : Nat) (ll' sl' out' : List Int), (y' : Int) ∈ nextL (ps.getD x.toNat noFn).2.2 y.toNat → ll'.length = ll.length → numsB ll' = true → numsB sl' = true → (sl'.length : Int) = sl.length - takesV k (argsOf ps k a) + putsV k → (out' = out ∨ ∃ z, isNum z = true ∧ out' = out ++ [z]) →
      stateB ps (fs ++ [(x, (y' : Int), ll', sl')], fu - 1, out', 0, 0) = true ∧ Stepped (fs ++ [(x, y, ll, sl)], fu, out, 0, vl) (fs ++ [(x, (y' : Int), ll', sl')], fu - 1, out', 0, 0) := by
    intro y' ll' sl' out' hm hl1 hl2 hs2 hs1 hout
    obtain ⟨e1, e2⟩ := hnh y' hm
    have hol : out'.length ≤ out.length + 1 := by rcases hout with rfl | ⟨z, _, rfl⟩ <;> simp
    refine ⟨state_of hv (fb _ hol) ?_ ?_ (calls_snoc.2 ⟨frB_of e2 (by rw [hl1]; exact k2) (by rw [hs1, e1]; omega) hl2 hs2, hwt⟩), rfl, ?_, by simp, by simp⟩
    · rcases hout with rfl | ⟨z, hz, rfl⟩
      · exact hn
      · exact nums_snoc hn hz
    · simp [outB]; omega
    · rcases hout with rfl | ⟨z, hz, rfl⟩
      · exact .inl rfl
      · exact .inr ⟨z, rfl⟩
  have over : ∀ d : Int, d = 2 ∨ d = 3 → stateB ps ([], fu - 1, out, d, 0) = true ∧ Stepped (fs ++ [(x, y, ll, sl)], fu, out, 0, vl) ([], fu - 1, out, d, 0) := by
    intro d hd
    refine ⟨state_of hv (fb _ (by simp)) hn ?_ (callsB_iff.2 (fun i hi => by simp at hi)), rfl, .inl rfl, by simp, by simp; omega⟩
    rcases hd with rfl | rfl <;> rfl
  have hy1 : ((y.toNat + 1 : Nat) : Int) = y + 1 := by omega
  have fall : ¬ k = 12 → ¬ k = 16 → ((y.toNat + 1 : Nat) : Int) ∈ nextL (ps.getD x.toNat noFn).2.2 y.toNat := hni.1
  unfold instrV
  rcases kinds17 k hkd with rfl | rfl | rfl | hk
  · rw [if_pos rfl, ← hy1]
    exact top _ _ _ _ (fall (by decide) (by decide)) rfl k4 (nums_snoc k5 (hnum rfl)) (by simp [takesV, putsV]) (.inl rfl)
  · rw [if_neg (by decide), if_pos rfl, ← hy1]
    exact top _ _ _ _ (fall (by decide) (by decide)) rfl k4 (nums_snoc k5 (numsB_at k4 _ (by have := hloc (.inl rfl); omega))) (by simp [takesV, putsV]) (.inl rfl)
  · rw [if_neg (by decide), if_neg (by decide), if_pos rfl, ← hy1]
    obtain ⟨s0, z, rfl, hs0⟩ := snocI (l := sl) (by simp [takesV] at htk; omega)
    obtain ⟨k6, k7⟩ := nums_last k5
    refine top _ _ _ _ (fall (by decide) (by decide)) (by simp) ?_ (by simpa using k6) (by simp [takesV, putsV]) (.inl rfl)
    rw [lastI_snoc]
    exact List.all_eq_true.2 (fun u hu => by
      rcases List.mem_or_eq_of_mem_set hu with h1 | h1
      · exact List.all_eq_true.1 k4 u h1
      · rw [h1]; exact k7)
  by_cases hop : 3 ≤ k ∧ k ≤ 9
  · rw [if_neg (by omega), if_neg (by omega), if_neg (by omega), if_pos hop, ← hy1]
    have et : takesV k (argsOf ps k a) = 2 := by unfold takesV; rw [if_neg (by omega), if_neg (by omega), if_pos hop]
    have ep : putsV k = 1 := by unfold putsV; rw [if_pos (by omega)]
    rw [et] at htk
    obtain ⟨s0, z, rfl, hs0⟩ := snocI (l := sl) (by omega)
    obtain ⟨s1, z1, rfl, hs1⟩ := snocI (l := s0) (by omega)
    simp only [List.dropLast_concat]
    split
    · exact over 2 (.inl rfl)
    · refine top _ _ _ _ (fall (by omega) (by omega)) rfl k4 (nums_snoc (nums_last (nums_last k5).1).1 (doV_num _ _ _)) (by rw [et, ep]; simp <;> omega) (.inl rfl)
  rcases (show k = 10 ∨ k = 11 ∨ k = 12 ∨ k = 13 ∨ k = 14 ∨ k = 15 ∨ k = 16 by omega) with rfl | rfl | rfl | rfl | rfl | rfl | rfl
  · rw [if_neg (by decide), if_neg (by decide), if_neg (by decide), if_neg (by decide), if_pos rfl, ← hy1]
    obtain ⟨s0, z, rfl, hs0⟩ := snocI (l := sl) (by simp [takesV] at htk; omega)
    refine top _ _ _ _ (fall (by decide) (by decide)) rfl k4 ?_ (by simp [takesV, putsV] <;> omega) (.inl rfl)
    rw [lastI_snoc, List.dropLast_concat]
    exact nums_snoc k5 (nums_last k5).2
  · rw [if_neg (by decide), if_neg (by decide), if_neg (by decide), if_neg (by decide), if_neg (by decide), if_pos rfl, ← hy1]
    obtain ⟨s0, z, rfl, hs0⟩ := snocI (l := sl) (by simp [takesV] at htk; omega)
    rw [List.dropLast_concat]
    exact top _ _ _ _ (fall (by decide) (by decide)) rfl k4 (nums_last k5).1 (by simp [takesV, putsV]) (.inl rfl)
  · rw [if_neg (by decide), if_neg (by decide), if_neg (by decide), if_neg (by decide), if_neg (by decide), if_neg (by decide), if_pos rfl]
    obtain ⟨q, rfl⟩ : ∃ q : Nat, a = q := ⟨a.toNat, by have := hjmp (.inl rfl); omega⟩
    exact top _ _ _ _ (hni.2 (.inl rfl) (by omega)) rfl k4 k5 (by simp [takesV, putsV]) (.inl rfl)
  · rw [if_neg (by decide), if_neg (by decide), if_neg (by decide), if_neg (by decide), if_neg (by decide), if_neg (by decide), if_neg (by decide), if_pos rfl, ← hy1]
    obtain ⟨s0, z, rfl, hs0⟩ := snocI (l := sl) (by simp [takesV] at htk; omega)
    obtain ⟨q, rfl⟩ : ∃ q : Nat, a = q := ⟨a.toNat, by have := hjmp (.inr rfl); omega⟩
    rw [List.dropLast_concat]
    split
    · exact top _ _ _ _ (hni.2 (.inr rfl) (by omega)) rfl k4 (nums_last k5).1 (by simp [takesV, putsV]) (.inl rfl)
    · exact top _ _ _ _ (fall (by decide) (by decide)) rfl k4 (nums_last k5).1 (by simp [takesV, putsV]) (.inl rfl)
  · rw [if_neg (by decide), if_neg (by decide), if_neg (by decide), if_neg (by decide), if_neg (by decide), if_neg (by decide), if_neg (by decide), if_neg (by decide), if_pos rfl]
    split
    · exact over 3 (.inr rfl)
    · rename_i hd
      have hca := hcall rfl
      obtain ⟨cf, rfl⟩ : ∃ q : Nat, a = q := ⟨a.toNat, by omega⟩
      have hcf : cf < ps.length := by omega
      have hfn := ver_fn hv hcf (x := (ps.getD cf noFn).1) (y := (ps.getD cf noFn).2.1) (l := (ps.getD cf noFn).2.2) rfl
      have htk' : (ps.getD cf noFn).1 ≤ sl.length := by simpa [takesV, argsOf] using htk
      simp only [Int.toNat_natCast]
      obtain ⟨e1, e2⟩ := hnh _ (fall (by decide) (by decide))
      rw [hy1] at e1 e2
      have et : takesV 14 (argsOf ps 14 (cf : Int)) = (ps.getD cf noFn).1 := by simp [takesV, argsOf]
      rw [et, show putsV 14 = 1 from rfl] at e1
      have hz : heightV ps (cf : Int) 0 = 0 := by
        have he := ver_at hv hcf
        obtain ⟨_, f', ef, _, hw, _, _, _⟩ := hts_ok he
        have : f' = cf := by omega
        subst this
        have := height_at (pc := 0) he (by rw [hw.len]; omega)
        exact this.trans hw.first
      refine ⟨state_of hv (fb _ (by simp)) hn ?_ ?_, rfl, .inl rfl, by simp, by simp⟩
      · simp [outB]; omega
      · refine calls_snoc.2 ⟨frB_of (by rw [hz]; omega) ?_ (by rw [hz]; rfl) (fresh_nums (numsB_drop k5 _)) rfl, waits_snoc.2 ⟨?_, hwt⟩⟩
        · rw [show ∀ (k : Nat) (l : List Int), (freshL k l).length = k from fun k l => by simp [freshL], Int.toNat_natCast]; omega
        · unfold waitB
          rw [Bool.and_eq_true]
          refine ⟨frB_of e2 k2 ?_ k4 (numsB_take k5 _), ?_⟩
          · rw [e1, List.length_take]; omega
          · unfold behindB reachedB callB
            simp only [Bool.and_eq_true, decide_eq_true_eq]
            rw [show y + 1 - 1 = y by omega]
            exact ⟨k1, htop.symm⟩
  · rw [if_neg (by decide), if_neg (by decide), if_neg (by decide), if_neg (by decide), if_neg (by decide), if_neg (by decide), if_neg (by decide), if_neg (by decide), if_neg (by decide), if_pos rfl, ← hy1]
    obtain ⟨s0, z, rfl, hs0⟩ := snocI (l := sl) (by simp [takesV] at htk; omega)
    rw [List.dropLast_concat, lastI_snoc]
    exact top _ _ _ _ (fall (by decide) (by decide)) rfl k4 (nums_last k5).1 (by simp [takesV, putsV]) (.inr ⟨z, (nums_last k5).2, rfl⟩)
  · rw [if_neg (by decide), if_neg (by decide), if_neg (by decide), if_neg (by decide), if_neg (by decide), if_neg (by decide), if_neg (by decide), if_neg (by decide), if_neg (by decide), if_neg (by decide)]
    obtain ⟨s0, z, rfl, hs0⟩ := snocI (l := sl) (by simp [takesV] at htk; omega)
    rw [lastI_snoc]
    have hz := (nums_last k5).2
    unfold retV
    split
    · refine ⟨state_of hv (fb _ (by simp)) hn (by simp [outB, hz]) (callsB_iff.2 (fun i hi => by simp at hi)), rfl, .inl rfl, by simp, by simp⟩
    · rename_i hne
      obtain ⟨f0, g, rfl⟩ : ∃ f0 g, fs = f0 ++ [g] := by
        rcases List.eq_nil_or_concat fs with h0 | ⟨a, b, h0⟩
        · exact absurd h0 hne
        · exact ⟨a, b, by simpa using h0⟩
      obtain ⟨gx, gy, gl, gs⟩ := g
      simp only [List.dropLast_concat, List.getLastD_concat]
      obtain ⟨hw1, hw2⟩ := waits_snoc.1 hwt
      unfold waitB at hw1
      rw [Bool.and_eq_true] at hw1
      obtain ⟨j1, j2, j3, j4, j5⟩ := frParts hw1.1
      simp only [] at j1 j2 j3 j4 j5
      simp at hdeep
      refine ⟨state_of hv (fb _ (by simp)) hn (by simp [outB]; omega) (calls_snoc.2 ⟨frB_of j1 j2 (by simp <;> omega) j4 (nums_snoc j5 hz), hw2⟩), rfl, .inl rfl, by simp <;> omega, by simp⟩
theorem step_keeps {ps : List Fn} {s : St} (h : stateB ps s = true) : stateB ps (stepV ps s) = true := by
  obtain ⟨fs, fu, out, dn, vl⟩ := s
  by_cases hd : dn = 0
  · subst hd
    by_cases hf : fu = 0
    · subst hf
      obtain ⟨hv, h1, h2, h3, h4⟩ := state_parts h
      have e : stepV ps (fs, 0, out, 0, vl) = ([], 0, out, 4, 0) := by simp [stepV]
      rw [e]
      exact state_of hv h1 h2 rfl (callsB_iff.2 (fun i hi => by simp at hi))
    · obtain ⟨f0, x, y, ll, sl, e, _, ok⟩ := ok_of h rfl
      simp only [] at e
      subst e
      rw [stepV_top hf]
      exact (step_run h hf ok).1
  · have e : stepV ps (fs, fu, out, dn, vl) = (fs, fu, out, dn, vl) := by simp [stepV, hd]
    rw [e]; exact h

end Go.Proofs.YtcngmkbgcfhmdaaGreatDoor

namespace Go.Proofs.YtcngmkbgcfhmdaaGreatDoor
open Go.RowKit
set_option linter.unusedVariables false
section
variable {w0 wk : World} {base mb : Nat} {pa : Option Addr} {pn pc g cap : Nat} {t : List U4} {x y : Int} {lv sv : Value} {oa : Option Addr} {on oc : Nat} {fs : List Fr} {ll sl : List Int} {fu : Int} {out : List Int}
theorem do_run (ps : List Fn) (k a : Int) (w : World) (h : Run w0 wk w base mb pa pn pc g cap t x (y + 1) lv sv oa on oc fs ll sl fu out) (ok : Ok ps fs x y ll sl k a) (hp : Fns w0 pa pn pc ps) (ho : out.length ≤ 100000) (hst : ∀ f ∈ fs, f.2.2.2.length ≤ 50) :
    Calls Tryz.prog 49 #[.pointer (some ⟨mb, 0, none⟩), .pointer (some ⟨g, fs.length * 4, none⟩), .int .i64 k, .int .i64 a] w fun e w' => e = .returned (.tuple #[]) ∧ Mach w0 wk w' base mb pa pn pc (instrV ps fs x y ll sl fu out k a) := by
  have htk := ok.takes
  have hs8 := ok.stk.2
  have hll := ok.locs.2
  unfold instrV
  rcases kinds17 k ok.kind with rfl | rfl | rfl | hk
  · rw [if_pos rfl]
    exact do_const a w h (by omega)
  · rw [if_neg (by decide), if_pos rfl]
    have hlo := ok.loc (.inl rfl)
    obtain ⟨i, rfl⟩ : ∃ i : Nat, a = i := ⟨a.toNat, by omega⟩
    rw [Int.toNat_natCast]
    exact do_load i w h (by omega) (by omega) hll
  · rw [if_neg (by decide), if_neg (by decide), if_pos rfl]
    have hlo := ok.loc (.inr rfl)
    obtain ⟨i, rfl⟩ : ∃ i : Nat, a = i := ⟨a.toNat, by omega⟩
    obtain ⟨s0, z, rfl, hs0⟩ := snocI (l := sl) (by simp [takesV] at htk; omega)
    rw [Int.toNat_natCast, lastI_snoc, List.dropLast_concat]
    exact do_store i w h (by omega) (by omega) hll
  by_cases hop : 3 ≤ k ∧ k ≤ 9
  · rw [if_neg (by omega), if_neg (by omega), if_neg (by omega), if_pos hop]
    have et : takesV k (argsOf ps k a) = 2 := by unfold takesV; rw [if_neg (by omega), if_neg (by omega), if_pos hop]
    rw [et] at htk
    obtain ⟨s0, z, rfl, hs0⟩ := snocI (l := sl) (by omega)
    obtain ⟨s1, z1, rfl, hs1⟩ := snocI (l := s0) (by omega)
    simp only [List.dropLast_concat, lastI_snoc]
    exact do_op k hop a w h (by omega)
  rcases (show k = 10 ∨ k = 11 ∨ k = 12 ∨ k = 13 ∨ k = 14 ∨ k = 15 ∨ k = 16 by omega) with rfl | rfl | rfl | rfl | rfl | rfl | rfl
  · rw [if_neg (by decide), if_neg (by decide), if_neg (by decide), if_neg (by decide), if_pos rfl]
    obtain ⟨s0, z, rfl, hs0⟩ := snocI (l := sl) (by simp [takesV] at htk; omega)
    rw [lastI_snoc, List.dropLast_concat]
    exact do_dup a w h (by omega)
  · rw [if_neg (by decide), if_neg (by decide), if_neg (by decide), if_neg (by decide), if_neg (by decide), if_pos rfl]
    obtain ⟨s0, z, rfl, hs0⟩ := snocI (l := sl) (by simp [takesV] at htk; omega)
    rw [List.dropLast_concat]
    exact do_drop a w h (by omega)
  · rw [if_neg (by decide), if_neg (by decide), if_neg (by decide), if_neg (by decide), if_neg (by decide), if_neg (by decide), if_pos rfl]
    exact do_jump a w h
  · rw [if_neg (by decide), if_neg (by decide), if_neg (by decide), if_neg (by decide), if_neg (by decide), if_neg (by decide), if_neg (by decide), if_pos rfl]
    obtain ⟨s0, z, rfl, hs0⟩ := snocI (l := sl) (by simp [takesV] at htk; omega)
    rw [List.dropLast_concat, lastI_snoc]
    exact do_zero a w h (by omega)
  · rw [if_neg (by decide), if_neg (by decide), if_neg (by decide), if_neg (by decide), if_neg (by decide), if_neg (by decide), if_neg (by decide), if_neg (by decide), if_pos rfl]
    have hca := ok.call rfl
    obtain ⟨cf, rfl⟩ : ∃ q : Nat, a = q := ⟨a.toNat, by omega⟩
    have hcf : cf < ps.length := by omega
    have hfn := ver_fn ok.ver hcf (x := (ps.getD cf noFn).1) (y := (ps.getD cf noFn).2.1) (l := (ps.getD cf noFn).2.2) rfl
    have htk' : (ps.getD cf noFn).1 ≤ sl.length := by simpa [takesV, argsOf] using htk
    rw [Int.toNat_natCast]
    have hdl : (sl.drop (sl.length - (ps.getD cf noFn).1.toNat)).length = (ps.getD cf noFn).1.toNat := by rw [List.length_drop]; omega
    refine do_call (s0 := sl.take (sl.length - (ps.getD cf noFn).1.toNat)) (ag := sl.drop (sl.length - (ps.getD cf noFn).1.toNat)) cf (ps.getD cf noFn).2.1.toNat ps (ps.getD cf noFn).2.2 w (by rw [List.take_append_drop]; exact h) hp hcf ?_ (by rw [hdl]; omega) (by omega) (by rw [List.length_take]; omega) ok.deep
    rw [hdl]
    generalize ps.getD cf noFn = F at hfn
    obtain ⟨f1, f2, f3⟩ := F
    simp only [] at hfn ⊢
    rw [Int.toNat_of_nonneg (by omega), Int.toNat_of_nonneg (by omega)]
  · rw [if_neg (by decide), if_neg (by decide), if_neg (by decide), if_neg (by decide), if_neg (by decide), if_neg (by decide), if_neg (by decide), if_neg (by decide), if_neg (by decide), if_pos rfl]
    obtain ⟨s0, z, rfl, hs0⟩ := snocI (l := sl) (by simp [takesV] at htk; omega)
    rw [List.dropLast_concat, lastI_snoc]
    exact do_print a w h (by omega) ho
  · rw [if_neg (by decide), if_neg (by decide), if_neg (by decide), if_neg (by decide), if_neg (by decide), if_neg (by decide), if_neg (by decide), if_neg (by decide), if_neg (by decide), if_neg (by decide)]
    obtain ⟨s0, z, rfl, hs0⟩ := snocI (l := sl) (by simp [takesV] at htk; omega)
    rw [lastI_snoc]
    exact do_ret a w h (by omega) ok.deep hst
end
theorem calls_stk {ps : List Fn} {fs : List Fr} {f : Fr} (hv : verV ps = 0) (h : callsB ps (fs ++ [f]) = true) : ∀ g ∈ fs, g.2.2.2.length ≤ 50 := by
  intro g hg
  obtain ⟨_, hw⟩ := calls_snoc.1 h
  obtain ⟨i, hi, rfl⟩ := List.getElem_of_mem hg
  have h1 := hw i hi
  have e : fs.getD i noFr = fs[i] := by simp [List.getD_eq_getElem?_getD, hi]
  rw [e] at h1
  unfold waitB at h1
  rw [Bool.and_eq_true] at h1
  obtain ⟨k1, _, k3, _, _⟩ := frParts h1.1
  obtain ⟨_, _, _, _, _, _, _, _, _, _, h8, _⟩ := at_reached hv k1
  omega

set_option maxRecDepth 100000 in
set_option maxHeartbeats 8000000 in
theorem stepM_any {w0 wk : World} {base mb : Nat} {pa : Option Addr} {pn pc : Nat} (ps : List Fn) (s : St) (w : World) (h : Mach w0 wk w base mb pa pn pc s) (hs : stateB ps s = true) (hp : Fns w0 pa pn pc ps) :
    Calls Tryz.prog 27 #[.pointer (some ⟨mb, 0, none⟩)] w fun e w' => e = .returned (.tuple #[]) ∧ Mach w0 wk w' base mb pa pn pc (stepV ps s) := by
  obtain ⟨sf, fu, out, dn, vl⟩ := s
  obtain ⟨⟨fa, fn, fc, t, oa, on, oc, X, M⟩, old, hb, hm, hsz, kp⟩ := h
  simp only [] at X M
  obtain ⟨c0, c1, c2, c3, c4, c5, fz⟩ := X
  by_cases hd : dn = 0
  rotate_left
  · have E : Hid (stepV ps (sf, fu, out, dn, vl) = (sf, fu, out, dn, vl)) := hid (by simp [stepV, hd])
    rw [E.out]
    have MM : Hid (Mach w0 wk w base mb pa pn pc (sf, fu, out, dn, vl)) := hid ⟨⟨fa, fn, fc, t, oa, on, oc, ⟨c0, c1, c2, c3, c4, c5, fz⟩, M⟩, old, hb, hm, hsz, kp⟩
    have X0 : Hid (MX w mb pa pn pc (.slice fa fn fc) fu (.slice oa on oc) dn vl) := hid ⟨c0, c1, c2, c3, c4, c5, fz⟩
    have hd' : (dn == 0) = false := by simpa using hd
    clear E fz M old hs hp hd kp
    go_enter Tryz.func27, Tryz.ntmps27
    go_wp2_with fail
    refine (runs_any false _ X0.out hd').mono ?_
    rintro e x ⟨rfl, hx⟩
    rw [hx]
    clear hx
    go_wp2_with fail
    exact bodyPost_ret (results_none rfl _ _ _) rfl ⟨rfl, MM.out⟩
  subst hd
  obtain ⟨hv, hfu, hn, ho, hcl⟩ := state_parts hs
  have hfb : 0 ≤ fu ∧ fu ≤ 100000 - (out.length : Int) := by simpa [fuelB] using hfu
  by_cases h0 : fu = 0
  · subst h0
    have E : Hid (stepV ps (sf, 0, out, 0, vl) = ([], 0, out, 4, 0)) := hid (by simp [stepV])
    rw [E.out]
    have MX0 : Hid (MX w mb pa pn pc (.slice fa fn fc) 0 (.slice oa on oc) 0 vl) := hid ⟨c0, c1, c2, c3, c4, c5, fz⟩
    have MM := hid (And.intro M (And.intro old (And.intro hb (And.intro hm (And.intro hsz kp)))))
    clear E fz M old hs hp hcl ho hn hfu kp
    go_enter Tryz.func27, Tryz.ntmps27
    go_wp2_with fail
    refine (runs_any true _ MX0.out rfl).mono ?_
    rintro e x ⟨rfl, hx⟩
    rw [hx]
    clear hx
    go_wp2_with fail
    refine (end_any 4 0 _ MX0.out).mono ?_
    rintro e w1 ⟨rfl, rfl⟩
    go_wp2_with fail
    refine bodyPost_ret (results_none rfl _ _ _) rfl ⟨rfl, ?_⟩
    obtain ⟨m, ol, q1, q2, q3, kp⟩ := MM.out
    exact ⟨⟨none, 0, 0, [], oa, on, oc, ((MX0.out.set1 _).set4 _).set5 _, ((m.over.setM _ _).setM _ _).setM _ _⟩, ((ol.setCell (p := ⟨mb, 1, none⟩) q2 _).setCell (p := ⟨mb, 4, none⟩) q2 _).setCell (p := ⟨mb, 5, none⟩) q2 _, q1, q2, (by simpa using q3), ((kp.setM _ _).setM _ _).setM _ _⟩
  obtain ⟨fs, x, y, ll, sl, esf, evl, ok⟩ := ok_of hs rfl
  simp only [] at esf evl
  subst esf
  subst evl
  rw [stepV_top h0]
  obtain ⟨t0, lv, sv, g, cap, rfl, ht0, ev⟩ := M.top
  cases ev
  have hst := calls_stk hv (callsB_iff.2 hcl)
  have hdeep := ok.deep
  have R0 : Hid (Run w0 wk (w.setCell ⟨mb, 2, none⟩ (.int .i64 (fu - 1))) base mb pa pn pc g fc t0 x y lv sv oa on oc fs ll sl (fu - 1) out) :=
    hid ⟨MX.set2 ⟨c0, c1, c2, c3, c4, c5, fz⟩ _, M.setM _ _, old.setCell (p := ⟨mb, 2, none⟩) hm _, hb, hm, (by simpa using hsz), kp.setM _ _⟩
  obtain ⟨xn, rfl⟩ : ∃ n : Nat, x = n := ⟨x.toNat, by have := ok.fx; omega⟩
  obtain ⟨yn, rfl⟩ : ∃ n : Nat, y = n := ⟨y.toNat, by have := ok.py; omega⟩
  have hxl := ok.fx
  have hyl := ok.py
  have hin := ok.ins
  rw [Int.toNat_natCast] at hyl hin
  rw [Int.toNat_natCast] at hin
  have htop : topI ps ((xn : Int), (yn : Int), ll, sl) = insAt (ps.getD xn noFn).2.2 yn := rfl
  have f2 := fz 2
  have OK := hid ok
  have HP := hid hp
  have HST := hid hst
  generalize hka : topI ps ((xn : Int), (yn : Int), ll, sl) = ka at *
  obtain ⟨k, a⟩ := ka
  have XX : Hid (MX w mb pa pn pc (.slice (some ⟨g, 0, none⟩) (fs.length + 1) fc) fu (.slice oa on oc) 0 0) := hid ⟨c0, c1, c2, c3, c4, c5, fz⟩
  have h0' : (fu == 0) = false := by simpa using h0
  have hout : out.length ≤ 100000 := by omega
  clear ok hp hst fz M old hs hcl hn hfu ho hka ht0 kp
  go_enter Tryz.func27, Tryz.ntmps27
  go_wp2_with fail
  refine (runs_any true _ XX.out rfl).mono ?_
  rintro e x ⟨rfl, hx⟩
  rw [hx]
  clear hx
  go_wp2_with fail
  refine (top_any _ R0.out.X (by omega)).mono ?_
  rintro e w2 ⟨rfl, b2⟩
  have R2 := hid (R0.out.kept b2)
  have hpn : xn < pn := by rw [HP.out.len]; omega
  have hpr := HP.out.room
  have hpc := HP.out.cap
  obtain ⟨b0, o0, fx, fy, ca, cn, cc, cl, rfl, e3, d0, d1, d2, i3⟩ := (HP.out.kept R2.out.old).at xn hpn
  rw [e3] at hyl hin
  simp only [] at hyl hin
  have hyn : yn < cn := by rw [i3.len]; omega
  obtain ⟨b1, o1, k', a', rfl, e4, j0, j1⟩ := i3.at yn hyn
  have eka : (k', a') = (k, a) := by rw [← e4]; exact hin
  cases eka
  have hcr := i3.room
  have hcc := i3.cap
  obtain ⟨p0, p1, p2, p3, pf⟩ := R2.out.M.cells
  have m0 := R2.out.X.c0
  have SA : Hid (∀ w', Below w2.heap.size w2 w' → (w'.cell? ⟨mb, 0, none⟩ = some (.slice (some ⟨b0, o0, none⟩) pn pc) ∧ w'.cell? ⟨g, fs.length * 4, none⟩ = some (.int .i64 (xn : Int)) ∧ w'.cell? ⟨g, fs.length * 4 + 1, none⟩ = some (.int .i64 (yn : Int)) ∧ w'.cell? ⟨b0, o0 + xn * 3 + 2, none⟩ = some (.slice (some ⟨b1, o1, none⟩) cn cc) ∧ w'.cell? ⟨b1, o1 + yn * 2, none⟩ = some (.int .i64 k) ∧ w'.cell? ⟨b1, o1 + yn * 2 + 1, none⟩ = some (.int .i64 a))) :=
    hid (fun w' b => ⟨kept_cell b m0, kept_cell b p0, kept_cell b p1, kept_cell b d2, kept_cell b j0, kept_cell b j1⟩)
  have BC : Below w2.heap.size w2 w2 := Below.refl _ _
  have A3 : Hid (Below w2.heap.size w2 (w2.alloc (.cells #[.int .i64 k, .int .i64 a] 45)).drew) := hid (Below.drew (Below.alloc (Below.refl _ _) (Nat.le_refl _) _))
  have R3 := hid (R2.out.kept A3.out)
  have q1 := R3.out.M.cells.2.1
  have qf1 := R3.out.M.cells.2.2.2.2 (fs.length * 4 + 1)
  have hgw := R2.out.M.gNe.2.2.1
  have R4 : Hid (Run w0 wk ((w2.setCell ⟨g, fs.length * 4 + 1, none⟩ (.int .i64 ((yn : Int) + 1))).alloc (.cells #[.int .i64 k, .int .i64 a] 45)).drew base mb (some ⟨b0, o0, none⟩) pn pc g fc t0 xn ((yn : Int) + 1) lv sv oa on oc fs ll sl (fu - 1) out) := hid ((R2.out.setPc ((yn : Int) + 1)).kept (Below.drew (Below.alloc (Below.refl _ _) (Nat.le_refl _) _)))
  clear b2 c0 c1 c2 c3 c4 c5 p0 p1 p2 p3 pf m0 d0 d1 d2 j0 j1 e3 e4 i3 hin htop
  go_wp2_with fail
  go_region_held3 (fun w' => w'.cell? ⟨mb, 0, none⟩ = some (.slice (some ⟨b0, o0, none⟩) pn pc) ∧ w'.cell? ⟨g, fs.length * 4, none⟩ = some (.int .i64 (xn : Int)) ∧ w'.cell? ⟨g, fs.length * 4 + 1, none⟩ = some (.int .i64 (yn : Int)) ∧ w'.cell? ⟨b0, o0 + xn * 3 + 2, none⟩ = some (.slice (some ⟨b1, o1, none⟩) cn cc) ∧ w'.cell? ⟨b1, o1 + yn * 2, none⟩ = some (.int .i64 k) ∧ w'.cell? ⟨b1, o1 + yn * 2 + 1, none⟩ = some (.int .i64 a)) (first | exact SA.out _ BC | exact SA.out _ (Below.drew BC) | exact SA.out _ (Below.alloc (Below.drew BC) (by simp) _)) (fail)
  all_goals
    go_wp2_with fail
    refine (do_run ps k a _ R4.out OK.out HP.out hout HST.out).mono ?_
    rintro e w5 ⟨rfl, h5⟩
    have H5 := hid h5
    clear h5
    go_wp2_with fail
    go_end0
    exact ⟨rfl, H5.out⟩

end Go.Proofs.YtcngmkbgcfhmdaaGreatDoor

namespace Go.Proofs.YtcngmkbgcfhmdaaGreatDoor
open Go.RowKit
set_option linter.unusedVariables false

/-- What is so while frames are copied. -/
structure CopyInv (w : World) (fa : Option Addr) (fn fc : Nat) (fs : List Fr) (fu : Int) (oa : Option Addr) (on oc : Nat) (dn vl : Int) (v i : Value) (wr : World) : Prop where
  ex : ∃ (q : Nat) (t : List U4) (va : Option Addr) (vn vc : Nat), q ≤ fn ∧ i = .int .i64 q ∧ v = .slice va vn vc ∧ MSt wr (w.heap.size + 2) w.heap.size (.slice va vn vc) t (.slice none 0 0) (fs.take q) [] ∧
    SX wr w.heap.size (.slice fa fn fc) fu (.slice oa on oc) dn vl ∧ Z5 wr (w.heap.size + 1) ∧ Below w.heap.size w wr ∧ w.heap.size + 2 ≤ wr.heap.size

set_option maxRecDepth 100000 in
set_option maxHeartbeats 8000000 in
theorem copyOfState_any (fa : Option Addr) (fn fc : Nat) (fs : List Fr) (fu : Int) (oa : Option Addr) (on oc : Nat) (os : List Int) (dn vl : Int) (w : World) (hf : Frs w fa fn fc fs) (ho : Ints w oa on oc os) :
    Calls Tryz.prog 45 #[.agg #[.slice fa fn fc, .int .i64 fu, .slice oa on oc, .int .i64 dn, .int .i64 vl]] w fun e w' => ∃ va vn vc t oa' on' oc', e = .returned (.agg #[.slice va vn vc, .int .i64 fu, .slice oa' on' oc', .int .i64 dn, .int .i64 vl]) ∧
      MSt w' (w.heap.size + 2) w.heap.size (.slice va vn vc) t (.slice oa' on' oc') fs os ∧ Below w.heap.size w w' ∧ w.heap.size + 2 ≤ w'.heap.size := by
  obtain ⟨i0, hi, hz0, hz1, hz2⟩ := info_parts Tryz.infoFrame
  have L := hid hf.len
  have hr := hf.room
  have hcp := hf.cap
  have HF := hid hf
  have HO := hid ho
  clear hf ho
  have W3 : Hid (∃ w3 : World, w3 = (w.alloc (.cells #[.slice fa fn fc, .int .i64 fu, .slice oa on oc, .int .i64 dn, .int .i64 vl] 28)).alloc (.cells #[.slice none 0 0, .int .i64 0, .slice none 0 0, .int .i64 0, .int .i64 0] 28)) := hid ⟨_, rfl⟩
  obtain ⟨w3, hw3⟩ := W3.out
  have hs3 : w3.heap.size = w.heap.size + 2 := by rw [hw3]; simp
  have B3 : Hid (Below w.heap.size w w3) := hid (by rw [hw3]; exact Below.alloc (Below.alloc (Below.refl _ _) (Nat.le_refl _) _) (by simp) _)
  have Z3 : Hid (Z5 w3 (w.heap.size + 1)) := hid (by rw [hw3]; exact ⟨by simp [go_sem], by simp [go_sem], by simp [go_sem], by simp [go_sem], by simp [go_sem], by simp [go_sem], by simp [go_sem], by simp [go_sem], by simp [go_sem], by simp [go_sem]⟩)
  have S3 : Hid (SX w3 w.heap.size (.slice fa fn fc) fu (.slice oa on oc) dn vl) := hid (by rw [hw3]; exact ⟨by simp [go_sem], by simp [go_sem], by simp [go_sem], by simp [go_sem], by simp [go_sem], by simp [go_sem], by simp [go_sem]⟩)
  have E3 := hid hw3
  have HS3 := hid hs3
  clear hw3 W3 hs3
  go_enter Tryz.func45, Tryz.ntmps45
  go_wp2_with fail
  refine wp_world (U := w3) (by rw [E3.out]) ?_
  go_loopw [3, 9] (fun v i wr => CopyInv w fa fn fc fs fu oa on oc dn vl v i wr) (fun _ i _ => fn - (intOf i).toNat)
  case atStart => exact ⟨0, [], none, 0, 0, Nat.zero_le _, rfl, rfl, MSt.nil ⟨by simp, World.ownsRow_nil _ _ _ _⟩ (by rw [HS3.out]; omega) (by simp [Value.ownBlock]), S3.out, Z3.out, B3.out, by rw [HS3.out]; exact Nat.le_refl _⟩
  case round =>
    clear Z3 S3 B3 E3 HS3
    obtain ⟨q, t, va, vn, vc, hq, rfl, rfl, m, sx, z5, hb, hsz⟩ := hrel.ex
    clear hrel
    by_cases hlt : q < fn
    · obtain ⟨b0, o0, x, y, la, ln, lc, ll, sa, sn, sc, sl, ha', e0, c0, c1, c2, c3, i1, i2⟩ := (HF.out.kept hb).at q hlt
      subst ha'
      have hA : Below wr.heap.size wr (wr.alloc (.cells #[.int .i64 x, .int .i64 y, .slice la ln lc, .slice sa sn sc] 51)) := Below.alloc (Below.refl _ _) (Nat.le_refl _) _
      have F0 : Hid (FX (wr.alloc (.cells #[.int .i64 x, .int .i64 y, .slice la ln lc, .slice sa sn sc] 51)) wr.heap.size x y (.slice la ln lc) (.slice sa sn sc)) := hid ⟨by simp [go_sem], by simp [go_sem], by simp [go_sem], by simp [go_sem], by simp [go_sem], by simp [go_sem]⟩
      have I1 := hid (i1.kept hA)
      have I2 := hid i2
      have hll : Hid (ll.length * 8 ≤ 140737488351232 ∧ sl.length * 8 ≤ 140737488351232) := hid ⟨by rw [← i1.len]; exact i1.room, by rw [← i2.len]; exact i2.room⟩
      have A0 := hid hA
      have E0 := hid e0
      have RR := hid (And.intro m (And.intro z5 sx))
      have hlen : (fs.take q).length = q := by rw [List.length_take]; have := L.out; omega
      have HL := hid hlen
      have HB := hid hb
      clear hA i1 i2 e0 z5 sx m hlen hb
      go_wp2_with fail
      refine (copyOfList_any _ _ _ ll _ I1.out).mono ?_
      rintro e w1 ⟨a1, n1, m1, rfl, o1, b1⟩
      have hs1 : wr.heap.size + 1 ≤ w1.heap.size := by have := b1.size; simpa using this
      have F1 := F0.out.kept b1
      have x2 := F1.c2
      have xf2 := F1.f2
      have P1 := hid (F1.set2 (.slice a1 n1 m1))
      have y3 := P1.out.c3
      have B1 : Hid (Below wr.heap.size wr (w1.setCell ⟨wr.heap.size, 2, none⟩ (.slice a1 n1 m1))) := hid ((kt A0.out b1).setCell (by simp) _)
      have O1 := hid o1
      clear o1 b1 F1
      go_wp2_with fail
      refine (copyOfList_any _ _ _ sl _ (I2.out.kept B1.out)).mono ?_
      rintro e w2 ⟨a2, n2, m2, rfl, o2, b2⟩
      have hs2 : w1.heap.size ≤ w2.heap.size := by have := b2.size; simpa using this
      have F2 := P1.out.kept b2
      have z3 := F2.c3
      have zf3 := F2.f3
      have P2 := hid (F2.set3 (.slice a2 n2 m2))
      have y20 := P2.out.c0
      have y21 := P2.out.c1
      have y22 := P2.out.c2
      have y23 := P2.out.c3
      have R1 : Hid (Row1 (w2.setCell ⟨wr.heap.size, 3, none⟩ (.slice a2 n2 m2)) (w.heap.size + 2) (.slice a1 n1 m1) ll ∧ (∀ b, (Value.slice a1 n1 m1).ownBlock = some b → wr.heap.size + 1 ≤ b ∧ b < w1.heap.size) ∧ Row1 (w2.setCell ⟨wr.heap.size, 3, none⟩ (.slice a2 n2 m2)) (w.heap.size + 2) (.slice a2 n2 m2) sl ∧ (∀ b, (Value.slice a2 n2 m2).ownBlock = some b → w1.heap.size ≤ b)) := hid (by
        have k1 := O1.out
        rw [show (wr.alloc (.cells #[.int .i64 x, .int .i64 y, .slice la ln lc, .slice sa sn sc] 51)).heap.size = wr.heap.size + 1 by simp] at k1
        rw [show (w1.setCell ⟨wr.heap.size, 2, none⟩ (.slice a1 n1 m1)).heap.size = w1.heap.size by simp] at o2
        refine ⟨⟨hll.out.1, owns_base (owns_set (owns_kept (owns_set k1 ⟨wr.heap.size, 2, none⟩ _ (by simp)) b2) ⟨wr.heap.size, 3, none⟩ _ (by simp)) (by omega)⟩, fun b hb => k1.lt b hb, ⟨hll.out.2, owns_base (owns_set o2 ⟨wr.heap.size, 3, none⟩ _ (by simp; omega)) (by omega)⟩, fun b hb => (o2.lt b hb).1⟩)
      have B2 : Hid (Below wr.heap.size wr (w2.setCell ⟨wr.heap.size, 3, none⟩ (.slice a2 n2 m2))) := hid ((kt B1.out b2).setCell (by simp) _)
      have M2 := hid ((RR.out.1.kept B2.out).kept (Below.alloc (Below.refl _ _) (Nat.le_refl _) (.cells #[.int .i64 x, .int .i64 y, .slice a1 n1 m1, .slice a2 n2 m2] 51)))
      have OW : Hid (((w2.setCell ⟨wr.heap.size, 3, none⟩ (.slice a2 n2 m2)).alloc (.cells #[.int .i64 x, .int .i64 y, .slice a1 n1 m1, .slice a2 n2 m2] 51)).ownsRow (w.heap.size + 2) 51 4 (.slice va vn vc) q (flat4 t)) := hid (by have := M2.out.own; rw [HL.out] at this; exact this)
      have A2 := hid (Below.alloc (Below.refl (w2.setCell ⟨wr.heap.size, 3, none⟩ (.slice a2 n2 m2)).heap.size (w2.setCell ⟨wr.heap.size, 3, none⟩ (.slice a2 n2 m2))) (Nat.le_refl _) (.cells #[.int .i64 x, .int .i64 y, .slice a1 n1 m1, .slice a2 n2 m2] 51))
      clear o2 b2 F2 x2 xf2 y3
      go_wp2_with (at_builtin; refine wpList_append_lies _ rfl _ _ 25 rfl (w.heap.size + 2) 51 i0 (.agg #[.int .i64 0, .int .i64 0, .slice none 0 0, .slice none 0 0]) 4 64 Tryz.underlying25 hi hz0 hz1 hz2 rfl (by decide) (.slice va vn vc) q (flat4 t) rfl OW.out ⟨w2.heap.size, 0, none⟩ 1 1 [.int .i64 x, .int .i64 y, .slice a1 n1 m1, .slice a2 n2 m2] rfl rfl (news_of (by simp) _ 51) (by intro u hu; simp at hu; rcases hu with rfl | rfl | rfl | rfl <;> rfl) (by decide) (by unfold maxLen; omega) (by omega) (by simp; omega) (w2.heap.size + 1) (by simp) ?_; intro g cap w6 ho6 hg6 hat hlt6; have P := hid (And.intro ho6 (And.intro hg6 hat)); clear ho6 hg6 hat hlt6 z3 zf3 y20 y21 y22 y23)
      go_roundw
      case rel =>
        obtain ⟨p1, p2, p3⟩ := P.out
        obtain ⟨r1, r2, r3, r4⟩ := R1.out
        have fr6 : Frm (fun k => (Value.slice va vn vc).ownBlock = some k) ((w2.setCell ⟨wr.heap.size, 3, none⟩ (.slice a2 n2 m2)).alloc (.cells #[.int .i64 x, .int .i64 y, .slice a1 n1 m1, .slice a2 n2 m2] 51)) w6 := Frm.of_grown p2 (fun k h => h)
        have mm := M2.out
        have nb : ∀ b, b < w.heap.size + 2 → ¬ (Value.slice va vn vc).ownBlock = some b := fun b hb h => by have := (OW.out.lt _ h).1; omega
        have inb := RR.out.1.inB
        have ms := MSt.snoc (x := x) (y := y) (ll := ll) (sl := sl) (lv := .slice a1 n1 m1) (sv := .slice a2 n2 m2) (B := wr.heap.size + 1) mm (r1.frm (Frm.of_below (S := fun _ => False) A2.out) (fun _ _ k => k)) (r3.frm (Frm.of_below (S := fun _ => False) A2.out) (fun _ _ k => k))
          (fun u hu b hb => by have := inb u (by simp at hu ⊢; exact .inr hu) b hb; omega) (by have := RR.out.1.hm; omega) (fun b hb => (r2 b hb).1) (fun b hb => ⟨by have := r4 b hb; omega, fun e => by have := (r2 b e).2; have := r4 b hb; omega⟩) (v' := .slice (some ⟨g, 0, none⟩) (q + 1) cap) (w' := w6) (by rw [HL.out]; exact p1) fr6 (fun b hb => by
            cases hb
            rcases p3 with e | e
            · exact .inl e
            · right; show _ ≤ g; rw [e]; simp)
        have B26 := kt B2.out A2.out
        refine ⟨q + 1, _, _, _, _, by omega, by go_num, rfl, by rw [take_snoc_getD (by have := L.out; omega) E0.out]; exact ms, ((RR.out.2.2.kept B26).frm fr6 (nb _ (by omega))), ((RR.out.2.1.kept B26).frm fr6 (nb _ (by omega))), ?_, by have := fr6.size; have := B26.size; omega⟩
        exact Below.trans (kt HB.out B26) (fr6.below (by have := B26.size; have := HB.out.size; omega) (fun k hk => nb k (by omega)))
      case measure => simp [intOf]; omega
    · have hqn : q = fn := by omega
      subst hqn
      rw [List.take_of_length_le (by have := L.out; omega)] at m
      have s0 := sx.c0
      have s0f := sx.f0
      have X1 := hid (sx.set0 (.slice va vn vc))
      have x2 := X1.out.c2
      have M1 := hid (m.setM 0 (.slice va vn vc))
      have Z1 := hid (z5.frm (Frm.set (S := fun k => k = w.heap.size) (p := ⟨w.heap.size, 0, none⟩) (.slice va vn vc) rfl) (by omega))
      have B1 : Hid (Below w.heap.size w (wr.setCell ⟨w.heap.size, 0, none⟩ (.slice va vn vc))) := hid (hb.setCell (by simp) _)
      clear m sx z5 hb
      go_wp2_with fail
      refine (copyOfList_any _ _ _ os _ (HO.out.kept B1.out)).mono ?_
      rintro e w5 ⟨a5, n5, m5, rfl, o5, b5⟩
      have X5 := X1.out.kept b5
      have x52 := X5.c2
      have x5f := X5.f2
      have X6 := hid (X5.set2 (.slice a5 n5 m5))
      obtain ⟨g0, g1, g2, g3, g4, _, _⟩ := X6.out
      have Z6 := (Z1.out.kept b5).frm (Frm.set (S := fun k => k = w.heap.size) (p := ⟨w.heap.size, 2, none⟩) (.slice a5 n5 m5) rfl) (by omega)
      obtain ⟨c0, c1, c2, c3, c4, f0, f1, f2, f3, f4⟩ := Z6
      have hs5 := b5.size
      rw [show (wr.setCell ⟨w.heap.size, 0, none⟩ (.slice va vn vc)).heap.size = wr.heap.size by simp] at hs5
      have PP := hid (And.intro o5 b5)
      have M5 : Hid (MSt w5 (w.heap.size + 2) w.heap.size (.slice va vn vc) t (.slice a5 n5 m5) fs os) := hid (M1.out.setOut (Frm.of_below b5) ⟨by rw [← HO.out.len]; exact HO.out.room, owns_base o5 (by simp; omega)⟩ (fun b hb => .inr (o5.lt b hb).1))
      clear o5 b5 X5 x2 s0 s0f
      go_wp2_with fail
      refine bodyPost_ret (v := .agg #[.slice va vn vc, .int .i64 fu, .slice a5 n5 m5, .int .i64 dn, .int .i64 vl]) (by simp [results, Tryz.results45, go_sem, c0, c1, c2, c3, c4]) rfl ⟨_, _, _, t, _, _, _, rfl, ?_, ?_, ?_⟩
      · have key : ∀ (u : World) (o : Nat) (z : Value), MSt u (w.heap.size + 2) w.heap.size (.slice va vn vc) t (.slice a5 n5 m5) fs os → MSt (u.setCell ⟨w.heap.size + 1, o, none⟩ z) (w.heap.size + 2) w.heap.size (.slice va vn vc) t (.slice a5 n5 m5) fs os :=
          fun u o z h => h.frm (S := fun b => b = w.heap.size + 1) (Frm.set _ rfl) (fun b _ _ hb e => by omega)
        exact key _ _ _ (key _ _ _ (key _ _ _ (key _ _ _ (key _ _ _ (M5.out.setM 2 _)))))
      · exact below5 ((kt B1.out PP.out.2).setCell (by simp) _) (by omega) _ _ _ _ _
      · simp; omega

end Go.Proofs.YtcngmkbgcfhmdaaGreatDoor

namespace Go.Proofs.YtcngmkbgcfhmdaaGreatDoor
open Go.RowKit
set_option linter.unusedVariables false

theorem keepDrew {W w : World} (h : Below W.heap.size W w) : Below W.heap.size W w.drew := Below.drew h
theorem keepAlloc {W w : World} {o : Obj} (h : Below W.heap.size W w) : Below W.heap.size W (w.alloc o) := Below.alloc h h.size o
theorem keepSet {W w : World} {b o : Nat} {v : Value} (hb : W.heap.size ≤ b) (h : Below W.heap.size W w) : Below W.heap.size W (w.setCell ⟨b, o, none⟩ v) := Below.setCell (p := ⟨b, o, none⟩) h hb v
theorem calls_inW {P : Program} {f : FuncId} {args : Array Value} {W U : World} {Q : Ending → World → Prop} (h : U = W) (k : Calls P f args U Q) : Calls P f args W Q := h ▸ k
theorem stepS_no {ps : List Fn} {s : St} (h : stateB ps s = false) : stepS ps s = noSt ∧ stepE ps s = 700 := by unfold stepS stepE; rw [h]; exact ⟨rfl, rfl⟩
theorem stepS_yes {ps : List Fn} {s : St} (h : stateB ps s = true) : stepS ps s = stepV ps s ∧ stepE ps s = 0 := by unfold stepS stepE; rw [h]; exact ⟨rfl, rfl⟩

set_option maxHeartbeats 1000000 in
theorem mstate_any {mb : Nat} {pa : Option Addr} {pn pc : Nat} {fa : Option Addr} {fn fc : Nat} {oa : Option Addr} {on oc : Nat} {fu dn vl : Int} (w : World) (h : MX w mb pa pn pc (.slice fa fn fc) fu (.slice oa on oc) dn vl) :
    Calls Tryz.prog 28 #[.pointer (some ⟨mb, 0, none⟩)] w fun e w' => e = .returned (.agg #[.slice fa fn fc, .int .i64 fu, .slice oa on oc, .int .i64 dn, .int .i64 vl]) ∧ Below w.heap.size w w' := by
  have hA : Below w.heap.size w (w.alloc (.cells #[.slice none 0 0, .int .i64 0, .slice none 0 0, .int .i64 0, .int .i64 0] 28)) := Below.alloc (Below.refl _ _) (Nat.le_refl _) _
  obtain ⟨c0, c1, c2, c3, c4, c5, fz⟩ := h.kept hA
  have A := hid hA
  clear fz h hA
  go_enter Tryz.func28, Tryz.ntmps28
  go_wp2_with fail
  refine bodyPost_ret (v := .agg #[.slice fa fn fc, .int .i64 fu, .slice oa on oc, .int .i64 dn, .int .i64 vl]) (by simp [results, Tryz.results28, go_sem]) rfl ⟨rfl, ?_⟩
  exact Below.alloc (Below.refl _ _) (Nat.le_refl _) _

set_option maxRecDepth 100000 in
set_option maxHeartbeats 4000000 in
/-- A machine of a program, at a state. -/
theorem machNew_any (pa : Option Addr) (pn pc : Nat) (ps : List Fn) (fa : Option Addr) (fn fc : Nat) (fs : List Fr) (fu : Int) (oa : Option Addr) (on oc : Nat) (os : List Int) (dn vl : Int) (w : World) (hp : Fns w pa pn pc ps) (hf : Frs w fa fn fc fs) (ho : Ints w oa on oc os) :
    Calls Tryz.prog 26 #[.agg #[.slice pa pn pc], .agg #[.slice fa fn fc, .int .i64 fu, .slice oa on oc, .int .i64 dn, .int .i64 vl]] w fun e w' => ∃ mb base, e = .returned (.pointer (some ⟨mb, 0, none⟩)) ∧ Mach w w w' base mb pa pn pc (fs, fu, os, dn, vl) := by
  have HF := hid hf
  have HO := hid ho
  have hfr := hf.room
  have hfc := hf.cap
  have hor := ho.room
  have hoc := ho.cap
  have hpr := hp.room
  have hpc := hp.cap
  clear hp hf ho
  have W3 : Hid (∃ w3 : World, w3 = (w.alloc (.cells #[.slice pa pn pc] 24)).alloc (.cells #[.slice fa fn fc, .int .i64 fu, .slice oa on oc, .int .i64 dn, .int .i64 vl] 28)) := hid ⟨_, rfl⟩
  obtain ⟨w3, hw3⟩ := W3.out
  have hs3 : w3.heap.size = w.heap.size + 2 := by rw [hw3]; simp
  have B3 : Hid (Below w.heap.size w w3) := hid (by rw [hw3]; exact Below.alloc (Below.alloc (Below.refl _ _) (Nat.le_refl _) _) (by simp) _)
  have S3 : Hid (SX w3 (w.heap.size + 1) (.slice fa fn fc) fu (.slice oa on oc) dn vl) := hid (by rw [hw3]; exact ⟨by simp [go_sem], by simp [go_sem], by simp [go_sem], by simp [go_sem], by simp [go_sem], by simp [go_sem], by simp [go_sem]⟩)
  have P3 : Hid (w3.cell? ⟨w.heap.size, 0, none⟩ = some (.slice pa pn pc)) := hid (by rw [hw3]; simp [go_sem])
  have E3 := hid hw3
  have SA : Hid (∀ w', Below w3.heap.size w3 w' → (w'.cell? ⟨w.heap.size, 0, none⟩ = some (.slice pa pn pc) ∧ w'.cell? ⟨w.heap.size + 1, 0, none⟩ = some (.slice fa fn fc) ∧ w'.cell? ⟨w.heap.size + 1, 1, none⟩ = some (.int .i64 fu) ∧ w'.cell? ⟨w.heap.size + 1, 2, none⟩ = some (.slice oa on oc) ∧ w'.cell? ⟨w.heap.size + 1, 3, none⟩ = some (.int .i64 dn) ∧ w'.cell? ⟨w.heap.size + 1, 4, none⟩ = some (.int .i64 vl))) :=
    hid (fun w' b => ⟨kept_cell b P3.out, kept_cell b S3.out.c0, kept_cell b S3.out.c1, kept_cell b S3.out.c2, kept_cell b S3.out.c3, kept_cell b S3.out.c4⟩)
  have BC : Below w3.heap.size w3 w3 := Below.refl _ _
  have HF3 := hid (HF.out.kept B3.out)
  have HO3 := hid (HO.out.kept B3.out)
  have HS3 := hid hs3
  clear hw3 W3 hs3
  go_enter Tryz.func26, Tryz.ntmps26
  go_wp2_with fail
  refine wp_world (U := w3) (by rw [E3.out]) ?_
  go_region_held3 (fun w' => w'.cell? ⟨w.heap.size, 0, none⟩ = some (.slice pa pn pc) ∧ w'.cell? ⟨w.heap.size + 1, 0, none⟩ = some (.slice fa fn fc) ∧ w'.cell? ⟨w.heap.size + 1, 1, none⟩ = some (.int .i64 fu) ∧ w'.cell? ⟨w.heap.size + 1, 2, none⟩ = some (.slice oa on oc) ∧ w'.cell? ⟨w.heap.size + 1, 3, none⟩ = some (.int .i64 dn) ∧ w'.cell? ⟨w.heap.size + 1, 4, none⟩ = some (.int .i64 vl)) (first | (refine SA.out _ ?_; (repeat (first | with_reducible exact BC | with_reducible refine keepDrew ?_ | with_reducible refine keepAlloc ?_))))
    (first | (go_at_call 45; refine (copyOfState_any _ _ _ fs _ _ _ _ os _ _ _ (HF3.out.kept ?h1) (HO3.out.kept ?h2)).mono ?_; (case h1 => (repeat (first | with_reducible exact BC | with_reducible refine keepDrew ?_ | with_reducible refine keepAlloc ?_))); (case h2 => (repeat (first | with_reducible exact BC | with_reducible refine keepDrew ?_ | with_reducible refine keepAlloc ?_))); rintro e w2 ⟨va, vn, vc, t, oa', on', oc', rfl, m2, b2, z2⟩; have M2 := hid m2; have Z2 := hid z2; replace BC : Below w3.heap.size w3 w2 := kt (by repeat (first | with_reducible exact BC | with_reducible refine keepDrew ?_ | with_reducible refine keepAlloc ?_)) b2; clear m2 z2 b2))
  all_goals
    go_wp2_with fail
    go_ret
    have hA : Below w2.heap.size w2 (w2.alloc (.cells #[.slice pa pn pc, .slice va vn vc, .int .i64 fu, .slice oa' on' oc', .int .i64 dn, .int .i64 vl] 87)) := Below.alloc (Below.refl _ _) (Nat.le_refl _) _
    have m2 := M2.out
    have hin := m2.inB
    have hz2 := Z2.out
    have hsz := BC.size
    have hs3 := HS3.out
    refine ⟨w2.heap.size, w3.heap.size + 2, rfl, ⟨va, vn, vc, t, oa', on', oc', ⟨by simp [go_sem], by simp [go_sem], by simp [go_sem], by simp [go_sem], by simp [go_sem], by simp [go_sem], fun o => by simp [go_sem]⟩, (m2.kept hA).move (by simp) (fun e => by have := hin _ (by simp) _ e; omega) (fun u hu e => by have := hin u (by simp at hu ⊢; exact .inr hu) _ e; omega)⟩, kt B3.out (kt BC hA), by omega, by omega, (by simp at hz2 ⊢; omega), (Kp.refl _ w).kept (kt B3.out (kt BC hA))⟩

end Go.Proofs.YtcngmkbgcfhmdaaGreatDoor

namespace Go.Proofs.YtcngmkbgcfhmdaaGreatDoor
open Go.RowKit
set_option linter.unusedVariables false

set_option maxRecDepth 100000 in
set_option maxHeartbeats 8000000 in
theorem stepStep_any (pa : Option Addr) (pn pc : Nat) (ps : List Fn) (fa : Option Addr) (fn fc : Nat) (fs : List Fr) (fu : Int) (oa : Option Addr) (on oc : Nat) (os : List Int) (dn vl : Int) (w : World) (hp : Fns w pa pn pc ps) (hf : Frs w fa fn fc fs) (ho : Ints w oa on oc os) (ld : Ld w) :
    Calls Tryz.prog 8 #[.agg #[.slice pa pn pc], .agg #[.slice fa fn fc, .int .i64 fu, .slice oa on oc, .int .i64 dn, .int .i64 vl]] w fun e w' => ∃ va vn vc oa' on' oc', e = .returned (.tuple #[.agg #[.slice va vn vc, .int .i64 (stepS ps (fs, fu, os, dn, vl)).2.1, .slice oa' on' oc', .int .i64 (stepS ps (fs, fu, os, dn, vl)).2.2.2.1, .int .i64 (stepS ps (fs, fu, os, dn, vl)).2.2.2.2], .int .i64 (stepE ps (fs, fu, os, dn, vl))]) ∧
      OwnFrs 3 51 w' w.heap.size (.slice va vn vc) (stepS ps (fs, fu, os, dn, vl)).1 ∧ Row1 w' w.heap.size (.slice oa' on' oc') (stepS ps (fs, fu, os, dn, vl)).2.2.1 ∧ Below w.heap.size w w' := by
  have HP := hid hp
  have HF := hid hf
  have HO := hid ho
  have LD := hid ld
  have hfr := hf.room
  have hfc := hf.cap
  have hor := ho.room
  have hoc := ho.cap
  have hpr := hp.room
  have hpc := hp.cap
  clear hp hf ho ld
  generalize hS : stepS ps (fs, fu, os, dn, vl) = S
  generalize hE : stepE ps (fs, fu, os, dn, vl) = EE
  have HS := hid hS
  have HE := hid hE
  clear hS hE
  have W3 : Hid (∃ w3 : World, w3 = ((w.alloc (.cells #[.slice pa pn pc] 24)).alloc (.cells #[.slice fa fn fc, .int .i64 fu, .slice oa on oc, .int .i64 dn, .int .i64 vl] 28)).alloc (.cells #[.slice none 0 0, .int .i64 0, .slice none 0 0, .int .i64 0, .int .i64 0] 28)) := hid ⟨_, rfl⟩
  obtain ⟨w3, hw3⟩ := W3.out
  have hs3 : w3.heap.size = w.heap.size + 3 := by rw [hw3]; simp
  have B3 : Hid (Below w.heap.size w w3) := hid (by rw [hw3]; exact Below.alloc (Below.alloc (Below.alloc (Below.refl _ _) (Nat.le_refl _) _) (by simp) _) (by simp; omega) _)
  have Z3 : Hid (Z5 w3 (w.heap.size + 1 + 1)) := hid (by rw [hw3]; exact ⟨by simp [go_sem], by simp [go_sem], by simp [go_sem], by simp [go_sem], by simp [go_sem], by simp [go_sem], by simp [go_sem], by simp [go_sem], by simp [go_sem], by simp [go_sem]⟩)
  have S3 : Hid (SX w3 (w.heap.size + 1) (.slice fa fn fc) fu (.slice oa on oc) dn vl) := hid (by rw [hw3]; exact ⟨by simp [go_sem], by simp [go_sem], by simp [go_sem], by simp [go_sem], by simp [go_sem], by simp [go_sem], by simp [go_sem]⟩)
  have P3 : Hid (w3.cell? ⟨w.heap.size, 0, none⟩ = some (.slice pa pn pc)) := hid (by rw [hw3]; simp [go_sem])
  have E3 := hid hw3
  clear hw3 W3
  go_enter Tryz.func8, Tryz.ntmps8
  go_wp2_with fail
  refine calls_inW (U := w3) (by rw [E3.out]) ?_
  refine (frameState_any _ _ _ ps _ _ _ fs fu _ _ _ os dn vl _ (HP.out.kept B3.out) (HF.out.kept B3.out) (HO.out.kept B3.out) (LD.out.up B3.out)).mono ?_
  rintro e w1 ⟨rfl, b1⟩
  have B1 := hid (kt B3.out b1)
  have Z1 := hid (Z3.out.kept b1)
  have S1 := hid (S3.out.kept b1)
  have P1 := hid (kept_cell b1 P3.out)
  have hs1 : w.heap.size + 3 ≤ w1.heap.size := by have := b1.size; omega
  clear b1 E3 Z3 S3 P3 hs3 B3
  cases hsb : stateB ps (fs, fu, os, dn, vl)
  · obtain ⟨e1, e2⟩ := stepS_no hsb
    obtain rfl : S = noSt := by rw [← HS.out, e1]
    obtain rfl : EE = 700 := by rw [← HE.out, e2]
    obtain ⟨c0, c1, c2, c3, c4, f0, f1, f2, f3, f4⟩ := Z1.out
    clear e1 e2
    go_wp2_with fail
    refine bodyPost_ret (v := .tuple #[.agg #[.slice none 0 0, .int .i64 0, .slice none 0 0, .int .i64 0, .int .i64 0], .int .i64 700]) (by simp [results, Tryz.results8, go_sem, c0, c1, c2, c3, c4]) rfl ⟨_, _, _, _, _, _, rfl, OwnFrs.nil _ _ _ _, ⟨by simp [noSt], World.ownsRow_nil _ _ _ _⟩, below5 B1.out (by omega) _ _ _ _ _⟩
  obtain ⟨e1, e2⟩ := stepS_yes hsb
  obtain rfl : EE = 0 := by rw [← HE.out, e2]
  have HV : Hid (stepV ps (fs, fu, os, dn, vl) = S) := hid (by rw [← e1]; exact HS.out)
  have HB := hid hsb
  have HF1 := hid (HF.out.kept B1.out)
  have HO1 := hid (HO.out.kept B1.out)
  have p1 := P1.out
  obtain ⟨x0, x1, x2, x3, x4, _, _⟩ := S1.out
  clear e1 e2 hsb HE HS
  go_wp2_with fail
  refine (machNew_any _ _ _ ps _ _ _ fs fu _ _ _ os dn vl _ (HP.out.kept B1.out) HF1.out HO1.out).mono ?_
  rintro e w2 ⟨mb, base, rfl, M2⟩
  have MM := hid M2
  clear M2 p1 x0 x1 x2 x3 x4
  go_wp2_with fail
  refine (stepM_any ps (fs, fu, os, dn, vl) _ MM.out HB.out (HP.out.kept B1.out)).mono ?_
  rw [HV.out]
  rintro e w5 ⟨rfl, h5⟩
  obtain ⟨⟨xa, xn, xc, xt, ya, yn, yc, X5, M5⟩, old5, hb5, hm5, hz5, kp5⟩ := h5
  have X := hid X5
  have MM5 := hid (And.intro M5.owns old5)
  clear X5 M5 old5 hm5 hz5 kp5
  go_wp2_with fail
  refine (mstate_any _ X.out).mono ?_
  rintro e w6 ⟨rfl, b6⟩
  obtain ⟨d0, d1, d2, d3, d4, f0, f1, f2, f3, f4⟩ := (Z1.out.kept MM5.out.2).kept b6
  have O6 := hid (And.intro (MM5.out.1.1.kept b6) (And.intro MM5.out.1.2.1 (owns_kept MM5.out.1.2.2 b6)))
  have B6 := hid (kt B1.out (kt MM5.out.2 b6))
  clear b6
  go_wp2_with fail
  refine bodyPost_ret (v := .tuple #[.agg #[.slice xa xn xc, .int .i64 S.2.1, .slice ya yn yc, .int .i64 S.2.2.2.1, .int .i64 S.2.2.2.2], .int .i64 0]) (by simp [results, Tryz.results8, go_sem, d0, d1, d2, d3, d4]) rfl ⟨_, _, _, _, _, _, rfl, ?_, ?_, ?_⟩
  · exact (O6.out.1.set5 (by omega) _ _ _ _ _).base (by omega)
  · have o := O6.out.2
    exact ⟨o.1, owns_base (owns_set (owns_set (owns_set (owns_set (owns_set o.2 ⟨w.heap.size + 1 + 1, 0, none⟩ _ (by simp; omega)) ⟨w.heap.size + 1 + 1, 1, none⟩ _ (by simp; omega)) ⟨w.heap.size + 1 + 1, 2, none⟩ _ (by simp; omega)) ⟨w.heap.size + 1 + 1, 3, none⟩ _ (by simp; omega)) ⟨w.heap.size + 1 + 1, 4, none⟩ _ (by simp; omega)) (by omega)⟩
  · exact below5 B6.out (by omega) _ _ _ _ _

end Go.Proofs.YtcngmkbgcfhmdaaGreatDoor

namespace Go.Proofs.YtcngmkbgcfhmdaaGreatDoor
open Go.RowKit
set_option linter.unusedVariables false
attribute [local go_sem ↓] Go.wp_at_zero Go.wp_at_succ

set_option maxHeartbeats 1000000 in
theorem small7_any (x y : Int) (a : Option Addr) (n c : Nat) (l : List (Int × Int)) (w : World) (h : Inss w a n c l) :
    Calls Tryz.prog 15 #[.int .i64 x, .int .i64 y, .slice a n c] w fun e w' => ∃ v vn vc, e = .returned (.agg #[.slice v vn vc]) ∧ Fns w' v vn vc [(x, y, l)] ∧ Below w.heap.size w w' := by
  have hA : Below w.heap.size w (w.alloc (.cells #[.slice (some ⟨w.heap.size + 1, 0, none⟩) 1 1] 24)) := Below.alloc (Below.refl _ _) (Nat.le_refl _) _
  have F := hid (fns_one (h.kept hA) x y 66)
  have B : Hid (Below w.heap.size w ((w.alloc (.cells #[.slice (some ⟨w.heap.size + 1, 0, none⟩) 1 1] 24)).alloc (.cells #[.int .i64 x, .int .i64 y, .slice a n c] 66))) := hid (Below.alloc hA (by simp) _)
  clear h hA
  go_enter Tryz.func15, Tryz.ntmps15
  go_wp2_with fail
  refine bodyPost_ret (v := .agg #[.slice (some ⟨w.heap.size + 1, 0, none⟩) 1 1]) (by simp [results, Tryz.results15, go_sem]) rfl ⟨_, _, _, rfl, ?_, ?_⟩
  · have := F.out; simp at this; simpa [go_sem] using this
  · simpa [go_sem] using B.out

set_option maxRecDepth 100000 in
set_option maxHeartbeats 2000000 in
theorem two7_any (w : World) : Calls Tryz.prog 35 #[] w fun e w' => ∃ v vn vc, e = .returned (.agg #[.slice v vn vc]) ∧ Fns w' v vn vc twoL ∧ Below w.heap.size w w' := by
  have W : Hid (∃ u : World, u = allocs w [.cells #[.slice (some ⟨w.heap.size + 1 + 1 + 1, 0, none⟩) 2 2] 24, .cells (flat2 oneC).toArray 45, .cells (flat2 addC).toArray 45, .cells #[.int .i64 1, .int .i64 1, .slice (some ⟨w.heap.size + 1, 0, none⟩) 6 6, .int .i64 2, .int .i64 2, .slice (some ⟨w.heap.size + 1 + 1, 0, none⟩) 4 4] 66]) := hid ⟨_, rfl⟩
  obtain ⟨u, hu⟩ := W.out
  have B : Hid (Below w.heap.size w u) := hid (by rw [hu]; exact allocs_below _ _)
  have F : Hid (Fns u (some ⟨w.heap.size + 1 + 1 + 1, 0, none⟩) 2 2 twoL) := hid (by
    rw [hu]
    exact fns_two (a := some ⟨w.heap.size + 1, 0, none⟩) (n := 6) (c := 6) (a' := some ⟨w.heap.size + 2, 0, none⟩) (n' := 4) (c' := 4) (allocs_inss w _ 1 oneC 45 rfl (by decide)) (allocs_inss w _ 2 addC 45 rfl (by decide))
      (allocs_cell w _ 3 _ 66 rfl 0 _ rfl) (allocs_cell w _ 3 _ 66 rfl 1 _ rfl) (allocs_cell w _ 3 _ 66 rfl 2 _ rfl) (allocs_cell w _ 3 _ 66 rfl 3 _ rfl) (allocs_cell w _ 3 _ 66 rfl 4 _ rfl) (allocs_cell w _ 3 _ 66 rfl 5 _ rfl))
  have P0 : Hid (u.cell? ⟨w.heap.size, 0, none⟩ = some (.slice (some ⟨w.heap.size + 1 + 1 + 1, 0, none⟩) 2 2)) := hid (by rw [hu]; exact allocs_cell w _ 0 _ 24 rfl 0 _ rfl)
  have E := hid hu
  clear hu W
  go_enter Tryz.func35, Tryz.ntmps35
  go_wp2_with fail
  refine bodyPost_ret (v := .agg #[.slice (some ⟨w.heap.size + 1 + 1 + 1, 0, none⟩) 2 2]) (by simp [results, Tryz.results35, go_sem]) rfl ⟨_, _, _, rfl, ?_, ?_⟩
  · have h := F.out
    rw [E.out] at h
    exact h
  · have h := B.out
    rw [E.out] at h
    exact h

/-- Step, as the statements read what it tells. -/
theorem step_read (pa : Option Addr) (pn pc : Nat) (ps : List Fn) (fa : Option Addr) (fn fc : Nat) (fs : List Fr) (fu : Int) (oa : Option Addr) (on oc : Nat) (os : List Int) (ds2 vl : Int) (Sf : List Fr) (Sfu : Int) (So : List Int) (Sd Sv E : Int) (w : World)
    (hS : stepS ps (fs, fu, os, ds2, vl) = (Sf, Sfu, So, Sd, Sv)) (hE : stepE ps (fs, fu, os, ds2, vl) = E) (hl : Sf.length ≤ 1000) (hp : Fns w pa pn pc ps) (hf : Frs w fa fn fc fs) (ho : Ints w oa on oc os) (ld : Ld w) :
    Calls Tryz.prog 8 #[.agg #[.slice pa pn pc], .agg #[.slice fa fn fc, .int .i64 fu, .slice oa on oc, .int .i64 ds2, .int .i64 vl]] w fun e w' => ∃ va vn vc oa' on' oc', e = .returned (.tuple #[.agg #[.slice va vn vc, .int .i64 Sfu, .slice oa' on' oc', .int .i64 Sd, .int .i64 Sv], .int .i64 E]) ∧
      Frs w' va vn vc Sf ∧ Ints w' oa' on' oc' So ∧ Below w.heap.size w w' := by
  refine (stepStep_any pa pn pc ps fa fn fc fs fu oa on oc os ds2 vl w hp hf ho ld).mono ?_
  rw [hS, hE]
  rintro e w' ⟨va, vn, vc, oa', on', oc', rfl, o, r, b⟩
  obtain ⟨_, _, _, e1, h1⟩ := o.reads (by simp only []; omega)
  cases e1
  obtain ⟨_, _, _, e2, h2⟩ := ints_of_owns r.2 r.1
  cases e2
  exact ⟨va, vn, vc, oa', on', oc', rfl, h1, h2, b⟩

/-- One frame in a row, as it lies. -/
theorem frs_at1 {w : World} {g : Nat} {x y : Int} {la sa : Option Addr} {ln lc sn sc : Nat} {ll sl : List Int} (h : Ints w la ln lc ll) (k : Ints w sa sn sc sl)
    (c0 : w.cell? ⟨g, 0, none⟩ = some (.int .i64 x)) (c1 : w.cell? ⟨g, 1, none⟩ = some (.int .i64 y)) (c2 : w.cell? ⟨g, 2, none⟩ = some (.slice la ln lc)) (c3 : w.cell? ⟨g, 3, none⟩ = some (.slice sa sn sc)) :
    Frs w (some ⟨g, 0, none⟩) 1 1 [(x, y, ll, sl)] := by
  refine ⟨rfl, Nat.le_refl _, by omega, fun e => (by cases e), fun _ => ⟨g, 0, rfl, fun i hi => ?_⟩⟩
  have h0 : i = 0 := by simpa using hi
  subst h0
  exact ⟨c0, c1, ⟨la, ln, lc, c2, h⟩, sa, sn, sc, c3, k⟩
theorem two7_a : stepS twoL ([(0, 0, [5], [])], 9, [], 0, 0) = ([(0, 1, [5], [5])], 8, [], 0, 0) ∧ stepE twoL ([(0, 0, [5], [])], 9, [], 0, 0) = 0 := by decide +kernel
theorem two7_b : stepS twoL ([(0, 1, [5], [5])], 8, [], 0, 0) = ([(0, 2, [5], [5, 2])], 7, [], 0, 0) ∧ stepE twoL ([(0, 1, [5], [5])], 8, [], 0, 0) = 0 := by decide +kernel
theorem two7_c : stepS twoL ([(0, 2, [5], [5, 2])], 7, [], 0, 0) = ([(0, 3, [5], []), (1, 0, [5, 2], [])], 6, [], 0, 0) ∧ stepE twoL ([(0, 2, [5], [5, 2])], 7, [], 0, 0) = 0 := by decide +kernel
theorem two7_i : stepS twoL ([], 0, [], 0, 0) = ([], 0, [], 0, 0) ∧ stepE twoL ([], 0, [], 0, 0) = 700 := by decide +kernel
theorem two7_d : stepS twoL ([(0, 0, [5], [])], 0, [], 0, 0) = ([], 0, [], 4, 0) ∧ stepE twoL ([(0, 0, [5], [])], 0, [], 0, 0) = 0 := by decide +kernel

set_option maxRecDepth 100000 in
set_option maxHeartbeats 8000000 in
theorem awake7_any (w : World) (ld : Ld w) : Calls Tryz.prog 14 #[] w fun e w' => e = .returned (.bool true) ∧ Below w.heap.size w w' := by
  have LD := hid ld
  clear ld
  go_enter Tryz.func14, Tryz.ntmps14
  go_wp2_with fail
  refine (two7_any _).mono ?_
  rintro e w1 ⟨pv, pn, pc, rfl, f1, b1⟩
  have hA : Below w1.heap.size w1 (w1.alloc (.cells #[.slice pv pn pc] 24)) := Below.alloc (Below.refl _ _) (Nat.le_refl _) _
  have A1 : Hid (Below (w1.alloc (.cells #[.slice pv pn pc] 24)).heap.size (w1.alloc (.cells #[.slice pv pn pc] 24)) ((w1.alloc (.cells #[.slice pv pn pc] 24)).alloc (.cells #[.int .i64 5] 3))) := hid (Below.alloc (Below.refl _ _) (Nat.le_refl _) _)
  have P1 : Hid ((w1.alloc (.cells #[.slice pv pn pc] 24)).cell? ⟨w1.heap.size, 0, none⟩ = some (.slice pv pn pc)) := hid (by simp [go_sem])
  have F1 := hid (f1.kept hA)
  have I1 : Hid (Ints ((w1.alloc (.cells #[.slice pv pn pc] 24)).alloc (.cells #[.int .i64 5] 3)) (some ⟨w1.heap.size + 1, 0, none⟩) 1 1 [5]) := hid (ints_new (by simp) rfl rfl (by decide))
  have C1 := hid (kt b1 hA)
  clear f1 b1 hA
  go_wp2_with fail
  refine (refStart_any _ _ _ twoL _ 1 1 [5] 9 _ (F1.out.kept A1.out) I1.out).mono ?_
  rintro e w2 ⟨v2, rfl, o2, b2⟩
  rw [two_s.1, two_s.2] at *
  obtain ⟨sa, sn, sc, rfl, s2⟩ := o2.reads (by decide)
  have hA : Below w2.heap.size w2 (w2.alloc (.cells #[.slice sa sn sc, .int .i64 9, .slice none 0 0, .int .i64 0, .int .i64 0] 28)) := Below.alloc (Below.refl _ _) (Nat.le_refl _) _
  have D2 := hid (kt (kt A1.out b2) hA)
  have PF2 := hid (F1.out.kept D2.out)
  have PC2 := hid (kept_cell D2.out P1.out)
  have B2 := hid (kt C1.out D2.out)
  have Fs2 := hid (s2.kept hA)
  have Xs2 : Hid (SX (w2.alloc (.cells #[.slice sa sn sc, .int .i64 9, .slice none 0 0, .int .i64 0, .int .i64 0] 28)) w2.heap.size (.slice sa sn sc) 9 (.slice none 0 0) 0 0) := hid ⟨by simp [go_sem], by simp [go_sem], by simp [go_sem], by simp [go_sem], by simp [go_sem], by simp [go_sem], by simp [go_sem]⟩
  clear o2 s2 b2 hA I1 A1
  have pc3 := PC2.out
  obtain ⟨c0, c1, c2, c3, c4, _, _⟩ := Xs2.out
  go_wp2_with fail
  clear c0 c1 c2 c3 c4 pc3
  refine (step_read _ _ _ twoL _ _ _ [(0, 0, [5], [])] 9 none 0 0 [] 0 0 [(0, 1, [5], [5])] 8 [] 0 0 0 _ two7_a.1 two7_a.2 (by decide) PF2.out Fs2.out (Ints.nil _) (LD.out.up B2.out)).mono ?_
  rintro e w3 ⟨as1, as2, as3, as4, as5, as6, rfl, fr3, oo3, b3⟩
  have hA : Below w3.heap.size w3 (w3.alloc (.cells #[.slice as1 as2 as3, .int .i64 8, .slice as4 as5 as6, .int .i64 0, .int .i64 0] 28)) := Below.alloc (Below.refl _ _) (Nat.le_refl _) _
  have D3 := hid (kt b3 hA)
  have PF3 := hid (PF2.out.kept D3.out)
  have PC3 := hid (kept_cell D3.out PC2.out)
  have B3 := hid (kt B2.out D3.out)
  have Fs3 := hid (Fs2.out.kept D3.out)
  have Xs3 := hid (Xs2.out.kept D3.out)
  have Fa3 := hid (fr3.kept hA)
  have Oa3 := hid (oo3.kept hA)
  have Xa3 : Hid (SX (w3.alloc (.cells #[.slice as1 as2 as3, .int .i64 8, .slice as4 as5 as6, .int .i64 0, .int .i64 0] 28)) w3.heap.size (.slice as1 as2 as3) 8 (.slice as4 as5 as6) 0 0) := hid ⟨by simp [go_sem], by simp [go_sem], by simp [go_sem], by simp [go_sem], by simp [go_sem], by simp [go_sem], by simp [go_sem]⟩
  clear fr3 oo3 b3 hA
  clear Fs2 Xs2
  clear PF2 PC2 B2
  have pc4 := PC3.out
  obtain ⟨c0, c1, c2, c3, c4, _, _⟩ := Xa3.out
  go_wp2_with fail
  clear c0 c1 c2 c3 c4 pc4
  refine (step_read _ _ _ twoL _ _ _ [(0, 1, [5], [5])] 8 _ _ _ [] 0 0 [(0, 2, [5], [5, 2])] 7 [] 0 0 0 _ two7_b.1 two7_b.2 (by decide) PF3.out Fa3.out Oa3.out (LD.out.up B3.out)).mono ?_
  rintro e w4 ⟨bs1, bs2, bs3, bs4, bs5, bs6, rfl, fr4, oo4, b4⟩
  have hA : Below w4.heap.size w4 (w4.alloc (.cells #[.slice bs1 bs2 bs3, .int .i64 7, .slice bs4 bs5 bs6, .int .i64 0, .int .i64 0] 28)) := Below.alloc (Below.refl _ _) (Nat.le_refl _) _
  have D4 := hid (kt b4 hA)
  have PF4 := hid (PF3.out.kept D4.out)
  have PC4 := hid (kept_cell D4.out PC3.out)
  have B4 := hid (kt B3.out D4.out)
  have Fs4 := hid (Fs3.out.kept D4.out)
  have Xs4 := hid (Xs3.out.kept D4.out)
  have Fa4 := hid (Fa3.out.kept D4.out)
  have Xa4 := hid (Xa3.out.kept D4.out)
  have Oa4 := hid (Oa3.out.kept D4.out)
  have Fb4 := hid (fr4.kept hA)
  have Ob4 := hid (oo4.kept hA)
  have Xb4 : Hid (SX (w4.alloc (.cells #[.slice bs1 bs2 bs3, .int .i64 7, .slice bs4 bs5 bs6, .int .i64 0, .int .i64 0] 28)) w4.heap.size (.slice bs1 bs2 bs3) 7 (.slice bs4 bs5 bs6) 0 0) := hid ⟨by simp [go_sem], by simp [go_sem], by simp [go_sem], by simp [go_sem], by simp [go_sem], by simp [go_sem], by simp [go_sem]⟩
  clear fr4 oo4 b4 hA
  clear Fs3 Xs3
  clear Fa3 Xa3 Oa3
  clear PF3 PC3 B3
  have pc5 := PC4.out
  obtain ⟨c0, c1, c2, c3, c4, _, _⟩ := Xb4.out
  go_wp2_with fail
  clear c0 c1 c2 c3 c4 pc5
  refine (step_read _ _ _ twoL _ _ _ [(0, 2, [5], [5, 2])] 7 _ _ _ [] 0 0 [(0, 3, [5], []), (1, 0, [5, 2], [])] 6 [] 0 0 0 _ two7_c.1 two7_c.2 (by decide) PF4.out Fb4.out Ob4.out (LD.out.up B4.out)).mono ?_
  rintro e w5 ⟨cs1, cs2, cs3, cs4, cs5, cs6, rfl, fr5, oo5, b5⟩
  have hA : Below w5.heap.size w5 (w5.alloc (.cells #[.slice cs1 cs2 cs3, .int .i64 6, .slice cs4 cs5 cs6, .int .i64 0, .int .i64 0] 28)) := Below.alloc (Below.refl _ _) (Nat.le_refl _) _
  have D5 := hid (kt b5 hA)
  have PF5 := hid (PF4.out.kept D5.out)
  have PC5 := hid (kept_cell D5.out PC4.out)
  have B5 := hid (kt B4.out D5.out)
  have Fs5 := hid (Fs4.out.kept D5.out)
  have Xs5 := hid (Xs4.out.kept D5.out)
  have Fa5 := hid (Fa4.out.kept D5.out)
  have Xa5 := hid (Xa4.out.kept D5.out)
  have Oa5 := hid (Oa4.out.kept D5.out)
  have Fb5 := hid (Fb4.out.kept D5.out)
  have Xb5 := hid (Xb4.out.kept D5.out)
  have Ob5 := hid (Ob4.out.kept D5.out)
  have Fc5 := hid (fr5.kept hA)
  have Oc5 := hid (oo5.kept hA)
  have Xc5 : Hid (SX (w5.alloc (.cells #[.slice cs1 cs2 cs3, .int .i64 6, .slice cs4 cs5 cs6, .int .i64 0, .int .i64 0] 28)) w5.heap.size (.slice cs1 cs2 cs3) 6 (.slice cs4 cs5 cs6) 0 0) := hid ⟨by simp [go_sem], by simp [go_sem], by simp [go_sem], by simp [go_sem], by simp [go_sem], by simp [go_sem], by simp [go_sem]⟩
  clear fr5 oo5 b5 hA
  clear Fs4 Xs4
  clear Fa4 Xa4 Oa4
  clear Fb4 Xb4 Ob4
  clear PF4 PC4 B4
  have pc6 := PC5.out
  go_wp2_with fail
  clear pc6
  refine (step_read _ _ _ twoL none 0 0 [] 0 none 0 0 [] 0 0 [] 0 [] 0 0 700 _ two7_i.1 two7_i.2 (by decide) PF5.out (Frs.nil _) (Ints.nil _) (LD.out.up B5.out)).mono ?_
  rintro e w6 ⟨is1, is2, is3, is4, is5, is6, rfl, fr6, oo6, b6⟩
  have hA : Below w6.heap.size w6 (w6.alloc (.cells #[.slice is1 is2 is3, .int .i64 0, .slice is4 is5 is6, .int .i64 0, .int .i64 0] 28)) := Below.alloc (Below.refl _ _) (Nat.le_refl _) _
  have D6 := hid (kt b6 hA)
  have PF6 := hid (PF5.out.kept D6.out)
  have PC6 := hid (kept_cell D6.out PC5.out)
  have B6 := hid (kt B5.out D6.out)
  have Fs6 := hid (Fs5.out.kept D6.out)
  have Xs6 := hid (Xs5.out.kept D6.out)
  have Fa6 := hid (Fa5.out.kept D6.out)
  have Xa6 := hid (Xa5.out.kept D6.out)
  have Oa6 := hid (Oa5.out.kept D6.out)
  have Fb6 := hid (Fb5.out.kept D6.out)
  have Xb6 := hid (Xb5.out.kept D6.out)
  have Ob6 := hid (Ob5.out.kept D6.out)
  have Fc6 := hid (Fc5.out.kept D6.out)
  have Xc6 := hid (Xc5.out.kept D6.out)
  have Oc6 := hid (Oc5.out.kept D6.out)
  have Fi6 := hid (fr6.kept hA)
  have Oi6 := hid (oo6.kept hA)
  have Xi6 : Hid (SX (w6.alloc (.cells #[.slice is1 is2 is3, .int .i64 0, .slice is4 is5 is6, .int .i64 0, .int .i64 0] 28)) w6.heap.size (.slice is1 is2 is3) 0 (.slice is4 is5 is6) 0 0) := hid ⟨by simp [go_sem], by simp [go_sem], by simp [go_sem], by simp [go_sem], by simp [go_sem], by simp [go_sem], by simp [go_sem]⟩
  clear fr6 oo6 b6 hA
  clear Fs5 Xs5
  clear Fa5 Xa5 Oa5
  clear Fb5 Xb5 Ob5
  clear Fc5 Xc5 Oc5
  clear PF5 PC5 B5
  have pc7 := PC6.out
  have c0 := Xs6.out.c0
  go_wp2_with fail
  clear c0 pc7
  refine (step_read _ _ _ twoL _ _ _ [(0, 0, [5], [])] 0 none 0 0 [] 0 0 [] 0 [] 4 0 0 _ two7_d.1 two7_d.2 (by decide) PF6.out Fs6.out (Ints.nil _) (LD.out.up B6.out)).mono ?_
  rintro e w7 ⟨ds1, ds2, ds3, ds4, ds5, ds6, rfl, fr7, oo7, b7⟩
  have hA : Below w7.heap.size w7 (w7.alloc (.cells #[.slice ds1 ds2 ds3, .int .i64 0, .slice ds4 ds5 ds6, .int .i64 4, .int .i64 0] 28)) := Below.alloc (Below.refl _ _) (Nat.le_refl _) _
  have D7 := hid (kt b7 hA)
  have PF7 := hid (PF6.out.kept D7.out)
  have PC7 := hid (kept_cell D7.out PC6.out)
  have B7 := hid (kt B6.out D7.out)
  have Fs7 := hid (Fs6.out.kept D7.out)
  have Xs7 := hid (Xs6.out.kept D7.out)
  have Fa7 := hid (Fa6.out.kept D7.out)
  have Xa7 := hid (Xa6.out.kept D7.out)
  have Oa7 := hid (Oa6.out.kept D7.out)
  have Fb7 := hid (Fb6.out.kept D7.out)
  have Xb7 := hid (Xb6.out.kept D7.out)
  have Ob7 := hid (Ob6.out.kept D7.out)
  have Fc7 := hid (Fc6.out.kept D7.out)
  have Xc7 := hid (Xc6.out.kept D7.out)
  have Oc7 := hid (Oc6.out.kept D7.out)
  have Fi7 := hid (Fi6.out.kept D7.out)
  have Xi7 := hid (Xi6.out.kept D7.out)
  have Oi7 := hid (Oi6.out.kept D7.out)
  have Fd7 := hid (fr7.kept hA)
  have Od7 := hid (oo7.kept hA)
  have Xd7 : Hid (SX (w7.alloc (.cells #[.slice ds1 ds2 ds3, .int .i64 0, .slice ds4 ds5 ds6, .int .i64 4, .int .i64 0] 28)) w7.heap.size (.slice ds1 ds2 ds3) 0 (.slice ds4 ds5 ds6) 4 0) := hid ⟨by simp [go_sem], by simp [go_sem], by simp [go_sem], by simp [go_sem], by simp [go_sem], by simp [go_sem], by simp [go_sem]⟩
  clear fr7 oo7 b7 hA
  clear Fs6 Xs6
  clear Fa6 Xa6 Oa6
  clear Fb6 Xb6 Ob6
  clear Fc6 Xc6 Oc6
  clear Fi6 Xi6 Oi6
  clear PF6 PC6 B6
  clear Fs7 Xs7 Fb7 Ob7 Xb7 Fi7 Oi7 Xi7 PF7 PC7 D6 D5 D4 D3 D2 F1 C1 P1
  have W9 : Hid (∃ u9 : World, u9 = allocs w7 [.cells #[.slice ds1 ds2 ds3, .int .i64 0, .slice ds4 ds5 ds6, .int .i64 4, .int .i64 0] 28, .cells #[.int .i64 5] 3, .cells #[.int .i64 5] 3, .cells #[.int .i64 0, .int .i64 1, .slice (some ⟨w7.heap.size + 1, 0, none⟩) 1 1, .slice (some ⟨w7.heap.size + 1 + 1, 0, none⟩) 1 1] 51]) := hid ⟨_, rfl⟩
  obtain ⟨u9, hu9⟩ := W9.out
  have D9 : Hid (Below (w7.alloc (.cells #[.slice ds1 ds2 ds3, .int .i64 0, .slice ds4 ds5 ds6, .int .i64 4, .int .i64 0] 28)).heap.size (w7.alloc (.cells #[.slice ds1 ds2 ds3, .int .i64 0, .slice ds4 ds5 ds6, .int .i64 4, .int .i64 0] 28)) u9) := hid (by rw [hu9]; exact allocs_below (w7.alloc (.cells #[.slice ds1 ds2 ds3, .int .i64 0, .slice ds4 ds5 ds6, .int .i64 4, .int .i64 0] 28)) [.cells #[.int .i64 5] 3, .cells #[.int .i64 5] 3, .cells #[.int .i64 0, .int .i64 1, .slice (some ⟨w7.heap.size + 1, 0, none⟩) 1 1, .slice (some ⟨w7.heap.size + 1 + 1, 0, none⟩) 1 1] 51])
  have I9 : Hid (Frs u9 (some ⟨w7.heap.size + 1 + 1 + 1, 0, none⟩) 1 1 [(0, 1, [5], [5])]) := hid (by
    rw [hu9]
    exact frs_at1 (g := w7.heap.size + 3) (la := some ⟨w7.heap.size + 1, 0, none⟩) (ln := 1) (lc := 1) (sa := some ⟨w7.heap.size + 2, 0, none⟩) (sn := 1) (sc := 1) (allocs_ints w7 _ 1 [5] 3 rfl (by decide)) (allocs_ints w7 _ 2 [5] 3 rfl (by decide)) (allocs_cell w7 _ 3 _ 51 rfl 0 _ rfl) (allocs_cell w7 _ 3 _ 51 rfl 1 _ rfl) (allocs_cell w7 _ 3 _ 51 rfl 2 _ rfl) (allocs_cell w7 _ 3 _ 51 rfl 3 _ rfl))
  have E9 := hid hu9
  obtain ⟨c0, c1, c2, c3, c4, _, _⟩ := Xa7.out
  clear hu9 W9
  go_wp2_with fail
  refine calls_world (U := u9) E9.out ?_
  refine (sameState_any _ _ _ [(0, 1, [5], [5])] 8 _ _ _ [] 0 0 _ 1 1 [(0, 1, [5], [5])] 8 none 0 0 [] 0 0 _ (Fa7.out.kept D9.out) (Oa7.out.kept D9.out) I9.out (Ints.nil _)).mono ?_
  rintro e x8 ⟨rfl, b8⟩
  rw [sameS_self]
  have G8 := hid (kt D9.out b8)
  have B8 := hid (kt B7.out G8.out)
  have Fc8 := hid (Fc7.out.kept G8.out)
  have Oc8 := hid (Oc7.out.kept G8.out)
  have Fd8 := hid (Fd7.out.kept G8.out)
  have Od8 := hid (Od7.out.kept G8.out)
  have Xd8 := hid (Xd7.out.kept G8.out)
  obtain ⟨k0, k1, k2, k3, k4, _, _⟩ := Xc7.out.kept G8.out
  have W10 : Hid (∃ u10 : World, u10 = allocs x8 [.cells #[.int .i64 5] 3, .cells #[.int .i64 5, .int .i64 2] 3, .cells #[.int .i64 0, .int .i64 3, .slice (some ⟨x8.heap.size, 0, none⟩) 1 1, .slice none 0 0, .int .i64 1, .int .i64 0, .slice (some ⟨x8.heap.size + 1, 0, none⟩) 2 2, .slice none 0 0] 51]) := hid ⟨_, rfl⟩
  obtain ⟨u10, hu10⟩ := W10.out
  have D10 : Hid (Below x8.heap.size x8 u10) := hid (by rw [hu10]; exact allocs_below _ _)
  have I10 : Hid (Frs u10 (some ⟨x8.heap.size + 1 + 1, 0, none⟩) 2 2 [(0, 3, [5], []), (1, 0, [5, 2], [])]) := hid (by
    rw [hu10]
    exact frs_two (g := x8.heap.size + 2) (la := some ⟨x8.heap.size, 0, none⟩) (ln := 1) (lc := 1) (sa := none) (sn := 0) (sc := 0) (la' := some ⟨x8.heap.size + 1, 0, none⟩) (ln' := 2) (lc' := 2) (sa' := none) (sn' := 0) (sc' := 0) (allocs_ints x8 _ 0 [5] 3 rfl (by decide)) (Ints.nil _) (allocs_ints x8 _ 1 [5, 2] 3 rfl (by decide)) (Ints.nil _)
      (allocs_cell x8 _ 2 _ 51 rfl 0 _ rfl) (allocs_cell x8 _ 2 _ 51 rfl 1 _ rfl) (allocs_cell x8 _ 2 _ 51 rfl 2 _ rfl) (allocs_cell x8 _ 2 _ 51 rfl 3 _ rfl) (allocs_cell x8 _ 2 _ 51 rfl 4 _ rfl) (allocs_cell x8 _ 2 _ 51 rfl 5 _ rfl) (allocs_cell x8 _ 2 _ 51 rfl 6 _ rfl) (allocs_cell x8 _ 2 _ 51 rfl 7 _ rfl))
  have E10 := hid hu10
  clear hu10 W10 b8 c0 c1 c2 c3 c4
  go_wp2_with (go_at_call 11; refine (num_any _ _).mono ?_; rintro e x ⟨rfl, hw⟩; rw [hw]; clear hw)
  refine calls_world (U := u10) E10.out ?_
  refine (sameState_any _ _ _ [(0, 3, [5], []), (1, 0, [5, 2], [])] 6 _ _ _ [] 0 0 _ 2 2 [(0, 3, [5], []), (1, 0, [5, 2], [])] 6 none 0 0 [] 0 0 _ (Fc8.out.kept D10.out) (Oc8.out.kept D10.out) I10.out (Ints.nil _)).mono ?_
  rintro e x9 ⟨rfl, b9⟩
  rw [sameS_self]
  have G9 := hid (kt D10.out b9)
  have B9 := hid (kt B8.out G9.out)
  obtain ⟨l0, l1, l2, l3, l4, _, _⟩ := Xd8.out.kept G9.out
  clear b9 k0 k1 k2 k3 k4
  go_wp2_with (go_at_call 11; refine (num_any _ _).mono ?_; rintro e x ⟨rfl, hw⟩; rw [hw]; clear hw)
  refine (sameState_any _ _ _ [] 0 _ _ _ [] 4 0 none 0 0 [] 0 none 0 0 [] 4 0 _ (Fd8.out.kept G9.out) (Od8.out.kept G9.out) (Frs.nil _) (Ints.nil _)).mono ?_
  rintro e x10 ⟨rfl, b10⟩
  rw [sameS_self]
  have B10 := hid (kt B9.out b10)
  clear b10 l0 l1 l2 l3 l4
  go_wp2_with (go_at_call 11; refine (num_any _ _).mono ?_; rintro e x ⟨rfl, hw⟩; rw [hw]; clear hw)
  go_ret
  exact ⟨rfl, B10.out⟩

end Go.Proofs.YtcngmkbgcfhmdaaGreatDoor

namespace Go.Proofs.YtcngmkbgcfhmdaaGreatDoor
open Go.RowKit
set_option linter.unusedVariables false

theorem Ints.take {w : World} {a : Option Addr} {n c : Nat} {l : List Int} (h : Ints w a n c l) (k : Nat) (hk : k ≤ n) : Ints w a k c (l.take k) := by
  refine ⟨by rw [List.length_take, ← h.len]; omega, by have := h.cap; omega, by have := h.room; omega, fun e => by have := h.nilc e; omega, fun hn => ?_⟩
  obtain ⟨b, o, ha, hr⟩ := h.row (by omega)
  refine ⟨b, o, ha, fun i hi => ?_⟩
  rw [hr i (by omega)]
  simp [List.getD_eq_getElem?_getD, hi]

theorem step_all {ps : List Fn} {fs : List Fr} {fu : Int} {os : List Int} {dn vl : Int} (h : stateB ps (fs, fu, os, dn, vl) = true) : stateB ps (stepV ps (fs, fu, os, dn, vl)) = true ∧ (∃ t : List Int, (stepV ps (fs, fu, os, dn, vl)).2.2.1 = os ++ t ∧ t.length ≤ 1) ∧
    ((¬ dn = 0 ∧ stepV ps (fs, fu, os, dn, vl) = (fs, fu, os, dn, vl)) ∨ (dn = 0 ∧ fu = 0 ∧ stepV ps (fs, fu, os, dn, vl) = ([], 0, os, 4, 0)) ∨ (dn = 0 ∧ ¬ fu = 0 ∧ Stepped (fs, fu, os, dn, vl) (stepV ps (fs, fu, os, dn, vl)))) := by
  refine ⟨step_keeps h, ?_⟩
  by_cases hd : dn = 0
  · subst hd
    by_cases hf : fu = 0
    · subst hf
      have e : stepV ps (fs, 0, os, 0, vl) = ([], 0, os, 4, 0) := by simp [stepV]
      exact ⟨⟨[], by rw [e]; simp, by simp⟩, .inr (.inl ⟨rfl, rfl, e⟩)⟩
    · obtain ⟨f0, x, y, ll, sl, e, _, ok⟩ := ok_of h rfl
      simp only [] at e
      subst e
      have hs : Stepped (f0 ++ [(x, y, ll, sl)], fu, os, 0, vl) (stepV ps (f0 ++ [(x, y, ll, sl)], fu, os, 0, vl)) := by rw [stepV_top hf]; exact (step_run h hf ok).2
      refine ⟨?_, .inr (.inr ⟨rfl, hf, hs⟩)⟩
      rcases hs.out with e | ⟨z, e⟩
      · exact ⟨[], by rw [e]; simp, by simp⟩
      · exact ⟨[z], e, by simp⟩
  · have e : stepV ps (fs, fu, os, dn, vl) = (fs, fu, os, dn, vl) := by simp [stepV, hd]
    exact ⟨⟨[], by rw [e]; simp, by simp⟩, .inl ⟨hd, e⟩⟩

end Go.Proofs.YtcngmkbgcfhmdaaGreatDoor
