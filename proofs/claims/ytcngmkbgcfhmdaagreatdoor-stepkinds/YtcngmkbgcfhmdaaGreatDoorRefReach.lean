/- What the document's own Reached returns: a queue that is cut at its head. -/
import Derived.Test.YtcngmkbgcfhmdaaGreatDoorJ4
import Derived.Test.YtcngmkbgcfhmdaaGreatDoorRefNext
import Derived.Deep.AppendSrc
import Derived.Deep.MidRow
namespace Go.Proofs.YtcngmkbgcfhmdaaGreatDoor
open Go.RowKit
set_option linter.unusedVariables false

/-- A queue: numbers in block g from offset o on, with room for cap in all. -/
structure Queue (w : World) (base g o cap : Nat) (xs : List Int) : Prop where
  old : base ≤ g
  lt : g < w.heap.size
  len : xs.length ≤ cap
  cells : w.rangeAt g o (ints xs)
  room : w.there g o cap
theorem Queue.frm {S : Nat → Prop} {w w' : World} {base g o cap : Nat} {xs : List Int} (h : Queue w base g o cap xs) (hf : Frm S w w') (hg : ¬ S g) : Queue w' base g o cap xs := by
  have hc : ∀ o', w'.cell? ⟨g, o', none⟩ = w.cell? ⟨g, o', none⟩ := fun o' => World.cell?_of_block (w := w) (hf.block g h.lt hg)
  have hz : ∀ o', w'.frozen? ⟨g, o', none⟩ = w.frozen? ⟨g, o', none⟩ := fun o' => World.frozen?_of_block (w := w) (hf.block g h.lt hg)
  exact ⟨h.old, by have := hf.size; have := h.lt; omega, h.len, fun j v hv => by rw [hc]; exact h.cells j v hv, fun j hj => by rw [hc, hz]; exact h.room j hj⟩
theorem Queue.tail {w : World} {base g o cap : Nat} {x : Int} {xs : List Int} (h : Queue w base g o cap (x :: xs)) : Queue w base g (o + 1) (cap - 1) xs := by
  have hl := h.len
  simp at hl
  refine ⟨h.old, h.lt, by omega, fun j v hv => ?_, fun j hj => ?_⟩
  · rw [show o + 1 + j = o + (j + 1) by omega]; exact h.cells (j + 1) v (by simpa [ints] using hv)
  · rw [show o + 1 + j = o + (j + 1) by omega]; exact h.room (j + 1) (by omega)
theorem Queue.head {w : World} {base g o cap : Nat} {x : Int} {xs : List Int} (h : Queue w base g o cap (x :: xs)) : w.cell? ⟨g, o, none⟩ = some (.int .i64 x) := by
  have := h.cells 0 (.int .i64 x) (by simp [ints])
  simpa using this
theorem setCells_frm (b : Nat) : ∀ (vs : List Value) (o : Nat) (w : World), Frm (fun k => k = b) w (w.setCells b o vs)
  | [], _, w => Frm.refl _ w
  | v :: r, o, w => (Frm.set (S := fun k => k = b) (p := ⟨b, o, none⟩) v rfl).trans (setCells_frm b r (o + 1) (w.setCell ⟨b, o, none⟩ v)) (fun _ _ h => h)

theorem Queue.push {w : World} {base g o cap : Nat} {xs ys : List Int} (h : Queue w base g o cap xs) (hroom : xs.length + ys.length ≤ cap) : Queue (w.setCells g (o + xs.length * 1) (ints ys)) base g o cap (xs ++ ys) := by
  have hf := setCells_frm g (ints ys) (o + xs.length * 1) w
  refine ⟨h.old, by have := hf.size; have := h.lt; omega, by simpa using hroom, ?_, World.there_setCells h.room _ _ _⟩
  have h1 := World.rangeAt_setCells_apart h.cells g (o + xs.length * 1) (ints ys) (.inr (.inl (by rw [ints_len]; omega)))
  have h2 := World.rangeAt_setCells_same w g (o + xs.length * 1) (ints ys) (fun j hj => by
    rw [ints_len] at hj
    have := h.room (xs.length + j) (by omega)
    rw [show o + xs.length * 1 + j = o + (xs.length + j) by omega]; exact this)
  intro j v hv
  rw [ints_app] at hv
  rcases Nat.lt_or_ge j xs.length with hlt | hge
  · rw [List.getElem?_append_left (by rw [ints_len]; exact hlt)] at hv
    exact h1 j v hv
  · rw [List.getElem?_append_right (by rw [ints_len]; exact hge), ints_len] at hv
    have := h2 (j - xs.length) v hv
    rw [show o + xs.length * 1 + (j - xs.length) = o + j by omega] at this
    exact this
theorem Queue.of_owns {w : World} {base e g cap : Nat} {xs : List Int} (h : w.ownsRow base e 1 (.slice (some ⟨g, 0, none⟩) xs.length cap) xs.length (ints xs)) : Queue w base g 0 cap xs := by
  obtain ⟨h1, h2⟩ := h.lt g rfl
  rcases h.2 with ⟨e0, _⟩ | ⟨g', cap', cur, e0, hb, hg, hc, hcm, hcs, ht⟩
  · cases e0
  · cases e0
    refine ⟨h1, h2, hc, fun j v hv => ?_, fun j hj => ⟨?_, ?_⟩⟩
    · have hj : j < (ints xs).length := (List.getElem?_eq_some_iff.1 hv).1
      rw [Nat.zero_add, h.cellAt j (by rw [ints_len] at hj; omega)]; exact hv
    · rw [Nat.zero_add, cell_of_row w g j cur e (0, 0) hg]
      simp [show j < cur.size by omega]
    · rw [Nat.zero_add]; exact frozen_of_row w g j cur e hg

/-- What append does to a queue. -/
theorem run_append_queue {P : Program} (w : World) (t ty e : TypeId) (i : TypeInfo) (z : Value) (bytes : Nat) (ht : P.underlying t = some (.slice e)) (hi : P.info? e = some i) (hz : i.zero = some z) (hsize : i.size = 1) (hby : i.bytes = bytes) (hzs : z.cells.size = 1)
    (base g o cap : Nat) (xs ys : List Int) (hq : Queue w base g o cap xs) (v : Value) (base' : Nat) (hv : w.ownsRow base' e 1 v ys.length (ints ys)) (h63 : xs.length + ys.length ≤ maxLen) (hb : (xs.length + ys.length) * bytes ≤ 140737488355328) :
    ∃ g' o' cap' w', (Builtin.append_ #[t, t] ty #[.slice (some ⟨g, o, none⟩) xs.length cap, v]).run P w = .ok (.slice (some ⟨g', o', none⟩) (xs ++ ys).length cap') w' ∧ Queue w' base g' o' cap' (xs ++ ys) ∧ Frm (fun k => k = g) w w' ∧ (g' = g ∨ w.heap.size ≤ g') := by
  rw [List.length_append]
  rcases hv.2 with ⟨rfl, hn⟩ | ⟨gn, capn, cur, rfl, hbn, hgn, hcn, _, _, _⟩
  · have e0 : ys = [] := List.length_eq_zero_iff.1 hn
    subst e0
    have hr := run_append_room_src (P := P) w t t ty e i ht hi g o xs.length cap (.slice none 0 0) 0 [] (Src.ofNil w ht 0) (by have := hq.len; omega) (fun j hj => by simp at hj) (fun j hj => by simp at hj)
    refine ⟨g, o, cap, w, hr, by simpa using hq, Frm.refl _ _, .inl rfl⟩
  · have hnews : ∀ j u, (ints ys)[j]? = some u → w.cell? ((⟨gn, 0, none⟩ : Addr).add j) = some u := hv.cells (g := gn) rfl
    by_cases hroom : xs.length + ys.length ≤ cap
    · have hr := run_append_room_cells (P := P) w t ty e i ht hi g o xs.length cap ⟨gn, 0, none⟩ ys.length capn (ints ys) (by rw [ints_len, hsize]; omega) hnews (ints_one ys) hroom
        (fun j hj => by rw [hsize, show o + xs.length * 1 + j = o + (xs.length + j) by omega]; rw [ints_len] at hj; exact (hq.room _ (by omega)).1)
        (fun j hj => by rw [hsize, show o + xs.length * 1 + j = o + (xs.length + j) by omega]; rw [ints_len] at hj; exact (hq.room _ (by omega)).2)
      rw [hsize] at hr
      exact ⟨g, o, cap, _, hr, hq.push hroom, setCells_frm _ _ _ _, .inl rfl⟩
    · obtain ⟨v', w', hr, ho, hg⟩ := run_append_arg_grows (P := P) w t ty e i z 1 bytes ht hi hz hsize hby hzs (by decide) ⟨g, o, none⟩ xs.length cap (ints xs) (by rw [ints_len]; omega) (fun j u hu => by rw [Addr.add_mid]; exact hq.cells j u hu) ⟨gn, 0, none⟩ ys.length capn (ints ys) (by rw [ints_len]; omega) hnews (by omega) h63 hb
      have hpos : 0 < xs.length + ys.length := by have := hq.len; omega
      obtain ⟨g', cap', rfl, hg1, hg2⟩ := ho.form hpos
      have hq' : w'.ownsRow w.heap.size e 1 (.slice (some ⟨g', 0, none⟩) (xs ++ ys).length cap') (xs ++ ys).length (ints (xs ++ ys)) := by rw [List.length_append, ints_app]; exact ho
      have := Queue.of_owns hq'
      exact ⟨g', 0, cap', w', hr, ⟨by have := hq.old; have := hq.lt; omega, this.lt, this.len, this.cells, this.room⟩, Frm.of_grown hg (fun k hk => by cases hk), .inr hg1⟩
theorem wpList_append_queue {P : Program} (w : World) {ops : Array Oper} {rest : List Oper} {op : Oper} {a : Act} {Q : Exit → Act → World → Prop} (hgd : op.guard = none) (s x : Operand) (t : TypeId)
    (ho : op.op = .call { callee := .builtin .append, args := #[s, x], argTypes := #[t, t] })
    (e : TypeId) (i : TypeInfo) (z : Value) (bytes : Nat) (ht : P.underlying t = some (.slice e)) (hi : P.info? e = some i) (hz : i.zero = some z) (hsize : i.size = 1) (hby : i.bytes = bytes) (hzs : z.cells.size = 1)
    (base g o cap : Nat) (xs ys : List Int) (hs : a.eval s = .slice (some ⟨g, o, none⟩) xs.length cap) (hq : Queue w base g o cap xs) (v : Value) (base' : Nat) (hx : a.eval x = v) (hv : w.ownsRow base' e 1 v ys.length (ints ys)) (h63 : xs.length + ys.length ≤ maxLen) (hb : (xs.length + ys.length) * bytes ≤ 140737488355328)
    (h : ∀ g' o' cap' w', Queue w' base g' o' cap' (xs ++ ys) → Frm (fun k => k = g) w w' → (g' = g ∨ w.heap.size ≤ g') → wpList P ops Q rest (a.put op.dst (.slice (some ⟨g', o', none⟩) (xs ++ ys).length cap')) w') : wpList P ops Q (op :: rest) a w := by
  refine wpList_plain hgd fun K hK => ?_
  obtain ⟨g', o', cap', w', hr, h2, h3, h4⟩ := run_append_queue (P := P) w t op.type e i z bytes ht hi hz hsize hby hzs base g o cap xs ys hq v base' hv h63 hb
  unfold Oper.wp execOp
  simp only [ho, resolve, invoke, builtin, Sem.run_bind, Sem.run_pure, Result.andThen_ok, List.map_toArray, List.map_cons, List.map_nil, hs, hx, hr]
  exact hK _ _ (h g' o' cap' w' h2 h3 h4)

end Go.Proofs.YtcngmkbgcfhmdaaGreatDoor
