/- Package verify's walker: what its methods do. -/
import Derived.Test.YteliljhlfemnpaaGreatDoorVerA
import Derived.Test.YteliljhlfemnpaaGreatDoorRefWalk2
namespace Go.Proofs.YteliljhlfemnpaaGreatDoor
open Go.RowKit
set_option linter.unusedVariables false

/-- A walker in its block gw: the program, the function, heights in block gh, the queue's slice. -/
structure Wk (w : World) (base gw gh : Nat) (ps : Value) (x y : Int) (code : Value) (n : Nat) (out : List Int) (qv : Value) : Prop where
  p : w.cell? ⟨gw, 0, none⟩ = some ps
  x : w.cell? ⟨gw, 1, none⟩ = some (.int .i64 x)
  y : w.cell? ⟨gw, 2, none⟩ = some (.int .i64 y)
  f : w.cell? ⟨gw, 3, none⟩ = some code
  h : w.cell? ⟨gw, 4, none⟩ = some (.slice (some ⟨gh, 0, none⟩) n n)
  q : w.cell? ⟨gw, 5, none⟩ = some qv
  free : w.frozen? ⟨gw, 5, none⟩ = false
  num : NumSt w gh n base out
theorem Wk.frm {S : Nat → Prop} {w w' : World} {base gw gh : Nat} {ps : Value} {x y : Int} {code : Value} {n : Nat} {out : List Int} {qv : Value} (h : Wk w base gw gh ps x y code n out qv) (hf : Frm S w w') (h1 : ¬ S gw) (h2 : ¬ S gh) : Wk w' base gw gh ps x y code n out qv :=
  ⟨hf.cell h.p h1, hf.cell h.x h1, hf.cell h.y h1, hf.cell h.f h1, hf.cell h.h h1, hf.cell h.q h1, hf.free h.q h.free h1, h.num.frm hf h2⟩
theorem Wk.kept {w w' : World} {base gw gh : Nat} {ps : Value} {x y : Int} {code : Value} {n : Nat} {out : List Int} {qv : Value} (h : Wk w base gw gh ps x y code n out qv) (hb : Below w.heap.size w w') : Wk w' base gw gh ps x y code n out qv :=
  h.frm (Frm.of_below (S := fun _ => False) hb) (fun h => h) (fun h => h)
theorem Frm.wide {S S' : Nat → Prop} {w w' : World} (h : Frm S w w') (hs : ∀ k, S k → S' k) : Frm S' w w' := ⟨h.os, h.tape, h.output, h.size, fun k hk hn => h.block k hk (fun e => hn (hs k e))⟩
theorem cell_set_at {w : World} {b o : Nat} {u v : Value} (hc : w.cell? ⟨b, o, none⟩ = some u) (hf : w.frozen? ⟨b, o, none⟩ = false) : (w.setCell ⟨b, o, none⟩ v).cell? ⟨b, o, none⟩ = some v :=
  World.rangeAt_setCells_same w b o [v] (fun j hj => by
    have : j = 0 := by simpa using hj
    subst this; exact ⟨by rw [Nat.add_zero, hc]; rfl, by rw [Nat.add_zero]; exact hf⟩) 0 _ rfl

/-- The world in which come appends: the height is written, the pc lies in a row of its own. -/
def comeW (w : World) (gh q : Nat) (hv : Int) : World := (w.setCell ⟨gh, q, none⟩ (.int .i64 hv)).alloc (.cells #[.int .i64 (q : Int)] 3)
theorem comeW_frm (w : World) (gh q : Nat) (hv : Int) : Frm (fun k => k = gh) w (comeW w gh q hv) := (Frm.set (S := fun k => k = gh) (p := ⟨gh, q, none⟩) _ rfl).trans (Frm.of_below (S := fun k => k = gh) (Below.alloc (Below.refl _ _) (Nat.le_refl _) _)) (fun _ _ h => h)
theorem comeW_row (w : World) (gh q : Nat) (hv : Int) : (comeW w gh q hv).ownsRow 0 3 1 (.slice (some ⟨w.heap.size, 0, none⟩) 1 1) [(q : Int)].length (ints [(q : Int)]) := by
  have := World.ownsRow_lit (e := 3) (size := 1) (base := 0) (w.setCell ⟨gh, q, none⟩ (.int .i64 hv)) #[.int .i64 (q : Int)] 1 (Nat.zero_le _) (by decide) rfl
  simp only [World.size_setCell] at this
  exact this
theorem Wk.comeW {w : World} {base gw gh : Nat} {ps : Value} {x y : Int} {code : Value} {n : Nat} {out : List Int} {qv : Value} (W : Wk w base gw gh ps x y code n out qv) (h1 : gw ≠ gh) (q : Nat) (hv : Int) : Wk (comeW w gh q hv) base gw gh ps x y code n (out.set q hv) qv := by
  have f := comeW_frm w gh q hv
  exact ⟨f.cell W.p h1, f.cell W.x h1, f.cell W.y h1, f.cell W.f h1, f.cell W.h h1, f.cell W.q h1, f.free W.q W.free h1, (W.num.put q hv).kept (Below.alloc (Below.refl _ _) (Nat.le_refl _) _)⟩
/-- .. and behind the append, with the queue's slice stored. -/
theorem Wk.stored {w : World} {base gw gh : Nat} {ps : Value} {x y : Int} {code : Value} {n : Nat} {out : List Int} {qv : Value} (W : Wk w base gw gh ps x y code n out qv) (h1 : gw ≠ gh) (v : Value) : Wk (w.setCell ⟨gw, 5, none⟩ v) base gw gh ps x y code n out v := by
  have o : ∀ (k : Nat) (u : Value), k ≠ 5 → w.cell? ⟨gw, k, none⟩ = some u → (w.setCell ⟨gw, 5, none⟩ v).cell? ⟨gw, k, none⟩ = some u := fun k u hk hc => by rw [World.cell?_setCell_other w ⟨gw, 5, none⟩ ⟨gw, k, none⟩ v (by intro e; cases e; exact hk rfl)]; exact hc
  exact ⟨o 0 _ (by omega) W.p, o 1 _ (by omega) W.x, o 2 _ (by omega) W.y, o 3 _ (by omega) W.f, o 4 _ (by omega) W.h, cell_set_at W.q W.free, by rw [World.frozen?_setCell]; exact W.free, W.num.frm (Frm.set (S := fun k => k = gw) (p := ⟨gw, 5, none⟩) v rfl) (fun e => h1 e.symm)⟩

set_option maxHeartbeats 2000000 in
set_option maxRecDepth 100000 in
theorem come_q {w : World} {base gw gh : Nat} {ps : Value} {x y : Int} {code : Value} {n : Nat} {out ws : List Int} {gq o cap : Nat} (W : Wk w base gw gh ps x y code n out (.slice (some ⟨gq, o, none⟩) ws.length cap)) (Q : Queue w base gq o cap ws) (hn : n ≤ 64)
    (h1 : gw ≠ gh) (h2 : gq ≠ gw) (h3 : gq ≠ gh) (q : Nat) (hq : q < n) (hv : Int) (hw : ws.length ≤ 64) (hnew : out.getD q 0 = -1) :
    Calls Tryz.prog 119 #[.pointer (some ⟨gw, 0, none⟩), .int .i64 q, .int .i64 hv] w fun e w' => e = .returned (.bool true) ∧ ∃ gq' o' cap', Wk w' base gw gh ps x y code n (out.set q hv) (.slice (some ⟨gq', o', none⟩) (ws ++ [(q : Int)]).length cap') ∧ Queue w' base gq' o' cap' (ws ++ [(q : Int)]) ∧ (gq' = gq ∨ w.heap.size ≤ gq') ∧ Frm (fun k => k = gw ∨ k = gh ∨ k = gq) w w' := by
  obtain ⟨i0, hi, hz0, hz1, hz2⟩ := info_parts Tryz.infoInt
  have c4 := W.h
  have c5 := W.q
  have f5 := W.free
  have cq := W.num.at q hq
  have fq := W.num.free q
  have hgw := lt_of_cell c4
  have hgh := W.num.lt.2
  have hol := W.num.len
  rw [hnew] at cq
  have WC := hid (W.comeW h1 q hv)
  have QC := hid (Q.frm (comeW_frm w gh q hv) h3)
  have RC := hid (comeW_row w gh q hv)
  have FC := hid (comeW_frm w gh q hv)
  clear W Q hnew
  unfold comeW at WC QC RC FC
  go_enter Tryz.func119, Tryz.ntmps119
  go_wp2_with (at_builtin; go_must ((refine wpList_append_queue _ rfl _ _ 26 rfl 3 i0 (.int .i64 0) 8 Tryz.underlying26 hi hz0 hz1 hz2 rfl _ _ _ _ ws [(q : Int)] rfl QC.out _ _ rfl RC.out (by unfold maxLen; simp; omega) (by simp; omega) ?_; intro g8 o8 cap8 w8 q8 f8 at8; have W8 := hid (WC.out.frm f8 (fun e => h2 e.symm) (fun e => h3 e.symm)); have y4 := W8.out.h; have y5 := W8.out.q; have z5 := W8.out.free; have yq := W8.out.num.at q hq; rw [getD_set_i, if_pos ⟨rfl, by omega⟩] at yq; have P8 := hid (And.intro q8 (And.intro f8 at8)); clear q8 f8 at8)))
  go_ret
  obtain ⟨q8, f8, at8⟩ := P8.out
  have hg8 : g8 ≠ gw := by
    rcases at8 with e | e
    · rw [e]; exact h2
    · have := FC.out.size; omega
  refine ⟨rfl, g8, o8, cap8, by simpa using W8.out.stored h1 (.slice (some ⟨g8, o8, none⟩) (ws ++ [(q : Int)]).length cap8), q8.frm (Frm.set (S := fun k => k = gw) (p := ⟨gw, 5, none⟩) _ rfl) hg8, ?_, ?_⟩
  · rcases at8 with e | e
    · exact .inl e
    · right; have := FC.out.size; omega
  · exact (((FC.out.wide (S' := fun k => k = gw ∨ k = gh ∨ k = gq) (fun _ h => .inr (.inl h))).trans f8 (fun _ _ h => .inr (.inr h))).trans (Frm.set (S := fun k => k = gw) (p := ⟨gw, 5, none⟩) _ rfl) (fun _ _ h => .inl h))

set_option maxHeartbeats 2000000 in
set_option maxRecDepth 100000 in
theorem come_first {w : World} {base gw gh : Nat} {ps : Value} {x y : Int} {code : Value} {n : Nat} {out : List Int} (W : Wk w base gw gh ps x y code n out (.slice none 0 0)) (hn : n ≤ 64) (hbase : base ≤ w.heap.size)
    (h1 : gw ≠ gh) (q : Nat) (hq : q < n) (hv : Int) (hnew : out.getD q 0 = -1) :
    Calls Tryz.prog 119 #[.pointer (some ⟨gw, 0, none⟩), .int .i64 q, .int .i64 hv] w fun e w' => e = .returned (.bool true) ∧ ∃ gq' cap', Wk w' base gw gh ps x y code n (out.set q hv) (.slice (some ⟨gq', 0, none⟩) 1 cap') ∧ Queue w' base gq' 0 cap' [(q : Int)] ∧ w.heap.size ≤ gq' ∧ Frm (fun k => k = gw ∨ k = gh) w w' := by
  obtain ⟨i0, hi, hz0, hz1, hz2⟩ := info_parts Tryz.infoInt
  have c4 := W.h
  have c5 := W.q
  have f5 := W.free
  have cq := W.num.at q hq
  have fq := W.num.free q
  have hgw := lt_of_cell c4
  have hgh := W.num.lt.2
  have hol := W.num.len
  rw [hnew] at cq
  have WC := hid (W.comeW h1 q hv)
  have FC := hid (comeW_frm w gh q hv)
  clear W hnew
  unfold comeW at WC FC
  go_enter Tryz.func119, Tryz.ntmps119
  go_wp2_with (at_builtin; go_must ((refine wpList_append_lies _ rfl _ _ 26 rfl base 3 i0 (.int .i64 0) 1 8 Tryz.underlying26 hi hz0 hz1 hz2 rfl (by decide) (.slice none 0 0) 0 [] rfl (World.ownsRow_nil _ _ _ _) ⟨w.heap.size, 0, none⟩ 1 1 [.int .i64 (q : Int)] rfl rfl (news_new (by simp) [.int .i64 (q : Int)] 3) (by intro u hu; simp at hu; subst hu; rfl) (by decide) (by unfold maxLen; omega) (by omega) (by simp; omega) (w.heap.size + 1) (by simp) ?_; intro g8 cap8 w8 o8 gr8 at8 lt8; have W8 := hid (WC.out.frm (Frm.of_grown (S := fun _ => False) gr8 (fun k hk => by cases hk)) (fun h => h) (fun h => h)); have y4 := W8.out.h; have y5 := W8.out.q; have z5 := W8.out.free; have yq := W8.out.num.at q hq; rw [getD_set_i, if_pos ⟨rfl, by omega⟩] at yq; have P8 := hid (And.intro o8 (And.intro gr8 at8)); clear o8 gr8 at8 lt8)))
  go_ret
  obtain ⟨o8, gr8, at8⟩ := P8.out
  have hg8 : g8 = w.heap.size + 1 := by rcases at8 with e | e; (cases e); exact e
  refine ⟨rfl, g8, cap8, by simpa using W8.out.stored h1 (.slice (some ⟨g8, 0, none⟩) 1 cap8), ?_, by omega, ?_⟩
  · have := Queue.of_owns (xs := [(q : Int)]) (by simpa [ints] using o8)
    exact this.frm (Frm.set (S := fun k => k = gw) (p := ⟨gw, 5, none⟩) _ rfl) (by omega)
  · exact (((FC.out.wide (S' := fun k => k = gw ∨ k = gh) (fun _ h => .inr h)).trans (S' := fun _ => False) (Frm.of_grown gr8 (fun k hk => by cases hk)) (fun _ _ h => h.elim)).trans (Frm.set (S := fun k => k = gw) (p := ⟨gw, 5, none⟩) _ rfl) (fun _ _ h => .inl h))

set_option maxHeartbeats 2000000 in
set_option maxRecDepth 100000 in
theorem come_old {w : World} {base gw gh : Nat} {ps : Value} {x y : Int} {code : Value} {n : Nat} {out : List Int} {qv : Value} (W : Wk w base gw gh ps x y code n out qv) (hn : n ≤ 64)
    (q : Nat) (hq : q < n) (hv : Int) (hold : ¬ out.getD q 0 = -1) :
    Calls Tryz.prog 119 #[.pointer (some ⟨gw, 0, none⟩), .int .i64 q, .int .i64 hv] w fun e w' => e = .returned (.bool (decide (out.getD q 0 = hv))) ∧ w' = w := by
  have c4 := W.h
  have cq := W.num.at q hq
  clear W
  generalize out.getD q 0 = ov at *
  have n1 : (ov == -1) = false := by simp [hold]
  by_cases he : ov = hv
  · subst he
    go_enter Tryz.func119, Tryz.ntmps119
    go_wp2_with fail
    go_ret
    exact ⟨by simp, rfl⟩
  · have n2 : (ov == hv) = false := by simp [he]
    go_enter Tryz.func119, Tryz.ntmps119
    go_wp2_with fail
    go_ret
    exact ⟨by simp [he], rfl⟩

end Go.Proofs.YteliljhlfemnpaaGreatDoor
