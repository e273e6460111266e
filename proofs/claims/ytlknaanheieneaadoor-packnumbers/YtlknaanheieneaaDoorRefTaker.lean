/- What the document's own taker of bytes does: one byte, or 0 behind the end. -/
import Derived.Test.YtlknaanheieneaaDoorRefPut
namespace Go.Proofs.YtlknaanheieneaaDoor
open Go.RowKit
set_option linter.unusedVariables false

def sb (s : ByteArray) : List Int := s.data.toList.map fun b => (b.toNat : Int)
theorem sb_len (s : ByteArray) : (sb s).length = s.size := by simp [sb]
theorem sb_bd (s : ByteArray) (i : Nat) : 0 ≤ (sb s).getD i 0 ∧ (sb s).getD i 0 ≤ 255 := by
  unfold sb
  rw [List.getD_eq_getElem?_getD, List.getElem?_map]
  cases h : s.data.toList[i]? with
  | none => simp
  | some b => have := b.toNat_lt; simp; omega
def nv (s : ByteArray) (p : Nat) : Int := (sb s).getD p 0
theorem nv_bd (s : ByteArray) (p : Nat) : 0 ≤ nv s p ∧ nv s p ≤ 255 := sb_bd s p
def nxA (s : ByteArray) (p : Nat) : Nat := if p < s.size then p + 1 else p
def nxB (s : ByteArray) (p : Nat) (bad : Bool) : Bool := if p < s.size then bad else true

/-- The taker at block T: its text, where it is, has it been beyond the end. -/
structure Taker (w : World) (T : Nat) (s : ByteArray) (p : Nat) (bad : Bool) : Prop where
  text : w.cell? ⟨T, 0, none⟩ = some (.string s)
  place : w.cell? ⟨T, 1, none⟩ = some (.int .i64 p)
  over : w.cell? ⟨T, 2, none⟩ = some (.bool bad)
  free1 : w.frozen? ⟨T, 1, none⟩ = false
  free2 : w.frozen? ⟨T, 2, none⟩ = false

theorem Taker.alloc {w : World} {T : Nat} {s : ByteArray} {p : Nat} {bad : Bool} (h : Taker w T s p bad) (o : Obj) : Taker (w.alloc o) T s p bad := by
  have hb : Below w.heap.size w (w.alloc o) := Below.alloc (Below.refl _ _) (Nat.le_refl _) o
  exact ⟨kept_cell hb h.text, kept_cell hb h.place, kept_cell hb h.over, (hb.frozen (lt_of_cell h.place)).trans h.free1, (hb.frozen (lt_of_cell h.over)).trans h.free2⟩
theorem Taker.set {w : World} {T : Nat} {s : ByteArray} {p : Nat} {bad : Bool} (h : Taker w T s p bad) (a : Addr) (v : Value) (ha : a.block ≠ T) : Taker (w.setCell a v) T s p bad := by
  have e : (w.setCell a v).heap[T]? = w.heap[T]? := Below.heap_setCell w a v T (Ne.symm ha)
  exact ⟨(World.cell?_of_block (w := w) e).trans h.text, (World.cell?_of_block (w := w) e).trans h.place, (World.cell?_of_block (w := w) e).trans h.over, (World.frozen?_of_block (w := w) e).trans h.free1, (World.frozen?_of_block (w := w) e).trans h.free2⟩

theorem grownBy_set (w : World) (T o : Nat) (v : Value) : w.grownBy (w.setCell ⟨T, o, none⟩ v) (some T) :=
  ⟨rfl, rfl, rfl, by simp, fun k _ hk => Below.heap_setCell w _ v k (fun e => hk (by rw [e]))⟩

theorem sb_at (s : ByteArray) (p : Nat) (h : p < s.size) : (s[p].toNat : Int) = (sb s).getD p 0 := by
  unfold sb
  rw [List.getD_eq_getElem?_getD, List.getElem?_map]
  have h' : p < s.data.toList.length := by simpa using h
  rw [List.getElem?_eq_getElem h']
  simp
  rfl

theorem taker_step1 {w : World} {T p : Nat} {bad : Bool} {s : ByteArray} (h1 : w.cell? ⟨T, 0, none⟩ = some (.string s)) (h2 : w.cell? ⟨T, 1, none⟩ = some (.int .i64 p)) (h3 : w.cell? ⟨T, 2, none⟩ = some (.bool bad))
    (h4 : w.frozen? ⟨T, 1, none⟩ = false) (h5 : w.frozen? ⟨T, 2, none⟩ = false) (hlt : p < s.size) (k m : Nat) : Taker (((w.drewN k).setCell ⟨T, 1, none⟩ (.int .i64 (p + 1))).drewN m) T s (nxA s p) (nxB s p bad) := by
  have e1 : nxA s p = p + 1 := if_pos hlt
  have e2 : nxB s p bad = bad := if_pos hlt
  rw [e1, e2]
  refine ⟨?_, ?_, ?_, ?_, ?_⟩
  · show (w.setCell ⟨T, 1, none⟩ _).cell? _ = _
    rw [World.cell?_setCell_other _ _ _ _ (by simp)]; exact h1
  · show (w.setCell ⟨T, 1, none⟩ _).cell? _ = _
    rw [World.cell?_setCell_same _ _ _ h2]; simp
  · show (w.setCell ⟨T, 1, none⟩ _).cell? _ = _
    rw [World.cell?_setCell_other _ _ _ _ (by simp)]; exact h3
  · show (w.setCell ⟨T, 1, none⟩ _).frozen? _ = _
    simpa using h4
  · show (w.setCell ⟨T, 1, none⟩ _).frozen? _ = _
    simpa using h5

theorem taker_step2 {w : World} {T p : Nat} {bad : Bool} {s : ByteArray} (h1 : w.cell? ⟨T, 0, none⟩ = some (.string s)) (h2 : w.cell? ⟨T, 1, none⟩ = some (.int .i64 p)) (h3 : w.cell? ⟨T, 2, none⟩ = some (.bool bad))
    (h4 : w.frozen? ⟨T, 1, none⟩ = false) (h5 : w.frozen? ⟨T, 2, none⟩ = false) (hlt : ¬ p < s.size) (k : Nat) : Taker ((w.drewN k).setCell ⟨T, 2, none⟩ (.bool true)) T s (nxA s p) (nxB s p bad) := by
  have e1 : nxA s p = p := if_neg hlt
  have e2 : nxB s p bad = true := if_neg hlt
  rw [e1, e2]
  refine ⟨?_, ?_, ?_, ?_, ?_⟩
  · show (w.setCell ⟨T, 2, none⟩ _).cell? _ = _
    rw [World.cell?_setCell_other _ _ _ _ (by simp)]; exact h1
  · show (w.setCell ⟨T, 2, none⟩ _).cell? _ = _
    rw [World.cell?_setCell_other _ _ _ _ (by simp)]; exact h2
  · show (w.setCell ⟨T, 2, none⟩ _).cell? _ = _
    rw [World.cell?_setCell_same _ _ _ h3]
  · show (w.setCell ⟨T, 2, none⟩ _).frozen? _ = _
    simpa using h4
  · show (w.setCell ⟨T, 2, none⟩ _).frozen? _ = _
    simpa using h5

set_option maxHeartbeats 1000000 in
theorem next_any (T p : Nat) (bad : Bool) (s : ByteArray) (w : World) (hs : s.size ≤ 140737488351232) (hp : p ≤ 140737488351240) (h : Taker w T s p bad) :
    Calls Tryd.prog 25 #[.pointer (some ⟨T, 0, none⟩)] w fun e w' => e = .returned (.int .i64 (nv s p)) ∧ Taker w' T s (nxA s p) (nxB s p bad) ∧ w.grownBy w' (some T) := by
  obtain ⟨h1, h2, h3, h4, h5⟩ := h
  by_cases hlt : p < s.size
  · have hlt' : ¬ ((s.size : Int) ≤ (p : Int)) := by omega
    go_enter Tryd.func25, Tryd.ntmps25
    go_wp2
    go_quiet (fail)
    go_wp2
    go_quiet (fail)
    go_wp2
    go_ret
    have hv : wrap64 (s[p].toNat : Int) = (sb s).getD p 0 := by
      rw [← sb_at s p hlt]
      have := s[p].toNat_lt
      exact IntWalk.wrap64_in _ (by omega)
    refine ⟨ret_int hv, taker_step1 h1 h2 h3 h4 h5 hlt _ _, ?_⟩
    exact ⟨rfl, rfl, rfl, by simp, fun k _ hk => Below.heap_setCell w ⟨T, 1, none⟩ _ k (fun e => hk (by rw [e]))⟩
  · have hlt' : (s.size : Int) ≤ (p : Int) := by omega
    go_enter Tryd.func25, Tryd.ntmps25
    go_wp2
    go_quiet (fail)
    go_wp2
    go_ret
    have hv : 0 = (sb s).getD p 0 := by
      rw [List.getD_eq_getElem?_getD, List.getElem?_eq_none (by rw [sb_len]; omega)]; rfl
    refine ⟨ret_int hv, taker_step2 h1 h2 h3 h4 h5 hlt _, ?_⟩
    exact ⟨rfl, rfl, rfl, by simp, fun k _ hk => Below.heap_setCell w ⟨T, 2, none⟩ _ k (fun e => hk (by rw [e]))⟩

end Go.Proofs.YtlknaanheieneaaDoor
