/- Numbers and marks as they lie in memory: slices of integers, of booleans. Nothing of the program is named here. -/
import Derived.Test.YtaimpljkbpnigaaGreatDoorMem
import Derived.Deep.AppendLies
namespace Go.Proofs.YtaimpljkbpnigaaGreatDoor
open Go.RowKit
set_option linter.unusedVariables false

/-- The slice (a, n, c) reads as the list l of integers. -/
structure Ints (w : World) (a : Option Addr) (n c : Nat) (l : List Int) : Prop where
  len : n = l.length
  cap : n ≤ c
  room : n * 8 ≤ 140737488351232
  nilc : a = none → n = 0 ∧ c = 0
  row : 0 < n → ∃ b o, a = some ⟨b, o, none⟩ ∧ ∀ i, i < n → w.cell? ⟨b, o + i, none⟩ = some (.int .i64 (l.getD i 0))
theorem Ints.kept {w w' : World} (hb : Below w.heap.size w w') {a : Option Addr} {n c : Nat} {l : List Int} (h : Ints w a n c l) : Ints w' a n c l :=
  ⟨h.len, h.cap, h.room, h.nilc, fun hn => by
    obtain ⟨b, o, ha, hr⟩ := h.row hn
    exact ⟨b, o, ha, fun i hi => kept_cell hb (hr i hi)⟩⟩
/-- .. of booleans. -/
structure Bools (w : World) (a : Option Addr) (n c : Nat) (l : List Bool) : Prop where
  len : n = l.length
  cap : n ≤ c
  room : n * 8 ≤ 140737488351232
  nilc : a = none → n = 0 ∧ c = 0
  row : 0 < n → ∃ b o, a = some ⟨b, o, none⟩ ∧ ∀ i, i < n → w.cell? ⟨b, o + i, none⟩ = some (.bool (l.getD i false))
theorem Bools.kept {w w' : World} (hb : Below w.heap.size w w') {a : Option Addr} {n c : Nat} {l : List Bool} (h : Bools w a n c l) : Bools w' a n c l :=
  ⟨h.len, h.cap, h.room, h.nilc, fun hn => by
    obtain ⟨b, o, ha, hr⟩ := h.row hn
    exact ⟨b, o, ha, fun i hi => kept_cell hb (hr i hi)⟩⟩

def ints (xs : List Int) : List Value := xs.map (Value.int .i64)
theorem ints_len (xs : List Int) : (ints xs).length = xs.length := by simp [ints]
theorem ints_app (xs ys : List Int) : ints (xs ++ ys) = ints xs ++ ints ys := by simp [ints]
theorem ints_one (xs : List Int) : ∀ u ∈ ints xs, u.oneCell' = true := by
  intro u hu; simp [ints] at hu; obtain ⟨x, _, rfl⟩ := hu; rfl
theorem ints_at (xs : List Int) (i : Nat) (h : i < xs.length) : (ints xs)[i]? = some (.int .i64 (xs.getD i 0)) := by simp [ints, List.getD_eq_getElem?_getD, h]
def bools (xs : List Bool) : List Value := xs.map Value.bool
theorem bools_len (xs : List Bool) : (bools xs).length = xs.length := by simp [bools]
theorem bools_at (xs : List Bool) (i : Nat) (h : i < xs.length) : (bools xs)[i]? = some (.bool (xs.getD i false)) := by simp [bools, List.getD_eq_getElem?_getD, h]
theorem bools_set (xs : List Bool) (i : Nat) : (bools xs).set i (.bool true) = bools (xs.set i true) := by simp [bools, List.map_set]
theorem bools_rep (n : Nat) : List.replicate n (Value.bool false) = bools (List.replicate n false) := by simp [bools]

theorem ints_of_owns {w : World} {base e : Nat} {v : Value} {l : List Int} (h : w.ownsRow base e 1 v l.length (ints l)) (hl : l.length * 8 ≤ 140737488351232) :
    ∃ a n c, v = .slice a n c ∧ Ints w a n c l := by
  rcases h.2 with ⟨rfl, hn⟩ | ⟨g, cap, cur, rfl, hb, hg, hc, _, _, _⟩
  · exact ⟨none, 0, 0, rfl, hn.symm, Nat.le_refl _, by omega, fun _ => ⟨rfl, rfl⟩, fun h => absurd h (by omega)⟩
  · refine ⟨_, _, _, rfl, rfl, hc, hl, fun h => (by cases h), fun hn => ⟨g, 0, rfl, fun i hi => ?_⟩⟩
    rw [Nat.zero_add, h.cellAt i (by omega), ints_at l i hi]
theorem bools_of_owns {w : World} {base e : Nat} {v : Value} {l : List Bool} (h : w.ownsRow base e 1 v l.length (bools l)) (hl : l.length * 8 ≤ 140737488351232) :
    ∃ a n c, v = .slice a n c ∧ Bools w a n c l := by
  rcases h.2 with ⟨rfl, hn⟩ | ⟨g, cap, cur, rfl, hb, hg, hc, _, _, _⟩
  · exact ⟨none, 0, 0, rfl, hn.symm, Nat.le_refl _, by omega, fun _ => ⟨rfl, rfl⟩, fun h => absurd h (by omega)⟩
  · refine ⟨_, _, _, rfl, rfl, hc, hl, fun h => (by cases h), fun hn => ⟨g, 0, rfl, fun i hi => ?_⟩⟩
    rw [Nat.zero_add, h.cellAt i (by omega), bools_at l i hi]

/-- Nothing but the blocks S has turned; there may be new ones. -/
structure Frm (S : Nat → Prop) (w w' : World) : Prop where
  os : w'.os = w.os
  tape : w'.tape = w.tape
  output : w'.output = w.output
  size : w.heap.size ≤ w'.heap.size
  block : ∀ k, k < w.heap.size → ¬ S k → w'.heap[k]? = w.heap[k]?
theorem Frm.refl (S : Nat → Prop) (w : World) : Frm S w w := ⟨rfl, rfl, rfl, Nat.le_refl _, fun _ _ _ => rfl⟩
theorem Frm.trans {S S' : Nat → Prop} {a b c : World} (h : Frm S a b) (k : Frm S' b c) (hs : ∀ i, i < a.heap.size → S' i → S i) : Frm S a c :=
  ⟨k.os.trans h.os, k.tape.trans h.tape, k.output.trans h.output, Nat.le_trans h.size k.size, fun i hi hn => (k.block i (by have := h.size; omega) (fun e => hn (hs i hi e))).trans (h.block i hi hn)⟩
theorem Frm.of_below {S : Nat → Prop} {w w' : World} (h : Below w.heap.size w w') : Frm S w w' := ⟨h.os, h.tape, h.output, h.size, fun k hk _ => h.block k hk⟩
theorem Frm.below {S : Nat → Prop} {w w' : World} {B : Nat} (h : Frm S w w') (hB : B ≤ w.heap.size) (hs : ∀ k, k < B → ¬ S k) : Below B w w' := ⟨h.os, h.tape, h.output, h.size, fun k hk => h.block k (by omega) (hs k hk)⟩
theorem Frm.of_grown {S : Nat → Prop} {w w' : World} {row : Option Nat} (h : w.grownBy w' row) (hs : ∀ k, row = some k → S k) : Frm S w w' := ⟨h.os, h.tape, h.output, h.size, fun k hk hn => h.block k hk (fun e => hn (hs k e.symm))⟩
theorem Frm.set {S : Nat → Prop} {w : World} {p : Addr} (v : Value) (hs : S p.block) : Frm S w (w.setCell p v) := ⟨rfl, rfl, rfl, by simp, fun k _ hn => Below.heap_setCell w p v k (fun e => hn (by rw [e]; exact hs))⟩
theorem Frm.cell {S : Nat → Prop} {w w' : World} (h : Frm S w w') {b o : Nat} {v : Value} (hc : w.cell? ⟨b, o, none⟩ = some v) (hn : ¬ S b) : w'.cell? ⟨b, o, none⟩ = some v := by
  rw [World.cell?_of_block (w := w) (h.block b (lt_of_cell hc) hn)]; exact hc
theorem Frm.free {S : Nat → Prop} {w w' : World} (h : Frm S w w') {b o : Nat} {v : Value} (hc : w.cell? ⟨b, o, none⟩ = some v) (hf : w.frozen? ⟨b, o, none⟩ = false) (hn : ¬ S b) : w'.frozen? ⟨b, o, none⟩ = false := by
  rw [World.frozen?_of_block (w := w) (h.block b (lt_of_cell hc) hn)]; exact hf
theorem Frm.owns {S : Nat → Prop} {w w' : World} (h : Frm S w w') {base e size n : Nat} {v : Value} {xs : List Value} (ho : w.ownsRow base e size v n xs) (hn : ∀ k, v.ownBlock = some k → ¬ S k) : w'.ownsRow base e size v n xs := by
  refine ⟨ho.1, ?_⟩
  rcases ho.2 with h0 | ⟨g, cap, cur, rfl, hbg, hg, r⟩
  · exact .inl h0
  · refine .inr ⟨g, cap, cur, rfl, hbg, ?_, r⟩
    have hlt : g < w.heap.size := (ho.lt g rfl).2
    rw [h.block g hlt (hn g rfl)]; exact hg
theorem Frm.inss {S : Nat → Prop} {w w' : World} (h : Frm S w w') {a : Option Addr} {n c : Nat} {l : List (Int × Int)} (hi : Inss w a n c l) (hn : ∀ b o, a = some ⟨b, o, none⟩ → 0 < n → ¬ S b) : Inss w' a n c l :=
  ⟨hi.len, hi.cap, hi.room, hi.nilc, fun hp => by
    obtain ⟨b, o, ha, hr⟩ := hi.row hp
    exact ⟨b, o, ha, fun i hi' => ⟨h.cell (hr i hi').1 (hn b o ha hp), h.cell (hr i hi').2 (hn b o ha hp)⟩⟩⟩
theorem Inss.block_lt {w : World} {a : Option Addr} {n c : Nat} {l : List (Int × Int)} (hi : Inss w a n c l) {b o : Nat} (ha : a = some ⟨b, o, none⟩) (hp : 0 < n) : b < w.heap.size := by
  obtain ⟨b', o', ha', hr⟩ := hi.row hp
  rw [ha] at ha'
  cases ha'
  exact lt_of_cell (hr 0 (by have := hi.len; omega)).1

end Go.Proofs.YtaimpljkbpnigaaGreatDoor
