/- Plain reckoning of bytes taken back: the state of a taker, instruction by instruction, function by function; that the bytes of a program give it back. -/
import Derived.Test.YtlknaanheieneaaDoorRefTaker
namespace Go.Proofs.YtlknaanheieneaaDoor
open Go.RowKit
set_option linter.unusedVariables false

def four (a b c d : Int) : Int := a + b * 256 + c * 65536 + d * 16777216
def getIns (s : ByteArray) (p : Nat) (b : Bool) : (Int × Int) × Nat × Bool :=
  if nv s p = 0 then
    ((0, wrap32 (four (nv s (nxA s p)) (nv s (nxA s (nxA s p))) (nv s (nxA s (nxA s (nxA s p)))) (nv s (nxA s (nxA s (nxA s (nxA s p))))))),
      nxA s (nxA s (nxA s (nxA s (nxA s p)))), nxB s (nxA s (nxA s (nxA s (nxA s p)))) (nxB s (nxA s (nxA s (nxA s p))) (nxB s (nxA s (nxA s p)) (nxB s (nxA s p) (nxB s p b)))))
  else if smallB (nv s p) = true then ((nv s p, nv s (nxA s p)), nxA s (nxA s p), nxB s (nxA s p) (nxB s p b))
  else ((nv s p, 0), nxA s p, nxB s p b)
def codeSt (s : ByteArray) (p0 : Nat) (b0 : Bool) : Nat → List (Int × Int) × Nat × Bool
  | 0 => ([], p0, b0)
  | j + 1 => if (codeSt s p0 b0 j).2.2 = true then codeSt s p0 b0 j
    else ((codeSt s p0 b0 j).1 ++ [(getIns s (codeSt s p0 b0 j).2.1 (codeSt s p0 b0 j).2.2).1], (getIns s (codeSt s p0 b0 j).2.1 (codeSt s p0 b0 j).2.2).2)
def getFn (s : ByteArray) (p : Nat) (b : Bool) : Fn × Nat × Bool :=
  ((nv s p, nv s (nxA s p), (codeSt s (nxA s (nxA s (nxA s p))) (nxB s (nxA s (nxA s p)) (nxB s (nxA s p) (nxB s p b))) (nv s (nxA s (nxA s p))).toNat).1),
    (codeSt s (nxA s (nxA s (nxA s p))) (nxB s (nxA s (nxA s p)) (nxB s (nxA s p) (nxB s p b))) (nv s (nxA s (nxA s p))).toNat).2)
def fnSt (s : ByteArray) (p0 : Nat) (b0 : Bool) : Nat → List Fn × Nat × Bool
  | 0 => ([], p0, b0)
  | j + 1 => if (fnSt s p0 b0 j).2.2 = true then fnSt s p0 b0 j
    else ((fnSt s p0 b0 j).1 ++ [(getFn s (fnSt s p0 b0 j).2.1 (fnSt s p0 b0 j).2.2).1], (getFn s (fnSt s p0 b0 j).2.1 (fnSt s p0 b0 j).2.2).2)

theorem getIns_const {s : ByteArray} {p : Nat} {b : Bool} (h : nv s p = 0) : getIns s p b = ((0, wrap32 (nv s (nxA s p) + nv s (nxA s (nxA s p)) * 256 + nv s (nxA s (nxA s (nxA s p))) * 65536 + nv s (nxA s (nxA s (nxA s (nxA s p)))) * 16777216)),
      nxA s (nxA s (nxA s (nxA s (nxA s p)))), nxB s (nxA s (nxA s (nxA s (nxA s p)))) (nxB s (nxA s (nxA s (nxA s p))) (nxB s (nxA s (nxA s p)) (nxB s (nxA s p) (nxB s p b))))) := if_pos h
theorem getIns_small {s : ByteArray} {p : Nat} {b : Bool} (h : ¬ nv s p = 0) (hs : smallB (nv s p) = true) : getIns s p b = ((nv s p, nv s (nxA s p)), nxA s (nxA s p), nxB s (nxA s p) (nxB s p b)) := by
  unfold getIns; rw [if_neg h, if_pos hs]
theorem getIns_else {s : ByteArray} {p : Nat} {b : Bool} (h : ¬ nv s p = 0) (hs : smallB (nv s p) = false) : getIns s p b = ((nv s p, 0), nxA s p, nxB s p b) := by
  unfold getIns; rw [if_neg h, if_neg (by rw [hs]; simp)]
theorem codeSt_bad {s : ByteArray} {p0 : Nat} {b0 : Bool} {j : Nat} (h : (codeSt s p0 b0 j).2.2 = true) : ∀ m, j ≤ m → codeSt s p0 b0 m = codeSt s p0 b0 j := by
  intro m hm
  induction m with
  | zero => have : j = 0 := by omega
            subst this; rfl
  | succ m ih =>
    rcases Nat.lt_or_ge j (m + 1) with hlt | hge
    · have e := ih (by omega)
      show (if (codeSt s p0 b0 m).2.2 = true then codeSt s p0 b0 m else _) = _
      rw [if_pos (by rw [e]; exact h), e]
    · have : j = m + 1 := by omega
      subst this; rfl
theorem fnSt_bad {s : ByteArray} {p0 : Nat} {b0 : Bool} {j : Nat} (h : (fnSt s p0 b0 j).2.2 = true) : ∀ m, j ≤ m → fnSt s p0 b0 m = fnSt s p0 b0 j := by
  intro m hm
  induction m with
  | zero => have : j = 0 := by omega
            subst this; rfl
  | succ m ih =>
    rcases Nat.lt_or_ge j (m + 1) with hlt | hge
    · have e := ih (by omega)
      show (if (fnSt s p0 b0 m).2.2 = true then fnSt s p0 b0 m else _) = _
      rw [if_pos (by rw [e]; exact h), e]
    · have : j = m + 1 := by omega
      subst this; rfl
theorem codeSt_next {s : ByteArray} {p0 p : Nat} {b0 : Bool} {j : Nat} {l : List (Int × Int)} (h : codeSt s p0 b0 j = (l, p, false)) : codeSt s p0 b0 (j + 1) = (l ++ [(getIns s p false).1], (getIns s p false).2) := by
  show (if (codeSt s p0 b0 j).2.2 = true then codeSt s p0 b0 j else _) = _
  rw [if_neg (by rw [h]; simp), h]
theorem fnSt_next {s : ByteArray} {p0 p : Nat} {b0 : Bool} {j : Nat} {l : List Fn} (h : fnSt s p0 b0 j = (l, p, false)) : fnSt s p0 b0 (j + 1) = (l ++ [(getFn s p false).1], (getFn s p false).2) := by
  show (if (fnSt s p0 b0 j).2.2 = true then fnSt s p0 b0 j else _) = _
  rw [if_neg (by rw [h]; simp), h]
theorem codeSt_len (s : ByteArray) (p0 : Nat) (b0 : Bool) (j : Nat) : (codeSt s p0 b0 j).1.length ≤ j := by
  induction j with
  | zero => simp [codeSt]
  | succ j ih =>
    show (if (codeSt s p0 b0 j).2.2 = true then codeSt s p0 b0 j else _).1.length ≤ _
    split
    · omega
    · simp; omega
theorem fnSt_len (s : ByteArray) (p0 : Nat) (b0 : Bool) (j : Nat) : (fnSt s p0 b0 j).1.length ≤ j := by
  induction j with
  | zero => simp [fnSt]
  | succ j ih =>
    show (if (fnSt s p0 b0 j).2.2 = true then fnSt s p0 b0 j else _).1.length ≤ _
    split
    · omega
    · simp; omega
theorem nxA_le (s : ByteArray) (p : Nat) : nxA s p ≤ max p s.size := by unfold nxA; split <;> omega
theorem getIns_le (s : ByteArray) (p : Nat) (b : Bool) : (getIns s p b).2.1 ≤ max p s.size := by
  unfold getIns
  have h1 := nxA_le s p
  have h2 := nxA_le s (nxA s p)
  have h3 := nxA_le s (nxA s (nxA s p))
  have h4 := nxA_le s (nxA s (nxA s (nxA s p)))
  have h5 := nxA_le s (nxA s (nxA s (nxA s (nxA s p))))
  split
  · show nxA s _ ≤ _; omega
  split
  · show nxA s _ ≤ _; omega
  · show nxA s _ ≤ _; omega
theorem codeSt_le (s : ByteArray) (p0 : Nat) (b0 : Bool) (j : Nat) : (codeSt s p0 b0 j).2.1 ≤ max p0 s.size := by
  induction j with
  | zero => show p0 ≤ _; omega
  | succ j ih =>
    show (if (codeSt s p0 b0 j).2.2 = true then codeSt s p0 b0 j else _).2.1 ≤ _
    split
    · exact ih
    · have := getIns_le s (codeSt s p0 b0 j).2.1 (codeSt s p0 b0 j).2.2
      show (getIns s _ _).2.1 ≤ _
      omega
theorem fnSt_le (s : ByteArray) (p0 : Nat) (b0 : Bool) (j : Nat) : (fnSt s p0 b0 j).2.1 ≤ max p0 s.size := by
  induction j with
  | zero => show p0 ≤ _; omega
  | succ j ih =>
    show (if (fnSt s p0 b0 j).2.2 = true then fnSt s p0 b0 j else _).2.1 ≤ _
    split
    · exact ih
    · show (codeSt s _ _ _).2.1 ≤ _
      have h1 := nxA_le s (fnSt s p0 b0 j).2.1
      have h2 := nxA_le s (nxA s (fnSt s p0 b0 j).2.1)
      have h3 := nxA_le s (nxA s (nxA s (fnSt s p0 b0 j).2.1))
      refine Nat.le_trans (codeSt_le s _ _ _) ?_
      omega

/-- Below H, but for block T, the world is as it was. -/
structure Off (T H : Nat) (w w' : World) : Prop where
  os : w'.os = w.os
  tape : w'.tape = w.tape
  output : w'.output = w.output
  size : w.heap.size ≤ w'.heap.size
  block : ∀ k, k < H → k ≠ T → w'.heap[k]? = w.heap[k]?
theorem Off.refl (T H : Nat) (w : World) : Off T H w w := ⟨rfl, rfl, rfl, Nat.le_refl _, fun _ _ _ => rfl⟩
theorem Off.trans {T H : Nat} {a b c : World} (h : Off T H a b) (k : Off T H b c) : Off T H a c :=
  ⟨k.os.trans h.os, k.tape.trans h.tape, k.output.trans h.output, Nat.le_trans h.size k.size, fun i hi hn => (k.block i hi hn).trans (h.block i hi hn)⟩
theorem Off.grown {T H : Nat} {a b c : World} {row : Option Nat} (h : Off T H a b) (hg : b.grownBy c row) (hH : H ≤ b.heap.size) (hr : ∀ k, row = some k → k = T ∨ H ≤ k) : Off T H a c :=
  h.trans ⟨hg.os, hg.tape, hg.output, hg.size, fun k hk hn => hg.block k (by omega) (fun e => by have := hr k e.symm; omega)⟩
theorem Off.alloc {T H : Nat} {a b : World} (h : Off T H a b) (hH : H ≤ b.heap.size) (o : Obj) : Off T H a (b.alloc o) :=
  h.trans ⟨rfl, rfl, rfl, by simp, fun k hk _ => Below.heap_alloc b o k (by omega)⟩
theorem Off.setCell {T H : Nat} {a b : World} (h : Off T H a b) {p : Addr} (hp : H ≤ p.block) (v : Value) : Off T H a (b.setCell p v) :=
  h.trans ⟨rfl, rfl, rfl, by simp, fun k hk _ => Below.heap_setCell b p v k (by omega)⟩
theorem Off.below {T H : Nat} {a : World} {B : Nat} {b : World} (h : Off T H a b) (hT : B ≤ T) (hH : B ≤ H) : Below B a b :=
  ⟨h.os, h.tape, h.output, h.size, fun k hk => h.block k (by omega) (by omega)⟩
theorem Off.cell {T H : Nat} {a b : World} (h : Off T H a b) {k o : Nat} {v : Value} (hc : a.cell? ⟨k, o, none⟩ = some v) (hk : k < H) (hn : k ≠ T) : b.cell? ⟨k, o, none⟩ = some v := by
  rw [World.cell?_of_block (w := a) (h.block k hk hn)]; exact hc
theorem Off.free {T H : Nat} {a b : World} (h : Off T H a b) {k o : Nat} (hc : a.frozen? ⟨k, o, none⟩ = false) (hk : k < H) (hn : k ≠ T) : b.frozen? ⟨k, o, none⟩ = false := by
  rw [World.frozen?_of_block (w := a) (h.block k hk hn)]; exact hc
theorem Off.owns {T H : Nat} {a b : World} (h : Off T H a b) {base e size n : Nat} {v : Value} {xs : List Value} (ho : a.ownsRow base e size v n xs) (hH : a.heap.size ≤ H) (hT : T < base) : b.ownsRow base e size v n xs := by
  refine ⟨ho.1, ?_⟩
  rcases ho.2 with h0 | ⟨g, cap, cur, rfl, hbg, hg, r⟩
  · exact .inl h0
  · refine .inr ⟨g, cap, cur, rfl, hbg, ?_, r⟩
    have hlt : g < a.heap.size := by
      rcases Nat.lt_or_ge g a.heap.size with h | h
      · exact h
      · rw [Array.getElem?_eq_none h] at hg; cases hg
    rw [h.block g (by omega) (by omega)]; exact hg
theorem Off.fns {T H : Nat} {a b : World} (h : Off T H a b) {e f base : Nat} {v : Value} {l : List Fn} (ho : OwnFns e f a base v l) (hH : a.heap.size ≤ H) (hT : T < base) : OwnFns e f b base v l := by
  obtain ⟨t, h1, h2, h3⟩ := ho
  exact ⟨t, h1, h.owns h2 hH hT, fun i hi => ⟨(h3 i hi).1, (h3 i hi).2.1, (h3 i hi).2.2.1, h.owns (h3 i hi).2.2.2 hH hT⟩⟩

end Go.Proofs.YtlknaanheieneaaDoor
