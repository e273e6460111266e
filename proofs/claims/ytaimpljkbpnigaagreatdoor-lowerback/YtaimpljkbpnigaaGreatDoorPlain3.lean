/- Plain reckoning of programs as bytes: which may be packed, their bytes; nothing of the program is named here. -/
import Derived.Test.YtaimpljkbpnigaaGreatDoorJ1p
import Derived.Test.YtaimpljkbpnigaaGreatDoorMem
import Derived.Deep.AppendLies
namespace Go.Proofs.YtaimpljkbpnigaaGreatDoor
open Go.RowKit

def codeB (l : List (Int × Int)) : Bool := decide (1 ≤ l.length ∧ l.length ≤ 64) && l.all fun p => mayB p.1 p.2
def fnB (f : Fn) : Bool := decide (0 ≤ f.1 ∧ f.1 ≤ 4 ∧ f.1 ≤ f.2.1 ∧ f.2.1 ≤ 8) && codeB f.2.2
def packsB (l : List Fn) : Bool := decide (1 ≤ l.length ∧ l.length ≤ 8) && l.all fnB

theorem all_take_step {α : Type} {l : List α} {p : α → Bool} {q : Nat} {d : α} (h : q < l.length) (ht : (l.take q).all p = true) (hx : p (l.getD q d) = true) : (l.take (q + 1)).all p = true := by
  rw [List.take_succ_eq_append_getElem h, List.all_append, ht]
  simp [List.getD_eq_getElem?_getD, h] at hx
  simp [hx]
theorem all_not_at {α : Type} {l : List α} {p : α → Bool} {q : Nat} {d : α} (h : q < l.length) (hx : p (l.getD q d) = false) : l.all p = false := by
  rw [List.all_eq_false]
  refine ⟨l.getD q d, ?_, by rw [hx]; simp⟩
  simp [List.getD_eq_getElem?_getD, h]
theorem all_take_all {α : Type} {l : List α} {p : α → Bool} {q : Nat} (h : l.length ≤ q) (ht : (l.take q).all p = true) : l.all p = true := by
  rwa [List.take_of_length_le h] at ht
theorem codeB_short {l : List (Int × Int)} (h : l.length < 1 ∨ 64 < l.length) : codeB l = false := by simp [codeB]; omega
theorem codeB_not {l : List (Int × Int)} (h : (l.all fun p => mayB p.1 p.2) = false) : codeB l = false := by unfold codeB; rw [h]; simp
theorem codeB_yes {l : List (Int × Int)} (h1 : 1 ≤ l.length ∧ l.length ≤ 64) (h : (l.all fun p => mayB p.1 p.2) = true) : codeB l = true := by unfold codeB; rw [h]; simp; omega
theorem packsB_short {l : List Fn} (h : l.length < 1 ∨ 8 < l.length) : packsB l = false := by simp [packsB]; omega
theorem packsB_not {l : List Fn} (h : l.all fnB = false) : packsB l = false := by unfold packsB; rw [h]; simp
theorem packsB_yes {l : List Fn} (h1 : 1 ≤ l.length ∧ l.length ≤ 8) (h : l.all fnB = true) : packsB l = true := by unfold packsB; rw [h]; simp; omega

def c0 (a : Int) : Int := a % 256
def c1 (a : Int) : Int := a / 256 % 256
def c2 (a : Int) : Int := a / 65536 % 256
def c3 (a : Int) : Int := a / 16777216 % 256
def smallB (k : Int) : Bool := decide (k = 1 ∨ k = 2 ∨ k = 12 ∨ k = 13 ∨ k = 14)
def insBytes (p : Int × Int) : List Int := if p.1 = 0 then [0, c0 p.2, c1 p.2, c2 p.2, c3 p.2] else if smallB p.1 = true then [p.1, p.2] else [p.1]
def codeBytes (l : List (Int × Int)) : List Int := l.flatMap insBytes
def fnBytes (f : Fn) : List Int := [f.1, f.2.1, (f.2.2.length : Int)] ++ codeBytes f.2.2
def fnsBytes (l : List Fn) : List Int := l.flatMap fnBytes
def putBytes (l : List Fn) : List Int := [84, 105, 107, (l.length : Int)] ++ fnsBytes l

theorem insBytes_len (p : Int × Int) : (insBytes p).length ≤ 5 := by
  unfold insBytes
  split
  · simp
  split
  · simp
  · simp
theorem codeBytes_len (l : List (Int × Int)) : (codeBytes l).length ≤ l.length * 5 := by
  induction l with
  | nil => simp [codeBytes]
  | cons p r ih => have := insBytes_len p; simp only [codeBytes, List.flatMap_cons, List.length_append, List.length_cons] at *; omega
theorem codeBytes_snoc (l : List (Int × Int)) (p : Int × Int) : codeBytes (l ++ [p]) = codeBytes l ++ insBytes p := by simp [codeBytes]
theorem fnsBytes_snoc (l : List Fn) (f : Fn) : fnsBytes (l ++ [f]) = fnsBytes l ++ fnBytes f := by simp [fnsBytes]
theorem fnB_of {l : List Fn} {q : Nat} {f : Fn} (h : packsB l = true) (hq : q < l.length) (e : l.getD q noFn = f) : fnB f = true := by
  unfold packsB at h
  simp only [Bool.and_eq_true, List.all_eq_true] at h
  rw [← e]
  exact h.2 _ (by simp [List.getD_eq_getElem?_getD, hq])
theorem fnB_bd {x y : Int} {l : List (Int × Int)} (h : fnB (x, y, l) = true) : 0 ≤ x ∧ x ≤ 4 ∧ x ≤ y ∧ y ≤ 8 ∧ 1 ≤ l.length ∧ l.length ≤ 64 := by
  simp [fnB, codeB] at h; omega
theorem mayB_of {x y : Int} {l : List (Int × Int)} {q : Nat} {p : Int × Int} (h : fnB (x, y, l) = true) (hq : q < l.length) (e : l.getD q (0, 0) = p) : mayB p.1 p.2 = true := by
  unfold fnB codeB at h
  simp only [Bool.and_eq_true, List.all_eq_true] at h
  rw [← e]
  exact h.2.2 _ (by simp [List.getD_eq_getElem?_getD, hq])
theorem fnsBytes_len {l : List Fn} (h : packsB l = true) (q : Nat) : (fnsBytes (l.take q)).length ≤ 2584 := by
  have hl : l.length ≤ 8 := by simp [packsB] at h; omega
  have hall : ∀ f ∈ l, (fnBytes f).length ≤ 323 := by
    intro f hf
    have hb : fnB f = true := by
      unfold packsB at h
      simp only [Bool.and_eq_true, List.all_eq_true] at h
      exact h.2 f hf
    obtain ⟨x, y, c⟩ := f
    have := fnB_bd hb
    have := codeBytes_len c
    simp [fnBytes]
    omega
  have : ∀ (m : List Fn), (∀ f ∈ m, (fnBytes f).length ≤ 323) → (fnsBytes m).length ≤ m.length * 323 := by
    intro m
    induction m with
    | nil => intro _; simp [fnsBytes]
    | cons f r ih =>
      intro hm
      have h1 := hm f (by simp)
      have h2 := ih (fun g hg => hm g (by simp [hg]))
      simp only [fnsBytes, List.flatMap_cons, List.length_append, List.length_cons] at *
      omega
  have h3 := this (l.take q) (fun f hf => hall f (List.mem_of_mem_take hf))
  have h4 : (l.take q).length ≤ 8 := by rw [List.length_take]; omega
  exact Nat.le_trans h3 (Nat.mul_le_mul_right 323 h4)
def nums (xs : List Int) : List Value := xs.map (Value.int .u8)
theorem nums_len (xs : List Int) : (nums xs).length = xs.length := by simp [nums]
theorem nums_app (xs ys : List Int) : nums (xs ++ ys) = nums xs ++ nums ys := by simp [nums]
theorem nums_one (xs : List Int) : ∀ u ∈ nums xs, u.oneCell' = true := by
  intro u hu
  simp [nums] at hu
  obtain ⟨x, _, rfl⟩ := hu
  rfl
theorem news_new {w : World} {H : Nat} (hH : w.heap.size = H) (cs : List Value) (t : TypeId) : ∀ j u, cs[j]? = some u → (w.alloc (.cells cs.toArray t)).cell? ((⟨H, 0, none⟩ : Addr).add j) = some u := by
  subst hH
  exact World.news_of_block (cs := cs.toArray) (heap_alloc_new w _)
/-- Behind an append: a cell of another block is as it was. -/
theorem app_cell {W w6 : World} {v : Value} {base H : Nat} (hg : W.grownBy w6 v.ownBlock) (hlt : ∀ k, v.ownBlock = some k → base ≤ k ∧ k < H) {b o : Nat} {u : Value} (hc : W.cell? ⟨b, o, none⟩ = some u) (hb : b < base ∨ H ≤ b) : w6.cell? ⟨b, o, none⟩ = some u :=
  hg.cell hc (by intro e; have := hlt b e.symm; omega)
theorem app_below {w W w6 : World} {v : Value} {base H B : Nat} (hw : Below B w W) (hg : W.grownBy w6 v.ownBlock) (hlt : ∀ k, v.ownBlock = some k → base ≤ k ∧ k < H) (hB : B ≤ base) (hs : B ≤ W.heap.size) : Below B w w6 :=
  Below.grown hw hg hs (fun k hk => by have := hlt k hk; omega)
theorem nums_grow {w : World} {base e : Nat} {v : Value} {xs ys : List Int} {m : Nat} {zs : List Value} (h : w.ownsRow base e 1 v (xs.length + m) (nums xs ++ zs)) (hm : ys.length = m) (hz : nums ys = zs) : w.ownsRow base e 1 v (xs ++ ys).length (nums (xs ++ ys)) := by
  subst hm; subst hz
  rw [List.length_append, nums_app]; exact h
theorem insBytes0 (y : Int) : insBytes (0, y) = [0] ++ [c0 y, c1 y, c2 y, c3 y] := rfl
theorem insBytes_small {x y : Int} (h0 : ¬ x = 0) (h : smallB x = true) : insBytes (x, y) = [x] ++ [y] := by simp [insBytes, h0, h]
theorem insBytes_else {x y : Int} (h0 : ¬ x = 0) (h : smallB x = false) : insBytes (x, y) = [x] := by simp [insBytes, h0, h]
theorem small_bd {x y : Int} (hm : mayB x y = true) (h : smallB x = true) : 0 ≤ y ∧ y ≤ 63 := by
  simp [smallB] at h
  rcases h with rfl | rfl | rfl | rfl | rfl
  · simp [may1, belowB] at hm; omega
  · simp [may2, belowB] at hm; omega
  · simp [may12, belowB] at hm; omega
  · simp [may13, belowB] at hm; omega
  · simp [may14, belowB] at hm; omega
theorem app_cell2 {W w6 : World} {g n cap : Nat} (hg : W.grownBy w6 (Value.slice (some ⟨g, 0, none⟩) n cap).ownBlock) {b o : Nat} {u : Value} (hc : W.cell? ⟨b, o, none⟩ = some u) (hb : b ≠ g) : w6.cell? ⟨b, o, none⟩ = some u :=
  hg.cell hc (by intro e; simp [Value.ownBlock] at e; exact hb e)
theorem lies_ne {v : Value} {g base H H' b : Nat} (hat : v.ownBlock = some g ∨ g = H') (hlt : ∀ k, v.ownBlock = some k → base ≤ k ∧ k < H) (hb : b < base ∨ H ≤ b) (hb' : b < H') (hH : base ≤ H') : b ≠ g ∧ base ≤ g := by
  rcases hat with h | h
  · have := hlt g h; omega
  · omega
theorem lies_ne2 {v : Value} {g H f n cap : Nat} (hat : v.ownBlock = some g ∨ g = H) (hv : v.ownBlock ≠ some f) (hf : f < H) : (Value.slice (some ⟨g, 0, none⟩) n cap).ownBlock ≠ some f := by
  intro e
  simp [Value.ownBlock] at e
  subst e
  rcases hat with h | h
  · exact hv h
  · omega
theorem put_row {w : World} {base e : Nat} {v : Value} {ys zs : List Int} {l : List (Int × Int)} {k : Nat} {pr : Int × Int} (hz : ys ++ codeBytes (l.take k) = zs) (hk : k < l.length) (he : l.getD k (0, 0) = pr)
    (h : w.ownsRow base e 1 v (zs ++ insBytes pr).length (nums (zs ++ insBytes pr))) : w.ownsRow base e 1 v (ys ++ codeBytes (l.take (k + 1))).length (nums (ys ++ codeBytes (l.take (k + 1)))) := by
  rw [take_snoc_getD hk he, codeBytes_snoc, ← List.append_assoc, hz]; exact h
theorem u64_c0 (r : Int) : IntKind.u64.wrap r % 256 = c0 r := by rw [IntKind.wrap_u64]; unfold c0; omega
theorem u64_c1 (r : Int) : IntKind.u64.wrap r % 4294967296 / 256 % 256 = c1 r := by rw [IntKind.wrap_u64]; unfold c1; omega
theorem u64_c2 (r : Int) : IntKind.u64.wrap r % 4294967296 / 65536 % 256 = c2 r := by rw [IntKind.wrap_u64]; unfold c2; omega
theorem u64_c3 (r : Int) : IntKind.u64.wrap r % 4294967296 / 16777216 = c3 r := by rw [IntKind.wrap_u64]; unfold c3; omega
theorem nums_cell {w : World} {base e : Nat} {g cap : Nat} {xs : List Int} (h : w.ownsRow base e 1 (.slice (some ⟨g, 0, none⟩) xs.length cap) xs.length (nums xs)) : ∀ i, i < xs.length → w.cell? ⟨g, 0 + i, none⟩ = some (.int .u8 (xs.getD i 0)) := by
  intro i hi
  rw [Nat.zero_add, h.cellAt i (by omega)]
  simp [nums, List.getD_eq_getElem?_getD, hi]

end Go.Proofs.YtaimpljkbpnigaaGreatDoor
