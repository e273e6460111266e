/- What the document's own ranged and walk return. -/
import Derived.Test.YtaimpljkbpnigaaGreatDoorJ4r
import Derived.Test.YtaimpljkbpnigaaGreatDoorJ5p
import Derived.Test.YtaimpljkbpnigaaGreatDoorLawInts
namespace Go.Proofs.YtaimpljkbpnigaaGreatDoor
open Go.RowKit
set_option linter.unusedVariables false

set_option maxHeartbeats 1000000 in
theorem refRanged_any (pa : Option Addr) (pn pc : Nat) (x y : Int) (a : Option Addr) (n c : Nat) (k A : Int) (w : World) (hr : n * 16 ≤ 140737488351232) :
    Calls Tryz.prog 62 #[.agg #[.slice pa pn pc], .agg #[.int .i64 x, .int .i64 y, .slice a n c], .agg #[.int .i64 k, .int .i64 A]] w fun e w' => e = .returned (.bool (rangedB pn y n k A)) ∧ Below w.heap.size w w' := by
  by_cases h1 : k = 1
  · subst h1
    go_enter Tryz.func62, Tryz.ntmps62
    go_wp2
    go_ret
    exact ⟨rfl, by go_grown⟩
  by_cases h2 : k = 2
  · subst h2
    go_enter Tryz.func62, Tryz.ntmps62
    go_wp2
    go_ret
    exact ⟨rfl, by go_grown⟩
  by_cases h3 : k = 12
  · subst h3
    go_enter Tryz.func62, Tryz.ntmps62
    go_wp2
    go_ret
    exact ⟨rfl, by go_grown⟩
  by_cases h4 : k = 13
  · subst h4
    go_enter Tryz.func62, Tryz.ntmps62
    go_wp2
    go_ret
    exact ⟨rfl, by go_grown⟩
  by_cases h5 : k = 14
  · subst h5
    go_enter Tryz.func62, Tryz.ntmps62
    go_wp2
    go_ret
    exact ⟨rfl, by go_grown⟩
  have n1 : (k == 1) = false := by simp [h1]
  have n2 : (k == 2) = false := by simp [h2]
  have n3 : (k == 12) = false := by simp [h3]
  have n4 : (k == 13) = false := by simp [h4]
  have n5 : (k == 14) = false := by simp [h5]
  go_enter Tryz.func62, Tryz.ntmps62
  go_wp2
  go_ret
  exact ⟨ret_bool (by unfold rangedB; rw [if_neg (by omega), if_neg (by omega), if_neg h5]), by go_grown⟩

/-- n numbers, in a row of their own at block g. -/
structure NumSt (w : World) (g n base : Nat) (xs : List Int) : Prop where
  len : xs.length = n
  row : w.ownsRow base 3 1 (.slice (some ⟨g, 0, none⟩) n n) n (ints xs)
theorem NumSt.at {w : World} {g n base : Nat} {xs : List Int} (h : NumSt w g n base xs) (i : Nat) (hi : i < n) : w.cell? ⟨g, i, none⟩ = some (.int .i64 (xs.getD i 0)) := by
  rw [h.row.cellAt i (by omega), ints_at xs i (by have := h.len; omega)]
theorem NumSt.free {w : World} {g n base : Nat} {xs : List Int} (h : NumSt w g n base xs) (i : Nat) : w.frozen? ⟨g, i, none⟩ = false := h.row.frozenAt i
theorem NumSt.put {w : World} {g n base : Nat} {xs : List Int} (h : NumSt w g n base xs) (i : Nat) (x : Int) : NumSt (w.setCell ⟨g, i, none⟩ (.int .i64 x)) g n base (xs.set i x) := by
  refine ⟨by simpa using h.len, ?_⟩
  have := (h.row.stored i (.int .i64 x)).1
  rw [ints_set] at this
  exact this
theorem NumSt.frm {S : Nat → Prop} {w w' : World} {g n base : Nat} {xs : List Int} (h : NumSt w g n base xs) (hf : Frm S w w') (hg : ¬ S g) : NumSt w' g n base xs := ⟨h.len, hf.owns h.row (fun k hk => by have e : g = k := Option.some.inj hk; rw [← e]; exact hg)⟩
theorem NumSt.kept {w w' : World} {g n base : Nat} {xs : List Int} (h : NumSt w g n base xs) (hb : Below w.heap.size w w') : NumSt w' g n base xs := ⟨h.len, owns_kept h.row hb⟩
theorem NumSt.lt {w : World} {g n base : Nat} {xs : List Int} (h : NumSt w g n base xs) : base ≤ g ∧ g < w.heap.size := h.row.lt g rfl
theorem ints_rep (n : Nat) (x : Int) : List.replicate n (Value.int .i64 x) = ints (List.replicate n x) := by simp [ints]
theorem NumSt.make (w : World) (n base : Nat) (hb : base ≤ w.heap.size) (hn : n ≤ maxLen) : NumSt (w.alloc (.cells (madeCells #[.int .i64 0] n) 3)) w.heap.size n base (List.replicate n 0) := by
  refine ⟨by simp, ?_⟩
  have := World.ownsRow_lit (e := 3) (size := 1) w (madeCells #[.int .i64 0] n) n hb hn (by simp [madeCells])
  rw [toList_madeCells_one, ints_rep] at this
  exact this
/-- A program in its box, a function in its box. -/
def PB (u : World) (b : Nat) (s : Value) : Prop := u.cell? ⟨b, 0, none⟩ = some s
def FB5 (u : World) (b : Nat) (x y : Int) (s : Value) : Prop := u.cell? ⟨b, 0, none⟩ = some (.int .i64 x) ∧ u.cell? ⟨b, 1, none⟩ = some (.int .i64 y) ∧ u.cell? ⟨b, 2, none⟩ = some s
theorem FB5.frm {S : Nat → Prop} {u u' : World} {b : Nat} {x y : Int} {s : Value} (h : FB5 u b x y s) (hf : Frm S u u') (hb : ¬ S b) : FB5 u' b x y s := ⟨hf.cell h.1 hb, hf.cell h.2.1 hb, hf.cell h.2.2 hb⟩
theorem FB5.kept {u u' : World} {b : Nat} {x y : Int} {s : Value} (h : FB5 u b x y s) (hb : Below u.heap.size u u') : FB5 u' b x y s := ⟨kept_cell hb h.1, kept_cell hb h.2.1, kept_cell hb h.2.2⟩
theorem negs_rep (q n : Nat) : (List.replicate q (-1 : Int) ++ List.replicate (n - q) 0).length = q + (n - q) := by simp
theorem rep_step (q n : Nat) (hq : q < n) : (List.replicate q (-1 : Int) ++ List.replicate (n - q) 0).set q (-1) = List.replicate (q + 1) (-1) ++ List.replicate (n - (q + 1)) 0 := by
  rw [show n - q = (n - (q + 1)) + 1 by omega, List.replicate_succ (n := n - (q + 1)), List.set_append_right _ _ (by simp)]
  simp [List.replicate_succ']

end Go.Proofs.YtaimpljkbpnigaaGreatDoor
