/- For any two integers the law PackForms returns true: programs that may not be packed, and bytes that are none, one thing at a time, are refused; no conditions. -/
import Derived.Test.YtlknaanheieneaaDoorRows
import Derived.WalkKit
import Derived.ProofKit
import Derived.OpenShut
import Derived.ShutString
import Derived.ChangeOld
import Derived.Below
import Derived.Carry
import Derived.Lib.SmallJoins
import Derived.Handy
import Derived.WalkSmall
import Derived.SizedLaws
import Derived.Test.YtlknaanheieneaaDoorLaidOpen
import Derived.Test.YtlknaanheieneaaDoorCards
import Derived.Test.YtlknaanheieneaaDoorTie
import Derived.SevenTiedAt
import Derived.LaidMore
import Derived.Stop.Joined
import Derived.Test.YtlknaanheieneaaDoorAwake3
namespace Go.Proofs.YtlknaanheieneaaDoor.packForms
open Go.ChangeShapes Go.WideShapes Go.ChangeAt Go.RowKit
open Go.ChangeMaps (open_string shut_string)
set_option linter.unusedVariables false

theorem own : ownKnob Tryd.prog.godebug = none := by kernel_rfl
theorem laidOut : laidOutB Tryd.prog = true := by kernel_rfl

def fl : List Fn := [(1, 2, [(0, 4), (2, 1), (16, 0)])]
def flS : ByteArray := ⟨#[84, 105, 107, 1, 1, 2, 3, 0, 4, 0, 0, 0, 2, 1, 16]⟩
theorem fl_s : putS fl = flS := by decide +kernel
theorem fl_e : putE fl = 0 := by decide +kernel
/-- One function of three instructions, by its nine cells. -/
structure Nine (w : World) (g h cap cc : Nat) (x y k0 a0 k1 a1 k2 a2 : Int) : Prop where
  apart : g ≠ h
  c0 : w.cell? ⟨g, 0, none⟩ = some (.int .i64 x)
  c1 : w.cell? ⟨g, 1, none⟩ = some (.int .i64 y)
  c2 : w.cell? ⟨g, 2, none⟩ = some (.slice (some ⟨h, 0, none⟩) 3 cc)
  d0 : w.cell? ⟨h, 0, none⟩ = some (.int .i64 k0)
  d1 : w.cell? ⟨h, 1, none⟩ = some (.int .i64 a0)
  d2 : w.cell? ⟨h, 2, none⟩ = some (.int .i64 k1)
  d3 : w.cell? ⟨h, 3, none⟩ = some (.int .i64 a1)
  d4 : w.cell? ⟨h, 4, none⟩ = some (.int .i64 k2)
  d5 : w.cell? ⟨h, 5, none⟩ = some (.int .i64 a2)
  cap1 : 1 ≤ cap
  cap3 : 3 ≤ cc
theorem Nine.fns {w : World} {g h cap cc : Nat} {x y k0 a0 k1 a1 k2 a2 : Int} (n : Nine w g h cap cc x y k0 a0 k1 a1 k2 a2) : Fns w (some ⟨g, 0, none⟩) 1 cap [(x, y, [(k0, a0), (k1, a1), (k2, a2)])] := by
  refine ⟨rfl, n.cap1, by omega, fun e => (by cases e), fun _ => ⟨g, 0, rfl, fun i hi => ?_⟩⟩
  have h0 : i = 0 := by simpa using hi
  subst h0
  refine ⟨n.c0, n.c1, _, _, _, n.c2, ⟨rfl, n.cap3, by simp, fun e => (by cases e), fun _ => ⟨h, 0, rfl, fun j hj => ?_⟩⟩⟩
  have h3 : j = 0 ∨ j = 1 ∨ j = 2 := by have : j < 3 := hj; omega
  rcases h3 with rfl | rfl | rfl
  · exact ⟨n.d0, n.d1⟩
  · exact ⟨n.d2, n.d3⟩
  · exact ⟨n.d4, n.d5⟩
/-- The copy, opened. -/
theorem nine_of {e f : Nat} {w : World} {base : Nat} {v : Value} (hef : e ≠ f) (h : OwnFns e f w base v fl) :
    ∃ g hh cap cc, v = .slice (some ⟨g, 0, none⟩) 1 cap ∧ base ≤ g ∧ base ≤ hh ∧ Nine w g hh cap cc 1 2 0 4 2 1 16 0 ∧ (∀ o, w.frozen? ⟨g, o, none⟩ = false) ∧ (∀ o, w.frozen? ⟨hh, o, none⟩ = false) := by
  obtain ⟨t, h1, h2, h3⟩ := h
  obtain ⟨q1, q2, q3, q4⟩ := h3 0 (by decide)
  match t, h1 with
  | [(x, y, cv)], _ =>
    simp only [List.getD_cons_zero, fl] at q1 q2 q4
    subst q1 q2
    obtain ⟨g, cap, rfl, hg, _⟩ := h2.form (by decide)
    obtain ⟨hh, cc, rfl, hh', _⟩ := q4.form (by decide)
    have ap := owns_apart q4 h2 hef
    have c := fun j hj => h2.cellAt j hj
    have d := fun j hj => q4.cellAt j hj
    have cap1 : 1 ≤ cap := by
      rcases h2.2 with ⟨e, _⟩ | ⟨_, _, _, e, _, _, r, _⟩
      · cases e
      · cases e; exact r
    have cap3 : 3 ≤ cc := by
      rcases q4.2 with ⟨e, _⟩ | ⟨_, _, _, e, _, _, r, _⟩
      · cases e
      · cases e; exact r
    refine ⟨g, hh, cap, cc, rfl, hg, hh', ⟨?_, ?_, ?_, ?_, ?_, ?_, ?_, ?_, ?_, ?_, cap1, cap3⟩, fun o => h2.frozenAt o, fun o => q4.frozenAt o⟩
    · intro e
      subst e
      simp [Value.ownBlock] at ap
    · rw [c 0 (by decide)]; rfl
    · rw [c 1 (by decide)]; rfl
    · rw [c 2 (by decide)]; rfl
    · rw [d 0 (by decide)]; rfl
    · rw [d 1 (by decide)]; rfl
    · rw [d 2 (by decide)]; rfl
    · rw [d 3 (by decide)]; rfl
    · rw [d 4 (by decide)]; rfl
    · rw [d 5 (by decide)]; rfl
theorem Nine.g0 {w : World} {g h cap cc : Nat} {x y k0 a0 k1 a1 k2 a2 : Int} (n : Nine w g h cap cc x y k0 a0 k1 a1 k2 a2) (z : Int) : Nine (w.setCell ⟨g, 0, none⟩ (.int .i64 z)) g h cap cc z y k0 a0 k1 a1 k2 a2 :=
  ⟨n.apart, World.cell?_setCell_same _ _ _ n.c0, cell_set_far_off n.c1 (by omega), cell_set_far_off n.c2 (by omega), cell_set_far n.d0 (by simpa using Ne.symm n.apart), cell_set_far n.d1 (by simpa using Ne.symm n.apart), cell_set_far n.d2 (by simpa using Ne.symm n.apart), cell_set_far n.d3 (by simpa using Ne.symm n.apart), cell_set_far n.d4 (by simpa using Ne.symm n.apart), cell_set_far n.d5 (by simpa using Ne.symm n.apart), n.cap1, n.cap3⟩
theorem Nine.g1 {w : World} {g h cap cc : Nat} {x y k0 a0 k1 a1 k2 a2 : Int} (n : Nine w g h cap cc x y k0 a0 k1 a1 k2 a2) (z : Int) : Nine (w.setCell ⟨g, 1, none⟩ (.int .i64 z)) g h cap cc x z k0 a0 k1 a1 k2 a2 :=
  ⟨n.apart, cell_set_far_off n.c0 (by omega), World.cell?_setCell_same _ _ _ n.c1, cell_set_far_off n.c2 (by omega), cell_set_far n.d0 (by simpa using Ne.symm n.apart), cell_set_far n.d1 (by simpa using Ne.symm n.apart), cell_set_far n.d2 (by simpa using Ne.symm n.apart), cell_set_far n.d3 (by simpa using Ne.symm n.apart), cell_set_far n.d4 (by simpa using Ne.symm n.apart), cell_set_far n.d5 (by simpa using Ne.symm n.apart), n.cap1, n.cap3⟩
theorem Nine.h1 {w : World} {g h cap cc : Nat} {x y k0 a0 k1 a1 k2 a2 : Int} (n : Nine w g h cap cc x y k0 a0 k1 a1 k2 a2) (z : Int) : Nine (w.setCell ⟨h, 1, none⟩ (.int .i64 z)) g h cap cc x y k0 z k1 a1 k2 a2 :=
  ⟨n.apart, cell_set_far n.c0 (by simpa using n.apart), cell_set_far n.c1 (by simpa using n.apart), cell_set_far n.c2 (by simpa using n.apart), cell_set_far_off n.d0 (by omega), World.cell?_setCell_same _ _ _ n.d1, cell_set_far_off n.d2 (by omega), cell_set_far_off n.d3 (by omega), cell_set_far_off n.d4 (by omega), cell_set_far_off n.d5 (by omega), n.cap1, n.cap3⟩
theorem Nine.h3 {w : World} {g h cap cc : Nat} {x y k0 a0 k1 a1 k2 a2 : Int} (n : Nine w g h cap cc x y k0 a0 k1 a1 k2 a2) (z : Int) : Nine (w.setCell ⟨h, 3, none⟩ (.int .i64 z)) g h cap cc x y k0 a0 k1 z k2 a2 :=
  ⟨n.apart, cell_set_far n.c0 (by simpa using n.apart), cell_set_far n.c1 (by simpa using n.apart), cell_set_far n.c2 (by simpa using n.apart), cell_set_far_off n.d0 (by omega), cell_set_far_off n.d1 (by omega), cell_set_far_off n.d2 (by omega), World.cell?_setCell_same _ _ _ n.d3, cell_set_far_off n.d4 (by omega), cell_set_far_off n.d5 (by omega), n.cap1, n.cap3⟩
theorem Nine.h4 {w : World} {g h cap cc : Nat} {x y k0 a0 k1 a1 k2 a2 : Int} (n : Nine w g h cap cc x y k0 a0 k1 a1 k2 a2) (z : Int) : Nine (w.setCell ⟨h, 4, none⟩ (.int .i64 z)) g h cap cc x y k0 a0 k1 a1 z a2 :=
  ⟨n.apart, cell_set_far n.c0 (by simpa using n.apart), cell_set_far n.c1 (by simpa using n.apart), cell_set_far n.c2 (by simpa using n.apart), cell_set_far_off n.d0 (by omega), cell_set_far_off n.d1 (by omega), cell_set_far_off n.d2 (by omega), cell_set_far_off n.d3 (by omega), World.cell?_setCell_same _ _ _ n.d4, cell_set_far_off n.d5 (by omega), n.cap1, n.cap3⟩
theorem Nine.h5 {w : World} {g h cap cc : Nat} {x y k0 a0 k1 a1 k2 a2 : Int} (n : Nine w g h cap cc x y k0 a0 k1 a1 k2 a2) (z : Int) : Nine (w.setCell ⟨h, 5, none⟩ (.int .i64 z)) g h cap cc x y k0 a0 k1 a1 k2 z :=
  ⟨n.apart, cell_set_far n.c0 (by simpa using n.apart), cell_set_far n.c1 (by simpa using n.apart), cell_set_far n.c2 (by simpa using n.apart), cell_set_far_off n.d0 (by omega), cell_set_far_off n.d1 (by omega), cell_set_far_off n.d2 (by omega), cell_set_far_off n.d3 (by omega), cell_set_far_off n.d4 (by omega), World.cell?_setCell_same _ _ _ n.d5, n.cap1, n.cap3⟩
theorem packs_one {f : Fn} (h : fnB f = false) : packsB [f] = false := packsB_not (by simp [h])
theorem code_one {l : List (Int × Int)} {p : Int × Int} (hp : p ∈ l) (h : mayB p.1 p.2 = false) : codeB l = false := codeB_not (by rw [List.all_eq_false]; exact ⟨p, hp, by rw [h]; simp⟩)
theorem Nine.noCode {w : World} {g h cap cc : Nat} {x y k0 a0 k1 a1 k2 a2 : Int} (n : Nine w g h cap cc x y k0 a0 k1 a1 k2 a2) : Fns (w.setCell ⟨g, 2, none⟩ (.slice none 0 0)) (some ⟨g, 0, none⟩) 1 cap [(x, y, [])] := by
  refine ⟨rfl, n.cap1, by omega, fun e => (by cases e), fun _ => ⟨g, 0, rfl, fun i hi => ?_⟩⟩
  have h0 : i = 0 := by simpa using hi
  subst h0
  exact ⟨cell_set_far_off n.c0 (by omega), cell_set_far_off n.c1 (by omega), none, 0, 0, World.cell?_setCell_same _ _ _ n.c2, ⟨rfl, Nat.le_refl _, by omega, fun _ => ⟨rfl, rfl⟩, fun h => absurd h (by omega)⟩⟩
theorem made3 (n : Nat) : (madeCells #[.int .i64 0, .int .i64 0, .slice none 0 0] (n * 3)).toList = flat3 (List.replicate n (0, 0, .slice none 0 0)) := by
  apply List.ext_getElem?
  intro i
  rcases Nat.lt_or_ge i (n * 3) with h | h
  · obtain ⟨e1, e2, e3⟩ := flat3_at (List.replicate n ((0 : Int), (0 : Int), Value.slice none 0 0)) (i / 3) (by simp; omega) (0, 0, .slice none 0 0)
    have hd : (List.replicate n ((0 : Int), (0 : Int), Value.slice none 0 0)).getD (i / 3) (0, 0, .slice none 0 0) = (0, 0, .slice none 0 0) := by
      rw [List.getD_eq_getElem?_getD, List.getElem?_replicate]; split <;> rfl
    rw [hd] at e1 e2 e3
    have hl : (madeCells #[.int .i64 0, .int .i64 0, .slice none 0 0] (n * 3)).toList[i]? = some (#[Value.int .i64 0, .int .i64 0, .slice none 0 0][i % 3]!) := by
      simp [madeCells, h]
    rw [hl]
    have h3 : i % 3 = 0 ∨ i % 3 = 1 ∨ i % 3 = 2 := by omega
    rcases h3 with h3 | h3 | h3
    · rw [h3]; rw [show i / 3 * 3 = i by omega] at e1; rw [e1]; rfl
    · rw [h3]; rw [show i / 3 * 3 + 1 = i by omega] at e2; rw [e2]; rfl
    · rw [h3]; rw [show i / 3 * 3 + 2 = i by omega] at e3; rw [e3]; rfl
  · rw [List.getElem?_eq_none (by simp [madeCells]; omega), List.getElem?_eq_none (by rw [flat3_len]; simp; omega)]
theorem made2 (n : Nat) : (madeCells #[.int .i64 0, .int .i64 0] (n * 2)).toList = flat2 (List.replicate n (0, 0)) := by
  apply List.ext_getElem?
  intro i
  rcases Nat.lt_or_ge i (n * 2) with h | h
  · have e1 := flat2_even (List.replicate n ((0 : Int), (0 : Int))) (i / 2) (by simp; omega)
    have e2 := flat2_odd (List.replicate n ((0 : Int), (0 : Int))) (i / 2) (by simp; omega)
    have hd : (List.replicate n ((0 : Int), (0 : Int))).getD (i / 2) (0, 0) = (0, 0) := by
      rw [List.getD_eq_getElem?_getD, List.getElem?_replicate]; split <;> rfl
    rw [hd] at e1 e2
    have hl : (madeCells #[.int .i64 0, .int .i64 0] (n * 2)).toList[i]? = some (#[Value.int .i64 0, .int .i64 0][i % 2]!) := by
      simp [madeCells, h]
    rw [hl]
    have h3 : i % 2 = 0 ∨ i % 2 = 1 := by omega
    rcases h3 with h3 | h3
    · rw [h3]; rw [show i / 2 * 2 = i by omega] at e1; rw [e1]; rfl
    · rw [h3]; rw [show i / 2 * 2 + 1 = i by omega] at e2; rw [e2]; rfl
  · rw [List.getElem?_eq_none (by simp [madeCells]; omega), List.getElem?_eq_none (by rw [flat2_len]; simp; omega)]
theorem own_made (e f : Nat) (u : World) (n : Nat) (hn : n ≤ 100000) : OwnFns e f (u.alloc (.cells (madeCells #[.int .i64 0, .int .i64 0, .slice none 0 0] (n * 3)) f)) u.heap.size (.slice (some ⟨u.heap.size, 0, none⟩) n n) (List.replicate n (0, 0, [])) := by
  have h := World.ownsRow_lit (base := u.heap.size) (e := f) (size := 3) u (madeCells #[.int .i64 0, .int .i64 0, .slice none 0 0] (n * 3)) n (Nat.le_refl _) (by unfold maxLen; omega) (size_madeCells _ _)
  rw [made3] at h
  refine ⟨List.replicate n (0, 0, .slice none 0 0), by simp, by simpa using h, fun i hi => ?_⟩
  simp at hi
  have h1 : (List.replicate n ((0 : Int), (0 : Int), Value.slice none 0 0)).getD i noT = (0, 0, .slice none 0 0) := by rw [List.getD_eq_getElem?_getD, List.getElem?_replicate, if_pos hi]; rfl
  have h2 : (List.replicate n ((0, 0, []) : Fn)).getD i noFn = (0, 0, []) := by rw [List.getD_eq_getElem?_getD, List.getElem?_replicate, if_pos hi]; rfl
  rw [h1, h2]
  exact ⟨rfl, rfl, by simp, World.ownsRow_nil _ _ _ _⟩
theorem Nine.long {w : World} {g h cap cc : Nat} {x y k0 a0 k1 a1 k2 a2 : Int} (n : Nine w g h cap cc x y k0 a0 k1 a1 k2 a2) (e p k : Nat) (hk : k ≤ 100000) :
    Fns (((w.setCell ⟨g, 2, none⟩ (.slice (some ⟨w.heap.size + 1, 0, none⟩) k k)).alloc (.cells #[.slice (some ⟨g, 0, none⟩) 1 cap] p)).alloc (.cells (madeCells #[.int .i64 0, .int .i64 0] (k * 2)) e)).drew (some ⟨g, 0, none⟩) 1 cap [(x, y, List.replicate k (0, 0))] := by
  have hb : Below (w.setCell ⟨g, 2, none⟩ (.slice (some ⟨w.heap.size + 1, 0, none⟩) k k)).heap.size (w.setCell ⟨g, 2, none⟩ (.slice (some ⟨w.heap.size + 1, 0, none⟩) k k)) (((w.setCell ⟨g, 2, none⟩ (.slice (some ⟨w.heap.size + 1, 0, none⟩) k k)).alloc (.cells #[.slice (some ⟨g, 0, none⟩) 1 cap] p)).alloc (.cells (madeCells #[.int .i64 0, .int .i64 0] (k * 2)) e)).drew :=
    Below.drew (Below.alloc (Below.alloc (Below.refl _ _) (Nat.le_refl _) _) (by simp) _)
  have o := World.ownsRow_lit (base := 0) (e := e) (size := 2) ((w.setCell ⟨g, 2, none⟩ (.slice (some ⟨w.heap.size + 1, 0, none⟩) k k)).alloc (.cells #[.slice (some ⟨g, 0, none⟩) 1 cap] p)) (madeCells #[.int .i64 0, .int .i64 0] (k * 2)) k (Nat.zero_le _) (by unfold maxLen; omega) (size_madeCells _ _)
  rw [made2, show ((w.setCell ⟨g, 2, none⟩ (.slice (some ⟨w.heap.size + 1, 0, none⟩) k k)).alloc (.cells #[.slice (some ⟨g, 0, none⟩) 1 cap] p)).heap.size = w.heap.size + 1 by simp] at o
  have ol : (List.replicate k ((0 : Int), (0 : Int))).length = k := by simp
  obtain ⟨a', n', c', e', hi'⟩ := inss_of_owns (l := List.replicate k (0, 0)) (by rw [ol]; exact o) (by rw [ol]; omega)
  cases e'
  refine ⟨rfl, n.cap1, by omega, fun e => (by cases e), fun _ => ⟨g, 0, rfl, fun i hi => ?_⟩⟩
  have h0 : i = 0 := by simpa using hi
  subst h0
  exact ⟨kept_cell hb (cell_set_far_off n.c0 (by omega)), kept_cell hb (cell_set_far_off n.c1 (by omega)), _, _, _, kept_cell hb (World.cell?_setCell_same _ _ _ n.c2), hi'.kept (Below.drew (Below.refl _ _))⟩
def goodG (s : ByteArray) : Bool := !(fnSt s (nxA s 3) (nxB s 3 false) (nv s 3).toNat).2.2 && (packsB (fnSt s (nxA s 3) (nxB s 3 false) (nv s 3).toNat).1 && decide (putBytes (fnSt s (nxA s 3) (nxB s 3 false) (nv s 3).toNat).1 = sb s))
theorem not_put {s : ByteArray} (h : goodG s = false) (l : List Fn) : ¬ isPut s l := by
  intro hl
  have e := back_put hl.1 hl.2
  have e2 : sb s = putBytes l := by rw [← hl.2]; exact sb_str (putBytes_bd hl.1)
  unfold goodG at h
  rw [e] at h
  simp [hl.1, e2] at h
def badL : List ByteArray := [(⟨#[]⟩ : ByteArray), (⟨#[84, 105, 107]⟩ : ByteArray), (⟨#[116, 105, 107]⟩ : ByteArray) ++ flS.extract 3 15, (⟨#[84, 105, 107, 0]⟩ : ByteArray), (⟨#[84, 105, 107, 9]⟩ : ByteArray) ++ flS.extract 4 15, (⟨#[84, 105, 107, 1, 5, 5, 1, 16]⟩ : ByteArray), (⟨#[84, 105, 107, 1, 2, 1, 1, 16]⟩ : ByteArray), (⟨#[84, 105, 107, 1, 0, 9, 1, 16]⟩ : ByteArray), (⟨#[84, 105, 107, 1, 0, 0, 0]⟩ : ByteArray), (⟨#[84, 105, 107, 1, 0, 0, 1, 17]⟩ : ByteArray), (⟨#[84, 105, 107, 1, 0, 0, 1, 1, 8]⟩ : ByteArray), (⟨#[84, 105, 107, 1, 0, 0, 2, 16]⟩ : ByteArray), flS ++ (⟨#[0]⟩ : ByteArray), flS.extract 0 14]
theorem bad_all : ∀ j, j < 14 → goodG (badL.getD j ByteArray.empty) = false := by decide +kernel
theorem bad_size : ∀ j, j < 14 → (badL.getD j ByteArray.empty).size ≤ 100 := by decide +kernel
theorem bad_cell (u : World) (t : TypeId) (j : Nat) (hj : j < 14) : (u.alloc (.cells #[.string ((⟨#[]⟩ : ByteArray)), .string ((⟨#[84, 105, 107]⟩ : ByteArray)), .string ((⟨#[116, 105, 107]⟩ : ByteArray) ++ flS.extract 3 15), .string ((⟨#[84, 105, 107, 0]⟩ : ByteArray)), .string ((⟨#[84, 105, 107, 9]⟩ : ByteArray) ++ flS.extract 4 15), .string ((⟨#[84, 105, 107, 1, 5, 5, 1, 16]⟩ : ByteArray)), .string ((⟨#[84, 105, 107, 1, 2, 1, 1, 16]⟩ : ByteArray)), .string ((⟨#[84, 105, 107, 1, 0, 9, 1, 16]⟩ : ByteArray)), .string ((⟨#[84, 105, 107, 1, 0, 0, 0]⟩ : ByteArray)), .string ((⟨#[84, 105, 107, 1, 0, 0, 1, 17]⟩ : ByteArray)), .string ((⟨#[84, 105, 107, 1, 0, 0, 1, 1, 8]⟩ : ByteArray)), .string ((⟨#[84, 105, 107, 1, 0, 0, 2, 16]⟩ : ByteArray)), .string (flS ++ (⟨#[0]⟩ : ByteArray)), .string (flS.extract 0 14)] t)).cell? ⟨u.heap.size, j, none⟩ = some (.string (badL.getD j ByteArray.empty)) := by
  have h := news_new (w := u) rfl (badL.map Value.string) t j (.string (badL.getD j ByteArray.empty)) (by
    rw [List.getElem?_map, List.getD_eq_getElem?_getD]
    have hl : j < badL.length := hj
    rw [List.getElem?_eq_getElem hl]; rfl)
  rw [show (⟨u.heap.size, 0, none⟩ : Addr).add j = ⟨u.heap.size, j, none⟩ by unfold Addr.add; split <;> simp_all] at h
  exact h
set_option maxRecDepth 100000 in
set_option maxHeartbeats 20000000 in
theorem walk (a0 : Int) (a1 : Int) (w : World) (w0 : (Lit.int .i64 a0).wf = true) (w1 : (Lit.int .i64 a1).wf = true) (ld : Ld w) :
    Calls Tryd.prog 5 #[.int .i64 a0, .int .i64 a1] w fun e w' => e = .returned (.bool true) ∧ Below w.heap.size w w' := by
  have LD0 := hid ld
  clear ld
  have hm := and1023 a1
  have hm0 : 0 ≤ a1 % 1024 ∧ a1 % 1024 < 1024 := by omega
  obtain ⟨hi0, hi1⟩ := umod_bd a0 12 (by decide)
  obtain ⟨hj0, hj1⟩ := umod_bd a0 14 (by decide)
  generalize a1 % 1024 = m at hm hm0
  generalize hi : (IntKind.u64.wrap a0).tmod 12 = i at hi0 hi1
  generalize hj : (IntKind.u64.wrap a0).tmod 14 = jj at hj0 hj1
  obtain ⟨j, rfl⟩ := Int.eq_ofNat_of_zero_le hj0
  obtain ⟨hm1, hm2⟩ := hm0
  clear w0 w1
  go_enter Tryd.func5, Tryd.ntmps5
  go_wp2_with fail
  refine (awake3_any _ LD0.out).mono ?_
  rintro e u1 ⟨rfl, b1⟩
  go_wp2_with fail
  have ho := own_lit1 43 46 u1 1 2 [(0, 4), (2, 1), (16, 0)] _ 3 rfl rfl (by omega)
  obtain ⟨a2, n2, c2, e2, hf0⟩ := ho.reads (by simp)
  cases e2
  have hf1 := hf0.kept (Below.alloc (Below.refl _ _) (Nat.le_refl _) (.cells #[.slice (some ⟨u1.heap.size + 1, 0, none⟩) 1 1] 24))
  have HF := hid hf1
  clear ho hf0 hf1
  refine (putL _ _ _ fl _ HF.out (LD0.out.up (kt b1 (by go_grown)))).mono ?_
  rintro e u2 ⟨rfl, b2⟩
  rw [fl_s, fl_e]
  have p2 := kept_cell b2 (b := u1.heap.size + 1 + 1) (o := 0) (v := .slice (some ⟨u1.heap.size + 1, 0, none⟩) 1 1) (by simp [go_sem])
  have P2 := hid (HF.out.kept b2)
  have B2 : Hid (Below w.heap.size w u2) := hid (kt (kt b1 (Below.alloc (Below.alloc (Below.alloc (Below.refl _ _) (Nat.le_refl _) _) (by simp) _) (by simp; omega) _)) b2)
  clear b1 b2
  have hsz : flS.size = 15 := rfl
  go_wp2_with (first | (go_at_call 13; refine (num_any _ _).mono ?_; rintro e w' ⟨rfl, hw⟩; rw [hw]; clear hw))
  refine (copyProgram_any _ _ _ fl _ P2.out).mono ?_
  rintro e u3 ⟨vx, rfl, ox, b3⟩
  obtain ⟨g, h, cap, cc, rfl, hg, hh, nn, fg, fh⟩ := nine_of (by decide) ox
  have B3 : Hid (Below w.heap.size w u3) := hid (kt B2.out b3)
  have s3 := b3.size
  have s2 := B2.out.size
  have hgw : w.heap.size ≤ g := by omega
  have hhw : w.heap.size ≤ h := by omega
  have hgu := lt_of_cell nn.c0
  have hhu := lt_of_cell nn.d0
  have q3 := kept_cell (w' := u3.alloc (.cells #[.slice (some ⟨g, 0, none⟩) 1 cap] 24)) (by go_grown) nn.c0
  clear b3 ox p2 hm
  by_cases i11 : i = 11
  · subst i11
    have NP : Hid (packsB [] = false) := rfl
    go_wp2_with fail
    refine (putL _ _ _ [] _ (fns_nil _) (LD0.out.up (by have hb3 := B3.out; go_grown))).mono ?_
    rintro e u5 ⟨rfl, b5⟩
    rw [putE_no NP.out, putS_no NP.out]
    go_wp2_with fail
    go_region
    have bc := bad_cell u5 9 j (by omega)
    have hb3 := B3.out
    have B5 : Hid (Below w.heap.size w u5) := hid (kt (by go_grown) b5)
    clear hb3
    clear b5
    go_wp2_with fail
    refine (getL (badL.getD j ByteArray.empty) _ (by have := bad_size j (by omega); omega) (LD0.out.up (kt B5.out (by go_grown)))).mono ?_
    rintro e u6 ⟨vu, eu, rfl, b6, ⟨lu, pu, _⟩ | ⟨nu, rfl, rfl⟩⟩
    · exact absurd pu (not_put (bad_all j (by omega)) lu)
    go_wp2_with (first | (go_at_call 13; refine (num_any _ _).mono ?_; rintro e w' ⟨rfl, hw⟩; rw [hw]; clear hw))
    go_ret
    exact ⟨rfl, kt (kt (kt B5.out (by go_grown)) b6) (by go_grown)⟩
  by_cases i1 : i = 1
  · subst i1
    have fz := fg 0
    have NF := hid ((nn.g0 (-(1 + m))).fns)
    have NP : Hid (packsB [(-(1 + m), 2, [(0, 4), (2, 1), (16, 0)])] = false) := packs_one (fnB_args (by omega))
    obtain ⟨ap, c0, c1, c2, d0, d1, d2, d3, d4, d5, k1, k3⟩ := nn
    go_wp2_with fail
    refine (putL _ _ _ [(-(1 + m), 2, [(0, 4), (2, 1), (16, 0)])] _ (NF.out.kept (by go_grown)) (LD0.out.up (by have hb3 := B3.out; go_grown))).mono ?_
    rintro e u5 ⟨rfl, b5⟩
    rw [putE_no NP.out, putS_no NP.out]
    go_wp2_with fail
    go_region
    have bc := bad_cell u5 9 j (by omega)
    have hb3 := B3.out
    have B5 : Hid (Below w.heap.size w u5) := hid (kt (by go_grown) b5)
    clear b5 hb3
    go_wp2_with fail
    refine (getL (badL.getD j ByteArray.empty) _ (by have := bad_size j (by omega); omega) (LD0.out.up (kt B5.out (by go_grown)))).mono ?_
    rintro e u6 ⟨vu, eu, rfl, b6, ⟨lu, pu, _⟩ | ⟨nu, rfl, rfl⟩⟩
    · exact absurd pu (not_put (bad_all j (by omega)) lu)
    go_wp2_with (first | (go_at_call 13; refine (num_any _ _).mono ?_; rintro e w' ⟨rfl, hw⟩; rw [hw]; clear hw))
    go_ret
    exact ⟨rfl, kt (kt (kt B5.out (by go_grown)) b6) (by go_grown)⟩
  by_cases i2 : i = 2
  · subst i2
    have fz := fg 0
    have NF := hid ((nn.g0 (4 + (1 + m))).fns)
    have NP : Hid (packsB [(4 + (1 + m), 2, [(0, 4), (2, 1), (16, 0)])] = false) := packs_one (fnB_args (by omega))
    obtain ⟨ap, c0, c1, c2, d0, d1, d2, d3, d4, d5, k1, k3⟩ := nn
    go_wp2_with fail
    refine (putL _ _ _ [(4 + (1 + m), 2, [(0, 4), (2, 1), (16, 0)])] _ (NF.out.kept (by go_grown)) (LD0.out.up (by have hb3 := B3.out; go_grown))).mono ?_
    rintro e u5 ⟨rfl, b5⟩
    rw [putE_no NP.out, putS_no NP.out]
    go_wp2_with fail
    go_region
    have bc := bad_cell u5 9 j (by omega)
    have hb3 := B3.out
    have B5 : Hid (Below w.heap.size w u5) := hid (kt (by go_grown) b5)
    clear b5 hb3
    go_wp2_with fail
    refine (getL (badL.getD j ByteArray.empty) _ (by have := bad_size j (by omega); omega) (LD0.out.up (kt B5.out (by go_grown)))).mono ?_
    rintro e u6 ⟨vu, eu, rfl, b6, ⟨lu, pu, _⟩ | ⟨nu, rfl, rfl⟩⟩
    · exact absurd pu (not_put (bad_all j (by omega)) lu)
    go_wp2_with (first | (go_at_call 13; refine (num_any _ _).mono ?_; rintro e w' ⟨rfl, hw⟩; rw [hw]; clear hw))
    go_ret
    exact ⟨rfl, kt (kt (kt B5.out (by go_grown)) b6) (by go_grown)⟩
  by_cases i3 : i = 3
  · subst i3
    have fz := fg 1
    have NF := hid ((nn.g1 (0)).fns)
    have NP : Hid (packsB [(1, 0, [(0, 4), (2, 1), (16, 0)])] = false) := packs_one (fnB_args (by omega))
    obtain ⟨ap, c0, c1, c2, d0, d1, d2, d3, d4, d5, k1, k3⟩ := nn
    go_wp2_with fail
    refine (putL _ _ _ [(1, 0, [(0, 4), (2, 1), (16, 0)])] _ (NF.out.kept (by go_grown)) (LD0.out.up (by have hb3 := B3.out; go_grown))).mono ?_
    rintro e u5 ⟨rfl, b5⟩
    rw [putE_no NP.out, putS_no NP.out]
    go_wp2_with fail
    go_region
    have bc := bad_cell u5 9 j (by omega)
    have hb3 := B3.out
    have B5 : Hid (Below w.heap.size w u5) := hid (kt (by go_grown) b5)
    clear b5 hb3
    go_wp2_with fail
    refine (getL (badL.getD j ByteArray.empty) _ (by have := bad_size j (by omega); omega) (LD0.out.up (kt B5.out (by go_grown)))).mono ?_
    rintro e u6 ⟨vu, eu, rfl, b6, ⟨lu, pu, _⟩ | ⟨nu, rfl, rfl⟩⟩
    · exact absurd pu (not_put (bad_all j (by omega)) lu)
    go_wp2_with (first | (go_at_call 13; refine (num_any _ _).mono ?_; rintro e w' ⟨rfl, hw⟩; rw [hw]; clear hw))
    go_ret
    exact ⟨rfl, kt (kt (kt B5.out (by go_grown)) b6) (by go_grown)⟩
  by_cases i4 : i = 4
  · subst i4
    have fz := fg 1
    have NF := hid ((nn.g1 (8 + (1 + m))).fns)
    have NP : Hid (packsB [(1, 8 + (1 + m), [(0, 4), (2, 1), (16, 0)])] = false) := packs_one (fnB_args (by omega))
    obtain ⟨ap, c0, c1, c2, d0, d1, d2, d3, d4, d5, k1, k3⟩ := nn
    go_wp2_with fail
    refine (putL _ _ _ [(1, 8 + (1 + m), [(0, 4), (2, 1), (16, 0)])] _ (NF.out.kept (by go_grown)) (LD0.out.up (by have hb3 := B3.out; go_grown))).mono ?_
    rintro e u5 ⟨rfl, b5⟩
    rw [putE_no NP.out, putS_no NP.out]
    go_wp2_with fail
    go_region
    have bc := bad_cell u5 9 j (by omega)
    have hb3 := B3.out
    have B5 : Hid (Below w.heap.size w u5) := hid (kt (by go_grown) b5)
    clear b5 hb3
    go_wp2_with fail
    refine (getL (badL.getD j ByteArray.empty) _ (by have := bad_size j (by omega); omega) (LD0.out.up (kt B5.out (by go_grown)))).mono ?_
    rintro e u6 ⟨vu, eu, rfl, b6, ⟨lu, pu, _⟩ | ⟨nu, rfl, rfl⟩⟩
    · exact absurd pu (not_put (bad_all j (by omega)) lu)
    go_wp2_with (first | (go_at_call 13; refine (num_any _ _).mono ?_; rintro e w' ⟨rfl, hw⟩; rw [hw]; clear hw))
    go_ret
    exact ⟨rfl, kt (kt (kt B5.out (by go_grown)) b6) (by go_grown)⟩
  by_cases i7 : i = 7
  · subst i7
    have fz := fh 1
    have NF := hid ((nn.h1 (2147483647 + (1 + m))).fns)
    have NP : Hid (packsB [(1, 2, [(0, 2147483647 + (1 + m)), (2, 1), (16, 0)])] = false) := packs_one (fnB_code (code_one (p := (0, 2147483647 + (1 + m))) (by simp) (by rw [may0]; exact (num_not _).2 (by omega))))
    obtain ⟨ap, c0, c1, c2, d0, d1, d2, d3, d4, d5, k1, k3⟩ := nn
    go_wp2_with fail
    refine (putL _ _ _ [(1, 2, [(0, 2147483647 + (1 + m)), (2, 1), (16, 0)])] _ (NF.out.kept (by go_grown)) (LD0.out.up (by have hb3 := B3.out; go_grown))).mono ?_
    rintro e u5 ⟨rfl, b5⟩
    rw [putE_no NP.out, putS_no NP.out]
    go_wp2_with fail
    go_region
    have bc := bad_cell u5 9 j (by omega)
    have hb3 := B3.out
    have B5 : Hid (Below w.heap.size w u5) := hid (kt (by go_grown) b5)
    clear b5 hb3
    go_wp2_with fail
    refine (getL (badL.getD j ByteArray.empty) _ (by have := bad_size j (by omega); omega) (LD0.out.up (kt B5.out (by go_grown)))).mono ?_
    rintro e u6 ⟨vu, eu, rfl, b6, ⟨lu, pu, _⟩ | ⟨nu, rfl, rfl⟩⟩
    · exact absurd pu (not_put (bad_all j (by omega)) lu)
    go_wp2_with (first | (go_at_call 13; refine (num_any _ _).mono ?_; rintro e w' ⟨rfl, hw⟩; rw [hw]; clear hw))
    go_ret
    exact ⟨rfl, kt (kt (kt B5.out (by go_grown)) b6) (by go_grown)⟩
  by_cases i8 : i = 8
  · subst i8
    have fz := fh 3
    have NF := hid ((nn.h3 (7 + (1 + m))).fns)
    have NP : Hid (packsB [(1, 2, [(0, 4), (2, 7 + (1 + m)), (16, 0)])] = false) := packs_one (fnB_code (code_one (p := (2, 7 + (1 + m))) (by simp) (by rw [may2]; simp [belowB]; omega)))
    obtain ⟨ap, c0, c1, c2, d0, d1, d2, d3, d4, d5, k1, k3⟩ := nn
    go_wp2_with fail
    refine (putL _ _ _ [(1, 2, [(0, 4), (2, 7 + (1 + m)), (16, 0)])] _ (NF.out.kept (by go_grown)) (LD0.out.up (by have hb3 := B3.out; go_grown))).mono ?_
    rintro e u5 ⟨rfl, b5⟩
    rw [putE_no NP.out, putS_no NP.out]
    go_wp2_with fail
    go_region
    have bc := bad_cell u5 9 j (by omega)
    have hb3 := B3.out
    have B5 : Hid (Below w.heap.size w u5) := hid (kt (by go_grown) b5)
    clear b5 hb3
    go_wp2_with fail
    refine (getL (badL.getD j ByteArray.empty) _ (by have := bad_size j (by omega); omega) (LD0.out.up (kt B5.out (by go_grown)))).mono ?_
    rintro e u6 ⟨vu, eu, rfl, b6, ⟨lu, pu, _⟩ | ⟨nu, rfl, rfl⟩⟩
    · exact absurd pu (not_put (bad_all j (by omega)) lu)
    go_wp2_with (first | (go_at_call 13; refine (num_any _ _).mono ?_; rintro e w' ⟨rfl, hw⟩; rw [hw]; clear hw))
    go_ret
    exact ⟨rfl, kt (kt (kt B5.out (by go_grown)) b6) (by go_grown)⟩
  by_cases i9 : i = 9
  · subst i9
    have fz := fh 5
    have NF := hid ((nn.h5 (1 + m)).fns)
    have NP : Hid (packsB [(1, 2, [(0, 4), (2, 1), (16, 1 + m)])] = false) := packs_one (fnB_code (code_one (p := (16, 1 + m)) (by simp) (by rw [may_else (by omega) (by omega) (by omega) (by omega) (by omega) (by omega)]; simp; omega)))
    obtain ⟨ap, c0, c1, c2, d0, d1, d2, d3, d4, d5, k1, k3⟩ := nn
    go_wp2_with fail
    refine (putL _ _ _ [(1, 2, [(0, 4), (2, 1), (16, 1 + m)])] _ (NF.out.kept (by go_grown)) (LD0.out.up (by have hb3 := B3.out; go_grown))).mono ?_
    rintro e u5 ⟨rfl, b5⟩
    rw [putE_no NP.out, putS_no NP.out]
    go_wp2_with fail
    go_region
    have bc := bad_cell u5 9 j (by omega)
    have hb3 := B3.out
    have B5 : Hid (Below w.heap.size w u5) := hid (kt (by go_grown) b5)
    clear b5 hb3
    go_wp2_with fail
    refine (getL (badL.getD j ByteArray.empty) _ (by have := bad_size j (by omega); omega) (LD0.out.up (kt B5.out (by go_grown)))).mono ?_
    rintro e u6 ⟨vu, eu, rfl, b6, ⟨lu, pu, _⟩ | ⟨nu, rfl, rfl⟩⟩
    · exact absurd pu (not_put (bad_all j (by omega)) lu)
    go_wp2_with (first | (go_at_call 13; refine (num_any _ _).mono ?_; rintro e w' ⟨rfl, hw⟩; rw [hw]; clear hw))
    go_ret
    exact ⟨rfl, kt (kt (kt B5.out (by go_grown)) b6) (by go_grown)⟩
  by_cases i10 : i = 10
  · subst i10
    have fz := fh 4
    have NF := hid ((nn.h4 (16 + (1 + m))).fns)
    have NP : Hid (packsB [(1, 2, [(0, 4), (2, 1), (16 + (1 + m), 0)])] = false) := packs_one (fnB_code (code_one (p := (16 + (1 + m), 0)) (by simp) (by rw [may_else (by omega) (by omega) (by omega) (by omega) (by omega) (by omega)]; simp [kindB]; omega)))
    obtain ⟨ap, c0, c1, c2, d0, d1, d2, d3, d4, d5, k1, k3⟩ := nn
    go_wp2_with fail
    refine (putL _ _ _ [(1, 2, [(0, 4), (2, 1), (16 + (1 + m), 0)])] _ (NF.out.kept (by go_grown)) (LD0.out.up (by have hb3 := B3.out; go_grown))).mono ?_
    rintro e u5 ⟨rfl, b5⟩
    rw [putE_no NP.out, putS_no NP.out]
    go_wp2_with fail
    go_region
    have bc := bad_cell u5 9 j (by omega)
    have hb3 := B3.out
    have B5 : Hid (Below w.heap.size w u5) := hid (kt (by go_grown) b5)
    clear b5 hb3
    go_wp2_with fail
    refine (getL (badL.getD j ByteArray.empty) _ (by have := bad_size j (by omega); omega) (LD0.out.up (kt B5.out (by go_grown)))).mono ?_
    rintro e u6 ⟨vu, eu, rfl, b6, ⟨lu, pu, _⟩ | ⟨nu, rfl, rfl⟩⟩
    · exact absurd pu (not_put (bad_all j (by omega)) lu)
    go_wp2_with (first | (go_at_call 13; refine (num_any _ _).mono ?_; rintro e w' ⟨rfl, hw⟩; rw [hw]; clear hw))
    go_ret
    exact ⟨rfl, kt (kt (kt B5.out (by go_grown)) b6) (by go_grown)⟩
  by_cases i0 : i = 0
  · subst i0
    obtain ⟨mm, rfl⟩ := Int.eq_ofNat_of_zero_le hm1
    obtain ⟨j0, hjf, hy0, hy1, hy2⟩ := info_parts Tryd.infoFunc
    have hmk : ∀ u : World, (Instr.makeSlice 22 (.int .i64 (8 + (1 + (mm : Int)))) (.int .i64 (8 + (1 + (mm : Int))))).run Tryd.prog u = .ok (.slice (some ⟨u.heap.size, 0, none⟩) (9 + mm) (9 + mm)) (u.alloc (.cells (madeCells #[.int .i64 0, .int .i64 0, .slice none 0 0] ((9 + mm) * 3)) 46)) := by
      intro u
      have hr := run_make (P := Tryd.prog) u 22 46 j0 (.agg #[.int .i64 0, .int .i64 0, .slice none 0 0]) Tryd.underlying22 hjf hy0 .i64 .i64 ((9 + mm : Nat) : Int) ((9 + mm : Nat) : Int) (by omega) (Int.le_refl _) (by rw [hy2]; omega) (by omega)
      simp only [Int.toNat_natCast, hy1] at hr
      rw [show (8 + (1 + (mm : Int))) = ((9 + mm : Nat) : Int) by omega]
      exact hr
    have NP : Hid (packsB (List.replicate (9 + mm) (0, 0, [])) = false) := packsB_short (by simp; omega)
    have om := own_made 43 46 (u3.alloc (.cells #[.slice (some ⟨u3.heap.size + 1, 0, none⟩) (9 + mm) (9 + mm)] 24)) (9 + mm) (by omega)
    rw [show (u3.alloc (.cells #[.slice (some ⟨u3.heap.size + 1, 0, none⟩) (9 + mm) (9 + mm)] 24)).heap.size = u3.heap.size + 1 by simp] at om
    obtain ⟨a4, n4, c4, e4, f4⟩ := om.reads (by simp; omega)
    cases e4
    have NF := hid f4
    clear om f4
    go_wp2_with fail
    refine (putL _ _ _ (List.replicate (9 + mm) (0, 0, [])) _ NF.out (LD0.out.up (by have hb3 := B3.out; go_grown))).mono ?_
    rintro e u5 ⟨rfl, b5⟩
    rw [putE_no NP.out, putS_no NP.out]
    go_wp2_with fail
    go_region
    have bc := bad_cell u5 9 j (by omega)
    have hb3 := B3.out
    have B5 : Hid (Below w.heap.size w u5) := hid (kt (by go_grown) b5)
    clear b5 hb3
    go_wp2_with fail
    refine (getL (badL.getD j ByteArray.empty) _ (by have := bad_size j (by omega); omega) (LD0.out.up (kt B5.out (by go_grown)))).mono ?_
    rintro e u6 ⟨vu, eu, rfl, b6, ⟨lu, pu, _⟩ | ⟨nu, rfl, rfl⟩⟩
    · exact absurd pu (not_put (bad_all j (by omega)) lu)
    go_wp2_with (first | (go_at_call 13; refine (num_any _ _).mono ?_; rintro e w' ⟨rfl, hw⟩; rw [hw]; clear hw))
    go_ret
    exact ⟨rfl, kt (kt (kt B5.out (by go_grown)) b6) (by go_grown)⟩
  by_cases i5 : i = 5
  · subst i5
    have fz := fg 2
    have NF := hid nn.noCode
    have NP : Hid (packsB [(1, 2, [])] = false) := rfl
    obtain ⟨ap, c0, c1, c2, d0, d1, d2, d3, d4, d5, k1, k3⟩ := nn
    go_wp2_with fail
    refine (putL _ _ _ [(1, 2, [])] _ (NF.out.kept (by go_grown)) (LD0.out.up (by have hb3 := B3.out; go_grown))).mono ?_
    rintro e u5 ⟨rfl, b5⟩
    rw [putE_no NP.out, putS_no NP.out]
    go_wp2_with fail
    go_region
    have bc := bad_cell u5 9 j (by omega)
    have hb3 := B3.out
    have B5 : Hid (Below w.heap.size w u5) := hid (kt (by go_grown) b5)
    clear b5 hb3
    go_wp2_with fail
    refine (getL (badL.getD j ByteArray.empty) _ (by have := bad_size j (by omega); omega) (LD0.out.up (kt B5.out (by go_grown)))).mono ?_
    rintro e u6 ⟨vu, eu, rfl, b6, ⟨lu, pu, _⟩ | ⟨nu, rfl, rfl⟩⟩
    · exact absurd pu (not_put (bad_all j (by omega)) lu)
    go_wp2_with (first | (go_at_call 13; refine (num_any _ _).mono ?_; rintro e w' ⟨rfl, hw⟩; rw [hw]; clear hw))
    go_ret
    exact ⟨rfl, kt (kt (kt B5.out (by go_grown)) b6) (by go_grown)⟩
  by_cases i6 : i = 6
  · subst i6
    obtain ⟨mm, rfl⟩ := Int.eq_ofNat_of_zero_le hm1
    obtain ⟨j0, hjf, hy0, hy1, hy2⟩ := info_parts Tryd.infoIns
    have hmk : ∀ u : World, (Instr.makeSlice 44 (.int .i64 (64 + (1 + (mm : Int)))) (.int .i64 (64 + (1 + (mm : Int))))).run Tryd.prog u = .ok (.slice (some ⟨u.heap.size, 0, none⟩) (65 + mm) (65 + mm)) (u.alloc (.cells (madeCells #[.int .i64 0, .int .i64 0] ((65 + mm) * 2)) 43)) := by
      intro u
      have hr := run_make (P := Tryd.prog) u 44 43 j0 (.agg #[.int .i64 0, .int .i64 0]) Tryd.underlying44 hjf hy0 .i64 .i64 ((65 + mm : Nat) : Int) ((65 + mm : Nat) : Int) (by omega) (Int.le_refl _) (by rw [hy2]; omega) (by omega)
      simp only [Int.toNat_natCast, hy1] at hr
      rw [show (64 + (1 + (mm : Int))) = ((65 + mm : Nat) : Int) by omega]
      exact hr
    have NP : Hid (packsB [(1, 2, List.replicate (65 + mm) (0, 0))] = false) := packs_one (fnB_code (codeB_short (by simp; omega)))
    have fz := fg 2
    have NN := hid nn
    obtain ⟨ap, c0, c1, c2, d0, d1, d2, d3, d4, d5, k1, k3⟩ := nn
    have z1 := World.new_ne _ _ c0
    go_wp2_with fail
    go_region
    go_wp2_with fail
    refine (putL _ _ _ [(1, 2, List.replicate (65 + mm) (0, 0))] _ (NN.out.long _ _ _ (by omega)) (LD0.out.up (by have hb3 := B3.out; go_grown))).mono ?_
    rintro e u5 ⟨rfl, b5⟩
    rw [putE_no NP.out, putS_no NP.out]
    go_wp2_with fail
    go_region
    have bc := bad_cell u5 9 j (by omega)
    have hb3 := B3.out
    have B5 : Hid (Below w.heap.size w u5) := hid (kt (by go_grown) b5)
    clear b5 hb3
    go_wp2_with fail
    refine (getL (badL.getD j ByteArray.empty) _ (by have := bad_size j (by omega); omega) (LD0.out.up (kt B5.out (by go_grown)))).mono ?_
    rintro e u6 ⟨vu, eu, rfl, b6, ⟨lu, pu, _⟩ | ⟨nu, rfl, rfl⟩⟩
    · exact absurd pu (not_put (bad_all j (by omega)) lu)
    go_wp2_with (first | (go_at_call 13; refine (num_any _ _).mono ?_; rintro e w' ⟨rfl, hw⟩; rw [hw]; clear hw))
    go_ret
    exact ⟨rfl, kt (kt (kt B5.out (by go_grown)) b6) (by go_grown)⟩
  omega

set_option maxRecDepth 100000 in
theorem lifted (os : Os) (started : os.Started) (H : Type) (enc : TypeId × Value → H) :
    ReturnsInHanded {} Tryd.checked os 5 .any (fun w args => (Rows.packFormsSpec.pre enc Tryd.prog Tryd.f5 [] false w args ∧ laidMetH Tryd.prog [("math/bits.deBruijn32tab", Rows.laid_math_bits_deBruijn32tab), ("math/bits.deBruijn64tab", Rows.laid_math_bits_deBruijn64tab), ("internal/strconv.uint64pow10", Rows.laid_internal_strconv_uint64pow10), ("swage/pack.errForm", Rows.laid_swage_pack_errForm), ("swage/pack.errEnd", Rows.laid_swage_pack_errEnd)] w) ∧ sizedMet enc Tryd.prog Tryd.f5 (OpenSpec.ofChange Rows.packFormsSpec) false w args) (Rows.packFormsSpec.post enc Tryd.prog Tryd.f5 false true false false) := by
  refine returnsInHanded_of_change_and (C := Tryd.checked) (X := fun w _ => laidMetH Tryd.prog [("math/bits.deBruijn32tab", Rows.laid_math_bits_deBruijn32tab), ("math/bits.deBruijn64tab", Rows.laid_math_bits_deBruijn64tab), ("internal/strconv.uint64pow10", Rows.laid_internal_strconv_uint64pow10), ("swage/pack.errForm", Rows.laid_swage_pack_errForm), ("swage/pack.errEnd", Rows.laid_swage_pack_errEnd)] w) (fun _ _ _ hh h => h.of_heap hh) own started (by kernel_rfl) Tryd.func5
    (ChangeSpec.witness_shaped (enc := enc) (C := Tryd.checked) (os := os) (X := fun w _ => laidMetH Tryd.prog [("math/bits.deBruijn32tab", Rows.laid_math_bits_deBruijn32tab), ("math/bits.deBruijn64tab", Rows.laid_math_bits_deBruijn64tab), ("internal/strconv.uint64pow10", Rows.laid_internal_strconv_uint64pow10), ("swage/pack.errForm", Rows.laid_swage_pack_errForm), ("swage/pack.errEnd", Rows.laid_swage_pack_errEnd)] w) false (World.doorLaid Tryd.prog 400 os) #[.int .i64 0, .int .i64 0] 8 rfl (World.shaped_of_RefB (by kernel_rfl) (by kernel_rfl)) (by kernel_rfl) (by kernel_rfl) (by kernel_rfl) (door_met os _)) ?_
  intro W base args ds gs before hval0 hW hcnd hsz0 hL _
  have hval : ∀ (j : Nat) t v, Tryd.f5.params[j]? = some t → args[j]? = some v → Value.okWide Tryd.prog W .any base t v := hval0
  have hW' := hW
  obtain ⟨p, q, hA0, hV, rfl, hfz, hnd⟩ := hW
  have hA : DataW.TrodAll enc Tryd.prog W 0 (fun _ => true) true Tryd.f5.params.toList args.toList ds p := hA0
  have hsz : (DataW.weightsEach Tryd.prog (Tryd.f5.params.toList ++ Rows.packFormsSpec.plain.varTypes Tryd.prog) (ds ++ gs)).all (· ≤ reachBytes) = true := hsz0
  rw [Tryd.params5] at hA hval hsz
  obtain ⟨v0, vs0, d0, ds0, p0, q0, hargs, rfl, rfl, h0, r0⟩ := trodAll_cons hA
  obtain ⟨v1, vs1, d1, ds1, p1, q1, rfl, rfl, rfl, h1, r1⟩ := trodAll_cons r0
  obtain ⟨rfl, rfl, rfl⟩ := trodAll_nil r1
  obtain rfl : args = #[v0, v1] := by cases args; simp_all
  obtain ⟨rfl, rfl⟩ := trodVars_none hV
  have k0 := h0
  have lt0 : ∀ x ∈ p0, x.block < W.heap.size := by obtain ⟨m, hm⟩ := k0; exact DataW.trod_lt m _ _ _ hm
  have k1 := h1
  have lt1 : ∀ x ∈ p1, x.block < W.heap.size := by obtain ⟨m, hm⟩ := k1; exact DataW.trod_lt m _ _ _ hm
  obtain ⟨a0, rfl, rfl, rfl, w0⟩ := open_int Tryd.underlying3 (hval 0 3 v0 rfl rfl) h0
  obtain ⟨a1, rfl, rfl, rfl, w1⟩ := open_int Tryd.underlying3 (hval 1 3 v1 rfl rfl) h1
  clear hA0 hval0
  refine (walk a0 a1 W w0 w1 (ld_of hL)).mono fun e W' ⟨he, bel⟩ => ?_
  subst he
  exact ⟨_, rfl, _, _, _, [], _, [], hW', trodAll_mk1 (shut_bool Tryd.underlying4 _), (trodAll_cons_mk (Below.trod laidOut (by kernel_rfl) (of_decide_eq_true (by kernel_rfl)) k0 bel lt0) (trodAll_cons_mk (Below.trod laidOut (by kernel_rfl) (of_decide_eq_true (by kernel_rfl)) k1 bel lt1) trodAll_mk0)), rfl, bel.frame _, fun h => by cases h⟩

theorem over : Rows.packFormsRow.holds Tryd.pinned (OpenSpec.ofChange Rows.packFormsSpec) :=
  OpenClaim.holds_of_wide 5 Tryd.f5 rfl rfl rfl rfl rfl rfl rfl ⟨rfl, rfl, rfl, rfl, rfl⟩ rfl rfl rfl rfl rfl (by kernel_rfl) Tryd.func5 (by kernel_rfl)
    (of_decide_eq_true (by kernel_rfl)) (by unfold Func.isWrapper; first | (rw [if_pos (by decide +kernel)]; kernel_rfl) | (rw [if_neg (by decide +kernel)]; exact ⟨rfl, rfl⟩))
    (fun os started H enc _ => lifted os started H enc)
end Go.Proofs.YtlknaanheieneaaDoor.packForms
namespace Go.Proofs.YtlknaanheieneaaDoor
open Go
theorem packForms_holds : Rows.PackFormsCardSaid :=
  Claim7.holds_tied_plain_at .later [] [.data, .data, .data, .sentinel, .sentinel] true (true, "f144d9048f5c4b297b1d9f684961b5a3ac68166b4a9617bb131c147bab0c1bb5") true
    packForms.over (fun _ h => by cases h) (by kernel_rfl) (fun _ h => by cases h) packForms_row_tie rfl ⟨rfl, rfl⟩ (by kernel_rfl) rfl
    (fun f fn hf hfn => by
      obtain rfl : f = 5 := Option.some.inj ((show Tryd.prog.funcNamed "swage/swagelaw3.PackForms" = some 5 by kernel_rfl).symm.trans hf) |>.symm
      obtain rfl : fn = Tryd.f5 := (Option.some.inj (Tryd.func5.symm.trans hfn)).symm
      exact ⟨by kernel_rfl, fun j t ht => by
        rw [Tryd.params5] at ht
        have hm : t ∈ [3, 3] := by simpa using Array.mem_of_getElem? ht
        have hall : ([3, 3].all fun u => !Tryd.prog.wantsStandIn u) = true := by kernel_rfl
        exact (show Tryd.prog.wantsStandIn t = false by simpa using List.all_eq_true.1 hall t hm)⟩)
    (by kernel_rfl)
#print axioms packForms_holds
end Go.Proofs.YtlknaanheieneaaDoor
