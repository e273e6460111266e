/- Lower as it is landed, reckoned: jumps forward wait for their place. Nothing of the program is named here. A block's cells as a list. What lies in memory while Lower, as landed, goes on: the walk's box, the code, its metas, the first places, those that wait. Package lower: arrive: those that wait for a pc are given its place. Package lower: lead. Written by lwrgen.py. Package plain: the plain registers, the plain part of a pc; the call that lower makes of a call. Package lower: put. Written by lwrgen.py. Package lower: poll. Written by lwrgen.py. Package lower: what an instruction becomes (irOf), a call (callOf). -/
import Derived.Test.YtaimpljkbpnigaaGreatDoorJ11d
import Derived.Test.YtaimpljkbpnigaaGreatDoorMemIr
import Derived.Test.YtaimpljkbpnigaaGreatDoorJ11e
import Derived.Test.YtaimpljkbpnigaaGreatDoorJ11c
import Derived.Deep.DeepCutAuto
import Derived.Test.YtaimpljkbpnigaaGreatDoorJ9b
import Derived.Deep.RegionWith
import Derived.Test.YtaimpljkbpnigaaGreatDoorJ10e
namespace Go.Proofs.YtaimpljkbpnigaaGreatDoor
open Go.RowKit
set_option linter.unusedVariables false
variable {ps : List Fn} {f : Nat} {gx gy : Int} {fl : List (Int × Int)}

def isJ (x : IrT) : Prop := x.1 = 4 ∨ x.1 = 5
instance (x : IrT) : Decidable (isJ x) := by unfold isJ; infer_instance
def setK (x : IrT) (p : Int) : IrT := (x.1, x.2.1, x.2.2.1, x.2.2.2.1, p, x.2.2.2.2.2)
/-- Jumps to pcs ahead of a have their place, the others none. -/
def wayK (P : Nat → Int) (a : Nat) (x : IrT) : IrT := if isJ x then setK x (if x.2.2.2.2.1 < (a : Int) then P x.2.2.2.2.1.toNat else 0) else x
/-- The place of a pc. -/
def atPc (ps : List Fn) (f : Nat) (F : Fn) (a : Nat) : Int := ((lowN ps f F a).1.length : Int)
/-- The code behind q steps, with the places of what comes ahead of a. -/
def halfL (ps : List Fn) (f : Nat) (F : Fn) (q a : Nat) : List IrT := (lowN ps f F q).1.map (wayK (atPc ps f F) a)
theorem half_len (ps : List Fn) (f : Nat) (F : Fn) (q a : Nat) : (halfL ps f F q a).length = (lowN ps f F q).1.length := by simp [halfL]
theorem half_zero (ps : List Fn) (f : Nat) (F : Fn) : halfL ps f F 0 0 = [] := rfl
/-- Those that wait for a pc: the places of the jumps that lead there. -/
structure WaitI (ps : List Fn) (f : Nat) (F : Fn) (q a : Nat) (l : List Int) : Prop where
  mem : ∀ j : Int, j ∈ l ↔ ∃ (n : Nat) (x : IrT), j = n ∧ (lowN ps f F q).1[n]? = some x ∧ isJ x ∧ x.2.2.2.2.1 = (a : Int)
  len : l.length ≤ q
theorem WaitI.zero (ps : List Fn) (f : Nat) (F : Fn) (a : Nat) : WaitI ps f F 0 a [] :=
  ⟨fun j => ⟨fun h => (by cases h), fun ⟨n, x, _, h, _⟩ => by simp [lowN] at h⟩, Nat.le_refl _⟩
theorem WaitI.bound {F : Fn} {q a : Nat} {l : List Int} (h : WaitI ps f F q a l) {j : Int} (hj : j ∈ l) : 0 ≤ j ∧ j < ((lowN ps f F q).1.length : Int) := by
  obtain ⟨n, x, rfl, hx, _⟩ := (h.mem j).1 hj
  have := (List.getElem?_eq_some_iff.1 hx).1
  omega
/-- A pc that nothing reaches: no jump leads there. -/
theorem low_target (hv : verV ps = 0) (e3 : ps.getD f noFn = (gx, gy, fl)) {q : Nat} (hq : q ≤ fl.length) {j : Nat} {x : IrT} (h : (lowN ps f (gx, gy, fl) q).1[j]? = some x) (hj : isJ x) : ∃ a : Nat, x.2.2.2.2.1 = a ∧ a < fl.length ∧ 0 ≤ heightV ps (f : Int) (a : Int) := by
  obtain ⟨i, K, A, hi, hh, hx, hl, hc⟩ := low_stands q hq j x h
  rcases hc with ⟨mt, rfl, _, _⟩ | ⟨rfl, _, _⟩
  · rcases hj with h | h <;> simp [pollI] at h
  · obtain ⟨hkk, hA⟩ := one_jump hj
    obtain ⟨a, rfl, ha, h0, _, _⟩ := jump_place hv e3 hh hx hkk
    exact ⟨a, hA, ha, h0⟩
theorem wayK_step {P : Nat → Int} {a : Nat} {x : IrT} (h : isJ x → x.2.2.2.2.1 ≠ (a : Int)) : wayK P (a + 1) x = wayK P a x := by
  unfold wayK
  by_cases hj : isJ x
  · rw [if_pos hj, if_pos hj]
    have := h hj
    congr 1
    by_cases h1 : x.2.2.2.2.1 < (a : Int)
    · rw [if_pos h1, if_pos (by omega)]
    · rw [if_neg h1, if_neg (by omega)]
  · rw [if_neg hj, if_neg hj]
theorem wayK_hit {P : Nat → Int} {a : Nat} {x : IrT} (hj : isJ x) (h : x.2.2.2.2.1 = (a : Int)) : wayK P (a + 1) x = setK (wayK P a x) (P a) := by
  unfold wayK
  rw [if_pos hj, if_pos hj, if_pos (by omega), if_neg (by omega), h]
  rfl
/-- A pc that is not reached. -/
theorem half_gone (hv : verV ps = 0) (e3 : ps.getD f noFn = (gx, gy, fl)) {q : Nat} (hq : q < fl.length) (h : heightV ps (f : Int) (q : Int) < 0) : halfL ps f (gx, gy, fl) (q + 1) (q + 1) = halfL ps f (gx, gy, fl) q q := by
  unfold halfL
  rw [lowN_gone h]
  refine List.map_congr_left (fun x hx => wayK_step (fun hj he => ?_))
  obtain ⟨j, hj'⟩ := List.getElem?_of_mem hx
  obtain ⟨a, h1, _, h2⟩ := low_target hv e3 (Nat.le_of_lt hq) hj' hj
  obtain rfl : a = q := by omega
  omega
theorem WaitI.gone {q a : Nat} {l : List Int} (w : WaitI ps f (gx, gy, fl) q a l) (h : heightV ps (f : Int) (q : Int) < 0) : WaitI ps f (gx, gy, fl) (q + 1) a l :=
  ⟨fun j => by rw [lowN_gone h]; exact w.mem j, Nat.le_succ_of_le w.len⟩
/-- Those that wait are given their place, one after another. -/
def arrF (cl : List IrT) (l : List Int) (p : Int) : List IrT := l.foldl (fun c j => c.set j.toNat (setK (c.getD j.toNat (0, 0, 0, 0, 0, [], 0, 0, 0)) p)) cl
theorem arr_snoc (cl : List IrT) (l : List Int) (j p : Int) : arrF cl (l ++ [j]) p = (arrF cl l p).set j.toNat (setK ((arrF cl l p).getD j.toNat (0, 0, 0, 0, 0, [], 0, 0, 0)) p) := by simp [arrF]
theorem arr_at (p : Int) : ∀ (l : List Int) (cl : List IrT), (∀ j ∈ l, 0 ≤ j ∧ j < (cl.length : Int)) → ∀ i : Nat, (arrF cl l p)[i]? = cl[i]?.map (fun x => if (i : Int) ∈ l then setK x p else x)
  | [], cl, _, i => by simp [arrF]
  | j :: l, cl, h, i => by
    have hj := h j (by simp)
    obtain ⟨n, rfl⟩ : ∃ n : Nat, j = n := ⟨j.toNat, by omega⟩
    have hn : n < cl.length := by omega
    show (arrF (cl.set n (setK (cl.getD n (0, 0, 0, 0, 0, [], 0, 0, 0)) p)) l p)[i]? = _
    rw [arr_at p l _ (fun k hk => by have := h k (by simp [hk]); simpa using this) i, List.getElem?_set]
    by_cases e : n = i
    · subst e
      rw [if_pos rfl, if_pos hn, List.getD_eq_getElem?_getD, List.getElem?_eq_getElem hn]
      simp only [Option.map_some, Option.getD_some, List.mem_cons, true_or, if_true]
      split <;> rfl
    · rw [if_neg e]
      have e2 : ¬ (i : Int) = (n : Int) := by omega
      simp only [List.mem_cons, e2, false_or]
theorem arr_len (p : Int) : ∀ (l : List Int) (cl : List IrT), (arrF cl l p).length = cl.length
  | [], cl => rfl
  | j :: l, cl => by
    show (arrF (cl.set _ _) l p).length = _
    rw [arr_len p l]; simp
theorem arr_half {q : Nat} {l : List Int} (w : WaitI ps f (gx, gy, fl) q q l) : arrF (halfL ps f (gx, gy, fl) q q) l (atPc ps f (gx, gy, fl) q) = halfL ps f (gx, gy, fl) q (q + 1) := by
  refine List.ext_getElem? (fun i => ?_)
  rw [arr_at _ l _ (fun j hj => by rw [half_len]; exact w.bound hj) i]
  unfold halfL
  rw [List.getElem?_map, List.getElem?_map]
  cases hx : (lowN ps f (gx, gy, fl) q).1[i]? with
  | none => rfl
  | some x =>
    simp only [Option.map_some]
    congr 1
    by_cases hm : (i : Int) ∈ l
    · rw [if_pos hm]
      obtain ⟨n, y, hn, hy, hj, hk⟩ := (w.mem i).1 hm
      obtain rfl : n = i := by omega
      obtain rfl : x = y := by rw [hx] at hy; exact Option.some.inj hy
      exact (wayK_hit hj hk).symm
    · rw [if_neg hm]
      exact (wayK_step (fun hj he => hm ((w.mem i).2 ⟨i, x, rfl, hx, hj, he⟩))).symm
/-- The last step: every place is there. -/
theorem half_all (hv : verV ps = 0) (e3 : ps.getD f noFn = (gx, gy, fl)) : halfL ps f (gx, gy, fl) fl.length fl.length = (lowN ps f (gx, gy, fl) fl.length).1.map (toPlace (lowN ps f (gx, gy, fl) fl.length).2.2) := by
  unfold halfL
  refine List.map_congr_left (fun x hx => ?_)
  unfold wayK toPlace
  by_cases hj : isJ x
  · obtain ⟨j, hj'⟩ := List.getElem?_of_mem hx
    obtain ⟨a, h1, h2, h3⟩ := low_target hv e3 (Nat.le_refl _) hj' hj
    have hj2 : x.1 = 4 ∨ x.1 = 5 := hj
    rw [if_pos hj, if_pos hj2, if_pos (by omega), h1, Int.toNat_natCast, low_place _ h2 (Nat.le_refl _)]
    rfl
  · rw [if_neg hj, if_neg (show ¬ (x.1 = 4 ∨ x.1 = 5) from hj)]
/-- What an instruction becomes, its place known or not. -/
theorem way_one {T : Int} {q : Nat} {K A : Int} (P : Nat → Int) : wayK P (q + 1) (oneV ps T (q : Int) (K, A)) = if K = 12 ∨ K = 13 then setK (oneV ps T (q : Int) (K, A)) (if A ≤ (q : Int) then P A.toNat else 0) else oneV ps T (q : Int) (K, A) := by
  unfold wayK
  by_cases hj : isJ (oneV ps T (q : Int) (K, A))
  · obtain ⟨h1, h2⟩ := one_jump hj
    rw [if_pos hj, if_pos h1, h2]
    congr 1
    by_cases h : A ≤ (q : Int)
    · rw [if_pos h, if_pos (by omega)]
    · rw [if_neg h, if_neg (by omega)]
  · rw [if_neg hj]
    by_cases h : K = 12 ∨ K = 13
    · exfalso
      apply hj
      rcases h with rfl | rfl
      · exact .inl rfl
      · exact .inr rfl
    · rw [if_neg h]
theorem way_poll {mt q : Int} (P : Nat → Int) (a : Nat) : wayK P a (pollI mt q) = pollI mt q := by
  unfold wayK isJ pollI
  simp
/-- A step that goes on; one that goes back. -/
theorem half_on {q : Nat} {K A : Int} (h : 0 ≤ heightV ps (f : Int) (q : Int)) (hx : fl[q]? = some (K, A)) (hb : backB (q : Int) (K, A) = false) : halfL ps f (gx, gy, fl) (q + 1) (q + 1) = halfL ps f (gx, gy, fl) q (q + 1) ++ [wayK (atPc ps f (gx, gy, fl)) (q + 1) (oneV ps (gy + heightV ps (f : Int) (q : Int)) (q : Int) (K, A))] := by
  unfold halfL
  rw [lowN_on (by omega) hx hb]
  simp
theorem half_back {q : Nat} {K A : Int} (h : 0 ≤ heightV ps (f : Int) (q : Int)) (hx : fl[q]? = some (K, A)) (hb : backB (q : Int) (K, A) = true) : halfL ps f (gx, gy, fl) (q + 1) (q + 1) = halfL ps f (gx, gy, fl) q (q + 1) ++ [pollI ((lowN ps f (gx, gy, fl) q).2.1.length : Int) (q : Int)] ++ [wayK (atPc ps f (gx, gy, fl)) (q + 1) (oneV ps (gy + heightV ps (f : Int) (q : Int)) (q : Int) (K, A))] := by
  unfold halfL
  rw [lowN_back (by omega) hx hb]
  simp only [List.map_append, List.map_cons, List.map_nil]
  rw [show ((10, 0, 0, 0, 0, [], 0, ((lowN ps f (gx, gy, fl) q).2.1.length : Int), (q : Int)) : IrT) = pollI ((lowN ps f (gx, gy, fl) q).2.1.length : Int) (q : Int) from rfl, way_poll]
/-- Those that wait for a pc that no new jump leads to; that one does. -/
theorem WaitI.on {q a : Nat} {l : List Int} {K A : Int} (w : WaitI ps f (gx, gy, fl) q a l) (h : 0 ≤ heightV ps (f : Int) (q : Int)) (hx : fl[q]? = some (K, A)) (hq : q < a) (hn : ¬ ((K = 12 ∨ K = 13) ∧ A = (a : Int))) : WaitI ps f (gx, gy, fl) (q + 1) a l := by
  have key : ∀ y ∈ [pollI ((lowN ps f (gx, gy, fl) q).2.1.length : Int) (q : Int), oneV ps (gy + heightV ps (f : Int) (q : Int)) (q : Int) (K, A)], ¬ (isJ y ∧ y.2.2.2.2.1 = (a : Int)) := by
    intro y hy
    simp only [List.mem_cons, List.not_mem_nil, or_false] at hy
    rcases hy with rfl | rfl
    · rintro ⟨h1, -⟩
      rcases h1 with h1 | h1 <;> simp [pollI] at h1
    · rintro ⟨h1, h2⟩
      obtain ⟨h3, h4⟩ := one_jump h1
      exact hn ⟨h3, by rw [← h4]; exact h2⟩
  obtain ⟨d, hd, hm⟩ : ∃ d, (lowN ps f (gx, gy, fl) (q + 1)).1 = (lowN ps f (gx, gy, fl) q).1 ++ d ∧ ∀ y ∈ d, ¬ (isJ y ∧ y.2.2.2.2.1 = (a : Int)) := by
    cases hb : backB (q : Int) (K, A)
    · exact ⟨_, by rw [lowN_on (by omega) hx hb], fun y hy => key y (by simp at hy; subst hy; simp)⟩
    · exact ⟨_, by rw [lowN_back (by omega) hx hb, List.append_assoc], fun y hy => key y (by simpa [pollI] using hy)⟩
  refine ⟨fun j => ?_, Nat.le_succ_of_le w.len⟩
  rw [w.mem j, hd]
  constructor
  · rintro ⟨n, x, rfl, h1, h2⟩
    exact ⟨n, x, rfl, by rw [List.getElem?_append_left (List.getElem?_eq_some_iff.1 h1).1]; exact h1, h2⟩
  · rintro ⟨n, x, rfl, h1, h2⟩
    by_cases hl : n < (lowN ps f (gx, gy, fl) q).1.length
    · rw [List.getElem?_append_left hl] at h1
      exact ⟨n, x, rfl, h1, h2⟩
    · rw [List.getElem?_append_right (by omega)] at h1
      exact absurd h2 (hm x (List.mem_of_getElem? h1))
theorem WaitI.add {q a : Nat} {l : List Int} {K : Int} (w : WaitI ps f (gx, gy, fl) q a l) (h : 0 ≤ heightV ps (f : Int) (q : Int)) (hx : fl[q]? = some (K, (a : Int))) (hq : q < a) (hk : K = 12 ∨ K = 13) : WaitI ps f (gx, gy, fl) (q + 1) a (l ++ [((lowN ps f (gx, gy, fl) q).1.length : Int)]) := by
  have hb : backB (q : Int) (K, (a : Int)) = false := decide_eq_false (by simp; omega)
  have hd := congrArg Prod.fst (lowN_on (gx := gx) (gy := gy) (Int.not_lt.2 h) hx hb)
  have hJ : isJ (oneV ps (gy + heightV ps (f : Int) (q : Int)) (q : Int) (K, (a : Int))) ∧ (oneV ps (gy + heightV ps (f : Int) (q : Int)) (q : Int) (K, (a : Int))).2.2.2.2.1 = (a : Int) := by
    rcases hk with rfl | rfl
    · exact ⟨.inl rfl, rfl⟩
    · exact ⟨.inr rfl, rfl⟩
  have hlen := w.len
  refine ⟨fun j => ?_, by simp; omega⟩
  rw [List.mem_append, w.mem j, hd]
  constructor
  · rintro (⟨n, x, rfl, h1, h2⟩ | h1)
    · exact ⟨n, x, rfl, by rw [List.getElem?_append_left (List.getElem?_eq_some_iff.1 h1).1]; exact h1, h2⟩
    · simp at h1
      exact ⟨_, _, h1, by rw [List.getElem?_append_right (Nat.le_refl _), Nat.sub_self]; rfl, hJ⟩
  · rintro ⟨n, x, rfl, h1, h2⟩
    by_cases hl : n < (lowN ps f (gx, gy, fl) q).1.length
    · rw [List.getElem?_append_left hl] at h1
      exact .inl ⟨n, x, rfl, h1, h2⟩
    · have hn := (List.getElem?_eq_some_iff.1 h1).1
      simp at hn
      exact .inr (by simp; omega)

end Go.Proofs.YtaimpljkbpnigaaGreatDoor

namespace Go.Proofs.YtaimpljkbpnigaaGreatDoor
open Go.RowKit
set_option linter.unusedVariables false

/-- A block's cells, a list. -/
structure BoxAt (W : World) (b : Nat) (vs : List Value) : Prop where
  c : ∀ (j : Nat) (v : Value), vs[j]? = some v → W.cell? ⟨b, j, none⟩ = some v
  fz : ∀ j, W.frozen? ⟨b, j, none⟩ = false
theorem BoxAt.frm {W V : World} {b : Nat} {vs : List Value} (h : BoxAt W b vs) (e : V.heap[b]? = W.heap[b]?) : BoxAt V b vs :=
  ⟨fun j v hv => (cellFrm e).trans (h.c j v hv), fun j => (freeFrm e).trans (h.fz j)⟩
theorem BoxAt.set {W : World} {b : Nat} {vs : List Value} (h : BoxAt W b vs) (j : Nat) (u : Value) : BoxAt (W.setCell ⟨b, j, none⟩ u) b (vs.set j u) := by
  refine ⟨fun i v hv => ?_, fun i => (World.frozen?_setCell _ _ _ _).trans (h.fz i)⟩
  rw [List.getElem?_set] at hv
  by_cases e : j = i
  · subst e
    rw [if_pos rfl] at hv
    split at hv
    · rename_i hl
      cases hv
      exact World.cell?_setCell_same _ _ _ (h.c j _ (List.getElem?_eq_getElem hl))
    · cases hv
  · rw [if_neg e] at hv
    rw [World.cell?_setCell_other _ _ _ _ (fun k => e (by cases k; rfl))]
    exact h.c i v hv
theorem box_alloc (W : World) (vs : List Value) (T : Nat) : BoxAt (W.alloc (.cells vs.toArray T)) W.heap.size vs := by
  refine ⟨fun j v hv => ?_, fun j => by simp [go_sem]⟩
  exact (cell_of_heap (heap_alloc_new W (.cells vs.toArray T)) (by simpa using hv)).1

end Go.Proofs.YtaimpljkbpnigaaGreatDoor

namespace Go.Proofs.YtaimpljkbpnigaaGreatDoor
open Go.RowKit
set_option linter.unusedVariables false

/-- The walk: its box at xb, the first places in the block fb. -/
structure WkIn (W : World) (xb fb base : Nat) (pv hv : Value) (gx gy : Int) (gv : Value) (f rg : Int) (gn : Nat) (vC vM vW : Value) (BC BM BW : Nat → Prop) (cl : List IrT) (ml : List (List PartT)) (pl : List Int) (wl : List (List Int)) : Prop where
  bx : BoxAt W xb [pv, hv, .int .i64 gx, .int .i64 gy, gv, .int .i64 f, .int .i64 rg, vC, vM, .slice (some ⟨fb, 0, none⟩) gn gn, vW]
  oi : OSl layIr 44 88 W BC vC cl
  om : OSl layMeta 57 24 W BM vM ml
  ow : OSl (layS 3 8 layI) 42 24 W BW vW wl
  pls : PlSt W fb gn base pl
  ne : xb ≠ fb
  bl : base ≤ xb ∧ base ≤ fb
  nC : ∀ b, BC b → b ≠ xb ∧ b ≠ fb ∧ base ≤ b ∧ b < W.heap.size
  nM : ∀ b, BM b → b ≠ xb ∧ b ≠ fb ∧ base ≤ b ∧ b < W.heap.size
  nW : ∀ b, BW b → b ≠ xb ∧ b ≠ fb ∧ base ≤ b ∧ b < W.heap.size
  dCM : ∀ b, BC b → BM b → False
  dCW : ∀ b, BC b → BW b → False
  dMW : ∀ b, BM b → BW b → False
variable {W V w5 w6 : World} {xb fb base : Nat} {pv hv gv vC vM vW : Value} {gx gy f rg : Int} {gn : Nat} {BC BM BW : Nat → Prop} {cl : List IrT} {ml : List (List PartT)} {pl : List Int} {wl : List (List Int)}
theorem WkIn.xlt (h : WkIn W xb fb base pv hv gx gy gv f rg gn vC vM vW BC BM BW cl ml pl wl) : xb < W.heap.size := lt_of_cell (h.bx.c 0 _ rfl)
theorem WkIn.flt (h : WkIn W xb fb base pv hv gx gy gv f rg gn vC vM vW BC BM BW cl ml pl wl) : fb < W.heap.size := (h.pls.row.lt _ rfl).2
/-- Nothing but what is in S has changed, and S has none of these. -/
theorem WkIn.frm (h : WkIn W xb fb base pv hv gx gy gv f rg gn vC vM vW BC BM BW cl ml pl wl) {S : Nat → Prop} (fr : Frm S W V) (hS : ∀ b, S b → (b ≠ xb ∧ b ≠ fb ∧ ¬ BC b ∧ ¬ BM b ∧ ¬ BW b) ∨ W.heap.size ≤ b) : WkIn V xb fb base pv hv gx gy gv f rg gn vC vM vW BC BM BW cl ml pl wl := by
  have n : ∀ b, b < W.heap.size → (b = xb ∨ b = fb ∨ BC b ∨ BM b ∨ BW b) → V.heap[b]? = W.heap[b]? := fun b hb hh => fr.block b hb (fun hs => by
    rcases hS b hs with ⟨h1, h2, h3, h4, h5⟩ | h1
    · rcases hh with hh | hh | hh | hh | hh
      · exact h1 hh
      · exact h2 hh
      · exact h3 hh
      · exact h4 hh
      · exact h5 hh
    · omega)
  have l : ∀ b, b < W.heap.size → b < V.heap.size := fun b hb => Nat.lt_of_lt_of_le hb fr.size
  exact ⟨h.bx.frm (n xb h.xlt (.inl rfl)), h.oi.frm (fun b hb hl => n b hl (.inr (.inr (.inl hb)))), h.om.frm (fun b hb hl => n b hl (.inr (.inr (.inr (.inl hb))))), h.ow.frm (fun b hb hl => n b hl (.inr (.inr (.inr (.inr hb))))), h.pls.frm (n fb h.flt (.inr (.inl rfl))), h.ne, h.bl,
    fun b hb => ⟨(h.nC b hb).1, (h.nC b hb).2.1, (h.nC b hb).2.2.1, l b (h.nC b hb).2.2.2⟩, fun b hb => ⟨(h.nM b hb).1, (h.nM b hb).2.1, (h.nM b hb).2.2.1, l b (h.nM b hb).2.2.2⟩, fun b hb => ⟨(h.nW b hb).1, (h.nW b hb).2.1, (h.nW b hb).2.2.1, l b (h.nW b hb).2.2.2⟩, h.dCM, h.dCW, h.dMW⟩
theorem WkIn.kept (h : WkIn W xb fb base pv hv gx gy gv f rg gn vC vM vW BC BM BW cl ml pl wl) (b : Below W.heap.size W V) : WkIn V xb fb base pv hv gx gy gv f rg gn vC vM vW BC BM BW cl ml pl wl :=
  h.frm (S := fun b => W.heap.size ≤ b) (Frm.of_below b) (fun b hb => .inr hb)
/-- A first place is written down. -/
theorem WkIn.place (h : WkIn W xb fb base pv hv gx gy gv f rg gn vC vM vW BC BM BW cl ml pl wl) (i : Nat) (x : Int) : WkIn (W.setCell ⟨fb, i, none⟩ (.int .i64 x)) xb fb base pv hv gx gy gv f rg gn vC vM vW BC BM BW cl ml (pl.set i x) wl := by
  have n : ∀ b, b ≠ fb → (W.setCell ⟨fb, i, none⟩ (.int .i64 x)).heap[b]? = W.heap[b]? := fun b hb => Below.heap_setCell _ _ _ b hb
  have l : (W.setCell ⟨fb, i, none⟩ (.int .i64 x)).heap.size = W.heap.size := by simp
  exact ⟨h.bx.frm (n xb h.ne), h.oi.set _ _ (fun hb => (h.nC _ hb).2.1 rfl), h.om.set _ _ (fun hb => (h.nM _ hb).2.1 rfl), h.ow.set _ _ (fun hb => (h.nW _ hb).2.1 rfl), h.pls.put i x, h.ne, h.bl,
    fun b hb => by rw [l]; exact h.nC b hb, fun b hb => by rw [l]; exact h.nM b hb, fun b hb => by rw [l]; exact h.nW b hb, h.dCM, h.dCW, h.dMW⟩
/-- One of the code's own cells has turned. -/
theorem WkIn.turn (h : WkIn W xb fb base pv hv gx gy gv f rg gn vC vM vW BC BM BW cl ml pl wl) {g o : Nat} {u : Value} {cl' : List IrT} (ho : OSl layIr 44 88 (W.setCell ⟨g, o, none⟩ u) BC vC cl') (hg : BC g) : WkIn (W.setCell ⟨g, o, none⟩ u) xb fb base pv hv gx gy gv f rg gn vC vM vW BC BM BW cl' ml pl wl := by
  have n : ∀ b, b ≠ g → (W.setCell ⟨g, o, none⟩ u).heap[b]? = W.heap[b]? := fun b hb => Below.heap_setCell _ _ _ b hb
  have l : (W.setCell ⟨g, o, none⟩ u).heap.size = W.heap.size := by simp
  have hng := h.nC g hg
  exact ⟨h.bx.frm (n xb (Ne.symm hng.1)), ho, h.om.set _ _ (fun hb => h.dCM g hg hb), h.ow.set _ _ (fun hb => h.dCW g hg hb), h.pls.frm (n fb (Ne.symm hng.2.1)), h.ne, h.bl,
    fun b hb => by rw [l]; exact h.nC b hb, fun b hb => by rw [l]; exact h.nM b hb, fun b hb => by rw [l]; exact h.nW b hb, h.dCM, h.dCW, h.dMW⟩
/-- Apart from all that the walk owns. -/
def WkApart (xb fb base : Nat) (BC BM BW : Nat → Prop) (b : Nat) : Prop := b ≠ xb ∧ b ≠ fb ∧ base ≤ b ∧ ¬ BC b ∧ ¬ BM b ∧ ¬ BW b
theorem WkIn.far (h : WkIn W xb fb base pv hv gx gy gv f rg gn vC vM vW BC BM BW cl ml pl wl) {b : Nat} (hb : W.heap.size ≤ b) : WkApart xb fb base BC BM BW b := by
  have h1 := h.xlt
  have h2 := h.flt
  have h3 := h.bl
  exact ⟨by omega, by omega, by omega, fun k => by have := (h.nC b k).2.2.2; omega, fun k => by have := (h.nM b k).2.2.2; omega, fun k => by have := (h.nW b k).2.2.2; omega⟩
/-- What the walk owns. -/
def WkZ (xb fb : Nat) (BC BM BW : Nat → Prop) (b : Nat) : Prop := b = xb ∨ b = fb ∨ BC b ∨ BM b ∨ BW b
theorem frm_weak {S S' : Nat → Prop} {a b : World} (h : Frm S a b) (hs : ∀ i, i < a.heap.size → S i → S' i) : Frm S' a b := ⟨h.os, h.tape, h.output, h.size, fun k hk hn => h.block k hk (fun h' => hn (hs k hk h'))⟩
theorem WkIn.below (h : WkIn W xb fb base pv hv gx gy gv f rg gn vC vM vW BC BM BW cl ml pl wl) (fr : Frm (WkZ xb fb BC BM BW) W V) : Below base W V := by
  have h1 := h.xlt
  have h3 := h.bl
  refine fr.below (by omega) (fun b hb hs => ?_)
  rcases hs with hs | hs | hs | hs | hs
  · omega
  · omega
  · have := (h.nC b hs).2.2.1; omega
  · have := (h.nM b hs).2.2.1; omega
  · have := (h.nW b hs).2.2.1; omega
/-- As app_snoc, where the new element's blocks are whichever, but apart. -/
theorem app_snocD {α : Type} {L : Lay α} {T bytes : Nat} {S : Nat → Prop} {V w5 w6 : World} {g' cap' q : Nat} {c : Value} {l : List α} {t : List (List Value)} {F : Nat → Nat → Prop} {Bx : Nat → Prop} {cs : List Value} {y : α} (sn : SnocIn L T V S c l t F) (hq : l.length = q) (hr : (q + 1) * bytes ≤ 140737488351232)
    (ho : w6.ownsRow 0 T L.size (.slice (some ⟨g', 0, none⟩) (q + 1) cap') (q + 1) (t.flatten ++ cs)) (hg : w5.grownBy w6 c.ownBlock) (hat : c.ownBlock = some g' ∨ g' = w5.heap.size) (bl : Below V.heap.size V w5) (hx : L.owns w5 Bx cs y) (hd : ∀ b, S b → Bx b → False) :
    OSl L T bytes w6 (fun b => S b ∨ Bx b ∨ V.heap.size ≤ b) (.slice (some ⟨g', 0, none⟩) (q + 1) cap') (l ++ [y]) ∧ Frm (fun b => S b ∨ V.heap.size ≤ b) V w6 := by
  subst hq
  have hsn := OSl.snoc (L := L) (bytes := bytes) (B := fun b => S b ∧ b < V.heap.size) rfl sn.tl (owns_kept sn.row bl) sn.own sn.inn sn.apart (fun i x hx => L.frmO (sn.each i x hx) (fun b hb hlt => bl.block b hlt)) hx (fun b hb hx => hd b hb.1 hx) hr ho hg hat
  refine ⟨hsn.sub (fun b hb _ => ?_), (Frm.of_below bl).trans (Frm.of_grown hg (fun k hk => .inl (sn.own k hk).1.1)) (fun _ _ h => h)⟩
  rcases hb with hb | hb | hb
  · exact .inl hb.1
  · exact .inr (.inl hb)
  · exact .inr (.inr (by have := bl.size; omega))
/-- An instruction appended: behind the store of the slice; and what holds ahead of it. -/
theorem WkIn.code (h : WkIn V xb fb base pv hv gx gy gv f rg gn vC vM vW BC BM BW cl ml pl wl) {g' cap' q : Nat} {t : List (List Value)} {F : Nat → Nat → Prop} {Bx : Nat → Prop} {cs : List Value} {y : IrT} (sn : SnocIn layIr 44 V BC vC cl t F) (hq : cl.length = q) (hr : q ≤ 100000)
    (ho : w6.ownsRow 0 44 9 (.slice (some ⟨g', 0, none⟩) (q + 1) cap') (q + 1) (t.flatten ++ cs)) (hg : w5.grownBy w6 vC.ownBlock) (hat : vC.ownBlock = some g' ∨ g' = w5.heap.size) (bl : Below V.heap.size V w5) (hx : layIr.owns w5 Bx cs y) (hbx : ∀ b, Bx b → WkApart xb fb base BC BM BW b) :
    (∃ BC' : Nat → Prop, WkIn (w6.setCell ⟨xb, 7, none⟩ (.slice (some ⟨g', 0, none⟩) (q + 1) cap')) xb fb base pv hv gx gy gv f rg gn (.slice (some ⟨g', 0, none⟩) (q + 1) cap') vM vW BC' BM BW (cl ++ [y]) ml pl wl ∧ ∀ b, BC' b → BC b ∨ Bx b ∨ V.heap.size ≤ b) ∧ BoxAt w6 xb [pv, hv, .int .i64 gx, .int .i64 gy, gv, .int .i64 f, .int .i64 rg, vC, vM, .slice (some ⟨fb, 0, none⟩) gn gn, vW] ∧ Frm (WkZ xb fb BC BM BW) V w6 := by
  have hz := h.xlt
  obtain ⟨o1, fr⟩ := app_snocD (bytes := 88) sn hq (by omega) ho hg hat bl hx (fun b hb hx' => (hbx b hx').2.2.2.1 hb)
  have n : ∀ b, b < V.heap.size → ¬ BC b → w6.heap[b]? = V.heap[b]? := fun b hb hn => fr.block b hb (fun hs => by rcases hs with hs | hs; exact hn hs; omega)
  have e1 := n xb hz (fun hb => (h.nC _ hb).1 rfl)
  have e2 := n fb h.flt (fun hb => (h.nC _ hb).2.1 rfl)
  have hom := h.om.frm (fun b hb hl => n b hl (fun hc => h.dCM b hc hb))
  have how := h.ow.frm (fun b hb hl => n b hl (fun hc => h.dCW b hc hb))
  have m : ∀ b, b ≠ xb → (w6.setCell ⟨xb, 7, none⟩ (.slice (some ⟨g', 0, none⟩) (q + 1) cap')).heap[b]? = w6.heap[b]? := fun b hb => Below.heap_setCell _ _ _ b hb
  have l : (w6.setCell ⟨xb, 7, none⟩ (.slice (some ⟨g', 0, none⟩) (q + 1) cap')).heap.size = w6.heap.size := by simp
  have hbx' : BoxAt w6 xb _ := h.bx.frm e1
  have hsz := fr.size
  have hbl := h.bl
  have nx : ∀ b, (BC b ∨ Bx b ∨ V.heap.size ≤ b) → b ≠ xb ∧ b ≠ fb ∧ base ≤ b := fun b hb => by
    rcases hb with hb | hb | hb
    · exact ⟨(h.nC b hb).1, (h.nC b hb).2.1, (h.nC b hb).2.2.1⟩
    · exact ⟨(hbx b hb).1, (hbx b hb).2.1, (hbx b hb).2.2.1⟩
    · have := h.flt; exact ⟨by omega, by omega, by omega⟩
  refine ⟨⟨fun b => (BC b ∨ Bx b ∨ V.heap.size ≤ b) ∧ b < w6.heap.size, ⟨hbx'.set 7 _, o1.clip.set _ _ (fun hb => (nx _ hb.1).1 rfl), hom.set _ _ (fun hb => (h.nM _ hb).1 rfl), how.set _ _ (fun hb => (h.nW _ hb).1 rfl), (h.pls.frm e2).frm (m fb (Ne.symm h.ne)), h.ne, h.bl,
    fun b hb => by rw [l]; exact ⟨(nx b hb.1).1, (nx b hb.1).2.1, (nx b hb.1).2.2, hb.2⟩, fun b hb => by rw [l]; have := h.nM b hb; exact ⟨this.1, this.2.1, this.2.2.1, by omega⟩, fun b hb => by rw [l]; have := h.nW b hb; exact ⟨this.1, this.2.1, this.2.2.1, by omega⟩, ?_, ?_, h.dMW⟩, fun b hb => hb.1⟩, hbx', frm_weak fr (fun b hb hs => by rcases hs with hs | hs; exact .inr (.inr (.inl hs)); omega)⟩
  · intro b hb hb'
    rcases hb.1 with h1 | h1 | h1
    · exact h.dCM b h1 hb'
    · exact (hbx b h1).2.2.2.2.1 hb'
    · have := (h.nM b hb').2.2.2; omega
  · intro b hb hb'
    rcases hb.1 with h1 | h1 | h1
    · exact h.dCW b h1 hb'
    · exact (hbx b h1).2.2.2.2.2 hb'
    · have := (h.nW b hb').2.2.2; omega
/-- A meta appended. -/
theorem WkIn.metas (h : WkIn V xb fb base pv hv gx gy gv f rg gn vC vM vW BC BM BW cl ml pl wl) {g' cap' q : Nat} {t : List (List Value)} {F : Nat → Nat → Prop} {Bx : Nat → Prop} {cs : List Value} {y : List PartT} (sn : SnocIn layMeta 57 V BM vM ml t F) (hq : ml.length = q) (hr : q ≤ 100000)
    (ho : w6.ownsRow 0 57 1 (.slice (some ⟨g', 0, none⟩) (q + 1) cap') (q + 1) (t.flatten ++ cs)) (hg : w5.grownBy w6 vM.ownBlock) (hat : vM.ownBlock = some g' ∨ g' = w5.heap.size) (bl : Below V.heap.size V w5) (hx : layMeta.owns w5 Bx cs y) (hbx : ∀ b, Bx b → WkApart xb fb base BC BM BW b) :
    (∃ BM' : Nat → Prop, WkIn (w6.setCell ⟨xb, 8, none⟩ (.slice (some ⟨g', 0, none⟩) (q + 1) cap')) xb fb base pv hv gx gy gv f rg gn vC (.slice (some ⟨g', 0, none⟩) (q + 1) cap') vW BC BM' BW cl (ml ++ [y]) pl wl ∧ ∀ b, BM' b → BM b ∨ Bx b ∨ V.heap.size ≤ b) ∧ BoxAt w6 xb [pv, hv, .int .i64 gx, .int .i64 gy, gv, .int .i64 f, .int .i64 rg, vC, vM, .slice (some ⟨fb, 0, none⟩) gn gn, vW] ∧ Frm (WkZ xb fb BC BM BW) V w6 := by
  have hz := h.xlt
  obtain ⟨o1, fr⟩ := app_snocD (bytes := 24) sn hq (by omega) ho hg hat bl hx (fun b hb hx' => (hbx b hx').2.2.2.2.1 hb)
  have n : ∀ b, b < V.heap.size → ¬ BM b → w6.heap[b]? = V.heap[b]? := fun b hb hn => fr.block b hb (fun hs => by rcases hs with hs | hs; exact hn hs; omega)
  have e1 := n xb hz (fun hb => (h.nM _ hb).1 rfl)
  have e2 := n fb h.flt (fun hb => (h.nM _ hb).2.1 rfl)
  have hoi := h.oi.frm (fun b hb hl => n b hl (fun hc => h.dCM b hb hc))
  have how := h.ow.frm (fun b hb hl => n b hl (fun hc => h.dMW b hc hb))
  have m : ∀ b, b ≠ xb → (w6.setCell ⟨xb, 8, none⟩ (.slice (some ⟨g', 0, none⟩) (q + 1) cap')).heap[b]? = w6.heap[b]? := fun b hb => Below.heap_setCell _ _ _ b hb
  have l : (w6.setCell ⟨xb, 8, none⟩ (.slice (some ⟨g', 0, none⟩) (q + 1) cap')).heap.size = w6.heap.size := by simp
  have hbx' : BoxAt w6 xb _ := h.bx.frm e1
  have hsz := fr.size
  have hbl := h.bl
  have nx : ∀ b, (BM b ∨ Bx b ∨ V.heap.size ≤ b) → b ≠ xb ∧ b ≠ fb ∧ base ≤ b := fun b hb => by
    rcases hb with hb | hb | hb
    · exact ⟨(h.nM b hb).1, (h.nM b hb).2.1, (h.nM b hb).2.2.1⟩
    · exact ⟨(hbx b hb).1, (hbx b hb).2.1, (hbx b hb).2.2.1⟩
    · have := h.flt; exact ⟨by omega, by omega, by omega⟩
  refine ⟨⟨fun b => (BM b ∨ Bx b ∨ V.heap.size ≤ b) ∧ b < w6.heap.size, ⟨hbx'.set 8 _, hoi.set _ _ (fun hb => (h.nC _ hb).1 rfl), o1.clip.set _ _ (fun hb => (nx _ hb.1).1 rfl), how.set _ _ (fun hb => (h.nW _ hb).1 rfl), (h.pls.frm e2).frm (m fb (Ne.symm h.ne)), h.ne, h.bl,
    fun b hb => by rw [l]; have := h.nC b hb; exact ⟨this.1, this.2.1, this.2.2.1, by omega⟩, fun b hb => by rw [l]; exact ⟨(nx b hb.1).1, (nx b hb.1).2.1, (nx b hb.1).2.2, hb.2⟩, fun b hb => by rw [l]; have := h.nW b hb; exact ⟨this.1, this.2.1, this.2.2.1, by omega⟩, ?_, h.dCW, ?_⟩, fun b hb => hb.1⟩, hbx', frm_weak fr (fun b hb hs => by rcases hs with hs | hs; exact .inr (.inr (.inr (.inl hs))); omega)⟩
  · intro b hb hb'
    rcases hb'.1 with h1 | h1 | h1
    · exact h.dCM b hb h1
    · exact (hbx b h1).2.2.2.1 hb
    · have := (h.nC b hb).2.2.2; omega
  · intro b hb hb'
    rcases hb.1 with h1 | h1 | h1
    · exact h.dMW b h1 hb'
    · exact (hbx b h1).2.2.2.2.2 hb'
    · have := (h.nW b hb').2.2.2; omega
/-- One element's own cells have turned, the others are as they are. -/
theorem osl_putAll {α : Type} {L : Lay α} {T bytes g cap : Nat} {w' : World} {B Bx : Nat → Prop} {l : List α} {t : List (List Value)} {F : Nat → Nat → Prop} {i : Nat} {x' : α} {cs : List Value} (hl : l.length * bytes ≤ 140737488351232) (h1 : t.length = l.length)
    (h4 : B g ∧ ∀ i, ¬ F i g) (h5 : ∀ i b, F i b → B b) (h6 : ∀ i j b, i ≠ j → F i b → F j b → False) (h3 : ∀ j x, j ≠ i → l[j]? = some x → L.owns w' (F j) (t.getD j []) x)
    (h2 : w'.ownsRow 0 T L.size (.slice (some ⟨g, 0, none⟩) l.length cap) l.length (t.set i cs).flatten) (hx : L.owns w' Bx cs x') (hi : i < l.length)
    (hBx : ∀ b, Bx b → B b ∧ b ≠ g) (hd : ∀ j b, j ≠ i → F j b → Bx b → False) : OSl L T bytes w' B (.slice (some ⟨g, 0, none⟩) l.length cap) (l.set i x') := by
  refine ⟨by simpa using hl, t.set i cs, fun j b => if j = i then Bx b else F j b, by simpa using h1, by rw [List.length_set]; exact h2, fun g' hg => ?_, fun j b hb => ?_, fun j k b hjk hb hb' => ?_, fun j y hy => ?_⟩
  · have e : g = g' := Option.some.inj hg
    subst e
    refine ⟨h4.1, fun j hj => ?_⟩
    by_cases e : j = i
    · simp only [if_pos e] at hj; exact (hBx g hj).2 rfl
    · simp only [if_neg e] at hj; exact h4.2 j hj
  · by_cases e : j = i
    · simp only [if_pos e] at hb; exact (hBx b hb).1
    · simp only [if_neg e] at hb; exact h5 j b hb
  · by_cases e : j = i <;> by_cases e' : k = i
    · omega
    · simp only [if_pos e] at hb; simp only [if_neg e'] at hb'; exact hd k b e' hb' hb
    · simp only [if_neg e] at hb; simp only [if_pos e'] at hb'; exact hd j b e hb hb'
    · simp only [if_neg e] at hb; simp only [if_neg e'] at hb'; exact h6 j k b hjk hb hb'
  · rw [List.getElem?_set] at hy
    by_cases e : i = j
    · subst e
      rw [if_pos rfl, if_pos hi] at hy
      cases hy
      simp only [if_true]
      have : (t.set i cs).getD i [] = cs := by rw [List.getD_eq_getElem?_getD, List.getElem?_set_self (by omega)]; rfl
      rw [this]; exact hx
    · rw [if_neg e] at hy
      have e' : ¬ j = i := fun h => e h.symm
      simp only [if_neg e']
      have : (t.set i cs).getD j [] = t.getD j [] := by rw [List.getD_eq_getElem?_getD, List.getElem?_set_ne e, ← List.getD_eq_getElem?_getD]
      rw [this]
      exact h3 j y e' hy
/-- One of those that wait, ahead of the append; and behind the store. -/
theorem WkIn.waits (h : WkIn V xb fb base pv hv gx gy gv f rg gn vC vM vW BC BM BW cl ml pl wl) {a : Nat} {l : List Int} (hl : wl[a]? = some l) :
    ∃ g cap v Bk t F, vW = .slice (some ⟨g, 0, none⟩) wl.length cap ∧ wl.length ≤ cap ∧ V.cell? ⟨g, a, none⟩ = some v ∧ (∀ j, V.frozen? ⟨g, j, none⟩ = false) ∧ g < V.heap.size ∧ base ≤ g ∧ g ≠ xb ∧ OSl layI 3 8 V Bk v l ∧ SnocIn layI 3 V Bk v l t F ∧ (∀ b, Bk b → b ≠ g ∧ b ≠ xb ∧ base ≤ b ∧ BW b) ∧ BW g ∧
      ∀ (w5 w6 : World) (g' cap' q : Nat) (x : Int), l.length = q → q ≤ 100000 → w6.ownsRow 0 3 1 (.slice (some ⟨g', 0, none⟩) (q + 1) cap') (q + 1) (t.flatten ++ [.int .i64 x]) → w5.grownBy w6 v.ownBlock → (v.ownBlock = some g' ∨ g' = w5.heap.size) → Below V.heap.size V w5 →
        (∃ BW' : Nat → Prop, WkIn (w6.setCell ⟨g, a, none⟩ (.slice (some ⟨g', 0, none⟩) (q + 1) cap')) xb fb base pv hv gx gy gv f rg gn vC vM vW BC BM BW' cl ml pl (wl.set a (l ++ [x])) ∧ ∀ b, BW' b → BW b ∨ V.heap.size ≤ b) ∧ BoxAt w6 xb [pv, hv, .int .i64 gx, .int .i64 gy, gv, .int .i64 f, .int .i64 rg, vC, vM, .slice (some ⟨fb, 0, none⟩) gn gn, vW] ∧ w6.cell? ⟨g, a, none⟩ = some v ∧ w6.frozen? ⟨g, a, none⟩ = false ∧ Frm (WkZ xb fb BC BM BW) V w6 := by
  obtain ⟨hbl, t0, F0, k1, k2, k4, k5, k6, k3⟩ := h.ow
  have ha := (List.getElem?_eq_some_iff.1 hl).1
  have hz := h.xlt
  have hfl := h.flt
  rcases k2.2 with ⟨rfl, hn⟩ | ⟨g, cap, cur, rfl, hb, hg, hc, hm, hcs, htk⟩
  · omega
  · obtain ⟨v, ev, ov⟩ := k3 a l hl
    have ov' := ov.clip
    obtain ⟨t, F, sn⟩ := ov'.snocIn
    have hgB := (k4 g rfl).1
    have hgn := h.nW g hgB
    have hcell : V.cell? ⟨g, a, none⟩ = some v := by
      have := OSl.cells (L := layS 3 8 layI) k1 k2 k3 a l hl 0 v (by rw [ev]; rfl)
      have e : 0 + a * (layS 3 8 layI).size + 0 = a := by show 0 + a * 1 + 0 = a; omega
      rwa [e] at this
    have hfz : ∀ j, V.frozen? ⟨g, j, none⟩ = false := fun j => k2.frozenAt j
    have hBkn : ∀ b, F0 a b ∧ b < V.heap.size → b ≠ g ∧ b ≠ xb ∧ base ≤ b ∧ BW b := fun b hb' => ⟨fun e => (k4 g rfl).2 a (e ▸ hb'.1), (h.nW b (k5 a b hb'.1)).1, (h.nW b (k5 a b hb'.1)).2.2.1, k5 a b hb'.1⟩
    refine ⟨g, cap, v, _, t, F, rfl, hc, hcell, hfz, hgn.2.2.2, hgn.2.2.1, hgn.1, ov', sn, hBkn, hgB, ?_⟩
    intro w5 w6 g' cap' q x hq hr ho hgr hat bl
    obtain ⟨o1, fr⟩ := app_snoc (bytes := 8) (L := layI) (y := x) (Bx := fun _ => False) (S := fun b => (F0 a b ∧ b < V.heap.size) ∨ V.heap.size ≤ b) (sn.weak (fun _ hb => .inl hb)) hq (by omega) ho hgr hat bl rfl (fun b hb => hb.elim) (fun b hb => .inr hb)
    have n : ∀ b, b < V.heap.size → ¬ F0 a b → w6.heap[b]? = V.heap[b]? := fun b hb hn => fr.block b hb (fun hs => by rcases hs with hs | hs; exact hn hs.1; omega)
    have nF : ∀ b, F0 a b → BW b := fun b hb => k5 a b hb
    have e1 := n xb hz (fun hb => (h.nW _ (nF _ hb)).1 rfl)
    have e2 := n fb hfl (fun hb => (h.nW _ (nF _ hb)).2.1 rfl)
    have e3 := n g hgn.2.2.2 (fun hb => (k4 g rfl).2 a hb)
    have hoi := h.oi.frm (fun b hb hl => n b hl (fun hc => h.dCW b hb (nF b hc)))
    have hom := h.om.frm (fun b hb hl => n b hl (fun hc => h.dMW b hb (nF b hc)))
    have hbx' : BoxAt w6 xb _ := h.bx.frm e1
    have m : ∀ b, b ≠ g → (w6.setCell ⟨g, a, none⟩ (.slice (some ⟨g', 0, none⟩) (q + 1) cap')).heap[b]? = w6.heap[b]? := fun b hb => Below.heap_setCell _ _ _ b hb
    have l6 : (w6.setCell ⟨g, a, none⟩ (.slice (some ⟨g', 0, none⟩) (q + 1) cap')).heap.size = w6.heap.size := by simp
    have hsz := fr.size
    have hbas := h.bl
    -- the row of rows
    have k26 : w6.ownsRow 0 42 1 (.slice (some ⟨g, 0, none⟩) wl.length cap) wl.length t0.flatten := row_frm k2 (fun b hb => by cases hb; exact e3)
    have hs := (k26.stored a (.slice (some ⟨g', 0, none⟩) (q + 1) cap')).1
    have hset : t0.flatten.set a (.slice (some ⟨g', 0, none⟩) (q + 1) cap') = (t0.set a [.slice (some ⟨g', 0, none⟩) (q + 1) cap']).flatten := by
      have hrl : ∀ c ∈ t0, c.length = 1 := rows_len (L := layS 3 8 layI) k1 k3
      have := flat_set hrl a 0 (.slice (some ⟨g', 0, none⟩) (q + 1) cap') (by omega) (by omega)
      rw [Nat.mul_one, Nat.add_zero] at this
      rw [this, ev]
      rfl
    rw [hset] at hs
    have hnew : ∀ b, ((F0 a b ∧ b < V.heap.size) ∨ V.heap.size ≤ b) ∧ b < w6.heap.size → b ≠ g := fun b hb' => by
      rcases hb'.1 with h1 | h1
      · exact (hBkn b h1).1
      · have := hgn.2.2.2; omega
    have ow6 : OSl (layS 3 8 layI) 42 24 (w6.setCell ⟨g, a, none⟩ (.slice (some ⟨g', 0, none⟩) (q + 1) cap')) (fun b => BW b ∨ (V.heap.size ≤ b ∧ b < w6.heap.size)) (.slice (some ⟨g, 0, none⟩) wl.length cap) (wl.set a (l ++ [x])) := by
      refine osl_putAll (L := layS 3 8 layI) (Bx := fun b => ((F0 a b ∧ b < V.heap.size) ∨ V.heap.size ≤ b) ∧ b < w6.heap.size) (B := fun b => BW b ∨ (V.heap.size ≤ b ∧ b < w6.heap.size)) (F := fun i b => F0 i b ∧ b < V.heap.size) (t := t0) (cs := [.slice (some ⟨g', 0, none⟩) (q + 1) cap']) hbl k1 ⟨.inl hgB, fun i hi => (k4 g rfl).2 i hi.1⟩ (fun i b hb => .inl (k5 i b hb.1)) (fun i j b hij hi hj => k6 i j b hij hi.1 hj.1) ?_ hs ?_ ha ?_ ?_
      · intro j y hj hy
        refine (layS 3 8 layI).frmO ((layS 3 8 layI).frmO ((layS 3 8 layI).subO (k3 j y hy) (fun b hb hl => ⟨hb, hl⟩)) (fun b hb hl => n b hl (fun hF => k6 j a b hj hb.1 hF))) (fun b hb _ => m b (fun e => (k4 g rfl).2 j (e ▸ hb.1)))
      · exact ⟨_, rfl, o1.clip.set _ _ (fun hb => hnew _ hb rfl)⟩
      · intro b hb
        refine ⟨?_, hnew b hb⟩
        rcases hb.1 with h1 | h1
        · exact .inl (k5 a b h1.1)
        · exact .inr ⟨h1, hb.2⟩
      · intro j b hj hb hb'
        rcases hb'.1 with h1 | h1
        · exact k6 j a b hj hb.1 h1.1
        · have := hb.2; omega
    have nW' : ∀ b, (BW b ∨ (V.heap.size ≤ b ∧ b < w6.heap.size)) → b ≠ xb ∧ b ≠ fb ∧ base ≤ b ∧ b < w6.heap.size := fun b hb => by
      rcases hb with hb | hb
      · have := h.nW b hb; exact ⟨this.1, this.2.1, this.2.2.1, by omega⟩
      · exact ⟨by omega, by omega, by omega, hb.2⟩
    refine ⟨⟨_, ⟨hbx'.frm (m xb (Ne.symm hgn.1)), hoi.set _ _ (fun hb => h.dCW _ hb hgB), hom.set _ _ (fun hb => h.dMW _ hb hgB), ow6, (h.pls.frm e2).frm (m fb (Ne.symm hgn.2.1)), h.ne, h.bl,
      fun b hb => by rw [l6]; have := h.nC b hb; exact ⟨this.1, this.2.1, this.2.2.1, by omega⟩, fun b hb => by rw [l6]; have := h.nM b hb; exact ⟨this.1, this.2.1, this.2.2.1, by omega⟩, fun b hb => by rw [l6]; exact nW' b hb, h.dCM, ?_, ?_⟩, fun b hb => by rcases hb with hb | hb; exact .inl hb; exact .inr hb.1⟩, hbx', (cellFrm e3).trans hcell, (freeFrm e3).trans (hfz a), frm_weak fr (fun b hb hs => by rcases hs with hs | hs; exact .inr (.inr (.inr (.inr (nF b hs.1)))); omega)⟩
    · intro b hb hb'
      rcases hb' with h1 | h1
      · exact h.dCW b hb h1
      · have := (h.nC b hb).2.2.2; omega
    · intro b hb hb'
      rcases hb' with h1 | h1
      · exact h.dMW b hb h1
      · have := (h.nM b hb).2.2.2; omega

end Go.Proofs.YtaimpljkbpnigaaGreatDoor

namespace Go.Proofs.YtaimpljkbpnigaaGreatDoor
open Go.RowKit
set_option linter.unusedVariables false

theorem setK_ir (x : IrT) (p : Int) : ∃ kd r ra rb k args cost mt ip, x = (kd, r, ra, rb, k, args, cost, mt, ip) ∧ setK x p = (kd, r, ra, rb, p, args, cost, mt, ip) := by
  obtain ⟨kd, r, ra, rb, k, args, cost, mt, ip⟩ := x
  exact ⟨_, _, _, _, _, _, _, _, _, rfl, rfl⟩

set_option maxRecDepth 100000 in
set_option maxHeartbeats 8000000 in
theorem arrive_any {xb fb base : Nat} {pv hv gv vC vM vW : Value} {gx gy f rg : Int} {gn : Nat} {BC BM BW : Nat → Prop} {cl : List IrT} {ml : List (List PartT)} {pl : List Int} {wl : List (List Int)} (w : World) (h : WkIn w xb fb base pv hv gx gy gv f rg gn vC vM vW BC BM BW cl ml pl wl)
    (q : Nat) (hq : q < gn) (hgn : gn ≤ 64) (l : List Int) (hl : wl[q]? = some l) (hll : l.length ≤ 1000) (hcl : cl.length ≤ 1000) (hwl : wl.length ≤ 1000) (hj : ∀ j ∈ l, 0 ≤ j ∧ j < (cl.length : Int)) :
    Calls Tryz.prog 40 #[.pointer (some ⟨xb, 0, none⟩), .int .i64 (q : Int)] w fun e w' => e = .returned (.tuple #[]) ∧ WkIn w' xb fb base pv hv gx gy gv f rg gn vC vM vW BC BM BW (arrF cl l (cl.length : Int)) ml (pl.set q (cl.length : Int)) wl ∧ Frm (WkZ xb fb BC BM BW) w w' := by
  obtain ⟨va, vn, vc, rfl, rC⟩ := h.oi.reads
  have hvn : cl.length = vn := rC.len.symm
  rw [hvn] at hj hcl
  rw [hvn]
  have HQ := hid hvn
  have HJ := hid hj
  have H := hid h
  have c7 := h.bx.c 7 _ rfl
  have c9 := h.bx.c 9 _ rfl
  have s1 := h.pls.at q hq
  have s2 := h.pls.free q
  have hvc := rC.cap
  have hbl := h.bl.2
  generalize pl.getD q 0 = y0 at s1
  have hxlt := h.xlt
  clear h rC hj hvn
  go_enter Tryz.func40, Tryz.ntmps40
  go_wp2_with fail
  go_region
  all_goals
    go_upto_region 1 with fail
    refine wp_name ?_
    intro V hV
    have L1 : Hid (WkIn V xb fb base pv hv gx gy gv f rg gn (.slice va vn vc) vM vW BC BM BW cl ml (pl.set q (vn : Int)) wl) := hid (by rw [hV]; first | exact (H.out.place q _).kept (Below.drew (Below.refl _ _)) | exact H.out.place q _)
    have B1 : Hid (Frm (WkZ xb fb BC BM BW) w V) := hid (by rw [hV]; first | exact (Frm.set (S := WkZ xb fb BC BM BW) (p := ⟨fb, q, none⟩) _ (.inr (.inl rfl))).trans (Frm.of_below (S := fun _ => False) (Below.drew (Below.refl _ _))) (fun _ _ h => h.elim) | exact Frm.set (S := WkZ xb fb BC BM BW) (p := ⟨fb, q, none⟩) _ (.inr (.inl rfl)))
    clear hV c7 c9 s1 s2
    obtain ⟨g, cap, v, Bk, t, F, hvw, hcap, hcell, -, hgl, -, -, ov, -, hBk, hBg, -⟩ := L1.out.waits hl
    obtain ⟨ra, rn, rc, rfl, rI⟩ := ov.reads
    have hrn : rn = l.length := rI.len
    have hrc := rI.cap
    have OV := hid ov
    have c10 := L1.out.bx.c 10 _ rfl
    rw [hvw] at c10
    have hqw : q < wl.length := (List.getElem?_eq_some_iff.1 hl).1
    clear ov rI
    go_wp2_with fail
    clear hcell c10
    have KEEP : Hid (∀ b, Bk b → BC b → False) := hid (fun b h1 h2 => L1.out.dCW b h2 (hBk b h1).2.2.2)
    clear hBk hBg
    have W0 : Hid (Frm (fun b => BC b) V V) := hid (Frm.refl _ _)
    have HST : Hid (WkIn V xb fb base pv hv gx gy gv f rg gn (.slice va vn vc) vM vW BC BM BW (arrF cl (l.take 0) (vn : Int)) ml (pl.set q (vn : Int)) wl) := L1
    go_loopw [26] (fun i wr => ∃ k : Nat, k ≤ l.length ∧ i = .int .i64 k ∧ WkIn wr xb fb base pv hv gx gy gv f rg gn (.slice va vn vc) vM vW BC BM BW (arrF cl (l.take k) (vn : Int)) ml (pl.set q (vn : Int)) wl ∧ Frm (fun b => BC b) V wr) (fun i _ => l.length - (intOf i).toNat)
    case atStart => exact ⟨0, Nat.zero_le _, rfl, HST.out, W0.out⟩
    case round =>
      clear W0 HST
      obtain ⟨k, hk, rfl, lz, fr⟩ := hrel
      obtain ⟨Z, hZ⟩ : ∃ Z : World, Z = wr := ⟨_, rfl⟩
      subst hZ
      have LZ := hid lz
      have FR := hid fr
      clear lz fr
      by_cases hlt : k < l.length
      · have ovz := OV.out.frm (fun b hb hl => FR.out.block b hl (fun h2 => KEEP.out b hb h2))
        obtain ⟨ra', rn', rc', e9, rI⟩ := ovz.reads
        cases e9
        obtain ⟨br, or_, jz, rfl, hjz, hrd⟩ := rI.at k (by omega)
        have hjm := HJ.out jz (List.mem_of_getElem? hjz)
        obtain ⟨j, rfl⟩ : ∃ j : Nat, jz = j := ⟨jz.toNat, by omega⟩
        have hjv : j < vn := by omega
        have hrd' : Z.cell? ⟨br, or_ + k, none⟩ = some (.int .i64 (j : Int)) := by
          have h0 : Z.cell? ⟨br, or_ + k * 1, none⟩ = some (.int .i64 (j : Int)) := hrd
          rwa [Nat.mul_one] at h0
        have hlen : (arrF cl (l.take k) (vn : Int)).length = vn := by rw [arr_len]; exact HQ.out
        obtain ⟨x, hx⟩ : ∃ x, (arrF cl (l.take k) (vn : Int))[j]? = some x := ⟨_, List.getElem?_eq_getElem (by omega)⟩
        have ES : Hid (arrF cl (l.take (k + 1)) (vn : Int) = (arrF cl (l.take k) (vn : Int)).set j (setK x (vn : Int))) := hid (by
          rw [List.take_add_one, hjz, Option.toList_some, arr_snoc, Int.toNat_natCast, List.getD_eq_getElem?_getD, hx]
          rfl)
        obtain ⟨g9, cap9, cs, Bk9, e3', hcap9, hBg9, hgl9, hcell9, hfz9, hown9, hBk9, -, hput9⟩ := LZ.out.oi.elem j x hx
        rw [hlen] at e3' hcap9
        have ev : va = some ⟨g9, 0, none⟩ := by injection e3'
        subst ev
        obtain ⟨kd, r, ra, rb, kk, args, cost, mt, ip, rfl, hsk⟩ := setK_ir x (vn : Int)
        obtain ⟨-, ik4, iown⟩ := ir_k hown9 (vn : Int)
        have a4 : Z.cell? ⟨g9, j * 9 + 4, none⟩ = some (.int .i64 kk) := hcell9 4 _ ik4
        have a4f : Z.frozen? ⟨g9, j * 9 + 4, none⟩ = false := hfz9 _
        have LT : Hid (WkIn (Z.setCell ⟨g9, j * 9 + 4, none⟩ (.int .i64 (vn : Int))) xb fb base pv hv gx gy gv f rg gn (.slice (some ⟨g9, 0, none⟩) vn vc) vM vW BC BM BW (arrF cl (l.take (k + 1)) (vn : Int)) ml (pl.set q (vn : Int)) wl) := hid (by
          rw [ES.out, hsk]
          exact LZ.out.turn (hput9 4 (.int .i64 (vn : Int)) _ (by decide) iown) hBg9)
        have FT : Hid (Frm (fun b => BC b) V (Z.setCell ⟨g9, j * 9 + 4, none⟩ (.int .i64 (vn : Int)))) := hid (FR.out.trans (Frm.set (S := fun b => BC b) _ hBg9) (fun _ _ h => h))
        have c7 := LZ.out.bx.c 7 _ rfl
        have c9 := LZ.out.bx.c 9 _ rfl
        have s1 : Z.cell? ⟨fb, q, none⟩ = some (.int .i64 (vn : Int)) := by
          have h0 := LZ.out.pls.at q hq
          have hpl := LZ.out.pls.len
          rw [List.getD_eq_getElem?_getD, List.getElem?_set_self (by rw [List.length_set] at hpl; omega)] at h0
          exact h0
        clear e3' hcap9 hBg9 hgl9 hcell9 hfz9 hown9 hBk9 hput9 iown ik4 ovz rI hrd hsk hx hjz
        go_upto_region 4 with fail
        go_region
        all_goals
          go_wp2_with fail
          go_roundw
          case rel => exact ⟨k + 1, hlt, by go_num, by first | exact LT.out.kept (Below.drew (Below.refl _ _)) | exact LT.out, by first | exact FT.out | exact FT.out.trans (Frm.of_below (S := fun b => BC b) (Below.drew (Below.refl _ _))) (fun _ _ h => h)⟩
          case measure => simp [intOf]; omega
      · have hkl : k = l.length := by omega
        subst hkl
        have hdone : arrF cl (l.take l.length) (vn : Int) = arrF cl l (vn : Int) := by rw [List.take_length]
        have LD := LZ.out
        rw [hdone] at LD
        have LDH := hid LD
        clear LD
        go_wp2_with fail
        go_end0
        exact ⟨rfl, LDH.out, B1.out.trans FR.out (fun b hb hs => .inr (.inr (.inl hs)))⟩

end Go.Proofs.YtaimpljkbpnigaaGreatDoor

namespace Go.Proofs.YtaimpljkbpnigaaGreatDoor
open Go.RowKit
set_option linter.unusedVariables false

set_option maxRecDepth 100000 in
set_option maxHeartbeats 8000000 in
/-- Ahead: the place where the jump is put waits. -/
theorem leadOn_any {xb fb base : Nat} {pv hv gv vC vM vW : Value} {gx gy f rg : Int} {gn : Nat} {BC BM BW : Nat → Prop} {cl : List IrT} {ml : List (List PartT)} {pl : List Int} {wl : List (List Int)} (w : World) (h : WkIn w xb fb base pv hv gx gy gv f rg gn vC vM vW BC BM BW cl ml pl wl) (tw at_ : Nat) (hlt : at_ < tw) (hto : tw ≤ 1000) (l : List Int) (hl : wl[tw]? = some l) (hll : l.length ≤ 1000) (hcl : cl.length ≤ 1000) (hwl : wl.length ≤ 1000) :
    Calls Tryz.prog 43 #[.pointer (some ⟨xb, 0, none⟩), .int .i64 (tw : Int), .int .i64 (at_ : Int)] w fun e w' => e = .returned (.int .i64 0) ∧ (∃ BW', WkIn w' xb fb base pv hv gx gy gv f rg gn vC vM vW BC BM BW' cl ml pl (wl.set tw (l ++ [(cl.length : Int)])) ∧ ∀ b, BW' b → BW b ∨ w.heap.size ≤ b) ∧ Frm (WkZ xb fb BC BM BW) w w' := by
  obtain ⟨i0, hi, hz0, hz1, hz2⟩ := info_parts Tryz.infoIntC
  obtain ⟨va, vn, vc, rfl, rC⟩ := h.oi.reads
  have hvn : cl.length = vn := rC.len.symm
  rw [hvn] at hcl ⊢
  have hvc := rC.cap
  obtain ⟨g, wc, v, Bk, t, F, rfl, hwc, hcell, hfz, hgl, hbg, hgx, ov, sn, hBk, hBg, hput⟩ := h.waits hl
  obtain ⟨ra, rn, rc, rfl, rI⟩ := ov.reads
  have hrn : l.length = rn := rI.len.symm
  have hrc := rI.cap
  rw [hrn] at hll
  obtain ⟨wn, hwn⟩ : ∃ wn : Nat, wl.length = wn := ⟨_, rfl⟩
  have htw : tw < wl.length := (List.getElem?_eq_some_iff.1 hl).1
  rw [hwn] at hwc hwl htw ⊢
  have HRW : Hid (w.ownsRow 0 3 1 (.slice ra rn rc) rn t.flatten) := hid (by have := sn.row; rwa [hrn] at this)
  have HPUT := hid hput
  have HBG := hid hBg
  have HRN := hid hrn
  have H := hid h
  rw [hwn] at H
  rw [hwn] at HPUT
  have SA : Hid (∀ w', Below w.heap.size w w' → True ∧ (w'.cell? ⟨xb, 10, none⟩ = some (.slice (some ⟨g, 0, none⟩) wn wc) ∧ w'.cell? ⟨xb, 7, none⟩ = some (.slice va vn vc) ∧ w'.cell? ⟨g, tw, none⟩ = some (.slice ra rn rc))) := hid (fun w' b => ⟨trivial, kept_cell b (H.out.bx.c 10 _ rfl), kept_cell b (H.out.bx.c 7 _ rfl), kept_cell b hcell⟩)
  have KB : Below w.heap.size w w := Below.refl _ _
  have hxb : xb < w.heap.size := H.out.xlt
  have hd0 : ((at_ : Int) < (tw : Int)) := by omega
  clear h rC hput ov sn hBk hBg hfz rI hrn hl
  clear hwn
  go_enter Tryz.func43, Tryz.ntmps43
  go_upto_region 2 with fail
  refine wp_region_L 21 (fun _ => True) (fun w' => w'.cell? ⟨xb, 10, none⟩ = some (.slice (some ⟨g, 0, none⟩) wn wc) ∧ w'.cell? ⟨xb, 7, none⟩ = some (.slice va vn vc) ∧ w'.cell? ⟨g, tw, none⟩ = some (.slice ra rn rc)) (by kernel_rfl) ?_ (fun hH0 => ?_)
  · (try dsimp only); first | (refine SA.out _ ?_; (repeat (first | with_reducible exact KB | with_reducible refine qDrew ?_ | with_reducible refine qAlloc ?_)); done) | exact ⟨trivial, P.out.2.1.c 10 _ rfl, P.out.2.1.c 7 _ rfl, P.out.2.2.1⟩
  refine wpL_take (i := 0) (oi := ⟨_, _, _, _, _, _⟩) (v := ?_) rfl (by kernel_rfl) (by kernel_rfl) (by kernel_rfl) (by kernel_rfl) (by kernel_rfl) (fun _ _ _ h => h) (Or.inl ⟨by rfl, ?_⟩) (by exact hH0) ?_
  rotate_left
  · (intro x hx; (try dsimp only at hx); go_simp; try (with_reducible rfl))
  try simp only [Act.put, List.setIfInBounds_toArray, List.set_cons_zero, List.set_cons_succ]
  refine wpL_take (i := 1) (oi := ⟨_, _, _, _, _, _⟩) (v := ?_) rfl (by kernel_rfl) (by kernel_rfl) (by kernel_rfl) (by kernel_rfl) (by kernel_rfl) (fun _ _ _ h => h) (Or.inl ⟨by rfl, ?_⟩) (by exact hH0) ?_
  rotate_left
  · (intro x hx; (try dsimp only at hx); go_simp; try (with_reducible rfl))
  try simp only [Act.put, List.setIfInBounds_toArray, List.set_cons_zero, List.set_cons_succ]
  refine wpL_take (i := 2) (oi := ⟨_, _, _, _, _, _⟩) (v := ?_) rfl (by kernel_rfl) (by kernel_rfl) (by kernel_rfl) (by kernel_rfl) (by kernel_rfl) (fun _ _ _ h => h) (Or.inl ⟨by rfl, ?_⟩) (by exact hH0) ?_
  rotate_left
  · (intro x hx; (try dsimp only at hx); go_simp; try (with_reducible rfl))
  try simp only [Act.put, List.setIfInBounds_toArray, List.set_cons_zero, List.set_cons_succ]
  refine wpL_take (i := 3) (oi := ⟨_, _, _, _, _, _⟩) (v := ?_) rfl (by kernel_rfl) (by kernel_rfl) (by kernel_rfl) (by kernel_rfl) (by kernel_rfl) (fun _ _ _ h => h) (Or.inl ⟨by rfl, ?_⟩) (by exact hH0) ?_
  rotate_left
  · (intro x hx; (try dsimp only at hx); go_simp; try (with_reducible rfl))
  try simp only [Act.put, List.setIfInBounds_toArray, List.set_cons_zero, List.set_cons_succ]
  refine wpL_take (i := 4) (oi := ⟨_, _, _, _, _, _⟩) (v := ?_) rfl (by kernel_rfl) (by kernel_rfl) (by kernel_rfl) (by kernel_rfl) (by kernel_rfl) (fun _ _ _ h => h) (Or.inl ⟨by rfl, ?_⟩) (by exact hH0) ?_
  rotate_left
  · (intro x hx; (try dsimp only at hx); go_simp; try (with_reducible rfl))
  try simp only [Act.put, List.setIfInBounds_toArray, List.set_cons_zero, List.set_cons_succ]
  refine wpL_take (i := 5) (oi := ⟨_, _, _, _, _, _⟩) (v := ?_) rfl (by kernel_rfl) (by kernel_rfl) (by kernel_rfl) (by kernel_rfl) (by kernel_rfl) (fun _ _ _ h => h) (Or.inl ⟨by rfl, ?_⟩) (by exact hH0) ?_
  rotate_left
  · (intro x hx; (try dsimp only at hx); go_simp; try (with_reducible rfl))
  try simp only [Act.put, List.setIfInBounds_toArray, List.set_cons_zero, List.set_cons_succ]
  refine wpL_take (i := 6) (oi := ⟨_, _, _, _, _, _⟩) (v := ?_) rfl (by kernel_rfl) (by kernel_rfl) (by kernel_rfl) (by kernel_rfl) (by kernel_rfl) (fun _ _ _ h => h) (Or.inl ⟨by rfl, ?_⟩) (by exact hH0) ?_
  rotate_left
  · (intro x hx; (try dsimp only at hx); go_simp; try (with_reducible rfl))
  try simp only [Act.put, List.setIfInBounds_toArray, List.set_cons_zero, List.set_cons_succ]
  refine wpL_take (i := 7) (oi := ⟨_, _, _, _, _, _⟩) (v := ?_) rfl (by kernel_rfl) (by kernel_rfl) (by kernel_rfl) (by kernel_rfl) (by kernel_rfl) (fun _ _ _ h => h) (Or.inl ⟨by rfl, ?_⟩) (by exact hH0) ?_
  rotate_left
  · (intro x hx; (try dsimp only at hx); go_simp; try (with_reducible rfl))
  try simp only [Act.put, List.setIfInBounds_toArray, List.set_cons_zero, List.set_cons_succ]
  refine wpL_take (i := 8) (oi := ⟨_, _, _, _, _, _⟩) (v := ?_) rfl (by kernel_rfl) (by kernel_rfl) (by kernel_rfl) (by kernel_rfl) (by kernel_rfl) (fun _ _ _ h => h) (Or.inl ⟨by rfl, ?_⟩) (by exact hH0) ?_
  rotate_left
  · (intro x hx; (try dsimp only at hx); go_simp; try (with_reducible rfl))
  try simp only [Act.put, List.setIfInBounds_toArray, List.set_cons_zero, List.set_cons_succ]
  refine wpL_take (i := 9) (oi := ⟨_, _, _, _, _, _⟩) (v := ?_) rfl (by kernel_rfl) (by kernel_rfl) (by kernel_rfl) (by kernel_rfl) (by kernel_rfl) (fun _ _ _ h => h) (Or.inl ⟨by rfl, ?_⟩) (by exact hH0) ?_
  rotate_left
  · (intro x hx; (try dsimp only at hx); go_simp; try (with_reducible rfl))
  try simp only [Act.put, List.setIfInBounds_toArray, List.set_cons_zero, List.set_cons_succ]
  refine wpL_take (i := 10) (oi := ⟨_, _, _, _, _, _⟩) (v := ?_) rfl (by kernel_rfl) (by kernel_rfl) (by kernel_rfl) (by kernel_rfl) (by kernel_rfl) (fun _ _ _ h => h) (Or.inl ⟨by rfl, ?_⟩) (by exact hH0) ?_
  rotate_left
  · (intro x hx; (try dsimp only at hx); go_simp; try (with_reducible rfl))
  try simp only [Act.put, List.setIfInBounds_toArray, List.set_cons_zero, List.set_cons_succ]
  refine wpL_take (i := 11) (oi := ⟨_, _, _, _, _, _⟩) (v := ?_) rfl (by kernel_rfl) (by kernel_rfl) (by kernel_rfl) (by kernel_rfl) (by kernel_rfl) (fun _ _ _ h => h) (Or.inl ⟨by rfl, ?_⟩) (by exact hH0) ?_
  rotate_left
  · (intro x hx; (try dsimp only at hx); go_simp; try (with_reducible rfl))
  try simp only [Act.put, List.setIfInBounds_toArray, List.set_cons_zero, List.set_cons_succ]
  refine wpL_take (i := 12) (oi := ⟨_, _, _, _, _, _⟩) (v := ?_) rfl (by kernel_rfl) (by kernel_rfl) (by kernel_rfl) (by kernel_rfl) (by kernel_rfl) (fun _ _ _ h => h) (Or.inl ⟨by rfl, ?_⟩) (by exact hH0) ?_
  rotate_left
  · (intro x hx; (try dsimp only at hx); go_simp; try (with_reducible rfl))
  try simp only [Act.put, List.setIfInBounds_toArray, List.set_cons_zero, List.set_cons_succ]
  refine wpL_take (i := 13) (oi := ⟨_, _, _, _, _, _⟩) (v := ?_) rfl (by kernel_rfl) (by kernel_rfl) (by kernel_rfl) (by kernel_rfl) (by kernel_rfl) (fun _ _ _ h => h) (Or.inl ⟨by rfl, ?_⟩) (by exact hH0) ?_
  rotate_left
  · (intro x hx; (try dsimp only at hx); go_simp; try (with_reducible rfl))
  try simp only [Act.put, List.setIfInBounds_toArray, List.set_cons_zero, List.set_cons_succ]
  refine wpL_take (i := 14) (oi := ⟨_, _, _, _, _, _⟩) (v := ?_) rfl (by kernel_rfl) (by kernel_rfl) (by kernel_rfl) (by kernel_rfl) (by kernel_rfl) (fun _ _ _ h => h) (Or.inl ⟨by rfl, ?_⟩) (by exact hH0) ?_
  rotate_left
  · (intro x hx; (try dsimp only at hx); go_simp; try (with_reducible rfl))
  try simp only [Act.put, List.setIfInBounds_toArray, List.set_cons_zero, List.set_cons_succ]
  refine wpL_take (i := 15) (oi := ⟨_, _, _, _, _, _⟩) (v := ?_) rfl (by kernel_rfl) (by kernel_rfl) (by kernel_rfl) (by kernel_rfl) (by kernel_rfl) (fun _ _ _ h => h) (Or.inl ⟨by rfl, ?_⟩) (by exact hH0) ?_
  rotate_left
  · (intro x hx; (try dsimp only at hx); go_simp; try (with_reducible rfl))
  try simp only [Act.put, List.setIfInBounds_toArray, List.set_cons_zero, List.set_cons_succ]
  refine wpL_take (i := 16) (oi := ⟨_, _, _, _, _, _⟩) (v := ?_) rfl (by kernel_rfl) (by kernel_rfl) (by kernel_rfl) (by kernel_rfl) (by kernel_rfl) (fun _ _ _ h => h) (Or.inl ⟨by rfl, ?_⟩) (by exact hH0) ?_
  rotate_left
  · (intro x hx; (try dsimp only at hx); go_simp; try (with_reducible rfl))
  try simp only [Act.put, List.setIfInBounds_toArray, List.set_cons_zero, List.set_cons_succ]
  refine wpL_take (i := 17) (oi := ⟨_, _, _, _, _, _⟩) (v := ?_) rfl (by kernel_rfl) (by kernel_rfl) (by kernel_rfl) (by kernel_rfl) (by kernel_rfl) (fun _ _ _ h => h) (Or.inl ⟨by rfl, ?_⟩) (by exact hH0) ?_
  rotate_left
  · (intro x hx; (try dsimp only at hx); go_simp; try (with_reducible rfl))
  try simp only [Act.put, List.setIfInBounds_toArray, List.set_cons_zero, List.set_cons_succ]
  refine wpL_ready (rs := [18]) (by kernel_rfl) (by simp) ?_
  refine eachL_cons (o := ⟨_, _, _, _, _, _⟩) rfl (by rfl) (fun K hK => ?_) ?_
  · skip
    go_simp
    refine hK.out _ _ ?_ (fun hH1 => ?_)
    · (try dsimp only); first | (refine SA.out _ ?_; (repeat (first | with_reducible exact KB | with_reducible refine qDrew ?_ | with_reducible refine qAlloc ?_)); done) | exact ⟨trivial, P.out.2.1.c 10 _ rfl, P.out.2.1.c 7 _ rfl, P.out.2.2.1⟩
    clear hK K hH0
    try simp only [Act.put, List.setIfInBounds_toArray, List.set_cons_zero, List.set_cons_succ]
    refine wpL_ready (rs := [19]) (by kernel_rfl) (by simp) ?_
    refine eachL_cons (o := ⟨_, _, _, _, _, _⟩) rfl (by rfl) (fun K hK => ?_) ?_
    · skip
      refine step_append_lies _ rfl (.tmp 21) (.tmp 28) 42 rfl 0 3 i0 (.int .i64 0) 1 8 Tryz.underlying42 hi hz0 hz1 hz2 rfl (by decide) (.slice ra rn rc) rn t.flatten (by simp [Act.eval]) (owns_kept HRW.out (by repeat (first | with_reducible exact KB | with_reducible refine qDrew ?_ | with_reducible refine qAlloc ?_))) ⟨w.heap.size, 0, none⟩ 1 1 [.int .i64 (vn : Int)] (by simp [Act.eval]) rfl (news_of (by simp) _ 3) (by intro u hu; simp only [List.mem_cons, List.not_mem_nil, or_false] at hu; subst hu; rfl) (by decide) (by unfold maxLen; omega) (by omega) (Nat.zero_le _) (w.heap.size + 1) (by simp) ?_; intro g9 cap w6 ho6 hg6 hat hlt6; have L5 := hid (show Below w.heap.size w (w.alloc (.cells #[.int .i64 (vn : Int)] 3)).drew from by repeat (first | with_reducible exact KB | with_reducible refine qDrew ?_ | with_reducible refine qAlloc ?_)); have P := hid (HPUT.out _ _ g9 cap rn (vn : Int) HRN.out (by omega) ho6 hg6 (by simpa using hat) L5.out); obtain ⟨d7, d7f⟩ := And.intro P.out.2.2.1 P.out.2.2.2.1; clear ho6 hg6 hat hlt6
      refine hK.out _ _ ?_ (fun hH2 => ?_)
      · (try dsimp only); first | (refine SA.out _ ?_; (repeat (first | with_reducible exact KB | with_reducible refine qDrew ?_ | with_reducible refine qAlloc ?_)); done) | exact ⟨trivial, P.out.2.1.c 10 _ rfl, P.out.2.1.c 7 _ rfl, P.out.2.2.1⟩
      clear hK K hH1
      try simp only [Act.put, List.setIfInBounds_toArray, List.set_cons_zero, List.set_cons_succ]
      refine wpL_take (i := 20) (oi := ⟨_, _, _, _, _, _⟩) (v := ?_) rfl (by kernel_rfl) (by kernel_rfl) (by kernel_rfl) (by kernel_rfl) (by kernel_rfl) (fun _ _ _ h => h) (Or.inl ⟨by rfl, ?_⟩) (by exact hH2) ?_
      rotate_left
      · (intro x hx; (try dsimp only at hx); go_simp; try (with_reducible rfl))
      try simp only [Act.put, List.setIfInBounds_toArray, List.set_cons_zero, List.set_cons_succ]
      refine wpL_ready (rs := [21]) (by kernel_rfl) (by simp) ?_
      refine eachL_last (o := ⟨_, _, _, _, _, _⟩) rfl (fun K hK => ?_)
      go_simp
      refine hK.out _ _ ?_ ?_
      · (try dsimp only); (try exact trivial)
      clear hK K
      try simp only [Act.put, List.setIfInBounds_toArray, List.set_cons_zero, List.set_cons_succ]
      refine wpL_done (by kernel_rfl) ?_ _
      go_wp2_with fail
      go_ret
      obtain ⟨BW', k1, k2⟩ := P.out.1
      exact ⟨rfl, ⟨BW', by first | exact k1 | exact k1.kept (Below.drew (Below.refl _ _)), k2⟩, by first | exact P.out.2.2.2.2.trans (Frm.set (S := fun b => b = g) (p := ⟨g, tw, none⟩) _ rfl) (fun b _ hb => by have e : b = g := hb; subst e; exact .inr (.inr (.inr (.inr HBG.out)))) | exact (P.out.2.2.2.2.trans (Frm.set (S := fun b => b = g) (p := ⟨g, tw, none⟩) _ rfl) (fun b _ hb => by have e : b = g := hb; subst e; exact .inr (.inr (.inr (.inr HBG.out))))).trans (Frm.of_below (S := fun _ => False) (Below.drew (Below.refl _ _))) (fun _ _ h => h.elim)⟩
    exact eachL_nil
  exact eachL_nil

set_option maxHeartbeats 2000000 in
/-- Back: the place is there. -/
theorem leadBack_any {xb fb base : Nat} {pv hv gv vC vM vW : Value} {gx gy f rg : Int} {gn : Nat} {BC BM BW : Nat → Prop} {cl : List IrT} {ml : List (List PartT)} {pl : List Int} {wl : List (List Int)} (w : World) (h : WkIn w xb fb base pv hv gx gy gv f rg gn vC vM vW BC BM BW cl ml pl wl) (tw at_ : Nat) (hlt : tw ≤ at_) (hto : tw < gn) (hgn : gn ≤ 1000) :
    Calls Tryz.prog 43 #[.pointer (some ⟨xb, 0, none⟩), .int .i64 (tw : Int), .int .i64 (at_ : Int)] w fun e w' => e = .returned (.int .i64 (pl.getD tw 0)) ∧ w' = w := by
  have c9 := h.bx.c 9 _ rfl
  have s1 := h.pls.at tw hto
  generalize pl.getD tw 0 = y at s1
  have hd0 : ¬ ((at_ : Int) < (tw : Int)) := by omega
  clear h
  go_enter Tryz.func43, Tryz.ntmps43
  go_wp2_with fail
  go_ret
  exact ⟨rfl, rfl⟩

end Go.Proofs.YtaimpljkbpnigaaGreatDoor

namespace Go.Proofs.YtaimpljkbpnigaaGreatDoor
open Go.RowKit
set_option linter.unusedVariables false

set_option maxHeartbeats 1000000 in
theorem plainRegs_any (x : Int) (w : World) (h : -1000 ≤ x ∧ x ≤ 1000) :
    Calls Tryz.prog 39 #[.int .i64 x] w fun e w' => e = .returned (.int .i64 (x + 8)) ∧ w' = w := by
  go_enter Tryz.func39, Tryz.ntmps39
  go_wp2_with fail
  go_ret
  exact ⟨rfl, rfl⟩

set_option maxHeartbeats 1000000 in
theorem plainStack_any (x y : Int) (w : World) (h : -1000 ≤ x ∧ x ≤ 1000) (k : -1000 ≤ y ∧ y ≤ 1000) :
    Calls Tryz.prog 58 #[.int .i64 x, .int .i64 y] w fun e w' => e = .returned (.int .i64 (x + y)) ∧ w' = w := by
  go_enter Tryz.func58, Tryz.ntmps58
  go_wp2_with fail
  go_ret
  exact ⟨rfl, rfl⟩

/-- Sources: so many from one on, then nothing yet. -/
def mixS (base : Int) (n q : Nat) : List SrcT := rowsV base q ++ List.replicate (n - q) (false, 0)
theorem mixS_len (base : Int) {n q : Nat} (h : q ≤ n) : (mixS base n q).length = n := by simp [mixS, rowsV]; omega
theorem mixS_zero (base : Int) (n : Nat) : mixS base n 0 = List.replicate n (false, 0) := by simp [mixS, rowsV]
theorem mixS_all (base : Int) (n : Nat) : mixS base n n = rowsV base n := by simp [mixS]
theorem mixS_at (base : Int) {n q : Nat} (h : q < n) : (mixS base n q)[q]? = some (false, 0) := by
  unfold mixS
  rw [List.getElem?_append_right (by rw [rowsV_len]; exact Nat.le_refl _), rowsV_len, Nat.sub_self, List.getElem?_replicate, if_pos (by omega)]
theorem mixS_set (base : Int) {n q : Nat} (h : q < n) : (mixS base n q).set q (false, base + (q : Int)) = mixS base n (q + 1) := by
  unfold mixS
  rw [List.set_append_right _ _ (by rw [rowsV_len]; exact Nat.le_refl _), rowsV_len, Nat.sub_self, rowsV_succ, List.append_assoc]
  congr 1
  rw [show n - q = (n - (q + 1)) + 1 by omega, List.replicate_succ]
  rfl
theorem cellsSrc_rep (k : Nat) : cellsOf cellsSrcs (List.replicate k (false, 0)) = (List.replicate k [Value.bool false, Value.int .i64 0]).flatten := by
  induction k with
  | zero => rfl
  | succ k ih =>
    rw [List.replicate_succ, show (false, (0 : Int)) :: List.replicate k (false, 0) = [(false, 0)] ++ List.replicate k (false, 0) from rfl, cellsOf_app, ih, cellsOf_one, List.replicate_succ]
    rfl
theorem flat_rep2 {u v : Value} : ∀ (k i : Nat), i < k * 2 → (List.replicate k [u, v]).flatten[i]? = some (if i % 2 = 0 then u else v)
  | 0, i, h => by omega
  | k + 1, 0, _ => by simp [List.replicate_succ]
  | k + 1, 1, _ => by simp [List.replicate_succ]
  | k + 1, i + 2, h => by
    rw [List.replicate_succ]
    show ([u, v] ++ (List.replicate k [u, v]).flatten)[i + 2]? = _
    rw [List.getElem?_append_right (by simp)]
    have := flat_rep2 (u := u) (v := v) k i (by omega)
    simpa using this
theorem made_srcs (k : Nat) : (madeCells #[.bool false, .int .i64 0] (k * 2)).toList = cellsOf cellsSrcs (List.replicate k (false, 0)) := by
  rw [cellsSrc_rep]
  refine List.ext_getElem? (fun i => ?_)
  by_cases h : i < k * 2
  · rw [flat_rep2 k i h]
    have h2 : i % 2 = 0 ∨ i % 2 = 1 := by omega
    rcases h2 with h2 | h2 <;> simp [madeCells, h, h2]
  · rw [List.getElem?_eq_none (by simp [madeCells]; omega), List.getElem?_eq_none (by simp; omega)]
theorem make_srcs (n : Nat) (hn : n ≤ 100000) (u : World) : (Instr.makeSlice 58 (.int .i64 (n : Int)) (.int .i64 (n : Int))).run Tryz.prog u = .ok (.slice (some ⟨u.heap.size, 0, none⟩) n n) (u.alloc (.cells (madeCells #[.bool false, .int .i64 0] (n * 2)) 63)) := by
  obtain ⟨j0, hjf, hy0, hy1, hy2⟩ := info_parts Tryz.infoSrcs
  have hr := run_make (P := Tryz.prog) u 58 63 j0 (.agg #[.bool false, .int .i64 0]) Tryz.underlying58 hjf hy0 .i64 .i64 (n : Int) (n : Int) (by omega) (Int.le_refl _) (by rw [hy2]; omega) (by omega)
  simp only [Int.toNat_natCast, hy1] at hr
  exact hr

set_option maxRecDepth 100000 in
set_option maxHeartbeats 4000000 in
theorem plainSrcs_any (from_ : Int) (many : Nat) (w : World) (h : -1000 ≤ from_ ∧ from_ ≤ 1000) (hm : many ≤ 1000) :
    Calls Tryz.prog 72 #[.int .i64 from_, .int .i64 (many : Int)] w fun e w' => ∃ a n c, e = .returned (.slice a n c) ∧ OSl laySrcs 63 16 w' (fun b => w.heap.size ≤ b ∧ b < w'.heap.size) (.slice a n c) (rowsV from_ many) ∧ Below w.heap.size w w' := by
  have hmk := make_srcs many (by omega)
  have O0 : Hid (∀ u : World, OSl laySrcs 63 16 (u.alloc (.cells (madeCells #[.bool false, .int .i64 0] (many * 2)) 63)) (fun b => b = u.heap.size) (.slice (some ⟨u.heap.size, 0, none⟩) many many) (mixS from_ many 0)) := hid (fun u => by
    have r := World.ownsRow_lit (base := 0) (e := 63) (size := 2) u (madeCells #[.bool false, .int .i64 0] (many * 2)) many (Nat.zero_le _) (by unfold maxLen; omega) (size_madeCells _ _)
    rw [made_srcs] at r
    rw [mixS_zero]
    exact flatSrcs.osl (base := 0) (by simp; omega) (by rw [List.length_replicate]; exact r) (fun g hg => (Option.some.inj hg).symm))
  go_enter Tryz.func72, Tryz.ntmps72
  go_upto_region 2 with fail
  refine wp_name ?_
  intro U hU
  have OU : Hid (OSl laySrcs 63 16 U (fun b => b = w.heap.size) (.slice (some ⟨w.heap.size, 0, none⟩) many many) (mixS from_ many 0)) := hid (by rw [hU]; exact O0.out w)
  have BU : Hid (Below w.heap.size w U) := hid (by rw [hU]; exact Below.alloc (Below.refl _ _) (Nat.le_refl _) _)
  clear hU hmk O0
  go_wp2_with fail
  go_loopw [11] (fun i wr => ∃ q : Nat, q ≤ many ∧ i = .int .i64 q ∧ OSl laySrcs 63 16 wr (fun b => b = w.heap.size) (.slice (some ⟨w.heap.size, 0, none⟩) many many) (mixS from_ many q) ∧ Below w.heap.size w wr) (fun i _ => many - (intOf i).toNat)
  case atStart => exact ⟨0, Nat.zero_le _, rfl, OU.out, BU.out⟩
  case round =>
    clear OU BU
    obtain ⟨q, hq, rfl, oc, hb⟩ := hrel
    obtain ⟨Z, hZ⟩ : ∃ Z : World, Z = wr := ⟨_, rfl⟩
    subst hZ
    have HB := hid hb
    have OC := hid oc
    clear hb
    by_cases hlt : q < many
    · obtain ⟨g, cap, cs, Bk, e3, hcap, hBg, hgl, hcell, hfz, hown, hBk, -, hput⟩ := oc.elem q _ (mixS_at from_ hlt)
      obtain rfl : w.heap.size = g := hBg.symm
      have hcs : cs = [.bool false, .int .i64 0] := by
        have := flatSrcs.only hown
        exact this
      subst hcs
      have a1 : Z.cell? ⟨w.heap.size, q * 2 + 1, none⟩ = some (.int .i64 0) := hcell 1 _ rfl
      have a1f : Z.frozen? ⟨w.heap.size, q * 2 + 1, none⟩ = false := hfz _
      have HP := hid (hput 1 (.int .i64 (from_ + (q : Int))) (false, from_ + (q : Int)) (by decide) (flatSrcs.owns _ _ (false, from_ + (q : Int))))
      clear hput hown hcell hfz hBk e3 oc
      go_wp2_with fail
      go_roundw
      case rel => exact ⟨q + 1, hlt, by go_num, by rw [← mixS_set from_ hlt]; exact HP.out, HB.out.setCell (Nat.le_refl _) _⟩
      case measure => simp [intOf]; omega
    · have hqk : q = many := by omega
      subst hqk
      clear oc
      go_wp2_with fail
      refine bodyPost_ret (v := .slice (some ⟨w.heap.size, 0, none⟩) q q) (by simp [results, Tryz.results72, go_sem]) rfl ⟨_, _, _, rfl, by have := OC.out.clip; rw [mixS_all] at this; exact this.sub (fun b hb _ => by have h1 := hb.1; have h2 := hb.2; exact ⟨by omega, h2⟩), HB.out⟩

set_option maxRecDepth 100000 in
set_option maxHeartbeats 4000000 in
theorem plainPart_any (f q loc : Int) (hloc : 0 ≤ loc ∧ loc ≤ 100) (ht : Nat) (hht : ht ≤ 100) (w : World) :
    Calls Tryz.prog 56 #[.int .i64 f, .int .i64 q, .int .i64 loc, .int .i64 (ht : Int)] w fun e w' => ∃ a1 n1 c1 a2 n2 c2, e = .returned (.agg #[.int .i64 f, .int .i64 q, .slice a1 n1 c1, .slice a2 n2 c2]) ∧ layPart.owns w' (fun b => w.heap.size ≤ b) [.int .i64 f, .int .i64 q, .slice a1 n1 c1, .slice a2 n2 c2] (f, q, rowsV 0 loc.toNat, rowsV loc ht) ∧ Below w.heap.size w w' := by
  obtain ⟨m, rfl⟩ : ∃ m : Nat, loc = m := ⟨loc.toNat, by omega⟩
  have hm : m ≤ 100 := by omega
  clear hloc
  rw [Int.toNat_natCast]
  go_enter Tryz.func56, Tryz.ntmps56
  go_upto_region 1 with fail
  refine wp_name ?_
  intro U hU
  have B : Hid (Below w.heap.size w U) := hid (by rw [hU]; go_grown)
  have r0 : U.cell? ⟨w.heap.size, 0, none⟩ = some (.int .i64 0) := by rw [hU]; simp [go_sem]
  have r1 : U.cell? ⟨w.heap.size, 1, none⟩ = some (.int .i64 0) := by rw [hU]; simp [go_sem]
  have r2 : U.cell? ⟨w.heap.size, 2, none⟩ = some (.slice none 0 0) := by rw [hU]; simp [go_sem]
  have r3 : U.cell? ⟨w.heap.size, 3, none⟩ = some (.slice none 0 0) := by rw [hU]; simp [go_sem]
  have rf : ∀ j, U.frozen? ⟨w.heap.size, j, none⟩ = false := by intro j; rw [hU]; simp [go_sem]
  have hsz : w.heap.size < U.heap.size := lt_of_cell r0
  clear hU
  go_wp2_with fail
  refine (plainSrcs_any 0 m _ (by omega) (by omega)).mono ?_
  rintro e w1 ⟨a1, n1, c1, rfl, o1, b1⟩
  have O1 := hid o1
  have B1 := hid b1
  clear o1 b1
  go_wp2_with fail
  refine (plainStack_any (m : Int) 0 _ (by omega) (by omega)).mono ?_
  rintro e w1' ⟨rfl, hw1⟩
  rw [hw1, Int.add_zero]
  clear hw1
  go_wp2_with fail
  refine (plainSrcs_any (m : Int) ht _ (by omega) (by omega)).mono ?_
  rintro e w2 ⟨a2, n2, c2, rfl, o2, b2⟩
  have O2 := hid o2
  have B2 := hid b2
  have b := kt B1.out b2
  replace r0 := kept_cell b r0
  replace r1 := kept_cell b r1
  replace r2 := kept_cell b r2
  replace r3 := kept_cell b r3
  have rf2 : ∀ j, w2.frozen? ⟨w.heap.size, j, none⟩ = false := fun j => (b.frozen (p := ⟨w.heap.size, j, none⟩) hsz).trans (rf j)
  clear o2 b2 b rf
  go_wp2_with fail
  refine bodyPost_ret (v := .agg #[.int .i64 f, .int .i64 q, .slice a1 n1 c1, .slice a2 n2 c2]) (by simp [results, Tryz.results56, go_sem, r0, r1, r2, r3]) rfl ⟨_, _, _, _, _, _, rfl, ?_, ?_⟩
  · have P := part_owns (f0 := f) (x0 := q) (O1.out.kept B2.out) O2.out (fun b h1 h2 => by omega)
    refine layPart.subO (layPart.frmO P (fun b hb hl => set4_frm.block b hl (fun e => ?_))) (fun b hb _ => ?_)
    · have e' : b = w.heap.size := e
      have := B1.out.size
      rcases hb with h1 | h1 <;> omega
    · show w.heap.size ≤ b
      have := B1.out.size
      rcases hb with h1 | h1 <;> omega
  · exact ((((kt B.out (kt B1.out B2.out)).setCell (Nat.le_refl _) _).setCell (Nat.le_refl _) _).setCell (Nat.le_refl _) _).setCell (Nat.le_refl _) _

end Go.Proofs.YtaimpljkbpnigaaGreatDoor

namespace Go.Proofs.YtaimpljkbpnigaaGreatDoor
open Go.RowKit
set_option linter.unusedVariables false

set_option maxRecDepth 100000 in
set_option maxHeartbeats 8000000 in
theorem lwPut_any {xb fb base : Nat} {pv hv gv vC vM vW : Value} {gx gy f rg : Int} {gn : Nat} {BC BM BW : Nat → Prop} {cl : List IrT} {ml : List (List PartT)} {pl : List Int} {wl : List (List Int)} (w : World) (h : WkIn w xb fb base pv hv gx gy gv f rg gn vC vM vW BC BM BW cl ml pl wl) (hl : cl.length ≤ 1000) {Bx : Nat → Prop} (kd r ra rb k : Int) (xa : Option Addr) (xn xc : Nat) (cost mt ip : Int) (y : IrT) (hx : layIr.owns w Bx [.int .i64 kd, .int .i64 r, .int .i64 ra, .int .i64 rb, .int .i64 k, .slice xa xn xc, .int .i64 cost, .int .i64 mt, .int .i64 ip] y) (hbx : ∀ b, Bx b → WkApart xb fb base BC BM BW b) :
    Calls Tryz.prog 44 #[.pointer (some ⟨xb, 0, none⟩), .agg #[.int .i64 kd, .int .i64 r, .int .i64 ra, .int .i64 rb, .int .i64 k, .slice xa xn xc, .int .i64 cost, .int .i64 mt, .int .i64 ip]] w fun e w' => e = .returned (.tuple #[]) ∧ (∃ vC' BC', WkIn w' xb fb base pv hv gx gy gv f rg gn vC' vM vW BC' BM BW (cl ++ [y]) ml pl wl ∧ ∀ b, BC' b → BC b ∨ Bx b ∨ w.heap.size ≤ b) ∧ Frm (WkZ xb fb BC BM BW) w w' := by
  obtain ⟨i0, hi, hz0, hz1, hz2⟩ := info_parts Tryz.infoIr
  obtain ⟨va, vn, vc, rfl, rC⟩ := h.oi.reads
  have HQ : Hid (cl.length = vn) := hid rC.len.symm
  have hvn : vn ≤ 1000 := by have := HQ.out; omega
  have hvc := rC.cap
  have H := hid h
  have HX := hid hx
  have HBX := hid hbx
  clear h hx hbx rC hl
  go_enter Tryz.func44, Tryz.ntmps44
  go_upto_region 1 with fail
  refine wp_name ?_
  intro U hU
  have BU : Hid (Below w.heap.size w U) := hid (by rw [hU]; exact Below.alloc (Below.refl _ _) (Nat.le_refl _) _)
  have bx : BoxAt U w.heap.size [.int .i64 kd, .int .i64 r, .int .i64 ra, .int .i64 rb, .int .i64 k, .slice xa xn xc, .int .i64 cost, .int .i64 mt, .int .i64 ip] := by
    rw [hU]
    refine ⟨fun j v hv => ?_, fun j => by simp [go_sem]⟩
    have hj := (List.getElem?_eq_some_iff.1 hv).1
    simp only [List.length_cons, List.length_nil] at hj
    have : j = 0 ∨ j = 1 ∨ j = 2 ∨ j = 3 ∨ j = 4 ∨ j = 5 ∨ j = 6 ∨ j = 7 ∨ j = 8 := by omega
    rcases this with rfl | rfl | rfl | rfl | rfl | rfl | rfl | rfl | rfl <;> (simp at hv; subst hv; simp [go_sem])
  clear hU
  have HU := hid (H.out.kept BU.out)
  have hxb : xb < U.heap.size := HU.out.xlt
  obtain ⟨t, F, sn⟩ := HU.out.oi.snocIn
  have SN := hid sn
  have HRW : Hid (U.ownsRow 0 44 9 (.slice va vn vc) vn t.flatten) := hid (by have := sn.row; rwa [HQ.out] at this)
  have BXC := hid bx
  have SA : Hid (∀ w', Below U.heap.size U w' → True ∧ (w'.cell? ⟨w.heap.size, 0, none⟩ = some (.int .i64 kd) ∧ w'.cell? ⟨w.heap.size, 1, none⟩ = some (.int .i64 r) ∧ w'.cell? ⟨w.heap.size, 2, none⟩ = some (.int .i64 ra) ∧ w'.cell? ⟨w.heap.size, 3, none⟩ = some (.int .i64 rb) ∧ w'.cell? ⟨w.heap.size, 4, none⟩ = some (.int .i64 k) ∧ w'.cell? ⟨w.heap.size, 5, none⟩ = some (.slice xa xn xc) ∧ w'.cell? ⟨w.heap.size, 6, none⟩ = some (.int .i64 cost) ∧ w'.cell? ⟨w.heap.size, 7, none⟩ = some (.int .i64 mt) ∧ w'.cell? ⟨w.heap.size, 8, none⟩ = some (.int .i64 ip) ∧ w'.cell? ⟨xb, 7, none⟩ = some (.slice va vn vc))) := hid (fun w' b => ⟨trivial, kept_cell b (BXC.out.c 0 _ rfl), kept_cell b (BXC.out.c 1 _ rfl), kept_cell b (BXC.out.c 2 _ rfl), kept_cell b (BXC.out.c 3 _ rfl), kept_cell b (BXC.out.c 4 _ rfl), kept_cell b (BXC.out.c 5 _ rfl), kept_cell b (BXC.out.c 6 _ rfl), kept_cell b (BXC.out.c 7 _ rfl), kept_cell b (BXC.out.c 8 _ rfl), kept_cell b (HU.out.bx.c 7 _ rfl)⟩)
  have KB : Below U.heap.size U U := Below.refl _ _
  have q7f := HU.out.bx.fz 7
  have bx0 := bx.c 0 _ rfl
  clear sn bx
  refine wp_region_L 12 (fun _ => True) (fun w' => w'.cell? ⟨w.heap.size, 0, none⟩ = some (.int .i64 kd) ∧ w'.cell? ⟨w.heap.size, 1, none⟩ = some (.int .i64 r) ∧ w'.cell? ⟨w.heap.size, 2, none⟩ = some (.int .i64 ra) ∧ w'.cell? ⟨w.heap.size, 3, none⟩ = some (.int .i64 rb) ∧ w'.cell? ⟨w.heap.size, 4, none⟩ = some (.int .i64 k) ∧ w'.cell? ⟨w.heap.size, 5, none⟩ = some (.slice xa xn xc) ∧ w'.cell? ⟨w.heap.size, 6, none⟩ = some (.int .i64 cost) ∧ w'.cell? ⟨w.heap.size, 7, none⟩ = some (.int .i64 mt) ∧ w'.cell? ⟨w.heap.size, 8, none⟩ = some (.int .i64 ip) ∧ w'.cell? ⟨xb, 7, none⟩ = some (.slice va vn vc)) (by kernel_rfl) ?_ (fun hH0 => ?_)
  · (try dsimp only); first | (refine SA.out _ ?_; (repeat (first | with_reducible exact KB | with_reducible refine qDrew ?_ | with_reducible refine qAlloc ?_)); done) | exact ⟨trivial, BXB.out 0 _ rfl, BXB.out 1 _ rfl, BXB.out 2 _ rfl, BXB.out 3 _ rfl, BXB.out 4 _ rfl, BXB.out 5 _ rfl, BXB.out 6 _ rfl, BXB.out 7 _ rfl, BXB.out 8 _ rfl, P.out.2.1.c 7 _ rfl⟩
  refine wpL_take (i := 0) (oi := ⟨_, _, _, _, _, _⟩) (v := ?_) rfl (by kernel_rfl) (by kernel_rfl) (by kernel_rfl) (by kernel_rfl) (by kernel_rfl) (fun _ _ _ h => h) (Or.inl ⟨by rfl, ?_⟩) (by exact hH0) ?_
  rotate_left
  · (intro x hx; (try dsimp only at hx); go_simp; try (with_reducible rfl))
  try simp only [Act.put, List.setIfInBounds_toArray, List.set_cons_zero, List.set_cons_succ]
  refine wpL_take (i := 1) (oi := ⟨_, _, _, _, _, _⟩) (v := ?_) rfl (by kernel_rfl) (by kernel_rfl) (by kernel_rfl) (by kernel_rfl) (by kernel_rfl) (fun _ _ _ h => h) (Or.inl ⟨by rfl, ?_⟩) (by exact hH0) ?_
  rotate_left
  · (intro x hx; (try dsimp only at hx); go_simp; try (with_reducible rfl))
  try simp only [Act.put, List.setIfInBounds_toArray, List.set_cons_zero, List.set_cons_succ]
  refine wpL_take (i := 2) (oi := ⟨_, _, _, _, _, _⟩) (v := ?_) rfl (by kernel_rfl) (by kernel_rfl) (by kernel_rfl) (by kernel_rfl) (by kernel_rfl) (fun _ _ _ h => h) (Or.inl ⟨by rfl, ?_⟩) (by exact hH0) ?_
  rotate_left
  · (intro x hx; (try dsimp only at hx); go_simp; try (with_reducible rfl))
  try simp only [Act.put, List.setIfInBounds_toArray, List.set_cons_zero, List.set_cons_succ]
  refine wpL_take (i := 3) (oi := ⟨_, _, _, _, _, _⟩) (v := ?_) rfl (by kernel_rfl) (by kernel_rfl) (by kernel_rfl) (by kernel_rfl) (by kernel_rfl) (fun _ _ _ h => h) (Or.inl ⟨by rfl, ?_⟩) (by exact hH0) ?_
  rotate_left
  · (intro x hx; (try dsimp only at hx); go_simp; try (with_reducible rfl))
  try simp only [Act.put, List.setIfInBounds_toArray, List.set_cons_zero, List.set_cons_succ]
  refine wpL_take (i := 4) (oi := ⟨_, _, _, _, _, _⟩) (v := ?_) rfl (by kernel_rfl) (by kernel_rfl) (by kernel_rfl) (by kernel_rfl) (by kernel_rfl) (fun _ _ _ h => h) (Or.inl ⟨by rfl, ?_⟩) (by exact hH0) ?_
  rotate_left
  · (intro x hx; (try dsimp only at hx); go_simp; try (with_reducible rfl))
  try simp only [Act.put, List.setIfInBounds_toArray, List.set_cons_zero, List.set_cons_succ]
  refine wpL_take (i := 5) (oi := ⟨_, _, _, _, _, _⟩) (v := ?_) rfl (by kernel_rfl) (by kernel_rfl) (by kernel_rfl) (by kernel_rfl) (by kernel_rfl) (fun _ _ _ h => h) (Or.inl ⟨by rfl, ?_⟩) (by exact hH0) ?_
  rotate_left
  · (intro x hx; (try dsimp only at hx); go_simp; try (with_reducible rfl))
  try simp only [Act.put, List.setIfInBounds_toArray, List.set_cons_zero, List.set_cons_succ]
  refine wpL_take (i := 6) (oi := ⟨_, _, _, _, _, _⟩) (v := ?_) rfl (by kernel_rfl) (by kernel_rfl) (by kernel_rfl) (by kernel_rfl) (by kernel_rfl) (fun _ _ _ h => h) (Or.inl ⟨by rfl, ?_⟩) (by exact hH0) ?_
  rotate_left
  · (intro x hx; (try dsimp only at hx); go_simp; try (with_reducible rfl))
  try simp only [Act.put, List.setIfInBounds_toArray, List.set_cons_zero, List.set_cons_succ]
  refine wpL_ready (rs := [7]) (by kernel_rfl) (by simp) ?_
  refine eachL_cons (o := ⟨_, _, _, _, _, _⟩) rfl (by rfl) (fun K hK => ?_) ?_
  · skip
    go_simp
    refine hK.out _ _ ?_ (fun hH1 => ?_)
    · (try dsimp only); first | (refine SA.out _ ?_; (repeat (first | with_reducible exact KB | with_reducible refine qDrew ?_ | with_reducible refine qAlloc ?_)); done) | exact ⟨trivial, BXB.out 0 _ rfl, BXB.out 1 _ rfl, BXB.out 2 _ rfl, BXB.out 3 _ rfl, BXB.out 4 _ rfl, BXB.out 5 _ rfl, BXB.out 6 _ rfl, BXB.out 7 _ rfl, BXB.out 8 _ rfl, P.out.2.1.c 7 _ rfl⟩
    clear hK K hH0
    try simp only [Act.put, List.setIfInBounds_toArray, List.set_cons_zero, List.set_cons_succ]
    refine wpL_ready (rs := [8]) (by kernel_rfl) (by simp) ?_
    refine eachL_cons (o := ⟨_, _, _, _, _, _⟩) rfl (by rfl) (fun K hK => ?_) ?_
    · skip
      refine step_append_lies _ rfl (.tmp 9) (.tmp 11) 26 rfl 0 44 i0 (.agg #[.int .i64 0, .int .i64 0, .int .i64 0, .int .i64 0, .int .i64 0, .slice none 0 0, .int .i64 0, .int .i64 0, .int .i64 0]) 9 88 Tryz.underlying26 hi hz0 hz1 hz2 rfl (by decide) (.slice va vn vc) vn t.flatten (by simp [Act.eval]) (owns_kept HRW.out (by repeat (first | with_reducible exact KB | with_reducible refine qDrew ?_ | with_reducible refine qAlloc ?_))) ⟨U.heap.size, 0, none⟩ 1 1 [.int .i64 kd, .int .i64 r, .int .i64 ra, .int .i64 rb, .int .i64 k, .slice xa xn xc, .int .i64 cost, .int .i64 mt, .int .i64 ip] (by simp [Act.eval]) rfl (news_of (by simp) _ 44) (by intro u hu; simp only [List.mem_cons, List.not_mem_nil, or_false] at hu; rcases hu with rfl | rfl | rfl | rfl | rfl | rfl | rfl | rfl | rfl <;> rfl) (by decide) (by unfold maxLen; omega) (by omega) (Nat.zero_le _) (U.heap.size + 1) (by simp) ?_; intro g cap w6 ho6 hg6 hat hlt6; have L5 := hid (show Below U.heap.size U (U.alloc (.cells #[.int .i64 kd, .int .i64 r, .int .i64 ra, .int .i64 rb, .int .i64 k, .slice xa xn xc, .int .i64 cost, .int .i64 mt, .int .i64 ip] 44)).drew from by repeat (first | with_reducible exact KB | with_reducible refine qDrew ?_ | with_reducible refine qAlloc ?_)); have OX := hid (layIr.frmO HX.out (fun b hb hl => (kt BU.out L5.out).block b hl)); have P := hid (HU.out.code SN.out HQ.out (by omega) ho6 hg6 (by simpa using hat) L5.out OX.out HBX.out); have BXB := hid (fun (j : Nat) (v : Value) (hj : [.int .i64 kd, .int .i64 r, .int .i64 ra, .int .i64 rb, .int .i64 k, .slice xa xn xc, .int .i64 cost, .int .i64 mt, .int .i64 ip][j]? = some v) => hg6.cell (kept_cell L5.out (BXC.out.c j v hj)) (fun e => by have h1 : BC w.heap.size := (SN.out.own _ e.symm).1.1; have h2 := (H.out.nC _ h1).2.2.2; omega)); obtain ⟨d7, d7f⟩ := And.intro (P.out.2.1.c 7 _ rfl) (P.out.2.1.fz 7); clear ho6 hg6 hat hlt6
      refine hK.out _ _ ?_ (fun hH2 => ?_)
      · (try dsimp only); first | (refine SA.out _ ?_; (repeat (first | with_reducible exact KB | with_reducible refine qDrew ?_ | with_reducible refine qAlloc ?_)); done) | exact ⟨trivial, BXB.out 0 _ rfl, BXB.out 1 _ rfl, BXB.out 2 _ rfl, BXB.out 3 _ rfl, BXB.out 4 _ rfl, BXB.out 5 _ rfl, BXB.out 6 _ rfl, BXB.out 7 _ rfl, BXB.out 8 _ rfl, P.out.2.1.c 7 _ rfl⟩
      clear hK K hH1
      try simp only [Act.put, List.setIfInBounds_toArray, List.set_cons_zero, List.set_cons_succ]
      refine wpL_ready (rs := [9]) (by kernel_rfl) (by simp) ?_
      refine eachL_cons (o := ⟨_, _, _, _, _, _⟩) rfl (by rfl) (fun K hK => ?_) ?_
      · skip
        go_simp
        refine hK.out _ _ ?_ (fun hH3 => ?_)
        · (try dsimp only); first | (refine SA.out _ ?_; (repeat (first | with_reducible exact KB | with_reducible refine qDrew ?_ | with_reducible refine qAlloc ?_)); done) | exact ⟨trivial, BXB.out 0 _ rfl, BXB.out 1 _ rfl, BXB.out 2 _ rfl, BXB.out 3 _ rfl, BXB.out 4 _ rfl, BXB.out 5 _ rfl, BXB.out 6 _ rfl, BXB.out 7 _ rfl, BXB.out 8 _ rfl, P.out.2.1.c 7 _ rfl⟩
        clear hK K hH2
        try simp only [Act.put, List.setIfInBounds_toArray, List.set_cons_zero, List.set_cons_succ]
        refine wpL_ready (rs := [10]) (by kernel_rfl) (by simp) ?_
        refine eachL_cons (o := ⟨_, _, _, _, _, _⟩) rfl (by rfl) (fun K hK => ?_) ?_
        · skip
          go_simp
          refine hK.out _ _ ?_ (fun hH4 => ?_)
          · (try dsimp only); first | (refine SA.out _ ?_; (repeat (first | with_reducible exact KB | with_reducible refine qDrew ?_ | with_reducible refine qAlloc ?_)); done) | exact ⟨trivial, BXB.out 0 _ rfl, BXB.out 1 _ rfl, BXB.out 2 _ rfl, BXB.out 3 _ rfl, BXB.out 4 _ rfl, BXB.out 5 _ rfl, BXB.out 6 _ rfl, BXB.out 7 _ rfl, BXB.out 8 _ rfl, P.out.2.1.c 7 _ rfl⟩
          clear hK K hH3
          try simp only [Act.put, List.setIfInBounds_toArray, List.set_cons_zero, List.set_cons_succ]
          refine wpL_take (i := 11) (oi := ⟨_, _, _, _, _, _⟩) (v := ?_) rfl (by kernel_rfl) (by kernel_rfl) (by kernel_rfl) (by kernel_rfl) (by kernel_rfl) (fun _ _ _ h => h) (Or.inl ⟨by rfl, ?_⟩) (by exact hH4) ?_
          rotate_left
          · (intro x hx; (try dsimp only at hx); go_simp; try (with_reducible rfl))
          try simp only [Act.put, List.setIfInBounds_toArray, List.set_cons_zero, List.set_cons_succ]
          refine wpL_ready (rs := [12]) (by kernel_rfl) (by simp) ?_
          refine eachL_last (o := ⟨_, _, _, _, _, _⟩) rfl (fun K hK => ?_)
          go_simp
          refine hK.out _ _ ?_ ?_
          · (try dsimp only); (try exact trivial)
          clear hK K
          try simp only [Act.put, List.setIfInBounds_toArray, List.set_cons_zero, List.set_cons_succ]
          refine wpL_done (by kernel_rfl) ?_ _
          go_wp2_with fail
          go_end0
          obtain ⟨BC', k', kb⟩ := P.out.1
          have hsz := BU.out.size
          exact ⟨rfl, ⟨_, BC', by first | exact k' | exact k'.kept (Below.drew (Below.refl _ _)), fun b hb => by rcases kb b hb with h | h | h; exact .inl h; exact .inr (.inl h); exact .inr (.inr (by omega))⟩, by first | exact ((Frm.of_below BU.out).trans P.out.2.2 (fun _ _ h => h)).trans (Frm.set (S := fun b => b = xb) (p := ⟨xb, 7, none⟩) _ rfl) (fun _ _ h => .inl h) | exact (((Frm.of_below BU.out).trans P.out.2.2 (fun _ _ h => h)).trans (Frm.set (S := fun b => b = xb) (p := ⟨xb, 7, none⟩) _ rfl) (fun _ _ h => .inl h)).trans (Frm.of_below (S := fun _ => False) (Below.drew (Below.refl _ _))) (fun _ _ h => h.elim)⟩
        exact eachL_nil
      exact eachL_nil
    exact eachL_nil
  exact eachL_nil

end Go.Proofs.YtaimpljkbpnigaaGreatDoor

namespace Go.Proofs.YtaimpljkbpnigaaGreatDoor
open Go.RowKit
set_option linter.unusedVariables false

theorem box4 {U : World} {b : Nat} {v0 v1 v2 v3 : Value} (c0 : U.cell? ⟨b, 0, none⟩ = some v0) (c1 : U.cell? ⟨b, 1, none⟩ = some v1) (c2 : U.cell? ⟨b, 2, none⟩ = some v2) (c3 : U.cell? ⟨b, 3, none⟩ = some v3) (fz : ∀ j, U.frozen? ⟨b, j, none⟩ = false) : BoxAt U b [v0, v1, v2, v3] := by
  refine ⟨fun j v hv => ?_, fz⟩
  have hj := (List.getElem?_eq_some_iff.1 hv).1
  simp only [List.length_cons, List.length_nil] at hj
  have : j = 0 ∨ j = 1 ∨ j = 2 ∨ j = 3 := by omega
  rcases this with rfl | rfl | rfl | rfl <;> (simp at hv; subst hv; assumption)
theorem BoxAt.kept {W V : World} {b : Nat} {vs : List Value} (h : BoxAt W b vs) (hb : Below W.heap.size W V) (hn : 0 < vs.length) : BoxAt V b vs :=
  h.frm (hb.block b (lt_of_cell (h.c 0 _ (List.getElem?_eq_getElem hn))))
/-- A part in a box of its own, above all that was there. -/
structure PartAt (V wx : World) (pb : Nat) (v0 v1 v2 v3 : Value) (y : PartT) : Prop where
  bx : BoxAt wx pb [v0, v1, v2, v3]
  le : V.heap.size ≤ pb
  ow : layPart.owns wx (fun b => V.heap.size ≤ b ∧ b < wx.heap.size) [v0, v1, v2, v3] y
  be : Below V.heap.size V wx
theorem PartAt.drew {V wx : World} {pb : Nat} {v0 v1 v2 v3 : Value} {y : PartT} (h : PartAt V wx pb v0 v1 v2 v3 y) : PartAt V wx.drew pb v0 v1 v2 v3 y :=
  ⟨h.bx.kept (Below.drew (Below.refl _ _)) (by simp), h.le, layPart.frmO h.ow (fun _ _ _ => rfl), Below.drew h.be⟩
theorem part_A {V w1 : World} {b' : Nat} {v0 v1 v2 v3 : Value} {y : PartT} (hb : Below V.drew.heap.size V.drew w1) (o : layPart.owns w1 (fun b => V.drew.heap.size ≤ b ∧ b < w1.heap.size) [v0, v1, v2, v3] y) : PartAt V (w1.alloc (.cells #[v0, v1, v2, v3] b')) w1.heap.size v0 v1 v2 v3 y := by
  have h0 : Below V.heap.size V w1 := kt (Below.drew (Below.refl _ _)) hb
  have ha : Below w1.heap.size w1 (w1.alloc (.cells #[v0, v1, v2, v3] b')) := Below.alloc (Below.refl _ _) (Nat.le_refl _) _
  refine ⟨box4 (by simp [go_sem]) (by simp [go_sem]) (by simp [go_sem]) (by simp [go_sem]) (fun j => by simp [go_sem]), h0.size, layPart.subO (layPart.frmO o (fun b _ hl => ha.block b hl)) (fun b hb hl => ⟨hb.1, hl⟩), kt h0 ha⟩
theorem part_B {V w1 : World} {o' : Obj} {z0 z1 z2 z3 v0 v1 v2 v3 : Value} {y : PartT} (z : BoxAt w1 V.heap.size [z0, z1, z2, z3]) (hb : Below (V.alloc o').drew.heap.size (V.alloc o').drew w1) (o : layPart.owns w1 (fun b => (V.alloc o').drew.heap.size ≤ b ∧ b < w1.heap.size) [v0, v1, v2, v3] y) :
    PartAt V ((((w1.setCell ⟨V.heap.size, 0, none⟩ v0).setCell ⟨V.heap.size, 1, none⟩ v1).setCell ⟨V.heap.size, 2, none⟩ v2).setCell ⟨V.heap.size, 3, none⟩ v3) V.heap.size v0 v1 v2 v3 y := by
  have hs : (V.alloc o').drew.heap.size = V.heap.size + 1 := by rw [drew_size]; simp
  have h0 : Below V.heap.size V w1 := (Below.drew (Below.alloc (Below.refl V.heap.size V) (Nat.le_refl _) o')).trans (hb.mono (by omega))
  rw [hs] at o
  refine ⟨(((z.set 0 v0).set 1 v1).set 2 v2).set 3 v3, Nat.le_refl _, layPart.subO (layPart.frmO o (fun b hb hl => set4_frm.block b hl (fun e => by have e' : b = V.heap.size := e; have := hb.1; omega))) (fun b hb hl => ⟨by have := hb.1; omega, hl⟩), (((h0.setCell (Nat.le_refl _) _).setCell (Nat.le_refl _) _).setCell (Nat.le_refl _) _).setCell (Nat.le_refl _) _⟩

set_option maxRecDepth 100000 in
set_option maxHeartbeats 16000000 in
theorem poll_any {xb fb base : Nat} {pv hv gv vC vM vW : Value} {gx gy f rg : Int} {gn : Nat} {BC BM BW : Nat → Prop} {cl : List IrT} {ml : List (List PartT)} {pl : List Int} {wl : List (List Int)} (w : World) (h : WkIn w xb fb base pv hv gx gy gv f rg gn vC vM vW BC BM BW cl ml pl wl) (hcl : cl.length ≤ 1000) (hml : ml.length ≤ 1000) (q ht : Nat) (hgy : 0 ≤ gy ∧ gy ≤ 8) (hht : ht ≤ 100) :
    Calls Tryz.prog 41 #[.pointer (some ⟨xb, 0, none⟩), .int .i64 (q : Int), .int .i64 (ht : Int)] w fun e w' => e = .returned (.tuple #[]) ∧ (∃ vC' vM' BC' BM', WkIn w' xb fb base pv hv gx gy gv f rg gn vC' vM' vW BC' BM' BW (cl ++ [pollI (ml.length : Int) (q : Int)]) (ml ++ [[(f, (q : Int), rowsV 0 gy.toNat, rowsV gy ht)]]) pl wl ∧ (∀ b, BC' b → BC b ∨ w.heap.size ≤ b) ∧ ∀ b, BM' b → BM b ∨ w.heap.size ≤ b) ∧ Frm (WkZ xb fb BC BM BW) w w' := by
  obtain ⟨m0, hm, mz0, mz1, mz2⟩ := info_parts Tryz.infoMeta
  obtain ⟨ma, mn, mc, rfl, rM⟩ := h.om.reads
  have hmn : ml.length = mn := rM.len.symm
  rw [hmn] at hml ⊢
  have hmc := rM.cap
  have H := hid h
  have HMN := hid hmn
  have c8 := h.bx.c 8 _ rfl
  clear h rM hmn
  go_enter Tryz.func41, Tryz.ntmps41
  go_wp2_with fail
  refine (lwPut_any _ H.out hcl 10 0 0 0 0 none 0 0 0 (mn : Int) (q : Int) (pollI (mn : Int) (q : Int)) (ir_owns (OSl.nil layI 3 8 _ (fun _ => False))) (fun b hb => hb.elim)).mono ?_
  rintro e V ⟨rfl, ⟨vC1, BC1, k1, kb1⟩, b1⟩
  have KB1 : Hid (∀ b, BC1 b → BC b ∨ w.heap.size ≤ b) := hid (fun b hb => by rcases kb1 b hb with h | h | h; exact .inl h; exact h.elim; exact .inr h)
  clear kb1
  have K1 := hid k1
  have B1 := hid b1
  clear c8 k1 b1
  have c5 := K1.out.bx.c 5 _ rfl
  have c3 := K1.out.bx.c 3 _ rfl
  have hxV : xb < V.heap.size := K1.out.xlt
  have PT : Hid (∀ u : World, Below V.heap.size V u → Calls Tryz.prog 56 #[.int .i64 f, .int .i64 (q : Int), .int .i64 gy, .int .i64 (ht : Int)] u fun e w' => ∃ a1 n1 c1 a2 n2 c2, e = .returned (.agg #[.int .i64 f, .int .i64 (q : Int), .slice a1 n1 c1, .slice a2 n2 c2]) ∧ layPart.owns w' (fun b => u.heap.size ≤ b ∧ b < w'.heap.size) [.int .i64 f, .int .i64 (q : Int), .slice a1 n1 c1, .slice a2 n2 c2] (f, (q : Int), rowsV 0 gy.toNat, rowsV gy ht) ∧ Below u.heap.size u w') := hid (fun u hu => by
    refine (plainPart_any f (q : Int) gy (by omega) ht hht u).mono ?_
    rintro e w' ⟨a1, n1, c1, a2, n2, c2, rfl, o, b⟩
    exact ⟨_, _, _, _, _, _, rfl, layPart.subO o (fun b hb hl => ⟨hb, hl⟩), b⟩)
  go_wp2_with fail
  have ZB : Hid (BoxAt (V.alloc (.cells #[.int .i64 0, .int .i64 0, .slice none 0 0, .slice none 0 0] 60)).drew V.heap.size [.int .i64 0, .int .i64 0, .slice none 0 0, .slice none 0 0]) := hid (box4 (by simp [go_sem]) (by simp [go_sem]) (by simp [go_sem]) (by simp [go_sem]) (fun j => by simp [go_sem]))
  go_cut [6] from 17 to 29 (fun p wx => ∃ pb a1 n1 c1 a2 n2 c2, p = .pointer (some ⟨pb, 0, none⟩) ∧ PartAt V wx pb (.int .i64 f) (.int .i64 (q : Int)) (.slice a1 n1 c1) (.slice a2 n2 c2) (f, (q : Int), rowsV 0 gy.toNat, rowsV gy ht))
  case first =>
    go_region_with (first
      | (go_at_call 56; refine (PT.out _ (Below.drew (Below.refl V.heap.size V))).mono ?_; rintro e w1 ⟨a1, n1, c1, a2, n2, c2, rfl, o, b⟩; have KA := hid (part_A b o (b' := 60)); clear o b)
      | (go_at_call 56; refine (PT.out _ (Below.drew (Below.alloc (Below.refl V.heap.size V) (Nat.le_refl _) _))).mono ?_; rintro e w1 ⟨a1, n1, c1, a2, n2, c2, rfl, o, b⟩; have ZW := hid (ZB.out.kept b (by decide)); have KA := hid (part_B ZW.out b o); have z0 := ZW.out.c 0 _ rfl; have z1 := ZW.out.c 1 _ rfl; have z2 := ZW.out.c 2 _ rfl; have z3 := ZW.out.c 3 _ rfl; have zf := ZW.out.fz; clear o b))
    all_goals
      go_wp2_with fail
      go_meet
      case rel => exact ⟨_, _, _, _, _, _, _, rfl, by first | exact KA.out | exact KA.out.drew⟩
  case rest =>
    obtain ⟨pb, a1, n1, c1, a2, n2, c2, rfl, pa⟩ := hcut
    have PA := hid pa
    have K2 := hid (K1.out.kept pa.be)
    obtain ⟨t, F, sn⟩ := K2.out.om.snocIn
    have SN := hid sn
    have HRW : Hid (wc.ownsRow 0 57 1 (.slice ma mn mc) mn t.flatten) := hid (by have := sn.row; rwa [HMN.out] at this)
    have SA : Hid (∀ w', Below wc.heap.size wc w' → True ∧ (w'.cell? ⟨xb, 8, none⟩ = some (.slice ma mn mc) ∧ w'.cell? ⟨pb, 0, none⟩ = some (.int .i64 f) ∧ w'.cell? ⟨pb, 1, none⟩ = some (.int .i64 (q : Int)) ∧ w'.cell? ⟨pb, 2, none⟩ = some (.slice a1 n1 c1) ∧ w'.cell? ⟨pb, 3, none⟩ = some (.slice a2 n2 c2))) := hid (fun w' b => ⟨trivial, kept_cell b (K2.out.bx.c 8 _ rfl), kept_cell b (PA.out.bx.c 0 _ rfl), kept_cell b (PA.out.bx.c 1 _ rfl), kept_cell b (PA.out.bx.c 2 _ rfl), kept_cell b (PA.out.bx.c 3 _ rfl)⟩)
    have KB : Below wc.heap.size wc wc := Below.refl _ _
    have hxc : xb < wc.heap.size := K2.out.xlt
    clear pa sn c5 c3 PT ZB
    go_upto_region 2 with fail
    refine wp_region_L 14 (fun _ => True) (fun w' => w'.cell? ⟨xb, 8, none⟩ = some (.slice ma mn mc) ∧ w'.cell? ⟨pb, 0, none⟩ = some (.int .i64 f) ∧ w'.cell? ⟨pb, 1, none⟩ = some (.int .i64 (q : Int)) ∧ w'.cell? ⟨pb, 2, none⟩ = some (.slice a1 n1 c1) ∧ w'.cell? ⟨pb, 3, none⟩ = some (.slice a2 n2 c2)) (by kernel_rfl) ?_ (fun hH0 => ?_)
    · (try dsimp only); first | (refine SA.out _ ?_; (repeat (first | with_reducible exact KB | with_reducible refine qDrew ?_ | with_reducible refine qAlloc ?_)); done) | exact ⟨trivial, P4.out.2.1.c 8 _ rfl, BXB.out 0 _ rfl, BXB.out 1 _ rfl, BXB.out 2 _ rfl, BXB.out 3 _ rfl⟩
    refine wpL_take (i := 0) (oi := ⟨_, _, _, _, _, _⟩) (v := ?_) rfl (by kernel_rfl) (by kernel_rfl) (by kernel_rfl) (by kernel_rfl) (by kernel_rfl) (fun _ _ _ h => h) (Or.inl ⟨by rfl, ?_⟩) (by exact hH0) ?_
    rotate_left
    · (intro x hx; (try dsimp only at hx); go_simp; try (with_reducible rfl))
    try simp only [Act.put, List.setIfInBounds_toArray, List.set_cons_zero, List.set_cons_succ]
    refine wpL_take (i := 1) (oi := ⟨_, _, _, _, _, _⟩) (v := ?_) rfl (by kernel_rfl) (by kernel_rfl) (by kernel_rfl) (by kernel_rfl) (by kernel_rfl) (fun _ _ _ h => h) (Or.inl ⟨by rfl, ?_⟩) (by exact hH0) ?_
    rotate_left
    · (intro x hx; (try dsimp only at hx); go_simp; try (with_reducible rfl))
    try simp only [Act.put, List.setIfInBounds_toArray, List.set_cons_zero, List.set_cons_succ]
    refine wpL_take (i := 2) (oi := ⟨_, _, _, _, _, _⟩) (v := ?_) rfl (by kernel_rfl) (by kernel_rfl) (by kernel_rfl) (by kernel_rfl) (by kernel_rfl) (fun _ _ _ h => h) (Or.inl ⟨by rfl, ?_⟩) (by exact hH0) ?_
    rotate_left
    · (intro x hx; (try dsimp only at hx); go_simp; try (with_reducible rfl))
    try simp only [Act.put, List.setIfInBounds_toArray, List.set_cons_zero, List.set_cons_succ]
    refine wpL_take (i := 3) (oi := ⟨_, _, _, _, _, _⟩) (v := ?_) rfl (by kernel_rfl) (by kernel_rfl) (by kernel_rfl) (by kernel_rfl) (by kernel_rfl) (fun _ _ _ h => h) (Or.inl ⟨by rfl, ?_⟩) (by exact hH0) ?_
    rotate_left
    · (intro x hx; (try dsimp only at hx); go_simp; try (with_reducible rfl))
    try simp only [Act.put, List.setIfInBounds_toArray, List.set_cons_zero, List.set_cons_succ]
    refine wpL_take (i := 4) (oi := ⟨_, _, _, _, _, _⟩) (v := ?_) rfl (by kernel_rfl) (by kernel_rfl) (by kernel_rfl) (by kernel_rfl) (by kernel_rfl) (fun _ _ _ h => h) (Or.inl ⟨by rfl, ?_⟩) (by exact hH0) ?_
    rotate_left
    · (intro x hx; (try dsimp only at hx); go_simp; try (with_reducible rfl))
    try simp only [Act.put, List.setIfInBounds_toArray, List.set_cons_zero, List.set_cons_succ]
    refine wpL_take (i := 5) (oi := ⟨_, _, _, _, _, _⟩) (v := ?_) rfl (by kernel_rfl) (by kernel_rfl) (by kernel_rfl) (by kernel_rfl) (by kernel_rfl) (fun _ _ _ h => h) (Or.inl ⟨by rfl, ?_⟩) (by exact hH0) ?_
    rotate_left
    · (intro x hx; (try dsimp only at hx); go_simp; try (with_reducible rfl))
    try simp only [Act.put, List.setIfInBounds_toArray, List.set_cons_zero, List.set_cons_succ]
    refine wpL_take (i := 6) (oi := ⟨_, _, _, _, _, _⟩) (v := ?_) rfl (by kernel_rfl) (by kernel_rfl) (by kernel_rfl) (by kernel_rfl) (by kernel_rfl) (fun _ _ _ h => h) (Or.inl ⟨by rfl, ?_⟩) (by exact hH0) ?_
    rotate_left
    · (intro x hx; (try dsimp only at hx); go_simp; try (with_reducible rfl))
    try simp only [Act.put, List.setIfInBounds_toArray, List.set_cons_zero, List.set_cons_succ]
    refine wpL_ready (rs := [7]) (by kernel_rfl) (by simp) ?_
    refine eachL_cons (o := ⟨_, _, _, _, _, _⟩) rfl (by rfl) (fun K hK => ?_) ?_
    · skip
      go_simp
      refine hK.out _ _ ?_ (fun hH1 => ?_)
      · (try dsimp only); first | (refine SA.out _ ?_; (repeat (first | with_reducible exact KB | with_reducible refine qDrew ?_ | with_reducible refine qAlloc ?_)); done) | exact ⟨trivial, P4.out.2.1.c 8 _ rfl, BXB.out 0 _ rfl, BXB.out 1 _ rfl, BXB.out 2 _ rfl, BXB.out 3 _ rfl⟩
      clear hK K hH0
      try simp only [Act.put, List.setIfInBounds_toArray, List.set_cons_zero, List.set_cons_succ]
      refine wpL_take (i := 8) (oi := ⟨_, _, _, _, _, _⟩) (v := ?_) rfl (by kernel_rfl) (by kernel_rfl) (by kernel_rfl) (by kernel_rfl) (by kernel_rfl) (fun _ _ _ h => h) (Or.inl ⟨by rfl, ?_⟩) (by exact hH1) ?_
      rotate_left
      · (intro x hx; (try dsimp only at hx); go_simp; try (with_reducible rfl))
      try simp only [Act.put, List.setIfInBounds_toArray, List.set_cons_zero, List.set_cons_succ]
      refine wpL_ready (rs := [9]) (by kernel_rfl) (by simp) ?_
      refine eachL_cons (o := ⟨_, _, _, _, _, _⟩) rfl (by rfl) (fun K hK => ?_) ?_
      · skip
        go_simp
        refine hK.out _ _ ?_ (fun hH2 => ?_)
        · (try dsimp only); first | (refine SA.out _ ?_; (repeat (first | with_reducible exact KB | with_reducible refine qDrew ?_ | with_reducible refine qAlloc ?_)); done) | exact ⟨trivial, P4.out.2.1.c 8 _ rfl, BXB.out 0 _ rfl, BXB.out 1 _ rfl, BXB.out 2 _ rfl, BXB.out 3 _ rfl⟩
        clear hK K hH1
        try simp only [Act.put, List.setIfInBounds_toArray, List.set_cons_zero, List.set_cons_succ]
        refine wpL_ready (rs := [10]) (by kernel_rfl) (by simp) ?_
        refine eachL_cons (o := ⟨_, _, _, _, _, _⟩) rfl (by rfl) (fun K hK => ?_) ?_
        · skip
          refine step_append_lies _ rfl (.tmp 35) (.tmp 39) 27 rfl 0 57 m0 (.agg #[.slice none 0 0]) 1 24 Tryz.underlying27 hm mz0 mz1 mz2 rfl (by decide) (.slice ma mn mc) mn t.flatten (by simp [Act.eval]) (owns_kept HRW.out (by repeat (first | with_reducible exact KB | with_reducible refine qDrew ?_ | with_reducible refine qAlloc ?_))) ⟨wc.heap.size + 1, 0, none⟩ 1 1 [.slice (some ⟨wc.heap.size, 0, none⟩) 1 1] (by simp [Act.eval]) rfl (news_of (by simp) _ 57) (by intro u hu; simp only [List.mem_cons, List.not_mem_nil, or_false] at hu; subst hu; rfl) (by decide) (by unfold maxLen; omega) (by omega) (Nat.zero_le _) (wc.heap.size + 1 + 1) (by simp) ?_; intro g3 cap3 w6 ho6 hg6 hat hlt6; have L5 := hid (show Below wc.heap.size wc ((wc.alloc (.cells #[.int .i64 f, .int .i64 (q : Int), .slice a1 n1 c1, .slice a2 n2 c2] 60)).alloc (.cells #[.slice (some ⟨wc.heap.size, 0, none⟩) 1 1] 57)).drew from by repeat (first | with_reducible exact KB | with_reducible refine qDrew ?_ | with_reducible refine qAlloc ?_)); have OP := hid (osl_one (T := 60) (bytes := 64) PA.out.ow (fun b hb => hb.2) (by decide)); have OX : Hid (layMeta.owns ((wc.alloc (.cells #[.int .i64 f, .int .i64 (q : Int), .slice a1 n1 c1, .slice a2 n2 c2] 60)).alloc (.cells #[.slice (some ⟨wc.heap.size, 0, none⟩) 1 1] 57)).drew (fun b => ((V.heap.size ≤ b ∧ b < wc.heap.size) ∨ b = wc.heap.size)) [.slice (some ⟨wc.heap.size, 0, none⟩) 1 1] [(f, (q : Int), rowsV 0 gy.toNat, rowsV gy ht)]) := hid (meta_owns (OP.out.kept (Below.drew (Below.alloc (Below.refl _ _) (Nat.le_refl _) _)))); have hsB : V.heap.size ≤ wc.heap.size := PA.out.be.size; have P4 := hid (K2.out.metas SN.out HMN.out (by omega) ho6 hg6 (by simpa using hat) L5.out OX.out (fun b hb => K1.out.far (by rcases hb with hb | hb; exact hb.1; omega))); have BXB := hid (fun (j : Nat) (v : Value) (hj : [.int .i64 f, .int .i64 (q : Int), .slice a1 n1 c1, .slice a2 n2 c2][j]? = some v) => hg6.cell (kept_cell L5.out (PA.out.bx.c j v hj)) (fun e => by have h1 : BM pb := (SN.out.own _ e.symm).1.1; have h2 := (K1.out.nM _ h1).2.2.2; have h3 := PA.out.le; omega)); obtain ⟨d8, d8f⟩ := And.intro (P4.out.2.1.c 8 _ rfl) (P4.out.2.1.fz 8); clear ho6 hg6 hat hlt6
          refine hK.out _ _ ?_ (fun hH3 => ?_)
          · (try dsimp only); first | (refine SA.out _ ?_; (repeat (first | with_reducible exact KB | with_reducible refine qDrew ?_ | with_reducible refine qAlloc ?_)); done) | exact ⟨trivial, P4.out.2.1.c 8 _ rfl, BXB.out 0 _ rfl, BXB.out 1 _ rfl, BXB.out 2 _ rfl, BXB.out 3 _ rfl⟩
          clear hK K hH2
          try simp only [Act.put, List.setIfInBounds_toArray, List.set_cons_zero, List.set_cons_succ]
          refine wpL_ready (rs := [11]) (by kernel_rfl) (by simp) ?_
          refine eachL_cons (o := ⟨_, _, _, _, _, _⟩) rfl (by rfl) (fun K hK => ?_) ?_
          · skip
            go_simp
            refine hK.out _ _ ?_ (fun hH4 => ?_)
            · (try dsimp only); first | (refine SA.out _ ?_; (repeat (first | with_reducible exact KB | with_reducible refine qDrew ?_ | with_reducible refine qAlloc ?_)); done) | exact ⟨trivial, P4.out.2.1.c 8 _ rfl, BXB.out 0 _ rfl, BXB.out 1 _ rfl, BXB.out 2 _ rfl, BXB.out 3 _ rfl⟩
            clear hK K hH3
            try simp only [Act.put, List.setIfInBounds_toArray, List.set_cons_zero, List.set_cons_succ]
            refine wpL_ready (rs := [12]) (by kernel_rfl) (by simp) ?_
            refine eachL_cons (o := ⟨_, _, _, _, _, _⟩) rfl (by rfl) (fun K hK => ?_) ?_
            · skip
              go_simp
              refine hK.out _ _ ?_ (fun hH5 => ?_)
              · (try dsimp only); first | (refine SA.out _ ?_; (repeat (first | with_reducible exact KB | with_reducible refine qDrew ?_ | with_reducible refine qAlloc ?_)); done) | exact ⟨trivial, P4.out.2.1.c 8 _ rfl, BXB.out 0 _ rfl, BXB.out 1 _ rfl, BXB.out 2 _ rfl, BXB.out 3 _ rfl⟩
              clear hK K hH4
              try simp only [Act.put, List.setIfInBounds_toArray, List.set_cons_zero, List.set_cons_succ]
              refine wpL_take (i := 13) (oi := ⟨_, _, _, _, _, _⟩) (v := ?_) rfl (by kernel_rfl) (by kernel_rfl) (by kernel_rfl) (by kernel_rfl) (by kernel_rfl) (fun _ _ _ h => h) (Or.inl ⟨by rfl, ?_⟩) (by exact hH5) ?_
              rotate_left
              · (intro x hx; (try dsimp only at hx); go_simp; try (with_reducible rfl))
              try simp only [Act.put, List.setIfInBounds_toArray, List.set_cons_zero, List.set_cons_succ]
              refine wpL_ready (rs := [14]) (by kernel_rfl) (by simp) ?_
              refine eachL_last (o := ⟨_, _, _, _, _, _⟩) rfl (fun K hK => ?_)
              go_simp
              refine hK.out _ _ ?_ ?_
              · (try dsimp only); (try exact trivial)
              clear hK K
              try simp only [Act.put, List.setIfInBounds_toArray, List.set_cons_zero, List.set_cons_succ]
              refine wpL_done (by kernel_rfl) ?_ _
              go_wp2_with fail
              go_end0
              obtain ⟨BM', k', kb⟩ := P4.out.1
              have hs1 := B1.out.size
              have hs2 := PA.out.be.size
              have FZ : Frm (WkZ xb fb BC BM BW) w w6 := (B1.out.trans (Frm.of_below (S := fun _ => False) PA.out.be) (fun _ _ h => h.elim)).trans P4.out.2.2 (fun b hb hs => by rcases hs with hs | hs | hs | hs | hs; exact .inl hs; exact .inr (.inl hs); (rcases KB1.out b hs with h | h; exact .inr (.inr (.inl h)); omega); exact .inr (.inr (.inr (.inl hs))); exact .inr (.inr (.inr (.inr hs))))
              have FS : Frm (WkZ xb fb BC BM BW) w (w6.setCell ⟨xb, 8, none⟩ (.slice (some ⟨g3, 0, none⟩) (mn + 1) cap3)) := FZ.trans (Frm.set (S := fun b => b = xb) (p := ⟨xb, 8, none⟩) _ rfl) (fun _ _ h => .inl h)
              exact ⟨rfl, ⟨_, _, _, BM', by first | exact k' | exact k'.kept (Below.drew (Below.refl _ _)), KB1.out, fun b hb => by rcases kb b hb with h | h | h; exact .inl h; exact .inr (by rcases h with h | h; have := h.1; omega; omega); exact .inr (by omega)⟩, by first | exact FS | exact FS.trans (Frm.of_below (S := fun _ => False) (Below.drew (Below.refl _ _))) (fun _ _ h => h.elim)⟩
            exact eachL_nil
          exact eachL_nil
        exact eachL_nil
      exact eachL_nil
    exact eachL_nil

end Go.Proofs.YtaimpljkbpnigaaGreatDoor

namespace Go.Proofs.YtaimpljkbpnigaaGreatDoor
open Go.RowKit
set_option linter.unusedVariables false

def argsF (base : Int) (q : Nat) : List Int := (List.range q).map (fun i : Nat => base + (i : Int))
theorem argsF_succ (base : Int) (q : Nat) : argsF base (q + 1) = argsF base q ++ [base + (q : Int)] := by simp [argsF, List.range_succ]
theorem argsF_len (base : Int) (q : Nat) : (argsF base q).length = q := by simp [argsF]
/-- What an instruction becomes, but for its cost, its pc and its place. -/
def lirV (ps : List Fn) (T : Int) (x : Int × Int) : IrT :=
  ((oneV ps T 0 x).1, (oneV ps T 0 x).2.1, (oneV ps T 0 x).2.2.1, (oneV ps T 0 x).2.2.2.1, (if x.1 = 12 ∨ x.1 = 13 then 0 else (oneV ps T 0 x).2.2.2.2.1), (oneV ps T 0 x).2.2.2.2.2.1, 0, 0, 0)

set_option maxRecDepth 100000 in
set_option maxHeartbeats 8000000 in
theorem callOf_any (fn from_ : Int) (many : Nat) (w : World) (h : -1000 ≤ from_ ∧ from_ ≤ 1000) (hm : many ≤ 100) :
    Calls Tryz.prog 59 #[.int .i64 fn, .int .i64 from_, .int .i64 (many : Int)] w fun e w' => ∃ a n c, e = .returned (.agg #[.int .i64 6, .int .i64 from_, .int .i64 0, .int .i64 0, .int .i64 fn, .slice a n c, .int .i64 0, .int .i64 0, .int .i64 0]) ∧ OSl layI 3 8 w' (fun b => w.heap.size ≤ b) (.slice a n c) (argsF from_ many) ∧ Below w.heap.size w w' := by
  go_enter Tryz.func59, Tryz.ntmps59
  go_upto_region 2 with fail
  refine wp_name ?_
  intro Y hY
  have bY : Hid (Below w.heap.size w Y) := hid (by rw [hY]; go_grown)
  have YR : Hid (BoxAt Y w.heap.size [.int .i64 0, .int .i64 0, .int .i64 0, .int .i64 0, .int .i64 0, .slice none 0 0, .int .i64 0, .int .i64 0, .int .i64 0]) := hid (by
    rw [hY]
    refine ⟨fun j v hv => ?_, fun j => by simp [go_sem]⟩
    have hj := (List.getElem?_eq_some_iff.1 hv).1
    simp only [List.length_cons, List.length_nil] at hj
    have : j = 0 ∨ j = 1 ∨ j = 2 ∨ j = 3 ∨ j = 4 ∨ j = 5 ∨ j = 6 ∨ j = 7 ∨ j = 8 := by omega
    rcases this with rfl | rfl | rfl | rfl | rfl | rfl | rfl | rfl | rfl <;> (simp at hv; subst hv; simp [go_sem]))
  have YB : Hid (BoxAt Y (w.heap.size + 1) [.int .i64 6, .int .i64 from_, .int .i64 0, .int .i64 0, .int .i64 fn, .slice none 0 0, .int .i64 0, .int .i64 0, .int .i64 0]) := hid (by
    rw [hY]
    refine ⟨fun j v hv => ?_, fun j => by simp [go_sem]⟩
    have hj := (List.getElem?_eq_some_iff.1 hv).1
    simp only [List.length_cons, List.length_nil] at hj
    have : j = 0 ∨ j = 1 ∨ j = 2 ∨ j = 3 ∨ j = 4 ∨ j = 5 ∨ j = 6 ∨ j = 7 ∨ j = 8 := by omega
    rcases this with rfl | rfl | rfl | rfl | rfl | rfl | rfl | rfl | rfl <;> (simp at hv; subst hv; simp [go_sem]))
  clear hY
  go_wp2_with fail
  go_loopw [13] (fun i wr => ∃ (m : Nat) (va : Option Addr) (vn vc : Nat), m ≤ many ∧ i = .int .i64 m ∧ BoxAt wr w.heap.size [.int .i64 0, .int .i64 0, .int .i64 0, .int .i64 0, .int .i64 0, .slice none 0 0, .int .i64 0, .int .i64 0, .int .i64 0] ∧ BoxAt wr (w.heap.size + 1) [.int .i64 6, .int .i64 from_, .int .i64 0, .int .i64 0, .int .i64 fn, .slice va vn vc, .int .i64 0, .int .i64 0, .int .i64 0] ∧ OSl layI 3 8 wr (fun b => w.heap.size + 1 < b) (.slice va vn vc) (argsF from_ m) ∧ Below w.heap.size w wr) (fun i _ => many - (intOf i).toNat)
  case atStart => exact ⟨0, none, 0, 0, Nat.zero_le _, rfl, YR.out, YB.out, OSl.nil _ _ _ _ _, bY.out⟩
  case round =>
    clear YB bY YR
    obtain ⟨m, va, vn, vc, hm', rfl, yr, yb, oc, hb⟩ := hrel
    obtain ⟨Z, hZ⟩ : ∃ Z : World, Z = wr := ⟨_, rfl⟩
    subst hZ
    have HB := hid hb
    have OC := hid oc
    have YB := hid yb
    have YR := hid yr
    have hvn : vn = m := by obtain ⟨_, _, _, e9, r9⟩ := oc.reads; cases e9; have := r9.len; rw [argsF_len] at this; exact this
    subst hvn
    have hvc : vn ≤ vc := by obtain ⟨_, _, _, e9, r9⟩ := oc.reads; cases e9; exact r9.cap
    have hwz : w.heap.size + 1 < Z.heap.size := lt_of_cell (yb.c 0 _ rfl)
    clear hb oc
    by_cases hlt : vn < many
    · obtain ⟨j0', hjf, hy0, hy1, hy2⟩ := info_parts Tryz.infoIntC
      have y5 := yb.c 5 _ rfl
      have yf := yb.fz 5
      have L4 : Hid (Below Z.heap.size Z (Z.alloc (.cells #[.int .i64 (from_ + vn)] 3))) := hid (Below.alloc (Below.refl _ _) (Nat.le_refl _) _)
      obtain ⟨t, F, sn⟩ := OC.out.snocIn
      have SN := hid sn
      have HRW : Hid (Z.ownsRow 0 3 1 (.slice va vn vc) vn t.flatten) := hid (by have := sn.row; rwa [argsF_len] at this)
      clear sn yb yr
      go_wp2_with (at_builtin; refine wpList_append_lies _ rfl _ _ 42 rfl 0 3 j0' (.int .i64 0) 1 8 Tryz.underlying42 hjf hy0 hy1 hy2 rfl (by decide) (.slice va vn vc) vn t.flatten rfl (owns_kept HRW.out L4.out) ⟨Z.heap.size, 0, none⟩ 1 1 [.int .i64 (from_ + vn)] rfl rfl (news_of rfl _ 3) (by intro u hu; simp only [List.mem_cons, List.not_mem_nil, or_false] at hu; subst hu; rfl) (by decide) (by unfold maxLen; omega) (by omega) (Nat.zero_le _) (Z.heap.size + 1) (by simp) ?_; intro g cap w6 ho6 hg6 hat hlt6; have P := hid (app_snoc (bytes := 8) (L := layI) (y := from_ + (vn : Int)) (Bx := fun _ => False) SN.out (argsF_len from_ vn) (by omega) ho6 hg6 (by simpa using hat) L4.out rfl (fun b hb => hb.elim) (fun b hb => by show w.heap.size + 1 < b; omega)); have Y6 := hid (YB.out.frm (P.out.2.block _ hwz (Nat.lt_irrefl _))); have Y7 := hid (YR.out.frm (P.out.2.block _ (by omega) (by omega))); have y6 := Y6.out.c 5 _ rfl; have yf6 := Y6.out.fz 5; clear ho6 hg6 hat hlt6 y5 yf)
      go_roundw
      case rel => exact ⟨vn + 1, _, _, _, hlt, by go_num, Y7.out.frm (Below.heap_setCell _ _ _ _ (by show w.heap.size ≠ w.heap.size + 1; omega)), Y6.out.set 5 _, by rw [argsF_succ]; exact P.out.1.set _ _ (Nat.lt_irrefl _), (HB.out.trans (P.out.2.below (B := w.heap.size) (by omega) (fun k hk => by omega))).setCell (by show w.heap.size ≤ w.heap.size + 1; omega) _⟩
      case measure => simp [intOf]; omega
    · have hqk : vn = many := by omega
      subst hqk
      have r0 := yr.c 0 _ rfl
      have r1 := yr.c 1 _ rfl
      have r2 := yr.c 2 _ rfl
      have r3 := yr.c 3 _ rfl
      have r4 := yr.c 4 _ rfl
      have r5 := yr.c 5 _ rfl
      have r6 := yr.c 6 _ rfl
      have r7 := yr.c 7 _ rfl
      have r8 := yr.c 8 _ rfl
      have rf := yr.fz
      have y0 := yb.c 0 _ rfl
      have y1 := yb.c 1 _ rfl
      have y2 := yb.c 2 _ rfl
      have y3 := yb.c 3 _ rfl
      have y4 := yb.c 4 _ rfl
      have y5 := yb.c 5 _ rfl
      have y6 := yb.c 6 _ rfl
      have y7 := yb.c 7 _ rfl
      have y8 := yb.c 8 _ rfl
      clear yr yb
      go_wp2_with fail
      refine bodyPost_ret (v := .agg #[.int .i64 6, .int .i64 from_, .int .i64 0, .int .i64 0, .int .i64 fn, .slice va vn vc, .int .i64 0, .int .i64 0, .int .i64 0]) (by simp [results, Tryz.results59, go_sem, r0, r1, r2, r3, r4, r5, r6, r7, r8]) rfl ⟨_, _, _, rfl, ?_, ?_⟩
      · have OS := OC.out.sub (B' := fun b => w.heap.size ≤ b ∧ b ≠ w.heap.size) (fun b hb _ => by have hb' : w.heap.size + 1 < b := hb; exact ⟨by omega, by omega⟩)
        refine OSl.sub (B := fun b => w.heap.size ≤ b ∧ b ≠ w.heap.size) ?_ (fun b hb _ => hb.1)
        repeat (first | with_reducible exact OS | with_reducible refine OSl.set ?_ _ _ (fun h => absurd rfl h.2))
      · repeat (first | with_reducible exact HB.out | refine Below.setCell ?_ (by show w.heap.size ≤ w.heap.size; omega) _)

set_option maxHeartbeats 1000000 in
/-- The register of what stands j-th on the stack: the closure. -/
theorem stackAt_any {S xb : Nat} {gy : Int} (j : Int) (w : World) (c : w.cell? ⟨S, 0, none⟩ = some (.pointer (some ⟨xb, 0, none⟩))) (c3 : w.cell? ⟨xb, 3, none⟩ = some (.int .i64 gy)) (h : -1000 ≤ gy ∧ gy ≤ 1000) (k : -1000 ≤ j ∧ j ≤ 1000) :
    Calls Tryz.prog 57 #[.int .i64 j, .pointer (some ⟨S, 0, none⟩)] w fun e w' => e = .returned (.int .i64 (gy + j)) ∧ w' = w := by
  go_enter Tryz.func57, Tryz.ntmps57
  go_wp2_with fail
  refine (plainStack_any gy j _ h k).mono ?_
  rintro e w1 ⟨rfl, hw⟩
  rw [hw]
  clear hw
  go_wp2_with fail
  go_ret
  exact ⟨rfl, rfl⟩

end Go.Proofs.YtaimpljkbpnigaaGreatDoor
