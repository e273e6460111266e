/- Package lower: lower: what a reached pc becomes is put. Package lower: lower: what a reached pc becomes is put. Written by lwrhgen.py. Package lower: begin: a walk of nothing yet. Package lower: Lower, of whatever program and number. -/
import Derived.Test.YtaimpljkbpnigaaGreatDoorJ11a
import Derived.Test.YtaimpljkbpnigaaGreatDoorLwrI
import Derived.Deep.RegionWith
import Derived.Test.YtaimpljkbpnigaaGreatDoorJ11d
import Derived.Test.YtaimpljkbpnigaaGreatDoorJ10e
namespace Go.Proofs.YtaimpljkbpnigaaGreatDoor
open Go.RowKit
set_option linter.unusedVariables false

/-- The walk behind q pcs. -/
def LwAt (W : World) (xb fb base : Nat) (pa : Option Addr) (pn pc : Nat) (ha : Option Addr) (hn hc : Nat) (ps : List Fn) (fN : Nat) (gx gy : Int) (fl : List (Int × Int)) (gv : Value) (q : Nat) : Prop :=
  ∃ vC vM vW BC BM BW pl wl, WkIn W xb fb base (.slice pa pn pc) (.slice ha hn hc) gx gy gv (fN : Int) (gy + 8) fl.length vC vM vW BC BM BW (halfL ps fN (gx, gy, fl) q q) (lowN ps fN (gx, gy, fl) q).2.1 pl wl ∧
    (∀ a : Nat, a < q → 0 ≤ heightV ps (fN : Int) (a : Int) → pl.getD a 0 = atPc ps fN (gx, gy, fl) a) ∧ wl.length = fl.length ∧ ∀ a : Nat, q ≤ a → a < fl.length → ∃ l, wl[a]? = some l ∧ WaitI ps fN (gx, gy, fl) q a l
variable {W V : World} {xb fb base : Nat} {pa : Option Addr} {pn pc : Nat} {ha : Option Addr} {hn hc : Nat} {ps : List Fn} {fN : Nat} {gx gy : Int} {fl : List (Int × Int)} {gv : Value} {q : Nat}
theorem LwAt.gone (h : LwAt W xb fb base pa pn pc ha hn hc ps fN gx gy fl gv q) (hv : verV ps = 0) (e3 : ps.getD fN noFn = (gx, gy, fl)) (hq : q < fl.length) (hh : heightV ps (fN : Int) (q : Int) < 0) : LwAt W xb fb base pa pn pc ha hn hc ps fN gx gy fl gv (q + 1) := by
  obtain ⟨vC, vM, vW, BC, BM, BW, pl, wl, k, hp, hl, hw⟩ := h
  refine ⟨vC, vM, vW, BC, BM, BW, pl, wl, ?_, fun a ha h0 => hp a (by
    rcases Nat.lt_or_ge a q with h | h
    · exact h
    · have e : a = q := by omega
      rw [e] at h0
      omega) h0, hl, fun a h1 h2 => ?_⟩
  · rw [half_gone hv e3 hq hh, show (lowN ps fN (gx, gy, fl) (q + 1)).2.1 = (lowN ps fN (gx, gy, fl) q).2.1 by rw [lowN_gone hh]]
    exact k
  · obtain ⟨l, h3, h4⟩ := hw a (by omega) h2
    exact ⟨l, h3, h4.gone hh⟩
theorem LwAt.kept (h : LwAt W xb fb base pa pn pc ha hn hc ps fN gx gy fl gv q) (b : Below W.heap.size W V) : LwAt V xb fb base pa pn pc ha hn hc ps fN gx gy fl gv q := by
  obtain ⟨vC, vM, vW, BC, BM, BW, pl, wl, k, r⟩ := h
  exact ⟨vC, vM, vW, BC, BM, BW, pl, wl, k.kept b, r⟩
theorem pl_next {pl : List Int} (hp : ∀ a : Nat, a < q → 0 ≤ heightV ps (fN : Int) (a : Int) → pl.getD a 0 = atPc ps fN (gx, gy, fl) a) (hq : q < pl.length) : ∀ a : Nat, a < q + 1 → 0 ≤ heightV ps (fN : Int) (a : Int) → (pl.set q (atPc ps fN (gx, gy, fl) q)).getD a 0 = atPc ps fN (gx, gy, fl) a := by
  intro a ha h0
  rw [List.getD_eq_getElem?_getD, List.getElem?_set]
  by_cases e : q = a
  · subst e
    rw [if_pos rfl, if_pos hq]; rfl
  · rw [if_neg e, ← List.getD_eq_getElem?_getD]
    exact hp a (by omega) h0
/-- What is there ahead of a reached pc, once it is arrived at. -/
theorem half_bound (hq : q ≤ fl.length) (hl : fl.length ≤ 64) (a : Nat) : (halfL ps fN (gx, gy, fl) q a).length ≤ 128 := by
  rw [half_len]
  have := low_len ps fN (gx, gy, fl) q
  omega
/-- An instruction with its cost and its pc. -/
theorem lirV_put {T : Int} {K A : Int} (q : Nat) (hj : ¬ (K = 12 ∨ K = 13)) : oneV ps T (q : Int) (K, A) = ((lirV ps T (K, A)).1, (lirV ps T (K, A)).2.1, (lirV ps T (K, A)).2.2.1, (lirV ps T (K, A)).2.2.2.1, (lirV ps T (K, A)).2.2.2.2.1, (lirV ps T (K, A)).2.2.2.2.2.1, 1, 0, (q : Int)) := by
  have h12 : ¬ K = 12 := fun h => hj (.inl h)
  have h13 : ¬ K = 13 := fun h => hj (.inr h)
  unfold lirV oneV
  simp only [h12, h13, if_false, or_false]
  repeat' split
  all_goals rfl
theorem lirV_jump {T : Int} {K A : Int} (q : Nat) (p : Int) (hj : K = 12 ∨ K = 13) : setK (oneV ps T (q : Int) (K, A)) p = ((lirV ps T (K, A)).1, (lirV ps T (K, A)).2.1, (lirV ps T (K, A)).2.2.1, (lirV ps T (K, A)).2.2.2.1, p, (lirV ps T (K, A)).2.2.2.2.2.1, 1, 0, (q : Int)) := by
  rcases hj with rfl | rfl <;> rfl
theorem ir_all {w : World} {B : Nat → Prop} {cs : List Value} {kd r ra rb k cost mt ip : Int} {args : List Int} (h : layIr.owns w B cs (kd, r, ra, rb, k, args, cost, mt, ip)) : ∃ v, cs = [.int .i64 kd, .int .i64 r, .int .i64 ra, .int .i64 rb, .int .i64 k, v, .int .i64 cost, .int .i64 mt, .int .i64 ip] ∧ OSl layI 3 8 w B v args := by
  obtain ⟨c0, d0, A0, B0, rfl, -, k0, -, h0, c1, d1, A1, B1, rfl, -, k1, -, h1, c2, d2, A2, B2, rfl, -, k2, -, h2, c3, d3, A3, B3, rfl, -, k3, -, h3, c4, d4, A4, B4, rfl, -, k4, -, h4, c5, d5, A5, B5, rfl, k5, -, -, ⟨v, h5, o5⟩, c6, d6, A6, B6, rfl, -, -, -, h6, c7, d7, A7, B7, rfl, -, -, -, h7, h8⟩ := h
  have e0 : c0 = [.int .i64 kd] := h0
  have e1 : c1 = [.int .i64 r] := h1
  have e2 : c2 = [.int .i64 ra] := h2
  have e3 : c3 = [.int .i64 rb] := h3
  have e4 : c4 = [.int .i64 k] := h4
  have e6 : c6 = [.int .i64 cost] := h6
  have e7 : c7 = [.int .i64 mt] := h7
  have e8 : d7 = [.int .i64 ip] := h8
  subst e0 e1 e2 e3 e4 h5 e6 e7 e8
  exact ⟨v, rfl, o5.sub (fun b hb _ => k0 b (k1 b (k2 b (k3 b (k4 b (k5 b hb))))))⟩
/-- An instruction's cells: what it is, and its list. -/
theorem ir_turned {w : World} {B : Nat → Prop} {kd r ra rb k cost mt ip : Int} {v : Value} {y : IrT} (h : layIr.owns w B [.int .i64 kd, .int .i64 r, .int .i64 ra, .int .i64 rb, .int .i64 k, v, .int .i64 cost, .int .i64 mt, .int .i64 ip] y) :
    y = (kd, r, ra, rb, k, y.2.2.2.2.2.1, cost, mt, ip) ∧ OSl layI 3 8 w B v y.2.2.2.2.2.1 := by
  obtain ⟨kd', r', ra', rb', k', args, cost', mt', ip'⟩ := y
  obtain ⟨v', e, o⟩ := ir_all h
  simp only [List.cons.injEq, Value.int.injEq, true_and, and_true] at e
  obtain ⟨rfl, rfl, rfl, rfl, rfl, rfl, rfl, rfl, rfl⟩ := e
  exact ⟨rfl, o⟩

/-- The walk once a reached pc is arrived at: its place is written down, those that wait have it. -/
def LwMid (W : World) (xb fb base : Nat) (pa : Option Addr) (pn pc : Nat) (ha : Option Addr) (hn hc : Nat) (ps : List Fn) (fN : Nat) (gx gy : Int) (fl : List (Int × Int)) (gv : Value) (q : Nat) (vC vM vW : Value) (BC BM BW : Nat → Prop) (pl : List Int) (wl : List (List Int)) : Prop :=
  WkIn W xb fb base (.slice pa pn pc) (.slice ha hn hc) gx gy gv (fN : Int) (gy + 8) fl.length vC vM vW BC BM BW (halfL ps fN (gx, gy, fl) q (q + 1)) (lowN ps fN (gx, gy, fl) q).2.1 (pl.set q (atPc ps fN (gx, gy, fl) q)) wl ∧
    (∀ a : Nat, a < q → 0 ≤ heightV ps (fN : Int) (a : Int) → pl.getD a 0 = atPc ps fN (gx, gy, fl) a) ∧ wl.length = fl.length ∧ ∀ a : Nat, q ≤ a → a < fl.length → ∃ l, wl[a]? = some l ∧ WaitI ps fN (gx, gy, fl) q a l
theorem arrive_at (w : World) (h : LwAt w xb fb base pa pn pc ha hn hc ps fN gx gy fl gv q) (hq : q < fl.length) (hl64 : fl.length ≤ 64) :
    ∃ vC vM vW BC BM BW pl wl, WkIn w xb fb base (.slice pa pn pc) (.slice ha hn hc) gx gy gv (fN : Int) (gy + 8) fl.length vC vM vW BC BM BW (halfL ps fN (gx, gy, fl) q q) (lowN ps fN (gx, gy, fl) q).2.1 pl wl ∧
      ∀ U, Below w.heap.size w U → Calls Tryz.prog 40 #[.pointer (some ⟨xb, 0, none⟩), .int .i64 (q : Int)] U fun e w' => e = .returned (.tuple #[]) ∧ LwMid w' xb fb base pa pn pc ha hn hc ps fN gx gy fl gv q vC vM vW BC BM BW pl wl ∧ Frm (WkZ xb fb BC BM BW) U w' := by
  obtain ⟨vC, vM, vW, BC, BM, BW, pl, wl, k, hp, hl, hw⟩ := h
  obtain ⟨l, h1, h2⟩ := hw q (Nat.le_refl _) hq
  have hb := half_bound (ps := ps) (fN := fN) (gx := gx) (gy := gy) (Nat.le_of_lt hq) hl64 q
  refine ⟨vC, vM, vW, BC, BM, BW, pl, wl, k, fun U hU => (arrive_any U (k.kept hU) q hq hl64 l h1 (by have := h2.len; omega) (by omega) (by omega) (fun j hj => by have := h2.bound hj; rw [half_len]; exact this)).mono ?_⟩
  rintro e w' ⟨rfl, k', fr⟩
  refine ⟨rfl, ⟨?_, hp, hl, hw⟩, fr⟩
  have e1 : ((halfL ps fN (gx, gy, fl) q q).length : Int) = atPc ps fN (gx, gy, fl) q := by rw [half_len]; rfl
  rw [e1, arr_half h2] at k'
  exact k'
theorem WkIn.out {xb fb base : Nat} {pv hv gv vC vM vW : Value} {gx gy f rg : Int} {gn : Nat} {BC BM BW : Nat → Prop} {cl : List IrT} {ml : List (List PartT)} {pl : List Int} {wl : List (List Int)} (h : WkIn W xb fb base pv hv gx gy gv f rg gn vC vM vW BC BM BW cl ml pl wl) {b : Nat} (hb : W.heap.size ≤ b) : ¬ WkZ xb fb BC BM BW b := fun hs => by
  obtain ⟨h1, h2, h3, h4, h5, h6⟩ := h.far hb
  rcases hs with hs | hs | hs | hs | hs
  · exact h1 hs
  · exact h2 hs
  · exact h4 hs
  · exact h5 hs
  · exact h6 hs
/-- A box apart is written over. -/
theorem WkIn.setFar {xb fb base : Nat} {pv hv gv vC vM vW : Value} {gx gy f rg : Int} {gn : Nat} {BC BM BW : Nat → Prop} {cl : List IrT} {ml : List (List PartT)} {pl : List Int} {wl : List (List Int)} (h : WkIn W xb fb base pv hv gx gy gv f rg gn vC vM vW BC BM BW cl ml pl wl) {b o : Nat} {u : Value} (hb : ¬ WkZ xb fb BC BM BW b) : WkIn (W.setCell ⟨b, o, none⟩ u) xb fb base pv hv gx gy gv f rg gn vC vM vW BC BM BW cl ml pl wl :=
  h.frm (S := fun x => x = b) (Frm.set (p := ⟨b, o, none⟩) u rfl) (fun x hx => by
    subst hx
    exact .inl ⟨fun e => hb (.inl e), fun e => hb (.inr (.inl e)), fun e => hb (.inr (.inr (.inl e))), fun e => hb (.inr (.inr (.inr (.inl e)))), fun e => hb (.inr (.inr (.inr (.inr e))))⟩)

end Go.Proofs.YtaimpljkbpnigaaGreatDoor

namespace Go.Proofs.YtaimpljkbpnigaaGreatDoor
open Go.RowKit
set_option linter.unusedVariables false
variable {xb fb base : Nat} {pa : Option Addr} {pn pc : Nat} {ha : Option Addr} {hn hc : Nat} {ps : List Fn} {fN : Nat} {gx gy : Int} {fl : List (Int × Int)} {gv : Value} {q : Nat}

set_option maxRecDepth 100000 in
set_option maxHeartbeats 16000000 in
/-- What is no jump. -/
theorem lowerPlain_any (w : World) (h : LwAt w xb fb base pa pn pc ha hn hc ps fN gx gy fl gv q) (hp : ∀ u, Below base w u → Fns u pa pn pc ps) (hv : verV ps = 0) (e3 : ps.getD fN noFn = (gx, gy, fl)) (K A : Int) (hx : fl[q]? = some (K, A)) (hh : 0 ≤ heightV ps (fN : Int) (q : Int)) (hj : ¬ (K = 12 ∨ K = 13)) :
    Calls Tryz.prog 24 #[.pointer (some ⟨xb, 0, none⟩), .int .i64 (q : Int), .agg #[.int .i64 K, .int .i64 A], .int .i64 (heightV ps (fN : Int) (q : Int))] w fun e w' => e = .returned (.tuple #[]) ∧ LwAt w' xb fb base pa pn pc ha hn hc ps fN gx gy fl gv (q + 1) ∧ Below base w w' := by
  have ok := ins_ok hv hh e3 hx
  have HIN := hid (ins_in hv hh e3 hx)
  have hq := ok.hq.1
  have hl64 := ok.hq.2
  have hg := ok.hg
  have hkk := ok.kind
  have hht := ok.ht
  have HV := hid hv
  have E3 := hid e3
  have HX := hid hx
  have HH := hid hh
  have HP := hid hp
  have hb0 := half_bound (ps := ps) (fN := fN) (gx := gx) (gy := gy) (Nat.le_of_lt hq) hl64 (q + 1)
  have hmlen := (low_len ps fN (gx, gy, fl) q).2
  obtain ⟨ht, hHt⟩ : ∃ ht : Nat, heightV ps (fN : Int) (q : Int) = (ht : Int) := ⟨(heightV ps (fN : Int) (q : Int)).toNat, by omega⟩
  have HT := hid hHt
  obtain ⟨vC, vM, vW, BC, BM, BW, pl, wl, k0, arr⟩ := arrive_at w h hq hl64
  have K0 := hid k0
  have ARR := hid arr
  have nS := k0.out (b := w.heap.size) (Nat.le_refl _)
  have hbw : base ≤ w.heap.size := by have := k0.xlt; have := k0.bl; omega
  rw [hHt] at hht ⊢
  clear h hp hv e3 hx hh ok arr k0 hHt
  go_enter Tryz.func24, Tryz.ntmps24
  go_upto_region 1 with fail
  refine wp_name ?_
  intro U hU
  have AU : Hid (Below w.heap.size w U) := hid (by rw [hU]; go_grown)
  have i0 : U.cell? ⟨w.heap.size, 0, none⟩ = some (.int .i64 K) := by rw [hU]; simp [go_sem]
  have i1 : U.cell? ⟨w.heap.size, 1, none⟩ = some (.int .i64 A) := by rw [hU]; simp [go_sem]
  clear hU
  go_wp2_with fail
  refine (ARR.out U AU.out).mono ?_
  rintro e V ⟨rfl, mid, fr⟩
  have M := hid mid
  have FR := hid fr
  have BV : Hid (Below base w V) := hid ((AU.out.mono hbw).trans ((K0.out.kept AU.out).below fr))
  replace i0 := fr.cell i0 nS
  replace i1 := fr.cell i1 nS
  clear mid fr ARR
  have g12 : (K == 12) = false := by simp; omega
  have g13 : (K == 13) = false := by simp; omega
  go_wp2_with fail
  refine (irOf_any V M.out.1 ps (HP.out _ BV.out) K A (ht : Int) hg hht hkk HIN.out.1).mono ?_
  rintro e X ⟨kd, r, ra, rb, kk, a, n, c, rfl, ow, bX⟩
  obtain ⟨eir, oa⟩ := ir_turned ow
  have EIR := hid eir
  have OA := hid oa
  have BX := hid bX
  have hzX : V.heap.size ≤ X.heap.size := bX.size
  replace i0 := kept_cell bX i0
  replace i1 := kept_cell bX i1
  clear ow eir oa bX
  go_upto_region 7 with fail
  refine wp_name ?_
  intro Y hY
  have BY : Hid (Below X.heap.size X Y) := hid (by rw [hY]; go_grown)
  have YB : Hid (BoxAt Y X.heap.size [.int .i64 kd, .int .i64 r, .int .i64 ra, .int .i64 rb, .int .i64 kk, .slice a n c, .int .i64 1, .int .i64 0, .int .i64 (q : Int)]) := hid (by
    rw [hY]
    exact box9 (by simp [go_sem]) (by simp [go_sem]) (by simp [go_sem]) (by simp [go_sem]) (by simp [go_sem]) (by simp [go_sem]) (by simp [go_sem]) (by simp [go_sem]) (by simp [go_sem]) (fun j => by simp [go_sem]))
  have BXY := hid (kt BX.out BY.out)
  have OY := hid (OA.out.kept BY.out)
  replace i0 := kept_cell BY.out i0
  replace i1 := kept_cell BY.out i1
  clear hY OA
  have y0 := YB.out.c 0 _ rfl
  have y1 := YB.out.c 1 _ rfl
  have y2 := YB.out.c 2 _ rfl
  have y3 := YB.out.c 3 _ rfl
  have y4 := YB.out.c 4 _ rfl
  have y5 := YB.out.c 5 _ rfl
  have y6 := YB.out.c 6 _ rfl
  have y7 := YB.out.c 7 _ rfl
  have y8 := YB.out.c 8 _ rfl
  have KY := hid (M.out.1.kept BXY.out)
  go_wp2_with fail
  refine (lwPut_any (Bx := fun b => V.heap.size ≤ b ∧ b < X.heap.size) Y KY.out (by omega) kd r ra rb kk a n c 1 0 (q : Int) (oneV ps (gy + (ht : Int)) (q : Int) (K, A)) (by rw [lirV_put q hj, EIR.out]; exact ir_owns OY.out) (fun b hb => M.out.1.far hb.1)).mono ?_
  rintro e Z ⟨rfl, ⟨vC', BC', k', -⟩, fz⟩
  go_wp2_with fail
  go_end0
  refine ⟨rfl, ⟨vC', vM, vW, BC', BM, BW, _, wl, ?_, pl_next M.out.2.1 (by have := M.out.1.pls.len; rw [List.length_set] at this; omega), M.out.2.2.1, fun b h1 h2 => ?_⟩, (BV.out.trans (BXY.out.mono (by have := BV.out.size; omega))).trans (KY.out.below fz)⟩
  · have hb : backB (q : Int) (K, A) = false := decide_eq_false (fun h => hj h.1)
    rw [half_on HH.out HX.out hb, show (lowN ps fN (gx, gy, fl) (q + 1)).2.1 = (lowN ps fN (gx, gy, fl) q).2.1 by rw [lowN_on (Int.not_lt.2 HH.out) HX.out hb], way_one, if_neg hj, HT.out]
    exact k'
  · obtain ⟨l, h3, h4⟩ := M.out.2.2.2 b (by omega) h2
    exact ⟨l, h3, h4.on HH.out HX.out (by omega) (fun h => hj h.1)⟩

set_option maxRecDepth 100000 in
set_option maxHeartbeats 16000000 in
/-- A jump ahead. -/
theorem lowerOn12_any (w : World) (h : LwAt w xb fb base pa pn pc ha hn hc ps fN gx gy fl gv q) (hp : ∀ u, Below base w u → Fns u pa pn pc ps) (hv : verV ps = 0) (e3 : ps.getD fN noFn = (gx, gy, fl)) (A : Int) (hx : fl[q]? = some (12, A)) (hh : 0 ≤ heightV ps (fN : Int) (q : Int)) (hA : (q : Int) < A) :
    Calls Tryz.prog 24 #[.pointer (some ⟨xb, 0, none⟩), .int .i64 (q : Int), .agg #[.int .i64 12, .int .i64 A], .int .i64 (heightV ps (fN : Int) (q : Int))] w fun e w' => e = .returned (.tuple #[]) ∧ LwAt w' xb fb base pa pn pc ha hn hc ps fN gx gy fl gv (q + 1) ∧ Below base w w' := by
  have ok := ins_ok hv hh e3 hx
  have HIN := hid (ins_in hv hh e3 hx)
  have hq := ok.hq.1
  have hl64 := ok.hq.2
  have hg := ok.hg
  have hkk := ok.kind
  have hht := ok.ht
  have HV := hid hv
  have E3 := hid e3
  have HX := hid hx
  have HH := hid hh
  have HP := hid hp
  have hb0 := half_bound (ps := ps) (fN := fN) (gx := gx) (gy := gy) (Nat.le_of_lt hq) hl64 (q + 1)
  have hmlen := (low_len ps fN (gx, gy, fl) q).2
  obtain ⟨ht, hHt⟩ : ∃ ht : Nat, heightV ps (fN : Int) (q : Int) = (ht : Int) := ⟨(heightV ps (fN : Int) (q : Int)).toNat, by omega⟩
  have HT := hid hHt
  obtain ⟨vC, vM, vW, BC, BM, BW, pl, wl, k0, arr⟩ := arrive_at w h hq hl64
  have K0 := hid k0
  have ARR := hid arr
  have nS := k0.out (b := w.heap.size) (Nat.le_refl _)
  have hbw : base ≤ w.heap.size := by have := k0.xlt; have := k0.bl; omega
  rw [hHt] at hht ⊢
  clear h hp hv e3 hx hh ok arr k0 hHt
  go_enter Tryz.func24, Tryz.ntmps24
  go_upto_region 1 with fail
  refine wp_name ?_
  intro U hU
  have AU : Hid (Below w.heap.size w U) := hid (by rw [hU]; go_grown)
  have i0 : U.cell? ⟨w.heap.size, 0, none⟩ = some (.int .i64 12) := by rw [hU]; simp [go_sem]
  have i1 : U.cell? ⟨w.heap.size, 1, none⟩ = some (.int .i64 A) := by rw [hU]; simp [go_sem]
  clear hU
  go_wp2_with fail
  refine (ARR.out U AU.out).mono ?_
  rintro e V ⟨rfl, mid, fr⟩
  have M := hid mid
  have FR := hid fr
  have BV : Hid (Below base w V) := hid ((AU.out.mono hbw).trans ((K0.out.kept AU.out).below fr))
  replace i0 := fr.cell i0 nS
  replace i1 := fr.cell i1 nS
  clear mid fr ARR
  have d0 : decide (A ≤ (q : Int)) = false := by simp; omega
  go_wp2_with fail
  refine (irOf_any V M.out.1 ps (HP.out _ BV.out) _ A (ht : Int) hg hht hkk HIN.out.1).mono ?_
  rintro e X ⟨kd, r, ra, rb, kk, a, n, c, rfl, ow, bX⟩
  obtain ⟨eir, oa⟩ := ir_turned ow
  have EIR := hid eir
  have OA := hid oa
  have BX := hid bX
  have hzX : V.heap.size ≤ X.heap.size := bX.size
  replace i0 := kept_cell bX i0
  replace i1 := kept_cell bX i1
  clear ow eir oa bX
  go_upto_region 7 with fail
  refine wp_name ?_
  intro Y hY
  have BY : Hid (Below X.heap.size X Y) := hid (by rw [hY]; go_grown)
  have YB : Hid (BoxAt Y X.heap.size [.int .i64 kd, .int .i64 r, .int .i64 ra, .int .i64 rb, .int .i64 kk, .slice a n c, .int .i64 1, .int .i64 0, .int .i64 (q : Int)]) := hid (by
    rw [hY]
    exact box9 (by simp [go_sem]) (by simp [go_sem]) (by simp [go_sem]) (by simp [go_sem]) (by simp [go_sem]) (by simp [go_sem]) (by simp [go_sem]) (by simp [go_sem]) (by simp [go_sem]) (fun j => by simp [go_sem]))
  have BXY := hid (kt BX.out BY.out)
  have OY := hid (OA.out.kept BY.out)
  replace i0 := kept_cell BY.out i0
  replace i1 := kept_cell BY.out i1
  clear hY OA
  obtain ⟨aN, rfl⟩ : ∃ aN : Nat, A = aN := ⟨A.toNat, by omega⟩
  have haN : aN < fl.length := by have h1 : ((aN : Nat) : Int) < fl.length := (HIN.out.2 (by first | exact Or.inl rfl | exact Or.inr rfl | simp)).2; omega
  obtain ⟨l, hl1, hl2⟩ := M.out.2.2.2 aN (by omega) haN
  have KY := hid (M.out.1.kept BXY.out)
  have WL := M.out.2.2.1
  go_wp2_with fail
  refine (leadOn_any Y KY.out aN q (by omega) (by omega) l hl1 (by have := hl2.len; omega) (by omega) (by omega)).mono ?_
  rintro e L ⟨rfl, ⟨BW', k1, kb⟩, fl1⟩
  have hzY : X.heap.size < Y.heap.size := lt_of_cell (YB.out.c 0 _ rfl)
  have nI : ¬ WkZ xb fb BC BM BW X.heap.size := M.out.1.out hzX
  have LB := hid (YB.out.frm (fl1.block _ hzY nI))
  have nI' : ¬ WkZ xb fb BC BM BW' X.heap.size := fun hs => by
    rcases hs with hs | hs | hs | hs | hs
    · exact nI (.inl hs)
    · exact nI (.inr (.inl hs))
    · exact nI (.inr (.inr (.inl hs)))
    · exact nI (.inr (.inr (.inr (.inl hs))))
    · rcases kb _ hs with h | h
      · exact nI (.inr (.inr (.inr (.inr h))))
      · omega
  have K1 := hid k1
  have KB := hid kb
  have FL := hid fl1
  have BYL := hid (KY.out.below fl1)
  have y4 := LB.out.c 4 _ rfl
  have y4f := LB.out.fz 4
  clear k1 kb fl1 i0 i1
  go_upto_region 9 with fail
  refine wp_name ?_
  intro D hD
  have DB : Hid (BoxAt D X.heap.size [.int .i64 kd, .int .i64 r, .int .i64 ra, .int .i64 rb, .int .i64 0, .slice a n c, .int .i64 1, .int .i64 0, .int .i64 (q : Int)]) := hid (by rw [hD]; exact LB.out.set 4 _)
  have KD : Hid (WkIn D xb fb base (.slice pa pn pc) (.slice ha hn hc) gx gy gv (fN : Int) (gy + 8) fl.length vC vM vW BC BM BW' (halfL ps fN (gx, gy, fl) q (q + 1)) (lowN ps fN (gx, gy, fl) q).2.1 (pl.set q (atPc ps fN (gx, gy, fl) q)) (wl.set aN (l ++ [((halfL ps fN (gx, gy, fl) q (q + 1)).length : Int)]))) := hid (by rw [hD]; exact K1.out.setFar nI')
  have OD : Hid (OSl layI 3 8 D (fun b => V.heap.size ≤ b ∧ b < X.heap.size) (.slice a n c) (lirV ps (gy + (ht : Int)) (12, (aN : Int))).2.2.2.2.2.1) := hid (by
    rw [hD]
    exact (OY.out.frm (fun b hb hl => FL.out.block b hl (M.out.1.out hb.1))).set _ _ (fun hb => by have h1 : X.heap.size < X.heap.size := hb.2; omega))
  have BD : Hid (Below base L D) := hid (by rw [hD]; exact (Below.refl _ _).setCell (by show base ≤ X.heap.size; have := BV.out.size; omega) _)
  clear hD y4 y4f
  have y0 := DB.out.c 0 _ rfl
  have y1 := DB.out.c 1 _ rfl
  have y2 := DB.out.c 2 _ rfl
  have y3 := DB.out.c 3 _ rfl
  have y4 := DB.out.c 4 _ rfl
  have y5 := DB.out.c 5 _ rfl
  have y6 := DB.out.c 6 _ rfl
  have y7 := DB.out.c 7 _ rfl
  have y8 := DB.out.c 8 _ rfl
  go_wp2_with fail
  refine (lwPut_any (Bx := fun b => V.heap.size ≤ b ∧ b < X.heap.size) D KD.out (by omega) kd r ra rb 0 a n c 1 0 (q : Int) (setK (oneV ps (gy + (ht : Int)) (q : Int) (12, (aN : Int))) 0) (by rw [lirV_jump q 0 (by first | exact Or.inl rfl | exact Or.inr rfl), EIR.out]; exact ir_owns OD.out) (fun b hb => by
    obtain ⟨h1, h2, h3, h4, h5, h6⟩ := M.out.1.far hb.1
    exact ⟨h1, h2, h3, h4, h5, fun h => by rcases KB.out b h with h | h; exact h6 h; have := hb.2; omega⟩)).mono ?_
  rintro e Z ⟨rfl, ⟨vC', BC', k', -⟩, fz⟩
  go_wp2_with fail
  go_end0
  refine ⟨rfl, ⟨vC', vM, vW, BC', BM, BW', _, wl.set aN (l ++ [((halfL ps fN (gx, gy, fl) q (q + 1)).length : Int)]), ?_, pl_next M.out.2.1 (by have := M.out.1.pls.len; rw [List.length_set] at this; omega), by rw [List.length_set]; exact M.out.2.2.1, fun b h1 h2 => ?_⟩, (((BV.out.trans (BXY.out.mono (by have := BV.out.size; omega))).trans BYL.out).trans BD.out).trans (KD.out.below fz)⟩
  · have hb : backB (q : Int) (12, (aN : Int)) = false := decide_eq_false (fun h => by have := h.2; omega)
    rw [half_on HH.out HX.out hb, show (lowN ps fN (gx, gy, fl) (q + 1)).2.1 = (lowN ps fN (gx, gy, fl) q).2.1 by rw [lowN_on (Int.not_lt.2 HH.out) HX.out hb], way_one, if_pos (by first | exact Or.inl rfl | exact Or.inr rfl), if_neg (by omega), HT.out]
    exact k'
  · by_cases e : b = aN
    · subst e
      refine ⟨_, by rw [List.getElem?_set_self (by omega)], ?_⟩
      rw [half_len]
      exact hl2.add HH.out HX.out (by omega) (by first | exact Or.inl rfl | exact Or.inr rfl)
    · obtain ⟨l', h3, h4⟩ := M.out.2.2.2 b (by omega) h2
      exact ⟨l', by rw [List.getElem?_set_ne (fun h => e h.symm)]; exact h3, h4.on HH.out HX.out (by omega) (fun h => e (by have := h.2; omega))⟩

set_option maxRecDepth 100000 in
set_option maxHeartbeats 16000000 in
/-- A zero ahead. -/
theorem lowerOn13_any (w : World) (h : LwAt w xb fb base pa pn pc ha hn hc ps fN gx gy fl gv q) (hp : ∀ u, Below base w u → Fns u pa pn pc ps) (hv : verV ps = 0) (e3 : ps.getD fN noFn = (gx, gy, fl)) (A : Int) (hx : fl[q]? = some (13, A)) (hh : 0 ≤ heightV ps (fN : Int) (q : Int)) (hA : (q : Int) < A) :
    Calls Tryz.prog 24 #[.pointer (some ⟨xb, 0, none⟩), .int .i64 (q : Int), .agg #[.int .i64 13, .int .i64 A], .int .i64 (heightV ps (fN : Int) (q : Int))] w fun e w' => e = .returned (.tuple #[]) ∧ LwAt w' xb fb base pa pn pc ha hn hc ps fN gx gy fl gv (q + 1) ∧ Below base w w' := by
  have ok := ins_ok hv hh e3 hx
  have HIN := hid (ins_in hv hh e3 hx)
  have hq := ok.hq.1
  have hl64 := ok.hq.2
  have hg := ok.hg
  have hkk := ok.kind
  have hht := ok.ht
  have HV := hid hv
  have E3 := hid e3
  have HX := hid hx
  have HH := hid hh
  have HP := hid hp
  have hb0 := half_bound (ps := ps) (fN := fN) (gx := gx) (gy := gy) (Nat.le_of_lt hq) hl64 (q + 1)
  have hmlen := (low_len ps fN (gx, gy, fl) q).2
  obtain ⟨ht, hHt⟩ : ∃ ht : Nat, heightV ps (fN : Int) (q : Int) = (ht : Int) := ⟨(heightV ps (fN : Int) (q : Int)).toNat, by omega⟩
  have HT := hid hHt
  obtain ⟨vC, vM, vW, BC, BM, BW, pl, wl, k0, arr⟩ := arrive_at w h hq hl64
  have K0 := hid k0
  have ARR := hid arr
  have nS := k0.out (b := w.heap.size) (Nat.le_refl _)
  have hbw : base ≤ w.heap.size := by have := k0.xlt; have := k0.bl; omega
  rw [hHt] at hht ⊢
  clear h hp hv e3 hx hh ok arr k0 hHt
  go_enter Tryz.func24, Tryz.ntmps24
  go_upto_region 1 with fail
  refine wp_name ?_
  intro U hU
  have AU : Hid (Below w.heap.size w U) := hid (by rw [hU]; go_grown)
  have i0 : U.cell? ⟨w.heap.size, 0, none⟩ = some (.int .i64 13) := by rw [hU]; simp [go_sem]
  have i1 : U.cell? ⟨w.heap.size, 1, none⟩ = some (.int .i64 A) := by rw [hU]; simp [go_sem]
  clear hU
  go_wp2_with fail
  refine (ARR.out U AU.out).mono ?_
  rintro e V ⟨rfl, mid, fr⟩
  have M := hid mid
  have FR := hid fr
  have BV : Hid (Below base w V) := hid ((AU.out.mono hbw).trans ((K0.out.kept AU.out).below fr))
  replace i0 := fr.cell i0 nS
  replace i1 := fr.cell i1 nS
  clear mid fr ARR
  have d0 : decide (A ≤ (q : Int)) = false := by simp; omega
  go_wp2_with fail
  refine (irOf_any V M.out.1 ps (HP.out _ BV.out) _ A (ht : Int) hg hht hkk HIN.out.1).mono ?_
  rintro e X ⟨kd, r, ra, rb, kk, a, n, c, rfl, ow, bX⟩
  obtain ⟨eir, oa⟩ := ir_turned ow
  have EIR := hid eir
  have OA := hid oa
  have BX := hid bX
  have hzX : V.heap.size ≤ X.heap.size := bX.size
  replace i0 := kept_cell bX i0
  replace i1 := kept_cell bX i1
  clear ow eir oa bX
  go_upto_region 7 with fail
  refine wp_name ?_
  intro Y hY
  have BY : Hid (Below X.heap.size X Y) := hid (by rw [hY]; go_grown)
  have YB : Hid (BoxAt Y X.heap.size [.int .i64 kd, .int .i64 r, .int .i64 ra, .int .i64 rb, .int .i64 kk, .slice a n c, .int .i64 1, .int .i64 0, .int .i64 (q : Int)]) := hid (by
    rw [hY]
    exact box9 (by simp [go_sem]) (by simp [go_sem]) (by simp [go_sem]) (by simp [go_sem]) (by simp [go_sem]) (by simp [go_sem]) (by simp [go_sem]) (by simp [go_sem]) (by simp [go_sem]) (fun j => by simp [go_sem]))
  have BXY := hid (kt BX.out BY.out)
  have OY := hid (OA.out.kept BY.out)
  replace i0 := kept_cell BY.out i0
  replace i1 := kept_cell BY.out i1
  clear hY OA
  obtain ⟨aN, rfl⟩ : ∃ aN : Nat, A = aN := ⟨A.toNat, by omega⟩
  have haN : aN < fl.length := by have h1 : ((aN : Nat) : Int) < fl.length := (HIN.out.2 (by first | exact Or.inl rfl | exact Or.inr rfl | simp)).2; omega
  obtain ⟨l, hl1, hl2⟩ := M.out.2.2.2 aN (by omega) haN
  have KY := hid (M.out.1.kept BXY.out)
  have WL := M.out.2.2.1
  go_wp2_with fail
  refine (leadOn_any Y KY.out aN q (by omega) (by omega) l hl1 (by have := hl2.len; omega) (by omega) (by omega)).mono ?_
  rintro e L ⟨rfl, ⟨BW', k1, kb⟩, fl1⟩
  have hzY : X.heap.size < Y.heap.size := lt_of_cell (YB.out.c 0 _ rfl)
  have nI : ¬ WkZ xb fb BC BM BW X.heap.size := M.out.1.out hzX
  have LB := hid (YB.out.frm (fl1.block _ hzY nI))
  have nI' : ¬ WkZ xb fb BC BM BW' X.heap.size := fun hs => by
    rcases hs with hs | hs | hs | hs | hs
    · exact nI (.inl hs)
    · exact nI (.inr (.inl hs))
    · exact nI (.inr (.inr (.inl hs)))
    · exact nI (.inr (.inr (.inr (.inl hs))))
    · rcases kb _ hs with h | h
      · exact nI (.inr (.inr (.inr (.inr h))))
      · omega
  have K1 := hid k1
  have KB := hid kb
  have FL := hid fl1
  have BYL := hid (KY.out.below fl1)
  have y4 := LB.out.c 4 _ rfl
  have y4f := LB.out.fz 4
  clear k1 kb fl1 i0 i1
  go_upto_region 9 with fail
  refine wp_name ?_
  intro D hD
  have DB : Hid (BoxAt D X.heap.size [.int .i64 kd, .int .i64 r, .int .i64 ra, .int .i64 rb, .int .i64 0, .slice a n c, .int .i64 1, .int .i64 0, .int .i64 (q : Int)]) := hid (by rw [hD]; exact LB.out.set 4 _)
  have KD : Hid (WkIn D xb fb base (.slice pa pn pc) (.slice ha hn hc) gx gy gv (fN : Int) (gy + 8) fl.length vC vM vW BC BM BW' (halfL ps fN (gx, gy, fl) q (q + 1)) (lowN ps fN (gx, gy, fl) q).2.1 (pl.set q (atPc ps fN (gx, gy, fl) q)) (wl.set aN (l ++ [((halfL ps fN (gx, gy, fl) q (q + 1)).length : Int)]))) := hid (by rw [hD]; exact K1.out.setFar nI')
  have OD : Hid (OSl layI 3 8 D (fun b => V.heap.size ≤ b ∧ b < X.heap.size) (.slice a n c) (lirV ps (gy + (ht : Int)) (13, (aN : Int))).2.2.2.2.2.1) := hid (by
    rw [hD]
    exact (OY.out.frm (fun b hb hl => FL.out.block b hl (M.out.1.out hb.1))).set _ _ (fun hb => by have h1 : X.heap.size < X.heap.size := hb.2; omega))
  have BD : Hid (Below base L D) := hid (by rw [hD]; exact (Below.refl _ _).setCell (by show base ≤ X.heap.size; have := BV.out.size; omega) _)
  clear hD y4 y4f
  have y0 := DB.out.c 0 _ rfl
  have y1 := DB.out.c 1 _ rfl
  have y2 := DB.out.c 2 _ rfl
  have y3 := DB.out.c 3 _ rfl
  have y4 := DB.out.c 4 _ rfl
  have y5 := DB.out.c 5 _ rfl
  have y6 := DB.out.c 6 _ rfl
  have y7 := DB.out.c 7 _ rfl
  have y8 := DB.out.c 8 _ rfl
  go_wp2_with fail
  refine (lwPut_any (Bx := fun b => V.heap.size ≤ b ∧ b < X.heap.size) D KD.out (by omega) kd r ra rb 0 a n c 1 0 (q : Int) (setK (oneV ps (gy + (ht : Int)) (q : Int) (13, (aN : Int))) 0) (by rw [lirV_jump q 0 (by first | exact Or.inl rfl | exact Or.inr rfl), EIR.out]; exact ir_owns OD.out) (fun b hb => by
    obtain ⟨h1, h2, h3, h4, h5, h6⟩ := M.out.1.far hb.1
    exact ⟨h1, h2, h3, h4, h5, fun h => by rcases KB.out b h with h | h; exact h6 h; have := hb.2; omega⟩)).mono ?_
  rintro e Z ⟨rfl, ⟨vC', BC', k', -⟩, fz⟩
  go_wp2_with fail
  go_end0
  refine ⟨rfl, ⟨vC', vM, vW, BC', BM, BW', _, wl.set aN (l ++ [((halfL ps fN (gx, gy, fl) q (q + 1)).length : Int)]), ?_, pl_next M.out.2.1 (by have := M.out.1.pls.len; rw [List.length_set] at this; omega), by rw [List.length_set]; exact M.out.2.2.1, fun b h1 h2 => ?_⟩, (((BV.out.trans (BXY.out.mono (by have := BV.out.size; omega))).trans BYL.out).trans BD.out).trans (KD.out.below fz)⟩
  · have hb : backB (q : Int) (13, (aN : Int)) = false := decide_eq_false (fun h => by have := h.2; omega)
    rw [half_on HH.out HX.out hb, show (lowN ps fN (gx, gy, fl) (q + 1)).2.1 = (lowN ps fN (gx, gy, fl) q).2.1 by rw [lowN_on (Int.not_lt.2 HH.out) HX.out hb], way_one, if_pos (by first | exact Or.inl rfl | exact Or.inr rfl), if_neg (by omega), HT.out]
    exact k'
  · by_cases e : b = aN
    · subst e
      refine ⟨_, by rw [List.getElem?_set_self (by omega)], ?_⟩
      rw [half_len]
      exact hl2.add HH.out HX.out (by omega) (by first | exact Or.inl rfl | exact Or.inr rfl)
    · obtain ⟨l', h3, h4⟩ := M.out.2.2.2 b (by omega) h2
      exact ⟨l', by rw [List.getElem?_set_ne (fun h => e h.symm)]; exact h3, h4.on HH.out HX.out (by omega) (fun h => e (by have := h.2; omega))⟩

set_option maxRecDepth 100000 in
set_option maxHeartbeats 16000000 in
/-- A jump back. -/
theorem lowerBack12_any (w : World) (h : LwAt w xb fb base pa pn pc ha hn hc ps fN gx gy fl gv q) (hp : ∀ u, Below base w u → Fns u pa pn pc ps) (hv : verV ps = 0) (e3 : ps.getD fN noFn = (gx, gy, fl)) (A : Int) (hx : fl[q]? = some (12, A)) (hh : 0 ≤ heightV ps (fN : Int) (q : Int)) (hA : A ≤ (q : Int)) :
    Calls Tryz.prog 24 #[.pointer (some ⟨xb, 0, none⟩), .int .i64 (q : Int), .agg #[.int .i64 12, .int .i64 A], .int .i64 (heightV ps (fN : Int) (q : Int))] w fun e w' => e = .returned (.tuple #[]) ∧ LwAt w' xb fb base pa pn pc ha hn hc ps fN gx gy fl gv (q + 1) ∧ Below base w w' := by
  have ok := ins_ok hv hh e3 hx
  have HIN := hid (ins_in hv hh e3 hx)
  have hq := ok.hq.1
  have hl64 := ok.hq.2
  have hg := ok.hg
  have hkk := ok.kind
  have hht := ok.ht
  have HV := hid hv
  have E3 := hid e3
  have HX := hid hx
  have HH := hid hh
  have HP := hid hp
  have hb0 := half_bound (ps := ps) (fN := fN) (gx := gx) (gy := gy) (Nat.le_of_lt hq) hl64 (q + 1)
  have hmlen := (low_len ps fN (gx, gy, fl) q).2
  obtain ⟨ht, hHt⟩ : ∃ ht : Nat, heightV ps (fN : Int) (q : Int) = (ht : Int) := ⟨(heightV ps (fN : Int) (q : Int)).toNat, by omega⟩
  have HT := hid hHt
  obtain ⟨vC, vM, vW, BC, BM, BW, pl, wl, k0, arr⟩ := arrive_at w h hq hl64
  have K0 := hid k0
  have ARR := hid arr
  have nS := k0.out (b := w.heap.size) (Nat.le_refl _)
  have hbw : base ≤ w.heap.size := by have := k0.xlt; have := k0.bl; omega
  rw [hHt] at hht ⊢
  clear h hp hv e3 hx hh ok arr k0 hHt
  go_enter Tryz.func24, Tryz.ntmps24
  go_upto_region 1 with fail
  refine wp_name ?_
  intro U hU
  have AU : Hid (Below w.heap.size w U) := hid (by rw [hU]; go_grown)
  have i0 : U.cell? ⟨w.heap.size, 0, none⟩ = some (.int .i64 12) := by rw [hU]; simp [go_sem]
  have i1 : U.cell? ⟨w.heap.size, 1, none⟩ = some (.int .i64 A) := by rw [hU]; simp [go_sem]
  clear hU
  go_wp2_with fail
  refine (ARR.out U AU.out).mono ?_
  rintro e V ⟨rfl, mid, fr⟩
  have M := hid mid
  have FR := hid fr
  have BV : Hid (Below base w V) := hid ((AU.out.mono hbw).trans ((K0.out.kept AU.out).below fr))
  replace i0 := fr.cell i0 nS
  replace i1 := fr.cell i1 nS
  clear mid fr ARR
  have d0 : decide (A ≤ (q : Int)) = true := by simp; omega
  obtain ⟨aN, rfl⟩ : ∃ aN : Nat, A = aN := ⟨A.toNat, by have h1 : 0 ≤ A := (HIN.out.2 (by first | exact Or.inl rfl | exact Or.inr rfl | simp)).1; omega⟩
  obtain ⟨a', ea, haN, hh0, hpl, -⟩ := jump_place HV.out E3.out HH.out HX.out (by first | exact Or.inl rfl | exact Or.inr rfl)
  obtain rfl : aN = a' := by omega
  have VAL : Hid ((pl.set q (atPc ps fN (gx, gy, fl) q)).getD aN 0 = atPc ps fN (gx, gy, fl) aN) := hid (pl_next M.out.2.1 (by have := M.out.1.pls.len; rw [List.length_set] at this; omega) aN (by omega) hh0)
  clear ea hpl hh0
  go_wp2_with fail
  refine (poll_any V M.out.1 (by omega) (by omega) q ht hg (by omega)).mono ?_
  rintro e P ⟨rfl, ⟨vC1, vM1, BC1, BM1, k1, kc, km⟩, fp⟩
  replace i0 := fp.cell i0 nS
  replace i1 := fp.cell i1 nS
  have K1 := hid k1
  have BP : Hid (Below base w P) := hid (BV.out.trans (M.out.1.below fp))
  clear k1 kc km fp
  go_wp2_with fail
  refine (irOf_any P K1.out ps (HP.out _ BP.out) _ _ (ht : Int) hg hht hkk HIN.out.1).mono ?_
  rintro e X ⟨kd, r, ra, rb, kk, a, n, c, rfl, ow, bX⟩
  obtain ⟨eir, oa⟩ := ir_turned ow
  have EIR := hid eir
  have OA := hid oa
  have BX := hid bX
  have hzX : P.heap.size ≤ X.heap.size := bX.size
  replace i0 := kept_cell bX i0
  replace i1 := kept_cell bX i1
  clear ow eir oa bX
  go_upto_region 7 with fail
  refine wp_name ?_
  intro Y hY
  have BY : Hid (Below X.heap.size X Y) := hid (by rw [hY]; go_grown)
  have YB : Hid (BoxAt Y X.heap.size [.int .i64 kd, .int .i64 r, .int .i64 ra, .int .i64 rb, .int .i64 kk, .slice a n c, .int .i64 1, .int .i64 0, .int .i64 (q : Int)]) := hid (by
    rw [hY]
    exact box9 (by simp [go_sem]) (by simp [go_sem]) (by simp [go_sem]) (by simp [go_sem]) (by simp [go_sem]) (by simp [go_sem]) (by simp [go_sem]) (by simp [go_sem]) (by simp [go_sem]) (fun j => by simp [go_sem]))
  have BXY := hid (kt BX.out BY.out)
  have OY := hid (OA.out.kept BY.out)
  replace i0 := kept_cell BY.out i0
  replace i1 := kept_cell BY.out i1
  clear hY OA
  have KY := hid (K1.out.kept BXY.out)
  have y4 := YB.out.c 4 _ rfl
  have y4f := YB.out.fz 4
  go_wp2_with fail
  refine (leadBack_any Y KY.out aN q (by omega) haN (by omega)).mono ?_
  rintro e L ⟨rfl, hL⟩
  rw [VAL.out, hL]
  clear hL i0 i1
  have nI : ¬ WkZ xb fb BC1 BM1 BW X.heap.size := K1.out.out hzX
  go_upto_region 9 with fail
  refine wp_name ?_
  intro D hD
  have DB : Hid (BoxAt D X.heap.size [.int .i64 kd, .int .i64 r, .int .i64 ra, .int .i64 rb, .int .i64 (atPc ps fN (gx, gy, fl) aN), .slice a n c, .int .i64 1, .int .i64 0, .int .i64 (q : Int)]) := hid (by rw [hD]; exact YB.out.set 4 _)
  have KD := hid (show WkIn D xb fb base _ _ gx gy gv (fN : Int) (gy + 8) fl.length _ _ vW BC1 BM1 BW _ _ _ wl from by rw [hD]; exact KY.out.setFar nI)
  have OD : Hid (OSl layI 3 8 D (fun b => P.heap.size ≤ b ∧ b < X.heap.size) (.slice a n c) (lirV ps (gy + (ht : Int)) (12, (aN : Int))).2.2.2.2.2.1) := hid (by
    rw [hD]
    exact OY.out.set _ _ (fun hb => by have h1 : X.heap.size < X.heap.size := hb.2; omega))
  have BD : Hid (Below base Y D) := hid (by rw [hD]; exact (Below.refl _ _).setCell (by show base ≤ X.heap.size; have := BP.out.size; omega) _)
  clear hD y4 y4f
  have y0 := DB.out.c 0 _ rfl
  have y1 := DB.out.c 1 _ rfl
  have y2 := DB.out.c 2 _ rfl
  have y3 := DB.out.c 3 _ rfl
  have y4 := DB.out.c 4 _ rfl
  have y5 := DB.out.c 5 _ rfl
  have y6 := DB.out.c 6 _ rfl
  have y7 := DB.out.c 7 _ rfl
  have y8 := DB.out.c 8 _ rfl
  go_wp2_with fail
  refine (lwPut_any (Bx := fun b => P.heap.size ≤ b ∧ b < X.heap.size) D KD.out (by rw [List.length_append]; simp; omega) kd r ra rb (atPc ps fN (gx, gy, fl) aN) a n c 1 0 (q : Int) (setK (oneV ps (gy + (ht : Int)) (q : Int) (12, (aN : Int))) (atPc ps fN (gx, gy, fl) aN)) (by rw [lirV_jump q _ (by first | exact Or.inl rfl | exact Or.inr rfl), EIR.out]; exact ir_owns OD.out) (fun b hb => K1.out.far hb.1)).mono ?_
  rintro e Z ⟨rfl, ⟨vC', BC', k', -⟩, fz⟩
  go_wp2_with fail
  go_end0
  refine ⟨rfl, ⟨vC', vM1, vW, BC', BM1, BW, _, wl, ?_, pl_next M.out.2.1 (by have := M.out.1.pls.len; rw [List.length_set] at this; omega), M.out.2.2.1, fun b h1 h2 => ?_⟩, ((BP.out.trans (BXY.out.mono (by have := BP.out.size; omega))).trans BD.out).trans (KD.out.below fz)⟩
  · have hb : backB (q : Int) (12, (aN : Int)) = true := decide_eq_true ⟨(by first | exact Or.inl rfl | exact Or.inr rfl), hA⟩
    have hm : (lowN ps fN (gx, gy, fl) (q + 1)).2.1 = (lowN ps fN (gx, gy, fl) q).2.1 ++ [[((fN : Int), (q : Int), rowsV 0 gy.toNat, rowsV gy ht)]] := by
      rw [lowN_back (Int.not_lt.2 HH.out) HX.out hb]
      show _ ++ [[plainV ps (fN : Int) (q : Int) 0 0]] = _
      unfold plainV
      rw [Int.toNat_natCast, E3.out, HT.out]
      simp only [Int.zero_add, Int.sub_zero, Int.toNat_natCast]
    rw [half_back HH.out HX.out hb, hm, way_one, if_pos (by first | exact Or.inl rfl | exact Or.inr rfl), if_pos hA, Int.toNat_natCast, HT.out]
    exact k'
  · obtain ⟨l, h3, h4⟩ := M.out.2.2.2 b (by omega) h2
    exact ⟨l, h3, h4.on HH.out HX.out (by omega) (fun h => by have := h.2; omega)⟩

set_option maxRecDepth 100000 in
set_option maxHeartbeats 16000000 in
/-- A zero back. -/
theorem lowerBack13_any (w : World) (h : LwAt w xb fb base pa pn pc ha hn hc ps fN gx gy fl gv q) (hp : ∀ u, Below base w u → Fns u pa pn pc ps) (hv : verV ps = 0) (e3 : ps.getD fN noFn = (gx, gy, fl)) (A : Int) (hx : fl[q]? = some (13, A)) (hh : 0 ≤ heightV ps (fN : Int) (q : Int)) (hA : A ≤ (q : Int)) :
    Calls Tryz.prog 24 #[.pointer (some ⟨xb, 0, none⟩), .int .i64 (q : Int), .agg #[.int .i64 13, .int .i64 A], .int .i64 (heightV ps (fN : Int) (q : Int))] w fun e w' => e = .returned (.tuple #[]) ∧ LwAt w' xb fb base pa pn pc ha hn hc ps fN gx gy fl gv (q + 1) ∧ Below base w w' := by
  have ok := ins_ok hv hh e3 hx
  have HIN := hid (ins_in hv hh e3 hx)
  have hq := ok.hq.1
  have hl64 := ok.hq.2
  have hg := ok.hg
  have hkk := ok.kind
  have hht := ok.ht
  have HV := hid hv
  have E3 := hid e3
  have HX := hid hx
  have HH := hid hh
  have HP := hid hp
  have hb0 := half_bound (ps := ps) (fN := fN) (gx := gx) (gy := gy) (Nat.le_of_lt hq) hl64 (q + 1)
  have hmlen := (low_len ps fN (gx, gy, fl) q).2
  obtain ⟨ht, hHt⟩ : ∃ ht : Nat, heightV ps (fN : Int) (q : Int) = (ht : Int) := ⟨(heightV ps (fN : Int) (q : Int)).toNat, by omega⟩
  have HT := hid hHt
  obtain ⟨vC, vM, vW, BC, BM, BW, pl, wl, k0, arr⟩ := arrive_at w h hq hl64
  have K0 := hid k0
  have ARR := hid arr
  have nS := k0.out (b := w.heap.size) (Nat.le_refl _)
  have hbw : base ≤ w.heap.size := by have := k0.xlt; have := k0.bl; omega
  rw [hHt] at hht ⊢
  clear h hp hv e3 hx hh ok arr k0 hHt
  go_enter Tryz.func24, Tryz.ntmps24
  go_upto_region 1 with fail
  refine wp_name ?_
  intro U hU
  have AU : Hid (Below w.heap.size w U) := hid (by rw [hU]; go_grown)
  have i0 : U.cell? ⟨w.heap.size, 0, none⟩ = some (.int .i64 13) := by rw [hU]; simp [go_sem]
  have i1 : U.cell? ⟨w.heap.size, 1, none⟩ = some (.int .i64 A) := by rw [hU]; simp [go_sem]
  clear hU
  go_wp2_with fail
  refine (ARR.out U AU.out).mono ?_
  rintro e V ⟨rfl, mid, fr⟩
  have M := hid mid
  have FR := hid fr
  have BV : Hid (Below base w V) := hid ((AU.out.mono hbw).trans ((K0.out.kept AU.out).below fr))
  replace i0 := fr.cell i0 nS
  replace i1 := fr.cell i1 nS
  clear mid fr ARR
  have d0 : decide (A ≤ (q : Int)) = true := by simp; omega
  obtain ⟨aN, rfl⟩ : ∃ aN : Nat, A = aN := ⟨A.toNat, by have h1 : 0 ≤ A := (HIN.out.2 (by first | exact Or.inl rfl | exact Or.inr rfl | simp)).1; omega⟩
  obtain ⟨a', ea, haN, hh0, hpl, -⟩ := jump_place HV.out E3.out HH.out HX.out (by first | exact Or.inl rfl | exact Or.inr rfl)
  obtain rfl : aN = a' := by omega
  have VAL : Hid ((pl.set q (atPc ps fN (gx, gy, fl) q)).getD aN 0 = atPc ps fN (gx, gy, fl) aN) := hid (pl_next M.out.2.1 (by have := M.out.1.pls.len; rw [List.length_set] at this; omega) aN (by omega) hh0)
  clear ea hpl hh0
  go_wp2_with fail
  refine (poll_any V M.out.1 (by omega) (by omega) q ht hg (by omega)).mono ?_
  rintro e P ⟨rfl, ⟨vC1, vM1, BC1, BM1, k1, kc, km⟩, fp⟩
  replace i0 := fp.cell i0 nS
  replace i1 := fp.cell i1 nS
  have K1 := hid k1
  have BP : Hid (Below base w P) := hid (BV.out.trans (M.out.1.below fp))
  clear k1 kc km fp
  go_wp2_with fail
  refine (irOf_any P K1.out ps (HP.out _ BP.out) _ _ (ht : Int) hg hht hkk HIN.out.1).mono ?_
  rintro e X ⟨kd, r, ra, rb, kk, a, n, c, rfl, ow, bX⟩
  obtain ⟨eir, oa⟩ := ir_turned ow
  have EIR := hid eir
  have OA := hid oa
  have BX := hid bX
  have hzX : P.heap.size ≤ X.heap.size := bX.size
  replace i0 := kept_cell bX i0
  replace i1 := kept_cell bX i1
  clear ow eir oa bX
  go_upto_region 7 with fail
  refine wp_name ?_
  intro Y hY
  have BY : Hid (Below X.heap.size X Y) := hid (by rw [hY]; go_grown)
  have YB : Hid (BoxAt Y X.heap.size [.int .i64 kd, .int .i64 r, .int .i64 ra, .int .i64 rb, .int .i64 kk, .slice a n c, .int .i64 1, .int .i64 0, .int .i64 (q : Int)]) := hid (by
    rw [hY]
    exact box9 (by simp [go_sem]) (by simp [go_sem]) (by simp [go_sem]) (by simp [go_sem]) (by simp [go_sem]) (by simp [go_sem]) (by simp [go_sem]) (by simp [go_sem]) (by simp [go_sem]) (fun j => by simp [go_sem]))
  have BXY := hid (kt BX.out BY.out)
  have OY := hid (OA.out.kept BY.out)
  replace i0 := kept_cell BY.out i0
  replace i1 := kept_cell BY.out i1
  clear hY OA
  have KY := hid (K1.out.kept BXY.out)
  have y4 := YB.out.c 4 _ rfl
  have y4f := YB.out.fz 4
  go_wp2_with fail
  refine (leadBack_any Y KY.out aN q (by omega) haN (by omega)).mono ?_
  rintro e L ⟨rfl, hL⟩
  rw [VAL.out, hL]
  clear hL i0 i1
  have nI : ¬ WkZ xb fb BC1 BM1 BW X.heap.size := K1.out.out hzX
  go_upto_region 9 with fail
  refine wp_name ?_
  intro D hD
  have DB : Hid (BoxAt D X.heap.size [.int .i64 kd, .int .i64 r, .int .i64 ra, .int .i64 rb, .int .i64 (atPc ps fN (gx, gy, fl) aN), .slice a n c, .int .i64 1, .int .i64 0, .int .i64 (q : Int)]) := hid (by rw [hD]; exact YB.out.set 4 _)
  have KD := hid (show WkIn D xb fb base _ _ gx gy gv (fN : Int) (gy + 8) fl.length _ _ vW BC1 BM1 BW _ _ _ wl from by rw [hD]; exact KY.out.setFar nI)
  have OD : Hid (OSl layI 3 8 D (fun b => P.heap.size ≤ b ∧ b < X.heap.size) (.slice a n c) (lirV ps (gy + (ht : Int)) (13, (aN : Int))).2.2.2.2.2.1) := hid (by
    rw [hD]
    exact OY.out.set _ _ (fun hb => by have h1 : X.heap.size < X.heap.size := hb.2; omega))
  have BD : Hid (Below base Y D) := hid (by rw [hD]; exact (Below.refl _ _).setCell (by show base ≤ X.heap.size; have := BP.out.size; omega) _)
  clear hD y4 y4f
  have y0 := DB.out.c 0 _ rfl
  have y1 := DB.out.c 1 _ rfl
  have y2 := DB.out.c 2 _ rfl
  have y3 := DB.out.c 3 _ rfl
  have y4 := DB.out.c 4 _ rfl
  have y5 := DB.out.c 5 _ rfl
  have y6 := DB.out.c 6 _ rfl
  have y7 := DB.out.c 7 _ rfl
  have y8 := DB.out.c 8 _ rfl
  go_wp2_with fail
  refine (lwPut_any (Bx := fun b => P.heap.size ≤ b ∧ b < X.heap.size) D KD.out (by rw [List.length_append]; simp; omega) kd r ra rb (atPc ps fN (gx, gy, fl) aN) a n c 1 0 (q : Int) (setK (oneV ps (gy + (ht : Int)) (q : Int) (13, (aN : Int))) (atPc ps fN (gx, gy, fl) aN)) (by rw [lirV_jump q _ (by first | exact Or.inl rfl | exact Or.inr rfl), EIR.out]; exact ir_owns OD.out) (fun b hb => K1.out.far hb.1)).mono ?_
  rintro e Z ⟨rfl, ⟨vC', BC', k', -⟩, fz⟩
  go_wp2_with fail
  go_end0
  refine ⟨rfl, ⟨vC', vM1, vW, BC', BM1, BW, _, wl, ?_, pl_next M.out.2.1 (by have := M.out.1.pls.len; rw [List.length_set] at this; omega), M.out.2.2.1, fun b h1 h2 => ?_⟩, ((BP.out.trans (BXY.out.mono (by have := BP.out.size; omega))).trans BD.out).trans (KD.out.below fz)⟩
  · have hb : backB (q : Int) (13, (aN : Int)) = true := decide_eq_true ⟨(by first | exact Or.inl rfl | exact Or.inr rfl), hA⟩
    have hm : (lowN ps fN (gx, gy, fl) (q + 1)).2.1 = (lowN ps fN (gx, gy, fl) q).2.1 ++ [[((fN : Int), (q : Int), rowsV 0 gy.toNat, rowsV gy ht)]] := by
      rw [lowN_back (Int.not_lt.2 HH.out) HX.out hb]
      show _ ++ [[plainV ps (fN : Int) (q : Int) 0 0]] = _
      unfold plainV
      rw [Int.toNat_natCast, E3.out, HT.out]
      simp only [Int.zero_add, Int.sub_zero, Int.toNat_natCast]
    rw [half_back HH.out HX.out hb, hm, way_one, if_pos (by first | exact Or.inl rfl | exact Or.inr rfl), if_pos hA, Int.toNat_natCast, HT.out]
    exact k'
  · obtain ⟨l, h3, h4⟩ := M.out.2.2.2 b (by omega) h2
    exact ⟨l, h3, h4.on HH.out HX.out (by omega) (fun h => by have := h.2; omega)⟩

/-- Whatever it is. -/
theorem lowLower_any (w : World) (h : LwAt w xb fb base pa pn pc ha hn hc ps fN gx gy fl gv q) (hp : ∀ u, Below base w u → Fns u pa pn pc ps) (hv : verV ps = 0) (e3 : ps.getD fN noFn = (gx, gy, fl)) (K A : Int) (hx : fl[q]? = some (K, A)) (hh : 0 ≤ heightV ps (fN : Int) (q : Int)) :
    Calls Tryz.prog 24 #[.pointer (some ⟨xb, 0, none⟩), .int .i64 (q : Int), .agg #[.int .i64 K, .int .i64 A], .int .i64 (heightV ps (fN : Int) (q : Int))] w fun e w' => e = .returned (.tuple #[]) ∧ LwAt w' xb fb base pa pn pc ha hn hc ps fN gx gy fl gv (q + 1) ∧ Below base w w' := by
  by_cases h12 : K = 12
  · subst h12
    by_cases hA : A ≤ (q : Int)
    · exact lowerBack12_any w h hp hv e3 A hx hh hA
    · exact lowerOn12_any w h hp hv e3 A hx hh (by omega)
  · by_cases h13 : K = 13
    · subst h13
      by_cases hA : A ≤ (q : Int)
      · exact lowerBack13_any w h hp hv e3 A hx hh hA
      · exact lowerOn13_any w h hp hv e3 A hx hh (by omega)
    · exact lowerPlain_any w h hp hv e3 K A hx hh (by omega)

end Go.Proofs.YtaimpljkbpnigaaGreatDoor

namespace Go.Proofs.YtaimpljkbpnigaaGreatDoor
open Go.RowKit
set_option linter.unusedVariables false

theorem alloc_atW (u : World) (o : Obj) (b : Nat) : (u.alloc o).heap[b]? = if b = u.heap.size then some o else u.heap[b]? := by
  by_cases h : b = u.heap.size
  · rw [if_pos h, h]; exact heap_alloc_new u o
  · rw [if_neg h]
    rcases Nat.lt_or_ge b u.heap.size with hl | hg
    · exact heap_alloc_old u o hl
    · rw [Array.getElem?_eq_none hg, Array.getElem?_eq_none (by simp; omega)]
/-- make lays rows of nothing. -/
theorem make_rowsW (n : Nat) (hn : n ≤ 100000) (u : World) : (Instr.makeSlice 66 (.int .i64 (n : Int)) (.int .i64 (n : Int))).run Tryz.prog u = .ok (.slice (some ⟨u.heap.size, 0, none⟩) n n) (u.alloc (.cells (madeCells #[.slice none 0 0] n) 42)) := by
  obtain ⟨j0, hjf, hy0, hy1, hy2⟩ := info_parts Tryz.infoInts
  have hr := run_make (P := Tryz.prog) u 66 42 j0 (.slice none 0 0) Tryz.underlying66 hjf hy0 .i64 .i64 (n : Int) (n : Int) (by omega) (Int.le_refl _) (by rw [hy2]; omega) (by omega)
  simp only [Int.toNat_natCast, hy1, Nat.mul_one] at hr
  exact hr
theorem wk_fresh {W : World} {xb fb rb base : Nat} {pv hv gv : Value} {gx gy f rg : Int} {n : Nat} (hn : n ≤ 1000) (bx : BoxAt W xb [pv, hv, .int .i64 gx, .int .i64 gy, gv, .int .i64 f, .int .i64 rg, .slice none 0 0, .slice none 0 0, .slice (some ⟨fb, 0, none⟩) n n, .slice (some ⟨rb, 0, none⟩) n n])
    (hf : W.heap[fb]? = some (.cells (madeCells #[.int .i64 0] n) 3)) (hr : W.heap[rb]? = some (.cells (madeCells #[.slice none 0 0] n) 42)) (h1 : base ≤ xb) (h2 : base ≤ fb) (h3 : base ≤ rb) (n1 : xb ≠ fb) (n2 : xb ≠ rb) (n3 : fb ≠ rb) :
    WkIn W xb fb base pv hv gx gy gv f rg n (.slice none 0 0) (.slice none 0 0) (.slice (some ⟨rb, 0, none⟩) n n) (fun _ => False) (fun _ => False) (fun b => b = rb) [] [] (List.replicate n 0) (List.replicate n []) := by
  have row : ∀ {b T : Nat} {v : Value}, W.heap[b]? = some (.cells (madeCells #[v] n) T) → base ≤ b → W.ownsRow base T 1 (.slice (some ⟨b, 0, none⟩) n n) n (List.replicate n v) := fun {b T v} hb h0 => by
    refine ⟨by simp, .inr ⟨b, n, _, rfl, h0, hb, Nat.le_refl _, by unfold maxLen; omega, by simp [madeCells], ?_⟩⟩
    rw [Nat.mul_one, toList_madeCells_one, List.take_of_length_le (by simp)]
  have rl : rb < W.heap.size := heap_ltP hr
  have hfl : ∀ k, (List.replicate k [Value.slice none 0 0]).flatten = List.replicate k (Value.slice none 0 0) := fun k => by
    induction k with
    | zero => rfl
    | succ k ih => rw [List.replicate_succ, List.replicate_succ, List.flatten_cons, ih]; rfl
  refine ⟨bx, OSl.nil _ _ _ _ _, OSl.nil _ _ _ _ _, ?_, ⟨by simp, ?_⟩, n1, ⟨h1, h2⟩, fun b h => h.elim, fun b h => h.elim, fun b h => by have e : b = rb := h; subst e; exact ⟨Ne.symm n2, Ne.symm n3, h3, rl⟩, fun b h => h.elim, fun b h => h.elim, fun b h => h.elim⟩
  · refine ⟨by simp; omega, List.replicate n [.slice none 0 0], fun _ _ => False, by simp, ?_, fun g hg => ⟨(Option.some.inj hg).symm, fun _ h => h⟩, fun _ _ h => h.elim, fun _ _ _ _ h => h.elim, fun i x hx => ?_⟩
    · rw [hfl, List.length_replicate]
      exact row_base (row hr h3) (fun g _ => Nat.zero_le _)
    · rw [List.getElem?_replicate] at hx
      split at hx
      · rename_i hi
        cases hx
        refine ⟨.slice none 0 0, ?_, OSl.nil _ _ _ _ _⟩
        rw [List.getD_eq_getElem?_getD, List.getElem?_replicate, if_pos hi]; rfl
      · cases hx
  · have := row hf h2
    simpa [ints] using this

theorem alloc3_below {w U : World} {B : Nat} (h : Below B w U) (hB : B ≤ U.heap.size) (o1 o2 o3 : Obj) : Below B w (((U.alloc o1).alloc o2).alloc o3).drew := by
  have h1 : Below B w (U.alloc o1) := Below.alloc h hB o1
  have h2 : Below B w ((U.alloc o1).alloc o2) := Below.alloc h1 (by have := (Below.alloc (Below.refl U.heap.size U) (Nat.le_refl _) o1).size; omega) o2
  have s2 : U.heap.size ≤ ((U.alloc o1).alloc o2).heap.size := by simp; omega
  exact Below.drew (Below.alloc h2 (by omega) o3)
theorem begin_A {U : World} {base : Nat} {pv hv gv : Value} {gx gy f rg : Int} {n : Nat} (hn : n ≤ 1000) (hb : base ≤ U.heap.size) :
    WkIn ((((U.alloc (.cells (madeCells #[.int .i64 0] n) 3)).alloc (.cells (madeCells #[.slice none 0 0] n) 42)).alloc (.cells #[pv, hv, .int .i64 gx, .int .i64 gy, gv, .int .i64 f, .int .i64 rg, .slice none 0 0, .slice none 0 0, .slice (some ⟨U.heap.size, 0, none⟩) n n, .slice (some ⟨U.heap.size + 1, 0, none⟩) n n] 74))).drew (U.heap.size + 1 + 1) (U.heap.size) base pv hv gx gy gv f rg n (.slice none 0 0) (.slice none 0 0) (.slice (some ⟨U.heap.size + 1, 0, none⟩) n n) (fun _ => False) (fun _ => False) (fun b => b = U.heap.size + 1) [] [] (List.replicate n 0) (List.replicate n []) := by
  refine WkIn.kept (wk_fresh hn ?_ ?_ ?_ (by omega) (by omega) (by omega) (by omega) (by omega) (by omega)) (Below.drew (Below.refl _ _))
  · have h := box_alloc ((U.alloc (.cells (madeCells #[.int .i64 0] n) 3)).alloc (.cells (madeCells #[.slice none 0 0] n) 42)) [pv, hv, .int .i64 gx, .int .i64 gy, gv, .int .i64 f, .int .i64 rg, .slice none 0 0, .slice none 0 0, .slice (some ⟨U.heap.size, 0, none⟩) n n, .slice (some ⟨U.heap.size + 1, 0, none⟩) n n] 74
    have e : ((U.alloc (.cells (madeCells #[.int .i64 0] n) 3)).alloc (.cells (madeCells #[.slice none 0 0] n) 42)).heap.size = U.heap.size + 1 + 1 := by simp
    rw [e] at h
    exact h
  · exact heap_kept (heap_kept (heap_alloc_new U (.cells (madeCells #[.int .i64 0] n) 3)) (Below.alloc (Below.refl _ _) (Nat.le_refl _) _)) (Below.alloc (Below.refl _ _) (Nat.le_refl _) _)
  · have h := heap_alloc_new (U.alloc (.cells (madeCells #[.int .i64 0] n) 3)) (.cells (madeCells #[.slice none 0 0] n) 42)
    have e : (U.alloc (.cells (madeCells #[.int .i64 0] n) 3)).heap.size = U.heap.size + 1 := by simp
    rw [e] at h
    exact heap_kept h (Below.alloc (Below.refl _ _) (Nat.le_refl _) _)
theorem begin_B {U : World} {base : Nat} {pv hv gv : Value} {gx gy f rg : Int} {n : Nat} (hn : n ≤ 1000) (hb : base ≤ U.heap.size) :
    WkIn ((((U.alloc (.cells (madeCells #[.slice none 0 0] n) 42)).alloc (.cells (madeCells #[.int .i64 0] n) 3)).alloc (.cells #[pv, hv, .int .i64 gx, .int .i64 gy, gv, .int .i64 f, .int .i64 rg, .slice none 0 0, .slice none 0 0, .slice (some ⟨U.heap.size + 1, 0, none⟩) n n, .slice (some ⟨U.heap.size, 0, none⟩) n n] 74))).drew (U.heap.size + 1 + 1) (U.heap.size + 1) base pv hv gx gy gv f rg n (.slice none 0 0) (.slice none 0 0) (.slice (some ⟨U.heap.size, 0, none⟩) n n) (fun _ => False) (fun _ => False) (fun b => b = U.heap.size) [] [] (List.replicate n 0) (List.replicate n []) := by
  refine WkIn.kept (wk_fresh hn ?_ ?_ ?_ (by omega) (by omega) (by omega) (by omega) (by omega) (by omega)) (Below.drew (Below.refl _ _))
  · have h := box_alloc ((U.alloc (.cells (madeCells #[.slice none 0 0] n) 42)).alloc (.cells (madeCells #[.int .i64 0] n) 3)) [pv, hv, .int .i64 gx, .int .i64 gy, gv, .int .i64 f, .int .i64 rg, .slice none 0 0, .slice none 0 0, .slice (some ⟨U.heap.size + 1, 0, none⟩) n n, .slice (some ⟨U.heap.size, 0, none⟩) n n] 74
    have e : ((U.alloc (.cells (madeCells #[.slice none 0 0] n) 42)).alloc (.cells (madeCells #[.int .i64 0] n) 3)).heap.size = U.heap.size + 1 + 1 := by simp
    rw [e] at h
    exact h
  · have h := heap_alloc_new (U.alloc (.cells (madeCells #[.slice none 0 0] n) 42)) (.cells (madeCells #[.int .i64 0] n) 3)
    have e : (U.alloc (.cells (madeCells #[.slice none 0 0] n) 42)).heap.size = U.heap.size + 1 := by simp
    rw [e] at h
    exact heap_kept h (Below.alloc (Below.refl _ _) (Nat.le_refl _) _)
  · exact heap_kept (heap_kept (heap_alloc_new U (.cells (madeCells #[.slice none 0 0] n) 42)) (Below.alloc (Below.refl _ _) (Nat.le_refl _) _)) (Below.alloc (Below.refl _ _) (Nat.le_refl _) _)

set_option maxHeartbeats 1000000 in
theorem tabFuncAt_any (b0 o0 pn pc : Nat) (ha : Option Addr) (hn hc : Nat) (f : Nat) (x y : Int) (fa : Option Addr) (fn fc : Nat) (w : World) (hpr : pn * 40 ≤ 140737488351232) (hpc : pn ≤ pc) (hf : f < pn) (d0 : w.cell? ⟨b0, o0 + f * 3, none⟩ = some (.int .i64 x)) (d1 : w.cell? ⟨b0, o0 + f * 3 + 1, none⟩ = some (.int .i64 y)) (d2 : w.cell? ⟨b0, o0 + f * 3 + 2, none⟩ = some (.slice fa fn fc)) :
    Calls Tryz.prog 38 #[.agg #[.slice (some ⟨b0, o0, none⟩) pn pc, .slice ha hn hc], .int .i64 (f : Int)] w fun e w' => e = .returned (.agg #[.int .i64 x, .int .i64 y, .slice fa fn fc]) ∧ Below w.heap.size w w' := by
  have z0 := lt_of_cell d0
  have z1 := lt_of_cell d1
  have z2 := lt_of_cell d2
  go_enter Tryz.func38, Tryz.ntmps38
  go_wp2_with fail
  refine bodyPost_ret (v := .agg #[.int .i64 x, .int .i64 y, .slice fa fn fc]) (by simp [results, Tryz.results38, go_sem]) rfl ⟨rfl, ?_⟩
  go_grown

set_option maxRecDepth 100000 in
set_option maxHeartbeats 8000000 in
theorem begin_any (b0 o0 pn pc : Nat) (ha : Option Addr) (hn hc : Nat) (f : Nat) (w : World) (hpr : pn * 40 ≤ 140737488351232) (hpc : pn ≤ pc) (hf : f < pn) (gx gy : Int) (ga : Option Addr) (gn gc : Nat) (d0 : w.cell? ⟨b0, o0 + f * 3, none⟩ = some (.int .i64 gx)) (d1 : w.cell? ⟨b0, o0 + f * 3 + 1, none⟩ = some (.int .i64 gy)) (d2 : w.cell? ⟨b0, o0 + f * 3 + 2, none⟩ = some (.slice ga gn gc)) (hg : 0 ≤ gy ∧ gy ≤ 8) (hl : gn ≤ 64) (hgc : gn ≤ gc) :
    Calls Tryz.prog 22 #[.agg #[.slice (some ⟨b0, o0, none⟩) pn pc, .slice ha hn hc], .int .i64 (f : Int)] w fun e w' => ∃ xb fb vW BW, e = .returned (.pointer (some ⟨xb, 0, none⟩)) ∧
      WkIn w' xb fb w.heap.size (.slice (some ⟨b0, o0, none⟩) pn pc) (.slice ha hn hc) gx gy (.slice ga gn gc) (f : Int) (gy + 8) gn (.slice none 0 0) (.slice none 0 0) vW (fun _ => False) (fun _ => False) BW [] [] (List.replicate gn 0) (List.replicate gn []) ∧ Below w.heap.size w w' := by
  go_enter Tryz.func22, Tryz.ntmps22
  go_upto_region 1 with fail
  refine wp_name ?_
  intro U0 hU0
  have B0 : Hid (Below w.heap.size w U0) := hid (by rw [hU0]; go_grown)
  have p0 : U0.cell? ⟨w.heap.size, 0, none⟩ = some (.slice (some ⟨b0, o0, none⟩) pn pc) := by rw [hU0]; simp [go_sem]
  have p1 : U0.cell? ⟨w.heap.size, 1, none⟩ = some (.slice ha hn hc) := by rw [hU0]; simp [go_sem]
  clear hU0
  have TF := hid (tabFuncAt_any b0 o0 pn pc ha hn hc f gx gy ga gn gc U0 hpr hpc hf (kept_cell B0.out d0) (kept_cell B0.out d1) (kept_cell B0.out d2))
  clear d0 d1 d2
  go_wp2_with fail
  refine TF.out.mono ?_
  rintro e V ⟨rfl, b1⟩
  have BV : Hid (Below w.heap.size w V) := hid (kt B0.out b1)
  replace p0 := kept_cell b1 p0
  replace p1 := kept_cell b1 p1
  clear b1 TF
  go_upto_region 2 with fail
  refine wp_name ?_
  intro U hU
  have AU : Hid (Below V.heap.size V U) := hid (by rw [hU]; go_grown)
  have BU := hid (kt BV.out AU.out)
  have q0 : U.cell? ⟨V.heap.size, 0, none⟩ = some (.int .i64 gx) := by rw [hU]; simp [go_sem]
  have q1 : U.cell? ⟨V.heap.size, 1, none⟩ = some (.int .i64 gy) := by rw [hU]; simp [go_sem]
  have q2 : U.cell? ⟨V.heap.size, 2, none⟩ = some (.slice ga gn gc) := by rw [hU]; simp [go_sem]
  replace p0 := kept_cell AU.out p0
  replace p1 := kept_cell AU.out p1
  have hUs : w.heap.size ≤ U.heap.size := BU.out.size
  clear hU
  have hmk1 := make_places gn (by omega)
  have hmk2 := make_rowsW gn (by omega)
  have SA : Hid (∀ w', Below U.heap.size U w' → w'.cell? ⟨w.heap.size, 0, none⟩ = some (.slice (some ⟨b0, o0, none⟩) pn pc) ∧ w'.cell? ⟨w.heap.size, 1, none⟩ = some (.slice ha hn hc) ∧ w'.cell? ⟨V.heap.size, 0, none⟩ = some (.int .i64 gx) ∧ w'.cell? ⟨V.heap.size, 1, none⟩ = some (.int .i64 gy) ∧ w'.cell? ⟨V.heap.size, 2, none⟩ = some (.slice ga gn gc)) := hid (fun w' b => ⟨kept_cell b p0, kept_cell b p1, kept_cell b q0, kept_cell b q1, kept_cell b q2⟩)
  have KB : Below U.heap.size U U := Below.refl _ _
  refine wp_region_held_drew (S := fun w' => w'.cell? ⟨w.heap.size, 0, none⟩ = some (.slice (some ⟨b0, o0, none⟩) pn pc) ∧ w'.cell? ⟨w.heap.size, 1, none⟩ = some (.slice ha hn hc) ∧ w'.cell? ⟨V.heap.size, 0, none⟩ = some (.int .i64 gx) ∧ w'.cell? ⟨V.heap.size, 1, none⟩ = some (.int .i64 gy) ∧ w'.cell? ⟨V.heap.size, 2, none⟩ = some (.slice ga gn gc)) (by kernel_rfl) ?_ (fun hH0 => ?_)
  · (try dsimp only); (refine SA.out _ ?_; (repeat (first | with_reducible exact KB | with_reducible refine qDrew ?_ | with_reducible refine qAlloc ?_)))
  refine wpAnyH_take (i := 0) (oi := ⟨_, _, _, _, _, _⟩) (v := ?_) rfl (by kernel_rfl) (by kernel_rfl) (by kernel_rfl) (fun _ _ _ h => h) (Or.inl ⟨by rfl, ?_⟩) (by exact hH0) ?_
  rotate_left
  · (intro x hx; (try dsimp only at hx); go_simp; try (with_reducible rfl))
  try simp only [Act.put, List.setIfInBounds_toArray, List.set_cons_zero, List.set_cons_succ]
  refine wpAnyH_take (i := 1) (oi := ⟨_, _, _, _, _, _⟩) (v := ?_) rfl (by kernel_rfl) (by kernel_rfl) (by kernel_rfl) (fun _ _ _ h => h) (Or.inl ⟨by rfl, ?_⟩) (by exact hH0) ?_
  rotate_left
  · (intro x hx; (try dsimp only at hx); go_simp; try (with_reducible rfl))
  try simp only [Act.put, List.setIfInBounds_toArray, List.set_cons_zero, List.set_cons_succ]
  refine wpAnyH_take (i := 2) (oi := ⟨_, _, _, _, _, _⟩) (v := ?_) rfl (by kernel_rfl) (by kernel_rfl) (by kernel_rfl) (fun _ _ _ h => h) (Or.inl ⟨by rfl, ?_⟩) (by exact hH0) ?_
  rotate_left
  · (intro x hx; (try dsimp only at hx); go_simp; try (with_reducible rfl))
  try simp only [Act.put, List.setIfInBounds_toArray, List.set_cons_zero, List.set_cons_succ]
  refine wpAnyH_take (i := 3) (oi := ⟨_, _, _, _, _, _⟩) (v := ?_) rfl (by kernel_rfl) (by kernel_rfl) (by kernel_rfl) (fun _ _ _ h => h) (Or.inl ⟨by rfl, ?_⟩) (by exact hH0) ?_
  rotate_left
  · (intro x hx; (try dsimp only at hx); go_simp; try (with_reducible rfl))
  try simp only [Act.put, List.setIfInBounds_toArray, List.set_cons_zero, List.set_cons_succ]
  refine wpAnyH_take (i := 4) (oi := ⟨_, _, _, _, _, _⟩) (v := ?_) rfl (by kernel_rfl) (by kernel_rfl) (by kernel_rfl) (fun _ _ _ h => h) (Or.inl ⟨by rfl, ?_⟩) (by exact hH0) ?_
  rotate_left
  · (intro x hx; (try dsimp only at hx); go_simp; try (with_reducible rfl))
  try simp only [Act.put, List.setIfInBounds_toArray, List.set_cons_zero, List.set_cons_succ]
  refine wpAnyH_take (i := 7) (oi := ⟨_, _, _, _, _, _⟩) (v := ?_) rfl (by kernel_rfl) (by kernel_rfl) (by kernel_rfl) (fun _ _ _ h => h) (Or.inl ⟨by rfl, ?_⟩) (by exact hH0) ?_
  rotate_left
  · (intro x hx; (try dsimp only at hx); go_simp; try (with_reducible rfl))
  try simp only [Act.put, List.setIfInBounds_toArray, List.set_cons_zero, List.set_cons_succ]
  refine wpAnyH_take (i := 8) (oi := ⟨_, _, _, _, _, _⟩) (v := ?_) rfl (by kernel_rfl) (by kernel_rfl) (by kernel_rfl) (fun _ _ _ h => h) (Or.inl ⟨by rfl, ?_⟩) (by exact hH0) ?_
  rotate_left
  · (intro x hx; (try dsimp only at hx); go_simp; try (with_reducible rfl))
  try simp only [Act.put, List.setIfInBounds_toArray, List.set_cons_zero, List.set_cons_succ]
  refine wpAnyH_take (i := 9) (oi := ⟨_, _, _, _, _, _⟩) (v := ?_) rfl (by kernel_rfl) (by kernel_rfl) (by kernel_rfl) (fun _ _ _ h => h) (Or.inl ⟨by rfl, ?_⟩) (by exact hH0) ?_
  rotate_left
  · (intro x hx; (try dsimp only at hx); go_simp; try (with_reducible rfl))
  try simp only [Act.put, List.setIfInBounds_toArray, List.set_cons_zero, List.set_cons_succ]
  refine wpAnyH_take (i := 11) (oi := ⟨_, _, _, _, _, _⟩) (v := ?_) rfl (by kernel_rfl) (by kernel_rfl) (by kernel_rfl) (fun _ _ _ h => h) (Or.inl ⟨by rfl, ?_⟩) (by exact hH0) ?_
  rotate_left
  · (intro x hx; (try dsimp only at hx); go_simp; try (with_reducible rfl))
  try simp only [Act.put, List.setIfInBounds_toArray, List.set_cons_zero, List.set_cons_succ]
  refine wpAnyH_take (i := 12) (oi := ⟨_, _, _, _, _, _⟩) (v := ?_) rfl (by kernel_rfl) (by kernel_rfl) (by kernel_rfl) (fun _ _ _ h => h) (Or.inl ⟨by rfl, ?_⟩) (by exact hH0) ?_
  rotate_left
  · (intro x hx; (try dsimp only at hx); go_simp; try (with_reducible rfl))
  try simp only [Act.put, List.setIfInBounds_toArray, List.set_cons_zero, List.set_cons_succ]
  refine wpAnyH_take (i := 13) (oi := ⟨_, _, _, _, _, _⟩) (v := ?_) rfl (by kernel_rfl) (by kernel_rfl) (by kernel_rfl) (fun _ _ _ h => h) (Or.inl ⟨by rfl, ?_⟩) (by exact hH0) ?_
  rotate_left
  · (intro x hx; (try dsimp only at hx); go_simp; try (with_reducible rfl))
  try simp only [Act.put, List.setIfInBounds_toArray, List.set_cons_zero, List.set_cons_succ]
  refine wpAnyH_ready (rs := [5, 10, 14]) (by kernel_rfl) (by simp) ?_
  refine AllReadyH.cons (o := ⟨_, _, _, _, _, _⟩) rfl (fun K hK => ?_) ?_
  · skip
    go_simp
    refine (plainRegs_any gy _ (by omega)).mono ?_; rintro e wz ⟨rfl, hz⟩; rw [hz]; clear hz
    refine hK.out _ _ ?_ (fun hH1 => ?_)
    · (try dsimp only); (refine SA.out _ ?_; (repeat (first | with_reducible exact KB | with_reducible refine qDrew ?_ | with_reducible refine qAlloc ?_)))
    clear hK K hH0
    try simp only [Act.put, List.setIfInBounds_toArray, List.set_cons_zero, List.set_cons_succ]
    refine wpAnyH_take (i := 6) (oi := ⟨_, _, _, _, _, _⟩) (v := ?_) rfl (by kernel_rfl) (by kernel_rfl) (by kernel_rfl) (fun _ _ _ h => h) (Or.inl ⟨by rfl, ?_⟩) (by exact hH1) ?_
    rotate_left
    · (intro x hx; (try dsimp only at hx); go_simp; try (with_reducible rfl))
    try simp only [Act.put, List.setIfInBounds_toArray, List.set_cons_zero, List.set_cons_succ]
    refine wpAnyH_ready (rs := [10, 14]) (by kernel_rfl) (by simp) ?_
    refine AllReadyH.cons (o := ⟨_, _, _, _, _, _⟩) rfl (fun K hK => ?_) ?_
    · skip
      go_simp
      refine hK.out _ _ ?_ (fun hH2 => ?_)
      · (try dsimp only); (refine SA.out _ ?_; (repeat (first | with_reducible exact KB | with_reducible refine qDrew ?_ | with_reducible refine qAlloc ?_)))
      clear hK K hH1
      try simp only [Act.put, List.setIfInBounds_toArray, List.set_cons_zero, List.set_cons_succ]
      refine wpAnyH_ready (rs := [14]) (by kernel_rfl) (by simp) ?_
      refine AllReadyH.cons (o := ⟨_, _, _, _, _, _⟩) rfl (fun K hK => ?_) ?_
      · skip
        go_simp
        refine hK.out _ _ ?_ (fun hH3 => ?_)
        · (try dsimp only); (refine SA.out _ ?_; (repeat (first | with_reducible exact KB | with_reducible refine qDrew ?_ | with_reducible refine qAlloc ?_)))
        clear hK K hH2
        try simp only [Act.put, List.setIfInBounds_toArray, List.set_cons_zero, List.set_cons_succ]
        refine wpAnyH_take (i := 15) (oi := ⟨_, _, _, _, _, _⟩) (v := ?_) rfl (by kernel_rfl) (by kernel_rfl) (by kernel_rfl) (fun _ _ _ h => h) (Or.inl ⟨by rfl, ?_⟩) (by exact hH3) ?_
        rotate_left
        · (intro x hx; (try dsimp only at hx); go_simp; try (with_reducible rfl))
        try simp only [Act.put, List.setIfInBounds_toArray, List.set_cons_zero, List.set_cons_succ]
        refine wpAnyH_ready (rs := [16]) (by kernel_rfl) (by simp) ?_
        refine AllReadyH.cons (o := ⟨_, _, _, _, _, _⟩) rfl (fun K hK => ?_) ?_
        · skip
          go_simp
          refine hK.out _ _ ?_ (fun hH4 => ?_)
          · (try dsimp only); (refine SA.out _ ?_; (repeat (first | with_reducible exact KB | with_reducible refine qDrew ?_ | with_reducible refine qAlloc ?_)))
          clear hK K hH3
          try simp only [Act.put, List.setIfInBounds_toArray, List.set_cons_zero, List.set_cons_succ]
          refine wpAnyH_take (i := 17) (oi := ⟨_, _, _, _, _, _⟩) (v := ?_) rfl (by kernel_rfl) (by kernel_rfl) (by kernel_rfl) (fun _ _ _ h => h) (Or.inl ⟨by rfl, ?_⟩) (by exact hH4) ?_
          rotate_left
          · (intro x hx; (try dsimp only at hx); go_simp; try (with_reducible rfl))
          try simp only [Act.put, List.setIfInBounds_toArray, List.set_cons_zero, List.set_cons_succ]
          refine wpAnyH_done (by kernel_rfl) ?_ _
          go_wp2_with fail
          go_ret
          first
            | exact ⟨_, _, _, _, rfl, begin_A (by omega) hUs, alloc3_below BU.out hUs _ _ _⟩
            | exact ⟨_, _, _, _, rfl, begin_B (by omega) hUs, alloc3_below BU.out hUs _ _ _⟩
        exact AllReadyH.nil
      exact AllReadyH.nil
    refine AllReadyH.cons (o := ⟨_, _, _, _, _, _⟩) rfl (fun K hK => ?_) ?_
    · skip
      go_simp
      refine hK.out _ _ ?_ (fun hH5 => ?_)
      · (try dsimp only); (refine SA.out _ ?_; (repeat (first | with_reducible exact KB | with_reducible refine qDrew ?_ | with_reducible refine qAlloc ?_)))
      clear hK K hH1
      try simp only [Act.put, List.setIfInBounds_toArray, List.set_cons_zero, List.set_cons_succ]
      refine wpAnyH_ready (rs := [10]) (by kernel_rfl) (by simp) ?_
      refine AllReadyH.cons (o := ⟨_, _, _, _, _, _⟩) rfl (fun K hK => ?_) ?_
      · skip
        go_simp
        refine hK.out _ _ ?_ (fun hH6 => ?_)
        · (try dsimp only); (refine SA.out _ ?_; (repeat (first | with_reducible exact KB | with_reducible refine qDrew ?_ | with_reducible refine qAlloc ?_)))
        clear hK K hH5
        try simp only [Act.put, List.setIfInBounds_toArray, List.set_cons_zero, List.set_cons_succ]
        refine wpAnyH_take (i := 15) (oi := ⟨_, _, _, _, _, _⟩) (v := ?_) rfl (by kernel_rfl) (by kernel_rfl) (by kernel_rfl) (fun _ _ _ h => h) (Or.inl ⟨by rfl, ?_⟩) (by exact hH6) ?_
        rotate_left
        · (intro x hx; (try dsimp only at hx); go_simp; try (with_reducible rfl))
        try simp only [Act.put, List.setIfInBounds_toArray, List.set_cons_zero, List.set_cons_succ]
        refine wpAnyH_ready (rs := [16]) (by kernel_rfl) (by simp) ?_
        refine AllReadyH.cons (o := ⟨_, _, _, _, _, _⟩) rfl (fun K hK => ?_) ?_
        · skip
          go_simp
          refine hK.out _ _ ?_ (fun hH7 => ?_)
          · (try dsimp only); (refine SA.out _ ?_; (repeat (first | with_reducible exact KB | with_reducible refine qDrew ?_ | with_reducible refine qAlloc ?_)))
          clear hK K hH6
          try simp only [Act.put, List.setIfInBounds_toArray, List.set_cons_zero, List.set_cons_succ]
          refine wpAnyH_take (i := 17) (oi := ⟨_, _, _, _, _, _⟩) (v := ?_) rfl (by kernel_rfl) (by kernel_rfl) (by kernel_rfl) (fun _ _ _ h => h) (Or.inl ⟨by rfl, ?_⟩) (by exact hH7) ?_
          rotate_left
          · (intro x hx; (try dsimp only at hx); go_simp; try (with_reducible rfl))
          try simp only [Act.put, List.setIfInBounds_toArray, List.set_cons_zero, List.set_cons_succ]
          refine wpAnyH_done (by kernel_rfl) ?_ _
          go_wp2_with fail
          go_ret
          first
            | exact ⟨_, _, _, _, rfl, begin_A (by omega) hUs, alloc3_below BU.out hUs _ _ _⟩
            | exact ⟨_, _, _, _, rfl, begin_B (by omega) hUs, alloc3_below BU.out hUs _ _ _⟩
        exact AllReadyH.nil
      exact AllReadyH.nil
    exact AllReadyH.nil
  refine AllReadyH.cons (o := ⟨_, _, _, _, _, _⟩) rfl (fun K hK => ?_) ?_
  · skip
    go_simp
    refine hK.out _ _ ?_ (fun hH8 => ?_)
    · (try dsimp only); (refine SA.out _ ?_; (repeat (first | with_reducible exact KB | with_reducible refine qDrew ?_ | with_reducible refine qAlloc ?_)))
    clear hK K hH0
    try simp only [Act.put, List.setIfInBounds_toArray, List.set_cons_zero, List.set_cons_succ]
    refine wpAnyH_ready (rs := [5, 14]) (by kernel_rfl) (by simp) ?_
    refine AllReadyH.cons (o := ⟨_, _, _, _, _, _⟩) rfl (fun K hK => ?_) ?_
    · skip
      go_simp
      refine (plainRegs_any gy _ (by omega)).mono ?_; rintro e wz ⟨rfl, hz⟩; rw [hz]; clear hz
      refine hK.out _ _ ?_ (fun hH9 => ?_)
      · (try dsimp only); (refine SA.out _ ?_; (repeat (first | with_reducible exact KB | with_reducible refine qDrew ?_ | with_reducible refine qAlloc ?_)))
      clear hK K hH8
      try simp only [Act.put, List.setIfInBounds_toArray, List.set_cons_zero, List.set_cons_succ]
      refine wpAnyH_take (i := 6) (oi := ⟨_, _, _, _, _, _⟩) (v := ?_) rfl (by kernel_rfl) (by kernel_rfl) (by kernel_rfl) (fun _ _ _ h => h) (Or.inl ⟨by rfl, ?_⟩) (by exact hH9) ?_
      rotate_left
      · (intro x hx; (try dsimp only at hx); go_simp; try (with_reducible rfl))
      try simp only [Act.put, List.setIfInBounds_toArray, List.set_cons_zero, List.set_cons_succ]
      refine wpAnyH_ready (rs := [14]) (by kernel_rfl) (by simp) ?_
      refine AllReadyH.cons (o := ⟨_, _, _, _, _, _⟩) rfl (fun K hK => ?_) ?_
      · skip
        go_simp
        refine hK.out _ _ ?_ (fun hH10 => ?_)
        · (try dsimp only); (refine SA.out _ ?_; (repeat (first | with_reducible exact KB | with_reducible refine qDrew ?_ | with_reducible refine qAlloc ?_)))
        clear hK K hH9
        try simp only [Act.put, List.setIfInBounds_toArray, List.set_cons_zero, List.set_cons_succ]
        refine wpAnyH_take (i := 15) (oi := ⟨_, _, _, _, _, _⟩) (v := ?_) rfl (by kernel_rfl) (by kernel_rfl) (by kernel_rfl) (fun _ _ _ h => h) (Or.inl ⟨by rfl, ?_⟩) (by exact hH10) ?_
        rotate_left
        · (intro x hx; (try dsimp only at hx); go_simp; try (with_reducible rfl))
        try simp only [Act.put, List.setIfInBounds_toArray, List.set_cons_zero, List.set_cons_succ]
        refine wpAnyH_ready (rs := [16]) (by kernel_rfl) (by simp) ?_
        refine AllReadyH.cons (o := ⟨_, _, _, _, _, _⟩) rfl (fun K hK => ?_) ?_
        · skip
          go_simp
          refine hK.out _ _ ?_ (fun hH11 => ?_)
          · (try dsimp only); (refine SA.out _ ?_; (repeat (first | with_reducible exact KB | with_reducible refine qDrew ?_ | with_reducible refine qAlloc ?_)))
          clear hK K hH10
          try simp only [Act.put, List.setIfInBounds_toArray, List.set_cons_zero, List.set_cons_succ]
          refine wpAnyH_take (i := 17) (oi := ⟨_, _, _, _, _, _⟩) (v := ?_) rfl (by kernel_rfl) (by kernel_rfl) (by kernel_rfl) (fun _ _ _ h => h) (Or.inl ⟨by rfl, ?_⟩) (by exact hH11) ?_
          rotate_left
          · (intro x hx; (try dsimp only at hx); go_simp; try (with_reducible rfl))
          try simp only [Act.put, List.setIfInBounds_toArray, List.set_cons_zero, List.set_cons_succ]
          refine wpAnyH_done (by kernel_rfl) ?_ _
          go_wp2_with fail
          go_ret
          first
            | exact ⟨_, _, _, _, rfl, begin_A (by omega) hUs, alloc3_below BU.out hUs _ _ _⟩
            | exact ⟨_, _, _, _, rfl, begin_B (by omega) hUs, alloc3_below BU.out hUs _ _ _⟩
        exact AllReadyH.nil
      exact AllReadyH.nil
    refine AllReadyH.cons (o := ⟨_, _, _, _, _, _⟩) rfl (fun K hK => ?_) ?_
    · skip
      go_simp
      refine hK.out _ _ ?_ (fun hH12 => ?_)
      · (try dsimp only); (refine SA.out _ ?_; (repeat (first | with_reducible exact KB | with_reducible refine qDrew ?_ | with_reducible refine qAlloc ?_)))
      clear hK K hH8
      try simp only [Act.put, List.setIfInBounds_toArray, List.set_cons_zero, List.set_cons_succ]
      refine wpAnyH_ready (rs := [5]) (by kernel_rfl) (by simp) ?_
      refine AllReadyH.cons (o := ⟨_, _, _, _, _, _⟩) rfl (fun K hK => ?_) ?_
      · skip
        go_simp
        refine (plainRegs_any gy _ (by omega)).mono ?_; rintro e wz ⟨rfl, hz⟩; rw [hz]; clear hz
        refine hK.out _ _ ?_ (fun hH13 => ?_)
        · (try dsimp only); (refine SA.out _ ?_; (repeat (first | with_reducible exact KB | with_reducible refine qDrew ?_ | with_reducible refine qAlloc ?_)))
        clear hK K hH12
        try simp only [Act.put, List.setIfInBounds_toArray, List.set_cons_zero, List.set_cons_succ]
        refine wpAnyH_take (i := 6) (oi := ⟨_, _, _, _, _, _⟩) (v := ?_) rfl (by kernel_rfl) (by kernel_rfl) (by kernel_rfl) (fun _ _ _ h => h) (Or.inl ⟨by rfl, ?_⟩) (by exact hH13) ?_
        rotate_left
        · (intro x hx; (try dsimp only at hx); go_simp; try (with_reducible rfl))
        try simp only [Act.put, List.setIfInBounds_toArray, List.set_cons_zero, List.set_cons_succ]
        refine wpAnyH_take (i := 15) (oi := ⟨_, _, _, _, _, _⟩) (v := ?_) rfl (by kernel_rfl) (by kernel_rfl) (by kernel_rfl) (fun _ _ _ h => h) (Or.inl ⟨by rfl, ?_⟩) (by exact hH13) ?_
        rotate_left
        · (intro x hx; (try dsimp only at hx); go_simp; try (with_reducible rfl))
        try simp only [Act.put, List.setIfInBounds_toArray, List.set_cons_zero, List.set_cons_succ]
        refine wpAnyH_ready (rs := [16]) (by kernel_rfl) (by simp) ?_
        refine AllReadyH.cons (o := ⟨_, _, _, _, _, _⟩) rfl (fun K hK => ?_) ?_
        · skip
          go_simp
          refine hK.out _ _ ?_ (fun hH14 => ?_)
          · (try dsimp only); (refine SA.out _ ?_; (repeat (first | with_reducible exact KB | with_reducible refine qDrew ?_ | with_reducible refine qAlloc ?_)))
          clear hK K hH13
          try simp only [Act.put, List.setIfInBounds_toArray, List.set_cons_zero, List.set_cons_succ]
          refine wpAnyH_take (i := 17) (oi := ⟨_, _, _, _, _, _⟩) (v := ?_) rfl (by kernel_rfl) (by kernel_rfl) (by kernel_rfl) (fun _ _ _ h => h) (Or.inl ⟨by rfl, ?_⟩) (by exact hH14) ?_
          rotate_left
          · (intro x hx; (try dsimp only at hx); go_simp; try (with_reducible rfl))
          try simp only [Act.put, List.setIfInBounds_toArray, List.set_cons_zero, List.set_cons_succ]
          refine wpAnyH_done (by kernel_rfl) ?_ _
          go_wp2_with fail
          go_ret
          first
            | exact ⟨_, _, _, _, rfl, begin_A (by omega) hUs, alloc3_below BU.out hUs _ _ _⟩
            | exact ⟨_, _, _, _, rfl, begin_B (by omega) hUs, alloc3_below BU.out hUs _ _ _⟩
        exact AllReadyH.nil
      exact AllReadyH.nil
    exact AllReadyH.nil
  refine AllReadyH.cons (o := ⟨_, _, _, _, _, _⟩) rfl (fun K hK => ?_) ?_
  · skip
    go_simp
    refine hK.out _ _ ?_ (fun hH15 => ?_)
    · (try dsimp only); (refine SA.out _ ?_; (repeat (first | with_reducible exact KB | with_reducible refine qDrew ?_ | with_reducible refine qAlloc ?_)))
    clear hK K hH0
    try simp only [Act.put, List.setIfInBounds_toArray, List.set_cons_zero, List.set_cons_succ]
    refine wpAnyH_ready (rs := [5, 10]) (by kernel_rfl) (by simp) ?_
    refine AllReadyH.cons (o := ⟨_, _, _, _, _, _⟩) rfl (fun K hK => ?_) ?_
    · skip
      go_simp
      refine (plainRegs_any gy _ (by omega)).mono ?_; rintro e wz ⟨rfl, hz⟩; rw [hz]; clear hz
      refine hK.out _ _ ?_ (fun hH16 => ?_)
      · (try dsimp only); (refine SA.out _ ?_; (repeat (first | with_reducible exact KB | with_reducible refine qDrew ?_ | with_reducible refine qAlloc ?_)))
      clear hK K hH15
      try simp only [Act.put, List.setIfInBounds_toArray, List.set_cons_zero, List.set_cons_succ]
      refine wpAnyH_take (i := 6) (oi := ⟨_, _, _, _, _, _⟩) (v := ?_) rfl (by kernel_rfl) (by kernel_rfl) (by kernel_rfl) (fun _ _ _ h => h) (Or.inl ⟨by rfl, ?_⟩) (by exact hH16) ?_
      rotate_left
      · (intro x hx; (try dsimp only at hx); go_simp; try (with_reducible rfl))
      try simp only [Act.put, List.setIfInBounds_toArray, List.set_cons_zero, List.set_cons_succ]
      refine wpAnyH_ready (rs := [10]) (by kernel_rfl) (by simp) ?_
      refine AllReadyH.cons (o := ⟨_, _, _, _, _, _⟩) rfl (fun K hK => ?_) ?_
      · skip
        go_simp
        refine hK.out _ _ ?_ (fun hH17 => ?_)
        · (try dsimp only); (refine SA.out _ ?_; (repeat (first | with_reducible exact KB | with_reducible refine qDrew ?_ | with_reducible refine qAlloc ?_)))
        clear hK K hH16
        try simp only [Act.put, List.setIfInBounds_toArray, List.set_cons_zero, List.set_cons_succ]
        refine wpAnyH_take (i := 15) (oi := ⟨_, _, _, _, _, _⟩) (v := ?_) rfl (by kernel_rfl) (by kernel_rfl) (by kernel_rfl) (fun _ _ _ h => h) (Or.inl ⟨by rfl, ?_⟩) (by exact hH17) ?_
        rotate_left
        · (intro x hx; (try dsimp only at hx); go_simp; try (with_reducible rfl))
        try simp only [Act.put, List.setIfInBounds_toArray, List.set_cons_zero, List.set_cons_succ]
        refine wpAnyH_ready (rs := [16]) (by kernel_rfl) (by simp) ?_
        refine AllReadyH.cons (o := ⟨_, _, _, _, _, _⟩) rfl (fun K hK => ?_) ?_
        · skip
          go_simp
          refine hK.out _ _ ?_ (fun hH18 => ?_)
          · (try dsimp only); (refine SA.out _ ?_; (repeat (first | with_reducible exact KB | with_reducible refine qDrew ?_ | with_reducible refine qAlloc ?_)))
          clear hK K hH17
          try simp only [Act.put, List.setIfInBounds_toArray, List.set_cons_zero, List.set_cons_succ]
          refine wpAnyH_take (i := 17) (oi := ⟨_, _, _, _, _, _⟩) (v := ?_) rfl (by kernel_rfl) (by kernel_rfl) (by kernel_rfl) (fun _ _ _ h => h) (Or.inl ⟨by rfl, ?_⟩) (by exact hH18) ?_
          rotate_left
          · (intro x hx; (try dsimp only at hx); go_simp; try (with_reducible rfl))
          try simp only [Act.put, List.setIfInBounds_toArray, List.set_cons_zero, List.set_cons_succ]
          refine wpAnyH_done (by kernel_rfl) ?_ _
          go_wp2_with fail
          go_ret
          first
            | exact ⟨_, _, _, _, rfl, begin_A (by omega) hUs, alloc3_below BU.out hUs _ _ _⟩
            | exact ⟨_, _, _, _, rfl, begin_B (by omega) hUs, alloc3_below BU.out hUs _ _ _⟩
        exact AllReadyH.nil
      exact AllReadyH.nil
    refine AllReadyH.cons (o := ⟨_, _, _, _, _, _⟩) rfl (fun K hK => ?_) ?_
    · skip
      go_simp
      refine hK.out _ _ ?_ (fun hH19 => ?_)
      · (try dsimp only); (refine SA.out _ ?_; (repeat (first | with_reducible exact KB | with_reducible refine qDrew ?_ | with_reducible refine qAlloc ?_)))
      clear hK K hH15
      try simp only [Act.put, List.setIfInBounds_toArray, List.set_cons_zero, List.set_cons_succ]
      refine wpAnyH_ready (rs := [5]) (by kernel_rfl) (by simp) ?_
      refine AllReadyH.cons (o := ⟨_, _, _, _, _, _⟩) rfl (fun K hK => ?_) ?_
      · skip
        go_simp
        refine (plainRegs_any gy _ (by omega)).mono ?_; rintro e wz ⟨rfl, hz⟩; rw [hz]; clear hz
        refine hK.out _ _ ?_ (fun hH20 => ?_)
        · (try dsimp only); (refine SA.out _ ?_; (repeat (first | with_reducible exact KB | with_reducible refine qDrew ?_ | with_reducible refine qAlloc ?_)))
        clear hK K hH19
        try simp only [Act.put, List.setIfInBounds_toArray, List.set_cons_zero, List.set_cons_succ]
        refine wpAnyH_take (i := 6) (oi := ⟨_, _, _, _, _, _⟩) (v := ?_) rfl (by kernel_rfl) (by kernel_rfl) (by kernel_rfl) (fun _ _ _ h => h) (Or.inl ⟨by rfl, ?_⟩) (by exact hH20) ?_
        rotate_left
        · (intro x hx; (try dsimp only at hx); go_simp; try (with_reducible rfl))
        try simp only [Act.put, List.setIfInBounds_toArray, List.set_cons_zero, List.set_cons_succ]
        refine wpAnyH_take (i := 15) (oi := ⟨_, _, _, _, _, _⟩) (v := ?_) rfl (by kernel_rfl) (by kernel_rfl) (by kernel_rfl) (fun _ _ _ h => h) (Or.inl ⟨by rfl, ?_⟩) (by exact hH20) ?_
        rotate_left
        · (intro x hx; (try dsimp only at hx); go_simp; try (with_reducible rfl))
        try simp only [Act.put, List.setIfInBounds_toArray, List.set_cons_zero, List.set_cons_succ]
        refine wpAnyH_ready (rs := [16]) (by kernel_rfl) (by simp) ?_
        refine AllReadyH.cons (o := ⟨_, _, _, _, _, _⟩) rfl (fun K hK => ?_) ?_
        · skip
          go_simp
          refine hK.out _ _ ?_ (fun hH21 => ?_)
          · (try dsimp only); (refine SA.out _ ?_; (repeat (first | with_reducible exact KB | with_reducible refine qDrew ?_ | with_reducible refine qAlloc ?_)))
          clear hK K hH20
          try simp only [Act.put, List.setIfInBounds_toArray, List.set_cons_zero, List.set_cons_succ]
          refine wpAnyH_take (i := 17) (oi := ⟨_, _, _, _, _, _⟩) (v := ?_) rfl (by kernel_rfl) (by kernel_rfl) (by kernel_rfl) (fun _ _ _ h => h) (Or.inl ⟨by rfl, ?_⟩) (by exact hH21) ?_
          rotate_left
          · (intro x hx; (try dsimp only at hx); go_simp; try (with_reducible rfl))
          try simp only [Act.put, List.setIfInBounds_toArray, List.set_cons_zero, List.set_cons_succ]
          refine wpAnyH_done (by kernel_rfl) ?_ _
          go_wp2_with fail
          go_ret
          first
            | exact ⟨_, _, _, _, rfl, begin_A (by omega) hUs, alloc3_below BU.out hUs _ _ _⟩
            | exact ⟨_, _, _, _, rfl, begin_B (by omega) hUs, alloc3_below BU.out hUs _ _ _⟩
        exact AllReadyH.nil
      exact AllReadyH.nil
    exact AllReadyH.nil
  exact AllReadyH.nil

end Go.Proofs.YtaimpljkbpnigaaGreatDoor

namespace Go.Proofs.YtaimpljkbpnigaaGreatDoor
open Go.RowKit
set_option linter.unusedVariables false

theorem inB_of {n f : Nat} (h : f < n) : inB n (f : Int) = true := by
  unfold inB
  exact decide_eq_true ⟨by omega, by omega⟩

set_option maxRecDepth 100000 in
set_option maxHeartbeats 8000000 in
theorem lwrNo_any (pa : Option Addr) (pn pc : Nat) (ps : List Fn) (fn : Int) (w : World) (hp : Fns w pa pn pc ps) (ld : Ld w) (h : lowOk ps fn = false) :
    Calls Tryz.prog 8 #[.agg #[.slice pa pn pc], .int .i64 fn] w fun e w' => e = .returned (.tuple #[.agg #[.int .i64 0, .int .i64 0, .slice none 0 0, .slice none 0 0], .int .i64 1100]) ∧ Below w.heap.size w w' := by
  have HP := hid hp
  have LP := hid hp.len
  have hpr := hp.room
  have hpc := hp.cap
  have LD := hid ld
  have HK := hid h
  clear hp h ld
  go_enter Tryz.func8, Tryz.ntmps8
  go_upto_region 1 with fail
  refine wp_name ?_
  intro U hU
  have B : Hid (Below w.heap.size w U) := hid (by rw [hU]; go_grown)
  have p0 : U.cell? ⟨w.heap.size, 0, none⟩ = some (.slice pa pn pc) := by rw [hU]; simp [go_sem]
  have R0 : Hid (Res0 U (w.heap.size + 1)) := hid (by rw [hU]; exact ⟨by simp [go_sem], by simp [go_sem], by simp [go_sem], by simp [go_sem], fun j => by simp [go_sem]⟩)
  clear hU
  go_wp2_with fail
  refine (callsOf_any _ _ _ ps _ (HP.out.kept B.out) (LD.out.up B.out)).mono ?_
  rintro e V ⟨bV, ⟨hv, ha, hn, hc, rfl, hh⟩ | ⟨hv, a1, n1, c1, a2, n2, c2, rfl⟩⟩
  · have h2 : inB pn fn = false := by
      have hk := HK.out
      unfold lowOk at hk
      rw [decide_eq_true hv, ← LP.out] at hk
      simpa using hk
    have H2 := hid h2
    have BV := hid (kt B.out bV)
    have RV := hid (R0.out.frm (bV.block _ (lt_of_cell R0.out.c0)))
    clear R0 bV hh hv h2 p0
    go_upto_region 2 with fail
    refine wp_name ?_
    intro W0 hW0
    have A0 : Hid (Below V.heap.size V W0) := hid (by rw [hW0]; go_grown)
    have B0 := hid (kt BV.out A0.out)
    have t0 : W0.cell? ⟨V.heap.size, 0, none⟩ = some (.slice pa pn pc) := by rw [hW0]; simp [go_sem]
    have t1 : W0.cell? ⟨V.heap.size, 1, none⟩ = some (.slice ha hn hc) := by rw [hW0]; simp [go_sem]
    have RW := hid (RV.out.frm (A0.out.block _ (lt_of_cell RV.out.c0)))
    clear hW0 RV
    go_wp2_with fail
    refine (isFunc_any _ _ _ _ _ _ _ _ hpr).mono ?_
    rintro e X ⟨rfl, bX⟩
    rw [H2.out]
    have BX := hid (kt B0.out bX)
    obtain ⟨r0, r1, r2, r3, rf⟩ := RW.out.frm (bX.block _ (lt_of_cell RW.out.c0))
    clear bX RW t0 t1
    go_wp2_with fail
    refine bodyPost_ret (v := .tuple #[.agg #[.int .i64 0, .int .i64 0, .slice none 0 0, .slice none 0 0], .int .i64 1100]) (by simp [results, Tryz.results8, go_sem, r0, r1, r2, r3]) rfl ⟨rfl, ?_⟩
    repeat (first | exact BX.out | refine Below.setCell ?_ (by show w.heap.size ≤ w.heap.size + 1; omega) _)
  · have BV := hid (kt B.out bV)
    have RV := hid (R0.out.frm (bV.block _ (lt_of_cell R0.out.c0)))
    clear R0 bV hv p0
    go_upto_region 2 with fail
    refine wp_name ?_
    intro W0 hW0
    have A0 : Hid (Below V.heap.size V W0) := hid (by rw [hW0]; go_grown)
    have B0 := hid (kt BV.out A0.out)
    obtain ⟨r0, r1, r2, r3, rf⟩ := RV.out.frm (A0.out.block _ (lt_of_cell RV.out.c0))
    clear hW0 RV
    go_wp2_with fail
    refine bodyPost_ret (v := .tuple #[.agg #[.int .i64 0, .int .i64 0, .slice none 0 0, .slice none 0 0], .int .i64 1100]) (by simp [results, Tryz.results8, go_sem, r0, r1, r2, r3]) rfl ⟨rfl, ?_⟩
    repeat (first | exact B0.out | refine Below.setCell ?_ (by show w.heap.size ≤ w.heap.size + 1; omega) _)

set_option maxRecDepth 100000 in
set_option maxHeartbeats 8000000 in
theorem lwrYes_any (pa : Option Addr) (pn pc : Nat) (ps : List Fn) (f : Nat) (gx gy : Int) (fl : List (Int × Int)) (w : World) (hp : Fns w pa pn pc ps) (ld : Ld w) (hv : verV ps = 0) (hf : f < ps.length) (e3 : ps.getD f noFn = (gx, gy, fl)) :
    Calls Tryz.prog 8 #[.agg #[.slice pa pn pc], .int .i64 (f : Int)] w fun e w' => ∃ v u B1 B2, e = .returned (.tuple #[.agg #[.int .i64 (f : Int), .int .i64 (gy + 8), v, u], .int .i64 0]) ∧ OSl layIr 44 88 w' B1 v ((lowN ps f (gx, gy, fl) fl.length).1.map (toPlace (lowN ps f (gx, gy, fl) fl.length).2.2)) ∧ OSl layMeta 57 24 w' B2 u (lowN ps f (gx, gy, fl) fl.length).2.1 ∧ (∀ b, B1 b → w.heap.size ≤ b) ∧ (∀ b, B2 b → w.heap.size ≤ b) ∧ (∀ b, B1 b → B2 b → False) ∧ Below w.heap.size w w' := by
  have HP := hid hp
  have LP := hid hp.len
  have hpr := hp.room
  have hpc := hp.cap
  have LD := hid ld
  have HV := hid hv
  have E3 := hid e3
  have hvf := ver_fn hv hf e3
  have hfn : f < pn := by rw [LP.out]; exact hf
  have HFN := hid hfn
  have HGY : Hid (0 ≤ gy ∧ gy ≤ 8) := hid (by omega)
  have HL64 : Hid (fl.length ≤ 64) := hid (by omega)
  clear hp ld hv e3 hvf
  go_enter Tryz.func8, Tryz.ntmps8
  go_upto_region 1 with fail
  refine wp_name ?_
  intro U hU
  have B : Hid (Below w.heap.size w U) := hid (by rw [hU]; go_grown)
  have p0 : U.cell? ⟨w.heap.size, 0, none⟩ = some (.slice pa pn pc) := by rw [hU]; simp [go_sem]
  have R0 : Hid (Res0 U (w.heap.size + 1)) := hid (by rw [hU]; exact ⟨by simp [go_sem], by simp [go_sem], by simp [go_sem], by simp [go_sem], fun j => by simp [go_sem]⟩)
  clear hU
  go_wp2_with fail
  refine (callsOf_any _ _ _ ps _ (HP.out.kept B.out) (LD.out.up B.out)).mono ?_
  rintro e V ⟨bV, ⟨hv, ha, hn, hc, rfl, hh⟩ | ⟨hv, a1, n1, c1, a2, n2, c2, rfl⟩⟩
  rotate_left
  · exact absurd HV.out hv
  have BV := hid (kt B.out bV)
  have RV := hid (R0.out.frm (bV.block _ (lt_of_cell R0.out.c0)))
  have HH := hid hh
  clear R0 bV hh hv p0
  go_upto_region 2 with fail
  refine wp_name ?_
  intro W0 hW0
  have A0 : Hid (Below V.heap.size V W0) := hid (by rw [hW0]; go_grown)
  have B0 := hid (kt BV.out A0.out)
  have t0 : W0.cell? ⟨V.heap.size, 0, none⟩ = some (.slice pa pn pc) := by rw [hW0]; simp [go_sem]
  have t1 : W0.cell? ⟨V.heap.size, 1, none⟩ = some (.slice ha hn hc) := by rw [hW0]; simp [go_sem]
  have RW := hid (RV.out.frm (A0.out.block _ (lt_of_cell RV.out.c0)))
  have HHW := hid (HH.out.kept A0.out)
  clear hW0 RV HH
  go_wp2_with fail
  refine (isFunc_any _ _ _ _ _ _ _ _ hpr).mono ?_
  rintro e X ⟨rfl, bX⟩
  rw [inB_of HFN.out]
  obtain ⟨b0, o0, gx', gy', ga, gn, gc, gl, rfl, e3', d0, d1, d2, i3⟩ := HP.out.at f HFN.out
  have e := E3.out.symm.trans e3'
  obtain ⟨rfl, rfl, rfl⟩ : gx = gx' ∧ gy = gy' ∧ fl = gl := by cases e; exact ⟨rfl, rfl, rfl⟩
  obtain rfl : gn = fl.length := i3.len
  have hgr := i3.room
  have hgc := i3.cap
  have BX := hid (kt B0.out bX)
  have I3 := hid (i3.kept BX.out)
  have HPX := hid (HP.out.kept BX.out)
  have HHX := hid (HHW.out.kept bX)
  have RX := hid (RW.out.frm (bX.block _ (lt_of_cell RW.out.c0)))
  have D := hid (And.intro (kept_cell BX.out d0) (And.intro (kept_cell BX.out d1) (kept_cell BX.out d2)))
  replace t0 := kept_cell bX t0
  replace t1 := kept_cell bX t1
  have T := hid (And.intro t0 t1)
  clear e3' e i3 d0 d1 d2 bX RW HHW
  go_wp2_with fail
  refine (begin_any b0 o0 pn pc ha hn hc f _ hpr hpc HFN.out gx gy ga fl.length gc D.out.1 D.out.2.1 D.out.2.2 HGY.out HL64.out hgc).mono ?_
  rintro e W ⟨xb, fb, vW, BW, rfl, k, bW⟩
  have x4 := k.bx.c 4 _ rfl
  have K0 := hid k
  have BW := hid bW
  clear k bW t0 t1
  go_wp2_with fail
  go_loopw [36] (fun i wr => ∃ q : Nat, q ≤ fl.length ∧ i = .int .i64 q ∧ LwAt wr xb fb X.heap.size (some ⟨b0, o0, none⟩) pn pc ha hn hc ps f gx gy fl (.slice ga fl.length gc) q ∧ Below X.heap.size X wr) (fun i _ => fl.length - (intOf i).toNat)
  case atStart => exact ⟨0, Nat.zero_le _, rfl, ⟨_, _, _, _, _, _, _, _, K0.out, fun a ha => absurd ha (Nat.not_lt_zero a), List.length_replicate, fun a _ h2 => ⟨[], by rw [List.getElem?_replicate, if_pos h2], WaitI.zero _ _ _ _⟩⟩, BW.out⟩
  case round =>
    clear x4 K0
    obtain ⟨q, hq, rfl, hL, hb⟩ := hrel
    have HLW := hid hL
    have HB := hid hb
    clear hL hb
    by_cases hlt : q < fl.length
    · obtain ⟨bi, oi, kN, aN, rfl, e7, k0w, k1w⟩ := (I3.out.kept HB.out).at q hlt
      have HX : Hid (fl[q]? = some (kN, aN)) := hid (by
        rw [List.getD_eq_getElem?_getD, List.getElem?_eq_getElem hlt] at e7
        rw [List.getElem?_eq_getElem hlt, ← e7]; rfl)
      have hq64 : q < 64 := by have := HL64.out; omega
      have HQ := hid hlt
      clear e7
      go_upto_region 8 with fail
      refine wp_name ?_
      intro Y hY
      have BY : Hid (Below wr.heap.size wr Y) := hid (by rw [hY]; go_grown)
      have s0 : Y.cell? ⟨wr.heap.size, 0, none⟩ = some (.int .i64 kN) := by rw [hY]; simp [go_sem]
      have s1 : Y.cell? ⟨wr.heap.size, 1, none⟩ = some (.int .i64 aN) := by rw [hY]; simp [go_sem]
      have HBY : Hid (Below X.heap.size X Y) := hid (HB.out.trans (BY.out.mono HB.out.size))
      have t0 := kept_cell HBY.out T.out.1
      have t1 := kept_cell HBY.out T.out.2
      have LY := hid (HLW.out.kept BY.out)
      clear hY k0w k1w HLW
      go_wp2_with fail
      refine (tabHeight_any _ _ _ _ _ _ ps (f : Int) (q : Int) _ (HPX.out.kept HBY.out) (HHX.out.kept HBY.out) HV.out).mono ?_
      rintro e Z ⟨rfl, bZ⟩
      have HBZ : Hid (Below X.heap.size X Z) := hid (HBY.out.trans (bZ.mono HBY.out.size))
      have LZ := hid (LY.out.kept bZ)
      replace s0 := kept_cell bZ s0
      replace s1 := kept_cell bZ s1
      clear bZ LY BY HBY t0 t1
      by_cases hh : 0 ≤ heightV ps (f : Int) (q : Int)
      · have hr : reachedB ps (f : Int) (q : Int) = true := decide_eq_true hh
        rw [hgt_yes hr, hr]
        have HHQ := hid hh
        clear hh hr
        go_wp2_with fail
        refine (lowLower_any _ LZ.out (fun u hu => HPX.out.kept (HBZ.out.trans hu)) HV.out E3.out kN aN HX.out HHQ.out).mono ?_
        rintro e w9 ⟨rfl, l9, b9⟩
        have L9 := hid l9
        have B9 := hid (HBZ.out.trans b9)
        clear l9 b9 LZ
        go_wp2_with fail
        go_roundw
        case rel => exact ⟨q + 1, by omega, by go_num, L9.out, B9.out⟩
        case measure => simp [intOf]; omega
      · have hr : reachedB ps (f : Int) (q : Int) = false := decide_eq_false hh
        rw [hgt_no hr, hr]
        have L9 := hid (LZ.out.gone HV.out E3.out HQ.out (by omega))
        clear hh hr LZ
        go_wp2_with fail
        go_roundw
        case rel => exact ⟨q + 1, by omega, by go_num, L9.out, HBZ.out⟩
        case measure => simp [intOf]; omega
    · obtain rfl : q = fl.length := by omega
      obtain ⟨vC, vM, vW', BC, BM, BW', pl, wl, k, -, -, -⟩ := HLW.out
      rw [half_all HV.out E3.out] at k
      obtain ⟨ca, cn, cc, rfl, -⟩ := k.oi.reads
      obtain ⟨ma, mn, mc, rfl, -⟩ := k.om.reads
      have x5 := k.bx.c 5 _ rfl
      have x6 := k.bx.c 6 _ rfl
      have x7 := k.bx.c 7 _ rfl
      have x8 := k.bx.c 8 _ rfl
      have RZ := RX.out.frm (HB.out.block _ (lt_of_cell RX.out.c0))
      obtain ⟨r0, r1, r2, r3, rf⟩ := RZ
      have K := hid k
      have NZ : Hid (¬ WkZ xb fb BC BM BW' (w.heap.size + 1)) := hid (by
        have hlt9 : w.heap.size + 1 < X.heap.size := lt_of_cell RX.out.c0
        have h1 := K.out.bl
        rintro (h | h | h | h | h)
        · omega
        · omega
        · have := (K.out.nC _ h).2.2.1; omega
        · have := (K.out.nM _ h).2.2.1; omega
        · have := (K.out.nW _ h).2.2.1; omega)
      clear k HLW
      go_wp2_with fail
      refine bodyPost_ret (v := .tuple #[.agg #[.int .i64 (f : Int), .int .i64 (gy + 8), .slice ca cn cc, .slice ma mn mc], .int .i64 0]) (by simp [results, Tryz.results8, go_sem, r0, r1, r2, r3]) rfl ⟨_, _, BC, BM, rfl, ?_, ?_, ?_, ?_, ?_, ?_⟩
      · exact (((((K.out.setFar NZ.out).setFar NZ.out).setFar NZ.out).setFar NZ.out)).oi
      · exact (((((K.out.setFar NZ.out).setFar NZ.out).setFar NZ.out).setFar NZ.out)).om
      · exact fun b hb => by have := (K.out.nC b hb).2.2.1; have := BX.out.size; omega
      · exact fun b hb => by have := (K.out.nM b hb).2.2.1; have := BX.out.size; omega
      · exact K.out.dCM
      · repeat (first | exact kt BX.out HB.out | refine Below.setCell ?_ (by show w.heap.size ≤ w.heap.size + 1; omega) _)

/-- Whatever program and number: the code reckoned (lowerV), the error (lowerE). -/
theorem lwrLower_any (pa : Option Addr) (pn pc : Nat) (ps : List Fn) (fn : Int) (w : World) (hp : Fns w pa pn pc ps) (ld : Ld w) :
    Calls Tryz.prog 8 #[.agg #[.slice pa pn pc], .int .i64 fn] w fun e w' => ∃ v u B1 B2, e = .returned (.tuple #[.agg #[.int .i64 (lowerV ps fn).1, .int .i64 (lowerV ps fn).2.1, v, u], .int .i64 (lowerE ps fn)]) ∧ OSl layIr 44 88 w' B1 v (lowerV ps fn).2.2.1 ∧ OSl layMeta 57 24 w' B2 u (lowerV ps fn).2.2.2 ∧ (∀ b, B1 b → w.heap.size ≤ b) ∧ (∀ b, B2 b → w.heap.size ≤ b) ∧ (∀ b, B1 b → B2 b → False) ∧ Below w.heap.size w w' := by
  by_cases h : lowOk ps fn = true
  · have h' := h
    unfold lowOk at h'
    rw [Bool.and_eq_true, decide_eq_true_eq] at h'
    obtain ⟨hv, hi⟩ := h'
    have hi' : 0 ≤ fn ∧ fn < ps.length := by unfold inB at hi; simpa using hi
    obtain ⟨f, rfl⟩ : ∃ f : Nat, fn = f := ⟨fn.toNat, by omega⟩
    obtain ⟨⟨gx, gy, fl⟩, e3⟩ : ∃ x, ps.getD f noFn = x := ⟨_, rfl⟩
    refine (lwrYes_any _ _ _ ps f gx gy fl w hp ld hv (by omega) e3).mono ?_
    rintro e y ⟨v, u, B1, B2, rfl, o1, o2, h1, h2, h3, b⟩
    have ev : lowerV ps (f : Int) = ((f : Int), gy + 8, (lowN ps f (gx, gy, fl) fl.length).1.map (toPlace (lowN ps f (gx, gy, fl) fl.length).2.2), (lowN ps f (gx, gy, fl) fl.length).2.1) := by
      unfold lowerV
      rw [if_pos h, Int.toNat_natCast, e3]
    have ee : lowerE ps (f : Int) = 0 := if_pos h
    rw [ev, ee]
    exact ⟨v, u, B1, B2, rfl, o1, o2, h1, h2, h3, b⟩
  · have hf : lowOk ps fn = false := by simpa using h
    refine (lwrNo_any _ _ _ ps fn w hp ld hf).mono ?_
    rintro e y ⟨rfl, b⟩
    have ev : lowerV ps fn = noCd := if_neg h
    have ee : lowerE ps fn = 1100 := if_neg h
    rw [ev, ee]
    exact ⟨_, _, fun _ => False, fun _ => False, rfl, OSl.nil _ _ _ _ _, OSl.nil _ _ _ _ _, fun _ h => h.elim, fun _ h => h.elim, fun _ h _ => h, b⟩

end Go.Proofs.YtaimpljkbpnigaaGreatDoor
