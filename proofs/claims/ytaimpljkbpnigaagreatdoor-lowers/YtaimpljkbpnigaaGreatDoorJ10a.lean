/- Package ir: how much there is of a code, which registers, how it ends; package fields: which fields a kind has; what a field may hold. Package ir: what a field may hold, which registers a code has, how it ends. A list of structs has one that a function picks, for whatever function (slices.IndexFunc, slices.ContainsFunc). Written by pickgen.py. Package ir: as many arguments as K asks for; the fields of an instruction. Written by irgen.py. Package ir: metas: their sources, their parts. Written by irgen.py. Package ir: metas that may be. Written by irgen.py. Package ir: isIr: all that a kind asks of an instruction's fields. Written by irgen.py. Package ir: areAll: each instruction may be. Written by irgen.py. Package ir: which code may be (May). Written by irgen.py. -/
import Derived.Test.YtaimpljkbpnigaaGreatDoorJ10e
import Derived.Test.YtaimpljkbpnigaaGreatDoorMemIr
import Derived.Test.YtaimpljkbpnigaaGreatDoorJ10g
import Derived.Test.YtaimpljkbpnigaaGreatDoorNum
import Derived.Shelf.Abstract
import Derived.Test.YtaimpljkbpnigaaGreatDoorJ11e
import Derived.Deep.DeepCutAuto
namespace Go.Proofs.YtaimpljkbpnigaaGreatDoor
open Go.RowKit
set_option linter.unusedVariables false

/-- What a checker of code holds: the functions and heights of a verified program, the code's instructions and metas. -/
structure Chk (w : World) (pa : Option Addr) (pn pc : Nat) (ha : Option Addr) (hn hc : Nat) (ca : Option Addr) (cn cc : Nat) (ma : Option Addr) (mn mc : Nat) (ps : List Fn) (cl : List IrT) (ml : List (List PartT)) : Prop where
  p : Fns w pa pn pc ps
  h : Hts w ha hn hc (htsAll ps)
  c : Sl layIr 88 w ca cn cc cl
  m : Sl layMeta 24 w ma mn mc ml
theorem Chk.kept {w w' : World} {pa : Option Addr} {pn pc : Nat} {ha : Option Addr} {hn hc : Nat} {ca : Option Addr} {cn cc : Nat} {ma : Option Addr} {mn mc : Nat} {ps : List Fn} {cl : List IrT} {ml : List (List PartT)}
    (k : Chk w pa pn pc ha hn hc ca cn cc ma mn mc ps cl ml) (hb : Below w.heap.size w w') : Chk w' pa pn pc ha hn hc ca cn cc ma mn mc ps cl ml := ⟨k.p.kept hb, k.h.kept hb, k.c.kept hb, k.m.kept hb⟩

set_option maxHeartbeats 1000000 in
theorem irBelow_any (x l : Int) (w : World) :
    Calls Tryz.prog 77 #[.int .i64 x, .int .i64 l] w fun e w' => e = .returned (.bool (decide (0 ≤ x ∧ x < l))) ∧ w' = w := by
  by_cases h0 : 0 ≤ x
  · by_cases h1 : x < l
    · go_enter Tryz.func77, Tryz.ntmps77
      go_wp2
      go_ret
      exact ⟨ret_bool (by simp; omega), rfl⟩
    · go_enter Tryz.func77, Tryz.ntmps77
      go_wp2
      go_ret
      exact ⟨ret_bool (by simp; omega), rfl⟩
  · go_enter Tryz.func77, Tryz.ntmps77
    go_wp2
    go_ret
    exact ⟨ret_bool (by simp; omega), rfl⟩

set_option maxHeartbeats 1000000 in
theorem irLeast_any (at_ : Nat) (kd r a b k : Int) (xa : Option Addr) (xn xc : Nat) (cost mt pc : Int) (w : World) :
    Calls Tryz.prog 65 #[.int .i64 (at_ : Int), .agg #[.int .i64 kd, .int .i64 r, .int .i64 a, .int .i64 b, .int .i64 k, .slice xa xn xc, .int .i64 cost, .int .i64 mt, .int .i64 pc]] w fun e w' => e = .returned (.int .i64 (leastV at_ kd k)) ∧ Below w.heap.size w w' := by
  by_cases h4 : kd = 4
  · subst h4
    by_cases hp : (at_ : Int) < k
    all_goals
      go_enter Tryz.func65, Tryz.ntmps65
      go_wp2_with fail
      go_ret
      exact ⟨ret_int (by unfold leastV; simp [hp]), by go_grown⟩
  by_cases h5 : kd = 5
  · subst h5
    by_cases hp : (at_ : Int) < k
    all_goals
      go_enter Tryz.func65, Tryz.ntmps65
      go_wp2_with fail
      go_ret
      exact ⟨ret_int (by unfold leastV; simp [hp]), by go_grown⟩
  by_cases h6 : kd = 6
  · subst h6
    go_enter Tryz.func65, Tryz.ntmps65
    go_wp2_with fail
    go_ret
    exact ⟨ret_int (by unfold leastV; simp), by go_grown⟩
  by_cases h7 : kd = 7
  · subst h7
    go_enter Tryz.func65, Tryz.ntmps65
    go_wp2_with fail
    go_ret
    exact ⟨ret_int (by unfold leastV; simp), by go_grown⟩
  have E2 : Hid (leastV at_ kd k = 0) := hid (by unfold leastV; simp [h4, h5, h6, h7])
  replace h4 : (kd == 4) = false := by simpa using h4
  replace h5 : (kd == 5) = false := by simpa using h5
  replace h6 : (kd == 6) = false := by simpa using h6
  replace h7 : (kd == 7) = false := by simpa using h7
  go_enter Tryz.func65, Tryz.ntmps65
  go_wp2_with fail
  go_ret
  exact ⟨ret_int E2.out.symm, by go_grown⟩

set_option maxHeartbeats 4000000 in
theorem fieldsOf_any (kd : Int) (w : World) :
    Calls Tryz.prog 76 #[.int .i64 kd] w fun e w' => ∃ sr sa sb sk sg sm, sortsT kd = (sr, sa, sb, sk, sg, sm) ∧ e = .returned (.tuple #[.agg #[.int .i64 sr, .int .i64 sa, .int .i64 sb, .int .i64 sk, .int .i64 sg, .int .i64 sm], .bool (irKindB kd)]) ∧ Below w.heap.size w w' := by
  by_cases hk : 0 ≤ kd ∧ kd ≤ 11
  · have hc : kd = 0 ∨ kd = 1 ∨ kd = 2 ∨ kd = 3 ∨ kd = 4 ∨ kd = 5 ∨ kd = 6 ∨ kd = 7 ∨ kd = 8 ∨ kd = 9 ∨ kd = 10 ∨ kd = 11 := by omega
    clear hk
    rcases hc with rfl | rfl | rfl | rfl | rfl | rfl | rfl | rfl | rfl | rfl | rfl | rfl
    all_goals
      go_enter Tryz.func76, Tryz.ntmps76
      go_wp2_with fail
      exact bodyPost_ret (v := _) (by simp [results, Tryz.results76, go_sem]; rfl) rfl ⟨_, _, _, _, _, _, rfl, rfl, by go_grown⟩
  · have E : Hid (sortsT kd = (0, 0, 0, 0, 0, 0) ∧ irKindB kd = false) := hid (by
      refine ⟨?_, by unfold irKindB; exact decide_eq_false hk⟩
      unfold sortsT
      repeat (rw [if_neg (by omega)])
      first | rfl | (split <;> rfl))
    have h0 : (kd == 0) = false := by simp; omega
    have h1 : (kd == 1) = false := by simp; omega
    have h2 : (kd == 2) = false := by simp; omega
    have h3 : (kd == 3) = false := by simp; omega
    have h4 : (kd == 4) = false := by simp; omega
    have h5 : (kd == 5) = false := by simp; omega
    have h6 : (kd == 6) = false := by simp; omega
    have h7 : (kd == 7) = false := by simp; omega
    have h8 : (kd == 8) = false := by simp; omega
    have h9 : (kd == 9) = false := by simp; omega
    have h10 : (kd == 10) = false := by simp; omega
    have h11 : (kd == 11) = false := by simp; omega
    clear hk
    go_enter Tryz.func76, Tryz.ntmps76
    go_wp2_with fail
    exact bodyPost_ret (v := .tuple #[.agg #[.int .i64 0, .int .i64 0, .int .i64 0, .int .i64 0, .int .i64 0, .int .i64 0], .bool false]) (by simp [results, Tryz.results76, go_sem]) rfl ⟨_, _, _, _, _, _, E.out.1, by rw [E.out.2], by go_grown⟩

end Go.Proofs.YtaimpljkbpnigaaGreatDoor

namespace Go.Proofs.YtaimpljkbpnigaaGreatDoor
open Go.RowKit
set_option linter.unusedVariables false

set_option maxHeartbeats 1000000 in
theorem irSize_any (ca : Option Addr) (cn cc : Nat) (ma : Option Addr) (mn mc : Nat) (cf rg : Int) (w : World) (hc : cn * 88 ≤ 140737488351232) (hm : mn * 24 ≤ 140737488351232) :
    Calls Tryz.prog 34 #[.agg #[.int .i64 cf, .int .i64 rg, .slice ca cn cc, .slice ma mn mc]] w fun e w' => e = .returned (.bool (decide (1 ≤ cn ∧ cn ≤ 256 ∧ mn ≤ 64))) ∧ Below w.heap.size w w' := by
  by_cases h1 : 1 ≤ cn
  · by_cases h2 : cn ≤ 256
    · by_cases h3 : mn ≤ 64
      · have E : Hid (decide (1 ≤ cn ∧ cn ≤ 256 ∧ mn ≤ 64) = true) := hid (by simp; omega)
        go_enter Tryz.func34, Tryz.ntmps34
        go_wp2_with fail
        go_ret
        exact ⟨by first | exact ret_bool E.out.symm | exact ret_bool rfl | exact ret_bool (by rw [E.out]; simp <;> omega) | exact ret_bool (by simp <;> omega), by go_grown⟩
      · have E : Hid (decide (1 ≤ cn ∧ cn ≤ 256 ∧ mn ≤ 64) = false) := hid (by simp; omega)
        go_enter Tryz.func34, Tryz.ntmps34
        go_wp2_with fail
        go_ret
        exact ⟨by first | exact ret_bool E.out.symm | exact ret_bool rfl | exact ret_bool (by rw [E.out]; simp <;> omega) | exact ret_bool (by simp <;> omega), by go_grown⟩
    · have E : Hid (decide (1 ≤ cn ∧ cn ≤ 256 ∧ mn ≤ 64) = false) := hid (by simp; omega)
      go_enter Tryz.func34, Tryz.ntmps34
      go_wp2_with fail
      go_ret
      exact ⟨by first | exact ret_bool E.out.symm | exact ret_bool rfl | exact ret_bool (by rw [E.out]; simp <;> omega) | exact ret_bool (by simp <;> omega), by go_grown⟩
  · have E : Hid (decide (1 ≤ cn ∧ cn ≤ 256 ∧ mn ≤ 64) = false) := hid (by simp; omega)
    go_enter Tryz.func34, Tryz.ntmps34
    go_wp2_with fail
    go_ret
    exact ⟨by first | exact ret_bool E.out.symm | exact ret_bool rfl | exact ret_bool (by rw [E.out]; simp <;> omega) | exact ret_bool (by simp <;> omega), by go_grown⟩

set_option maxRecDepth 100000 in
set_option maxHeartbeats 4000000 in
theorem irHolds_any (pa : Option Addr) (pn pc : Nat) (ha : Option Addr) (hn hc : Nat) (ca : Option Addr) (cn cc : Nat) (ma : Option Addr) (mn mc : Nat) (ps : List Fn) (cl : List IrT) (ml : List (List PartT)) (cf rg : Int) (w : World) (K : Chk w pa pn pc ha hn hc ca cn cc ma mn mc ps cl ml) (s x : Int) :
    Calls Tryz.prog 78 #[.agg #[.slice pa pn pc, .slice ha hn hc, .int .i64 cf, .int .i64 rg, .slice ca cn cc, .slice ma mn mc], .int .i64 s, .int .i64 x] w fun e w' => e = .returned (.bool (holdsB ps.length rg cn mn s x)) ∧ Below w.heap.size w w' := by
  have LP := hid K.p.len
  have hpr := K.p.room
  have hcr := K.c.room
  have hmr := K.m.room
  clear K
  by_cases h1 : s = 1
  · subst h1
    go_enter Tryz.func78, Tryz.ntmps78
    go_wp2_with fail
    refine (irBelow_any _ _ _).mono ?_
    rintro e w1 ⟨rfl, rfl⟩
    go_wp2_with fail
    go_ret
    exact ⟨ret_bool (by first | rfl | (rw [← Bool.decide_and]; rfl)), by go_grown⟩
  by_cases h2 : s = 2
  · subst h2
    go_enter Tryz.func78, Tryz.ntmps78
    go_wp2_with fail
    refine (isNumber_any _ _).mono ?_
    rintro e w1 ⟨rfl, rfl⟩
    go_wp2_with fail
    go_ret
    exact ⟨ret_bool (by first | rfl | (rw [← Bool.decide_and]; rfl)), by go_grown⟩
  by_cases h3 : s = 3
  · subst h3
    by_cases k1 : 3 ≤ x
    · by_cases k2 : x ≤ 9
      · have E : Hid (holdsB ps.length rg cn mn 3 x = true) := hid (by show decide (3 ≤ x ∧ x ≤ 9) = true; simp; omega)
        go_enter Tryz.func78, Tryz.ntmps78
        go_wp2_with fail
        go_ret
        exact ⟨by first | exact ret_bool E.out.symm | exact ret_bool rfl | exact ret_bool (by rw [E.out]; simp <;> omega) | exact ret_bool (by simp <;> omega), by go_grown⟩
      · have E : Hid (holdsB ps.length rg cn mn 3 x = false) := hid (by show decide (3 ≤ x ∧ x ≤ 9) = false; simp; omega)
        go_enter Tryz.func78, Tryz.ntmps78
        go_wp2_with fail
        go_ret
        exact ⟨by first | exact ret_bool E.out.symm | exact ret_bool rfl | exact ret_bool (by rw [E.out]; simp <;> omega) | exact ret_bool (by simp <;> omega), by go_grown⟩
    · have E : Hid (holdsB ps.length rg cn mn 3 x = false) := hid (by show decide (3 ≤ x ∧ x ≤ 9) = false; simp; omega)
      go_enter Tryz.func78, Tryz.ntmps78
      go_wp2_with fail
      go_ret
      exact ⟨by first | exact ret_bool E.out.symm | exact ret_bool rfl | exact ret_bool (by rw [E.out]; simp <;> omega) | exact ret_bool (by simp <;> omega), by go_grown⟩
  by_cases h4 : s = 4
  · subst h4
    go_enter Tryz.func78, Tryz.ntmps78
    go_wp2_with fail
    refine (irBelow_any _ _ _).mono ?_
    rintro e w1 ⟨rfl, rfl⟩
    go_wp2_with fail
    go_ret
    exact ⟨ret_bool (by first | rfl | (rw [← Bool.decide_and]; rfl)), by go_grown⟩
  by_cases h5 : s = 5
  · subst h5
    go_enter Tryz.func78, Tryz.ntmps78
    go_wp2_with fail
    refine (isFunc_any _ _ _ _ _ _ _ _ hpr).mono ?_
    rintro e w1 ⟨rfl, b1⟩
    go_wp2_with fail
    go_ret
    exact ⟨ret_bool (by rw [LP.out]; rfl), kt (by go_grown) b1⟩
  by_cases h6 : s = 6
  · subst h6
    go_enter Tryz.func78, Tryz.ntmps78
    go_wp2_with fail
    refine (irBelow_any _ _ _).mono ?_
    rintro e w1 ⟨rfl, rfl⟩
    go_wp2_with fail
    go_ret
    exact ⟨ret_bool (by first | rfl | (rw [← Bool.decide_and]; rfl)), by go_grown⟩
  by_cases h7 : s = 7
  · subst h7
    go_enter Tryz.func78, Tryz.ntmps78
    go_wp2_with fail
    refine (irBelow_any _ _ _).mono ?_
    rintro e w1 ⟨rfl, rfl⟩
    go_wp2_with fail
    go_ret
    exact ⟨ret_bool (by first | rfl | (rw [← Bool.decide_and]; rfl)), by go_grown⟩
  have E : Hid (holdsB ps.length rg cn mn s x = decide (x = 0)) := hid (by unfold holdsB; simp [h1, h2, h3, h4, h5, h6, h7])
  replace h1 : (s == 1) = false := by simpa using h1
  replace h2 : (s == 2) = false := by simpa using h2
  replace h3 : (s == 3) = false := by simpa using h3
  replace h4 : (s == 4) = false := by simpa using h4
  replace h5 : (s == 5) = false := by simpa using h5
  replace h6 : (s == 6) = false := by simpa using h6
  replace h7 : (s == 7) = false := by simpa using h7
  go_enter Tryz.func78, Tryz.ntmps78
  go_wp2_with fail
  go_ret
  exact ⟨ret_bool (by rw [E.out, Bool.eq_iff_iff]; simp), by go_grown⟩

set_option maxRecDepth 100000 in
set_option maxHeartbeats 2000000 in
theorem irRegs_any (pa : Option Addr) (pn pc : Nat) (ha : Option Addr) (hn hc : Nat) (ca : Option Addr) (cn cc : Nat) (ma : Option Addr) (mn mc : Nat) (ps : List Fn) (cl : List IrT) (ml : List (List PartT)) (cf rg : Int) (w : World) (K : Chk w pa pn pc ha hn hc ca cn cc ma mn mc ps cl ml) (f : Nat) (hf : cf = (f : Int)) (hfn : f < ps.length) :
    Calls Tryz.prog 48 #[.agg #[.slice pa pn pc, .slice ha hn hc, .int .i64 cf, .int .i64 rg, .slice ca cn cc, .slice ma mn mc]] w fun e w' => e = .returned (.bool (decide (1 ≤ rg ∧ (ps.getD f noFn).2.1 ≤ rg ∧ rg ≤ 64))) ∧ Below w.heap.size w w' := by
  subst hf
  have LP := hid K.p.len
  have HP := hid K.p
  clear K
  go_enter Tryz.func48, Tryz.ntmps48
  go_wp2_with fail
  refine (tabFunc_any _ _ _ _ _ _ ps f _ (HP.out.kept (by go_grown)) (by rw [LP.out]; exact hfn)).mono ?_
  rintro e U ⟨gx, gy, fa, fn, fc, fl, rfl, e3, -, bU⟩
  have B : Hid (Below w.heap.size w U) := hid (kt (by go_grown) bU)
  have p0 := kept_cell bU (b := w.heap.size) (o := 0) (v := .slice pa pn pc) (by simp [go_sem])
  have p1 := kept_cell bU (b := w.heap.size) (o := 1) (v := .slice ha hn hc) (by simp [go_sem])
  have p2 := kept_cell bU (b := w.heap.size) (o := 2) (v := .int .i64 (f : Int)) (by simp [go_sem])
  have p3 := kept_cell bU (b := w.heap.size) (o := 3) (v := .int .i64 rg) (by simp [go_sem])
  have p4 := kept_cell bU (b := w.heap.size) (o := 4) (v := .slice ca cn cc) (by simp [go_sem])
  have p5 := kept_cell bU (b := w.heap.size) (o := 5) (v := .slice ma mn mc) (by simp [go_sem])
  clear bU
  have E := hid e3
  have fd := Tryz.fieldLocals gx gy fa fn fc
  clear e3
  by_cases h1 : 1 ≤ rg ∧ gy ≤ rg
  · by_cases h2 : rg ≤ 64
    · have F : Hid (decide (1 ≤ rg ∧ (ps.getD f noFn).2.1 ≤ rg ∧ rg ≤ 64) = true) := hid (by rw [E.out]; simp; omega)
      have k : decide (max gy 1 ≤ rg) = true := by simp; omega
      go_wp2_with fail
      go_ret
      exact ⟨by first | exact ret_bool F.out.symm | exact ret_bool rfl | exact ret_bool (by rw [F.out]; simp <;> omega) | exact ret_bool (by simp <;> omega), B.out⟩
    · have F : Hid (decide (1 ≤ rg ∧ (ps.getD f noFn).2.1 ≤ rg ∧ rg ≤ 64) = false) := hid (by rw [E.out]; simp; omega)
      have k : decide (max gy 1 ≤ rg) = true := by simp; omega
      go_wp2_with fail
      go_ret
      exact ⟨by first | exact ret_bool F.out.symm | exact ret_bool rfl | exact ret_bool (by rw [F.out]; simp <;> omega) | exact ret_bool (by simp <;> omega), B.out⟩
  · have F : Hid (decide (1 ≤ rg ∧ (ps.getD f noFn).2.1 ≤ rg ∧ rg ≤ 64) = false) := hid (by rw [E.out]; simp; omega)
    have k : decide (max gy 1 ≤ rg) = false := by simp; omega
    go_wp2_with fail
    go_ret
    exact ⟨by first | exact ret_bool F.out.symm | exact ret_bool rfl | exact ret_bool (by rw [F.out]; simp <;> omega) | exact ret_bool (by simp <;> omega), B.out⟩

set_option maxRecDepth 100000 in
set_option maxHeartbeats 2000000 in
theorem irEnds_any (pa : Option Addr) (pn pc : Nat) (ha : Option Addr) (hn hc : Nat) (ca : Option Addr) (cn cc : Nat) (ma : Option Addr) (mn mc : Nat) (ps : List Fn) (cl : List IrT) (ml : List (List PartT)) (cf rg : Int) (w : World) (K : Chk w pa pn pc ha hn hc ca cn cc ma mn mc ps cl ml) (h1 : 1 ≤ cn) (h256 : cn ≤ 256) :
    Calls Tryz.prog 49 #[.agg #[.slice pa pn pc, .slice ha hn hc, .int .i64 cf, .int .i64 rg, .slice ca cn cc, .slice ma mn mc]] w fun e w' => e = .returned (.bool (lastB (cf, rg, cl, ml))) ∧ Below w.heap.size w w' := by
  have hcr := K.c.room
  have hcc := K.c.cap
  obtain ⟨q, rfl⟩ : ∃ q, cn = q + 1 := ⟨cn - 1, by omega⟩
  obtain ⟨b, o, kd, r, ra, rb, k, xa, xn, xc, args, cost, mt, pc', rfl, hx, c0, -, -, -, -, -, -, -, -, -⟩ := ir_at K.c q (by omega)
  have z0 := lt_of_cell c0
  have E : Hid (lastB (cf, rg, cl, ml) = decide (kd = 4 ∨ kd = 8)) := hid (by
    unfold lastB
    have : cl.length - 1 = q := by have := K.c.len; omega
    simp only [this, List.getD_eq_getElem?_getD, hx]
    rfl)
  clear K hx
  by_cases h4 : kd = 4
  · subst h4
    go_enter Tryz.func49, Tryz.ntmps49
    go_wp2_with fail
    go_ret
    exact ⟨ret_bool (by rw [E.out]; simp), by go_grown⟩
  · have h4' : (kd == 4) = false := by simpa using h4
    go_enter Tryz.func49, Tryz.ntmps49
    go_wp2_with fail
    go_ret
    exact ⟨ret_bool (by rw [E.out, Bool.eq_iff_iff]; simp [h4]), by go_grown⟩

end Go.Proofs.YtaimpljkbpnigaaGreatDoor

namespace Go.Proofs.YtaimpljkbpnigaaGreatDoor
open Go.RowKit
set_option linter.unusedVariables false

set_option maxHeartbeats 1000000 in
theorem indexSrcs_any (F : FuncId) (cap : Array Value) (hent : ∀ args w, (callFunc F args).run Tryz.prog w = .ok (.enter F args) w) (p : SrcT → Bool) (a : Option Addr) (n c : Nat) (l : List SrcT) (w : World) (h : Sl laySrcs 16 w a n c l)
    (hstep : ∀ (k : Bool) (v : Int) w', Below w.heap.size w w' → Calls Tryz.prog F (#[.agg #[.bool k, .int .i64 v]] ++ cap) w' fun e u => e = .returned (.bool (p (k, v))) ∧ Below w'.heap.size w' u) :
    Calls Tryz.prog 131 #[.slice a n c, .func (.func F) #[] cap] w fun e w' => ∃ r : Int, e = .returned (.int .i64 r) ∧ decide (0 ≤ r) = l.any p ∧ Below w.heap.size w w' := by
  have L := hid h.len
  have hr := h.room
  have hcp := h.cap
  go_enter Tryz.func131, Tryz.ntmps131
  go_wp2_with fail
  go_loopw [8] (fun i wr => ∃ q : Nat, q ≤ n ∧ i = .int .i64 q ∧ ((l.take q).any p) = false ∧ Below w.heap.size w wr) (fun i _ => n - (intOf i).toNat)
  case atStart => exact ⟨0, Nat.zero_le _, rfl, by simp, by go_grown⟩
  case round =>
    obtain ⟨q, hq, rfl, ht, hb⟩ := hrel
    have HT := hid ht
    clear ht
    by_cases hlt : q < n
    · obtain ⟨b1, o1, k, v, rfl, hx0, c0, c1⟩ := src_at (h.kept hb) q hlt
      have HX := hid hx0
      have ST := hid (hstep k v wr hb)
      clear hx0
      cases hm : p (k, v)
      · have F : Hid ((l.take (q + 1)).any p = false) := hid (by rw [List.take_add_one, List.any_append, HT.out, HX.out]; simp [hm])
        rw [hm] at ST
        clear hm
        go_wp2_with fail
        refine ST.out.mono ?_
        rintro e w1 ⟨rfl, b1⟩
        go_wp2_with fail
        go_roundw
        case rel => exact ⟨q + 1, by omega, by go_num, F.out, kt hb b1⟩
        case measure => simp [intOf]; omega
      · have F : Hid (l.any p = true) := hid (List.any_eq_true.2 ⟨_, List.mem_of_getElem? HX.out, hm⟩)
        rw [hm] at ST
        clear hm
        go_wp2_with fail
        refine ST.out.mono ?_
        rintro e w1 ⟨rfl, b1⟩
        go_wp2_with fail
        go_ret
        exact ⟨_, rfl, by rw [F.out]; simp, kt hb b1⟩
    · have F : Hid (l.any p = false) := hid (by have h := HT.out; rwa [List.take_of_length_le (by have := L.out; omega)] at h)
      go_wp2
      go_ret
      exact ⟨_, rfl, by rw [F.out]; simp, hb⟩

set_option maxHeartbeats 400000 in
theorem containsSrcs_any (F : FuncId) (cap : Array Value) (hent : ∀ args w, (callFunc F args).run Tryz.prog w = .ok (.enter F args) w) (p : SrcT → Bool) (a : Option Addr) (n c : Nat) (l : List SrcT) (w : World) (h : Sl laySrcs 16 w a n c l)
    (hstep : ∀ (k : Bool) (v : Int) w', Below w.heap.size w w' → Calls Tryz.prog F (#[.agg #[.bool k, .int .i64 v]] ++ cap) w' fun e u => e = .returned (.bool (p (k, v))) ∧ Below w'.heap.size w' u) :
    Calls Tryz.prog 114 #[.slice a n c, .func (.func F) #[] cap] w fun e w' => e = .returned (.bool (l.any p)) ∧ Below w.heap.size w w' := by
  have ST := hid hstep
  go_enter Tryz.func114, Tryz.ntmps114
  go_wp2_with fail
  refine (indexSrcs_any F cap hent p _ _ _ l _ h ST.out).mono ?_
  rintro e w1 ⟨r, rfl, hr, hb⟩
  have HR := hid hr
  clear hr
  go_wp2_with fail
  go_ret
  exact ⟨ret_bool HR.out, hb⟩

set_option maxHeartbeats 1000000 in
theorem indexMetas_any (F : FuncId) (cap : Array Value) (hent : ∀ args w, (callFunc F args).run Tryz.prog w = .ok (.enter F args) w) (p : (List PartT) → Bool) (a : Option Addr) (n c : Nat) (l : List (List PartT)) (w : World) (h : Sl layMeta 24 w a n c l)
    (hstep : ∀ (pa : Option Addr) (pn pc : Nat) (parts : List PartT) w', Below w.heap.size w w' → Sl layPart 64 w' pa pn pc parts → Calls Tryz.prog F (#[.agg #[.slice pa pn pc]] ++ cap) w' fun e u => e = .returned (.bool (p parts)) ∧ Below w'.heap.size w' u) :
    Calls Tryz.prog 66 #[.slice a n c, .func (.func F) #[] cap] w fun e w' => ∃ r : Int, e = .returned (.int .i64 r) ∧ decide (0 ≤ r) = l.any p ∧ Below w.heap.size w w' := by
  have L := hid h.len
  have hr := h.room
  have hcp := h.cap
  go_enter Tryz.func66, Tryz.ntmps66
  go_wp2_with fail
  go_loopw [8] (fun i wr => ∃ q : Nat, q ≤ n ∧ i = .int .i64 q ∧ ((l.take q).any p) = false ∧ Below w.heap.size w wr) (fun i _ => n - (intOf i).toNat)
  case atStart => exact ⟨0, Nat.zero_le _, rfl, by simp, by go_grown⟩
  case round =>
    obtain ⟨q, hq, rfl, ht, hb⟩ := hrel
    have HT := hid ht
    clear ht
    by_cases hlt : q < n
    · obtain ⟨b1, o1, pa, pn, pc, parts, rfl, hx0, c0, hpar⟩ := meta_at (h.kept hb) q hlt
      rw [Nat.mul_one] at c0
      have HX := hid hx0
      have ST := hid (hstep pa pn pc parts wr hb hpar)
      clear hx0 hpar
      cases hm : p parts
      · have F : Hid ((l.take (q + 1)).any p = false) := hid (by rw [List.take_add_one, List.any_append, HT.out, HX.out]; simp [hm])
        rw [hm] at ST
        clear hm
        go_wp2_with fail
        refine ST.out.mono ?_
        rintro e w1 ⟨rfl, b1⟩
        go_wp2_with fail
        go_roundw
        case rel => exact ⟨q + 1, by omega, by go_num, F.out, kt hb b1⟩
        case measure => simp [intOf]; omega
      · have F : Hid (l.any p = true) := hid (List.any_eq_true.2 ⟨_, List.mem_of_getElem? HX.out, hm⟩)
        rw [hm] at ST
        clear hm
        go_wp2_with fail
        refine ST.out.mono ?_
        rintro e w1 ⟨rfl, b1⟩
        go_wp2_with fail
        go_ret
        exact ⟨_, rfl, by rw [F.out]; simp, kt hb b1⟩
    · have F : Hid (l.any p = false) := hid (by have h := HT.out; rwa [List.take_of_length_le (by have := L.out; omega)] at h)
      go_wp2
      go_ret
      exact ⟨_, rfl, by rw [F.out]; simp, hb⟩

set_option maxHeartbeats 400000 in
theorem containsMetas_any (F : FuncId) (cap : Array Value) (hent : ∀ args w, (callFunc F args).run Tryz.prog w = .ok (.enter F args) w) (p : (List PartT) → Bool) (a : Option Addr) (n c : Nat) (l : List (List PartT)) (w : World) (h : Sl layMeta 24 w a n c l)
    (hstep : ∀ (pa : Option Addr) (pn pc : Nat) (parts : List PartT) w', Below w.heap.size w w' → Sl layPart 64 w' pa pn pc parts → Calls Tryz.prog F (#[.agg #[.slice pa pn pc]] ++ cap) w' fun e u => e = .returned (.bool (p parts)) ∧ Below w'.heap.size w' u) :
    Calls Tryz.prog 51 #[.slice a n c, .func (.func F) #[] cap] w fun e w' => e = .returned (.bool (l.any p)) ∧ Below w.heap.size w w' := by
  have ST := hid hstep
  go_enter Tryz.func51, Tryz.ntmps51
  go_wp2_with fail
  refine (indexMetas_any F cap hent p _ _ _ l _ h ST.out).mono ?_
  rintro e w1 ⟨r, rfl, hr, hb⟩
  have HR := hid hr
  clear hr
  go_wp2_with fail
  go_ret
  exact ⟨ret_bool HR.out, hb⟩

end Go.Proofs.YtaimpljkbpnigaaGreatDoor

namespace Go.Proofs.YtaimpljkbpnigaaGreatDoor
open Go.RowKit
set_option linter.unusedVariables false

/-- A checker in a block of its own. -/
structure Ckb (w : World) (b : Nat) (pa : Option Addr) (pn pc : Nat) (ha : Option Addr) (hn hc : Nat) (ca : Option Addr) (cn cc : Nat) (ma : Option Addr) (mn mc : Nat) (cf rg : Int) : Prop where
  c0 : w.cell? ⟨b, 0, none⟩ = some (.slice pa pn pc)
  c1 : w.cell? ⟨b, 1, none⟩ = some (.slice ha hn hc)
  c2 : w.cell? ⟨b, 2, none⟩ = some (.int .i64 cf)
  c3 : w.cell? ⟨b, 3, none⟩ = some (.int .i64 rg)
  c4 : w.cell? ⟨b, 4, none⟩ = some (.slice ca cn cc)
  c5 : w.cell? ⟨b, 5, none⟩ = some (.slice ma mn mc)
theorem Ckb.kept {w w' : World} {b : Nat} {pa : Option Addr} {pn pc : Nat} {ha : Option Addr} {hn hc : Nat} {ca : Option Addr} {cn cc : Nat} {ma : Option Addr} {mn mc : Nat} {cf rg : Int} (h : Ckb w b pa pn pc ha hn hc ca cn cc ma mn mc cf rg) (hb : Below w.heap.size w w') : Ckb w' b pa pn pc ha hn hc ca cn cc ma mn mc cf rg :=
  ⟨kept_cell hb h.c0, kept_cell hb h.c1, kept_cell hb h.c2, kept_cell hb h.c3, kept_cell hb h.c4, kept_cell hb h.c5⟩

set_option maxRecDepth 100000 in
set_option maxHeartbeats 1000000 in
theorem irNotArg_any (pa : Option Addr) (pn pc : Nat) (ha : Option Addr) (hn hc : Nat) (ca : Option Addr) (cn cc : Nat) (ma : Option Addr) (mn mc : Nat) (ps : List Fn) (cl : List IrT) (ml : List (List PartT)) (cf rg : Int) (w : World) (K : Chk w pa pn pc ha hn hc ca cn cc ma mn mc ps cl ml) (bc bf : Nat) (sg x : Int) (hb : Ckb w bc pa pn pc ha hn hc ca cn cc ma mn mc cf rg) (h4 : w.cell? ⟨bf, 4, none⟩ = some (.int .i64 sg)) :
    Calls Tryz.prog 95 #[.int .i64 x, .pointer (some ⟨bc, 0, none⟩), .pointer (some ⟨bf, 0, none⟩)] w fun e w' => e = .returned (.bool (!holdsB ps.length rg cn mn sg x)) ∧ Below w.heap.size w w' := by
  obtain ⟨c0, c1, c2, c3, c4, c5⟩ := hb
  have HK := hid K
  clear K
  go_enter Tryz.func95, Tryz.ntmps95
  go_wp2_with fail
  refine (irHolds_any _ _ _ _ _ _ _ _ _ _ _ _ ps cl ml cf rg _ (HK.out.kept (Below.refl _ _)) sg x).mono ?_
  rintro e w1 ⟨rfl, b1⟩
  go_wp2_with fail
  go_ret
  exact ⟨rfl, b1⟩

set_option maxRecDepth 100000 in
set_option maxHeartbeats 4000000 in
theorem irArgs_any (pa : Option Addr) (pn pc : Nat) (ha : Option Addr) (hn hc : Nat) (ca : Option Addr) (cn cc : Nat) (ma : Option Addr) (mn mc : Nat) (ps : List Fn) (cl : List IrT) (ml : List (List PartT)) (cf rg : Int) (w : World) (K : Chk w pa pn pc ha hn hc ca cn cc ma mn mc ps cl ml) (sr sa sb sk sg sm kd r ra rb k : Int) (xa : Option Addr) (xn xc : Nat) (args : List Int) (cost mt ip : Int) (hx : Ints w xa xn xc args) (hk : sk = 5 → 0 ≤ k ∧ k < ps.length) :
    Calls Tryz.prog 79 #[.agg #[.slice pa pn pc, .slice ha hn hc, .int .i64 cf, .int .i64 rg, .slice ca cn cc, .slice ma mn mc], .agg #[.int .i64 sr, .int .i64 sa, .int .i64 sb, .int .i64 sk, .int .i64 sg, .int .i64 sm], .agg #[.int .i64 kd, .int .i64 r, .int .i64 ra, .int .i64 rb, .int .i64 k, .slice xa xn xc, .int .i64 cost, .int .i64 mt, .int .i64 ip]] w fun e w' => e = .returned (.bool (argsOk ps rg cn mn sk sg k args)) ∧ Below w.heap.size w w' := by
  have P : Hid (∀ args w, (callFunc 95 args).run Tryz.prog w = .ok (.enter 95 args) w) := hid (enters_of Tryz.func95 (by kernel_rfl) rfl)
  have HK := hid K
  have LP := hid K.p.len
  have LX := hid hx.len
  have hxr := hx.room
  have HX := hid hx
  clear K hx
  have closing : ∀ (U : World) (n : Int), Hid (Below w.heap.size w U) → Hid (n = if sk = 5 then (ps.getD k.toNat noFn).1 else 0) → True := fun _ _ _ _ => trivial
  clear closing
  by_cases h5 : sk = 5
  · obtain ⟨kn, rfl⟩ : ∃ kn : Nat, k = kn := ⟨k.toNat, by have := hk h5; omega⟩
    have hkn : kn < ps.length := by have := hk h5; omega
    subst h5
    clear hk
    go_enter Tryz.func79, Tryz.ntmps79
    go_wp2_with fail
    refine (tabFunc_any _ _ _ _ _ _ ps kn _ (HK.out.p.kept (by go_grown)) (by rw [LP.out]; exact hkn)).mono ?_
    rintro e U ⟨gx, gy, fa, fn, fc, fl, rfl, e3, -, bU⟩
    have B : Hid (Below w.heap.size w U) := hid (kt (by go_grown) bU)
    have p0 := kept_cell bU (b := w.heap.size) (o := 0) (v := .slice pa pn pc) (by simp [go_sem])
    have p1 := kept_cell bU (b := w.heap.size) (o := 1) (v := .slice ha hn hc) (by simp [go_sem])
    have p2 := kept_cell bU (b := w.heap.size) (o := 2) (v := .int .i64 cf) (by simp [go_sem])
    have p3 := kept_cell bU (b := w.heap.size) (o := 3) (v := .int .i64 rg) (by simp [go_sem])
    have p4 := kept_cell bU (b := w.heap.size) (o := 4) (v := .slice ca cn cc) (by simp [go_sem])
    have p5 := kept_cell bU (b := w.heap.size) (o := 5) (v := .slice ma mn mc) (by simp [go_sem])
    have q4 := kept_cell bU (b := w.heap.size + 1) (o := 4) (v := .int .i64 sg) (by simp [go_sem])
    have i5 := kept_cell bU (b := w.heap.size + 1 + 1) (o := 5) (v := .slice xa xn xc) (by simp [go_sem])
    have HB := hid (Ckb.mk p0 p1 p2 p3 p4 p5)
    have Q4 := hid q4
    have E : Hid (argsOk ps rg cn mn 5 sg (kn : Int) args = (decide ((xn : Int) = gx) && args.all (holdsB ps.length rg cn mn sg))) := hid (by unfold argsOk; rw [if_pos rfl, Int.toNat_natCast, e3, LX.out])
    have fd := Tryz.fieldArgs gx gy fa fn fc
    clear bU e3
    by_cases hg : (xn : Int) = gx
    · subst hg
      go_wp2_with fail
      refine (containsInts_any 95 #[.pointer (some ⟨w.heap.size, 0, none⟩), .pointer (some ⟨w.heap.size + 1, 0, none⟩)] P.out (fun x => !holdsB ps.length rg cn mn sg x) _ _ _ args _ (HX.out.kept B.out) (fun x w' bw => irNotArg_any _ _ _ _ _ _ _ _ _ _ _ _ ps cl ml cf rg _ (HK.out.kept (kt B.out bw)) _ _ sg x (HB.out.kept bw) (kept_cell bw Q4.out))).mono ?_
      rintro e w1 ⟨rfl, b1⟩
      go_wp2_with fail
      go_ret
      exact ⟨ret_bool (by rw [E.out, List.all_eq_not_any_not]; simp), kt B.out b1⟩
    · have hg' : ((xn : Int) == gx) = false := by simpa using hg
      go_wp2_with fail
      go_ret
      exact ⟨ret_bool (by rw [E.out]; simp [hg]), B.out⟩
  · have h5' : (sk == 5) = false := by simpa using h5
    have E : Hid (argsOk ps rg cn mn sk sg k args = (decide ((xn : Int) = 0) && args.all (holdsB ps.length rg cn mn sg))) := hid (by unfold argsOk; rw [if_neg h5, LX.out])
    clear hk h5
    go_enter Tryz.func79, Tryz.ntmps79
    by_cases hg : xn = 0
    · subst hg
      go_wp2_with fail
      refine (containsInts_any 95 #[.pointer (some ⟨w.heap.size, 0, none⟩), .pointer (some ⟨w.heap.size + 1, 0, none⟩)] P.out (fun x => !holdsB ps.length rg cn mn sg x) _ _ _ args _ (HX.out.kept (by go_grown)) (fun x w' bw => irNotArg_any _ _ _ _ _ _ _ _ _ _ _ _ ps cl ml cf rg _ (HK.out.kept (kt (by go_grown) bw)) _ _ sg x (Ckb.kept ⟨by simp [go_sem], by simp [go_sem], by simp [go_sem], by simp [go_sem], by simp [go_sem], by simp [go_sem]⟩ bw) (kept_cell bw (by simp [go_sem])))).mono ?_
      rintro e w1 ⟨rfl, b1⟩
      go_wp2_with fail
      go_ret
      exact ⟨ret_bool (by rw [E.out, List.all_eq_not_any_not]; simp), kt (by go_grown) b1⟩
    · have hg' : ((xn : Int) == 0) = false := by simp; omega
      go_wp2_with fail
      go_ret
      exact ⟨ret_bool (by rw [E.out]; simp [hg]), by go_grown⟩

end Go.Proofs.YtaimpljkbpnigaaGreatDoor

namespace Go.Proofs.YtaimpljkbpnigaaGreatDoor
open Go.RowKit
set_option linter.unusedVariables false

/-- A part that runs, one that waits; a meta: as the project asks it. -/
def runP (ps : List Fn) (rg : Int) (x : PartT) : Bool := runB ps x.1 x.2.1 x.2.2.1.length x.2.2.2.length && (x.2.2.1.all (srcB rg) && x.2.2.2.all (srcB rg))
def waitP (ps : List Fn) (rg : Int) (x : PartT) (called : Int) : Bool := waitsB ps x.1 x.2.1 x.2.2.1.length x.2.2.2.length called && (x.2.2.1.all (srcB rg) && x.2.2.2.all (srcB rg))
theorem runP_eq (ps : List Fn) (rg : Int) (x : PartT) : runP ps rg x = partB ps rg 0 x := by
  rw [Bool.eq_iff_iff]
  unfold runP partB runB srcsB
  simp only [Bool.and_eq_true, decide_eq_true_eq, Int.sub_zero]
  constructor
  · rintro ⟨⟨a, b, c⟩, d, e⟩; exact ⟨a, ⟨d, b⟩, e, c⟩
  · rintro ⟨a, ⟨d, b⟩, e, c⟩; exact ⟨⟨a, b, c⟩, d, e⟩
theorem waitP_eq (ps : List Fn) (rg : Int) (x : PartT) (called : Int) : waitP ps rg x called = (partB ps rg 1 x && behindB ps x.1 x.2.1 called) := by
  rw [Bool.eq_iff_iff]
  unfold waitP waitsB partB runB srcsB behindB callB isCallB
  simp only [Bool.and_eq_true, decide_eq_true_eq]
  constructor
  · rintro ⟨⟨⟨a, b, c⟩, f, g⟩, d, e⟩; exact ⟨⟨a, ⟨d, b⟩, e, by omega⟩, f, g⟩
  · rintro ⟨⟨a, ⟨d, b⟩, e, c⟩, f, g⟩; exact ⟨⟨⟨a, b, by omega⟩, f, g⟩, d, e⟩

set_option maxRecDepth 100000 in
set_option maxHeartbeats 1000000 in
theorem irSrc_any (pa : Option Addr) (pn pc : Nat) (ha : Option Addr) (hn hc : Nat) (ca : Option Addr) (cn cc : Nat) (ma : Option Addr) (mn mc : Nat) (ps : List Fn) (cl : List IrT) (ml : List (List PartT)) (cf rg : Int) (w : World) (K : Chk w pa pn pc ha hn hc ca cn cc ma mn mc ps cl ml) (k : Bool) (v : Int) :
    Calls Tryz.prog 116 #[.agg #[.slice pa pn pc, .slice ha hn hc, .int .i64 cf, .int .i64 rg, .slice ca cn cc, .slice ma mn mc], .agg #[.bool k, .int .i64 v]] w fun e w' => e = .returned (.bool (srcB rg (k, v))) ∧ Below w.heap.size w w' := by
  have HK := hid K
  clear K
  cases k
  · go_enter Tryz.func116, Tryz.ntmps116
    go_wp2_with fail
    refine (irHolds_any _ _ _ _ _ _ _ _ _ _ _ _ ps cl ml cf rg _ (HK.out.kept (by go_grown)) 1 v).mono ?_
    rintro e w1 ⟨rfl, b1⟩
    go_wp2_with fail
    go_ret
    exact ⟨ret_bool rfl, kt (by go_grown) b1⟩
  · go_enter Tryz.func116, Tryz.ntmps116
    go_wp2_with fail
    refine (irHolds_any _ _ _ _ _ _ _ _ _ _ _ _ ps cl ml cf rg _ (HK.out.kept (by go_grown)) 2 v).mono ?_
    rintro e w1 ⟨rfl, b1⟩
    go_wp2_with fail
    go_ret
    exact ⟨ret_bool rfl, kt (by go_grown) b1⟩

set_option maxRecDepth 100000 in
set_option maxHeartbeats 1000000 in
theorem irNotSrc_any (pa : Option Addr) (pn pc : Nat) (ha : Option Addr) (hn hc : Nat) (ca : Option Addr) (cn cc : Nat) (ma : Option Addr) (mn mc : Nat) (ps : List Fn) (cl : List IrT) (ml : List (List PartT)) (cf rg : Int) (w : World) (K : Chk w pa pn pc ha hn hc ca cn cc ma mn mc ps cl ml) (bc : Nat) (hb : Ckb w bc pa pn pc ha hn hc ca cn cc ma mn mc cf rg) (k : Bool) (v : Int) :
    Calls Tryz.prog 115 #[.agg #[.bool k, .int .i64 v], .pointer (some ⟨bc, 0, none⟩)] w fun e w' => e = .returned (.bool (!srcB rg (k, v))) ∧ Below w.heap.size w w' := by
  obtain ⟨c0, c1, c2, c3, c4, c5⟩ := hb
  have z := lt_of_cell c0
  have HK := hid K
  clear K
  go_enter Tryz.func115, Tryz.ntmps115
  go_wp2_with fail
  refine (irSrc_any _ _ _ _ _ _ _ _ _ _ _ _ ps cl ml cf rg _ (HK.out.kept (by go_grown)) k v).mono ?_
  rintro e w1 ⟨rfl, b1⟩
  go_wp2_with fail
  go_ret
  exact ⟨rfl, kt (by go_grown) b1⟩

set_option maxRecDepth 100000 in
set_option maxHeartbeats 1000000 in
theorem irSrcs_any (pa : Option Addr) (pn pc : Nat) (ha : Option Addr) (hn hc : Nat) (ca : Option Addr) (cn cc : Nat) (ma : Option Addr) (mn mc : Nat) (ps : List Fn) (cl : List IrT) (ml : List (List PartT)) (cf rg : Int) (w : World) (K : Chk w pa pn pc ha hn hc ca cn cc ma mn mc ps cl ml) (la : Option Addr) (ln lc : Nat) (ll : List SrcT) (hl : Sl laySrcs 16 w la ln lc ll) :
    Calls Tryz.prog 96 #[.agg #[.slice pa pn pc, .slice ha hn hc, .int .i64 cf, .int .i64 rg, .slice ca cn cc, .slice ma mn mc], .slice la ln lc] w fun e w' => e = .returned (.bool (ll.all (srcB rg))) ∧ Below w.heap.size w w' := by
  have P : Hid (∀ args w, (callFunc 115 args).run Tryz.prog w = .ok (.enter 115 args) w) := hid (enters_of Tryz.func115 (by kernel_rfl) rfl)
  have HK := hid K
  have HL := hid hl
  clear K hl
  go_enter Tryz.func96, Tryz.ntmps96
  go_wp2_with fail
  refine (containsSrcs_any 115 #[.pointer (some ⟨w.heap.size, 0, none⟩)] P.out (fun x => !srcB rg x) _ _ _ ll _ (HL.out.kept (by go_grown)) (fun k v w' bw => irNotSrc_any _ _ _ _ _ _ _ _ _ _ _ _ ps cl ml cf rg _ (HK.out.kept (kt (by go_grown) bw)) _ (Ckb.kept ⟨by simp [go_sem], by simp [go_sem], by simp [go_sem], by simp [go_sem], by simp [go_sem], by simp [go_sem]⟩ bw) k v)).mono ?_
  rintro e w1 ⟨rfl, b1⟩
  go_wp2_with fail
  go_ret
  exact ⟨ret_bool (by rw [List.all_eq_not_any_not]), kt (by go_grown) b1⟩

set_option maxRecDepth 100000 in
set_option maxHeartbeats 1000000 in
theorem irHasSrcs_any (pa : Option Addr) (pn pc : Nat) (ha : Option Addr) (hn hc : Nat) (ca : Option Addr) (cn cc : Nat) (ma : Option Addr) (mn mc : Nat) (ps : List Fn) (cl : List IrT) (ml : List (List PartT)) (cf rg : Int) (w : World) (K : Chk w pa pn pc ha hn hc ca cn cc ma mn mc ps cl ml) (fn x : Int) (la : Option Addr) (ln lc : Nat) (ll : List SrcT) (sa : Option Addr) (sn sc : Nat) (sl : List SrcT) (hl : Sl laySrcs 16 w la ln lc ll) (hs : Sl laySrcs 16 w sa sn sc sl) :
    Calls Tryz.prog 81 #[.agg #[.slice pa pn pc, .slice ha hn hc, .int .i64 cf, .int .i64 rg, .slice ca cn cc, .slice ma mn mc], .agg #[.int .i64 fn, .int .i64 x, .slice la ln lc, .slice sa sn sc]] w fun e w' => e = .returned (.bool (ll.all (srcB rg) && sl.all (srcB rg))) ∧ Below w.heap.size w w' := by
  have HK := hid K
  have HL := hid hl
  have HS := hid hs
  clear K hl hs
  go_enter Tryz.func81, Tryz.ntmps81
  go_wp2_with fail
  refine (irSrcs_any _ _ _ _ _ _ _ _ _ _ _ _ ps cl ml cf rg _ (HK.out.kept (by go_grown)) _ _ _ ll (HL.out.kept (by go_grown))).mono ?_
  rintro e U ⟨rfl, bU⟩
  have B : Hid (Below w.heap.size w U) := hid (kt (by go_grown) bU)
  have p0 := kept_cell bU (b := w.heap.size) (o := 0) (v := .slice pa pn pc) (by simp [go_sem])
  have p1 := kept_cell bU (b := w.heap.size) (o := 1) (v := .slice ha hn hc) (by simp [go_sem])
  have p2 := kept_cell bU (b := w.heap.size) (o := 2) (v := .int .i64 cf) (by simp [go_sem])
  have p3 := kept_cell bU (b := w.heap.size) (o := 3) (v := .int .i64 rg) (by simp [go_sem])
  have p4 := kept_cell bU (b := w.heap.size) (o := 4) (v := .slice ca cn cc) (by simp [go_sem])
  have p5 := kept_cell bU (b := w.heap.size) (o := 5) (v := .slice ma mn mc) (by simp [go_sem])
  have q0 := kept_cell bU (b := w.heap.size + 1) (o := 0) (v := .int .i64 fn) (by simp [go_sem])
  have q1 := kept_cell bU (b := w.heap.size + 1) (o := 1) (v := .int .i64 x) (by simp [go_sem])
  have q2 := kept_cell bU (b := w.heap.size + 1) (o := 2) (v := .slice la ln lc) (by simp [go_sem])
  have q3 := kept_cell bU (b := w.heap.size + 1) (o := 3) (v := .slice sa sn sc) (by simp [go_sem])
  clear bU
  have E : Hid (∀ b, ll.all (srcB rg) = b → (ll.all (srcB rg) && sl.all (srcB rg)) = (b && sl.all (srcB rg))) := hid (fun b h => by rw [h])
  cases h : ll.all (srcB rg)
  · replace E := hid (E.out _ h)
    clear h
    go_wp2_with fail
    go_ret
    exact ⟨ret_bool E.out.symm, B.out⟩
  · replace E := hid (E.out _ h)
    clear h
    go_wp2_with fail
    refine (irSrcs_any _ _ _ _ _ _ _ _ _ _ _ _ ps cl ml cf rg _ (HK.out.kept B.out) _ _ _ sl (HS.out.kept B.out)).mono ?_
    rintro e w1 ⟨rfl, b1⟩
    go_wp2_with fail
    go_ret
    exact ⟨ret_bool E.out.symm, kt B.out b1⟩

set_option maxRecDepth 100000 in
set_option maxHeartbeats 2000000 in
theorem irRuns_any (pa : Option Addr) (pn pc : Nat) (ha : Option Addr) (hn hc : Nat) (ca : Option Addr) (cn cc : Nat) (ma : Option Addr) (mn mc : Nat) (ps : List Fn) (cl : List IrT) (ml : List (List PartT)) (cf rg : Int) (w : World) (K : Chk w pa pn pc ha hn hc ca cn cc ma mn mc ps cl ml) (fn x : Int) (la : Option Addr) (ln lc : Nat) (ll : List SrcT) (sa : Option Addr) (sn sc : Nat) (sl : List SrcT) (hl : Sl laySrcs 16 w la ln lc ll) (hs : Sl laySrcs 16 w sa sn sc sl) (hv : verV ps = 0) :
    Calls Tryz.prog 67 #[.agg #[.slice pa pn pc, .slice ha hn hc, .int .i64 cf, .int .i64 rg, .slice ca cn cc, .slice ma mn mc], .agg #[.int .i64 fn, .int .i64 x, .slice la ln lc, .slice sa sn sc]] w fun e w' => e = .returned (.bool (runP ps rg (fn, x, ll, sl))) ∧ Below w.heap.size w w' := by
  have HK := hid K
  have HL := hid hl
  have HS := hid hs
  have hlr := hl.room
  have hsr := hs.room
  have HV := hid hv
  have E : Hid (runP ps rg (fn, x, ll, sl) = (runB ps fn x ln sn && (ll.all (srcB rg) && sl.all (srcB rg)))) := hid (by rw [hl.len, hs.len]; rfl)
  clear K hl hs hv
  go_enter Tryz.func67, Tryz.ntmps67
  go_wp2_with fail
  refine (tabRuns_any _ _ _ _ _ _ ps fn x ln sn _ (HK.out.p.kept (by go_grown)) (HK.out.h.kept (by go_grown)) HV.out).mono ?_
  rintro e U ⟨rfl, bU⟩
  have B : Hid (Below w.heap.size w U) := hid (kt (by go_grown) bU)
  have p0 := kept_cell bU (b := w.heap.size) (o := 0) (v := .slice pa pn pc) (by simp [go_sem])
  have p1 := kept_cell bU (b := w.heap.size) (o := 1) (v := .slice ha hn hc) (by simp [go_sem])
  have p2 := kept_cell bU (b := w.heap.size) (o := 2) (v := .int .i64 cf) (by simp [go_sem])
  have p3 := kept_cell bU (b := w.heap.size) (o := 3) (v := .int .i64 rg) (by simp [go_sem])
  have p4 := kept_cell bU (b := w.heap.size) (o := 4) (v := .slice ca cn cc) (by simp [go_sem])
  have p5 := kept_cell bU (b := w.heap.size) (o := 5) (v := .slice ma mn mc) (by simp [go_sem])
  have q0 := kept_cell bU (b := w.heap.size + 1) (o := 0) (v := .int .i64 fn) (by simp [go_sem])
  have q1 := kept_cell bU (b := w.heap.size + 1) (o := 1) (v := .int .i64 x) (by simp [go_sem])
  have q2 := kept_cell bU (b := w.heap.size + 1) (o := 2) (v := .slice la ln lc) (by simp [go_sem])
  have q3 := kept_cell bU (b := w.heap.size + 1) (o := 3) (v := .slice sa sn sc) (by simp [go_sem])
  clear bU
  cases h : runB ps fn x ln sn
  · have F : Hid (runP ps rg (fn, x, ll, sl) = false) := hid (by rw [E.out, h]; rfl)
    clear h
    go_wp2_with fail
    go_ret
    exact ⟨ret_bool F.out.symm, B.out⟩
  · have F : Hid (runP ps rg (fn, x, ll, sl) = (ll.all (srcB rg) && sl.all (srcB rg))) := hid (by rw [E.out, h]; rfl)
    clear h
    go_wp2_with fail
    refine (irHasSrcs_any _ _ _ _ _ _ _ _ _ _ _ _ ps cl ml cf rg _ (HK.out.kept B.out) fn x _ _ _ ll _ _ _ sl (HL.out.kept B.out) (HS.out.kept B.out)).mono ?_
    rintro e w1 ⟨rfl, b1⟩
    go_wp2_with fail
    go_ret
    exact ⟨ret_bool F.out.symm, kt B.out b1⟩

set_option maxRecDepth 100000 in
set_option maxHeartbeats 2000000 in
theorem irWaits_any (pa : Option Addr) (pn pc : Nat) (ha : Option Addr) (hn hc : Nat) (ca : Option Addr) (cn cc : Nat) (ma : Option Addr) (mn mc : Nat) (ps : List Fn) (cl : List IrT) (ml : List (List PartT)) (cf rg : Int) (w : World) (K : Chk w pa pn pc ha hn hc ca cn cc ma mn mc ps cl ml) (fn x : Int) (la : Option Addr) (ln lc : Nat) (ll : List SrcT) (sa : Option Addr) (sn sc : Nat) (sl : List SrcT) (called : Int) (hl : Sl laySrcs 16 w la ln lc ll) (hs : Sl laySrcs 16 w sa sn sc sl) (hv : verV ps = 0) :
    Calls Tryz.prog 68 #[.agg #[.slice pa pn pc, .slice ha hn hc, .int .i64 cf, .int .i64 rg, .slice ca cn cc, .slice ma mn mc], .agg #[.int .i64 fn, .int .i64 x, .slice la ln lc, .slice sa sn sc], .int .i64 called] w fun e w' => e = .returned (.bool (waitP ps rg (fn, x, ll, sl) called)) ∧ Below w.heap.size w w' := by
  have HK := hid K
  have HL := hid hl
  have HS := hid hs
  have hlr := hl.room
  have hsr := hs.room
  have HV := hid hv
  have E : Hid (waitP ps rg (fn, x, ll, sl) called = (waitsB ps fn x ln sn called && (ll.all (srcB rg) && sl.all (srcB rg)))) := hid (by rw [hl.len, hs.len]; rfl)
  clear K hl hs hv
  go_enter Tryz.func68, Tryz.ntmps68
  go_wp2_with fail
  refine (tabWaits_any _ _ _ _ _ _ ps fn x ln sn called _ (HK.out.p.kept (by go_grown)) (HK.out.h.kept (by go_grown)) HV.out (by omega) (by omega)).mono ?_
  rintro e U ⟨rfl, bU⟩
  have B : Hid (Below w.heap.size w U) := hid (kt (by go_grown) bU)
  have p0 := kept_cell bU (b := w.heap.size) (o := 0) (v := .slice pa pn pc) (by simp [go_sem])
  have p1 := kept_cell bU (b := w.heap.size) (o := 1) (v := .slice ha hn hc) (by simp [go_sem])
  have p2 := kept_cell bU (b := w.heap.size) (o := 2) (v := .int .i64 cf) (by simp [go_sem])
  have p3 := kept_cell bU (b := w.heap.size) (o := 3) (v := .int .i64 rg) (by simp [go_sem])
  have p4 := kept_cell bU (b := w.heap.size) (o := 4) (v := .slice ca cn cc) (by simp [go_sem])
  have p5 := kept_cell bU (b := w.heap.size) (o := 5) (v := .slice ma mn mc) (by simp [go_sem])
  have q0 := kept_cell bU (b := w.heap.size + 1) (o := 0) (v := .int .i64 fn) (by simp [go_sem])
  have q1 := kept_cell bU (b := w.heap.size + 1) (o := 1) (v := .int .i64 x) (by simp [go_sem])
  have q2 := kept_cell bU (b := w.heap.size + 1) (o := 2) (v := .slice la ln lc) (by simp [go_sem])
  have q3 := kept_cell bU (b := w.heap.size + 1) (o := 3) (v := .slice sa sn sc) (by simp [go_sem])
  clear bU
  cases h : waitsB ps fn x ln sn called
  · have F : Hid (waitP ps rg (fn, x, ll, sl) called = false) := hid (by rw [E.out, h]; rfl)
    clear h
    go_wp2_with fail
    go_ret
    exact ⟨ret_bool F.out.symm, B.out⟩
  · have F : Hid (waitP ps rg (fn, x, ll, sl) called = (ll.all (srcB rg) && sl.all (srcB rg))) := hid (by rw [E.out, h]; rfl)
    clear h
    go_wp2_with fail
    refine (irHasSrcs_any _ _ _ _ _ _ _ _ _ _ _ _ ps cl ml cf rg _ (HK.out.kept B.out) fn x _ _ _ ll _ _ _ sl (HL.out.kept B.out) (HS.out.kept B.out)).mono ?_
    rintro e w1 ⟨rfl, b1⟩
    go_wp2_with fail
    go_ret
    exact ⟨ret_bool F.out.symm, kt B.out b1⟩

end Go.Proofs.YtaimpljkbpnigaaGreatDoor

namespace Go.Proofs.YtaimpljkbpnigaaGreatDoor
open Go.RowKit
set_option linter.unusedVariables false

set_option maxRecDepth 100000 in
set_option maxHeartbeats 8000000 in
theorem irMeta_any (pa : Option Addr) (pn pc : Nat) (ha : Option Addr) (hn hc : Nat) (ca : Option Addr) (cn cc : Nat) (ma : Option Addr) (mn mc : Nat) (ps : List Fn) (cl : List IrT) (ml : List (List PartT)) (cf rg : Int) (w : World) (K : Chk w pa pn pc ha hn hc ca cn cc ma mn mc ps cl ml) (ta : Option Addr) (tn tc : Nat) (tl : List PartT) (ht : Sl layPart 64 w ta tn tc tl) (hv : verV ps = 0) :
    Calls Tryz.prog 53 #[.agg #[.slice pa pn pc, .slice ha hn hc, .int .i64 cf, .int .i64 rg, .slice ca cn cc, .slice ma mn mc], .agg #[.slice ta tn tc]] w fun e w' => e = .returned (.bool (metaB ps cf rg tl)) ∧ Below w.heap.size w w' := by
  have HK := hid K
  have HV := hid hv
  have htr := ht.room
  have htc := ht.cap
  have LT := ht.len
  clear K hv
  by_cases h1 : tn = 1
  · subst h1
    obtain ⟨b0, o0, fn0, x0, la0, ln0, lc0, ll0, sa0, sn0, sc0, sl0, rfl, e0, t00, t01, t02, t03, hl0, hs0⟩ := part_at ht 0 (by omega)
    have E : Hid (metaB ps cf rg tl = (decide (fn0 = cf) && runP ps rg (fn0, x0, ll0, sl0))) := hid (by
      obtain ⟨y, rfl⟩ : ∃ y, tl = [y] := List.length_eq_one_iff.1 LT.symm
      cases e0
      rw [runP_eq]
      rfl)
    have HL0 := hid hl0
    have HS0 := hid hs0
    simp only [Nat.zero_mul, Nat.add_zero] at t00 t01 t02 t03
    clear e0 hl0 hs0 ht LT
    have z0 := lt_of_cell t00
    go_enter Tryz.func53, Tryz.ntmps53
    go_upto_region 3 with fail
    refine wp_name ?_
    intro U hU
    have B : Hid (Below w.heap.size w U) := hid (by rw [hU]; go_grown)
    have p0 : U.cell? ⟨w.heap.size, 0, none⟩ = some (.slice pa pn pc) := by rw [hU]; simp [go_sem]
    have p1 : U.cell? ⟨w.heap.size, 1, none⟩ = some (.slice ha hn hc) := by rw [hU]; simp [go_sem]
    have p2 : U.cell? ⟨w.heap.size, 2, none⟩ = some (.int .i64 cf) := by rw [hU]; simp [go_sem]
    have p3 : U.cell? ⟨w.heap.size, 3, none⟩ = some (.int .i64 rg) := by rw [hU]; simp [go_sem]
    have p4 : U.cell? ⟨w.heap.size, 4, none⟩ = some (.slice ca cn cc) := by rw [hU]; simp [go_sem]
    have p5 : U.cell? ⟨w.heap.size, 5, none⟩ = some (.slice ma mn mc) := by rw [hU]; simp [go_sem]
    have m0 : U.cell? ⟨w.heap.size + 1, 0, none⟩ = some (.slice (some ⟨b0, o0, none⟩) 1 tc) := by rw [hU]; simp [go_sem]
    replace t00 := kept_cell B.out t00
    replace t01 := kept_cell B.out t01
    replace t02 := kept_cell B.out t02
    replace t03 := kept_cell B.out t03
    replace p0 := cell_regrown p0
    replace p1 := cell_regrown p1
    replace p2 := cell_regrown p2
    replace p3 := cell_regrown p3
    replace p4 := cell_regrown p4
    replace p5 := cell_regrown p5
    replace m0 := cell_regrown m0
    replace t00 := cell_regrown t00
    replace t01 := cell_regrown t01
    replace t02 := cell_regrown t02
    replace t03 := cell_regrown t03
    clear hU z0
    have SR : Hid (∀ u, Below U.heap.size U u → Calls Tryz.prog 67 #[.agg #[.slice pa pn pc, .slice ha hn hc, .int .i64 cf, .int .i64 rg, .slice ca cn cc, .slice ma mn mc], .agg #[.int .i64 fn0, .int .i64 x0, .slice la0 ln0 lc0, .slice sa0 sn0 sc0]] u fun e w' => e = .returned (.bool (runP ps rg (fn0, x0, ll0, sl0))) ∧ Below u.heap.size u w') := hid (fun u hu => irRuns_any _ _ _ _ _ _ _ _ _ _ _ _ ps cl ml cf rg _ (HK.out.kept (kt B.out hu)) fn0 x0 _ _ _ ll0 _ _ _ sl0 (HL0.out.kept (kt B.out hu)) (HS0.out.kept (kt B.out hu)) HV.out)
    by_cases hf : fn0 = cf
    · subst hf
      replace E : Hid (metaB ps fn0 rg tl = runP ps rg (fn0, x0, ll0, sl0)) := hid (by rw [E.out]; simp)
      refine wp_region_quiet_below (by kernel_rfl) (by kernel_rfl) ?_
      repeat (go_big_quiet_step (first | (go_at_call 67; exact Calls.regrown_of (SR.out _ (below_regrown _ _ _))) | (go_at_call 68; exact Calls.regrown_of (SW.out _ (below_regrown _ _ _)))))
      refine wpQuiet_nil ?_
      intro _ hw'
      obtain ⟨⟨dq, osq⟩, hw''⟩ := hw'
      subst hw''
      go_wp2_with fail
      go_ret
      exact ⟨ret_bool E.out.symm, kt B.out (below_regrown _ _ _)⟩
    · have hf' : (fn0 == cf) = false := by simpa using hf
      replace E : Hid (metaB ps cf rg tl = false) := hid (by rw [E.out, decide_eq_false hf]; rfl)
      clear hf
      refine wp_region_quiet_below (by kernel_rfl) (by kernel_rfl) ?_
      repeat (go_big_quiet_step (first | (go_at_call 67; exact Calls.regrown_of (SR.out _ (below_regrown _ _ _))) | (go_at_call 68; exact Calls.regrown_of (SW.out _ (below_regrown _ _ _)))))
      refine wpQuiet_nil ?_
      intro _ hw'
      obtain ⟨⟨dq, osq⟩, hw''⟩ := hw'
      subst hw''
      go_wp2_with fail
      go_ret
      exact ⟨ret_bool E.out.symm, kt B.out (below_regrown _ _ _)⟩
  by_cases h2 : tn = 2
  · subst h2
    obtain ⟨b0, o0, fn0, x0, la0, ln0, lc0, ll0, sa0, sn0, sc0, sl0, rfl, e0, t00, t01, t02, t03, hl0, hs0⟩ := part_at ht 0 (by omega)
    obtain ⟨b1, o1, fn1, x1, la1, ln1, lc1, ll1, sa1, sn1, sc1, sl1, eb, e1, t10, t11, t12, t13, hl1, hs1⟩ := part_at ht 1 (by omega)
    have eb' := Option.some.inj eb
    obtain ⟨eb1, eb2⟩ : b0 = b1 ∧ o0 = o1 := by cases eb'; exact ⟨rfl, rfl⟩
    subst eb1 eb2
    clear eb eb'
    have E : Hid (metaB ps cf rg tl = (decide (fn0 = cf) && (waitP ps rg (fn0, x0, ll0, sl0) fn1 && runP ps rg (fn1, x1, ll1, sl1)))) := hid (by
      obtain ⟨y, z, rfl⟩ : ∃ y z, tl = [y, z] := by
        match tl, LT with
        | [y, z], _ => exact ⟨y, z, rfl⟩
      cases e0
      cases e1
      rw [runP_eq, waitP_eq, Bool.and_assoc]
      rfl)
    have HL0 := hid hl0
    have HS0 := hid hs0
    have HL1 := hid hl1
    have HS1 := hid hs1
    simp only [Nat.zero_mul, Nat.one_mul, Nat.add_zero] at t00 t01 t02 t03 t10 t11 t12 t13
    clear e0 hl0 hs0 ht LT e1 hl1 hs1 h1
    have z0 := lt_of_cell t00
    go_enter Tryz.func53, Tryz.ntmps53
    go_upto_region 5 with fail
    refine wp_name ?_
    intro U hU
    have B : Hid (Below w.heap.size w U) := hid (by rw [hU]; go_grown)
    have p0 : U.cell? ⟨w.heap.size, 0, none⟩ = some (.slice pa pn pc) := by rw [hU]; simp [go_sem]
    have p1 : U.cell? ⟨w.heap.size, 1, none⟩ = some (.slice ha hn hc) := by rw [hU]; simp [go_sem]
    have p2 : U.cell? ⟨w.heap.size, 2, none⟩ = some (.int .i64 cf) := by rw [hU]; simp [go_sem]
    have p3 : U.cell? ⟨w.heap.size, 3, none⟩ = some (.int .i64 rg) := by rw [hU]; simp [go_sem]
    have p4 : U.cell? ⟨w.heap.size, 4, none⟩ = some (.slice ca cn cc) := by rw [hU]; simp [go_sem]
    have p5 : U.cell? ⟨w.heap.size, 5, none⟩ = some (.slice ma mn mc) := by rw [hU]; simp [go_sem]
    have m0 : U.cell? ⟨w.heap.size + 1, 0, none⟩ = some (.slice (some ⟨b0, o0, none⟩) 2 tc) := by rw [hU]; simp [go_sem]
    replace t00 := kept_cell B.out t00
    replace t01 := kept_cell B.out t01
    replace t02 := kept_cell B.out t02
    replace t03 := kept_cell B.out t03
    replace t10 := kept_cell B.out t10
    replace t11 := kept_cell B.out t11
    replace t12 := kept_cell B.out t12
    replace t13 := kept_cell B.out t13
    replace p0 := cell_regrown p0
    replace p1 := cell_regrown p1
    replace p2 := cell_regrown p2
    replace p3 := cell_regrown p3
    replace p4 := cell_regrown p4
    replace p5 := cell_regrown p5
    replace m0 := cell_regrown m0
    replace t00 := cell_regrown t00
    replace t01 := cell_regrown t01
    replace t02 := cell_regrown t02
    replace t03 := cell_regrown t03
    replace t10 := cell_regrown t10
    replace t11 := cell_regrown t11
    replace t12 := cell_regrown t12
    replace t13 := cell_regrown t13
    clear hU z0
    have SR : Hid (∀ u, Below U.heap.size U u → Calls Tryz.prog 67 #[.agg #[.slice pa pn pc, .slice ha hn hc, .int .i64 cf, .int .i64 rg, .slice ca cn cc, .slice ma mn mc], .agg #[.int .i64 fn1, .int .i64 x1, .slice la1 ln1 lc1, .slice sa1 sn1 sc1]] u fun e w' => e = .returned (.bool (runP ps rg (fn1, x1, ll1, sl1))) ∧ Below u.heap.size u w') := hid (fun u hu => irRuns_any _ _ _ _ _ _ _ _ _ _ _ _ ps cl ml cf rg _ (HK.out.kept (kt B.out hu)) fn1 x1 _ _ _ ll1 _ _ _ sl1 (HL1.out.kept (kt B.out hu)) (HS1.out.kept (kt B.out hu)) HV.out)
    have SW : Hid (∀ u, Below U.heap.size U u → Calls Tryz.prog 68 #[.agg #[.slice pa pn pc, .slice ha hn hc, .int .i64 cf, .int .i64 rg, .slice ca cn cc, .slice ma mn mc], .agg #[.int .i64 fn0, .int .i64 x0, .slice la0 ln0 lc0, .slice sa0 sn0 sc0], .int .i64 fn1] u fun e w' => e = .returned (.bool (waitP ps rg (fn0, x0, ll0, sl0) fn1)) ∧ Below u.heap.size u w') := hid (fun u hu => irWaits_any _ _ _ _ _ _ _ _ _ _ _ _ ps cl ml cf rg _ (HK.out.kept (kt B.out hu)) fn0 x0 _ _ _ ll0 _ _ _ sl0 fn1 (HL0.out.kept (kt B.out hu)) (HS0.out.kept (kt B.out hu)) HV.out)
    by_cases hf : fn0 = cf
    rotate_left
    · have hf' : (fn0 == cf) = false := by simpa using hf
      replace E : Hid (metaB ps cf rg tl = false) := hid (by rw [E.out, decide_eq_false hf]; rfl)
      clear hf
      refine wp_region_quiet_below (by kernel_rfl) (by kernel_rfl) ?_
      repeat (go_big_quiet_step (first | (go_at_call 67; exact Calls.regrown_of (SR.out _ (below_regrown _ _ _))) | (go_at_call 68; exact Calls.regrown_of (SW.out _ (below_regrown _ _ _)))))
      refine wpQuiet_nil ?_
      intro _ hw'
      obtain ⟨⟨dq, osq⟩, hw''⟩ := hw'
      subst hw''
      go_wp2_with fail
      go_ret
      exact ⟨ret_bool E.out.symm, kt B.out (below_regrown _ _ _)⟩
    · subst hf
      replace E : Hid (metaB ps fn0 rg tl = (waitP ps rg (fn0, x0, ll0, sl0) fn1 && runP ps rg (fn1, x1, ll1, sl1))) := hid (by rw [E.out]; simp)
      cases hw : waitP ps rg (fn0, x0, ll0, sl0) fn1
      · rw [hw] at SW
        replace E : Hid (metaB ps fn0 rg tl = false) := hid (by rw [E.out, hw]; rfl)
        clear hw
        refine wp_region_quiet_below (by kernel_rfl) (by kernel_rfl) ?_
        repeat (go_big_quiet_step (first | (go_at_call 67; exact Calls.regrown_of (SR.out _ (below_regrown _ _ _))) | (go_at_call 68; exact Calls.regrown_of (SW.out _ (below_regrown _ _ _)))))
        refine wpQuiet_nil ?_
        intro _ hw'
        obtain ⟨⟨dq, osq⟩, hw''⟩ := hw'
        subst hw''
        go_wp2_with fail
        go_ret
        exact ⟨ret_bool E.out.symm, kt B.out (below_regrown _ _ _)⟩
      · rw [hw] at SW
        replace E : Hid (metaB ps fn0 rg tl = runP ps rg (fn1, x1, ll1, sl1)) := hid (by rw [E.out, hw]; rfl)
        clear hw
        refine wp_region_quiet_below (by kernel_rfl) (by kernel_rfl) ?_
        repeat (go_big_quiet_step (first | (go_at_call 67; exact Calls.regrown_of (SR.out _ (below_regrown _ _ _))) | (go_at_call 68; exact Calls.regrown_of (SW.out _ (below_regrown _ _ _)))))
        refine wpQuiet_nil ?_
        intro _ hw'
        obtain ⟨⟨dq, osq⟩, hw''⟩ := hw'
        subst hw''
        go_wp2_with fail
        go_ret
        exact ⟨ret_bool E.out.symm, kt B.out (below_regrown _ _ _)⟩
  · have E : Hid (metaB ps cf rg tl = false) := hid (by
      match tl, LT with
      | [], _ => rfl
      | [_], h => exact absurd h h1
      | [_, _], h => exact absurd h h2
      | _ :: _ :: _ :: _, _ => rfl)
    have h1' : ((tn : Int) == 1) = false := by simp; omega
    have h2' : ((tn : Int) == 2) = false := by simp; omega
    clear h1 h2 LT ht
    go_enter Tryz.func53, Tryz.ntmps53
    go_wp2_with fail
    go_ret
    exact ⟨ret_bool E.out.symm, by go_grown⟩

end Go.Proofs.YtaimpljkbpnigaaGreatDoor

namespace Go.Proofs.YtaimpljkbpnigaaGreatDoor
open Go.RowKit
set_option linter.unusedVariables false

set_option maxRecDepth 100000 in
set_option maxHeartbeats 8000000 in
theorem irIsIr_any (pa : Option Addr) (pn pc : Nat) (ha : Option Addr) (hn hc : Nat) (ca : Option Addr) (cn cc : Nat) (ma : Option Addr) (mn mc : Nat) (ps : List Fn) (cl : List IrT) (ml : List (List PartT)) (cf rg : Int) (w : World) (K : Chk w pa pn pc ha hn hc ca cn cc ma mn mc ps cl ml) (kd r ra rb k : Int) (xa : Option Addr) (xn xc : Nat) (args : List Int) (cost mt ip : Int) (hx : Ints w xa xn xc args) :
    Calls Tryz.prog 64 #[.agg #[.slice pa pn pc, .slice ha hn hc, .int .i64 cf, .int .i64 rg, .slice ca cn cc, .slice ma mn mc], .agg #[.int .i64 kd, .int .i64 r, .int .i64 ra, .int .i64 rb, .int .i64 k, .slice xa xn xc, .int .i64 cost, .int .i64 mt, .int .i64 ip]] w fun e w' => e = .returned (.bool (fieldsB ps rg cn mn (kd, r, ra, rb, k, args, cost, mt, ip))) ∧ Below w.heap.size w w' := by
  have HK := hid K
  have HX := hid hx
  clear K hx
  go_enter Tryz.func64, Tryz.ntmps64
  go_wp2_with fail
  refine (fieldsOf_any kd _).mono ?_
  rintro e U ⟨sr, sa, sb, sk, sg, sm, es, rfl, bU⟩
  have B0 : Hid (Below w.heap.size w U) := hid (kt (by go_grown) bU)
  have E0 : Hid (fieldsB ps rg cn mn (kd, r, ra, rb, k, args, cost, mt, ip) = (irKindB kd && (inB 257 cost && (inB 64 ip && (holdsB ps.length rg cn mn sr r && (holdsB ps.length rg cn mn sa ra && (holdsB ps.length rg cn mn sb rb && (holdsB ps.length rg cn mn sk k && (holdsB ps.length rg cn mn sm mt && argsOk ps rg cn mn sk sg k args))))))))) := hid (by simp only [fieldsB, es])
  have p0 := kept_cell bU (b := w.heap.size) (o := 0) (v := .slice pa pn pc) (by simp [go_sem])
  have p1 := kept_cell bU (b := w.heap.size) (o := 1) (v := .slice ha hn hc) (by simp [go_sem])
  have p2 := kept_cell bU (b := w.heap.size) (o := 2) (v := .int .i64 cf) (by simp [go_sem])
  have p3 := kept_cell bU (b := w.heap.size) (o := 3) (v := .int .i64 rg) (by simp [go_sem])
  have p4 := kept_cell bU (b := w.heap.size) (o := 4) (v := .slice ca cn cc) (by simp [go_sem])
  have p5 := kept_cell bU (b := w.heap.size) (o := 5) (v := .slice ma mn mc) (by simp [go_sem])
  have i0 := kept_cell bU (b := w.heap.size + 1) (o := 0) (v := .int .i64 kd) (by simp [go_sem])
  have i1 := kept_cell bU (b := w.heap.size + 1) (o := 1) (v := .int .i64 r) (by simp [go_sem])
  have i2 := kept_cell bU (b := w.heap.size + 1) (o := 2) (v := .int .i64 ra) (by simp [go_sem])
  have i3 := kept_cell bU (b := w.heap.size + 1) (o := 3) (v := .int .i64 rb) (by simp [go_sem])
  have i4 := kept_cell bU (b := w.heap.size + 1) (o := 4) (v := .int .i64 k) (by simp [go_sem])
  have i5 := kept_cell bU (b := w.heap.size + 1) (o := 5) (v := .slice xa xn xc) (by simp [go_sem])
  have i6 := kept_cell bU (b := w.heap.size + 1) (o := 6) (v := .int .i64 cost) (by simp [go_sem])
  have i7 := kept_cell bU (b := w.heap.size + 1) (o := 7) (v := .int .i64 mt) (by simp [go_sem])
  have i8 := kept_cell bU (b := w.heap.size + 1) (o := 8) (v := .int .i64 ip) (by simp [go_sem])
  clear bU es
  go_upto_region 2 with fail
  refine wp_name ?_
  intro V hV
  have A : Hid (Below U.heap.size U V) := hid (by rw [hV]; first | exact Below.refl _ _ | go_grown)
  have B := hid (kt B0.out A.out)
  have f0 : V.cell? ⟨U.heap.size, 0, none⟩ = some (.int .i64 sr) := by rw [hV]; simp [go_sem]
  have f1 : V.cell? ⟨U.heap.size, 1, none⟩ = some (.int .i64 sa) := by rw [hV]; simp [go_sem]
  have f2 : V.cell? ⟨U.heap.size, 2, none⟩ = some (.int .i64 sb) := by rw [hV]; simp [go_sem]
  have f3 : V.cell? ⟨U.heap.size, 3, none⟩ = some (.int .i64 sk) := by rw [hV]; simp [go_sem]
  have f4 : V.cell? ⟨U.heap.size, 4, none⟩ = some (.int .i64 sg) := by rw [hV]; simp [go_sem]
  have f5 : V.cell? ⟨U.heap.size, 5, none⟩ = some (.int .i64 sm) := by rw [hV]; simp [go_sem]
  replace p0 := kept_cell A.out p0
  replace p1 := kept_cell A.out p1
  replace p2 := kept_cell A.out p2
  replace p3 := kept_cell A.out p3
  replace p4 := kept_cell A.out p4
  replace p5 := kept_cell A.out p5
  replace i0 := kept_cell A.out i0
  replace i1 := kept_cell A.out i1
  replace i2 := kept_cell A.out i2
  replace i3 := kept_cell A.out i3
  replace i4 := kept_cell A.out i4
  replace i5 := kept_cell A.out i5
  replace i6 := kept_cell A.out i6
  replace i7 := kept_cell A.out i7
  replace i8 := kept_cell A.out i8
  clear hV B0
  cases hk0 : irKindB kd
  · have F : Hid (fieldsB ps rg cn mn (kd, r, ra, rb, k, args, cost, mt, ip) = false) := hid (by rw [E0.out, hk0]; rfl)
    go_wp2_with fail
    go_ret
    exact ⟨ret_bool F.out.symm, B.out⟩
  have E1 : Hid (fieldsB ps rg cn mn (kd, r, ra, rb, k, args, cost, mt, ip) = (inB 257 cost && (inB 64 ip && (holdsB ps.length rg cn mn sr r && (holdsB ps.length rg cn mn sa ra && (holdsB ps.length rg cn mn sb rb && (holdsB ps.length rg cn mn sk k && (holdsB ps.length rg cn mn sm mt && argsOk ps rg cn mn sk sg k args)))))))) := hid (by rw [E0.out, hk0]; rfl)
  clear E0 hk0 A
  go_wp2_with fail
  refine (irBelow_any cost 257 _).mono ?_
  rintro e w1 ⟨rfl, hw⟩
  rw [hw]
  clear hw w1
  cases hk : decide (0 ≤ cost ∧ cost < 257)
  · have F : Hid (fieldsB ps rg cn mn (kd, r, ra, rb, k, args, cost, mt, ip) = false) := hid (by rw [E1.out, show inB 257 cost = false from hk]; rfl)
    go_wp2_with fail
    go_ret
    exact ⟨ret_bool F.out.symm, B.out⟩
  have E2 : Hid (fieldsB ps rg cn mn (kd, r, ra, rb, k, args, cost, mt, ip) = (inB 64 ip && (holdsB ps.length rg cn mn sr r && (holdsB ps.length rg cn mn sa ra && (holdsB ps.length rg cn mn sb rb && (holdsB ps.length rg cn mn sk k && (holdsB ps.length rg cn mn sm mt && argsOk ps rg cn mn sk sg k args))))))) := hid (by rw [E1.out, show inB 257 cost = true from hk]; rfl)
  clear hk E1
  go_wp2_with fail
  refine (irBelow_any ip 64 _).mono ?_
  rintro e w1 ⟨rfl, hw⟩
  rw [hw]
  clear hw w1
  cases hk : decide (0 ≤ ip ∧ ip < 64)
  · have F : Hid (fieldsB ps rg cn mn (kd, r, ra, rb, k, args, cost, mt, ip) = false) := hid (by rw [E2.out, show inB 64 ip = false from hk]; rfl)
    go_wp2_with fail
    go_ret
    exact ⟨ret_bool F.out.symm, B.out⟩
  have E3 : Hid (fieldsB ps rg cn mn (kd, r, ra, rb, k, args, cost, mt, ip) = (holdsB ps.length rg cn mn sr r && (holdsB ps.length rg cn mn sa ra && (holdsB ps.length rg cn mn sb rb && (holdsB ps.length rg cn mn sk k && (holdsB ps.length rg cn mn sm mt && argsOk ps rg cn mn sk sg k args)))))) := hid (by rw [E2.out, show inB 64 ip = true from hk]; rfl)
  clear hk E2
  go_wp2_with fail
  refine (irHolds_any _ _ _ _ _ _ _ _ _ _ _ _ ps cl ml cf rg _ (HK.out.kept B.out) sr r).mono ?_
  rintro e w1 ⟨rfl, b1⟩
  replace B := hid (kt B.out b1)
  replace p0 := kept_cell b1 p0
  replace p1 := kept_cell b1 p1
  replace p2 := kept_cell b1 p2
  replace p3 := kept_cell b1 p3
  replace p4 := kept_cell b1 p4
  replace p5 := kept_cell b1 p5
  replace i0 := kept_cell b1 i0
  replace i1 := kept_cell b1 i1
  replace i2 := kept_cell b1 i2
  replace i3 := kept_cell b1 i3
  replace i4 := kept_cell b1 i4
  replace i5 := kept_cell b1 i5
  replace i6 := kept_cell b1 i6
  replace i7 := kept_cell b1 i7
  replace i8 := kept_cell b1 i8
  replace f0 := kept_cell b1 f0
  replace f1 := kept_cell b1 f1
  replace f2 := kept_cell b1 f2
  replace f3 := kept_cell b1 f3
  replace f4 := kept_cell b1 f4
  replace f5 := kept_cell b1 f5
  clear b1
  cases hk : holdsB ps.length rg cn mn sr r
  · have F : Hid (fieldsB ps rg cn mn (kd, r, ra, rb, k, args, cost, mt, ip) = false) := hid (by rw [E3.out, show holdsB ps.length rg cn mn sr r = false from hk]; rfl)
    go_wp2_with fail
    go_ret
    exact ⟨ret_bool F.out.symm, B.out⟩
  have E4 : Hid (fieldsB ps rg cn mn (kd, r, ra, rb, k, args, cost, mt, ip) = (holdsB ps.length rg cn mn sa ra && (holdsB ps.length rg cn mn sb rb && (holdsB ps.length rg cn mn sk k && (holdsB ps.length rg cn mn sm mt && argsOk ps rg cn mn sk sg k args))))) := hid (by rw [E3.out, show holdsB ps.length rg cn mn sr r = true from hk]; rfl)
  clear hk E3
  go_wp2_with fail
  refine (irHolds_any _ _ _ _ _ _ _ _ _ _ _ _ ps cl ml cf rg _ (HK.out.kept B.out) sa ra).mono ?_
  rintro e w1 ⟨rfl, b1⟩
  replace B := hid (kt B.out b1)
  replace p0 := kept_cell b1 p0
  replace p1 := kept_cell b1 p1
  replace p2 := kept_cell b1 p2
  replace p3 := kept_cell b1 p3
  replace p4 := kept_cell b1 p4
  replace p5 := kept_cell b1 p5
  replace i0 := kept_cell b1 i0
  replace i1 := kept_cell b1 i1
  replace i2 := kept_cell b1 i2
  replace i3 := kept_cell b1 i3
  replace i4 := kept_cell b1 i4
  replace i5 := kept_cell b1 i5
  replace i6 := kept_cell b1 i6
  replace i7 := kept_cell b1 i7
  replace i8 := kept_cell b1 i8
  replace f0 := kept_cell b1 f0
  replace f1 := kept_cell b1 f1
  replace f2 := kept_cell b1 f2
  replace f3 := kept_cell b1 f3
  replace f4 := kept_cell b1 f4
  replace f5 := kept_cell b1 f5
  clear b1
  cases hk : holdsB ps.length rg cn mn sa ra
  · have F : Hid (fieldsB ps rg cn mn (kd, r, ra, rb, k, args, cost, mt, ip) = false) := hid (by rw [E4.out, show holdsB ps.length rg cn mn sa ra = false from hk]; rfl)
    go_wp2_with fail
    go_ret
    exact ⟨ret_bool F.out.symm, B.out⟩
  have E5 : Hid (fieldsB ps rg cn mn (kd, r, ra, rb, k, args, cost, mt, ip) = (holdsB ps.length rg cn mn sb rb && (holdsB ps.length rg cn mn sk k && (holdsB ps.length rg cn mn sm mt && argsOk ps rg cn mn sk sg k args)))) := hid (by rw [E4.out, show holdsB ps.length rg cn mn sa ra = true from hk]; rfl)
  clear hk E4
  go_wp2_with fail
  refine (irHolds_any _ _ _ _ _ _ _ _ _ _ _ _ ps cl ml cf rg _ (HK.out.kept B.out) sb rb).mono ?_
  rintro e w1 ⟨rfl, b1⟩
  replace B := hid (kt B.out b1)
  replace p0 := kept_cell b1 p0
  replace p1 := kept_cell b1 p1
  replace p2 := kept_cell b1 p2
  replace p3 := kept_cell b1 p3
  replace p4 := kept_cell b1 p4
  replace p5 := kept_cell b1 p5
  replace i0 := kept_cell b1 i0
  replace i1 := kept_cell b1 i1
  replace i2 := kept_cell b1 i2
  replace i3 := kept_cell b1 i3
  replace i4 := kept_cell b1 i4
  replace i5 := kept_cell b1 i5
  replace i6 := kept_cell b1 i6
  replace i7 := kept_cell b1 i7
  replace i8 := kept_cell b1 i8
  replace f0 := kept_cell b1 f0
  replace f1 := kept_cell b1 f1
  replace f2 := kept_cell b1 f2
  replace f3 := kept_cell b1 f3
  replace f4 := kept_cell b1 f4
  replace f5 := kept_cell b1 f5
  clear b1
  cases hk : holdsB ps.length rg cn mn sb rb
  · have F : Hid (fieldsB ps rg cn mn (kd, r, ra, rb, k, args, cost, mt, ip) = false) := hid (by rw [E5.out, show holdsB ps.length rg cn mn sb rb = false from hk]; rfl)
    go_wp2_with fail
    go_ret
    exact ⟨ret_bool F.out.symm, B.out⟩
  have E6 : Hid (fieldsB ps rg cn mn (kd, r, ra, rb, k, args, cost, mt, ip) = (holdsB ps.length rg cn mn sk k && (holdsB ps.length rg cn mn sm mt && argsOk ps rg cn mn sk sg k args))) := hid (by rw [E5.out, show holdsB ps.length rg cn mn sb rb = true from hk]; rfl)
  clear hk E5
  go_wp2_with fail
  refine (irHolds_any _ _ _ _ _ _ _ _ _ _ _ _ ps cl ml cf rg _ (HK.out.kept B.out) sk k).mono ?_
  rintro e w1 ⟨rfl, b1⟩
  replace B := hid (kt B.out b1)
  replace p0 := kept_cell b1 p0
  replace p1 := kept_cell b1 p1
  replace p2 := kept_cell b1 p2
  replace p3 := kept_cell b1 p3
  replace p4 := kept_cell b1 p4
  replace p5 := kept_cell b1 p5
  replace i0 := kept_cell b1 i0
  replace i1 := kept_cell b1 i1
  replace i2 := kept_cell b1 i2
  replace i3 := kept_cell b1 i3
  replace i4 := kept_cell b1 i4
  replace i5 := kept_cell b1 i5
  replace i6 := kept_cell b1 i6
  replace i7 := kept_cell b1 i7
  replace i8 := kept_cell b1 i8
  replace f0 := kept_cell b1 f0
  replace f1 := kept_cell b1 f1
  replace f2 := kept_cell b1 f2
  replace f3 := kept_cell b1 f3
  replace f4 := kept_cell b1 f4
  replace f5 := kept_cell b1 f5
  clear b1
  cases hk : holdsB ps.length rg cn mn sk k
  · have F : Hid (fieldsB ps rg cn mn (kd, r, ra, rb, k, args, cost, mt, ip) = false) := hid (by rw [E6.out, show holdsB ps.length rg cn mn sk k = false from hk]; rfl)
    go_wp2_with fail
    go_ret
    exact ⟨ret_bool F.out.symm, B.out⟩
  have E7 : Hid (fieldsB ps rg cn mn (kd, r, ra, rb, k, args, cost, mt, ip) = (holdsB ps.length rg cn mn sm mt && argsOk ps rg cn mn sk sg k args)) := hid (by rw [E6.out, show holdsB ps.length rg cn mn sk k = true from hk]; rfl)
  have HSK := hid hk
  clear hk E6
  go_wp2_with fail
  refine (irHolds_any _ _ _ _ _ _ _ _ _ _ _ _ ps cl ml cf rg _ (HK.out.kept B.out) sm mt).mono ?_
  rintro e w1 ⟨rfl, b1⟩
  replace B := hid (kt B.out b1)
  replace p0 := kept_cell b1 p0
  replace p1 := kept_cell b1 p1
  replace p2 := kept_cell b1 p2
  replace p3 := kept_cell b1 p3
  replace p4 := kept_cell b1 p4
  replace p5 := kept_cell b1 p5
  replace i0 := kept_cell b1 i0
  replace i1 := kept_cell b1 i1
  replace i2 := kept_cell b1 i2
  replace i3 := kept_cell b1 i3
  replace i4 := kept_cell b1 i4
  replace i5 := kept_cell b1 i5
  replace i6 := kept_cell b1 i6
  replace i7 := kept_cell b1 i7
  replace i8 := kept_cell b1 i8
  replace f0 := kept_cell b1 f0
  replace f1 := kept_cell b1 f1
  replace f2 := kept_cell b1 f2
  replace f3 := kept_cell b1 f3
  replace f4 := kept_cell b1 f4
  replace f5 := kept_cell b1 f5
  clear b1
  cases hk : holdsB ps.length rg cn mn sm mt
  · have F : Hid (fieldsB ps rg cn mn (kd, r, ra, rb, k, args, cost, mt, ip) = false) := hid (by rw [E7.out, show holdsB ps.length rg cn mn sm mt = false from hk]; rfl)
    go_wp2_with fail
    go_ret
    exact ⟨ret_bool F.out.symm, B.out⟩
  have E8 : Hid (fieldsB ps rg cn mn (kd, r, ra, rb, k, args, cost, mt, ip) = argsOk ps rg cn mn sk sg k args) := hid (by rw [E7.out, show holdsB ps.length rg cn mn sm mt = true from hk]; rfl)
  clear hk E7
  go_wp2_with fail
  refine (irArgs_any _ _ _ _ _ _ _ _ _ _ _ _ ps cl ml cf rg _ (HK.out.kept B.out) sr sa sb sk sg sm kd r ra rb k _ _ _ args cost mt ip (HX.out.kept B.out) ?_).mono ?_
  · intro h5
    have h := HSK.out
    rw [h5] at h
    have h' : inB ps.length k = true := h
    simpa [inB] using h'
  rintro e w1 ⟨rfl, b1⟩
  go_wp2_with fail
  go_ret
  exact ⟨ret_bool E8.out.symm, kt B.out b1⟩

end Go.Proofs.YtaimpljkbpnigaaGreatDoor

namespace Go.Proofs.YtaimpljkbpnigaaGreatDoor
open Go.RowKit
set_option linter.unusedVariables false

theorem irs_step {ps : List Fn} {c : CdT} {q : Nat} {x : IrT} (hx : c.2.2.1[q]? = some x) : irsB ps c (q + 1) = (irsB ps c q && irB ps c.2.1 c.2.2.1.length c.2.2.2.length q x) := by
  unfold irsB
  rw [List.range_succ, List.all_append]
  simp [List.getD_eq_getElem?_getD, hx]
theorem irs_no {ps : List Fn} {c : CdT} {q n : Nat} {x : IrT} (hx : c.2.2.1[q]? = some x) (h : irB ps c.2.1 c.2.2.1.length c.2.2.2.length q x = false) (hq : q < n) : irsB ps c n = false := by
  unfold irsB
  refine List.all_eq_false.2 ⟨q, List.mem_range.2 hq, ?_⟩
  rw [List.getD_eq_getElem?_getD, hx]
  show ¬ irB ps c.2.1 c.2.2.1.length c.2.2.2.length q x = true
  rw [h]; simp

set_option maxRecDepth 100000 in
set_option maxHeartbeats 4000000 in
theorem irAll_any (pa : Option Addr) (pn pc : Nat) (ha : Option Addr) (hn hc : Nat) (ca : Option Addr) (cn cc : Nat) (ma : Option Addr) (mn mc : Nat) (ps : List Fn) (cl : List IrT) (ml : List (List PartT)) (cf rg : Int) (w : World) (K : Chk w pa pn pc ha hn hc ca cn cc ma mn mc ps cl ml) :
    Calls Tryz.prog 50 #[.agg #[.slice pa pn pc, .slice ha hn hc, .int .i64 cf, .int .i64 rg, .slice ca cn cc, .slice ma mn mc]] w fun e w' => e = .returned (.bool (irsB ps (cf, rg, cl, ml) cn)) ∧ Below w.heap.size w w' := by
  have HK := hid K
  have LC := hid K.c.len
  have LM := hid K.m.len
  have hcr := K.c.room
  have hcc := K.c.cap
  clear K
  go_enter Tryz.func50, Tryz.ntmps50
  go_wp2_with fail
  go_loopw [9] (fun i wr => ∃ q : Nat, q ≤ cn ∧ i = .int .i64 q ∧ irsB ps (cf, rg, cl, ml) q = true ∧ Ckb wr w.heap.size pa pn pc ha hn hc ca cn cc ma mn mc cf rg ∧ Below w.heap.size w wr) (fun i _ => cn - (intOf i).toNat)
  case atStart => exact ⟨0, Nat.zero_le _, rfl, rfl, ⟨by simp [go_sem], by simp [go_sem], by simp [go_sem], by simp [go_sem], by simp [go_sem], by simp [go_sem]⟩, by go_grown⟩
  case round =>
    obtain ⟨q, hq, rfl, ht, hc, hb⟩ := hrel
    have HT := hid ht
    have HC := hid hc
    have HB := hid hb
    clear ht
    by_cases hlt : q < cn
    · obtain ⟨b, o, kd, r, ra, rb, k, xa, xn, xc, args, cost, mt, ip, rfl, hx, e0, e1, e2, e3, e4, e5, e6, e7, e8, hi⟩ := ir_at (HK.out.c.kept hb) q hlt
      have HX := hid hx
      have HI := hid hi
      clear hx hi hc hb
      go_upto_region 4 with fail
      refine wp_name ?_
      intro U hU
      have A : Hid (Below wr.heap.size wr U) := hid (by rw [hU]; go_grown)
      have j0 : U.cell? ⟨wr.heap.size, 0, none⟩ = some (.int .i64 kd) := by rw [hU]; simp [go_sem]
      replace j0 := cell_regrown j0
      have j1 : U.cell? ⟨wr.heap.size, 1, none⟩ = some (.int .i64 r) := by rw [hU]; simp [go_sem]
      replace j1 := cell_regrown j1
      have j2 : U.cell? ⟨wr.heap.size, 2, none⟩ = some (.int .i64 ra) := by rw [hU]; simp [go_sem]
      replace j2 := cell_regrown j2
      have j3 : U.cell? ⟨wr.heap.size, 3, none⟩ = some (.int .i64 rb) := by rw [hU]; simp [go_sem]
      replace j3 := cell_regrown j3
      have j4 : U.cell? ⟨wr.heap.size, 4, none⟩ = some (.int .i64 k) := by rw [hU]; simp [go_sem]
      replace j4 := cell_regrown j4
      have j5 : U.cell? ⟨wr.heap.size, 5, none⟩ = some (.slice xa xn xc) := by rw [hU]; simp [go_sem]
      replace j5 := cell_regrown j5
      have j6 : U.cell? ⟨wr.heap.size, 6, none⟩ = some (.int .i64 cost) := by rw [hU]; simp [go_sem]
      replace j6 := cell_regrown j6
      have j7 : U.cell? ⟨wr.heap.size, 7, none⟩ = some (.int .i64 mt) := by rw [hU]; simp [go_sem]
      replace j7 := cell_regrown j7
      have j8 : U.cell? ⟨wr.heap.size, 8, none⟩ = some (.int .i64 ip) := by rw [hU]; simp [go_sem]
      replace j8 := cell_regrown j8
      have B := hid (kt HB.out A.out)
      obtain ⟨c0, c1, c2, c3, c4, c5⟩ := HC.out.kept A.out
      replace c0 := cell_regrown c0
      replace c1 := cell_regrown c1
      replace c2 := cell_regrown c2
      replace c3 := cell_regrown c3
      replace c4 := cell_regrown c4
      replace c5 := cell_regrown c5
      clear hU e0 e1 e2 e3 e4 e5 e6 e7 e8
      have EI : Hid (irB ps rg cl.length ml.length q (kd, r, ra, rb, k, args, cost, mt, ip) = (fieldsB ps rg cn mn (kd, r, ra, rb, k, args, cost, mt, ip) && decide (leastV q kd k ≤ cost))) := hid (by rw [LC.out, LM.out]; exact ir_same.symm)
      have ST : Hid (∀ u, Below U.heap.size U u → Calls Tryz.prog 64 #[.agg #[.slice pa pn pc, .slice ha hn hc, .int .i64 cf, .int .i64 rg, .slice (some ⟨b, o, none⟩) cn cc, .slice ma mn mc], .agg #[.int .i64 kd, .int .i64 r, .int .i64 ra, .int .i64 rb, .int .i64 k, .slice xa xn xc, .int .i64 cost, .int .i64 mt, .int .i64 ip]] u fun e w' => e = .returned (.bool (fieldsB ps rg cn mn (kd, r, ra, rb, k, args, cost, mt, ip))) ∧ Below u.heap.size u w') := hid (fun u hu => irIsIr_any _ _ _ _ _ _ _ _ _ _ _ _ ps cl ml cf rg _ (HK.out.kept (kt B.out hu)) kd r ra rb k _ _ _ args cost mt ip ((HI.out.kept A.out).kept hu))
      cases hf : fieldsB ps rg cn mn (kd, r, ra, rb, k, args, cost, mt, ip)
      · rw [hf] at ST
        have F : Hid (irsB ps (cf, rg, cl, ml) cn = false) := hid (irs_no HX.out (by show irB ps rg cl.length ml.length q _ = false; rw [EI.out, hf]; rfl) hlt)
        clear hf
        refine wp_region_quiet_below (by kernel_rfl) (by kernel_rfl) ?_
        repeat (go_big_quiet_step (first | (go_at_call 64; exact Calls.regrown_of (ST.out _ (below_regrown _ _ _))) | (go_at_call 65; exact Calls.regrown_of (irLeast_any _ _ _ _ _ _ _ _ _ _ _ _ _))))
        refine wpQuiet_nil ?_
        intro _ hw'
        obtain ⟨⟨dq, osq⟩, hw''⟩ := hw'
        subst hw''
        go_wp2_with fail
        go_ret
        exact ⟨ret_bool F.out.symm, kt B.out (below_regrown _ _ _)⟩
      · rw [hf] at ST
        have EI2 : Hid (irB ps rg cl.length ml.length q (kd, r, ra, rb, k, args, cost, mt, ip) = decide (leastV q kd k ≤ cost)) := hid (by rw [EI.out, hf]; rfl)
        clear hf EI
        by_cases hl : cost < leastV q kd k
        · have F : Hid (irsB ps (cf, rg, cl, ml) cn = false) := hid (irs_no HX.out (by show irB ps rg cl.length ml.length q _ = false; rw [EI2.out]; simp; omega) hlt)
          refine wp_region_quiet_below (by kernel_rfl) (by kernel_rfl) ?_
          repeat (go_big_quiet_step (first | (go_at_call 64; exact Calls.regrown_of (ST.out _ (below_regrown _ _ _))) | (go_at_call 65; exact Calls.regrown_of (irLeast_any _ _ _ _ _ _ _ _ _ _ _ _ _))))
          refine wpQuiet_nil ?_
          intro _ hw'
          obtain ⟨⟨dq, osq⟩, hw''⟩ := hw'
          subst hw''
          go_wp2_with fail
          go_ret
          exact ⟨ret_bool F.out.symm, kt B.out (below_regrown _ _ _)⟩
        · have F : Hid (irsB ps (cf, rg, cl, ml) (q + 1) = true) := hid (by rw [irs_step HX.out, HT.out]; show (true && irB ps rg cl.length ml.length q _) = true; rw [EI2.out]; simp; omega)
          have hl' : decide (cost < leastV q kd k) = false := by simpa using hl
          refine wp_region_quiet_below (by kernel_rfl) (by kernel_rfl) ?_
          repeat (go_big_quiet_step (first | (go_at_call 64; exact Calls.regrown_of (ST.out _ (below_regrown _ _ _))) | (go_at_call 65; exact Calls.regrown_of (irLeast_any _ _ _ _ _ _ _ _ _ _ _ _ _))))
          refine wpQuiet_nil ?_
          intro _ hw'
          obtain ⟨⟨dq, osq⟩, hw''⟩ := hw'
          subst hw''
          go_wp2_with fail
          go_roundw
          case rel => exact ⟨q + 1, by omega, by go_num, F.out, (HC.out.kept A.out).kept (below_regrown _ _ _), kt B.out (below_regrown _ _ _)⟩
          case measure => simp [intOf]; omega
    · have hqn : q = cn := by omega
      subst hqn
      go_wp2_with fail
      go_ret
      exact ⟨ret_bool HT.out.symm, hb⟩

end Go.Proofs.YtaimpljkbpnigaaGreatDoor

namespace Go.Proofs.YtaimpljkbpnigaaGreatDoor
open Go.RowKit
set_option linter.unusedVariables false

def regsC (ps : List Fn) (cf rg : Int) : Bool := decide (1 ≤ rg ∧ (ps.getD cf.toNat noFn).2.1 ≤ rg ∧ rg ≤ 64)
def sizeC (cn mn : Nat) : Bool := decide (1 ≤ cn ∧ cn ≤ 256 ∧ mn ≤ 64)
def mayC (ps : List Fn) (cf rg : Int) (cl : List IrT) (ml : List (List PartT)) : Bool := inB ps.length cf && (regsC ps cf rg && (lastB (cf, rg, cl, ml) && (irsB ps (cf, rg, cl, ml) cl.length && ml.all (metaB ps cf rg))))
theorem codeMay_eq (ps : List Fn) (cf rg : Int) (cl : List IrT) (ml : List (List PartT)) : codeMayB ps (cf, rg, cl, ml) = (sizeC cl.length ml.length && (decide (verV ps = 0) && mayC ps cf rg cl ml)) := by
  rw [Bool.eq_iff_iff]
  unfold codeMayB headC sizeC mayC regsC
  simp only [Bool.and_eq_true, decide_eq_true_eq]
  constructor
  · rintro ⟨a, ⟨b, c1, c2, c3, c4, c5, c6⟩, d, e, f⟩; exact ⟨⟨c4, c5, c6⟩, a, b, ⟨c1, c2, c3⟩, f, d, e⟩
  · rintro ⟨⟨c4, c5, c6⟩, a, b, ⟨c1, c2, c3⟩, f, d, e⟩; exact ⟨a, ⟨b, c1, c2, c3, c4, c5, c6⟩, d, e, f⟩

set_option maxRecDepth 100000 in
set_option maxHeartbeats 1000000 in
theorem irNotMeta_any (pa : Option Addr) (pn pc : Nat) (ha : Option Addr) (hn hc : Nat) (ca : Option Addr) (cn cc : Nat) (ma : Option Addr) (mn mc : Nat) (ps : List Fn) (cl : List IrT) (ml : List (List PartT)) (cf rg : Int) (w : World) (K : Chk w pa pn pc ha hn hc ca cn cc ma mn mc ps cl ml) (bc : Nat) (hb : Ckb w bc pa pn pc ha hn hc ca cn cc ma mn mc cf rg) (ta : Option Addr) (tn tc : Nat) (tl : List PartT) (ht : Sl layPart 64 w ta tn tc tl) (hv : verV ps = 0) :
    Calls Tryz.prog 52 #[.agg #[.slice ta tn tc], .pointer (some ⟨bc, 0, none⟩)] w fun e w' => e = .returned (.bool (!metaB ps cf rg tl)) ∧ Below w.heap.size w w' := by
  obtain ⟨c0, c1, c2, c3, c4, c5⟩ := hb
  have z := lt_of_cell c0
  have HK := hid K
  have HT := hid ht
  have HV := hid hv
  clear K ht hv
  go_enter Tryz.func52, Tryz.ntmps52
  go_wp2_with fail
  refine (irMeta_any _ _ _ _ _ _ _ _ _ _ _ _ ps cl ml cf rg _ (HK.out.kept (by go_grown)) _ _ _ tl (HT.out.kept (by go_grown)) HV.out).mono ?_
  rintro e w1 ⟨rfl, b1⟩
  go_wp2_with fail
  go_ret
  exact ⟨rfl, kt (by go_grown) b1⟩

set_option maxRecDepth 100000 in
set_option maxHeartbeats 4000000 in
theorem irMayBe_any (pa : Option Addr) (pn pc : Nat) (ha : Option Addr) (hn hc : Nat) (ca : Option Addr) (cn cc : Nat) (ma : Option Addr) (mn mc : Nat) (ps : List Fn) (cl : List IrT) (ml : List (List PartT)) (cf rg : Int) (w : World) (K : Chk w pa pn pc ha hn hc ca cn cc ma mn mc ps cl ml) (hv : verV ps = 0) (hs : sizeC cn mn = true) :
    Calls Tryz.prog 35 #[.agg #[.slice pa pn pc, .slice ha hn hc, .int .i64 cf, .int .i64 rg, .slice ca cn cc, .slice ma mn mc]] w fun e w' => e = .returned (.bool (mayC ps cf rg cl ml)) ∧ Below w.heap.size w w' := by
  have P : Hid (∀ args w, (callFunc 52 args).run Tryz.prog w = .ok (.enter 52 args) w) := hid (enters_of Tryz.func52 (by kernel_rfl) rfl)
  have HK := hid K
  have HV := hid hv
  have hpr := K.p.room
  have LP := hid K.p.len
  have hs' : 1 ≤ cn ∧ cn ≤ 256 ∧ mn ≤ 64 := by simpa [sizeC] using hs
  have HS := hid hs'
  have E0 : Hid (mayC ps cf rg cl ml = (inB ps.length cf && (regsC ps cf rg && (lastB (cf, rg, cl, ml) && (irsB ps (cf, rg, cl, ml) cn && ml.all (metaB ps cf rg)))))) := hid (by rw [K.c.len]; rfl)
  clear K hv hs hs'
  go_enter Tryz.func35, Tryz.ntmps35
  go_wp2_with fail
  refine (isFunc_any _ _ _ _ _ _ _ _ hpr).mono ?_
  rintro e U ⟨rfl, bU⟩
  have B : Hid (Below w.heap.size w U) := hid (kt (by go_grown) bU)
  have p0 := kept_cell bU (b := w.heap.size) (o := 0) (v := .slice pa pn pc) (by simp [go_sem])
  have p1 := kept_cell bU (b := w.heap.size) (o := 1) (v := .slice ha hn hc) (by simp [go_sem])
  have p2 := kept_cell bU (b := w.heap.size) (o := 2) (v := .int .i64 cf) (by simp [go_sem])
  have p3 := kept_cell bU (b := w.heap.size) (o := 3) (v := .int .i64 rg) (by simp [go_sem])
  have p4 := kept_cell bU (b := w.heap.size) (o := 4) (v := .slice ca cn cc) (by simp [go_sem])
  have p5 := kept_cell bU (b := w.heap.size) (o := 5) (v := .slice ma mn mc) (by simp [go_sem])
  clear bU
  rw [LP.out]
  cases hk : inB ps.length cf
  · have F : Hid (mayC ps cf rg cl ml = false) := hid (by rw [E0.out, hk]; rfl)
    go_wp2_with fail
    go_ret
    exact ⟨ret_bool F.out.symm, B.out⟩
  have E1 : Hid (mayC ps cf rg cl ml = (regsC ps cf rg && (lastB (cf, rg, cl, ml) && (irsB ps (cf, rg, cl, ml) cn && ml.all (metaB ps cf rg))))) := hid (by rw [E0.out, hk]; rfl)
  obtain ⟨f, rfl⟩ : ∃ f : Nat, cf = f := ⟨cf.toNat, by simp [inB] at hk; omega⟩
  have hfn : Hid (f < ps.length) := hid (by simp [inB] at hk; omega)
  clear E0 hk
  go_wp2_with fail
  refine (irRegs_any _ _ _ _ _ _ _ _ _ _ _ _ ps cl ml (f : Int) rg _ (HK.out.kept B.out) f rfl hfn.out).mono ?_
  rintro e w1 ⟨rfl, b1⟩
  replace B := hid (kt B.out b1)
  replace p0 := kept_cell b1 p0
  replace p1 := kept_cell b1 p1
  replace p2 := kept_cell b1 p2
  replace p3 := kept_cell b1 p3
  replace p4 := kept_cell b1 p4
  replace p5 := kept_cell b1 p5
  clear b1
  change Hid (mayC ps (f : Int) rg cl ml = (decide (1 ≤ rg ∧ (ps.getD f noFn).2.1 ≤ rg ∧ rg ≤ 64) && _)) at E1
  cases hk : decide (1 ≤ rg ∧ (ps.getD f noFn).2.1 ≤ rg ∧ rg ≤ 64)
  · have F : Hid (mayC ps (f : Int) rg cl ml = false) := hid (by rw [E1.out, hk]; rfl)
    clear hk
    go_wp2_with fail
    go_ret
    exact ⟨ret_bool F.out.symm, B.out⟩
  have E2 : Hid (mayC ps (f : Int) rg cl ml = (lastB ((f : Int), rg, cl, ml) && (irsB ps ((f : Int), rg, cl, ml) cn && ml.all (metaB ps (f : Int) rg)))) := hid (by rw [E1.out, hk]; rfl)
  clear E1 hk
  go_wp2_with fail
  refine (irEnds_any _ _ _ _ _ _ _ _ _ _ _ _ ps cl ml (f : Int) rg _ (HK.out.kept B.out) HS.out.1 HS.out.2.1).mono ?_
  rintro e w1 ⟨rfl, b1⟩
  replace B := hid (kt B.out b1)
  replace p0 := kept_cell b1 p0
  replace p1 := kept_cell b1 p1
  replace p2 := kept_cell b1 p2
  replace p3 := kept_cell b1 p3
  replace p4 := kept_cell b1 p4
  replace p5 := kept_cell b1 p5
  clear b1
  cases hk : lastB ((f : Int), rg, cl, ml)
  · have F : Hid (mayC ps (f : Int) rg cl ml = false) := hid (by rw [E2.out, hk]; rfl)
    clear hk
    go_wp2_with fail
    go_ret
    exact ⟨ret_bool F.out.symm, B.out⟩
  have E3 : Hid (mayC ps (f : Int) rg cl ml = (irsB ps ((f : Int), rg, cl, ml) cn && ml.all (metaB ps (f : Int) rg))) := hid (by rw [E2.out, hk]; rfl)
  clear E2 hk
  go_wp2_with fail
  refine (irAll_any _ _ _ _ _ _ _ _ _ _ _ _ ps cl ml (f : Int) rg _ (HK.out.kept B.out)).mono ?_
  rintro e w1 ⟨rfl, b1⟩
  replace B := hid (kt B.out b1)
  replace p0 := kept_cell b1 p0
  replace p1 := kept_cell b1 p1
  replace p2 := kept_cell b1 p2
  replace p3 := kept_cell b1 p3
  replace p4 := kept_cell b1 p4
  replace p5 := kept_cell b1 p5
  clear b1
  cases hk : irsB ps ((f : Int), rg, cl, ml) cn
  · have F : Hid (mayC ps (f : Int) rg cl ml = false) := hid (by rw [E3.out, hk]; rfl)
    clear hk
    go_wp2_with fail
    go_ret
    exact ⟨ret_bool F.out.symm, B.out⟩
  have E4 : Hid (mayC ps (f : Int) rg cl ml = ml.all (metaB ps (f : Int) rg)) := hid (by rw [E3.out, hk]; rfl)
  clear E3 hk
  have HB := hid (Ckb.mk p0 p1 p2 p3 p4 p5)
  go_wp2_with fail
  refine (containsMetas_any 52 #[.pointer (some ⟨w.heap.size, 0, none⟩)] P.out (fun x => !metaB ps (f : Int) rg x) _ _ _ ml _ (HK.out.m.kept B.out) (fun ta tn tc tl w' bw ht => irNotMeta_any _ _ _ _ _ _ _ _ _ _ _ _ ps cl ml (f : Int) rg _ (HK.out.kept (kt B.out bw)) _ (HB.out.kept bw) ta tn tc tl ht HV.out)).mono ?_
  rintro e w1 ⟨rfl, b1⟩
  go_wp2_with fail
  go_ret
  exact ⟨ret_bool (by rw [E4.out, List.all_eq_not_any_not]), kt B.out b1⟩

set_option maxRecDepth 100000 in
set_option maxHeartbeats 4000000 in
theorem irMay_any (pa : Option Addr) (pn pc : Nat) (ca : Option Addr) (cn cc : Nat) (ma : Option Addr) (mn mc : Nat) (ps : List Fn) (cl : List IrT) (ml : List (List PartT)) (cf rg : Int) (w : World) (hp : Fns w pa pn pc ps) (hcl : Sl layIr 88 w ca cn cc cl) (hml : Sl layMeta 24 w ma mn mc ml) (ld : Ld w) :
    Calls Tryz.prog 15 #[.agg #[.slice pa pn pc], .agg #[.int .i64 cf, .int .i64 rg, .slice ca cn cc, .slice ma mn mc]] w fun e w' => e = .returned (.bool (codeMayB ps (cf, rg, cl, ml))) ∧ Below w.heap.size w w' := by
  have HP := hid hp
  have HC := hid hcl
  have HM := hid hml
  have LD := hid ld
  have hcr := hcl.room
  have hmr := hml.room
  have E : Hid (codeMayB ps (cf, rg, cl, ml) = (sizeC cn mn && (decide (verV ps = 0) && mayC ps cf rg cl ml))) := hid (by rw [hcl.len, hml.len]; exact codeMay_eq ps cf rg cl ml)
  clear hp hcl hml ld
  go_enter Tryz.func15, Tryz.ntmps15
  go_wp2_with fail
  refine (irSize_any _ _ _ _ _ _ cf rg _ hcr hmr).mono ?_
  rintro e U ⟨rfl, bU⟩
  have B : Hid (Below w.heap.size w U) := hid (kt (by go_grown) bU)
  have q0 := kept_cell bU (b := w.heap.size) (o := 0) (v := .slice pa pn pc) (by simp [go_sem])
  have d0 := kept_cell bU (b := w.heap.size + 1) (o := 0) (v := .int .i64 cf) (by simp [go_sem])
  have d1 := kept_cell bU (b := w.heap.size + 1) (o := 1) (v := .int .i64 rg) (by simp [go_sem])
  have d2 := kept_cell bU (b := w.heap.size + 1) (o := 2) (v := .slice ca cn cc) (by simp [go_sem])
  have d3 := kept_cell bU (b := w.heap.size + 1) (o := 3) (v := .slice ma mn mc) (by simp [go_sem])
  clear bU
  rw [show decide (1 ≤ cn ∧ cn ≤ 256 ∧ mn ≤ 64) = sizeC cn mn from rfl]
  cases hs : sizeC cn mn
  · replace E : Hid (codeMayB ps (cf, rg, cl, ml) = false) := hid (by rw [E.out, hs]; rfl)
    go_wp2_with fail
    go_ret
    exact ⟨ret_bool E.out.symm, B.out⟩
  replace E : Hid (codeMayB ps (cf, rg, cl, ml) = (decide (verV ps = 0) && mayC ps cf rg cl ml)) := hid (by rw [E.out, hs]; rfl)
  have HS := hid hs
  clear hs
  go_wp2_with fail
  refine (callsOf_any _ _ _ ps _ (HP.out.kept B.out) (LD.out.up B.out)).mono ?_
  rintro e V ⟨bV, ⟨hv, ha, hn, hc, rfl, hh⟩ | ⟨hv, a1, n1, c1, a2, n2, c2, rfl⟩⟩
  · replace B := hid (kt B.out bV)
    replace q0 := kept_cell bV q0
    replace d0 := kept_cell bV d0
    replace d1 := kept_cell bV d1
    replace d2 := kept_cell bV d2
    replace d3 := kept_cell bV d3
    have HH := hid hh
    have HV := hid hv
    replace E : Hid (codeMayB ps (cf, rg, cl, ml) = mayC ps cf rg cl ml) := hid (by rw [E.out, decide_eq_true hv]; rfl)
    clear bV hh hv
    have z1 := lt_of_cell d0
    go_wp2_with fail
    refine (irMayBe_any _ _ _ _ _ _ _ _ _ _ _ _ ps cl ml cf rg _ ⟨HP.out.kept (kt B.out (by go_grown)), HH.out.kept (by go_grown), HC.out.kept (kt B.out (by go_grown)), HM.out.kept (kt B.out (by go_grown))⟩ HV.out HS.out).mono ?_
    rintro e w1 ⟨rfl, b1⟩
    go_wp2_with fail
    go_ret
    exact ⟨ret_bool E.out.symm, kt B.out (kt (by go_grown) b1)⟩
  · replace E : Hid (codeMayB ps (cf, rg, cl, ml) = false) := hid (by rw [E.out, decide_eq_false hv]; rfl)
    replace B := hid (kt B.out bV)
    replace q0 := kept_cell bV q0
    replace d0 := kept_cell bV d0
    replace d1 := kept_cell bV d1
    replace d2 := kept_cell bV d2
    replace d3 := kept_cell bV d3
    clear bV hv
    go_wp2_with fail
    go_ret
    exact ⟨ret_bool E.out.symm, kt B.out (by go_grown)⟩

end Go.Proofs.YtaimpljkbpnigaaGreatDoor
