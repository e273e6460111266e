/- Package ir: what a field may hold, which registers a code has, how it ends. -/
import Derived.Test.YtfnfbebkeoilfaaGreatDoorIrA
namespace Go.Proofs.YtfnfbebkeoilfaaGreatDoor
open Go.RowKit
set_option linter.unusedVariables false

set_option maxHeartbeats 1000000 in
theorem irSize_any (ca : Option Addr) (cn cc : Nat) (ma : Option Addr) (mn mc : Nat) (cf rg : Int) (w : World) (hc : cn * 88 ≤ 140737488351232) (hm : mn * 24 ≤ 140737488351232) :
    Calls Tryz.prog 17 #[.agg #[.int .i64 cf, .int .i64 rg, .slice ca cn cc, .slice ma mn mc]] w fun e w' => e = .returned (.bool (decide (1 ≤ cn ∧ cn ≤ 256 ∧ mn ≤ 64))) ∧ Below w.heap.size w w' := by
  by_cases h1 : 1 ≤ cn
  · by_cases h2 : cn ≤ 256
    · by_cases h3 : mn ≤ 64
      · have E : Hid (decide (1 ≤ cn ∧ cn ≤ 256 ∧ mn ≤ 64) = true) := hid (by simp; omega)
        go_enter Tryz.func17, Tryz.ntmps17
        go_wp2_with fail
        go_ret
        exact ⟨by first | exact ret_bool E.out.symm | exact ret_bool rfl | exact ret_bool (by rw [E.out]; simp <;> omega) | exact ret_bool (by simp <;> omega), by go_grown⟩
      · have E : Hid (decide (1 ≤ cn ∧ cn ≤ 256 ∧ mn ≤ 64) = false) := hid (by simp; omega)
        go_enter Tryz.func17, Tryz.ntmps17
        go_wp2_with fail
        go_ret
        exact ⟨by first | exact ret_bool E.out.symm | exact ret_bool rfl | exact ret_bool (by rw [E.out]; simp <;> omega) | exact ret_bool (by simp <;> omega), by go_grown⟩
    · have E : Hid (decide (1 ≤ cn ∧ cn ≤ 256 ∧ mn ≤ 64) = false) := hid (by simp; omega)
      go_enter Tryz.func17, Tryz.ntmps17
      go_wp2_with fail
      go_ret
      exact ⟨by first | exact ret_bool E.out.symm | exact ret_bool rfl | exact ret_bool (by rw [E.out]; simp <;> omega) | exact ret_bool (by simp <;> omega), by go_grown⟩
  · have E : Hid (decide (1 ≤ cn ∧ cn ≤ 256 ∧ mn ≤ 64) = false) := hid (by simp; omega)
    go_enter Tryz.func17, Tryz.ntmps17
    go_wp2_with fail
    go_ret
    exact ⟨by first | exact ret_bool E.out.symm | exact ret_bool rfl | exact ret_bool (by rw [E.out]; simp <;> omega) | exact ret_bool (by simp <;> omega), by go_grown⟩

set_option maxRecDepth 100000 in
set_option maxHeartbeats 4000000 in
theorem irHolds_any (pa : Option Addr) (pn pc : Nat) (ha : Option Addr) (hn hc : Nat) (ca : Option Addr) (cn cc : Nat) (ma : Option Addr) (mn mc : Nat) (ps : List Fn) (cl : List IrT) (ml : List (List PartT)) (cf rg : Int) (w : World) (K : Chk w pa pn pc ha hn hc ca cn cc ma mn mc ps cl ml) (s x : Int) :
    Calls Tryz.prog 64 #[.agg #[.slice pa pn pc, .slice ha hn hc, .int .i64 cf, .int .i64 rg, .slice ca cn cc, .slice ma mn mc], .int .i64 s, .int .i64 x] w fun e w' => e = .returned (.bool (holdsB ps.length rg cn mn s x)) ∧ Below w.heap.size w w' := by
  have LP := hid K.p.len
  have hpr := K.p.room
  have hcr := K.c.room
  have hmr := K.m.room
  clear K
  by_cases h1 : s = 1
  · subst h1
    go_enter Tryz.func64, Tryz.ntmps64
    go_wp2_with fail
    refine (irBelow_any _ _ _).mono ?_
    rintro e w1 ⟨rfl, rfl⟩
    go_wp2_with fail
    go_ret
    exact ⟨ret_bool (by first | rfl | (rw [← Bool.decide_and]; rfl)), by go_grown⟩
  by_cases h2 : s = 2
  · subst h2
    go_enter Tryz.func64, Tryz.ntmps64
    go_wp2_with fail
    refine (isNumber_any _ _).mono ?_
    rintro e w1 ⟨rfl, rfl⟩
    go_wp2_with fail
    go_ret
    exact ⟨ret_bool (by first | rfl | (rw [← Bool.decide_and]; rfl)), by go_grown⟩
  by_cases h3 : s = 3
  · subst h3
    by_cases k1 : 3 ≤ x
    · by_cases k2 : x ≤ 9
      · have E : Hid (holdsB ps.length rg cn mn 3 x = true) := hid (by show decide (3 ≤ x ∧ x ≤ 9) = true; simp; omega)
        go_enter Tryz.func64, Tryz.ntmps64
        go_wp2_with fail
        go_ret
        exact ⟨by first | exact ret_bool E.out.symm | exact ret_bool rfl | exact ret_bool (by rw [E.out]; simp <;> omega) | exact ret_bool (by simp <;> omega), by go_grown⟩
      · have E : Hid (holdsB ps.length rg cn mn 3 x = false) := hid (by show decide (3 ≤ x ∧ x ≤ 9) = false; simp; omega)
        go_enter Tryz.func64, Tryz.ntmps64
        go_wp2_with fail
        go_ret
        exact ⟨by first | exact ret_bool E.out.symm | exact ret_bool rfl | exact ret_bool (by rw [E.out]; simp <;> omega) | exact ret_bool (by simp <;> omega), by go_grown⟩
    · have E : Hid (holdsB ps.length rg cn mn 3 x = false) := hid (by show decide (3 ≤ x ∧ x ≤ 9) = false; simp; omega)
      go_enter Tryz.func64, Tryz.ntmps64
      go_wp2_with fail
      go_ret
      exact ⟨by first | exact ret_bool E.out.symm | exact ret_bool rfl | exact ret_bool (by rw [E.out]; simp <;> omega) | exact ret_bool (by simp <;> omega), by go_grown⟩
  by_cases h4 : s = 4
  · subst h4
    go_enter Tryz.func64, Tryz.ntmps64
    go_wp2_with fail
    refine (irBelow_any _ _ _).mono ?_
    rintro e w1 ⟨rfl, rfl⟩
    go_wp2_with fail
    go_ret
    exact ⟨ret_bool (by first | rfl | (rw [← Bool.decide_and]; rfl)), by go_grown⟩
  by_cases h5 : s = 5
  · subst h5
    go_enter Tryz.func64, Tryz.ntmps64
    go_wp2_with fail
    refine (isFunc_any _ _ _ _ _ _ _ _ hpr).mono ?_
    rintro e w1 ⟨rfl, b1⟩
    go_wp2_with fail
    go_ret
    exact ⟨ret_bool (by rw [LP.out]; rfl), kt (by go_grown) b1⟩
  by_cases h6 : s = 6
  · subst h6
    go_enter Tryz.func64, Tryz.ntmps64
    go_wp2_with fail
    refine (irBelow_any _ _ _).mono ?_
    rintro e w1 ⟨rfl, rfl⟩
    go_wp2_with fail
    go_ret
    exact ⟨ret_bool (by first | rfl | (rw [← Bool.decide_and]; rfl)), by go_grown⟩
  by_cases h7 : s = 7
  · subst h7
    go_enter Tryz.func64, Tryz.ntmps64
    go_wp2_with fail
    refine (irBelow_any _ _ _).mono ?_
    rintro e w1 ⟨rfl, rfl⟩
    go_wp2_with fail
    go_ret
    exact ⟨ret_bool (by first | rfl | (rw [← Bool.decide_and]; rfl)), by go_grown⟩
  have E : Hid (holdsB ps.length rg cn mn s x = decide (x = 0)) := hid (by unfold holdsB; simp [h1, h2, h3, h4, h5, h6, h7])
  replace h1 : (s == 1) = false := by simpa using h1
  replace h2 : (s == 2) = false := by simpa using h2
  replace h3 : (s == 3) = false := by simpa using h3
  replace h4 : (s == 4) = false := by simpa using h4
  replace h5 : (s == 5) = false := by simpa using h5
  replace h6 : (s == 6) = false := by simpa using h6
  replace h7 : (s == 7) = false := by simpa using h7
  go_enter Tryz.func64, Tryz.ntmps64
  go_wp2_with fail
  go_ret
  exact ⟨ret_bool (by rw [E.out, Bool.eq_iff_iff]; simp), by go_grown⟩

set_option maxRecDepth 100000 in
set_option maxHeartbeats 2000000 in
theorem irRegs_any (pa : Option Addr) (pn pc : Nat) (ha : Option Addr) (hn hc : Nat) (ca : Option Addr) (cn cc : Nat) (ma : Option Addr) (mn mc : Nat) (ps : List Fn) (cl : List IrT) (ml : List (List PartT)) (cf rg : Int) (w : World) (K : Chk w pa pn pc ha hn hc ca cn cc ma mn mc ps cl ml) (f : Nat) (hf : cf = (f : Int)) (hfn : f < ps.length) :
    Calls Tryz.prog 30 #[.agg #[.slice pa pn pc, .slice ha hn hc, .int .i64 cf, .int .i64 rg, .slice ca cn cc, .slice ma mn mc]] w fun e w' => e = .returned (.bool (decide (1 ≤ rg ∧ (ps.getD f noFn).2.1 ≤ rg ∧ rg ≤ 64))) ∧ Below w.heap.size w w' := by
  subst hf
  have LP := hid K.p.len
  have HP := hid K.p
  clear K
  go_enter Tryz.func30, Tryz.ntmps30
  go_wp2_with fail
  refine (tabFunc_any _ _ _ _ _ _ ps f _ (HP.out.kept (by go_grown)) (by rw [LP.out]; exact hfn)).mono ?_
  rintro e U ⟨gx, gy, fa, fn, fc, fl, rfl, e3, -, bU⟩
  have B : Hid (Below w.heap.size w U) := hid (kt (by go_grown) bU)
  have p0 := kept_cell bU (b := w.heap.size) (o := 0) (v := .slice pa pn pc) (by simp [go_sem])
  have p1 := kept_cell bU (b := w.heap.size) (o := 1) (v := .slice ha hn hc) (by simp [go_sem])
  have p2 := kept_cell bU (b := w.heap.size) (o := 2) (v := .int .i64 (f : Int)) (by simp [go_sem])
  have p3 := kept_cell bU (b := w.heap.size) (o := 3) (v := .int .i64 rg) (by simp [go_sem])
  have p4 := kept_cell bU (b := w.heap.size) (o := 4) (v := .slice ca cn cc) (by simp [go_sem])
  have p5 := kept_cell bU (b := w.heap.size) (o := 5) (v := .slice ma mn mc) (by simp [go_sem])
  clear bU
  have E := hid e3
  have fd := Tryz.fieldLocals gx gy fa fn fc
  clear e3
  by_cases h1 : 1 ≤ rg ∧ gy ≤ rg
  · by_cases h2 : rg ≤ 64
    · have F : Hid (decide (1 ≤ rg ∧ (ps.getD f noFn).2.1 ≤ rg ∧ rg ≤ 64) = true) := hid (by rw [E.out]; simp; omega)
      have k : decide (max gy 1 ≤ rg) = true := by simp; omega
      go_wp2_with fail
      go_ret
      exact ⟨by first | exact ret_bool F.out.symm | exact ret_bool rfl | exact ret_bool (by rw [F.out]; simp <;> omega) | exact ret_bool (by simp <;> omega), B.out⟩
    · have F : Hid (decide (1 ≤ rg ∧ (ps.getD f noFn).2.1 ≤ rg ∧ rg ≤ 64) = false) := hid (by rw [E.out]; simp; omega)
      have k : decide (max gy 1 ≤ rg) = true := by simp; omega
      go_wp2_with fail
      go_ret
      exact ⟨by first | exact ret_bool F.out.symm | exact ret_bool rfl | exact ret_bool (by rw [F.out]; simp <;> omega) | exact ret_bool (by simp <;> omega), B.out⟩
  · have F : Hid (decide (1 ≤ rg ∧ (ps.getD f noFn).2.1 ≤ rg ∧ rg ≤ 64) = false) := hid (by rw [E.out]; simp; omega)
    have k : decide (max gy 1 ≤ rg) = false := by simp; omega
    go_wp2_with fail
    go_ret
    exact ⟨by first | exact ret_bool F.out.symm | exact ret_bool rfl | exact ret_bool (by rw [F.out]; simp <;> omega) | exact ret_bool (by simp <;> omega), B.out⟩

set_option maxRecDepth 100000 in
set_option maxHeartbeats 2000000 in
theorem irEnds_any (pa : Option Addr) (pn pc : Nat) (ha : Option Addr) (hn hc : Nat) (ca : Option Addr) (cn cc : Nat) (ma : Option Addr) (mn mc : Nat) (ps : List Fn) (cl : List IrT) (ml : List (List PartT)) (cf rg : Int) (w : World) (K : Chk w pa pn pc ha hn hc ca cn cc ma mn mc ps cl ml) (h1 : 1 ≤ cn) (h256 : cn ≤ 256) :
    Calls Tryz.prog 31 #[.agg #[.slice pa pn pc, .slice ha hn hc, .int .i64 cf, .int .i64 rg, .slice ca cn cc, .slice ma mn mc]] w fun e w' => e = .returned (.bool (lastB (cf, rg, cl, ml))) ∧ Below w.heap.size w w' := by
  have hcr := K.c.room
  have hcc := K.c.cap
  obtain ⟨q, rfl⟩ : ∃ q, cn = q + 1 := ⟨cn - 1, by omega⟩
  obtain ⟨b, o, kd, r, ra, rb, k, xa, xn, xc, args, cost, mt, pc', rfl, hx, c0, -, -, -, -, -, -, -, -, -⟩ := ir_at K.c q (by omega)
  have z0 := lt_of_cell c0
  have E : Hid (lastB (cf, rg, cl, ml) = decide (kd = 4 ∨ kd = 8)) := hid (by
    unfold lastB
    have : cl.length - 1 = q := by have := K.c.len; omega
    simp only [this, List.getD_eq_getElem?_getD, hx]
    rfl)
  clear K hx
  by_cases h4 : kd = 4
  · subst h4
    go_enter Tryz.func31, Tryz.ntmps31
    go_wp2_with fail
    go_ret
    exact ⟨ret_bool (by rw [E.out]; simp), by go_grown⟩
  · have h4' : (kd == 4) = false := by simpa using h4
    go_enter Tryz.func31, Tryz.ntmps31
    go_wp2_with fail
    go_ret
    exact ⟨ret_bool (by rw [E.out, Bool.eq_iff_iff]; simp [h4]), by go_grown⟩

end Go.Proofs.YtfnfbebkeoilfaaGreatDoor
