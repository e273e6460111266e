/- Package calls: what the table of a verified program tells (IsFunc, Func, Height, Runs, IsCall, Waits). -/
import Derived.Test.YtfnfbebkeoilfaaGreatDoorCallsA
import Derived.Test.YtfnfbebkeoilfaaGreatDoorJ6b
import Derived.Deep.RegionHeld3
namespace Go.Proofs.YtfnfbebkeoilfaaGreatDoor
open Go.RowKit
set_option linter.unusedVariables false

theorem reached_eq {ps : List Fn} {f q : Nat} (hv : verV ps = 0) (hf : f < ps.length) {hl : List Int} (e : (htsAll ps).getD f [] = hl) (hq : q < hl.length) : heightV ps (f : Int) (q : Int) = hl.getD q 0 := by
  rw [htsAll_at hf] at e
  rw [height_at (ver_at hv hf) (by rw [e]; exact hq), e]
theorem reached_off {ps : List Fn} {f : Nat} {x : Int} (hf : f < ps.length) {hl : List Int} (e : (htsAll ps).getD f [] = hl) (hq : x < 0 ∨ (hl.length : Int) ≤ x) : reachedB ps (f : Int) x = false := by
  rw [htsAll_at hf] at e
  unfold reachedB
  rw [height_out (by rw [e]; simp [inB]; omega)]
  rfl
/-- A field of a function by value. -/
theorem Tryz.fieldArgs (x y : Int) (a : Option Addr) (n c : Nat) (w : World) : (Instr.field 65 (.agg #[.int .i64 x, .int .i64 y, .slice a n c]) 0).run Tryz.prog w = .ok (.int .i64 x) w := by kernel_rfl
theorem Tryz.fieldLocals (x y : Int) (a : Option Addr) (n c : Nat) (w : World) : (Instr.field 65 (.agg #[.int .i64 x, .int .i64 y, .slice a n c]) 1).run Tryz.prog w = .ok (.int .i64 y) w := by kernel_rfl
/-- A height that is told. -/
def hgtV (ps : List Fn) (fn pc : Int) : Int := if reachedB ps fn pc = true then heightV ps fn pc else 0
/-- May a call with so many locals, and so many on its stack, be about to do what is at pc? -/
def runB (ps : List Fn) (fn pc : Int) (ln sn : Int) : Bool := reachedB ps fn pc && (decide (ln = (ps.getD fn.toNat noFn).2.1) && decide (sn = heightV ps fn pc))
def isCallB (ps : List Fn) (fn pc called : Int) : Bool := reachedB ps fn pc && decide (insAt (ps.getD fn.toNat noFn).2.2 pc.toNat = (14, called))
theorem reached_small {ps : List Fn} {fn : Int} {q : Nat} (h : 0 ≤ heightV ps fn (q : Int)) : q < 64 := by
  obtain ⟨f, q', rfl, e, hf, hq, he, _, _⟩ := reached_in h
  have : q = q' := by omega
  subst this
  have hpk := (hts_ok he).1
  generalize e3 : ps.getD f noFn = F at hq
  obtain ⟨fx, fy, fl⟩ := F
  have hvf := fnB_bd (fnB_of hpk hf e3)
  have hq' : q < fl.length := hq
  omega
theorem ret_hgt {a a' : Int} {b b' : Bool} (h : a = a') (k : b = b') : Ending.returned (.tuple #[.int .i64 a, .bool b]) = .returned (.tuple #[.int .i64 a', .bool b']) := by rw [h, k]
theorem hgt_no {ps : List Fn} {fn pc : Int} (h : reachedB ps fn pc = false) : hgtV ps fn pc = 0 := by unfold hgtV; rw [h]; rfl
theorem hgt_yes {ps : List Fn} {fn pc : Int} (h : reachedB ps fn pc = true) : hgtV ps fn pc = heightV ps fn pc := by unfold hgtV; rw [if_pos h]

set_option maxHeartbeats 1000000 in
theorem isFunc_any (pa : Option Addr) (pn pc : Nat) (ha : Option Addr) (hn hc : Nat) (fn : Int) (w : World) (hr : pn * 40 ≤ 140737488351232) :
    Calls Tryz.prog 29 #[.agg #[.slice pa pn pc, .slice ha hn hc], .int .i64 fn] w fun e w' => e = .returned (.bool (inB pn fn)) ∧ Below w.heap.size w w' := by
  by_cases h0 : 0 ≤ fn
  · by_cases h1 : fn < (pn : Int)
    · have E : Hid (inB pn fn = true) := hid (by simp [inB]; omega)
      go_enter Tryz.func29, Tryz.ntmps29
      go_wp2_with fail
      go_ret
      exact ⟨ret_bool E.out.symm, by go_grown⟩
    · have E : Hid (inB pn fn = false) := hid (by simp [inB]; omega)
      go_enter Tryz.func29, Tryz.ntmps29
      go_wp2_with fail
      go_ret
      exact ⟨ret_bool E.out.symm, by go_grown⟩
  · have E : Hid (inB pn fn = false) := hid (by simp [inB]; omega)
    go_enter Tryz.func29, Tryz.ntmps29
    go_wp2_with fail
    go_ret
    exact ⟨ret_bool E.out.symm, by go_grown⟩

set_option maxHeartbeats 1000000 in
theorem tabFunc_any (pa : Option Addr) (pn pc : Nat) (ha : Option Addr) (hn hc : Nat) (ps : List Fn) (f : Nat) (w : World) (hp : Fns w pa pn pc ps) (hf : f < pn) :
    Calls Tryz.prog 49 #[.agg #[.slice pa pn pc, .slice ha hn hc], .int .i64 (f : Int)] w fun e w' => ∃ x y fa fn fc fl, e = .returned (.agg #[.int .i64 x, .int .i64 y, .slice fa fn fc]) ∧ ps.getD f noFn = (x, y, fl) ∧ Inss w fa fn fc fl ∧ Below w.heap.size w w' := by
  have hpr := hp.room
  have hpc := hp.cap
  obtain ⟨b0, o0, x, y, fa, fn, fc, fl, rfl, e3, d0, d1, d2, i3⟩ := hp.at f hf
  have z0 := lt_of_cell d0
  have z1 := lt_of_cell d1
  have z2 := lt_of_cell d2
  have E := hid (And.intro e3 i3)
  clear e3 i3 hp
  go_enter Tryz.func49, Tryz.ntmps49
  go_wp2_with fail
  refine bodyPost_ret (v := .agg #[.int .i64 x, .int .i64 y, .slice fa fn fc]) (by simp [results, Tryz.results49, go_sem]) rfl ⟨x, y, fa, fn, fc, fl, rfl, E.out.1, E.out.2, ?_⟩
  go_grown

set_option maxRecDepth 100000 in
set_option maxHeartbeats 4000000 in
theorem tabHeight_any (pa : Option Addr) (pn pc : Nat) (ha : Option Addr) (hn hc : Nat) (ps : List Fn) (fn x : Int) (w : World) (hp : Fns w pa pn pc ps) (hh : Hts w ha hn hc (htsAll ps)) (hv : verV ps = 0) :
    Calls Tryz.prog 84 #[.agg #[.slice pa pn pc, .slice ha hn hc], .int .i64 fn, .int .i64 x] w fun e w' => e = .returned (.tuple #[.int .i64 (hgtV ps fn x), .bool (reachedB ps fn x)]) ∧ Below w.heap.size w w' := by
  have LP := hid hp.len
  have L : Hid (hn = ps.length) := hid (by rw [hh.len, htsAll_len])
  have hpr := hp.room
  have hr := hh.room
  have hcp := hh.cap
  have HV := hid hv
  have HH := hid hh
  clear hv hp hh
  go_enter Tryz.func84, Tryz.ntmps84
  go_wp2_with fail
  refine (isFunc_any _ _ _ _ _ _ _ _ hpr).mono ?_
  rintro e U ⟨rfl, bU⟩
  have B : Hid (Below w.heap.size w U) := hid (kt (by go_grown) bU)
  have p0 := kept_cell bU (b := w.heap.size) (o := 0) (v := .slice pa pn pc) (by simp [go_sem])
  have p1 := kept_cell bU (b := w.heap.size) (o := 1) (v := .slice ha hn hc) (by simp [go_sem])
  clear bU
  by_cases h0 : 0 ≤ fn ∧ fn < (pn : Int)
  rotate_left
  · have E : Hid (reachedB ps fn x = false) := hid (by unfold reachedB; rw [reached_out (by have := LP.out; omega)]; rfl)
    have E2 : inB pn fn = false := by simp [inB]; omega
    rw [E2]
    clear E2
    go_wp2_with fail
    go_ret2
    exact ⟨ret_hgt (hgt_no E.out).symm E.out.symm, B.out⟩
  have E2 : inB pn fn = true := by simp [inB]; omega
  rw [E2]
  clear E2
  obtain ⟨f, rfl⟩ : ∃ f : Nat, fn = f := ⟨fn.toNat, by omega⟩
  have hf : f < ps.length := by rw [← LP.out]; omega
  have h1 : f < hn := by rw [L.out]; exact hf
  obtain ⟨b0, o0, a1, n1, c1, rfl, d0, i1⟩ := (HH.out.kept B.out).at f h1
  generalize hg : (htsAll ps).getD f [] = hl at i1
  have HG := hid hg
  have L1 := hid i1.len
  have hr1 := i1.room
  have hc1 := i1.cap
  have i1' := hid i1
  clear hg i1 h0
  by_cases h2 : x < 0
  · have E : Hid (reachedB ps (f : Int) x = false) := hid (reached_off hf HG.out (.inl h2))
    go_wp2_with fail
    go_ret2
    exact ⟨ret_hgt (hgt_no E.out).symm E.out.symm, B.out⟩
  obtain ⟨q, rfl⟩ : ∃ q : Nat, x = q := ⟨x.toNat, by omega⟩
  by_cases h3 : q < n1
  rotate_left
  · have E : Hid (reachedB ps (f : Int) (q : Int) = false) := hid (reached_off hf HG.out (.inr (by have := L1.out; omega)))
    go_wp2_with fail
    go_ret2
    exact ⟨ret_hgt (hgt_no E.out).symm E.out.symm, B.out⟩
  obtain ⟨b2, o2, rfl, r2⟩ := i1'.out.row (by omega)
  have c2 := r2 q h3
  have E : Hid (reachedB ps (f : Int) (q : Int) = decide (0 ≤ hl.getD q 0) ∧ heightV ps (f : Int) (q : Int) = hl.getD q 0) := hid (by
    have e := reached_eq HV.out hf HG.out (by rw [← L1.out]; exact h3)
    exact ⟨by unfold reachedB; rw [e], e⟩)
  generalize hl.getD q 0 = y at c2 E
  clear r2
  by_cases hy : y < 0
  · have E3 : Hid (reachedB ps (f : Int) (q : Int) = false) := hid (by rw [E.out.1]; simp; omega)
    go_wp2_with fail
    go_ret2
    exact ⟨ret_hgt (hgt_no E3.out).symm E3.out.symm, B.out⟩
  · have E3 : Hid (reachedB ps (f : Int) (q : Int) = true) := hid (by rw [E.out.1]; simp; omega)
    go_wp2_with fail
    go_ret2
    exact ⟨ret_hgt ((hgt_yes E3.out).trans E.out.2).symm E3.out.symm, B.out⟩

set_option maxRecDepth 100000 in
set_option maxHeartbeats 4000000 in
theorem tabRuns_any (pa : Option Addr) (pn pc : Nat) (ha : Option Addr) (hn hc : Nat) (ps : List Fn) (fn x ln sn : Int) (w : World) (hp : Fns w pa pn pc ps) (hh : Hts w ha hn hc (htsAll ps)) (hv : verV ps = 0) :
    Calls Tryz.prog 66 #[.agg #[.slice pa pn pc, .slice ha hn hc], .int .i64 fn, .int .i64 x, .int .i64 ln, .int .i64 sn] w fun e w' => e = .returned (.bool (runB ps fn x ln sn)) ∧ Below w.heap.size w w' := by
  have LP := hid hp.len
  have hpr := hp.room
  have hpc := hp.cap
  have HP := hid hp
  have HH := hid hh
  have HV := hid hv
  clear hv hp hh
  go_enter Tryz.func66, Tryz.ntmps66
  go_wp2_with fail
  refine (tabHeight_any _ _ _ _ _ _ ps fn x _ (HP.out.kept (by go_grown)) (HH.out.kept (by go_grown)) HV.out).mono ?_
  rintro e U ⟨rfl, bU⟩
  have B : Hid (Below w.heap.size w U) := hid (kt (by go_grown) bU)
  have p0 := kept_cell bU (b := w.heap.size) (o := 0) (v := .slice pa pn pc) (by simp [go_sem])
  clear bU
  cases hrb : reachedB ps fn x
  · have E : Hid (runB ps fn x ln sn = false) := hid (by unfold runB; rw [hrb]; rfl)
    rw [hgt_no hrb]
    clear hrb
    go_wp2_with fail
    go_ret
    exact ⟨ret_bool E.out.symm, B.out⟩
  · have hh0 : 0 ≤ heightV ps fn x := by simpa [reachedB] using hrb
    rw [hgt_yes hrb]
    obtain ⟨f, q, rfl, rfl, hf, _, _, _, _⟩ := reached_in hh0
    have hfn : f < pn := by rw [LP.out]; exact hf
    obtain ⟨b0, o0, gx, gy, fa, fn, fc, fl, rfl, e3, d0, d1, d2, i3⟩ := (HP.out.kept B.out).at f hfn
    have E : Hid (runB ps (f : Int) (q : Int) ln sn = (decide (ln = gy) && decide (sn = heightV ps (f : Int) (q : Int)))) := hid (by unfold runB; rw [hrb, Int.toNat_natCast, e3]; rfl)
    generalize heightV ps (f : Int) (q : Int) = H at E
    clear hh0 hrb e3 d0 d2 i3 hf
    by_cases e1 : ln = gy
    · subst e1
      by_cases e2 : sn = H
      · subst e2
        go_wp2_with fail
        go_ret
        exact ⟨ret_bool (by rw [E.out]; simp), B.out⟩
      · have e2' : (sn == H) = false := by simpa using e2
        go_wp2_with fail
        go_ret
        exact ⟨ret_bool (by rw [E.out]; simp [e2]), B.out⟩
    · have e1' : (ln == gy) = false := by simpa using e1
      go_wp2_with fail
      go_ret
      exact ⟨ret_bool (by rw [E.out]; simp [e1]), B.out⟩

set_option maxRecDepth 100000 in
set_option maxHeartbeats 4000000 in
theorem tabIsCall_any (pa : Option Addr) (pn pc : Nat) (ha : Option Addr) (hn hc : Nat) (ps : List Fn) (fn x called : Int) (w : World) (hp : Fns w pa pn pc ps) (hh : Hts w ha hn hc (htsAll ps)) (hv : verV ps = 0) :
    Calls Tryz.prog 86 #[.agg #[.slice pa pn pc, .slice ha hn hc], .int .i64 fn, .int .i64 x, .int .i64 called] w fun e w' => e = .returned (.bool (isCallB ps fn x called)) ∧ Below w.heap.size w w' := by
  have LP := hid hp.len
  have hpr := hp.room
  have hpc := hp.cap
  have HP := hid hp
  have HH := hid hh
  have HV := hid hv
  clear hv hp hh
  go_enter Tryz.func86, Tryz.ntmps86
  go_wp2_with fail
  refine (tabHeight_any _ _ _ _ _ _ ps fn x _ (HP.out.kept (by go_grown)) (HH.out.kept (by go_grown)) HV.out).mono ?_
  rintro e U ⟨rfl, bU⟩
  have B : Hid (Below w.heap.size w U) := hid (kt (by go_grown) bU)
  have p0 := kept_cell bU (b := w.heap.size) (o := 0) (v := .slice pa pn pc) (by simp [go_sem])
  clear bU
  cases hrb : reachedB ps fn x
  · have E : Hid (isCallB ps fn x called = false) := hid (by unfold isCallB; rw [hrb]; rfl)
    rw [hgt_no hrb]
    clear hrb
    go_wp2_with fail
    go_ret
    exact ⟨ret_bool E.out.symm, B.out⟩
  · have hh0 : 0 ≤ heightV ps fn x := by simpa [reachedB] using hrb
    rw [hgt_yes hrb]
    obtain ⟨f, q, rfl, rfl, hf, hq, _, _, _⟩ := reached_in hh0
    have hfn : f < pn := by rw [LP.out]; exact hf
    obtain ⟨b0, o0, gx, gy, fa, fn, fc, fl, rfl, e3, d0, d1, d2, i3⟩ := (HP.out.kept B.out).at f hfn
    replace hq : q < fl.length := by rw [e3] at hq; exact hq
    have hfr3 := i3.room
    have hfc3 := i3.cap
    have hqn : q < fn := by rw [i3.len]; exact hq
    obtain ⟨b7, o7, K, A, rfl, e7, c7, c8⟩ := i3.at q hqn
    have E : Hid (isCallB ps (f : Int) (q : Int) called = decide ((K, A) = (14, called))) := hid (by unfold isCallB; rw [hrb, Int.toNat_natCast, Int.toNat_natCast, e3]; unfold insAt; rw [e7]; rfl)
    generalize heightV ps (f : Int) (q : Int) = H
    clear hh0 hrb e3 d0 d1 i3 hf hq e7
    by_cases hK : K = 14
    · subst hK
      by_cases hA : A = called
      · subst hA
        go_wp2_with fail
        go_ret
        exact ⟨ret_bool (by rw [E.out]; simp), B.out⟩
      · have hA' : (A == called) = false := by simpa using hA
        go_wp2_with fail
        go_ret
        exact ⟨ret_bool (by rw [E.out]; simp [hA]), B.out⟩
    · have hK' : (K == 14) = false := by simpa using hK
      go_wp2_with fail
      go_ret
      exact ⟨ret_bool (by rw [E.out]; simp [hK]), B.out⟩

end Go.Proofs.YtfnfbebkeoilfaaGreatDoor
