/- Package prof's checks: isCount, areCounts, areArgs, isOfFunc, isOf, isVerified, May; isFunc, isCall, isBranch. Package prof's counts, in place: countOne, countArg, countCall, countBranch; what slices.Clone answers. What slices.Clone answers; package prof's copyOf. Package prof's copyOf: another profile, in memory of its own. Package prof's Called and Branched. Package prof's New. Written by prnewgen.py. The document's own Called. Written by refegen.py. -/
import Derived.Test.YtppmkoigblimmaaGreatDoorJ9a
import Derived.Test.YtppmkoigblimmaaGreatDoorNum
import Derived.Test.YtppmkoigblimmaaGreatDoorVerDev
import Derived.Test.YtppmkoigblimmaaGreatDoorJ9b
import Derived.Test.YtppmkoigblimmaaGreatDoorPair
import Derived.Laws.AppendOwnNone
import Derived.Deep.AppendLies
namespace Go.Proofs.YtppmkoigblimmaaGreatDoor
open Go.RowKit
set_option linter.unusedVariables false

def apsB (al : List Ap) (k : Int) : Bool := decide ((al.length : Int) = k) && al.all apB
theorem fpB_eq (fx fy : Int) (code : List (Int × Int)) (x : Int) (jl fl : List Int) (al : List Ap) : fpB (fx, fy, code) (x, jl, fl, al) = (cntB x && (cntsB jl code.length && (cntsB fl code.length && apsB al fx))) := by
  simp [fpB, fpHeadB, cntsB, apsB, Bool.and_assoc]
theorem apB_eq (a b c : Int) : apB (a, b, c) = (isNum a && (cntB b && cntB c)) := by simp [apB, cntsB]
theorem cntB_iff (x : Int) : cntB x = true ↔ 0 ≤ x ∧ x ≤ 1073741824 := by simp [cntB]

set_option maxHeartbeats 400000 in
theorem prIsCount_any (x : Int) (w : World) :
    Calls Tryz.prog 60 #[.int .i64 x] w fun e w' => e = .returned (.bool (cntB x)) ∧ w' = w := by
  by_cases h : 0 ≤ x
  · go_enter Tryz.func60, Tryz.ntmps60
    go_wp2
    go_ret
    exact ⟨ret_bool (by simp [cntB, h]), rfl⟩
  · have h' : x < 0 := by omega
    go_enter Tryz.func60, Tryz.ntmps60
    go_wp2
    go_ret
    exact ⟨ret_bool (by simp [cntB]; omega), rfl⟩

set_option maxHeartbeats 400000 in
theorem prNotCount_any (x : Int) (w : World) :
    Calls Tryz.prog 70 #[.int .i64 x] w fun e w' => e = .returned (.bool (!cntB x)) ∧ w' = w := by
  go_enter Tryz.func70, Tryz.ntmps70
  go_wp2_with (go_at_call 60; refine (prIsCount_any _ _).mono ?_; rintro e w' ⟨rfl, rfl⟩)
  go_ret
  exact ⟨rfl, rfl⟩

set_option maxHeartbeats 1000000 in
theorem prCounts_any (a : Option Addr) (n c : Nat) (l : List Int) (k : Int) (w : World) (h : Ints w a n c l) :
    Calls Tryz.prog 61 #[.slice a n c, .int .i64 k] w fun e w' => e = .returned (.bool (cntsB l k)) ∧ Below w.heap.size w w' := by
  have P : Hid (∀ args w, (callFunc 70 args).run Tryz.prog w = .ok (.enter 70 args) w) := enters_of Tryz.func70 (by kernel_rfl) rfl
  have L := hid h.len
  have hr := h.room
  by_cases hk : (n : Int) = k
  · have E : Hid (cntsB l k = l.all cntB) := hid (by unfold cntsB; rw [decide_eq_true (by rw [← L.out]; exact hk), Bool.and_true])
    have hk' : ((n : Int) == k) = true := by simpa using hk
    clear hk
    go_enter Tryz.func61, Tryz.ntmps61
    go_wp2_with fail
    refine (containsInts_any 70 #[] P.out (fun x => !cntB x) _ _ _ l _ h (fun x w' _ => (prNotCount_any x w').mono (by rintro e u ⟨rfl, rfl⟩; exact ⟨rfl, Below.refl _ _⟩))).mono ?_
    rintro e w1 ⟨rfl, hb⟩
    go_wp2_with fail
    go_ret
    exact ⟨ret_bool (by rw [E.out, List.all_eq_not_any_not]), hb⟩
  · have E : Hid (cntsB l k = false) := hid (by unfold cntsB; rw [decide_eq_false (by rw [← L.out]; exact hk), Bool.and_false])
    have hk' : ((n : Int) == k) = false := by simpa using hk
    clear hk
    go_enter Tryz.func61, Tryz.ntmps61
    go_wp2_with fail
    go_ret
    exact ⟨ret_bool E.out.symm, Below.refl _ _⟩

set_option maxHeartbeats 1000000 in
theorem prNotArg_any (x y z : Int) (w : World) :
    Calls Tryz.prog 72 #[.agg #[.int .i64 x, .int .i64 y, .int .i64 z]] w fun e w' => e = .returned (.bool (!apB (x, y, z))) ∧ Below w.heap.size w w' := by
  cases h1 : isNum x
  · go_enter Tryz.func72, Tryz.ntmps72
    go_wp2_with (first | (go_at_call 59; refine (isNumber_any _ _).mono ?_; rintro e w' ⟨rfl, rfl⟩) | (go_at_call 60; refine (prIsCount_any _ _).mono ?_; rintro e w' ⟨rfl, rfl⟩))
    go_ret
    exact ⟨ret_bool (by rw [apB_eq, h1]; rfl), by go_grown⟩
  · cases h2 : cntB y
    · go_enter Tryz.func72, Tryz.ntmps72
      go_wp2_with (first | (go_at_call 59; refine (isNumber_any _ _).mono ?_; rintro e w' ⟨rfl, rfl⟩) | (go_at_call 60; refine (prIsCount_any _ _).mono ?_; rintro e w' ⟨rfl, rfl⟩))
      go_ret
      exact ⟨ret_bool (by rw [apB_eq, h1, h2]; rfl), by go_grown⟩
    · go_enter Tryz.func72, Tryz.ntmps72
      go_wp2_with (first | (go_at_call 59; refine (isNumber_any _ _).mono ?_; rintro e w' ⟨rfl, rfl⟩) | (go_at_call 60; refine (prIsCount_any _ _).mono ?_; rintro e w' ⟨rfl, rfl⟩))
      go_ret
      exact ⟨ret_bool (by rw [apB_eq, h1, h2]; simp), by go_grown⟩

set_option maxHeartbeats 1000000 in
theorem indexAps_any (a : Option Addr) (n c : Nat) (l : List Ap) (w : World) (h : Sl layArgProfs 24 w a n c l) :
    Calls Tryz.prog 82 #[.slice a n c, .func (.func 72) #[] #[]] w fun e w' => ∃ r : Int, e = .returned (.int .i64 r) ∧ decide (0 ≤ r) = (!l.all apB) ∧ Below w.heap.size w w' := by
  have L := hid h.len
  have hr := h.room
  have hcp := h.cap
  go_enter Tryz.func82, Tryz.ntmps82
  go_wp2
  go_loopw [8] (fun i wr => ∃ q : Nat, q ≤ n ∧ i = .int .i64 q ∧ ((l.take q).all apB) = true ∧ Below w.heap.size w wr) (fun i _ => n - (intOf i).toNat)
  case atStart => exact ⟨0, Nat.zero_le _, rfl, by simp, by go_grown⟩
  case round =>
    obtain ⟨q, hq, rfl, ht, hb⟩ := hrel
    have HT := hid ht
    clear ht
    by_cases hlt : q < n
    · obtain ⟨b1, o1, x, y, z, rfl, e1, c0, c1, c2⟩ := ap_at (h.kept hb) q hlt
      have E1 := hid e1
      clear e1
      go_wp2_with fail
      refine (prNotArg_any _ _ _ _).mono ?_
      rintro e w1 ⟨rfl, b1'⟩
      have B := hid b1'
      clear b1'
      cases hm : apB (x, y, z)
      · have F : Hid (l.all apB = false) := hid (allP_not E1.out hm)
        go_wp2_with fail
        go_ret
        exact ⟨_, rfl, by rw [F.out]; simp, kt hb B.out⟩
      · have F : Hid ((l.take (q + 1)).all apB = true) := hid (allP_step HT.out E1.out hm)
        go_wp2_with fail
        go_roundw
        case rel => exact ⟨q + 1, by omega, by go_num, F.out, kt hb B.out⟩
        case measure => simp [intOf]; omega
    · have F : Hid (l.all apB = true) := hid (all_take_all (l := l) (p := apB) (by have := L.out; omega) HT.out)
      go_wp2
      go_ret
      exact ⟨_, rfl, by rw [F.out]; simp, hb⟩

set_option maxHeartbeats 400000 in
theorem containsAps_any (a : Option Addr) (n c : Nat) (l : List Ap) (w : World) (h : Sl layArgProfs 24 w a n c l) :
    Calls Tryz.prog 71 #[.slice a n c, .func (.func 72) #[] #[]] w fun e w' => e = .returned (.bool (!l.all apB)) ∧ Below w.heap.size w w' := by
  go_enter Tryz.func71, Tryz.ntmps71
  go_wp2_with fail
  refine (indexAps_any _ _ _ l _ h).mono ?_
  rintro e w1 ⟨r, rfl, hr, hb⟩
  have HR := hid hr
  clear hr
  go_wp2_with fail
  go_ret
  exact ⟨ret_bool HR.out, hb⟩

set_option maxHeartbeats 1000000 in
theorem prArgs_any (a : Option Addr) (n c : Nat) (l : List Ap) (k : Int) (w : World) (h : Sl layArgProfs 24 w a n c l) :
    Calls Tryz.prog 62 #[.slice a n c, .int .i64 k] w fun e w' => e = .returned (.bool (apsB l k)) ∧ Below w.heap.size w w' := by
  have L := hid h.len
  have hr := h.room
  by_cases hk : (n : Int) = k
  · have E : Hid (apsB l k = l.all apB) := hid (by unfold apsB; rw [decide_eq_true (by rw [← L.out]; exact hk), Bool.true_and])
    have hk' : ((n : Int) == k) = true := by simpa using hk
    clear hk
    go_enter Tryz.func62, Tryz.ntmps62
    go_wp2_with fail
    refine (containsAps_any _ _ _ l _ h).mono ?_
    rintro e w1 ⟨rfl, hb⟩
    go_wp2_with fail
    go_ret
    exact ⟨ret_bool (by rw [E.out]), hb⟩
  · have E : Hid (apsB l k = false) := hid (by unfold apsB; rw [decide_eq_false (by rw [← L.out]; exact hk), Bool.false_and])
    have hk' : ((n : Int) == k) = false := by simpa using hk
    clear hk
    go_enter Tryz.func62, Tryz.ntmps62
    go_wp2_with fail
    go_ret
    exact ⟨ret_bool E.out.symm, Below.refl _ _⟩

set_option maxHeartbeats 2000000 in
theorem prOfFunc_any (fx fy : Int) (ca : Option Addr) (cn cc : Nat) (code : List (Int × Int)) (x : Int) (ja : Option Addr) (jn jc : Nat) (jl : List Int) (fa : Option Addr) (fn fc : Nat) (fl : List Int) (aa : Option Addr) (an ac : Nat) (al : List Ap) (w : World)
    (hcode : Inss w ca cn cc code) (hj : Ints w ja jn jc jl) (hf : Ints w fa fn fc fl) (ha : Sl layArgProfs 24 w aa an ac al) :
    Calls Tryz.prog 50 #[.agg #[.int .i64 fx, .int .i64 fy, .slice ca cn cc], .agg #[.int .i64 x, .slice ja jn jc, .slice fa fn fc, .slice aa an ac]] w fun e w' => e = .returned (.bool (fpB (fx, fy, code) (x, jl, fl, al))) ∧ Below w.heap.size w w' := by
  have E := hid (fpB_eq fx fy code x jl fl al)
  have hcn := hcode.room
  have hcc := hcode.cap
  have CL := hid hcode.len
  have HJ := hid hj
  have HF := hid hf
  have HA := hid ha
  clear hcode hj hf ha
  have W2 : Hid (∃ U : World, U = (w.alloc (.cells #[.int .i64 fx, .int .i64 fy, .slice ca cn cc] 48)).alloc (.cells #[.int .i64 x, .slice ja jn jc, .slice fa fn fc, .slice aa an ac] 51)) := hid ⟨_, rfl⟩
  obtain ⟨w2, hw2⟩ := W2.out
  have B2 : Hid (Below w.heap.size w w2) := hid (by rw [hw2]; go_grown)
  have h0 : w2.heap[w.heap.size]? = some (.cells #[.int .i64 fx, .int .i64 fy, .slice ca cn cc] 48) := by rw [hw2]; rw [heap_alloc_old _ _ (by simp)]; exact heap_alloc_new _ _
  have h1 : w2.heap[w.heap.size + 1]? = some (.cells #[.int .i64 x, .slice ja jn jc, .slice fa fn fc, .slice aa an ac] 51) := by rw [hw2]; have := heap_alloc_new (w.alloc (.cells #[.int .i64 fx, .int .i64 fy, .slice ca cn cc] 48)) (.cells #[.int .i64 x, .slice ja jn jc, .slice fa fn fc, .slice aa an ac] 51); simpa using this
  have H0 := hid h0
  have H1 := hid h1
  have E2 := hid hw2
  clear h0 h1 hw2 W2
  go_enter Tryz.func50, Tryz.ntmps50
  go_wp2_with fail
  refine calls_inU (U := w2) (by rw [E2.out]) ?_
  refine (prIsCount_any _ _).mono ?_
  rintro e w' ⟨rfl, rfl⟩
  clear E2
  have f2 := (cell_of_heap (j := 2) H0.out rfl).1
  have f0 := (cell_of_heap (j := 0) H0.out rfl).1
  have p1 := (cell_of_heap (j := 1) H1.out rfl).1
  cases k1 : cntB x
  · go_wp2_with fail
    go_ret
    exact ⟨ret_bool (by rw [E.out, k1]; rfl), B2.out⟩
  go_wp2_with fail
  refine (prCounts_any _ _ _ jl _ _ (HJ.out.kept B2.out)).mono ?_
  rintro e w3 ⟨rfl, b3⟩
  have B3 := hid (kt B2.out b3)
  have H30 := hid (heap_kept H0.out b3)
  have H31 := hid (heap_kept H1.out b3)
  clear f2 f0 p1 b3
  have f2 := (cell_of_heap (j := 2) H30.out rfl).1
  have p2 := (cell_of_heap (j := 2) H31.out rfl).1
  have CE : (cn : Int) = (code.length : Int) := by rw [CL.out]
  have CEh := hid CE
  clear CE
  cases k2 : cntsB jl cn
  · go_wp2_with fail
    go_ret
    exact ⟨ret_bool (by rw [E.out, k1, ← CEh.out, k2]; rfl), B3.out⟩
  go_wp2_with fail
  refine (prCounts_any _ _ _ fl _ _ (HF.out.kept B3.out)).mono ?_
  rintro e w4 ⟨rfl, b4⟩
  have B4 := hid (kt B3.out b4)
  have H40 := hid (heap_kept H30.out b4)
  have H41 := hid (heap_kept H31.out b4)
  clear f2 p2 b4
  have f0 := (cell_of_heap (j := 0) H40.out rfl).1
  have p3 := (cell_of_heap (j := 3) H41.out rfl).1
  cases k3 : cntsB fl cn
  · go_wp2_with fail
    go_ret
    exact ⟨ret_bool (by rw [E.out, k1, ← CEh.out, k2, k3]; rfl), B4.out⟩
  go_wp2_with fail
  refine (prArgs_any _ _ _ al _ _ (HA.out.kept B4.out)).mono ?_
  rintro e w5 ⟨rfl, b5⟩
  have B5 := hid (kt B4.out b5)
  clear b5 f0 p3
  go_wp2_with fail
  go_ret
  exact ⟨ret_bool (by rw [E.out, k1, ← CEh.out, k2, k3]; simp), B5.out⟩

set_option maxHeartbeats 2000000 in
theorem equalFuncs_any (pa : Option Addr) (pn pc : Nat) (ps : List Fn) (ra : Option Addr) (rn rc : Nat) (l : List Fp) (w : World) (hp : Fns w pa pn pc ps) (h : Sl layFp 80 w ra rn rc l) :
    Calls Tryz.prog 49 #[.slice pa pn pc, .slice ra rn rc, .func (.func 50) #[] #[]] w fun e w' => e = .returned (.bool (decide (l.length = ps.length) && fpsB ps l l.length)) ∧ Below w.heap.size w w' := by
  have LP := hid hp.len
  have LR := hid h.len
  have hpr := hp.room
  have hpc := hp.cap
  have hrr := h.room
  have hrc := h.cap
  have HP := hid hp
  have HR := hid h
  clear hp h
  by_cases hn : pn = rn
  · subst hn
    have hE : Hid (decide (l.length = ps.length) = true) := hid (decide_eq_true (by rw [← LP.out, ← LR.out]))
    go_enter Tryz.func49, Tryz.ntmps49
    go_wp2_with fail
    go_loopw [17] (fun i wr => ∃ q : Nat, q ≤ pn ∧ i = .int .i64 q ∧ fpsB ps l q = true ∧ Below w.heap.size w wr) (fun i _ => pn - (intOf i).toNat)
    case atStart => exact ⟨0, Nat.zero_le _, rfl, rfl, Below.refl _ _⟩
    case round =>
      obtain ⟨q, hq, rfl, ht, hb⟩ := hrel
      have HT := hid ht
      clear ht
      by_cases hlt : q < pn
      · obtain ⟨b1, o1, fx, fy, a1, n1, m1, code, rfl, e1, c0, c1, c2, i1⟩ := (HP.out.kept hb).at q hlt
        obtain ⟨b2, o2, x, ja, jn, jc, jl, fa, fn, fc, fl, aa, an, ac, al, rfl, hx, d0, d1, d2, d3, i2, i3, i4⟩ := fp_at (HR.out.kept hb) q hlt
        have E1 := hid e1
        have EX := hid (getD_of_at (d := noFp) hx)
        have HB := hid hb
        have I1 := hid i1
        have I2 := hid i2
        have I3 := hid i3
        have I4 := hid i4
        clear e1 hx i1 i2 i3 i4
        have hA1 : Below wr.heap.size wr (wr.alloc (.cells #[.int .i64 fx, .int .i64 fy, .slice a1 n1 m1] 48)) := Below.alloc (Below.refl _ _) (Nat.le_refl _) _
        have d0' := kept_cell hA1 d0
        have d1' := kept_cell hA1 d1
        have d2' := kept_cell hA1 d2
        have d3' := kept_cell hA1 d3
        clear hA1
        go_wp2_with fail
        have BA : Hid (Below wr.heap.size wr ((wr.alloc (.cells #[.int .i64 fx, .int .i64 fy, .slice a1 n1 m1] 48)).alloc (.cells #[.int .i64 x, .slice ja jn jc, .slice fa fn fc, .slice aa an ac] 51))) := hid (by go_grown)
        refine (prOfFunc_any _ _ _ _ _ code _ _ _ _ jl _ _ _ fl _ _ _ al _ (I1.out.kept BA.out) (I2.out.kept BA.out) (I3.out.kept BA.out) (I4.out.kept BA.out)).mono ?_
        rintro e w1 ⟨rfl, b1'⟩
        have B := hid (kt hb (kt BA.out b1'))
        clear b1' BA
        have FE : Hid (fpB (ps.getD q noFn) (l.getD q noFp) = fpB (fx, fy, code) (x, jl, fl, al)) := hid (by rw [E1.out, EX.out])
        cases hm : fpB (fx, fy, code) (x, jl, fl, al)
        · have F : Hid (fpsB ps l l.length = false) := hid (fpsB_not (by rw [← LR.out]; exact hlt) (FE.out.trans hm))
          clear hb
          go_wp2_with fail
          go_ret
          exact ⟨ret_bool (by rw [F.out]; simp), B.out⟩
        · have F : Hid (fpsB ps l (q + 1) = true) := hid (fpsB_step HT.out (FE.out.trans hm))
          clear hb
          go_wp2_with fail
          go_roundw
          case rel => exact ⟨q + 1, by omega, by go_num, F.out, B.out⟩
          case measure => simp [intOf]; omega
      · have hqn : q = pn := by omega
        subst hqn
        have F : Hid (fpsB ps l l.length = true) := hid (by rw [← LR.out]; exact HT.out)
        go_wp2_with fail
        go_ret
        exact ⟨ret_bool (by rw [F.out, hE.out]; rfl), hb⟩
  · have hE : Hid (decide (l.length = ps.length) = false) := hid (decide_eq_false (by rw [← LP.out, ← LR.out]; omega))
    have hn' : ((pn : Int) == (rn : Int)) = false := by simp; omega
    have hn2 : ((pn : Int) != (rn : Int)) = true := by simp; omega
    clear hn
    go_enter Tryz.func49, Tryz.ntmps49
    go_wp2_with fail
    go_ret
    exact ⟨ret_bool (by rw [hE.out]; rfl), Below.refl _ _⟩

set_option maxHeartbeats 400000 in
theorem prVerified_any (pa : Option Addr) (pn pc : Nat) (ps : List Fn) (w : World) (hp : Fns w pa pn pc ps) (ld : Ld w) :
    Calls Tryz.prog 21 #[.agg #[.slice pa pn pc]] w fun e w' => e = .returned (.bool (decide (verV ps = 0))) ∧ Below w.heap.size w w' := by
  have hA : Below w.heap.size w (w.alloc (.cells #[.slice pa pn pc] 24)) := Below.alloc (Below.refl _ _) (Nat.le_refl _) _
  have HV := hid (verProgram pa pn pc ps _ (hp.kept hA) (ld.up hA))
  have A := hid hA
  generalize verV ps = V at HV ⊢
  clear hA
  go_enter Tryz.func21, Tryz.ntmps21
  go_wp2_with fail
  refine HV.out.mono ?_
  rintro e w1 ⟨rfl, b1⟩
  have B := hid (kt A.out b1)
  clear b1
  go_wp2_with fail
  go_ret
  exact ⟨ret_bool rfl, B.out⟩

set_option maxHeartbeats 400000 in
theorem prIsOf_any (pa : Option Addr) (pn pc : Nat) (ps : List Fn) (ra : Option Addr) (rn rc : Nat) (l : List Fp) (w : World) (hp : Fns w pa pn pc ps) (h : Sl layFp 80 w ra rn rc l) :
    Calls Tryz.prog 33 #[.agg #[.slice pa pn pc], .agg #[.slice ra rn rc]] w fun e w' => e = .returned (.bool (decide (l.length = ps.length) && fpsB ps l l.length)) ∧ Below w.heap.size w w' := by
  have BA : Hid (Below w.heap.size w ((w.alloc (.cells #[.slice pa pn pc] 24)).alloc (.cells #[.slice ra rn rc] 27))) := hid (by go_grown)
  have HE := hid (equalFuncs_any pa pn pc ps ra rn rc l _ (hp.kept BA.out) (h.kept BA.out))
  clear hp h
  go_enter Tryz.func33, Tryz.ntmps33
  go_wp2_with fail
  refine HE.out.mono ?_
  rintro e w1 ⟨rfl, b1⟩
  have B := hid (kt BA.out b1)
  clear b1
  go_wp2_with fail
  go_ret
  exact ⟨rfl, B.out⟩

set_option maxHeartbeats 1000000 in
theorem prMay_any (pa : Option Addr) (pn pc : Nat) (ps : List Fn) (ra : Option Addr) (rn rc : Nat) (l : List Fp) (w : World) (hp : Fns w pa pn pc ps) (h : Sl layFp 80 w ra rn rc l) (ld : Ld w) :
    Calls Tryz.prog 16 #[.agg #[.slice pa pn pc], .agg #[.slice ra rn rc]] w fun e w' => e = .returned (.bool (profB ps l)) ∧ Below w.heap.size w w' := by
  have hA : Below w.heap.size w ((w.alloc (.cells #[.slice pa pn pc] 24)).alloc (.cells #[.slice ra rn rc] 27)) := by go_grown
  have BA := hid hA
  have HV := hid (prVerified_any pa pn pc ps _ (hp.kept hA) (ld.up hA))
  have HP := hid hp
  have HR := hid h
  have H0 : Hid (((w.alloc (.cells #[.slice pa pn pc] 24)).alloc (.cells #[.slice ra rn rc] 27)).cell? ⟨w.heap.size, 0, none⟩ = some (.slice pa pn pc)) := hid (by simp [go_sem])
  have H1 : Hid (((w.alloc (.cells #[.slice pa pn pc] 24)).alloc (.cells #[.slice ra rn rc] 27)).cell? ⟨w.heap.size + 1, 0, none⟩ = some (.slice ra rn rc)) := hid (by simp [go_sem])
  clear hA hp h
  have E : Hid (profB ps l = (decide (verV ps = 0) && (decide (l.length = ps.length) && fpsB ps l l.length))) := hid rfl
  generalize profB ps l = PB at E ⊢
  generalize decide (verV ps = 0) = V at HV E
  go_enter Tryz.func16, Tryz.ntmps16
  go_wp2_with fail
  refine HV.out.mono ?_
  rintro e w1 ⟨rfl, b1⟩
  have B := hid (kt BA.out b1)
  have c0 := kept_cell b1 H0.out
  have c1 := kept_cell b1 H1.out
  clear b1
  cases V
  · go_wp2_with fail
    go_ret
    exact ⟨ret_bool (by rw [E.out]; rfl), B.out⟩
  · go_wp2_with fail
    refine (prIsOf_any _ _ _ ps _ _ _ l _ (HP.out.kept B.out) (HR.out.kept B.out)).mono ?_
    rintro e w2 ⟨rfl, b2⟩
    have B' := hid (kt B.out b2)
    clear b2 c0 c1
    go_wp2_with fail
    go_ret
    exact ⟨ret_bool (by rw [E.out]; simp), B'.out⟩

set_option maxHeartbeats 1000000 in
theorem prIsFunc_any (pa : Option Addr) (pn pc : Nat) (fn : Int) (w : World) (hp : pn * 40 ≤ 140737488351232) :
    Calls Tryz.prog 42 #[.agg #[.slice pa pn pc], .int .i64 fn] w fun e w' => e = .returned (.bool (inB pn fn)) ∧ Below w.heap.size w w' := by
  by_cases h : 0 ≤ fn
  · by_cases h2 : fn < (pn : Int)
    · go_enter Tryz.func42, Tryz.ntmps42
      go_wp2
      go_ret
      exact ⟨ret_bool (by simp [inB, h, h2]), by go_grown⟩
    · go_enter Tryz.func42, Tryz.ntmps42
      go_wp2
      go_ret
      exact ⟨ret_bool (by simp [inB, h2]), by go_grown⟩
  · have h' : fn < 0 := by omega
    go_enter Tryz.func42, Tryz.ntmps42
    go_wp2
    go_ret
    exact ⟨ret_bool (by simp [inB]; omega), by go_grown⟩

/-- Is it a call that may be told of? -/
def tellB (ps : List Fn) (fn : Int) (args : List Int) : Bool := inB ps.length fn && (decide ((args.length : Int) = (ps.getD fn.toNat noFn).1) && numsB args)
def placeB (ps : List Fn) (fn pc : Int) : Bool := inB ps.length fn && (inB (ps.getD fn.toNat noFn).2.2.length pc && decide ((insAt (ps.getD fn.toNat noFn).2.2 pc.toNat).1 = 13))

set_option maxHeartbeats 2000000 in
theorem prIsCall_any (pa : Option Addr) (pn pc : Nat) (ps : List Fn) (fn : Int) (aa : Option Addr) (an ac : Nat) (args : List Int) (w : World) (hp : Fns w pa pn pc ps) (ha : Ints w aa an ac args) :
    Calls Tryz.prog 23 #[.agg #[.slice pa pn pc], .int .i64 fn, .slice aa an ac] w fun e w' => e = .returned (.bool (tellB ps fn args)) ∧ Below w.heap.size w w' := by
  have LP := hid hp.len
  have LA := hid ha.len
  have hpr := hp.room
  have hpc := hp.cap
  have har := ha.room
  have HA := hid ha
  have HP := hid hp
  have E : Hid (tellB ps fn args = (inB pn fn && (decide ((an : Int) = (ps.getD fn.toNat noFn).1) && numsB args))) := hid (by unfold tellB; rw [← LP.out, ← LA.out])
  generalize tellB ps fn args = CB at E ⊢
  have hA : Below w.heap.size w (w.alloc (.cells #[.slice pa pn pc] 24)) := Below.alloc (Below.refl _ _) (Nat.le_refl _) _
  have c0 : (w.alloc (.cells #[.slice pa pn pc] 24)).cell? ⟨w.heap.size, 0, none⟩ = some (.slice pa pn pc) := by simp [go_sem]
  have C0 := hid c0
  have A := hid hA
  clear hA ha hp c0
  go_enter Tryz.func23, Tryz.ntmps23
  go_wp2_with fail
  refine (prIsFunc_any _ _ _ _ _ hpr).mono ?_
  rintro e w1 ⟨rfl, b1⟩
  have B1 := hid (kt A.out b1)
  have c1 := kept_cell b1 C0.out
  clear b1
  cases hi : inB pn fn
  · go_wp2_with fail
    go_ret
    exact ⟨ret_bool (by rw [E.out, hi]; rfl), B1.out⟩
  have hi' : 0 ≤ fn ∧ fn < (pn : Int) := by simpa [inB] using hi
  obtain ⟨h0, h1⟩ := hi'
  obtain ⟨k, rfl⟩ := Int.eq_ofNat_of_zero_le h0
  obtain ⟨b, o, fx, fy, a1, n1, m1, code, rfl, e1, d0, d1, d2, i1⟩ := (HP.out.kept B1.out).at k (by omega)
  have E1 : Hid ((ps.getD (k : Int).toNat noFn).1 = fx) := hid (by rw [Int.toNat_natCast, e1])
  clear e1 d1 d2 i1
  by_cases hx : (an : Int) = fx
  · have hx' : ((an : Int) == fx) = true := by simpa using hx
    have hD : Hid (decide ((an : Int) = fx) = true) := hid (decide_eq_true hx)
    clear hx
    go_wp2_with fail
    refine (areNumbers_any _ _ _ args _ (HA.out.kept B1.out)).mono ?_
    rintro e w2 ⟨rfl, b2⟩
    have B2 := hid (kt B1.out b2)
    clear b2
    go_wp2_with fail
    go_ret
    exact ⟨ret_bool (by rw [E.out, hi, E1.out, hD.out]; simp), B2.out⟩
  · have hx' : ((an : Int) == fx) = false := by simpa using hx
    have hD : Hid (decide ((an : Int) = fx) = false) := hid (decide_eq_false hx)
    clear hx
    go_wp2_with fail
    go_ret
    exact ⟨ret_bool (by rw [E.out, hi, E1.out, hD.out]; rfl), B1.out⟩

set_option maxHeartbeats 2000000 in
theorem prIsBranch_any (pa : Option Addr) (pn pc : Nat) (ps : List Fn) (fn at_ : Int) (w : World) (hp : Fns w pa pn pc ps) :
    Calls Tryz.prog 29 #[.agg #[.slice pa pn pc], .int .i64 fn, .int .i64 at_] w fun e w' => e = .returned (.bool (placeB ps fn at_)) ∧ Below w.heap.size w w' := by
  have LP := hid hp.len
  have hpr := hp.room
  have hpc := hp.cap
  have HP := hid hp
  have E : Hid (placeB ps fn at_ = (inB pn fn && (inB (ps.getD fn.toNat noFn).2.2.length at_ && decide ((insAt (ps.getD fn.toNat noFn).2.2 at_.toNat).1 = 13)))) := hid (by unfold placeB; rw [← LP.out])
  generalize placeB ps fn at_ = CB at E ⊢
  have hA : Below w.heap.size w (w.alloc (.cells #[.slice pa pn pc] 24)) := Below.alloc (Below.refl _ _) (Nat.le_refl _) _
  have c0 : (w.alloc (.cells #[.slice pa pn pc] 24)).cell? ⟨w.heap.size, 0, none⟩ = some (.slice pa pn pc) := by simp [go_sem]
  have C0 := hid c0
  have A := hid hA
  clear hA hp c0
  go_enter Tryz.func29, Tryz.ntmps29
  go_wp2_with fail
  refine (prIsFunc_any _ _ _ _ _ hpr).mono ?_
  rintro e w1 ⟨rfl, b1⟩
  have B1 := hid (kt A.out b1)
  have c1 := kept_cell b1 C0.out
  clear b1
  cases hi : inB pn fn
  · go_wp2_with fail
    go_ret
    exact ⟨ret_bool (by rw [E.out, hi]; rfl), B1.out⟩
  have hi' : 0 ≤ fn ∧ fn < (pn : Int) := by simpa [inB] using hi
  obtain ⟨h0, h1⟩ := hi'
  obtain ⟨k, rfl⟩ := Int.eq_ofNat_of_zero_le h0
  obtain ⟨b, o, fx, fy, a1, n1, m1, code, rfl, e1, d0, d1, d2, i1⟩ := (HP.out.kept B1.out).at k (by omega)
  have E1 : Hid ((ps.getD (k : Int).toNat noFn).2.2 = code) := hid (by rw [Int.toNat_natCast, e1])
  have LC := hid i1.len
  have hcr := i1.room
  have hcc := i1.cap
  clear e1 d1 d0
  by_cases hz : at_ < 0
  · have hB : Hid (inB code.length at_ = false) := hid (by simp [inB]; omega)
    go_wp2_with fail
    go_ret
    exact ⟨ret_bool (by rw [E.out, hi, E1.out, hB.out]; rfl), B1.out⟩
  by_cases hz2 : (n1 : Int) ≤ at_
  · have hB : Hid (inB code.length at_ = false) := hid (by have := LC.out; simp [inB]; omega)
    go_wp2_with fail
    go_ret
    exact ⟨ret_bool (by rw [E.out, hi, E1.out, hB.out]; rfl), B1.out⟩
  have hB : Hid (inB code.length at_ = true) := hid (by have := LC.out; simp [inB]; omega)
  obtain ⟨q, rfl⟩ := Int.eq_ofNat_of_zero_le (show 0 ≤ at_ by omega)
  obtain ⟨b2, o2, K, AA, rfl, e2, g1, g2⟩ := i1.at q (by omega)
  have E3 : Hid ((insAt code (q : Int).toNat).1 = K) := hid (by rw [Int.toNat_natCast, show insAt code q = (K, AA) from e2])
  clear e2 g2
  go_wp2_with fail
  go_ret
  exact ⟨ret_bool (by rw [E.out, hi, E1.out, hB.out, E3.out]; rfl), B1.out⟩

end Go.Proofs.YtppmkoigblimmaaGreatDoor

namespace Go.Proofs.YtppmkoigblimmaaGreatDoor
open Go.RowKit
set_option linter.unusedVariables false

theorem setCell_self {w : World} {p : Addr} {v : Value} (h : w.cell? p = some v) : w.setCell p v = w := by
  have e : (w.setCell p v).heap = w.heap := by
    unfold World.setCell
    simp only
    refine Array.ext_getElem? (fun i => ?_)
    rw [Array.getElem?_modify]
    split
    · rename_i hi
      subst hi
      unfold World.cell? at h
      cases hb : w.heap[p.block]? with
      | none => rfl
      | some o =>
        rw [hb] at h
        cases o with
        | cells c e f =>
          simp only at h
          split at h
          · cases h
          · rename_i hs
            rw [Option.map_some]
            simp only [if_neg hs]
            congr 2
            refine Array.ext_getElem? (fun j => ?_)
            rw [Array.getElem?_setIfInBounds]
            split
            · rename_i hj
              subst hj
              have := (Array.getElem?_eq_some_iff.1 h).1
              rw [if_pos this, h]
            · rfl
        | _ => cases h
    · rfl
  show ({ w with heap := (w.setCell p v).heap } : World) = w
  rw [e]

/-- Up to q of one list, behind it of another one. -/
def mixL {α : Type} (a b : List α) (q : Nat) : List α := a.take q ++ b.drop q
section
variable {α : Type}
theorem mixL_zero (a b : List α) : mixL a b 0 = b := by simp [mixL]
theorem mixL_full (a b : List α) (n : Nat) (ha : a.length ≤ n) (hb : b.length ≤ n) : mixL a b n = a := by simp [mixL, List.take_of_length_le ha, List.drop_of_length_le hb]
theorem mixL_at {a b : List α} {q : Nat} (ha : q ≤ a.length) : (mixL a b q)[q]? = b[q]? := by
  unfold mixL
  rw [List.getElem?_append_right (by rw [List.length_take]; omega), List.length_take, Nat.min_eq_left ha, Nat.sub_self, List.getElem?_drop, Nat.add_zero]
theorem mixL_set {a b : List α} {q : Nat} {y : α} (hy : a[q]? = some y) (hb : q < b.length) : (mixL a b q).set q y = mixL a b (q + 1) := by
  have ha := (List.getElem?_eq_some_iff.1 hy).1
  unfold mixL
  rw [List.set_append_right _ _ (by rw [List.length_take]; omega), List.length_take, Nat.min_eq_left (by omega), Nat.sub_self, List.take_add_one, hy, show b.drop q = b[q] :: b.drop (q + 1) from List.drop_eq_getElem_cons hb, List.set_cons_zero, List.append_assoc]
  rfl
theorem mixL_len {a b : List α} {q : Nat} (h : a.length = b.length) : (mixL a b q).length = b.length := by
  unfold mixL
  rw [List.length_append, List.length_take, List.length_drop]
  omega
end

set_option maxHeartbeats 400000 in
theorem prCountOne_any (b o : Nat) (x : Int) (w : World) (hc : w.cell? ⟨b, o, none⟩ = some (.int .i64 x)) (hf : w.frozen? ⟨b, o, none⟩ = false) (h0 : 0 ≤ x) (h1 : x ≤ 1073741824) :
    Calls Tryz.prog 47 #[.pointer (some ⟨b, o, none⟩)] w fun e w' => e = .returned (.tuple #[]) ∧ w' = w.setCell ⟨b, o, none⟩ (.int .i64 (moreI x)) := by
  by_cases h : x < 1073741824
  · have E : Hid (moreI x = x + 1) := hid (by unfold moreI; rw [if_pos h])
    generalize moreI x = y at E ⊢
    go_enter Tryz.func47, Tryz.ntmps47
    go_wp2_with fail
    go_end0
    exact ⟨rfl, by rw [E.out]⟩
  · have E : Hid (w.setCell ⟨b, o, none⟩ (.int .i64 (moreI x)) = w) := hid (setCell_self (by rw [hc]; unfold moreI; rw [if_neg h, show x = 1073741824 by omega]))
    go_enter Tryz.func47, Tryz.ntmps47
    go_wp2_with fail
    go_end0
    exact ⟨rfl, E.out.symm⟩

theorem ap_cells {w : World} {T g c : Nat} {B : Nat → Prop} {al : List Ap} {n : Nat} (h : OSl layArgProfs T 24 w B (.slice (some ⟨g, 0, none⟩) n c) al) {i : Nat} {x y z : Int} (hi : al[i]? = some (x, y, z)) :
    w.cell? ⟨g, i * 3, none⟩ = some (.int .i64 x) ∧ w.cell? ⟨g, i * 3 + 1, none⟩ = some (.int .i64 y) ∧ w.cell? ⟨g, i * 3 + 2, none⟩ = some (.int .i64 z) ∧ (∀ j, w.frozen? ⟨g, j, none⟩ = false) ∧
    (∀ x', OSl layArgProfs T 24 (w.setCell ⟨g, i * 3, none⟩ (.int .i64 x')) B (.slice (some ⟨g, 0, none⟩) n c) (al.set i (x', y, z))) ∧ (∀ y', OSl layArgProfs T 24 (w.setCell ⟨g, i * 3 + 1, none⟩ (.int .i64 y')) B (.slice (some ⟨g, 0, none⟩) n c) (al.set i (x, y', z))) ∧
    (∀ z', OSl layArgProfs T 24 (w.setCell ⟨g, i * 3 + 2, none⟩ (.int .i64 z')) B (.slice (some ⟨g, 0, none⟩) n c) (al.set i (x, y, z'))) := by
  obtain ⟨g', cap, cs, Bk, e, hcap, hBg, hg, hcell, hfz, ho, hB, ht, hput⟩ := h.elem i _ hi
  cases e
  obtain rfl := flatArgProfs.only ho
  refine ⟨hcell 0 _ rfl, hcell 1 _ rfl, hcell 2 _ rfl, hfz, fun x' => hput 0 _ _ (by decide) (flatArgProfs.owns _ _ (x', y, z)), fun y' => hput 1 _ _ (by decide) (flatArgProfs.owns _ _ (x, y', z)), fun z' => hput 2 _ _ (by decide) (flatArgProfs.owns _ _ (x, y, z'))⟩

set_option maxHeartbeats 2000000 in
theorem prCountArg_any (T g c n i : Nat) (B : Nat → Prop) (al : List Ap) (a s o x : Int) (w : World) (h : OSl layArgProfs T 24 w B (.slice (some ⟨g, 0, none⟩) n c) al) (hi : al[i]? = some (a, s, o)) (hs0 : 0 ≤ s) (hs1 : s ≤ 1073741824) (ho0 : 0 ≤ o) (ho1 : o ≤ 1073741824) :
    Calls Tryz.prog 48 #[.pointer (some ⟨g, i * 3, none⟩), .int .i64 x] w fun e w' => e = .returned (.tuple #[]) ∧ OSl layArgProfs T 24 w' B (.slice (some ⟨g, 0, none⟩) n c) (al.set i (tellA (a, s, o) x)) ∧ Frm (fun b => b = g) w w' := by
  obtain ⟨c0, c1, c2, hfz, p0, p1, p2⟩ := ap_cells h hi
  have f0 := hfz (i * 3)
  have f1 := hfz (i * 3 + 1)
  have f2 := hfz (i * 3 + 2)
  have H := hid h
  have HI := hid hi
  have P0 := hid p0
  have P1 := hid p1
  have P2 := hid p2
  clear h hi hfz p0 p1 p2
  by_cases hz : s = 0 ∧ o = 0
  · obtain ⟨rfl, rfl⟩ := hz
    have E : Hid (tellA (a, 0, 0) x = (x, moreI 0, 0)) := hid (by simp [tellA, moreI])
    generalize tellA (a, 0, 0) x = r at E ⊢
    go_enter Tryz.func48, Tryz.ntmps48
    go_upto_region 2 with fail
    obtain ⟨U, hU⟩ : ∃ U : World, U = w.setCell ⟨g, i * 3, none⟩ (.int .i64 x) := ⟨_, rfl⟩
    refine wp_world (U := U) hU ?_
    have o1 : OSl layArgProfs T 24 U B (.slice (some ⟨g, 0, none⟩) n c) (al.set i (x, 0, 0)) := by rw [hU]; exact P0.out x
    have F1 : Hid (Frm (fun b => b = g) w U) := hid (by rw [hU]; exact Frm.set _ rfl)
    obtain ⟨d0, d1, d2, gfz, q0, q1, q2⟩ := ap_cells o1 (getElem?_set_self' HI.out)
    have Q1 := hid q1
    have g1 := gfz (i * 3 + 1)
    clear c0 c1 c2 f0 f1 f2 hU o1 q0 q1 q2 gfz
    go_wp2_with fail
    refine (prCountOne_any _ _ _ _ d1 g1 (by omega) (by omega)).mono ?_
    rintro e w' ⟨rfl, rfl⟩
    clear d0 d1 d2 g1
    go_wp2_with fail
    go_end0
    refine ⟨rfl, ?_, F1.out.trans (Frm.set (S := fun b => b = g) _ rfl) (fun _ _ h => h)⟩
    have := Q1.out (moreI 0)
    rw [set_set'] at this
    rw [E.out]
    exact this
  · have hs : ¬ s = 0 ∨ (s = 0 ∧ ¬ o = 0) := by omega
    by_cases hx : a = x
    · subst hx
      have E : Hid (tellA (a, s, o) a = (a, moreI s, o)) := hid (by unfold tellA; simp only; rw [if_neg hz]; simp)
      generalize tellA (a, s, o) a = r at E ⊢
      clear hz
      rcases hs with hs | ⟨rfl, hs⟩
      · have hs' : (s == 0) = false := by simpa using hs
        go_enter Tryz.func48, Tryz.ntmps48
        go_wp2_with fail
        refine (prCountOne_any _ _ _ _ c1 f1 (by omega) (by omega)).mono ?_
        rintro e w' ⟨rfl, rfl⟩
        go_wp2_with fail
        go_end0
        exact ⟨rfl, by rw [E.out]; exact P1.out _, Frm.set _ rfl⟩
      · have hs' : (o == 0) = false := by simpa using hs
        go_enter Tryz.func48, Tryz.ntmps48
        go_wp2_with fail
        refine (prCountOne_any _ _ _ _ c1 f1 (by omega) (by omega)).mono ?_
        rintro e w' ⟨rfl, rfl⟩
        go_wp2_with fail
        go_end0
        exact ⟨rfl, by rw [E.out]; exact P1.out _, Frm.set _ rfl⟩
    · have E : Hid (tellA (a, s, o) x = (a, s, moreI o)) := hid (by unfold tellA; simp only; rw [if_neg hz, if_neg hx])
      generalize tellA (a, s, o) x = r at E ⊢
      have hx' : (a == x) = false := by simpa using hx
      clear hz hx
      rcases hs with hs | ⟨rfl, hs⟩
      · have hs' : (s == 0) = false := by simpa using hs
        go_enter Tryz.func48, Tryz.ntmps48
        go_wp2_with fail
        refine (prCountOne_any _ _ _ _ c2 f2 (by omega) (by omega)).mono ?_
        rintro e w' ⟨rfl, rfl⟩
        go_wp2_with fail
        go_end0
        exact ⟨rfl, by rw [E.out]; exact P2.out _, Frm.set _ rfl⟩
      · have hs' : (o == 0) = false := by simpa using hs
        go_enter Tryz.func48, Tryz.ntmps48
        go_wp2_with fail
        refine (prCountOne_any _ _ _ _ c2 f2 (by omega) (by omega)).mono ?_
        rintro e w' ⟨rfl, rfl⟩
        go_wp2_with fail
        go_end0
        exact ⟨rfl, by rw [E.out]; exact P2.out _, Frm.set _ rfl⟩

/-- A function's profile in a row of the call's own: read, and turned part by part. -/
theorem fp_elem {w : World} {B : Nat → Prop} {v : Value} {l : List Fp} (h : OSl layFp 51 80 w B v l) {k : Nat} {x : Int} {jl fl : List Int} {al : List Ap} (hk : l[k]? = some (x, jl, fl, al)) :
    ∃ g cap vj vf va Bj Bf Ba, v = .slice (some ⟨g, 0, none⟩) l.length cap ∧ l.length ≤ cap ∧ B g ∧ (w.cell? ⟨g, k * 4, none⟩ = some (.int .i64 x) ∧ w.cell? ⟨g, k * 4 + 1, none⟩ = some vj ∧ w.cell? ⟨g, k * 4 + 2, none⟩ = some vf ∧ w.cell? ⟨g, k * 4 + 3, none⟩ = some va) ∧ (∀ j, w.frozen? ⟨g, j, none⟩ = false) ∧
      (OSl layI 3 8 w Bj vj jl ∧ OSl layI 3 8 w Bf vf fl ∧ OSl layArgProfs 53 24 w Ba va al) ∧ (∀ b, Bj b ∨ Bf b ∨ Ba b → B b ∧ b ≠ g) ∧
      (∀ x', OSl layFp 51 80 (w.setCell ⟨g, k * 4, none⟩ (.int .i64 x')) B v (l.set k (x', jl, fl, al))) ∧
      (∀ w' jl', (∀ b, b < w.heap.size → ¬ Bj b → w'.heap[b]? = w.heap[b]?) → OSl layI 3 8 w' Bj vj jl' → OSl layFp 51 80 w' B v (l.set k (x, jl', fl, al))) ∧
      (∀ w' fl', (∀ b, b < w.heap.size → ¬ Bf b → w'.heap[b]? = w.heap[b]?) → OSl layI 3 8 w' Bf vf fl' → OSl layFp 51 80 w' B v (l.set k (x, jl, fl', al))) ∧
      (∀ w' al', (∀ b, b < w.heap.size → ¬ Ba b → w'.heap[b]? = w.heap[b]?) → OSl layArgProfs 53 24 w' Ba va al' → OSl layFp 51 80 w' B v (l.set k (x, jl, fl, al'))) := by
  obtain ⟨g, cap, cs, Bk, e, hcap, hBg, hg, hcell, hfz, ho, hB, ht, hput⟩ := h.elem k _ hk
  obtain ⟨c, d, B1, B2, rfl, s1, s2, s3, h1, c', d', B3, B4, rfl, t1, t2, t3, ⟨vj, rfl, oj⟩, c2, d2, B5, B6, rfl, u1, u2, u3, ⟨vf, rfl, of⟩, va, rfl, oa⟩ := ho
  obtain rfl : c = [.int .i64 x] := h1
  have sub5 : ∀ b, B5 b → Bk b := fun b hb => s2 b (t2 b (u1 b hb))
  have sub6 : ∀ b, B6 b → Bk b := fun b hb => s2 b (t2 b (u2 b hb))
  have sub3 : ∀ b, B3 b → Bk b := fun b hb => s2 b (t1 b hb)
  refine ⟨g, cap, vj, vf, va, B3, B5, B6, e, hcap, hBg, ⟨hcell 0 _ rfl, hcell 1 _ rfl, hcell 2 _ rfl, hcell 3 _ rfl⟩, hfz, ⟨oj, of, oa⟩, fun b hb => hB b (by rcases hb with h | h | h; exact sub3 b h; exact sub5 b h; exact sub6 b h), fun x' => ?_, fun w' jl' hf hx => ?_, fun w' fl' hf hx => ?_, fun w' al' hf hx => ?_⟩
  · exact hput 0 (.int .i64 x') (x', jl, fl, al) (by decide) ⟨[.int .i64 x'], _, B1, B2, rfl, s1, s2, s3, rfl, [vj], _, B3, B4, rfl, t1, t2, t3, ⟨vj, rfl, oj⟩, [vf], [va], B5, B6, rfl, u1, u2, u3, ⟨vf, rfl, of⟩, va, rfl, oa⟩
  · exact ht w' (x, jl', fl, al) (fun b hl hn => hf b hl (fun hb => hn (sub3 b hb))) ⟨[.int .i64 x], _, B1, B2, rfl, s1, s2, s3, rfl, [vj], _, B3, B4, rfl, t1, t2, t3, ⟨vj, rfl, hx⟩, [vf], [va], B5, B6, rfl, u1, u2, u3, ⟨vf, rfl, of.frm (fun b hb hl => hf b hl (fun h3 => t3 b h3 (u1 b hb)))⟩, va, rfl, oa.frm (fun b hb hl => hf b hl (fun h3 => t3 b h3 (u2 b hb)))⟩
  · exact ht w' (x, jl, fl', al) (fun b hl hn => hf b hl (fun hb => hn (sub5 b hb))) ⟨[.int .i64 x], _, B1, B2, rfl, s1, s2, s3, rfl, [vj], _, B3, B4, rfl, t1, t2, t3, ⟨vj, rfl, oj.frm (fun b hb hl => hf b hl (fun h5 => t3 b hb (u1 b h5)))⟩, [vf], [va], B5, B6, rfl, u1, u2, u3, ⟨vf, rfl, hx⟩, va, rfl, oa.frm (fun b hb hl => hf b hl (fun h5 => u3 b h5 hb))⟩
  · exact ht w' (x, jl, fl, al') (fun b hl hn => hf b hl (fun hb => hn (sub6 b hb))) ⟨[.int .i64 x], _, B1, B2, rfl, s1, s2, s3, rfl, [vj], _, B3, B4, rfl, t1, t2, t3, ⟨vj, rfl, oj.frm (fun b hb hl => hf b hl (fun h6 => t3 b hb (u2 b h6)))⟩, [vf], [va], B5, B6, rfl, u1, u2, u3, ⟨vf, rfl, of.frm (fun b hb hl => hf b hl (fun h6 => u3 b hb h6))⟩, va, rfl, hx⟩

theorem int_elem {T : Nat} {w : World} {B : Nat → Prop} {v : Value} {l : List Int} (h : OSl layI T 8 w B v l) {k : Nat} {x : Int} (hk : l[k]? = some x) :
    ∃ g cap, v = .slice (some ⟨g, 0, none⟩) l.length cap ∧ l.length ≤ cap ∧ B g ∧ w.cell? ⟨g, k, none⟩ = some (.int .i64 x) ∧ (∀ j, w.frozen? ⟨g, j, none⟩ = false) ∧ ∀ x', OSl layI T 8 (w.setCell ⟨g, k, none⟩ (.int .i64 x')) B v (l.set k x') := by
  obtain ⟨g, cap, cs, Bk, e, hcap, hBg, hg, hcell, hfz, ho, hB, ht, hput⟩ := h.elem k _ hk
  obtain rfl : cs = [.int .i64 x] := ho
  refine ⟨g, cap, e, hcap, hBg, by simpa [layI] using hcell 0 _ rfl, hfz, fun x' => ?_⟩
  have := hput 0 (.int .i64 x') x' (by decide) rfl
  simpa [layI] using this

set_option maxHeartbeats 1000000 in
theorem prCountBranch_any (g cap k q : Nat) (B : Nat → Prop) (l : List Fp) (x : Int) (jl fl : List Int) (al : List Ap) (jumps : Bool) (w0 w : World) (h : OSl layFp 51 80 w B (.slice (some ⟨g, 0, none⟩) l.length cap) l) (hk : l[k]? = some (x, jl, fl, al)) (hB : ∀ b, B b → w0.heap.size ≤ b) (hw : Below w0.heap.size w0 w)
    (hj : cntsB jl jl.length = true) (hf : cntsB fl fl.length = true) (hqj : q < jl.length) (hqf : q < fl.length) :
    Calls Tryz.prog 30 #[.pointer (some ⟨g, k * 4, none⟩), .int .i64 q, .bool jumps] w fun e w' => e = .returned (.tuple #[]) ∧ OSl layFp 51 80 w' B (.slice (some ⟨g, 0, none⟩) l.length cap) (l.set k (branchFp (x, jl, fl, al) q jumps)) ∧ Below w0.heap.size w0 w' ∧ Frm B w w' := by
  obtain ⟨g', cap', vj, vf, va, Bj, Bf, Ba, e, hcap, hBg, ⟨c0, c1, c2, c3⟩, hfz, ⟨oj, of, oa⟩, hsub, p0, pj, pf, pa⟩ := fp_elem h hk
  cases e
  have ejl : jl[q]? = some (jl.getD q 0) := by rw [List.getD_eq_getElem?_getD, List.getElem?_eq_getElem hqj]; rfl
  have efl : fl[q]? = some (fl.getD q 0) := by rw [List.getD_eq_getElem?_getD, List.getElem?_eq_getElem hqf]; rfl
  obtain ⟨gj, cj, rfl, hcj, hBj, dj, fj, sj⟩ := int_elem oj ejl
  obtain ⟨gf, cf, rfl, hcf, hBf, df, ff, sf⟩ := int_elem of efl
  have rj := oj.1
  have rf := of.1
  have bj : 0 ≤ jl.getD q 0 ∧ jl.getD q 0 ≤ 1073741824 := by
    have := List.all_eq_true.1 (show jl.all cntB = true by unfold cntsB at hj; simp at hj; simpa using hj) _ (List.mem_of_getElem? ejl)
    exact (cntB_iff _).1 this
  have bf : 0 ≤ fl.getD q 0 ∧ fl.getD q 0 ≤ 1073741824 := by
    have := List.all_eq_true.1 (show fl.all cntB = true by unfold cntsB at hf; simp at hf; simpa using hf) _ (List.mem_of_getElem? efl)
    exact (cntB_iff _).1 this
  have gj' := (hsub gj (.inl hBj))
  have gf' := (hsub gf (.inr (.inl hBf)))
  have SJ := hid sj
  have SF := hid sf
  have PJ := hid pj
  have PF := hid pf
  have RJ : Hid (branchFp (x, jl, fl, al) q true = (x, jl.set q (moreI (jl.getD q 0)), fl, al)) := hid rfl
  have RF : Hid (branchFp (x, jl, fl, al) q false = (x, jl, fl.set q (moreI (fl.getD q 0)), al)) := hid rfl
  generalize jl.getD q 0 = xj at *
  generalize fl.getD q 0 = xf at *
  have hj1 := fj q
  have hf1 := ff q
  clear sj sf pj pf p0 pa hfz fj ff oj of oa c0 c3 h hk ejl efl hj hf
  cases jumps
  · clear dj hj1 c1
    go_enter Tryz.func30, Tryz.ntmps30
    go_wp2_with fail
    refine (prCountOne_any _ _ _ _ df hf1 bf.1 bf.2).mono ?_
    rintro e w' ⟨rfl, rfl⟩
    clear df hf1 c2
    go_wp2_with fail
    go_end0
    refine ⟨rfl, ?_, hw.setCell (by have := hB _ gf'.1; exact this) _, Frm.set _ gf'.1⟩
    rw [RF.out]
    exact PF.out _ _ (fun b _ hn => Below.heap_setCell _ _ _ b (fun e => by have e' : b = gf := e; subst e'; exact hn hBf)) (SF.out _)
  · clear df hf1 c2
    go_enter Tryz.func30, Tryz.ntmps30
    go_wp2_with fail
    refine (prCountOne_any _ _ _ _ dj hj1 bj.1 bj.2).mono ?_
    rintro e w' ⟨rfl, rfl⟩
    clear dj hj1 c1
    go_wp2_with fail
    go_end0
    refine ⟨rfl, ?_, hw.setCell (by have := hB _ gj'.1; exact this) _, Frm.set _ gj'.1⟩
    rw [RJ.out]
    exact PJ.out _ _ (fun b _ hn => Below.heap_setCell _ _ _ b (fun e => by have e' : b = gj := e; subst e'; exact hn hBj)) (SJ.out _)

set_option maxHeartbeats 4000000 in
theorem prCountCall_any (g cap k : Nat) (B : Nat → Prop) (l : List Fp) (x : Int) (jl fl : List Int) (al : List Ap) (aa : Option Addr) (an ac : Nat) (args : List Int) (w0 w : World) (h : OSl layFp 51 80 w B (.slice (some ⟨g, 0, none⟩) l.length cap) l) (hk : l[k]? = some (x, jl, fl, al)) (hB : ∀ b, B b → w0.heap.size ≤ b) (hw : Below w0.heap.size w0 w)
    (hx : cntB x = true) (hal : al.all apB = true) (ha : Ints w0 aa an ac args) (hn : args.length = al.length) :
    Calls Tryz.prog 25 #[.pointer (some ⟨g, k * 4, none⟩), .slice aa an ac] w fun e w' => e = .returned (.tuple #[]) ∧ OSl layFp 51 80 w' B (.slice (some ⟨g, 0, none⟩) l.length cap) (l.set k (callFp (x, jl, fl, al) args)) ∧ Below w0.heap.size w0 w' ∧ Frm B w w' := by
  obtain ⟨g', cap', vj, vf, va, Bj, Bf, Ba, e, hcap, hBg, ⟨c0, c1, c2, c3⟩, hfz, ⟨oj, of, oa⟩, hsub, p0, pj, pf, pa⟩ := fp_elem h hk
  cases e
  obtain ⟨hx0, hx1⟩ := (cntB_iff x).1 hx
  have LA := hid ha.len
  have har := ha.room
  have hac := ha.cap
  have HK := hid hk
  have ZE : Hid (callFp (x, jl, fl, al) args = (moreI x, jl, fl, List.zipWith tellA al args)) := hid rfl
  have ZL : Hid ((List.zipWith tellA al args).length = al.length) := hid (by rw [List.length_zipWith, hn, Nat.min_self])
  have ZA : Hid (∀ q y a s o, al[q]? = some (a, s, o) → args[q]? = some y → (List.zipWith tellA al args)[q]? = some (tellA (a, s, o) y)) := hid (fun q y a s o h1 h2 => by rw [List.getElem?_zipWith, h1, h2])
  generalize hzz : List.zipWith tellA al args = Z at ZE ZL ZA
  have f0 := hfz (k * 4)
  have o1 := p0 (moreI x)
  have b1 : Below w0.heap.size w0 (w.setCell ⟨g, k * 4, none⟩ (.int .i64 (moreI x))) := hw.setCell (hB g hBg) _
  have O1 := hid o1
  have B1 := hid b1
  have FR1 : Hid (Frm B w (w.setCell ⟨g, k * 4, none⟩ (.int .i64 (moreI x)))) := hid (Frm.set _ hBg)
  have HBB := hid hB
  have HA := hid ha
  have HN := hid hn
  have HAL := hid hal
  clear p0 pj pf pa hfz oj of oa hsub h o1 b1 c1 c2 c3 hw hzz ha hk hx hn hal
  go_enter Tryz.func25, Tryz.ntmps25
  go_wp2_with fail
  refine (prCountOne_any _ _ _ _ c0 f0 hx0 hx1).mono ?_
  rintro e w' ⟨rfl, rfl⟩
  obtain ⟨U, hU⟩ : ∃ U : World, U = w.setCell ⟨g, k * 4, none⟩ (.int .i64 (moreI x)) := ⟨_, rfl⟩
  rw [← hU] at O1 B1 FR1 ⊢
  clear hU c0 f0
  go_wp2_with fail
  go_loopw [12] (fun i wr => ∃ q : Nat, q ≤ an ∧ i = .int .i64 q ∧ OSl layFp 51 80 wr B (.slice (some ⟨g, 0, none⟩) l.length cap) (l.set k (moreI x, jl, fl, mixL Z al q)) ∧ Below w0.heap.size w0 wr ∧ Frm B w wr) (fun i _ => an - (intOf i).toNat)
  case atStart => exact ⟨0, Nat.zero_le _, rfl, by rw [mixL_zero]; exact O1.out, B1.out, FR1.out⟩
  case round =>
    obtain ⟨q, hq, rfl, ho, hb, hfr⟩ := hrel
    have HFR := hid hfr
    clear O1 B1 FR1 hfr
    have HO := hid ho
    have HB := hid hb
    clear ho
    by_cases hlt : q < an
    · obtain ⟨b1, o1, rfl, r1⟩ := (HA.out.kept hb).row (by omega)
      have c1 := r1 q hlt
      have hy : args[q]? = some (args.getD q 0) := by rw [List.getD_eq_getElem?_getD, List.getElem?_eq_getElem (by have := LA.out; omega)]; rfl
      generalize args.getD q 0 = y at c1 hy
      have hqa : q < al.length := by have := LA.out; have := HN.out; omega
      obtain ⟨⟨a, s, o⟩, hap⟩ : ∃ p : Ap, al[q]? = some p := ⟨al[q], List.getElem?_eq_getElem hqa⟩
      have hcell : (mixL Z al q)[q]? = some (a, s, o) := by rw [mixL_at (by rw [ZL.out]; omega), hap]
      have hapB : apB (a, s, o) = true := List.all_eq_true.1 HAL.out _ (List.mem_of_getElem? hap)
      rw [apB_eq] at hapB
      simp only [Bool.and_eq_true, cntB_iff] at hapB
      obtain ⟨_, ⟨hs0, hs1⟩, ho0, ho1⟩ := hapB
      have STEP : Hid ((mixL Z al q).set q (tellA (a, s, o) y) = mixL Z al (q + 1)) := hid (mixL_set (ZA.out q y a s o hap hy) hqa)
      obtain ⟨g', cap', vj, vf, va, Bj, Bf, Ba, e, hcap, hBg, ⟨e0, e1, e2, e3⟩, hfz, ⟨oj, of, oa⟩, hsub, p0, pj, pf, pa⟩ := fp_elem HO.out (getElem?_set_self' HK.out)
      obtain ⟨rfl, rfl⟩ : g = g' ∧ cap = cap' := by simpa using e
      obtain ⟨ga, ca, csa, Bka, rfl, hca, hBga, hga, _, _, _, _, _, _⟩ := oa.elem q _ hcell
      have PA := hid pa
      have OA := hid oa
      have hra := oa.1
      have HC := hid hcell
      have hml : (mixL Z al q).length = al.length := mixL_len ZL.out
      rw [hml] at hca hra
      have hml' : Hid ((mixL Z al q).length = al.length) := hid hml
      have GA := hid (hsub ga (.inr (.inr hBga)))
      have HGA := hid hBga
      clear hcell hfz oj of oa hsub p0 pj pf pa e e0 e1 e2 r1 hy hap hb
      have e3' : wr.cell? ⟨g, k * 4 + 3, none⟩ = some (.slice (some ⟨ga, 0, none⟩) al.length ca) := by rw [← hml]; exact e3
      clear e3 hml
      go_wp2_with fail
      refine (prCountArg_any 53 ga ca (mixL Z al q).length q Ba (mixL Z al q) a s o y wr OA.out HC.out hs0 hs1 ho0 ho1).mono ?_
      rintro e w2 ⟨rfl, o2, f2⟩
      have O2 := hid o2
      have F2 := hid f2
      clear o2 f2 e3' c1
      go_wp2_with fail
      go_roundw
      case rel =>
        refine ⟨q + 1, by omega, by go_num, ?_, ?_, HFR.out.trans F2.out (fun b _ e => by have e' : b = ga := e; subst e'; exact GA.out.1)⟩
        · have := PA.out w2 _ (fun b hl hn => F2.out.block b hl (fun e => by have e' : b = ga := e; subst e'; exact hn HGA.out)) O2.out
          rw [set_set', STEP.out] at this
          exact this
        · exact HB.out.trans (F2.out.below HB.out.size (fun b hb e => by have e' : b = ga := e; subst e'; have := HBB.out b GA.out.1; omega))
      case measure => simp [intOf]; omega
    · have hqn : q = an := by omega
      subst hqn
      clear hb
      go_wp2_with fail
      go_end0
      refine ⟨rfl, ?_, HB.out, HFR.out⟩
      have := HO.out
      rwa [mixL_full _ _ _ (by have := ZL.out; have := LA.out; have := HN.out; omega) (by have := LA.out; have := HN.out; omega), ← ZE.out] at this

end Go.Proofs.YtppmkoigblimmaaGreatDoor

namespace Go.Proofs.YtppmkoigblimmaaGreatDoor
open Go.RowKit
set_option linter.unusedVariables false

set_option maxRecDepth 100000 in
set_option maxHeartbeats 1000000 in
theorem cloneInts_any (a : Option Addr) (n c : Nat) (l : List Int) (w : World) (h : Sl layI 8 w a n c l) :
    Calls Tryz.prog 45 #[.slice a n c] w fun e w' => ∃ a' n' c', e = .returned (.slice a' n' c') ∧ OSl layI 3 8 w' (fun b => w.heap.size ≤ b) (.slice a' n' c') l ∧ Below w.heap.size w w' := by
  obtain ⟨j0, hj, jz0, jz1, jz2⟩ := info_parts Tryz.infoIntM
  cases a with
  | none =>
    obtain ⟨rfl, rfl⟩ := h.nilc rfl
    obtain rfl : l = [] := List.length_eq_zero_iff.1 h.len.symm
    clear h
    have he : ∀ w : World, (binOp .eql 28 (.slice none 0 0) (.slice none 0 0)).run Tryz.prog w = .ok (.bool true) w := fun _ => rfl
    go_enter Tryz.func45, Tryz.ntmps45
    go_wp2_with fail
    go_ret
    exact ⟨_, _, _, rfl, OSl.nil _ _ _ _ _, Below.refl _ _⟩
  | some p =>
    have H := hid h
    clear h
    have he : ∀ w : World, (binOp .eql 28 (.slice (some p) n c) (.slice none 0 0)).run Tryz.prog w = .ok (.bool false) w := fun _ => rfl
    go_enter Tryz.func45, Tryz.ntmps45
    go_wp2_with (at_builtin; refine wpList_copyF flatI 3 28 8 j0 (.int .i64 0) Tryz.underlying28 hj jz0 jz1 jz2 rfl (by decide) (by decide) w _ rfl _ _ rfl rfl w.heap.size rfl rfl _ _ _ l rfl H.out ?_; intro a1 n1 m1 w1 o1 b1; have P := hid (And.intro o1 b1); clear o1 b1)
    go_ret
    exact ⟨_, _, _, rfl, P.out.1, P.out.2⟩

set_option maxRecDepth 100000 in
set_option maxHeartbeats 1000000 in
theorem cloneAps_any (a : Option Addr) (n c : Nat) (l : List Ap) (w : World) (h : Sl layArgProfs 24 w a n c l) :
    Calls Tryz.prog 46 #[.slice a n c] w fun e w' => ∃ a' n' c', e = .returned (.slice a' n' c') ∧ OSl layArgProfs 53 24 w' (fun b => w.heap.size ≤ b) (.slice a' n' c') l ∧ Below w.heap.size w w' := by
  obtain ⟨k0, hk, kz0, kz1, kz2⟩ := info_parts Tryz.infoArgProfs
  cases a with
  | none =>
    obtain ⟨rfl, rfl⟩ := h.nilc rfl
    obtain rfl : l = [] := List.length_eq_zero_iff.1 h.len.symm
    clear h
    have he : ∀ w : World, (binOp .eql 49 (.slice none 0 0) (.slice none 0 0)).run Tryz.prog w = .ok (.bool true) w := fun _ => rfl
    go_enter Tryz.func46, Tryz.ntmps46
    go_wp2_with fail
    go_ret
    exact ⟨_, _, _, rfl, OSl.nil _ _ _ _ _, Below.refl _ _⟩
  | some p =>
    have H := hid h
    clear h
    have he : ∀ w : World, (binOp .eql 49 (.slice (some p) n c) (.slice none 0 0)).run Tryz.prog w = .ok (.bool false) w := fun _ => rfl
    go_enter Tryz.func46, Tryz.ntmps46
    go_wp2_with (at_builtin; refine wpList_copyF flatArgProfs 53 49 24 k0 (.agg #[.int .i64 0, .int .i64 0, .int .i64 0]) Tryz.underlying49 hk kz0 kz1 kz2 rfl (by decide) (by decide) w _ rfl _ _ rfl rfl w.heap.size rfl rfl _ _ _ l rfl H.out ?_; intro a1 n1 m1 w1 o1 b1; have P := hid (And.intro o1 b1); clear o1 b1)
    go_ret
    exact ⟨_, _, _, rfl, P.out.1, P.out.2⟩

/-- The cells of a function's profile, its lists as they lie. -/
def rawFp (w : World) (cs : List Value) (f : Fp) : Prop := ∃ ja jn jc fa fn fc aa an ac, cs = [.int .i64 f.1, .slice ja jn jc, .slice fa fn fc, .slice aa an ac] ∧ Sl layI 8 w ja jn jc f.2.1 ∧ Sl layI 8 w fa fn fc f.2.2.1 ∧ Sl layArgProfs 24 w aa an ac f.2.2.2
theorem rawFp.kept {w w' : World} {cs : List Value} {f : Fp} (h : rawFp w cs f) (b : Below w.heap.size w w') : rawFp w' cs f := by
  obtain ⟨ja, jn, jc, fa, fn, fc, aa, an, ac, rfl, h1, h2, h3⟩ := h
  exact ⟨ja, jn, jc, fa, fn, fc, aa, an, ac, rfl, h1.kept b, h2.kept b, h3.kept b⟩
theorem choose_list {α : Type} [Inhabited α] {n : Nat} {p : Nat → α → Prop} (h : ∀ i, i < n → ∃ x, p i x) : ∃ l : List α, l.length = n ∧ ∀ i, i < n → p i (l.getD i default) := by
  induction n with
  | zero => exact ⟨[], rfl, fun i hi => absurd hi (by omega)⟩
  | succ n ih =>
    obtain ⟨l, hl, hp⟩ := ih (fun i hi => h i (by omega))
    obtain ⟨x, hx⟩ := h n (by omega)
    refine ⟨l ++ [x], by simp [hl], fun i hi => ?_⟩
    rcases Nat.lt_or_ge i n with hlt | hge
    · rw [List.getD_eq_getElem?_getD, List.getElem?_append_left (by omega), ← List.getD_eq_getElem?_getD]
      exact hp i hlt
    · obtain rfl : i = n := by omega
      rw [List.getD_eq_getElem?_getD, List.getElem?_append_right (by omega), hl, Nat.sub_self]
      exact hx
theorem flat_len4 : ∀ {t : List (List Value)}, (∀ x ∈ t, x.length = 4) → t.flatten.length = t.length * 4
  | [], _ => rfl
  | c :: t, h => by rw [List.flatten_cons, List.length_append, h c (by simp), flat_len4 (fun x hx => h x (by simp [hx])), List.length_cons]; omega
/-- All cells of a slice of such. -/
theorem raw_cells {w : World} {a : Option Addr} {n c : Nat} {l : List Fp} (h : Sl layFp 80 w a n c l) : ∃ t : List (List Value), t.length = n ∧ (∀ i f, l[i]? = some f → rawFp w (t.getD i []) f) ∧ (∀ x ∈ t, x.length = 4) ∧ (∀ u ∈ t.flatten, u.oneCell' = true) ∧
    (0 < n → ∃ b o, a = some ⟨b, o, none⟩ ∧ ∀ j u, t.flatten[j]? = some u → w.cell? ⟨b, o + j, none⟩ = some u) := by
  rcases Nat.eq_zero_or_pos n with rfl | hpos
  · exact ⟨[], rfl, fun i f hf => by have := (List.getElem?_eq_some_iff.1 hf).1; have := h.len; omega, by simp, by simp, fun h => absurd h (by omega)⟩
  obtain ⟨b, o, ha, hr⟩ := h.row hpos
  obtain ⟨t, ht, hp⟩ := choose_list (α := List Value) (n := n) (p := fun i cs => ∃ f, l[i]? = some f ∧ rawFp w cs f ∧ ∀ j u, cs[j]? = some u → w.cell? ⟨b, o + i * 4 + j, none⟩ = some u) (fun i hi => by
    have hl : i < l.length := by rw [← h.len]; exact hi
    have hx := hr i l[i] (List.getElem?_eq_getElem hl)
    obtain ⟨r0, ⟨ja, jn, jc, r1, i1⟩, ⟨fa, fn, fc, r2, i2⟩, aa, an, ac, r3, i3⟩ := hx
    refine ⟨[.int .i64 l[i].1, .slice ja jn jc, .slice fa fn fc, .slice aa an ac], l[i], List.getElem?_eq_getElem hl, ⟨ja, jn, jc, fa, fn, fc, aa, an, ac, rfl, i1, i2, i3⟩, fun j u hj => ?_⟩
    match j with
    | 0 => simp at hj; subst hj; exact r0
    | 1 => simp at hj; subst hj; exact r1
    | 2 => simp at hj; subst hj; exact r2
    | 3 => simp at hj; subst hj; exact r3
    | j + 4 => simp at hj)
  have four : ∀ x ∈ t, x.length = 4 := by
    intro x hx
    obtain ⟨i, hi, rfl⟩ := List.mem_iff_getElem.1 hx
    obtain ⟨f, _, ⟨_, _, _, _, _, _, _, _, _, e, _⟩, _⟩ := hp i (by omega)
    have e' : t.getD i default = t[i] := by rw [List.getD_eq_getElem?_getD, List.getElem?_eq_getElem hi]; rfl
    rw [e'] at e
    rw [e]; rfl
  have dflt : ∀ i, i < n → t.getD i default = t.getD i [] := fun i hi => rfl
  refine ⟨t, ht, fun i f hf => ?_, four, fun u hu => ?_, fun _ => ⟨b, o, ha, fun j u hj => ?_⟩⟩
  · have hi : i < n := by rw [h.len]; exact (List.getElem?_eq_some_iff.1 hf).1
    obtain ⟨f', hf', hraw, _⟩ := hp i hi
    rw [hf] at hf'
    cases hf'
    exact hraw
  · obtain ⟨x, hx, hu'⟩ := List.mem_flatten.1 hu
    obtain ⟨i, hi, rfl⟩ := List.mem_iff_getElem.1 hx
    obtain ⟨f, _, ⟨_, _, _, _, _, _, _, _, _, e, _⟩, _⟩ := hp i (by omega)
    have e' : t.getD i default = t[i] := by rw [List.getD_eq_getElem?_getD, List.getElem?_eq_getElem hi]; rfl
    rw [e'] at e
    rw [e] at hu'
    simp at hu'
    rcases hu' with rfl | rfl | rfl | rfl <;> rfl
  · have hj' : j < t.length * 4 := by
      have := (List.getElem?_eq_some_iff.1 hj).1
      have hfl := flat_len4 four
      omega
    have hi : j / 4 < n := by omega
    have hf := flat_at four (j / 4) (j % 4) (by omega) (Nat.mod_lt _ (by decide))
    rw [show j / 4 * 4 + j % 4 = j by omega] at hf
    obtain ⟨f, _, _, hc⟩ := hp (j / 4) hi
    have := hc (j % 4) u (by rw [← hj, hf]; rfl)
    rwa [show o + j / 4 * 4 + j % 4 = o + j by omega] at this

set_option maxRecDepth 100000 in
set_option maxHeartbeats 2000000 in
theorem cloneFps_any (a : Option Addr) (n c : Nat) (l : List Fp) (w : World) (h : Sl layFp 80 w a n c l) :
    Calls Tryz.prog 44 #[.slice a n c] w fun e w' => ∃ (a' : Option Addr) (c' : Nat) (t : List (List Value)), e = .returned (.slice a' n c') ∧ n ≤ c' ∧ w'.ownsRow w.heap.size 51 4 (.slice a' n c') n t.flatten ∧ t.length = n ∧ (∀ x ∈ t, x.length = 4) ∧ (∀ i f, l[i]? = some f → rawFp w (t.getD i []) f) ∧ Below w.heap.size w w' := by
  obtain ⟨i0, hi, hz0, hz1, hz2⟩ := info_parts Tryz.infoFuncProf
  obtain ⟨t, ht, hraw, h4, h1, hcell⟩ := raw_cells h
  have hr := h.room
  have hc := h.cap
  cases a with
  | none =>
    obtain ⟨rfl, rfl⟩ := h.nilc rfl
    obtain rfl : t = [] := List.length_eq_zero_iff.1 ht
    clear h
    have he : ∀ w : World, (binOp .eql 25 (.slice none 0 0) (.slice none 0 0)).run Tryz.prog w = .ok (.bool true) w := fun _ => rfl
    go_enter Tryz.func44, Tryz.ntmps44
    go_wp2_with fail
    go_ret
    exact ⟨none, 0, [], rfl, Nat.le_refl _, World.ownsRow_nil _ _ _ _, rfl, by simp, hraw, Below.refl _ _⟩
  | some p =>
    have hown0 : (w.alloc (.cells #[] 51)).ownsRow w.heap.size 51 4 (.slice (some ⟨w.heap.size, 0, none⟩) 0 0) 0 [] := World.ownsRow_lit w #[] 0 (Nat.le_refl _) (by simp [maxLen]) rfl
    have hfl : t.flatten.length = n * 4 := by rw [flat_len4 h4, ht]
    have hA : Below w.heap.size w (w.alloc (.cells #[] 51)) := Below.alloc (Below.refl _ _) (Nat.le_refl _) _
    have hnews : ∀ j u, t.flatten[j]? = some u → (w.alloc (.cells #[] 51)).cell? (p.add j) = some u := by
      intro j u hu
      have hpos : 0 < n := by have := (List.getElem?_eq_some_iff.1 hu).1; omega
      obtain ⟨b, o, e, hh⟩ := hcell hpos
      cases e
      have := kept_cell hA (hh j u hu)
      rwa [show (⟨b, o, none⟩ : Addr).add j = ⟨b, o + j, none⟩ by simp [Addr.add]]
    have N := hid hnews
    have F4 := hid (And.intro h4 (And.intro hraw ht))
    have O1 := hid h1
    have FL := hid hfl
    have OW := hid hown0
    clear hnews h4 hraw h1 hfl hown0 h hcell hA ht
    have he : ∀ w : World, (binOp .eql 25 (.slice (some p) n c) (.slice none 0 0)).run Tryz.prog w = .ok (.bool false) w := fun _ => rfl
    go_enter Tryz.func44, Tryz.ntmps44
    go_wp2_with (at_builtin; refine wpList_append_own _ rfl _ _ 25 rfl w.heap.size 51 i0 (.agg #[.int .i64 0, .slice none 0 0, .slice none 0 0, .slice none 0 0]) 4 80 Tryz.underlying25 hi hz0 hz1 hz2 rfl (by decide) _ _ _ rfl OW.out p n c t.flatten rfl FL.out N.out O1.out (by unfold maxLen; omega) (by omega) (by simp) ?_; intro v' w1 ho hg _; simp only [Nat.zero_add, List.nil_append] at ho; have P := hid (And.intro ho hg); clear ho hg)
    obtain ⟨a', c', rfl, hcc⟩ : ∃ a' c', v' = .slice a' n c' ∧ n ≤ c' := by
      rcases P.out.1.2 with ⟨e, e0⟩ | ⟨g, cap, cur, rfl, _, _, hcc, _⟩
      · exact ⟨none, 0, by rw [e, e0], by omega⟩
      · exact ⟨_, _, rfl, hcc⟩
    go_ret
    exact ⟨a', c', t, rfl, hcc, P.out.1, F4.out.2.2, F4.out.1, F4.out.2.1, (Below.grown (Below.alloc (Below.refl _ _) (Nat.le_refl _) _) P.out.2 (by simp) (by intro k hk; cases hk; exact Nat.le_refl _))⟩

/-- A cell of a row of one's own is written, behind a call that laid memory. -/
theorem row_put {w u : World} {base T n g cap : Nat} {t : List (List Value)} (h : w.ownsRow base T 4 (.slice (some ⟨g, 0, none⟩) n cap) n t.flatten) (h4 : ∀ x ∈ t, x.length = 4) (b : Below w.heap.size w u) (q j : Nat) (y : Value) (hq : q < t.length) (hj : j < 4) :
    (u.setCell ⟨g, q * 4 + j, none⟩ y).ownsRow base T 4 (.slice (some ⟨g, 0, none⟩) n cap) n (t.set q ((t.getD q []).set j y)).flatten := by
  have hs := ((owns_kept h b).stored (q * 4 + j) y).1
  rwa [flat_set h4 q j y hq hj] at hs
theorem row_four {t : List (List Value)} (h4 : ∀ x ∈ t, x.length = 4) (q : Nat) (y : List Value) (hy : y.length = 4) : ∀ x ∈ t.set q y, x.length = 4 := by
  intro x hx
  rcases List.mem_or_eq_of_mem_set hx with h | rfl
  · exact h4 x h
  · exact hy
theorem getD_set_self' {t : List (List Value)} {q : Nat} (y : List Value) (hq : q < t.length) : (t.set q y).getD q [] = y := by rw [List.getD_eq_getElem?_getD, List.getElem?_set_self hq]; rfl
theorem getD_set_ne' {t : List (List Value)} {q i : Nat} (y : List Value) (hq : ¬ q = i) : (t.set q y).getD i [] = t.getD i [] := by rw [List.getD_eq_getElem?_getD, List.getElem?_set_ne hq, ← List.getD_eq_getElem?_getD]

end Go.Proofs.YtppmkoigblimmaaGreatDoor

namespace Go.Proofs.YtppmkoigblimmaaGreatDoor
open Go.RowKit
set_option linter.unusedVariables false

set_option maxRecDepth 100000 in
set_option maxHeartbeats 8000000 in
theorem prCopyOf_any (ra : Option Addr) (rn rc : Nat) (l : List Fp) (w : World) (h : Sl layFp 80 w ra rn rc l) :
    Calls Tryz.prog 24 #[.agg #[.slice ra rn rc]] w fun e w' => ∃ v, e = .returned (.agg #[v]) ∧ OSl layFp 51 80 w' (fun b => w.heap.size ≤ b) v l ∧ Below w.heap.size w w' := by
  have L := hid h.len
  have hr := h.room
  have hc := h.cap
  have H := hid h
  clear h
  have W2 : Hid (∃ U : World, U = (w.alloc (.cells #[.slice ra rn rc] 27)).alloc (.cells #[.slice none 0 0] 27)) := hid ⟨_, rfl⟩
  obtain ⟨w2, hw2⟩ := W2.out
  have B2 : Hid (Below w.heap.size w w2) := hid (by rw [hw2]; go_grown)
  have Q2 : Hid (w2.cell? ⟨w.heap.size + 1, 0, none⟩ = some (.slice none 0 0) ∧ w2.frozen? ⟨w.heap.size + 1, 0, none⟩ = false) := hid (by rw [hw2]; exact ⟨by simp [go_sem], by simp [go_sem]⟩)
  have E2 := hid hw2
  clear hw2 W2
  go_enter Tryz.func24, Tryz.ntmps24
  go_wp2_with fail
  refine calls_inU (U := w2) (by rw [E2.out]) ?_
  refine (cloneFps_any _ _ _ l _ (H.out.kept B2.out)).mono ?_
  rintro e w3 ⟨a3, c3, t3, rfl, hc3, o3, ht3, h43, hraw3, b3⟩
  have B3 := hid (kt B2.out b3)
  have Q3 : Hid (w3.cell? ⟨w.heap.size + 1, 0, none⟩ = some (.slice none 0 0) ∧ w3.frozen? ⟨w.heap.size + 1, 0, none⟩ = false) := hid ⟨kept_cell b3 Q2.out.1, (b3.frozen (p := ⟨w.heap.size + 1, 0, none⟩) (lt_of_cell Q2.out.1)).trans Q2.out.2⟩
  have hs2 : w.heap.size + 1 < w2.heap.size := lt_of_cell Q2.out.1
  have hsb := b3.size
  have O3 : Hid (w3.ownsRow w2.heap.size 51 4 (.slice a3 rn c3) rn t3.flatten) := hid o3
  have X3 := hid (And.intro ht3 (And.intro h43 hraw3))
  have B23 := hid b3
  clear b3 E2 Q2 o3 ht3 h43 hraw3
  go_wp2_with fail
  go_loopw [11] (fun i wr => ∃ (q : Nat) (t : List (List Value)) (F : Nat → Nat → Prop), q ≤ rn ∧ i = .int .i64 q ∧ t.length = rn ∧ (∀ x ∈ t, x.length = 4) ∧ wr.ownsRow w2.heap.size 51 4 (.slice a3 rn c3) rn t.flatten ∧
      (∀ i f, i < q → l[i]? = some f → layFp.owns wr (F i) (t.getD i []) f) ∧ (∀ i f, q ≤ i → l[i]? = some f → rawFp w2 (t.getD i []) f) ∧ (∀ i b, F i b → w3.heap.size ≤ b ∧ b < wr.heap.size) ∧ (∀ i j b, i ≠ j → F i b → F j b → False) ∧ Below w2.heap.size w3 wr) (fun i _ => rn - (intOf i).toNat)
  case atStart => exact ⟨0, t3, fun _ _ => False, Nat.zero_le _, rfl, X3.out.1, X3.out.2.1, O3.out, fun i f hi => absurd hi (by omega), fun i f _ hf => X3.out.2.2 i f hf, fun _ _ h => h.elim, fun _ _ _ _ h => h.elim, Below.refl _ _⟩
  case round =>
    clear X3
    obtain ⟨q, t, F, hq, rfl, ht, h4, ho, hown, hraw, hF, hFd, hb⟩ := hrel
    obtain ⟨V, hV⟩ : ∃ V : World, V = wr := ⟨_, rfl⟩
    subst hV
    have HO := hid ho
    have HB := hid hb
    have HT := hid (And.intro ht h4)
    have HF := hid (And.intro hF hFd)
    have HW := hid hown
    have HR := hid hraw
    have hsv := hb.size
    clear ho ht h4 hF hFd hown hraw hb
    by_cases hlt : q < rn
    · obtain ⟨⟨x, jl, fl, al⟩, hx⟩ : ∃ f : Fp, l[q]? = some f := ⟨_, List.getElem?_eq_getElem (by have := L.out; omega)⟩
      obtain ⟨ja, jn, jc, fa, fn, fc, aa, an, ac, et, i1, i2, i3⟩ := HR.out q _ (Nat.le_refl _) hx
      have BV : Hid (Below w2.heap.size w2 V) := hid (B23.out.trans HB.out)
      obtain ⟨g, rfl, hgb, hgl⟩ : ∃ g, a3 = some ⟨g, 0, none⟩ ∧ w2.heap.size ≤ g ∧ g < V.heap.size := by
        rcases HO.out.2 with ⟨e, e0⟩ | ⟨g, cap, cur, e, hg, hh, _⟩
        · omega
        · cases e; exact ⟨g, rfl, hg, heap_ltP hh⟩
      have hg3 : g < w3.heap.size := by
        rcases O3.out.2 with ⟨e, e0⟩ | ⟨g', cap, cur, e, hg, hh, _⟩
        · cases e
        · cases e; exact heap_ltP hh
      have hqt : q < t.length := by rw [HT.out.1]; exact hlt
      have HROW : Hid (∀ (U : World) (t' : List (List Value)), t'.length = rn → (∀ x ∈ t', x.length = 4) → U.ownsRow w2.heap.size 51 4 (.slice (some ⟨g, 0, none⟩) rn c3) rn t'.flatten → ∀ j u, j < 4 → (t'.getD q [])[j]? = some u → U.cell? ⟨g, q * 4 + j, none⟩ = some u ∧ U.frozen? ⟨g, q * 4 + j, none⟩ = false) := hid (fun U t' hl h4 ho j u hj hu => by
        have hbd : q * 4 + j < rn * 4 := by omega
        exact ⟨by rw [ho.cellAt _ hbd, flat_at h4 q j (by omega) hj, hu], ho.frozenAt _⟩)
      obtain ⟨c1, f1⟩ := HROW.out V t HT.out.1 HT.out.2 HO.out 1 (.slice ja jn jc) (by decide) (by rw [et]; rfl)
      have HX := hid hx
      have I1 := hid (i1.kept BV.out)
      have I2 := hid i2
      have I3 := hid i3
      have ET := hid et
      clear hx i1 i2 i3 et
      go_wp2_with fail
      refine (cloneInts_any _ _ _ jl _ I1.out).mono ?_
      rintro e u1 ⟨j1, j2, j3, rfl, oj, b1⟩
      have c1' := kept_cell b1 c1
      have f1' : u1.frozen? ⟨g, q * 4 + 1, none⟩ = false := (b1.frozen (p := ⟨g, q * 4 + 1, none⟩) hgl).trans f1
      have OJ := hid oj
      have B1 := hid b1
      clear oj b1 c1 f1
      go_upto_region 7 with fail
      obtain ⟨U1, hU1⟩ : ∃ U : World, U = u1.setCell ⟨g, q * 4 + 1, none⟩ (.slice j1 j2 j3) := ⟨_, rfl⟩
      refine wp_world (U := U1) (by rw [hU1]) ?_
      have t1 : Hid ((t.set q ((t.getD q []).set 1 (.slice j1 j2 j3))).length = rn ∧ ∀ x ∈ t.set q ((t.getD q []).set 1 (.slice j1 j2 j3)), x.length = 4) := hid ⟨by simp [HT.out.1], row_four HT.out.2 q _ (by rw [ET.out]; rfl)⟩
      have R1 : Hid (U1.ownsRow w2.heap.size 51 4 (.slice (some ⟨g, 0, none⟩) rn c3) rn (t.set q ((t.getD q []).set 1 (.slice j1 j2 j3))).flatten) := hid (by rw [hU1]; exact row_put HO.out HT.out.2 B1.out q 1 _ hqt (by decide))
      have G1 : Hid (U1.heap.size = u1.heap.size ∧ V.heap.size ≤ u1.heap.size ∧ ∀ b, b ≠ g → U1.heap[b]? = u1.heap[b]?) := hid ⟨by rw [hU1]; simp, B1.out.size, fun b hb => by rw [hU1]; exact Below.heap_setCell _ _ _ b hb⟩
      have BU1 : Hid (Below w2.heap.size w2 U1) := hid (by rw [hU1]; exact (kt BV.out B1.out).setCell hgb _)
      have BD1 : Hid (Below w2.heap.size V U1) := hid (by rw [hU1]; exact (B1.out.mono (by omega)).setCell hgb _)
      obtain ⟨c2, f2⟩ := HROW.out U1 _ t1.out.1 t1.out.2 R1.out 2 (.slice fa fn fc) (by decide) (by rw [getD_set_self' _ hqt, ET.out]; rfl)
      clear hU1 c1' f1'
      go_wp2_with fail
      refine (cloneInts_any _ _ _ fl _ (I2.out.kept BU1.out)).mono ?_
      rintro e u2 ⟨p1, p2, p3, rfl, of, b2⟩
      have hgl1 : g < U1.heap.size := by have := G1.out; omega
      have c2' := kept_cell b2 c2
      have f2' : u2.frozen? ⟨g, q * 4 + 2, none⟩ = false := (b2.frozen (p := ⟨g, q * 4 + 2, none⟩) hgl1).trans f2
      have OF := hid of
      have B2' := hid b2
      clear of b2 c2 f2
      go_upto_region 8 with fail
      obtain ⟨U2, hU2⟩ : ∃ U : World, U = u2.setCell ⟨g, q * 4 + 2, none⟩ (.slice p1 p2 p3) := ⟨_, rfl⟩
      refine wp_world (U := U2) (by rw [hU2]) ?_
      have hqt1 : q < (t.set q ((t.getD q []).set 1 (.slice j1 j2 j3))).length := by rw [t1.out.1]; exact hlt
      have R2 : Hid (U2.ownsRow w2.heap.size 51 4 (.slice (some ⟨g, 0, none⟩) rn c3) rn (t.set q [.int .i64 x, .slice j1 j2 j3, .slice p1 p2 p3, .slice aa an ac]).flatten) := hid (by
        rw [hU2]
        have := row_put R1.out t1.out.2 B2'.out q 2 (.slice p1 p2 p3) hqt1 (by decide)
        rw [getD_set_self' _ hqt, List.set_set, ET.out] at this
        exact this)
      have t2 : Hid ((t.set q [.int .i64 x, .slice j1 j2 j3, .slice p1 p2 p3, .slice aa an ac]).length = rn ∧ ∀ y ∈ t.set q [.int .i64 x, .slice j1 j2 j3, .slice p1 p2 p3, .slice aa an ac], y.length = 4) := hid ⟨by simp [HT.out.1], row_four HT.out.2 q _ rfl⟩
      have G2 : Hid (U2.heap.size = u2.heap.size ∧ U1.heap.size ≤ u2.heap.size ∧ ∀ b, b ≠ g → U2.heap[b]? = u2.heap[b]?) := hid ⟨by rw [hU2]; simp, B2'.out.size, fun b hb => by rw [hU2]; exact Below.heap_setCell _ _ _ b hb⟩
      have BU2 : Hid (Below w2.heap.size w2 U2) := hid (by rw [hU2]; exact (kt BU1.out B2'.out).setCell hgb _)
      have BD2 : Hid (Below w2.heap.size V U2) := hid (by rw [hU2]; exact (BD1.out.trans (B2'.out.mono (by have := BU1.out.size; omega))).setCell hgb _)
      obtain ⟨c3', f3⟩ := HROW.out U2 _ t2.out.1 t2.out.2 R2.out 3 (.slice aa an ac) (by decide) (by rw [getD_set_self' _ hqt]; rfl)
      clear hU2 c2' f2'
      go_wp2_with fail
      refine (cloneAps_any _ _ _ al _ (I3.out.kept BU2.out)).mono ?_
      rintro e u3 ⟨q1, q2, q3, rfl, oa, b3⟩
      have hgl2 : g < U2.heap.size := by have := G2.out; omega
      have c3'' := kept_cell b3 c3'
      have f3' : u3.frozen? ⟨g, q * 4 + 3, none⟩ = false := (b3.frozen (p := ⟨g, q * 4 + 3, none⟩) hgl2).trans f3
      have OA := hid oa
      have B3' := hid b3
      clear oa b3 c3' f3
      go_upto_region 9 with fail
      obtain ⟨U3, hU3⟩ : ∃ U : World, U = u3.setCell ⟨g, q * 4 + 3, none⟩ (.slice q1 q2 q3) := ⟨_, rfl⟩
      refine wp_world (U := U3) (by rw [hU3]) ?_
      have hqt2 : q < (t.set q [.int .i64 x, .slice j1 j2 j3, .slice p1 p2 p3, .slice aa an ac]).length := by rw [t2.out.1]; exact hlt
      have R3 : Hid (U3.ownsRow w2.heap.size 51 4 (.slice (some ⟨g, 0, none⟩) rn c3) rn (t.set q [.int .i64 x, .slice j1 j2 j3, .slice p1 p2 p3, .slice q1 q2 q3]).flatten) := hid (by
        rw [hU3]
        have := row_put R2.out t2.out.2 B3'.out q 3 (.slice q1 q2 q3) hqt2 (by decide)
        rw [getD_set_self' _ hqt, List.set_set] at this
        exact this)
      have t3' : Hid ((t.set q [.int .i64 x, .slice j1 j2 j3, .slice p1 p2 p3, .slice q1 q2 q3]).length = rn ∧ ∀ y ∈ t.set q [.int .i64 x, .slice j1 j2 j3, .slice p1 p2 p3, .slice q1 q2 q3], y.length = 4) := hid ⟨by simp [HT.out.1], row_four HT.out.2 q _ rfl⟩
      have G3 : Hid (U3.heap.size = u3.heap.size ∧ U2.heap.size ≤ u3.heap.size ∧ ∀ b, b ≠ g → U3.heap[b]? = u3.heap[b]?) := hid ⟨by rw [hU3]; simp, B3'.out.size, fun b hb => by rw [hU3]; exact Below.heap_setCell _ _ _ b hb⟩
      have BD3 : Hid (Below w2.heap.size V U3) := hid (by rw [hU3]; exact (BD2.out.trans (B3'.out.mono (by have := BU2.out.size; omega))).setCell hgb _)
      have FAR : Hid (∀ b, b < V.heap.size → b ≠ g → U3.heap[b]? = V.heap[b]?) := hid (fun b hb hn => by
        have s1 := G1.out; have s2 := G2.out; have s3 := G3.out
        rw [s3.2.2 b hn, B3'.out.block b (by omega), s2.2.2 b hn, B2'.out.block b (by omega), s1.2.2 b hn, B1.out.block b hb])
      have OX : Hid (layFp.owns U3 (fun b => (V.heap.size ≤ b ∧ b < u1.heap.size) ∨ (U1.heap.size ≤ b ∧ b < u2.heap.size) ∨ (U2.heap.size ≤ b ∧ b < u3.heap.size)) [.int .i64 x, .slice j1 j2 j3, .slice p1 p2 p3, .slice q1 q2 q3] (x, jl, fl, al)) := hid (by
        have s1 := G1.out
        have s2 := G2.out
        have s3 := G3.out
        have o1 := (OJ.out.frm (w' := U1) (fun b hb _ => s1.2.2 b (by omega))).sub (B' := fun b => V.heap.size ≤ b ∧ b < u1.heap.size) (fun b hb hl => ⟨hb, by omega⟩)
        have o1' := row_on (row_on o1 B2'.out s2.2.2 (by omega)) B3'.out s3.2.2 (by omega)
        have o2 := (OF.out.frm (w' := U2) (fun b hb _ => s2.2.2 b (by omega))).sub (B' := fun b => U1.heap.size ≤ b ∧ b < u2.heap.size) (fun b hb hl => ⟨hb, by omega⟩)
        have o2' := row_on o2 B3'.out s3.2.2 (by omega)
        have o3 := (OA.out.frm (w' := U3) (fun b hb _ => s3.2.2 b (by omega))).sub (B' := fun b => U2.heap.size ≤ b ∧ b < u3.heap.size) (fun b hb hl => ⟨hb, by omega⟩)
        exact fp_owns o1' o2' o3 (fun b h k => by omega) (fun b h k => by omega) (fun b h k => by omega))
      clear hU3 c3'' f3'
      go_wp2_with fail
      go_roundw
      case rel =>
        have s1 := G1.out
        have s2 := G2.out
        have s3 := G3.out
        refine ⟨q + 1, _, fun i b => if i = q then ((V.heap.size ≤ b ∧ b < u1.heap.size) ∨ (U1.heap.size ≤ b ∧ b < u2.heap.size) ∨ (U2.heap.size ≤ b ∧ b < u3.heap.size)) else F i b, by omega, by go_num, t3'.out.1, t3'.out.2, R3.out, fun i f hi hf => ?_, fun i f hi hf => ?_, fun i b hb => ?_, fun i j b hij hb hb' => ?_, HB.out.trans BD3.out⟩
        · by_cases e : i = q
          · subst e
            rw [getD_set_self' _ hqt]
            have : f = (x, jl, fl, al) := by have := HX.out; rw [this] at hf; exact (Option.some.inj hf).symm
            subst this
            simp only [if_true]
            exact OX.out
          · rw [getD_set_ne' _ (fun h => e h.symm)]
            simp only [if_neg e]
            exact layFp.frmO (HW.out i f (by omega) hf) (fun b hb hl => FAR.out b hl (fun e' => by have := (HF.out.1 i b hb).1; omega))
        · have e : ¬ q = i := by omega
          rw [getD_set_ne' _ e]
          exact HR.out i f (by omega) hf
        · by_cases e : i = q
          · simp only [if_pos e] at hb
            have := HB.out.size
            rcases hb with hb | hb | hb <;> omega
          · simp only [if_neg e] at hb
            have := HF.out.1 i b hb
            omega
        · by_cases e : i = q <;> by_cases e' : j = q
          · omega
          · simp only [if_pos e] at hb; simp only [if_neg e'] at hb'
            have := (HF.out.1 j b hb').2
            rcases hb with hb | hb | hb <;> omega
          · simp only [if_neg e] at hb; simp only [if_pos e'] at hb'
            have := (HF.out.1 i b hb).2
            rcases hb' with hb' | hb' | hb' <;> omega
          · simp only [if_neg e] at hb; simp only [if_neg e'] at hb'
            exact HF.out.2 i j b hij hb hb'
      case measure => simp [intOf]; omega
    · have hqn : q = rn := by omega
      subst hqn
      have BV : Hid (Below w2.heap.size w2 V) := hid (B23.out.trans HB.out)
      have q4 : V.cell? ⟨w.heap.size + 1, 0, none⟩ = some (.slice none 0 0) := (HB.out.cell (p := ⟨w.heap.size + 1, 0, none⟩) (by show w.heap.size + 1 < w2.heap.size; omega)).trans Q3.out.1
      have qf : V.frozen? ⟨w.heap.size + 1, 0, none⟩ = false := (HB.out.frozen (p := ⟨w.heap.size + 1, 0, none⟩) (by show w.heap.size + 1 < w2.heap.size; omega)).trans Q3.out.2
      have OZ : Hid (OSl layFp 51 80 V (fun b => w2.heap.size ≤ b) (.slice a3 q c3) l) := hid (by
        have LL := L.out
        refine ⟨by rw [← LL]; exact hr, t, F, by have := HT.out.1; omega, ?_, fun g hg => ?_, fun i b hb => ?_, HF.out.2, fun i f hf => HW.out i f (by have := (List.getElem?_eq_some_iff.1 hf).1; omega) hf⟩
        · have := row_base (base' := 0) HO.out (fun _ _ => Nat.zero_le _)
          rw [← LL]; exact this
        · have hg3 : w2.heap.size ≤ g ∧ g < w3.heap.size := O3.out.lt g hg
          exact ⟨hg3.1, fun i hi => by have := (HF.out.1 i g hi).1; omega⟩
        · have := (HF.out.1 i b hb).1
          show w2.heap.size ≤ b
          omega)
      go_wp2_with fail
      refine bodyPost_ret (v := .agg #[.slice a3 q c3]) (by simp [results, Tryz.results24, go_sem, q4]) rfl ⟨_, rfl, ?_, (B2.out.trans (BV.out.mono (by omega))).setCell (by simp) _⟩
      exact (OZ.out.set _ _ (by show ¬ w2.heap.size ≤ w.heap.size + 1; omega)).sub (fun b hb _ => by have hb' : w2.heap.size ≤ b := hb; show w.heap.size ≤ b; omega)

end Go.Proofs.YtppmkoigblimmaaGreatDoor

namespace Go.Proofs.YtppmkoigblimmaaGreatDoor
open Go.RowKit
set_option linter.unusedVariables false

theorem cnts_len {l : List Int} {k : Int} (h : cntsB l k = true) : (l.length : Int) = k := by unfold cntsB at h; simp at h; exact h.2
theorem cnts_own {l : List Int} {k : Int} (h : cntsB l k = true) : cntsB l l.length = true := by rw [cnts_len h]; exact h
theorem prof_len {ps : List Fn} {l : List Fp} (h : profB ps l = true) : l.length = ps.length ∧ ∀ k x jl fl al, l[k]? = some (x, jl, fl, al) →
    cntB x = true ∧ cntsB jl (ps.getD k noFn).2.2.length = true ∧ cntsB fl (ps.getD k noFn).2.2.length = true ∧ (al.length : Int) = (ps.getD k noFn).1 ∧ al.all apB = true := by
  unfold profB at h
  simp only [Bool.and_eq_true, decide_eq_true_eq] at h
  obtain ⟨_, hl, hf⟩ := h
  refine ⟨hl, fun k x jl fl al hx => ?_⟩
  unfold fpsB at hf
  have hk := (List.getElem?_eq_some_iff.1 hx).1
  have := List.all_eq_true.1 hf k (List.mem_range.2 hk)
  rw [getD_of_at hx, show ps.getD k noFn = ((ps.getD k noFn).1, (ps.getD k noFn).2.1, (ps.getD k noFn).2.2) from rfl, fpB_eq] at this
  simp only [Bool.and_eq_true, apsB, decide_eq_true_eq] at this
  exact ⟨this.1, this.2.1, this.2.2.1, this.2.2.2.1, this.2.2.2.2⟩

set_option maxRecDepth 100000 in
set_option maxHeartbeats 8000000 in
theorem prCalled_any (pa : Option Addr) (pn pc : Nat) (ps : List Fn) (ra : Option Addr) (rn rc : Nat) (l : List Fp) (fn : Int) (aa : Option Addr) (an ac : Nat) (args : List Int) (w : World) (hp : Fns w pa pn pc ps) (h : Sl layFp 80 w ra rn rc l) (ha : Ints w aa an ac args) (ld : Ld w) :
    Calls Tryz.prog 10 #[.agg #[.slice pa pn pc], .agg #[.slice ra rn rc], .int .i64 fn, .slice aa an ac] w fun e w' => ∃ v, e = .returned (.tuple #[.agg #[v], .int .i64 (calledE ps l fn args)]) ∧ OSl layFp 51 80 w' (fun b => w.heap.size ≤ b) v (calledP ps l fn args) ∧ Below w.heap.size w w' := by
  have HP := hid hp
  have HR := hid h
  have LP := hid hp.len
  have HA := hid ha
  have BAD : Hid (calledB ps l fn args = false → calledP ps l fn args = [] ∧ calledE ps l fn args = 900) := hid (fun h => by unfold calledP calledE; rw [h]; exact ⟨rfl, rfl⟩)
  have GOOD : Hid (calledB ps l fn args = true → calledP ps l fn args = l.set fn.toNat (callFp (l.getD fn.toNat noFp) args) ∧ calledE ps l fn args = 0) := hid (fun h => by unfold calledP calledE; rw [if_pos h, if_pos h]; exact ⟨rfl, rfl⟩)
  have SPLIT : Hid (calledB ps l fn args = (profB ps l && tellB ps fn args)) := hid rfl
  generalize calledP ps l fn args = CP at BAD GOOD ⊢
  generalize calledE ps l fn args = CE at BAD GOOD ⊢
  generalize calledB ps l fn args = CB at BAD GOOD SPLIT
  have W3 : Hid (∃ U : World, U = ((w.alloc (.cells #[.slice pa pn pc] 24)).alloc (.cells #[.slice ra rn rc] 27)).alloc (.cells #[.slice none 0 0] 27)) := hid ⟨_, rfl⟩
  obtain ⟨w3, hw3⟩ := W3.out
  have B3 : Hid (Below w.heap.size w w3) := hid (by rw [hw3]; go_grown)
  have P3 : Hid (w3.cell? ⟨w.heap.size, 0, none⟩ = some (.slice pa pn pc)) := hid (by rw [hw3]; simp [go_sem])
  have R3 : Hid (w3.cell? ⟨w.heap.size + 1, 0, none⟩ = some (.slice ra rn rc) ∧ w3.frozen? ⟨w.heap.size + 1, 0, none⟩ = false) := hid (by rw [hw3]; exact ⟨by simp [go_sem], by simp [go_sem]⟩)
  have Q3 : Hid (w3.cell? ⟨w.heap.size + 2, 0, none⟩ = some (.slice none 0 0) ∧ w3.frozen? ⟨w.heap.size + 2, 0, none⟩ = false) := hid (by rw [hw3]; exact ⟨by simp [go_sem], by simp [go_sem]⟩)
  have hs3 : w.heap.size + 2 < w3.heap.size := lt_of_cell Q3.out.1
  have E3 := hid hw3
  have HM := hid (prMay_any pa pn pc ps ra rn rc l w3 (hp.kept B3.out) (h.kept B3.out) (ld.up B3.out))
  clear hw3 W3 hp h ld ha
  go_enter Tryz.func10, Tryz.ntmps10
  go_wp2_with fail
  refine calls_inU (U := w3) (by rw [E3.out]) ?_
  refine HM.out.mono ?_
  rintro e w4 ⟨rfl, b4⟩
  have B4 := hid (kt B3.out b4)
  have p4 := kept_cell b4 P3.out
  have r4 := kept_cell b4 R3.out.1
  have rf4 := (b4.frozen (p := ⟨w.heap.size + 1, 0, none⟩) (lt_of_cell R3.out.1)).trans R3.out.2
  have q4 := kept_cell b4 Q3.out.1
  have qf4 := (b4.frozen (p := ⟨w.heap.size + 2, 0, none⟩) (lt_of_cell Q3.out.1)).trans Q3.out.2
  have hs4 : w3.heap.size ≤ w4.heap.size := b4.size
  clear b4 E3 P3 R3 Q3 HM
  cases hm : profB ps l
  · obtain ⟨rfl, rfl⟩ := BAD.out (by rw [SPLIT.out, hm]; rfl)
    go_wp2_with fail
    refine bodyPost_ret (v := .tuple #[.agg #[.slice none 0 0], .int .i64 900]) (by simp [results, Tryz.results10, go_sem, q4]) rfl ⟨.slice none 0 0, rfl, OSl.nil _ _ _ _ _, B4.out.setCell (by show w.heap.size ≤ w.heap.size + 2; omega) _⟩
  have P4 := hid p4
  have R4 := hid (And.intro r4 rf4)
  have Q4 := hid (And.intro q4 qf4)
  clear r4 rf4 q4 qf4
  go_wp2_with fail
  refine (prIsCall_any _ _ _ ps _ _ _ _ args _ (HP.out.kept B4.out) (HA.out.kept B4.out)).mono ?_
  rintro e w5 ⟨rfl, b5⟩
  have B5 := hid (kt B4.out b5)
  have r5 := kept_cell b5 R4.out.1
  have rf5 := (b5.frozen (p := ⟨w.heap.size + 1, 0, none⟩) (lt_of_cell R4.out.1)).trans R4.out.2
  have q5 := kept_cell b5 Q4.out.1
  have qf5 := (b5.frozen (p := ⟨w.heap.size + 2, 0, none⟩) (lt_of_cell Q4.out.1)).trans Q4.out.2
  have hs5 : w4.heap.size ≤ w5.heap.size := b5.size
  clear b5 p4 P4 R4 Q4
  cases ht : tellB ps fn args
  · obtain ⟨rfl, rfl⟩ := BAD.out (by rw [SPLIT.out, hm, ht]; rfl)
    go_wp2_with fail
    refine bodyPost_ret (v := .tuple #[.agg #[.slice none 0 0], .int .i64 900]) (by simp [results, Tryz.results10, go_sem, q5]) rfl ⟨.slice none 0 0, rfl, OSl.nil _ _ _ _ _, B5.out.setCell (by show w.heap.size ≤ w.heap.size + 2; omega) _⟩
  obtain ⟨hCP, rfl⟩ := GOOD.out (by rw [SPLIT.out, hm, ht]; rfl)
  have HCP := hid hCP
  have HM := hid hm
  have HTT := hid ht
  have R5 := hid (And.intro r5 rf5)
  have Q5 := hid (And.intro q5 qf5)
  clear q5 qf5 hCP BAD GOOD SPLIT hm
  go_wp2_with fail
  refine (prCopyOf_any _ _ _ l _ (HR.out.kept B5.out)).mono ?_
  rintro e w6 ⟨v6, rfl, o6, b6⟩
  have r6 := kept_cell b6 R5.out.1
  have rf6 := (b6.frozen (p := ⟨w.heap.size + 1, 0, none⟩) (lt_of_cell R5.out.1)).trans R5.out.2
  have q6 := kept_cell b6 Q5.out.1
  have qf6 := (b6.frozen (p := ⟨w.heap.size + 2, 0, none⟩) (lt_of_cell Q5.out.1)).trans Q5.out.2
  have hs6 : w5.heap.size ≤ w6.heap.size := b6.size
  have B6 := hid (kt B5.out b6)
  have O6 := hid o6
  have Q6 := hid (And.intro q6 qf6)
  obtain ⟨a6, n6, c6, rfl, _⟩ := o6.reads
  clear b6 o6 r5 rf5 q6 qf6 R5 Q5
  go_upto_region 4 with fail
  obtain ⟨U, hU⟩ : ∃ U : World, U = w6.setCell ⟨w.heap.size + 1, 0, none⟩ (.slice a6 n6 c6) := ⟨_, rfl⟩
  refine wp_world (U := U) (by rw [hU]) ?_
  have BU : Hid (Below w.heap.size w U) := hid (by rw [hU]; exact B6.out.setCell (by simp) _)
  have OU : Hid (OSl layFp 51 80 U (fun b => w5.heap.size ≤ b) (.slice a6 n6 c6) l) := hid (by rw [hU]; exact O6.out.set _ _ (by show ¬ w5.heap.size ≤ w.heap.size + 1; omega))
  have c7 : U.cell? ⟨w.heap.size + 1, 0, none⟩ = some (.slice a6 n6 c6) := by rw [hU]; exact World.cell?_setCell_same _ _ _ r6
  have q7 : U.cell? ⟨w.heap.size + 2, 0, none⟩ = some (.slice none 0 0) := by rw [hU]; exact cell_set_far Q6.out.1 (by simp)
  have qf7 : U.frozen? ⟨w.heap.size + 2, 0, none⟩ = false := by rw [hU, World.frozen?_setCell]; exact Q6.out.2
  have hsU : w5.heap.size ≤ U.heap.size := by rw [hU]; simpa using hs6
  have C7 := hid c7
  have Q7 := hid (And.intro q7 qf7)
  clear hU r6 rf6 O6 Q6 B6 q7 qf7
  have h8 := (by have := HTT.out; unfold tellB at this; simp only [Bool.and_eq_true] at this; exact this)
  obtain ⟨hin, hrest⟩ := h8
  have hin' : 0 ≤ fn ∧ fn < (ps.length : Int) := by simpa [inB] using hin
  obtain ⟨k, rfl⟩ := Int.eq_ofNat_of_zero_le hin'.1
  rw [Int.toNat_natCast] at hrest
  rw [Int.toNat_natCast] at HCP
  have hkl : k < ps.length := by omega
  obtain ⟨hlen, hkp⟩ := prof_len HM.out
  obtain ⟨⟨x, jl, fl, al⟩, hx⟩ : ∃ f : Fp, l[k]? = some f := ⟨_, List.getElem?_eq_getElem (by omega)⟩
  obtain ⟨hcx, hcj, hcf, hal, hap⟩ := hkp k x jl fl al hx
  obtain ⟨g, cap, cs, Bk, e6, hcap, hBg, hgl, _⟩ := OU.out.elem k _ hx
  cases e6
  have hgx : l.getD k noFp = (x, jl, fl, al) := getD_of_at hx
  rw [hgx] at HCP
  have HN : Hid (args.length = al.length) := hid (by have h := hrest.1; simp only [decide_eq_true_eq] at h; omega)
  have HX := hid hx
  have HCX := hid hcx
  have HAP := hid hap
  have hl6 := OU.out.1
  have LL : (k : Int) < (l.length : Int) := by omega
  have hll : l.length ≤ c6 := hcap
  clear hin hin' hrest hlen hkp hcj hcf hal hx hgx hcx hap hcap hBg hgl
  have HK := hid (prCountCall_any g c6 k _ l x jl fl al _ _ _ args w U OU.out HX.out (fun b hb => by have hb' : w5.heap.size ≤ b := hb; omega) BU.out HCX.out HAP.out HA.out HN.out)
  go_wp2_with fail
  refine HK.out.mono ?_
  rintro e w8 ⟨rfl, o8, b8, f8⟩
  have hs2 : w.heap.size + 2 < w5.heap.size := by omega
  have c8 : w8.cell? ⟨w.heap.size + 1, 0, none⟩ = some (.slice (some ⟨g, 0, none⟩) l.length c6) := f8.cell C7.out (by show ¬ w5.heap.size ≤ w.heap.size + 1; omega)
  have q8 : w8.cell? ⟨w.heap.size + 2, 0, none⟩ = some (.slice none 0 0) := f8.cell Q7.out.1 (by show ¬ w5.heap.size ≤ w.heap.size + 2; omega)
  have qf8 : w8.frozen? ⟨w.heap.size + 2, 0, none⟩ = false := f8.free Q7.out.1 Q7.out.2 (by show ¬ w5.heap.size ≤ w.heap.size + 2; omega)
  have O8 := hid o8
  have B8 := hid b8
  clear o8 b8 f8 c7
  go_wp2_with fail
  refine bodyPost_ret (v := .tuple #[.agg #[.slice (some ⟨g, 0, none⟩) l.length c6], .int .i64 0]) (by simp [results, Tryz.results10, go_sem, q8]) rfl ⟨_, rfl, ?_, B8.out.setCell (by show w.heap.size ≤ w.heap.size + 2; omega) _⟩
  rw [HCP.out]
  exact (O8.out.set _ _ (by show ¬ w5.heap.size ≤ w.heap.size + 2; omega)).sub (fun b hb _ => by have hb' : w5.heap.size ≤ b := hb; show w.heap.size ≤ b; omega)

set_option maxRecDepth 100000 in
set_option maxHeartbeats 8000000 in
theorem prBranched_any (pa : Option Addr) (pn pc : Nat) (ps : List Fn) (ra : Option Addr) (rn rc : Nat) (l : List Fp) (fn at_ : Int) (jumps : Bool) (w : World) (hp : Fns w pa pn pc ps) (h : Sl layFp 80 w ra rn rc l) (ld : Ld w) :
    Calls Tryz.prog 12 #[.agg #[.slice pa pn pc], .agg #[.slice ra rn rc], .int .i64 fn, .int .i64 at_, .bool jumps] w fun e w' => ∃ v, e = .returned (.tuple #[.agg #[v], .int .i64 (branchE ps l fn at_)]) ∧ OSl layFp 51 80 w' (fun b => w.heap.size ≤ b) v (branchP ps l fn at_ jumps) ∧ Below w.heap.size w w' := by
  have HP := hid hp
  have HR := hid h
  have LP := hid hp.len
  have BAD : Hid (branchB ps l fn at_ = false → branchP ps l fn at_ jumps = [] ∧ branchE ps l fn at_ = 900) := hid (fun h => by unfold branchP branchE; rw [h]; exact ⟨rfl, rfl⟩)
  have GOOD : Hid (branchB ps l fn at_ = true → branchP ps l fn at_ jumps = l.set fn.toNat (branchFp (l.getD fn.toNat noFp) at_.toNat jumps) ∧ branchE ps l fn at_ = 0) := hid (fun h => by unfold branchP branchE; rw [if_pos h, if_pos h]; exact ⟨rfl, rfl⟩)
  have SPLIT : Hid (branchB ps l fn at_ = (profB ps l && placeB ps fn at_)) := hid rfl
  generalize branchP ps l fn at_ jumps = CP at BAD GOOD ⊢
  generalize branchE ps l fn at_ = CE at BAD GOOD ⊢
  generalize branchB ps l fn at_ = CB at BAD GOOD SPLIT
  have W3 : Hid (∃ U : World, U = ((w.alloc (.cells #[.slice pa pn pc] 24)).alloc (.cells #[.slice ra rn rc] 27)).alloc (.cells #[.slice none 0 0] 27)) := hid ⟨_, rfl⟩
  obtain ⟨w3, hw3⟩ := W3.out
  have B3 : Hid (Below w.heap.size w w3) := hid (by rw [hw3]; go_grown)
  have P3 : Hid (w3.cell? ⟨w.heap.size, 0, none⟩ = some (.slice pa pn pc)) := hid (by rw [hw3]; simp [go_sem])
  have R3 : Hid (w3.cell? ⟨w.heap.size + 1, 0, none⟩ = some (.slice ra rn rc) ∧ w3.frozen? ⟨w.heap.size + 1, 0, none⟩ = false) := hid (by rw [hw3]; exact ⟨by simp [go_sem], by simp [go_sem]⟩)
  have Q3 : Hid (w3.cell? ⟨w.heap.size + 2, 0, none⟩ = some (.slice none 0 0) ∧ w3.frozen? ⟨w.heap.size + 2, 0, none⟩ = false) := hid (by rw [hw3]; exact ⟨by simp [go_sem], by simp [go_sem]⟩)
  have hs3 : w.heap.size + 2 < w3.heap.size := lt_of_cell Q3.out.1
  have E3 := hid hw3
  have HM := hid (prMay_any pa pn pc ps ra rn rc l w3 (hp.kept B3.out) (h.kept B3.out) (ld.up B3.out))
  clear hw3 W3 hp h ld
  go_enter Tryz.func12, Tryz.ntmps12
  go_wp2_with fail
  refine calls_inU (U := w3) (by rw [E3.out]) ?_
  refine HM.out.mono ?_
  rintro e w4 ⟨rfl, b4⟩
  have B4 := hid (kt B3.out b4)
  have p4 := kept_cell b4 P3.out
  have r4 := kept_cell b4 R3.out.1
  have rf4 := (b4.frozen (p := ⟨w.heap.size + 1, 0, none⟩) (lt_of_cell R3.out.1)).trans R3.out.2
  have q4 := kept_cell b4 Q3.out.1
  have qf4 := (b4.frozen (p := ⟨w.heap.size + 2, 0, none⟩) (lt_of_cell Q3.out.1)).trans Q3.out.2
  have hs4 : w3.heap.size ≤ w4.heap.size := b4.size
  clear b4 E3 P3 R3 Q3 HM
  cases hm : profB ps l
  · obtain ⟨rfl, rfl⟩ := BAD.out (by rw [SPLIT.out, hm]; rfl)
    go_wp2_with fail
    refine bodyPost_ret (v := .tuple #[.agg #[.slice none 0 0], .int .i64 900]) (by simp [results, Tryz.results12, go_sem, q4]) rfl ⟨.slice none 0 0, rfl, OSl.nil _ _ _ _ _, B4.out.setCell (by show w.heap.size ≤ w.heap.size + 2; omega) _⟩
  have P4 := hid p4
  have R4 := hid (And.intro r4 rf4)
  have Q4 := hid (And.intro q4 qf4)
  clear r4 rf4 q4 qf4
  go_wp2_with fail
  refine (prIsBranch_any _ _ _ ps _ _ _ (HP.out.kept B4.out)).mono ?_
  rintro e w5 ⟨rfl, b5⟩
  have B5 := hid (kt B4.out b5)
  have r5 := kept_cell b5 R4.out.1
  have rf5 := (b5.frozen (p := ⟨w.heap.size + 1, 0, none⟩) (lt_of_cell R4.out.1)).trans R4.out.2
  have q5 := kept_cell b5 Q4.out.1
  have qf5 := (b5.frozen (p := ⟨w.heap.size + 2, 0, none⟩) (lt_of_cell Q4.out.1)).trans Q4.out.2
  have hs5 : w4.heap.size ≤ w5.heap.size := b5.size
  clear b5 p4 P4 R4 Q4
  cases ht : placeB ps fn at_
  · obtain ⟨rfl, rfl⟩ := BAD.out (by rw [SPLIT.out, hm, ht]; rfl)
    go_wp2_with fail
    refine bodyPost_ret (v := .tuple #[.agg #[.slice none 0 0], .int .i64 900]) (by simp [results, Tryz.results12, go_sem, q5]) rfl ⟨.slice none 0 0, rfl, OSl.nil _ _ _ _ _, B5.out.setCell (by show w.heap.size ≤ w.heap.size + 2; omega) _⟩
  obtain ⟨hCP, rfl⟩ := GOOD.out (by rw [SPLIT.out, hm, ht]; rfl)
  have HCP := hid hCP
  have HM := hid hm
  have HTT := hid ht
  have R5 := hid (And.intro r5 rf5)
  have Q5 := hid (And.intro q5 qf5)
  clear q5 qf5 hCP BAD GOOD SPLIT hm
  go_wp2_with fail
  refine (prCopyOf_any _ _ _ l _ (HR.out.kept B5.out)).mono ?_
  rintro e w6 ⟨v6, rfl, o6, b6⟩
  have r6 := kept_cell b6 R5.out.1
  have rf6 := (b6.frozen (p := ⟨w.heap.size + 1, 0, none⟩) (lt_of_cell R5.out.1)).trans R5.out.2
  have q6 := kept_cell b6 Q5.out.1
  have qf6 := (b6.frozen (p := ⟨w.heap.size + 2, 0, none⟩) (lt_of_cell Q5.out.1)).trans Q5.out.2
  have hs6 : w5.heap.size ≤ w6.heap.size := b6.size
  have B6 := hid (kt B5.out b6)
  have O6 := hid o6
  have Q6 := hid (And.intro q6 qf6)
  obtain ⟨a6, n6, c6, rfl, _⟩ := o6.reads
  clear b6 o6 r5 rf5 q6 qf6 R5 Q5
  go_upto_region 4 with fail
  obtain ⟨U, hU⟩ : ∃ U : World, U = w6.setCell ⟨w.heap.size + 1, 0, none⟩ (.slice a6 n6 c6) := ⟨_, rfl⟩
  refine wp_world (U := U) (by rw [hU]) ?_
  have BU : Hid (Below w.heap.size w U) := hid (by rw [hU]; exact B6.out.setCell (by simp) _)
  have OU : Hid (OSl layFp 51 80 U (fun b => w5.heap.size ≤ b) (.slice a6 n6 c6) l) := hid (by rw [hU]; exact O6.out.set _ _ (by show ¬ w5.heap.size ≤ w.heap.size + 1; omega))
  have c7 : U.cell? ⟨w.heap.size + 1, 0, none⟩ = some (.slice a6 n6 c6) := by rw [hU]; exact World.cell?_setCell_same _ _ _ r6
  have q7 : U.cell? ⟨w.heap.size + 2, 0, none⟩ = some (.slice none 0 0) := by rw [hU]; exact cell_set_far Q6.out.1 (by simp)
  have qf7 : U.frozen? ⟨w.heap.size + 2, 0, none⟩ = false := by rw [hU, World.frozen?_setCell]; exact Q6.out.2
  have hsU : w5.heap.size ≤ U.heap.size := by rw [hU]; simpa using hs6
  have C7 := hid c7
  have Q7 := hid (And.intro q7 qf7)
  clear hU r6 rf6 O6 Q6 B6 q7 qf7
  have h8 := (by have := HTT.out; unfold placeB at this; simp only [Bool.and_eq_true] at this; exact this)
  obtain ⟨hin, hrest⟩ := h8
  have hin' : 0 ≤ fn ∧ fn < (ps.length : Int) := by simpa [inB] using hin
  obtain ⟨k, rfl⟩ := Int.eq_ofNat_of_zero_le hin'.1
  rw [Int.toNat_natCast] at hrest
  rw [Int.toNat_natCast] at HCP
  have hkl : k < ps.length := by omega
  obtain ⟨hlen, hkp⟩ := prof_len HM.out
  obtain ⟨⟨x, jl, fl, al⟩, hx⟩ : ∃ f : Fp, l[k]? = some f := ⟨_, List.getElem?_eq_getElem (by omega)⟩
  obtain ⟨hcx, hcj, hcf, hal, hap⟩ := hkp k x jl fl al hx
  obtain ⟨g, cap, cs, Bk, e6, hcap, hBg, hgl, _⟩ := OU.out.elem k _ hx
  cases e6
  have hgx : l.getD k noFp = (x, jl, fl, al) := getD_of_at hx
  rw [hgx] at HCP
  have hq : 0 ≤ at_ ∧ at_ < ((ps.getD k noFn).2.2.length : Int) := by simpa [inB] using hrest.1
  obtain ⟨q, rfl⟩ := Int.eq_ofNat_of_zero_le hq.1
  rw [Int.toNat_natCast] at HCP
  have hqj : q < jl.length := by have := cnts_len hcj; omega
  have hqf : q < fl.length := by have := cnts_len hcf; omega
  have HJ : Hid (cntsB jl jl.length = true) := hid (cnts_own hcj)
  have HF : Hid (cntsB fl fl.length = true) := hid (cnts_own hcf)
  have HX := hid hx
  have HCX := hid hcx
  have HAP := hid hap
  have hl6 := OU.out.1
  have LL : (k : Int) < (l.length : Int) := by omega
  have hll : l.length ≤ c6 := hcap
  clear hin hin' hrest hlen hkp hcj hcf hal hx hgx hcx hap hcap hBg hgl
  clear hq
  have HK := hid (prCountBranch_any g c6 k q _ l x jl fl al jumps w U OU.out HX.out (fun b hb => by have hb' : w5.heap.size ≤ b := hb; omega) BU.out HJ.out HF.out hqj hqf)
  go_wp2_with fail
  refine HK.out.mono ?_
  rintro e w8 ⟨rfl, o8, b8, f8⟩
  have hs2 : w.heap.size + 2 < w5.heap.size := by omega
  have c8 : w8.cell? ⟨w.heap.size + 1, 0, none⟩ = some (.slice (some ⟨g, 0, none⟩) l.length c6) := f8.cell C7.out (by show ¬ w5.heap.size ≤ w.heap.size + 1; omega)
  have q8 : w8.cell? ⟨w.heap.size + 2, 0, none⟩ = some (.slice none 0 0) := f8.cell Q7.out.1 (by show ¬ w5.heap.size ≤ w.heap.size + 2; omega)
  have qf8 : w8.frozen? ⟨w.heap.size + 2, 0, none⟩ = false := f8.free Q7.out.1 Q7.out.2 (by show ¬ w5.heap.size ≤ w.heap.size + 2; omega)
  have O8 := hid o8
  have B8 := hid b8
  clear o8 b8 f8 c7
  go_wp2_with fail
  refine bodyPost_ret (v := .tuple #[.agg #[.slice (some ⟨g, 0, none⟩) l.length c6], .int .i64 0]) (by simp [results, Tryz.results12, go_sem, q8]) rfl ⟨_, rfl, ?_, B8.out.setCell (by show w.heap.size ≤ w.heap.size + 2; omega) _⟩
  rw [HCP.out]
  exact (O8.out.set _ _ (by show ¬ w5.heap.size ≤ w.heap.size + 2; omega)).sub (fun b hb _ => by have hb' : w5.heap.size ≤ b := hb; show w.heap.size ≤ b; omega)

end Go.Proofs.YtppmkoigblimmaaGreatDoor

namespace Go.Proofs.YtppmkoigblimmaaGreatDoor
open Go.RowKit
set_option linter.unusedVariables false

set_option maxRecDepth 100000 in
set_option maxHeartbeats 16000000 in
theorem prNew_any (pa : Option Addr) (pn pc : Nat) (ps : List Fn) (w : World) (hp : Fns w pa pn pc ps) (ld : Ld w) :
    Calls Tryz.prog 8 #[.agg #[.slice pa pn pc]] w fun e w' => ∃ v, e = .returned (.tuple #[.agg #[v], .int .i64 (newE ps)]) ∧ OSl layFp 51 80 w' (fun b => w.heap.size ≤ b) v (newP ps) ∧ Below w.heap.size w w' := by
  obtain ⟨i0, hi, hz0, hz1, hz2⟩ := info_parts Tryz.infoFuncProf
  have LP := hid hp.len
  have hpr := hp.room
  have hpc := hp.cap
  have HP := hid hp
  clear hp
  have W2 : Hid (∃ U : World, U = (w.alloc (.cells #[.slice pa pn pc] 24)).alloc (.cells #[.slice none 0 0] 27)) := hid ⟨_, rfl⟩
  obtain ⟨w2, hw2⟩ := W2.out
  have B2 : Hid (Below w.heap.size w w2) := hid (by rw [hw2]; go_grown)
  have P2 : Hid (w2.cell? ⟨w.heap.size, 0, none⟩ = some (.slice pa pn pc)) := hid (by rw [hw2]; simp [go_sem])
  have R2 : Hid (w2.cell? ⟨w.heap.size + 1, 0, none⟩ = some (.slice none 0 0) ∧ w2.frozen? ⟨w.heap.size + 1, 0, none⟩ = false) := hid (by rw [hw2]; exact ⟨by simp [go_sem], by simp [go_sem]⟩)
  have hs2 : w2.heap.size = w.heap.size + 2 := by rw [hw2]; simp
  have E2 := hid hw2
  have LD := hid (ld.up B2.out)
  clear hw2 W2 ld
  go_enter Tryz.func8, Tryz.ntmps8
  go_wp2_with fail
  refine calls_inU (U := w2) (by rw [E2.out]) ?_
  refine (prVerified_any _ _ _ ps _ (HP.out.kept B2.out) LD.out).mono ?_
  rintro e w3 ⟨rfl, b3⟩
  have B3 := hid (kt B2.out b3)
  have P3 := hid (kept_cell b3 P2.out)
  have r3 := kept_cell b3 R2.out.1
  have f3 := (b3.frozen (p := ⟨w.heap.size + 1, 0, none⟩) (lt_of_cell R2.out.1)).trans R2.out.2
  have hs3 : w.heap.size + 2 ≤ w3.heap.size := by have := b3.size; omega
  have R3 := hid (And.intro r3 f3)
  clear b3 E2 P2 R2 hs2 LD
  by_cases hv : verV ps = 0
  rotate_left
  · have HV := hid hv
    have hd : Hid (decide (verV ps = 0) = false) := hid (decide_eq_false hv)
    generalize decide (verV ps = 0) = D at hd
    obtain rfl := hd.out
    clear hv hd
    go_wp2_with fail
    refine bodyPost_ret (v := .tuple #[.agg #[.slice none 0 0], .int .i64 900]) (by simp [results, Tryz.results8, go_sem, r3]) rfl ⟨.slice none 0 0, by simp only [newE, if_neg HV.out], by rw [newP, if_neg HV.out]; exact OSl.nil _ _ _ _ _, B3.out.setCell (by simp) _⟩
  have HV := hid hv
  have hd : Hid (decide (verV ps = 0) = true) := hid (decide_eq_true hv)
  have h8 : ps.length ≤ 8 := (ver_some hv).2
  generalize decide (verV ps = 0) = D at hd
  obtain rfl := hd.out
  clear hv hd
  have W4 : Hid (∃ U : World, U = w3.alloc (.cells #[.slice none 0 0] 27)) := hid ⟨_, rfl⟩
  obtain ⟨w4, hw4⟩ := W4.out
  have A4 : Hid (Below w3.heap.size w3 w4) := hid (by rw [hw4]; exact Below.alloc (Below.refl _ _) (Nat.le_refl _) _)
  have V4 : Hid (w4.cell? ⟨w3.heap.size, 0, none⟩ = some (.slice none 0 0) ∧ w4.frozen? ⟨w3.heap.size, 0, none⟩ = false) := hid (by rw [hw4]; exact ⟨by simp [go_sem], by simp [go_sem]⟩)
  have p4 := kept_cell A4.out P3.out
  have E4 := hid hw4
  clear hw4 W4 P3
  go_upto_region 4 with fail
  refine wp_world (U := w4) (by rw [E4.out]) ?_
  go_wp2_with fail
  clear p4
  go_loopw [14] (fun i wr => ∃ (q : Nat) (va : Option Addr) (vn vc : Nat), q ≤ pn ∧ i = .int .i64 q ∧ wr.cell? ⟨w3.heap.size, 0, none⟩ = some (.slice va vn vc) ∧ wr.frozen? ⟨w3.heap.size, 0, none⟩ = false ∧ OSl layFp 51 80 wr (fun b => w3.heap.size < b) (.slice va vn vc) ((ps.take q).map newFp) ∧ Below w3.heap.size w3 wr) (fun i _ => pn - (intOf i).toNat)
  case atStart => exact ⟨0, none, 0, 0, Nat.zero_le _, rfl, V4.out.1, V4.out.2, OSl.nil _ _ _ _ _, A4.out⟩
  case round =>
    clear r3 f3 E4 V4 A4
    obtain ⟨q, va, vn, vc, hq, rfl, v0, vf, ho, hb⟩ := hrel
    obtain ⟨V, hV⟩ : ∃ V : World, V = wr := ⟨_, rfl⟩
    subst hV
    have HO := hid ho
    have HB := hid hb
    have VC := hid (And.intro v0 vf)
    have hsv := hb.size
    have hsr := lt_of_cell v0
    clear ho
    by_cases hlt : q < pn
    · obtain ⟨b5, o5, fx, fy, ca, cn, cc, code, rfl, hfn, d0, d1, d2, i5⟩ := (HP.out.kept (kt B3.out hb)).at q hlt
      have HFN := hid hfn
      have CL := hid i5.len
      have hfq : q < ps.length := by rw [← LP.out]; exact hlt
      have hver := ver_fn HV.out hfq hfn
      obtain ⟨an, rfl⟩ : ∃ an : Nat, fx = an := ⟨fx.toNat, by omega⟩
      have hcn : cn ≤ 64 := by rw [CL.out]; omega
      have hcc := i5.cap
      have han : an ≤ 4 := by omega
      have hq8 : q < 8 := by omega
      have mkI := make_intsM cn (by omega)
      have mkA := make_aps an (by omega)
      obtain ⟨hol, t, F, h1, h2, h4, h5, h6, h3⟩ := HO.out.clip
      have hlen : ((ps.take q).map newFp).length = q := by simp; omega
      rw [hlen] at h1 h2
      have HT1 := hid h1
      have HT2 := hid h2
      have HT3 := hid (And.intro h4 (And.intro h5 (And.intro h6 h3)))
      have HLEN := hid hlen
      have hq0 : (0 : Int) ≤ (q : Int) := by omega
      have hq1 : (q : Int) < (pn : Int) := by omega
      have NE : Hid (some V.heap.size ≠ (Value.slice va vn vc).ownBlock) := hid (fun e => by have := (h4 _ e.symm).1.2; omega)
      clear hfn i5 hol h1 h2 h4 h5 h6 h3 hlen hb
      go_upto_region 7 with fail
      obtain ⟨V0, hV0⟩ : ∃ U : World, U = V.alloc (.cells #[.int .i64 (an : Int), .int .i64 fy, .slice ca cn cc] 48) := ⟨_, rfl⟩
      refine wp_world (U := V0) hV0 ?_
      have A0 : Hid (Below V.heap.size V V0) := hid (by rw [hV0]; exact Below.alloc (Below.refl _ _) (Nat.le_refl _) _)
      have hs0 : V.heap.size + 1 ≤ V0.heap.size := by rw [hV0]; simp
      have hblk : V0.heap[V.heap.size]? = some (.cells #[.int .i64 (an : Int), .int .i64 fy, .slice ca cn cc] 48) := by rw [hV0]; exact heap_alloc_new _ _
      have d0' := (cell_of_heap (j := 0) hblk rfl).1
      have d2' := (cell_of_heap (j := 2) hblk rfl).1
      have v0' := kept_cell A0.out VC.out.1
      clear hV0 hblk d0 d1 d2 v0 vf
      have SA : Hid (∀ w', Below V0.heap.size V0 w' → (((fun w' => w'.cell? ⟨V.heap.size, 2, none⟩ = some (.slice ca cn cc) ∧ w'.cell? ⟨V.heap.size, 0, none⟩ = some (.int .i64 (an : Int))) w') ∧ ((fun w' => w'.cell? ⟨w3.heap.size, 0, none⟩ = some (.slice va vn vc)) w'))) := hid (fun w' b => ⟨⟨kept_cell b d2', kept_cell b d0'⟩, kept_cell b v0'⟩)
      have BC : Below V0.heap.size V0 V0 := Below.refl _ _
      clear d0' d2' v0'
      refine wp_region_L 17 (fun w' => w'.cell? ⟨V.heap.size, 2, none⟩ = some (.slice ca cn cc) ∧ w'.cell? ⟨V.heap.size, 0, none⟩ = some (.int .i64 (an : Int))) (fun w' => w'.cell? ⟨w3.heap.size, 0, none⟩ = some (.slice va vn vc)) (by kernel_rfl) ?_ (fun hH0 => ?_)
      · (try dsimp only); first | (refine SA.out _ ?_; (repeat (first | with_reducible exact BC | with_reducible refine qDrew ?_ | with_reducible refine qAlloc ?_)); done) | exact ⟨⟨PX.out.1, PX.out.2⟩, q0⟩
      refine wpL_take (i := 0) (oi := ⟨_, _, _, _, _, _⟩) (v := ?_) rfl (by kernel_rfl) (by kernel_rfl) (by kernel_rfl) (by kernel_rfl) (by kernel_rfl) (fun _ _ _ h => h) (Or.inl ⟨by rfl, ?_⟩) (by exact hH0) ?_
      rotate_left
      · (intro x hx; (try dsimp only at hx); go_simp; try (with_reducible rfl))
      try simp only [Act.put, List.setIfInBounds_toArray, List.set_cons_zero, List.set_cons_succ]
      refine wpL_take (i := 1) (oi := ⟨_, _, _, _, _, _⟩) (v := ?_) rfl (by kernel_rfl) (by kernel_rfl) (by kernel_rfl) (by kernel_rfl) (by kernel_rfl) (fun _ _ _ h => h) (Or.inl ⟨by rfl, ?_⟩) (by exact hH0) ?_
      rotate_left
      · (intro x hx; (try dsimp only at hx); go_simp; try (with_reducible rfl))
      try simp only [Act.put, List.setIfInBounds_toArray, List.set_cons_zero, List.set_cons_succ]
      refine wpL_take (i := 2) (oi := ⟨_, _, _, _, _, _⟩) (v := ?_) rfl (by kernel_rfl) (by kernel_rfl) (by kernel_rfl) (by kernel_rfl) (by kernel_rfl) (fun _ _ _ h => h) (Or.inl ⟨by rfl, ?_⟩) (by exact hH0) ?_
      rotate_left
      · (intro x hx; (try dsimp only at hx); go_simp; try (with_reducible rfl))
      try simp only [Act.put, List.setIfInBounds_toArray, List.set_cons_zero, List.set_cons_succ]
      refine wpL_take (i := 3) (oi := ⟨_, _, _, _, _, _⟩) (v := ?_) rfl (by kernel_rfl) (by kernel_rfl) (by kernel_rfl) (by kernel_rfl) (by kernel_rfl) (fun _ _ _ h => h) (Or.inl ⟨by rfl, ?_⟩) (by exact hH0) ?_
      rotate_left
      · (intro x hx; (try dsimp only at hx); go_simp; try (with_reducible rfl))
      try simp only [Act.put, List.setIfInBounds_toArray, List.set_cons_zero, List.set_cons_succ]
      refine wpL_take (i := 4) (oi := ⟨_, _, _, _, _, _⟩) (v := ?_) rfl (by kernel_rfl) (by kernel_rfl) (by kernel_rfl) (by kernel_rfl) (by kernel_rfl) (fun _ _ _ h => h) (Or.inl ⟨by rfl, ?_⟩) (by exact hH0) ?_
      rotate_left
      · (intro x hx; (try dsimp only at hx); go_simp; try (with_reducible rfl))
      try simp only [Act.put, List.setIfInBounds_toArray, List.set_cons_zero, List.set_cons_succ]
      refine wpL_take (i := 6) (oi := ⟨_, _, _, _, _, _⟩) (v := ?_) rfl (by kernel_rfl) (by kernel_rfl) (by kernel_rfl) (by kernel_rfl) (by kernel_rfl) (fun _ _ _ h => h) (Or.inl ⟨by rfl, ?_⟩) (by exact hH0) ?_
      rotate_left
      · (intro x hx; (try dsimp only at hx); go_simp; try (with_reducible rfl))
      try simp only [Act.put, List.setIfInBounds_toArray, List.set_cons_zero, List.set_cons_succ]
      refine wpL_take (i := 7) (oi := ⟨_, _, _, _, _, _⟩) (v := ?_) rfl (by kernel_rfl) (by kernel_rfl) (by kernel_rfl) (by kernel_rfl) (by kernel_rfl) (fun _ _ _ h => h) (Or.inl ⟨by rfl, ?_⟩) (by exact hH0) ?_
      rotate_left
      · (intro x hx; (try dsimp only at hx); go_simp; try (with_reducible rfl))
      try simp only [Act.put, List.setIfInBounds_toArray, List.set_cons_zero, List.set_cons_succ]
      refine wpL_take (i := 8) (oi := ⟨_, _, _, _, _, _⟩) (v := ?_) rfl (by kernel_rfl) (by kernel_rfl) (by kernel_rfl) (by kernel_rfl) (by kernel_rfl) (fun _ _ _ h => h) (Or.inl ⟨by rfl, ?_⟩) (by exact hH0) ?_
      rotate_left
      · (intro x hx; (try dsimp only at hx); go_simp; try (with_reducible rfl))
      try simp only [Act.put, List.setIfInBounds_toArray, List.set_cons_zero, List.set_cons_succ]
      refine wpL_take (i := 10) (oi := ⟨_, _, _, _, _, _⟩) (v := ?_) rfl (by kernel_rfl) (by kernel_rfl) (by kernel_rfl) (by kernel_rfl) (by kernel_rfl) (fun _ _ _ h => h) (Or.inl ⟨by rfl, ?_⟩) (by exact hH0) ?_
      rotate_left
      · (intro x hx; (try dsimp only at hx); go_simp; try (with_reducible rfl))
      try simp only [Act.put, List.setIfInBounds_toArray, List.set_cons_zero, List.set_cons_succ]
      refine wpL_take (i := 11) (oi := ⟨_, _, _, _, _, _⟩) (v := ?_) rfl (by kernel_rfl) (by kernel_rfl) (by kernel_rfl) (by kernel_rfl) (by kernel_rfl) (fun _ _ _ h => h) (Or.inl ⟨by rfl, ?_⟩) (by exact hH0) ?_
      rotate_left
      · (intro x hx; (try dsimp only at hx); go_simp; try (with_reducible rfl))
      try simp only [Act.put, List.setIfInBounds_toArray, List.set_cons_zero, List.set_cons_succ]
      refine wpL_ready (rs := [5, 9, 12]) (by kernel_rfl) (by simp) ?_
      refine eachL_cons (o := ⟨_, _, _, _, _, _⟩) rfl (by rfl) (fun K hK => ?_) ?_
      · skip
        go_simp
        refine hK.out _ _ ?_ (fun hH1 => ?_)
        · (try dsimp only); first | (refine SA.out _ ?_; (repeat (first | with_reducible exact BC | with_reducible refine qDrew ?_ | with_reducible refine qAlloc ?_)); done) | exact ⟨⟨PX.out.1, PX.out.2⟩, q0⟩
        clear hK K hH0
        try simp only [Act.put, List.setIfInBounds_toArray, List.set_cons_zero, List.set_cons_succ]
        refine wpL_ready (rs := [9, 12]) (by kernel_rfl) (by simp) ?_
        refine eachL_cons (o := ⟨_, _, _, _, _, _⟩) rfl (by rfl) (fun K hK => ?_) ?_
        · skip
          go_simp
          refine hK.out _ _ ?_ (fun hH2 => ?_)
          · (try dsimp only); first | (refine SA.out _ ?_; (repeat (first | with_reducible exact BC | with_reducible refine qDrew ?_ | with_reducible refine qAlloc ?_)); done) | exact ⟨⟨PX.out.1, PX.out.2⟩, q0⟩
          clear hK K hH1
          try simp only [Act.put, List.setIfInBounds_toArray, List.set_cons_zero, List.set_cons_succ]
          refine wpL_ready (rs := [12]) (by kernel_rfl) (by simp) ?_
          refine eachL_cons (o := ⟨_, _, _, _, _, _⟩) rfl (by rfl) (fun K hK => ?_) ?_
          · skip
            go_simp
            refine hK.out _ _ ?_ (fun hH3 => ?_)
            · (try dsimp only); first | (refine SA.out _ ?_; (repeat (first | with_reducible exact BC | with_reducible refine qDrew ?_ | with_reducible refine qAlloc ?_)); done) | exact ⟨⟨PX.out.1, PX.out.2⟩, q0⟩
            clear hK K hH2
            try simp only [Act.put, List.setIfInBounds_toArray, List.set_cons_zero, List.set_cons_succ]
            refine wpL_take (i := 13) (oi := ⟨_, _, _, _, _, _⟩) (v := ?_) rfl (by kernel_rfl) (by kernel_rfl) (by kernel_rfl) (by kernel_rfl) (by kernel_rfl) (fun _ _ _ h => h) (Or.inl ⟨by rfl, ?_⟩) (by exact hH3) ?_
            rotate_left
            · (intro x hx; (try dsimp only at hx); go_simp; try (with_reducible rfl))
            try simp only [Act.put, List.setIfInBounds_toArray, List.set_cons_zero, List.set_cons_succ]
            refine wpL_ready (rs := [14]) (by kernel_rfl) (by simp) ?_
            refine eachL_cons (o := ⟨_, _, _, _, _, _⟩) rfl (by rfl) (fun K hK => ?_) ?_
            · skip
              go_simp
              refine hK.out _ _ ?_ (fun hH4 => ?_)
              · (try dsimp only); first | (refine SA.out _ ?_; (repeat (first | with_reducible exact BC | with_reducible refine qDrew ?_ | with_reducible refine qAlloc ?_)); done) | exact ⟨⟨PX.out.1, PX.out.2⟩, q0⟩
              clear hK K hH3
              try simp only [Act.put, List.setIfInBounds_toArray, List.set_cons_zero, List.set_cons_succ]
              refine wpL_ready (rs := [15]) (by kernel_rfl) (by simp) ?_
              refine eachL_cons (o := ⟨_, _, _, _, _, _⟩) rfl (by rfl) (fun K hK => ?_) ?_
              · skip
                refine step_append_lies _ rfl (.tmp 19) (.tmp 32) 25 rfl 0 51 i0 (.agg #[.int .i64 0, .slice none 0 0, .slice none 0 0, .slice none 0 0]) 4 80 Tryz.underlying25 hi hz0 hz1 hz2 rfl (by decide) (.slice va vn vc) q t.flatten (by simp [Act.eval]) (owns_kept (owns_kept HT2.out A0.out) (by repeat (first | with_reducible exact BC | with_reducible refine qDrew ?_ | with_reducible refine qAlloc ?_))) ⟨V0.heap.size + 1 + 1 + 1, 0, none⟩ 1 1 _ (by simp [Act.eval]) rfl (news_of (by simp) _ 51) (by intro u hu; simp at hu; rcases hu with rfl | rfl | rfl | rfl <;> rfl) (by decide) (by unfold maxLen; omega) (by omega) (Nat.zero_le _) (V0.heap.size + 1 + 1 + 1 + 1) (by simp) ?_; intro g' cap' w6 ho6 hg6 hat hlt6; have P := hid (snoc_new (rb := w3.heap.size) ho6 hg6 hat (by simp) (kt A0.out (by repeat (first | with_reducible exact BC | with_reducible refine qDrew ?_ | with_reducible refine qAlloc ?_))) hcn han hq8 HLEN.out HT1.out HT2.out HT3.out hsr VC.out.1 VC.out.2 (by (try rw [drew_heap]); (repeat rw [alloc_at, if_neg (by simp only [World.size_alloc]; omega)]); rw [alloc_at, if_pos (by first | rfl | simp only [World.size_alloc])]; try simp) (by (try rw [drew_heap]); (repeat rw [alloc_at, if_neg (by simp only [World.size_alloc]; omega)]); rw [alloc_at, if_pos (by first | rfl | simp only [World.size_alloc])]; try simp) (by (try rw [drew_heap]); (repeat rw [alloc_at, if_neg (by simp only [World.size_alloc]; omega)]); rw [alloc_at, if_pos (by first | rfl | simp only [World.size_alloc])]; try simp) (by omega) (by omega) (by omega) (by omega) (by omega) (by omega)); obtain ⟨q0, qf⟩ := And.intro P.out.1.2.1 P.out.1.2.2.1; have PX := hid (And.intro (hg6.cell (SA.out _ (by repeat (first | with_reducible exact BC | with_reducible refine qDrew ?_ | with_reducible refine qAlloc ?_))).1.1 NE.out) (hg6.cell (SA.out _ (by repeat (first | with_reducible exact BC | with_reducible refine qDrew ?_ | with_reducible refine qAlloc ?_))).1.2 NE.out)); have PB := hid (grown_below hg6 (rb := w3.heap.size) (show Below V.heap.size V _ from kt A0.out (by repeat (first | with_reducible exact BC | with_reducible refine qDrew ?_ | with_reducible refine qAlloc ?_))) (fun k hk => (HT3.out.1 k hk).1.1) hsv); have hs6 := hg6.size; clear ho6 hg6 hat hlt6
                refine hK.out _ _ ?_ (fun hH5 => ?_)
                · (try dsimp only); first | (refine SA.out _ ?_; (repeat (first | with_reducible exact BC | with_reducible refine qDrew ?_ | with_reducible refine qAlloc ?_)); done) | exact ⟨⟨PX.out.1, PX.out.2⟩, q0⟩
                clear hK K hH4
                try simp only [Act.put, List.setIfInBounds_toArray, List.set_cons_zero, List.set_cons_succ]
                refine wpL_take (i := 16) (oi := ⟨_, _, _, _, _, _⟩) (v := ?_) rfl (by kernel_rfl) (by kernel_rfl) (by kernel_rfl) (by kernel_rfl) (by kernel_rfl) (fun _ _ _ h => h) (Or.inl ⟨by rfl, ?_⟩) (by exact hH5) ?_
                rotate_left
                · (intro x hx; (try dsimp only at hx); go_simp; try (with_reducible rfl))
                try simp only [Act.put, List.setIfInBounds_toArray, List.set_cons_zero, List.set_cons_succ]
                refine wpL_ready (rs := [17]) (by kernel_rfl) (by simp) ?_
                refine eachL_last (o := ⟨_, _, _, _, _, _⟩) rfl (fun K hK => ?_)
                go_simp
                refine hK.out _ _ ?_ ?_
                · (try dsimp only); exact ⟨cell_set_far PX.out.1 (by simp; omega), cell_set_far PX.out.2 (by simp; omega)⟩
                clear hK K
                try simp only [Act.put, List.setIfInBounds_toArray, List.set_cons_zero, List.set_cons_succ]
                refine wpL_done (by kernel_rfl) ?_ _
                go_wp2_with fail
                go_roundw
                case rel =>
                  refine ⟨q + 1, _, _, _, by omega, by go_num, World.cell?_setCell_same _ _ _ q0, by simp [qf], ?_, ?_⟩
                  · rw [take_snoc_getD (by have := LP.out; omega) HFN.out, List.map_append]
                    have e : [((an : Int), fy, code)].map newFp = [(0, List.replicate cn 0, List.replicate cn 0, List.replicate an noAp)] := by simp [newFp, CL.out]
                    rw [e]
                    exact P.out.1.1.set _ _ (by simp)
                  · exact (HB.out.trans PB.out).setCell (by simp) _
                case measure => simp [intOf]; omega
              exact eachL_nil
            exact eachL_nil
          exact eachL_nil
        refine eachL_cons (o := ⟨_, _, _, _, _, _⟩) rfl (by rfl) (fun K hK => ?_) ?_
        · skip
          go_simp
          refine hK.out _ _ ?_ (fun hH6 => ?_)
          · (try dsimp only); first | (refine SA.out _ ?_; (repeat (first | with_reducible exact BC | with_reducible refine qDrew ?_ | with_reducible refine qAlloc ?_)); done) | exact ⟨⟨PX.out.1, PX.out.2⟩, q0⟩
          clear hK K hH1
          try simp only [Act.put, List.setIfInBounds_toArray, List.set_cons_zero, List.set_cons_succ]
          refine wpL_ready (rs := [9]) (by kernel_rfl) (by simp) ?_
          refine eachL_cons (o := ⟨_, _, _, _, _, _⟩) rfl (by rfl) (fun K hK => ?_) ?_
          · skip
            go_simp
            refine hK.out _ _ ?_ (fun hH7 => ?_)
            · (try dsimp only); first | (refine SA.out _ ?_; (repeat (first | with_reducible exact BC | with_reducible refine qDrew ?_ | with_reducible refine qAlloc ?_)); done) | exact ⟨⟨PX.out.1, PX.out.2⟩, q0⟩
            clear hK K hH6
            try simp only [Act.put, List.setIfInBounds_toArray, List.set_cons_zero, List.set_cons_succ]
            refine wpL_take (i := 13) (oi := ⟨_, _, _, _, _, _⟩) (v := ?_) rfl (by kernel_rfl) (by kernel_rfl) (by kernel_rfl) (by kernel_rfl) (by kernel_rfl) (fun _ _ _ h => h) (Or.inl ⟨by rfl, ?_⟩) (by exact hH7) ?_
            rotate_left
            · (intro x hx; (try dsimp only at hx); go_simp; try (with_reducible rfl))
            try simp only [Act.put, List.setIfInBounds_toArray, List.set_cons_zero, List.set_cons_succ]
            refine wpL_ready (rs := [14]) (by kernel_rfl) (by simp) ?_
            refine eachL_cons (o := ⟨_, _, _, _, _, _⟩) rfl (by rfl) (fun K hK => ?_) ?_
            · skip
              go_simp
              refine hK.out _ _ ?_ (fun hH8 => ?_)
              · (try dsimp only); first | (refine SA.out _ ?_; (repeat (first | with_reducible exact BC | with_reducible refine qDrew ?_ | with_reducible refine qAlloc ?_)); done) | exact ⟨⟨PX.out.1, PX.out.2⟩, q0⟩
              clear hK K hH7
              try simp only [Act.put, List.setIfInBounds_toArray, List.set_cons_zero, List.set_cons_succ]
              refine wpL_ready (rs := [15]) (by kernel_rfl) (by simp) ?_
              refine eachL_cons (o := ⟨_, _, _, _, _, _⟩) rfl (by rfl) (fun K hK => ?_) ?_
              · skip
                refine step_append_lies _ rfl (.tmp 19) (.tmp 32) 25 rfl 0 51 i0 (.agg #[.int .i64 0, .slice none 0 0, .slice none 0 0, .slice none 0 0]) 4 80 Tryz.underlying25 hi hz0 hz1 hz2 rfl (by decide) (.slice va vn vc) q t.flatten (by simp [Act.eval]) (owns_kept (owns_kept HT2.out A0.out) (by repeat (first | with_reducible exact BC | with_reducible refine qDrew ?_ | with_reducible refine qAlloc ?_))) ⟨V0.heap.size + 1 + 1 + 1, 0, none⟩ 1 1 _ (by simp [Act.eval]) rfl (news_of (by simp) _ 51) (by intro u hu; simp at hu; rcases hu with rfl | rfl | rfl | rfl <;> rfl) (by decide) (by unfold maxLen; omega) (by omega) (Nat.zero_le _) (V0.heap.size + 1 + 1 + 1 + 1) (by simp) ?_; intro g' cap' w6 ho6 hg6 hat hlt6; have P := hid (snoc_new (rb := w3.heap.size) ho6 hg6 hat (by simp) (kt A0.out (by repeat (first | with_reducible exact BC | with_reducible refine qDrew ?_ | with_reducible refine qAlloc ?_))) hcn han hq8 HLEN.out HT1.out HT2.out HT3.out hsr VC.out.1 VC.out.2 (by (try rw [drew_heap]); (repeat rw [alloc_at, if_neg (by simp only [World.size_alloc]; omega)]); rw [alloc_at, if_pos (by first | rfl | simp only [World.size_alloc])]; try simp) (by (try rw [drew_heap]); (repeat rw [alloc_at, if_neg (by simp only [World.size_alloc]; omega)]); rw [alloc_at, if_pos (by first | rfl | simp only [World.size_alloc])]; try simp) (by (try rw [drew_heap]); (repeat rw [alloc_at, if_neg (by simp only [World.size_alloc]; omega)]); rw [alloc_at, if_pos (by first | rfl | simp only [World.size_alloc])]; try simp) (by omega) (by omega) (by omega) (by omega) (by omega) (by omega)); obtain ⟨q0, qf⟩ := And.intro P.out.1.2.1 P.out.1.2.2.1; have PX := hid (And.intro (hg6.cell (SA.out _ (by repeat (first | with_reducible exact BC | with_reducible refine qDrew ?_ | with_reducible refine qAlloc ?_))).1.1 NE.out) (hg6.cell (SA.out _ (by repeat (first | with_reducible exact BC | with_reducible refine qDrew ?_ | with_reducible refine qAlloc ?_))).1.2 NE.out)); have PB := hid (grown_below hg6 (rb := w3.heap.size) (show Below V.heap.size V _ from kt A0.out (by repeat (first | with_reducible exact BC | with_reducible refine qDrew ?_ | with_reducible refine qAlloc ?_))) (fun k hk => (HT3.out.1 k hk).1.1) hsv); have hs6 := hg6.size; clear ho6 hg6 hat hlt6
                refine hK.out _ _ ?_ (fun hH9 => ?_)
                · (try dsimp only); first | (refine SA.out _ ?_; (repeat (first | with_reducible exact BC | with_reducible refine qDrew ?_ | with_reducible refine qAlloc ?_)); done) | exact ⟨⟨PX.out.1, PX.out.2⟩, q0⟩
                clear hK K hH8
                try simp only [Act.put, List.setIfInBounds_toArray, List.set_cons_zero, List.set_cons_succ]
                refine wpL_take (i := 16) (oi := ⟨_, _, _, _, _, _⟩) (v := ?_) rfl (by kernel_rfl) (by kernel_rfl) (by kernel_rfl) (by kernel_rfl) (by kernel_rfl) (fun _ _ _ h => h) (Or.inl ⟨by rfl, ?_⟩) (by exact hH9) ?_
                rotate_left
                · (intro x hx; (try dsimp only at hx); go_simp; try (with_reducible rfl))
                try simp only [Act.put, List.setIfInBounds_toArray, List.set_cons_zero, List.set_cons_succ]
                refine wpL_ready (rs := [17]) (by kernel_rfl) (by simp) ?_
                refine eachL_last (o := ⟨_, _, _, _, _, _⟩) rfl (fun K hK => ?_)
                go_simp
                refine hK.out _ _ ?_ ?_
                · (try dsimp only); exact ⟨cell_set_far PX.out.1 (by simp; omega), cell_set_far PX.out.2 (by simp; omega)⟩
                clear hK K
                try simp only [Act.put, List.setIfInBounds_toArray, List.set_cons_zero, List.set_cons_succ]
                refine wpL_done (by kernel_rfl) ?_ _
                go_wp2_with fail
                go_roundw
                case rel =>
                  refine ⟨q + 1, _, _, _, by omega, by go_num, World.cell?_setCell_same _ _ _ q0, by simp [qf], ?_, ?_⟩
                  · rw [take_snoc_getD (by have := LP.out; omega) HFN.out, List.map_append]
                    have e : [((an : Int), fy, code)].map newFp = [(0, List.replicate cn 0, List.replicate cn 0, List.replicate an noAp)] := by simp [newFp, CL.out]
                    rw [e]
                    exact P.out.1.1.set _ _ (by simp)
                  · exact (HB.out.trans PB.out).setCell (by simp) _
                case measure => simp [intOf]; omega
              exact eachL_nil
            exact eachL_nil
          exact eachL_nil
        exact eachL_nil
      refine eachL_cons (o := ⟨_, _, _, _, _, _⟩) rfl (by rfl) (fun K hK => ?_) ?_
      · skip
        go_simp
        refine hK.out _ _ ?_ (fun hH10 => ?_)
        · (try dsimp only); first | (refine SA.out _ ?_; (repeat (first | with_reducible exact BC | with_reducible refine qDrew ?_ | with_reducible refine qAlloc ?_)); done) | exact ⟨⟨PX.out.1, PX.out.2⟩, q0⟩
        clear hK K hH0
        try simp only [Act.put, List.setIfInBounds_toArray, List.set_cons_zero, List.set_cons_succ]
        refine wpL_ready (rs := [5, 12]) (by kernel_rfl) (by simp) ?_
        refine eachL_cons (o := ⟨_, _, _, _, _, _⟩) rfl (by rfl) (fun K hK => ?_) ?_
        · skip
          go_simp
          refine hK.out _ _ ?_ (fun hH11 => ?_)
          · (try dsimp only); first | (refine SA.out _ ?_; (repeat (first | with_reducible exact BC | with_reducible refine qDrew ?_ | with_reducible refine qAlloc ?_)); done) | exact ⟨⟨PX.out.1, PX.out.2⟩, q0⟩
          clear hK K hH10
          try simp only [Act.put, List.setIfInBounds_toArray, List.set_cons_zero, List.set_cons_succ]
          refine wpL_ready (rs := [12]) (by kernel_rfl) (by simp) ?_
          refine eachL_cons (o := ⟨_, _, _, _, _, _⟩) rfl (by rfl) (fun K hK => ?_) ?_
          · skip
            go_simp
            refine hK.out _ _ ?_ (fun hH12 => ?_)
            · (try dsimp only); first | (refine SA.out _ ?_; (repeat (first | with_reducible exact BC | with_reducible refine qDrew ?_ | with_reducible refine qAlloc ?_)); done) | exact ⟨⟨PX.out.1, PX.out.2⟩, q0⟩
            clear hK K hH11
            try simp only [Act.put, List.setIfInBounds_toArray, List.set_cons_zero, List.set_cons_succ]
            refine wpL_take (i := 13) (oi := ⟨_, _, _, _, _, _⟩) (v := ?_) rfl (by kernel_rfl) (by kernel_rfl) (by kernel_rfl) (by kernel_rfl) (by kernel_rfl) (fun _ _ _ h => h) (Or.inl ⟨by rfl, ?_⟩) (by exact hH12) ?_
            rotate_left
            · (intro x hx; (try dsimp only at hx); go_simp; try (with_reducible rfl))
            try simp only [Act.put, List.setIfInBounds_toArray, List.set_cons_zero, List.set_cons_succ]
            refine wpL_ready (rs := [14]) (by kernel_rfl) (by simp) ?_
            refine eachL_cons (o := ⟨_, _, _, _, _, _⟩) rfl (by rfl) (fun K hK => ?_) ?_
            · skip
              go_simp
              refine hK.out _ _ ?_ (fun hH13 => ?_)
              · (try dsimp only); first | (refine SA.out _ ?_; (repeat (first | with_reducible exact BC | with_reducible refine qDrew ?_ | with_reducible refine qAlloc ?_)); done) | exact ⟨⟨PX.out.1, PX.out.2⟩, q0⟩
              clear hK K hH12
              try simp only [Act.put, List.setIfInBounds_toArray, List.set_cons_zero, List.set_cons_succ]
              refine wpL_ready (rs := [15]) (by kernel_rfl) (by simp) ?_
              refine eachL_cons (o := ⟨_, _, _, _, _, _⟩) rfl (by rfl) (fun K hK => ?_) ?_
              · skip
                refine step_append_lies _ rfl (.tmp 19) (.tmp 32) 25 rfl 0 51 i0 (.agg #[.int .i64 0, .slice none 0 0, .slice none 0 0, .slice none 0 0]) 4 80 Tryz.underlying25 hi hz0 hz1 hz2 rfl (by decide) (.slice va vn vc) q t.flatten (by simp [Act.eval]) (owns_kept (owns_kept HT2.out A0.out) (by repeat (first | with_reducible exact BC | with_reducible refine qDrew ?_ | with_reducible refine qAlloc ?_))) ⟨V0.heap.size + 1 + 1 + 1, 0, none⟩ 1 1 _ (by simp [Act.eval]) rfl (news_of (by simp) _ 51) (by intro u hu; simp at hu; rcases hu with rfl | rfl | rfl | rfl <;> rfl) (by decide) (by unfold maxLen; omega) (by omega) (Nat.zero_le _) (V0.heap.size + 1 + 1 + 1 + 1) (by simp) ?_; intro g' cap' w6 ho6 hg6 hat hlt6; have P := hid (snoc_new (rb := w3.heap.size) ho6 hg6 hat (by simp) (kt A0.out (by repeat (first | with_reducible exact BC | with_reducible refine qDrew ?_ | with_reducible refine qAlloc ?_))) hcn han hq8 HLEN.out HT1.out HT2.out HT3.out hsr VC.out.1 VC.out.2 (by (try rw [drew_heap]); (repeat rw [alloc_at, if_neg (by simp only [World.size_alloc]; omega)]); rw [alloc_at, if_pos (by first | rfl | simp only [World.size_alloc])]; try simp) (by (try rw [drew_heap]); (repeat rw [alloc_at, if_neg (by simp only [World.size_alloc]; omega)]); rw [alloc_at, if_pos (by first | rfl | simp only [World.size_alloc])]; try simp) (by (try rw [drew_heap]); (repeat rw [alloc_at, if_neg (by simp only [World.size_alloc]; omega)]); rw [alloc_at, if_pos (by first | rfl | simp only [World.size_alloc])]; try simp) (by omega) (by omega) (by omega) (by omega) (by omega) (by omega)); obtain ⟨q0, qf⟩ := And.intro P.out.1.2.1 P.out.1.2.2.1; have PX := hid (And.intro (hg6.cell (SA.out _ (by repeat (first | with_reducible exact BC | with_reducible refine qDrew ?_ | with_reducible refine qAlloc ?_))).1.1 NE.out) (hg6.cell (SA.out _ (by repeat (first | with_reducible exact BC | with_reducible refine qDrew ?_ | with_reducible refine qAlloc ?_))).1.2 NE.out)); have PB := hid (grown_below hg6 (rb := w3.heap.size) (show Below V.heap.size V _ from kt A0.out (by repeat (first | with_reducible exact BC | with_reducible refine qDrew ?_ | with_reducible refine qAlloc ?_))) (fun k hk => (HT3.out.1 k hk).1.1) hsv); have hs6 := hg6.size; clear ho6 hg6 hat hlt6
                refine hK.out _ _ ?_ (fun hH14 => ?_)
                · (try dsimp only); first | (refine SA.out _ ?_; (repeat (first | with_reducible exact BC | with_reducible refine qDrew ?_ | with_reducible refine qAlloc ?_)); done) | exact ⟨⟨PX.out.1, PX.out.2⟩, q0⟩
                clear hK K hH13
                try simp only [Act.put, List.setIfInBounds_toArray, List.set_cons_zero, List.set_cons_succ]
                refine wpL_take (i := 16) (oi := ⟨_, _, _, _, _, _⟩) (v := ?_) rfl (by kernel_rfl) (by kernel_rfl) (by kernel_rfl) (by kernel_rfl) (by kernel_rfl) (fun _ _ _ h => h) (Or.inl ⟨by rfl, ?_⟩) (by exact hH14) ?_
                rotate_left
                · (intro x hx; (try dsimp only at hx); go_simp; try (with_reducible rfl))
                try simp only [Act.put, List.setIfInBounds_toArray, List.set_cons_zero, List.set_cons_succ]
                refine wpL_ready (rs := [17]) (by kernel_rfl) (by simp) ?_
                refine eachL_last (o := ⟨_, _, _, _, _, _⟩) rfl (fun K hK => ?_)
                go_simp
                refine hK.out _ _ ?_ ?_
                · (try dsimp only); exact ⟨cell_set_far PX.out.1 (by simp; omega), cell_set_far PX.out.2 (by simp; omega)⟩
                clear hK K
                try simp only [Act.put, List.setIfInBounds_toArray, List.set_cons_zero, List.set_cons_succ]
                refine wpL_done (by kernel_rfl) ?_ _
                go_wp2_with fail
                go_roundw
                case rel =>
                  refine ⟨q + 1, _, _, _, by omega, by go_num, World.cell?_setCell_same _ _ _ q0, by simp [qf], ?_, ?_⟩
                  · rw [take_snoc_getD (by have := LP.out; omega) HFN.out, List.map_append]
                    have e : [((an : Int), fy, code)].map newFp = [(0, List.replicate cn 0, List.replicate cn 0, List.replicate an noAp)] := by simp [newFp, CL.out]
                    rw [e]
                    exact P.out.1.1.set _ _ (by simp)
                  · exact (HB.out.trans PB.out).setCell (by simp) _
                case measure => simp [intOf]; omega
              exact eachL_nil
            exact eachL_nil
          exact eachL_nil
        refine eachL_cons (o := ⟨_, _, _, _, _, _⟩) rfl (by rfl) (fun K hK => ?_) ?_
        · skip
          go_simp
          refine hK.out _ _ ?_ (fun hH15 => ?_)
          · (try dsimp only); first | (refine SA.out _ ?_; (repeat (first | with_reducible exact BC | with_reducible refine qDrew ?_ | with_reducible refine qAlloc ?_)); done) | exact ⟨⟨PX.out.1, PX.out.2⟩, q0⟩
          clear hK K hH10
          try simp only [Act.put, List.setIfInBounds_toArray, List.set_cons_zero, List.set_cons_succ]
          refine wpL_ready (rs := [5]) (by kernel_rfl) (by simp) ?_
          refine eachL_cons (o := ⟨_, _, _, _, _, _⟩) rfl (by rfl) (fun K hK => ?_) ?_
          · skip
            go_simp
            refine hK.out _ _ ?_ (fun hH16 => ?_)
            · (try dsimp only); first | (refine SA.out _ ?_; (repeat (first | with_reducible exact BC | with_reducible refine qDrew ?_ | with_reducible refine qAlloc ?_)); done) | exact ⟨⟨PX.out.1, PX.out.2⟩, q0⟩
            clear hK K hH15
            try simp only [Act.put, List.setIfInBounds_toArray, List.set_cons_zero, List.set_cons_succ]
            refine wpL_take (i := 13) (oi := ⟨_, _, _, _, _, _⟩) (v := ?_) rfl (by kernel_rfl) (by kernel_rfl) (by kernel_rfl) (by kernel_rfl) (by kernel_rfl) (fun _ _ _ h => h) (Or.inl ⟨by rfl, ?_⟩) (by exact hH16) ?_
            rotate_left
            · (intro x hx; (try dsimp only at hx); go_simp; try (with_reducible rfl))
            try simp only [Act.put, List.setIfInBounds_toArray, List.set_cons_zero, List.set_cons_succ]
            refine wpL_ready (rs := [14]) (by kernel_rfl) (by simp) ?_
            refine eachL_cons (o := ⟨_, _, _, _, _, _⟩) rfl (by rfl) (fun K hK => ?_) ?_
            · skip
              go_simp
              refine hK.out _ _ ?_ (fun hH17 => ?_)
              · (try dsimp only); first | (refine SA.out _ ?_; (repeat (first | with_reducible exact BC | with_reducible refine qDrew ?_ | with_reducible refine qAlloc ?_)); done) | exact ⟨⟨PX.out.1, PX.out.2⟩, q0⟩
              clear hK K hH16
              try simp only [Act.put, List.setIfInBounds_toArray, List.set_cons_zero, List.set_cons_succ]
              refine wpL_ready (rs := [15]) (by kernel_rfl) (by simp) ?_
              refine eachL_cons (o := ⟨_, _, _, _, _, _⟩) rfl (by rfl) (fun K hK => ?_) ?_
              · skip
                refine step_append_lies _ rfl (.tmp 19) (.tmp 32) 25 rfl 0 51 i0 (.agg #[.int .i64 0, .slice none 0 0, .slice none 0 0, .slice none 0 0]) 4 80 Tryz.underlying25 hi hz0 hz1 hz2 rfl (by decide) (.slice va vn vc) q t.flatten (by simp [Act.eval]) (owns_kept (owns_kept HT2.out A0.out) (by repeat (first | with_reducible exact BC | with_reducible refine qDrew ?_ | with_reducible refine qAlloc ?_))) ⟨V0.heap.size + 1 + 1 + 1, 0, none⟩ 1 1 _ (by simp [Act.eval]) rfl (news_of (by simp) _ 51) (by intro u hu; simp at hu; rcases hu with rfl | rfl | rfl | rfl <;> rfl) (by decide) (by unfold maxLen; omega) (by omega) (Nat.zero_le _) (V0.heap.size + 1 + 1 + 1 + 1) (by simp) ?_; intro g' cap' w6 ho6 hg6 hat hlt6; have P := hid (snoc_new (rb := w3.heap.size) ho6 hg6 hat (by simp) (kt A0.out (by repeat (first | with_reducible exact BC | with_reducible refine qDrew ?_ | with_reducible refine qAlloc ?_))) hcn han hq8 HLEN.out HT1.out HT2.out HT3.out hsr VC.out.1 VC.out.2 (by (try rw [drew_heap]); (repeat rw [alloc_at, if_neg (by simp only [World.size_alloc]; omega)]); rw [alloc_at, if_pos (by first | rfl | simp only [World.size_alloc])]; try simp) (by (try rw [drew_heap]); (repeat rw [alloc_at, if_neg (by simp only [World.size_alloc]; omega)]); rw [alloc_at, if_pos (by first | rfl | simp only [World.size_alloc])]; try simp) (by (try rw [drew_heap]); (repeat rw [alloc_at, if_neg (by simp only [World.size_alloc]; omega)]); rw [alloc_at, if_pos (by first | rfl | simp only [World.size_alloc])]; try simp) (by omega) (by omega) (by omega) (by omega) (by omega) (by omega)); obtain ⟨q0, qf⟩ := And.intro P.out.1.2.1 P.out.1.2.2.1; have PX := hid (And.intro (hg6.cell (SA.out _ (by repeat (first | with_reducible exact BC | with_reducible refine qDrew ?_ | with_reducible refine qAlloc ?_))).1.1 NE.out) (hg6.cell (SA.out _ (by repeat (first | with_reducible exact BC | with_reducible refine qDrew ?_ | with_reducible refine qAlloc ?_))).1.2 NE.out)); have PB := hid (grown_below hg6 (rb := w3.heap.size) (show Below V.heap.size V _ from kt A0.out (by repeat (first | with_reducible exact BC | with_reducible refine qDrew ?_ | with_reducible refine qAlloc ?_))) (fun k hk => (HT3.out.1 k hk).1.1) hsv); have hs6 := hg6.size; clear ho6 hg6 hat hlt6
                refine hK.out _ _ ?_ (fun hH18 => ?_)
                · (try dsimp only); first | (refine SA.out _ ?_; (repeat (first | with_reducible exact BC | with_reducible refine qDrew ?_ | with_reducible refine qAlloc ?_)); done) | exact ⟨⟨PX.out.1, PX.out.2⟩, q0⟩
                clear hK K hH17
                try simp only [Act.put, List.setIfInBounds_toArray, List.set_cons_zero, List.set_cons_succ]
                refine wpL_take (i := 16) (oi := ⟨_, _, _, _, _, _⟩) (v := ?_) rfl (by kernel_rfl) (by kernel_rfl) (by kernel_rfl) (by kernel_rfl) (by kernel_rfl) (fun _ _ _ h => h) (Or.inl ⟨by rfl, ?_⟩) (by exact hH18) ?_
                rotate_left
                · (intro x hx; (try dsimp only at hx); go_simp; try (with_reducible rfl))
                try simp only [Act.put, List.setIfInBounds_toArray, List.set_cons_zero, List.set_cons_succ]
                refine wpL_ready (rs := [17]) (by kernel_rfl) (by simp) ?_
                refine eachL_last (o := ⟨_, _, _, _, _, _⟩) rfl (fun K hK => ?_)
                go_simp
                refine hK.out _ _ ?_ ?_
                · (try dsimp only); exact ⟨cell_set_far PX.out.1 (by simp; omega), cell_set_far PX.out.2 (by simp; omega)⟩
                clear hK K
                try simp only [Act.put, List.setIfInBounds_toArray, List.set_cons_zero, List.set_cons_succ]
                refine wpL_done (by kernel_rfl) ?_ _
                go_wp2_with fail
                go_roundw
                case rel =>
                  refine ⟨q + 1, _, _, _, by omega, by go_num, World.cell?_setCell_same _ _ _ q0, by simp [qf], ?_, ?_⟩
                  · rw [take_snoc_getD (by have := LP.out; omega) HFN.out, List.map_append]
                    have e : [((an : Int), fy, code)].map newFp = [(0, List.replicate cn 0, List.replicate cn 0, List.replicate an noAp)] := by simp [newFp, CL.out]
                    rw [e]
                    exact P.out.1.1.set _ _ (by simp)
                  · exact (HB.out.trans PB.out).setCell (by simp) _
                case measure => simp [intOf]; omega
              exact eachL_nil
            exact eachL_nil
          exact eachL_nil
        exact eachL_nil
      refine eachL_cons (o := ⟨_, _, _, _, _, _⟩) rfl (by rfl) (fun K hK => ?_) ?_
      · skip
        go_simp
        refine hK.out _ _ ?_ (fun hH19 => ?_)
        · (try dsimp only); first | (refine SA.out _ ?_; (repeat (first | with_reducible exact BC | with_reducible refine qDrew ?_ | with_reducible refine qAlloc ?_)); done) | exact ⟨⟨PX.out.1, PX.out.2⟩, q0⟩
        clear hK K hH0
        try simp only [Act.put, List.setIfInBounds_toArray, List.set_cons_zero, List.set_cons_succ]
        refine wpL_ready (rs := [5, 9]) (by kernel_rfl) (by simp) ?_
        refine eachL_cons (o := ⟨_, _, _, _, _, _⟩) rfl (by rfl) (fun K hK => ?_) ?_
        · skip
          go_simp
          refine hK.out _ _ ?_ (fun hH20 => ?_)
          · (try dsimp only); first | (refine SA.out _ ?_; (repeat (first | with_reducible exact BC | with_reducible refine qDrew ?_ | with_reducible refine qAlloc ?_)); done) | exact ⟨⟨PX.out.1, PX.out.2⟩, q0⟩
          clear hK K hH19
          try simp only [Act.put, List.setIfInBounds_toArray, List.set_cons_zero, List.set_cons_succ]
          refine wpL_ready (rs := [9]) (by kernel_rfl) (by simp) ?_
          refine eachL_cons (o := ⟨_, _, _, _, _, _⟩) rfl (by rfl) (fun K hK => ?_) ?_
          · skip
            go_simp
            refine hK.out _ _ ?_ (fun hH21 => ?_)
            · (try dsimp only); first | (refine SA.out _ ?_; (repeat (first | with_reducible exact BC | with_reducible refine qDrew ?_ | with_reducible refine qAlloc ?_)); done) | exact ⟨⟨PX.out.1, PX.out.2⟩, q0⟩
            clear hK K hH20
            try simp only [Act.put, List.setIfInBounds_toArray, List.set_cons_zero, List.set_cons_succ]
            refine wpL_take (i := 13) (oi := ⟨_, _, _, _, _, _⟩) (v := ?_) rfl (by kernel_rfl) (by kernel_rfl) (by kernel_rfl) (by kernel_rfl) (by kernel_rfl) (fun _ _ _ h => h) (Or.inl ⟨by rfl, ?_⟩) (by exact hH21) ?_
            rotate_left
            · (intro x hx; (try dsimp only at hx); go_simp; try (with_reducible rfl))
            try simp only [Act.put, List.setIfInBounds_toArray, List.set_cons_zero, List.set_cons_succ]
            refine wpL_ready (rs := [14]) (by kernel_rfl) (by simp) ?_
            refine eachL_cons (o := ⟨_, _, _, _, _, _⟩) rfl (by rfl) (fun K hK => ?_) ?_
            · skip
              go_simp
              refine hK.out _ _ ?_ (fun hH22 => ?_)
              · (try dsimp only); first | (refine SA.out _ ?_; (repeat (first | with_reducible exact BC | with_reducible refine qDrew ?_ | with_reducible refine qAlloc ?_)); done) | exact ⟨⟨PX.out.1, PX.out.2⟩, q0⟩
              clear hK K hH21
              try simp only [Act.put, List.setIfInBounds_toArray, List.set_cons_zero, List.set_cons_succ]
              refine wpL_ready (rs := [15]) (by kernel_rfl) (by simp) ?_
              refine eachL_cons (o := ⟨_, _, _, _, _, _⟩) rfl (by rfl) (fun K hK => ?_) ?_
              · skip
                refine step_append_lies _ rfl (.tmp 19) (.tmp 32) 25 rfl 0 51 i0 (.agg #[.int .i64 0, .slice none 0 0, .slice none 0 0, .slice none 0 0]) 4 80 Tryz.underlying25 hi hz0 hz1 hz2 rfl (by decide) (.slice va vn vc) q t.flatten (by simp [Act.eval]) (owns_kept (owns_kept HT2.out A0.out) (by repeat (first | with_reducible exact BC | with_reducible refine qDrew ?_ | with_reducible refine qAlloc ?_))) ⟨V0.heap.size + 1 + 1 + 1, 0, none⟩ 1 1 _ (by simp [Act.eval]) rfl (news_of (by simp) _ 51) (by intro u hu; simp at hu; rcases hu with rfl | rfl | rfl | rfl <;> rfl) (by decide) (by unfold maxLen; omega) (by omega) (Nat.zero_le _) (V0.heap.size + 1 + 1 + 1 + 1) (by simp) ?_; intro g' cap' w6 ho6 hg6 hat hlt6; have P := hid (snoc_new (rb := w3.heap.size) ho6 hg6 hat (by simp) (kt A0.out (by repeat (first | with_reducible exact BC | with_reducible refine qDrew ?_ | with_reducible refine qAlloc ?_))) hcn han hq8 HLEN.out HT1.out HT2.out HT3.out hsr VC.out.1 VC.out.2 (by (try rw [drew_heap]); (repeat rw [alloc_at, if_neg (by simp only [World.size_alloc]; omega)]); rw [alloc_at, if_pos (by first | rfl | simp only [World.size_alloc])]; try simp) (by (try rw [drew_heap]); (repeat rw [alloc_at, if_neg (by simp only [World.size_alloc]; omega)]); rw [alloc_at, if_pos (by first | rfl | simp only [World.size_alloc])]; try simp) (by (try rw [drew_heap]); (repeat rw [alloc_at, if_neg (by simp only [World.size_alloc]; omega)]); rw [alloc_at, if_pos (by first | rfl | simp only [World.size_alloc])]; try simp) (by omega) (by omega) (by omega) (by omega) (by omega) (by omega)); obtain ⟨q0, qf⟩ := And.intro P.out.1.2.1 P.out.1.2.2.1; have PX := hid (And.intro (hg6.cell (SA.out _ (by repeat (first | with_reducible exact BC | with_reducible refine qDrew ?_ | with_reducible refine qAlloc ?_))).1.1 NE.out) (hg6.cell (SA.out _ (by repeat (first | with_reducible exact BC | with_reducible refine qDrew ?_ | with_reducible refine qAlloc ?_))).1.2 NE.out)); have PB := hid (grown_below hg6 (rb := w3.heap.size) (show Below V.heap.size V _ from kt A0.out (by repeat (first | with_reducible exact BC | with_reducible refine qDrew ?_ | with_reducible refine qAlloc ?_))) (fun k hk => (HT3.out.1 k hk).1.1) hsv); have hs6 := hg6.size; clear ho6 hg6 hat hlt6
                refine hK.out _ _ ?_ (fun hH23 => ?_)
                · (try dsimp only); first | (refine SA.out _ ?_; (repeat (first | with_reducible exact BC | with_reducible refine qDrew ?_ | with_reducible refine qAlloc ?_)); done) | exact ⟨⟨PX.out.1, PX.out.2⟩, q0⟩
                clear hK K hH22
                try simp only [Act.put, List.setIfInBounds_toArray, List.set_cons_zero, List.set_cons_succ]
                refine wpL_take (i := 16) (oi := ⟨_, _, _, _, _, _⟩) (v := ?_) rfl (by kernel_rfl) (by kernel_rfl) (by kernel_rfl) (by kernel_rfl) (by kernel_rfl) (fun _ _ _ h => h) (Or.inl ⟨by rfl, ?_⟩) (by exact hH23) ?_
                rotate_left
                · (intro x hx; (try dsimp only at hx); go_simp; try (with_reducible rfl))
                try simp only [Act.put, List.setIfInBounds_toArray, List.set_cons_zero, List.set_cons_succ]
                refine wpL_ready (rs := [17]) (by kernel_rfl) (by simp) ?_
                refine eachL_last (o := ⟨_, _, _, _, _, _⟩) rfl (fun K hK => ?_)
                go_simp
                refine hK.out _ _ ?_ ?_
                · (try dsimp only); exact ⟨cell_set_far PX.out.1 (by simp; omega), cell_set_far PX.out.2 (by simp; omega)⟩
                clear hK K
                try simp only [Act.put, List.setIfInBounds_toArray, List.set_cons_zero, List.set_cons_succ]
                refine wpL_done (by kernel_rfl) ?_ _
                go_wp2_with fail
                go_roundw
                case rel =>
                  refine ⟨q + 1, _, _, _, by omega, by go_num, World.cell?_setCell_same _ _ _ q0, by simp [qf], ?_, ?_⟩
                  · rw [take_snoc_getD (by have := LP.out; omega) HFN.out, List.map_append]
                    have e : [((an : Int), fy, code)].map newFp = [(0, List.replicate cn 0, List.replicate cn 0, List.replicate an noAp)] := by simp [newFp, CL.out]
                    rw [e]
                    exact P.out.1.1.set _ _ (by simp)
                  · exact (HB.out.trans PB.out).setCell (by simp) _
                case measure => simp [intOf]; omega
              exact eachL_nil
            exact eachL_nil
          exact eachL_nil
        refine eachL_cons (o := ⟨_, _, _, _, _, _⟩) rfl (by rfl) (fun K hK => ?_) ?_
        · skip
          go_simp
          refine hK.out _ _ ?_ (fun hH24 => ?_)
          · (try dsimp only); first | (refine SA.out _ ?_; (repeat (first | with_reducible exact BC | with_reducible refine qDrew ?_ | with_reducible refine qAlloc ?_)); done) | exact ⟨⟨PX.out.1, PX.out.2⟩, q0⟩
          clear hK K hH19
          try simp only [Act.put, List.setIfInBounds_toArray, List.set_cons_zero, List.set_cons_succ]
          refine wpL_ready (rs := [5]) (by kernel_rfl) (by simp) ?_
          refine eachL_cons (o := ⟨_, _, _, _, _, _⟩) rfl (by rfl) (fun K hK => ?_) ?_
          · skip
            go_simp
            refine hK.out _ _ ?_ (fun hH25 => ?_)
            · (try dsimp only); first | (refine SA.out _ ?_; (repeat (first | with_reducible exact BC | with_reducible refine qDrew ?_ | with_reducible refine qAlloc ?_)); done) | exact ⟨⟨PX.out.1, PX.out.2⟩, q0⟩
            clear hK K hH24
            try simp only [Act.put, List.setIfInBounds_toArray, List.set_cons_zero, List.set_cons_succ]
            refine wpL_take (i := 13) (oi := ⟨_, _, _, _, _, _⟩) (v := ?_) rfl (by kernel_rfl) (by kernel_rfl) (by kernel_rfl) (by kernel_rfl) (by kernel_rfl) (fun _ _ _ h => h) (Or.inl ⟨by rfl, ?_⟩) (by exact hH25) ?_
            rotate_left
            · (intro x hx; (try dsimp only at hx); go_simp; try (with_reducible rfl))
            try simp only [Act.put, List.setIfInBounds_toArray, List.set_cons_zero, List.set_cons_succ]
            refine wpL_ready (rs := [14]) (by kernel_rfl) (by simp) ?_
            refine eachL_cons (o := ⟨_, _, _, _, _, _⟩) rfl (by rfl) (fun K hK => ?_) ?_
            · skip
              go_simp
              refine hK.out _ _ ?_ (fun hH26 => ?_)
              · (try dsimp only); first | (refine SA.out _ ?_; (repeat (first | with_reducible exact BC | with_reducible refine qDrew ?_ | with_reducible refine qAlloc ?_)); done) | exact ⟨⟨PX.out.1, PX.out.2⟩, q0⟩
              clear hK K hH25
              try simp only [Act.put, List.setIfInBounds_toArray, List.set_cons_zero, List.set_cons_succ]
              refine wpL_ready (rs := [15]) (by kernel_rfl) (by simp) ?_
              refine eachL_cons (o := ⟨_, _, _, _, _, _⟩) rfl (by rfl) (fun K hK => ?_) ?_
              · skip
                refine step_append_lies _ rfl (.tmp 19) (.tmp 32) 25 rfl 0 51 i0 (.agg #[.int .i64 0, .slice none 0 0, .slice none 0 0, .slice none 0 0]) 4 80 Tryz.underlying25 hi hz0 hz1 hz2 rfl (by decide) (.slice va vn vc) q t.flatten (by simp [Act.eval]) (owns_kept (owns_kept HT2.out A0.out) (by repeat (first | with_reducible exact BC | with_reducible refine qDrew ?_ | with_reducible refine qAlloc ?_))) ⟨V0.heap.size + 1 + 1 + 1, 0, none⟩ 1 1 _ (by simp [Act.eval]) rfl (news_of (by simp) _ 51) (by intro u hu; simp at hu; rcases hu with rfl | rfl | rfl | rfl <;> rfl) (by decide) (by unfold maxLen; omega) (by omega) (Nat.zero_le _) (V0.heap.size + 1 + 1 + 1 + 1) (by simp) ?_; intro g' cap' w6 ho6 hg6 hat hlt6; have P := hid (snoc_new (rb := w3.heap.size) ho6 hg6 hat (by simp) (kt A0.out (by repeat (first | with_reducible exact BC | with_reducible refine qDrew ?_ | with_reducible refine qAlloc ?_))) hcn han hq8 HLEN.out HT1.out HT2.out HT3.out hsr VC.out.1 VC.out.2 (by (try rw [drew_heap]); (repeat rw [alloc_at, if_neg (by simp only [World.size_alloc]; omega)]); rw [alloc_at, if_pos (by first | rfl | simp only [World.size_alloc])]; try simp) (by (try rw [drew_heap]); (repeat rw [alloc_at, if_neg (by simp only [World.size_alloc]; omega)]); rw [alloc_at, if_pos (by first | rfl | simp only [World.size_alloc])]; try simp) (by (try rw [drew_heap]); (repeat rw [alloc_at, if_neg (by simp only [World.size_alloc]; omega)]); rw [alloc_at, if_pos (by first | rfl | simp only [World.size_alloc])]; try simp) (by omega) (by omega) (by omega) (by omega) (by omega) (by omega)); obtain ⟨q0, qf⟩ := And.intro P.out.1.2.1 P.out.1.2.2.1; have PX := hid (And.intro (hg6.cell (SA.out _ (by repeat (first | with_reducible exact BC | with_reducible refine qDrew ?_ | with_reducible refine qAlloc ?_))).1.1 NE.out) (hg6.cell (SA.out _ (by repeat (first | with_reducible exact BC | with_reducible refine qDrew ?_ | with_reducible refine qAlloc ?_))).1.2 NE.out)); have PB := hid (grown_below hg6 (rb := w3.heap.size) (show Below V.heap.size V _ from kt A0.out (by repeat (first | with_reducible exact BC | with_reducible refine qDrew ?_ | with_reducible refine qAlloc ?_))) (fun k hk => (HT3.out.1 k hk).1.1) hsv); have hs6 := hg6.size; clear ho6 hg6 hat hlt6
                refine hK.out _ _ ?_ (fun hH27 => ?_)
                · (try dsimp only); first | (refine SA.out _ ?_; (repeat (first | with_reducible exact BC | with_reducible refine qDrew ?_ | with_reducible refine qAlloc ?_)); done) | exact ⟨⟨PX.out.1, PX.out.2⟩, q0⟩
                clear hK K hH26
                try simp only [Act.put, List.setIfInBounds_toArray, List.set_cons_zero, List.set_cons_succ]
                refine wpL_take (i := 16) (oi := ⟨_, _, _, _, _, _⟩) (v := ?_) rfl (by kernel_rfl) (by kernel_rfl) (by kernel_rfl) (by kernel_rfl) (by kernel_rfl) (fun _ _ _ h => h) (Or.inl ⟨by rfl, ?_⟩) (by exact hH27) ?_
                rotate_left
                · (intro x hx; (try dsimp only at hx); go_simp; try (with_reducible rfl))
                try simp only [Act.put, List.setIfInBounds_toArray, List.set_cons_zero, List.set_cons_succ]
                refine wpL_ready (rs := [17]) (by kernel_rfl) (by simp) ?_
                refine eachL_last (o := ⟨_, _, _, _, _, _⟩) rfl (fun K hK => ?_)
                go_simp
                refine hK.out _ _ ?_ ?_
                · (try dsimp only); exact ⟨cell_set_far PX.out.1 (by simp; omega), cell_set_far PX.out.2 (by simp; omega)⟩
                clear hK K
                try simp only [Act.put, List.setIfInBounds_toArray, List.set_cons_zero, List.set_cons_succ]
                refine wpL_done (by kernel_rfl) ?_ _
                go_wp2_with fail
                go_roundw
                case rel =>
                  refine ⟨q + 1, _, _, _, by omega, by go_num, World.cell?_setCell_same _ _ _ q0, by simp [qf], ?_, ?_⟩
                  · rw [take_snoc_getD (by have := LP.out; omega) HFN.out, List.map_append]
                    have e : [((an : Int), fy, code)].map newFp = [(0, List.replicate cn 0, List.replicate cn 0, List.replicate an noAp)] := by simp [newFp, CL.out]
                    rw [e]
                    exact P.out.1.1.set _ _ (by simp)
                  · exact (HB.out.trans PB.out).setCell (by simp) _
                case measure => simp [intOf]; omega
              exact eachL_nil
            exact eachL_nil
          exact eachL_nil
        exact eachL_nil
      exact eachL_nil
    · have hqn : q = pn := by omega
      subst hqn
      have r4 := kept_cell hb R3.out.1
      have f4 := (hb.frozen (p := ⟨w.heap.size + 1, 0, none⟩) (lt_of_cell R3.out.1)).trans R3.out.2
      have e : (ps.take q).map newFp = newP ps := by rw [newP, if_pos HV.out, List.take_of_length_le (by have := LP.out; omega)]
      have HE := hid e
      clear e hb
      go_wp2_with fail
      refine bodyPost_ret (v := .tuple #[.agg #[.slice va vn vc], .int .i64 0]) (by simp [results, Tryz.results8, go_sem, r4]) rfl ⟨.slice va vn vc, by simp only [newE, if_pos HV.out], ?_, (kt B3.out HB.out).setCell (by simp) _⟩
      have o := HO.out
      rw [HE.out] at o
      exact (o.set _ _ (by simp; omega)).sub (fun b hb _ => by have hb' : w3.heap.size < b := hb; show w.heap.size ≤ b; omega)

end Go.Proofs.YtppmkoigblimmaaGreatDoor

namespace Go.Proofs.YtppmkoigblimmaaGreatDoor
open Go.RowKit
set_option linter.unusedVariables false

theorem wp_name {P : Program} {c : Code} {Q : Exit → Act → World → Prop} {a : Act} {W : World} (k : ∀ Y : World, Y = W → Code.wp P c Q a Y) : Code.wp P c Q a W := k W rfl
theorem set_same {α : Type} {l : List α} {k : Nat} {x : α} (h : l[k]? = some x) : l.set k x = l := by
  have hk := (List.getElem?_eq_some_iff.1 h)
  refine List.ext_getElem? (fun i => ?_)
  rw [List.getElem?_set]
  split
  · rename_i e; subst e; rw [if_pos hk.1, h]
  · rfl
theorem cell_set_off {w : World} {b o o' : Nat} {u v : Value} (h : w.cell? ⟨b, o, none⟩ = some v) (ho : o ≠ o') : (w.setCell ⟨b, o', none⟩ u).cell? ⟨b, o, none⟩ = some v := by
  rw [World.cell?_setCell_other _ _ _ _ (by intro e; cases e; exact ho rfl)]
  exact h
theorem ap_put3 {w : World} {T g c : Nat} {B : Nat → Prop} {al : List Ap} {n : Nat} (h : OSl layArgProfs T 24 w B (.slice (some ⟨g, 0, none⟩) n c) al) {i : Nat} {p : Ap} (hi : al[i]? = some p) (x y z : Int) :
    OSl layArgProfs T 24 (((w.setCell ⟨g, i * 3, none⟩ (.int .i64 x)).setCell ⟨g, i * 3 + 1, none⟩ (.int .i64 y)).setCell ⟨g, i * 3 + 2, none⟩ (.int .i64 z)) B (.slice (some ⟨g, 0, none⟩) n c) (al.set i (x, y, z)) ∧ B g := by
  have hB : B g := by
    obtain ⟨_, _, _, _, e, _, hB, _⟩ := h.elem i _ hi
    cases e; exact hB
  obtain ⟨a, s, o⟩ := p
  obtain ⟨_, _, _, _, p0, _, _⟩ := ap_cells h hi
  obtain ⟨_, _, _, _, _, p1, _⟩ := ap_cells (p0 x) (getElem?_set_self' hi)
  have h1 := p1 y
  rw [set_set'] at h1
  obtain ⟨_, _, _, _, _, _, p2⟩ := ap_cells h1 (getElem?_set_self' hi)
  have h2 := p2 z
  rw [set_set'] at h2
  exact ⟨h2, hB⟩
theorem frm_set3 {S : Nat → Prop} {w : World} {g a b c : Nat} (h : S g) (x y z : Value) : Frm S w (((w.setCell ⟨g, a, none⟩ x).setCell ⟨g, b, none⟩ y).setCell ⟨g, c, none⟩ z) :=
  ((Frm.set (S := S) (p := ⟨g, a, none⟩) x h).trans (Frm.set (S := S) (p := ⟨g, b, none⟩) y h) (fun _ _ h => h)).trans (Frm.set (S := S) (p := ⟨g, c, none⟩) z h) (fun _ _ h => h)
theorem cell_set3 {w : World} {g a b c k o : Nat} {x y z v : Value} (h : w.cell? ⟨k, o, none⟩ = some v) (hk : k ≠ g) : (((w.setCell ⟨g, a, none⟩ x).setCell ⟨g, b, none⟩ y).setCell ⟨g, c, none⟩ z).cell? ⟨k, o, none⟩ = some v := cell_set_far (cell_set_far (cell_set_far h hk) hk) hk
theorem heap_set3 {w : World} {g a b c k : Nat} {x y z : Value} (hk : k ≠ g) : (((w.setCell ⟨g, a, none⟩ x).setCell ⟨g, b, none⟩ y).setCell ⟨g, c, none⟩ z).heap[k]? = w.heap[k]? := by
  rw [Below.heap_setCell _ _ _ k hk, Below.heap_setCell _ _ _ k hk, Below.heap_setCell _ _ _ k hk]

set_option maxRecDepth 100000 in
set_option maxHeartbeats 16000000 in
theorem refCalled_any (pa : Option Addr) (pn pc : Nat) (ps : List Fn) (ra : Option Addr) (rn rc : Nat) (l : List Fp) (fn : Int) (aa : Option Addr) (an ac : Nat) (args : List Int) (w : World) (hp : Fns w pa pn pc ps) (h : Sl layFp 80 w ra rn rc l) (ha : Ints w aa an ac args) :
    Calls Tryz.prog 11 #[.agg #[.slice pa pn pc], .agg #[.slice ra rn rc], .int .i64 fn, .slice aa an ac] w fun e w' => ∃ v, e = .returned (.tuple #[.agg #[v], .int .i64 (calledE ps l fn args)]) ∧ OSl layFp 51 80 w' (fun b => w.heap.size ≤ b) v (calledP ps l fn args) ∧ Below w.heap.size w w' := by
  have HP := hid hp
  have HR := hid h
  have LP := hid hp.len
  have hpr := hp.room
  have hpc := hp.cap
  have HA := hid ha
  have har := ha.room
  have LA := hid ha.len
  have BAD : Hid (calledB ps l fn args = false → calledP ps l fn args = [] ∧ calledE ps l fn args = 900) := hid (fun h => by unfold calledP calledE; rw [h]; exact ⟨rfl, rfl⟩)
  have GOOD : Hid (calledB ps l fn args = true → calledP ps l fn args = l.set fn.toNat (callFp (l.getD fn.toNat noFp) args) ∧ calledE ps l fn args = 0) := hid (fun h => by unfold calledP calledE; rw [if_pos h, if_pos h]; exact ⟨rfl, rfl⟩)
  have SPLIT : Hid (calledB ps l fn args = (profB ps l && tellB ps fn args)) := hid rfl
  generalize calledP ps l fn args = CP at BAD GOOD ⊢
  generalize calledE ps l fn args = CE at BAD GOOD ⊢
  generalize calledB ps l fn args = CB at BAD GOOD SPLIT
  have W3 : Hid (∃ U : World, U = ((w.alloc (.cells #[.slice pa pn pc] 24)).alloc (.cells #[.slice ra rn rc] 27)).alloc (.cells #[.slice none 0 0] 27)) := hid ⟨_, rfl⟩
  obtain ⟨w3, hw3⟩ := W3.out
  have B3 : Hid (Below w.heap.size w w3) := hid (by rw [hw3]; go_grown)
  have P3 : Hid (w3.cell? ⟨w.heap.size, 0, none⟩ = some (.slice pa pn pc)) := hid (by rw [hw3]; simp [go_sem])
  have R3 : Hid (w3.cell? ⟨w.heap.size + 1, 0, none⟩ = some (.slice ra rn rc)) := hid (by rw [hw3]; simp [go_sem])
  have Q3 : Hid (w3.cell? ⟨w.heap.size + 2, 0, none⟩ = some (.slice none 0 0) ∧ w3.frozen? ⟨w.heap.size + 2, 0, none⟩ = false) := hid (by rw [hw3]; exact ⟨by simp [go_sem], by simp [go_sem]⟩)
  have hs3 : w.heap.size + 2 < w3.heap.size := lt_of_cell Q3.out.1
  have E3 := hid hw3
  have HM := hid (refProfMay_any pa pn pc ps ra rn rc l w3 (hp.kept B3.out) (h.kept B3.out))
  clear hw3 W3 hp h ha
  go_enter Tryz.func11, Tryz.ntmps11
  go_wp2_with fail
  refine calls_inU (U := w3) (by rw [E3.out]) ?_
  refine HM.out.mono ?_
  rintro e w4 ⟨rfl, b4⟩
  have B4 := hid (kt B3.out b4)
  have p4 := kept_cell b4 P3.out
  have r4 := kept_cell b4 R3.out
  have q4 := kept_cell b4 Q3.out.1
  have qf4 := (b4.frozen (p := ⟨w.heap.size + 2, 0, none⟩) (lt_of_cell Q3.out.1)).trans Q3.out.2
  have hs4 : w3.heap.size ≤ w4.heap.size := b4.size
  clear b4 E3 P3 R3 Q3 HM
  cases hm : profB ps l
  · skip
    obtain ⟨rfl, rfl⟩ := BAD.out (by rw [SPLIT.out]; rw [hm]; rfl)
    go_wp2_with fail
    refine bodyPost_ret (v := .tuple #[.agg #[.slice none 0 0], .int .i64 900]) (by simp [results, Tryz.results11, go_sem, q4]) rfl ⟨.slice none 0 0, rfl, OSl.nil _ _ _ _ _, B4.out.setCell (by show w.heap.size ≤ w.heap.size + 2; omega) _⟩
  have HPL : Hid ((pn : Int) = (ps.length : Int)) := hid (by rw [LP.out])
  by_cases hf0 : fn < 0
  · have hin : Hid (tellB ps fn args = false) := hid (by unfold tellB inB; simp; omega)
    obtain ⟨rfl, rfl⟩ := BAD.out (by rw [SPLIT.out]; rw [hm, hin.out]; rfl)
    go_wp2_with fail
    refine bodyPost_ret (v := .tuple #[.agg #[.slice none 0 0], .int .i64 900]) (by simp [results, Tryz.results11, go_sem, q4]) rfl ⟨.slice none 0 0, rfl, OSl.nil _ _ _ _ _, B4.out.setCell (by show w.heap.size ≤ w.heap.size + 2; omega) _⟩
  by_cases hf1 : (pn : Int) ≤ fn
  · have hin : Hid (tellB ps fn args = false) := hid (by have := HPL.out; unfold tellB inB; simp; omega)
    obtain ⟨rfl, rfl⟩ := BAD.out (by rw [SPLIT.out]; rw [hm, hin.out]; rfl)
    go_wp2_with fail
    refine bodyPost_ret (v := .tuple #[.agg #[.slice none 0 0], .int .i64 900]) (by simp [results, Tryz.results11, go_sem, q4]) rfl ⟨.slice none 0 0, rfl, OSl.nil _ _ _ _ _, B4.out.setCell (by show w.heap.size ≤ w.heap.size + 2; omega) _⟩
  obtain ⟨k, rfl⟩ := Int.eq_ofNat_of_zero_le (show 0 ≤ fn by omega)
  have hkp : k < pn := by omega
  have hkp' : (k : Int) < (pn : Int) := by omega
  clear hf0 hf1
  obtain ⟨b5, o5, fx, fy, ca, cn, cc, code, rfl, hfn, d0, d1, d2, i5⟩ := (HP.out.kept B4.out).at k hkp
  have FN : Hid (ps.getD k noFn = (fx, fy, code)) := hid hfn
  have hinb : Hid (inB ps.length (k : Int) = true) := hid (by have := HPL.out; unfold inB; simp; omega)
  have TB : Hid (tellB ps (k : Int) args = (decide ((args.length : Int) = fx) && numsB args)) := hid (by unfold tellB; rw [hinb.out, Int.toNat_natCast, FN.out]; rfl)
  clear hfn i5 d1 d2
  have P4 := hid p4
  have R4 := hid r4
  have Q4 := hid (And.intro q4 qf4)
  clear r4 q4 qf4
  go_wp2_with fail
  refine (refNumbers_any _ _ _ args _ _ (HA.out.kept B4.out)).mono ?_
  rintro e w5 ⟨rfl, b5'⟩
  have B5 := hid (kt B4.out b5')
  have r5 := kept_cell b5' R4.out
  have q5 := kept_cell b5' Q4.out.1
  have qf5 := (b5'.frozen (p := ⟨w.heap.size + 2, 0, none⟩) (lt_of_cell Q4.out.1)).trans Q4.out.2
  have hs5 : w4.heap.size ≤ w5.heap.size := b5'.size
  have NK : Hid (nkB args fx = tellB ps (k : Int) args) := hid (by rw [TB.out]; unfold nkB lenB; rw [Bool.and_comm])
  clear b5' p4 d0 P4 R4 Q4
  cases hnk : nkB args fx
  · skip
    obtain ⟨rfl, rfl⟩ := BAD.out (by rw [SPLIT.out]; rw [hm, ← NK.out, hnk]; rfl)
    go_wp2_with fail
    refine bodyPost_ret (v := .tuple #[.agg #[.slice none 0 0], .int .i64 900]) (by simp [results, Tryz.results11, go_sem, q5]) rfl ⟨.slice none 0 0, rfl, OSl.nil _ _ _ _ _, B5.out.setCell (by show w.heap.size ≤ w.heap.size + 2; omega) _⟩
  have HTT : Hid (tellB ps (k : Int) args = true) := hid (by rw [← NK.out]; exact hnk)
  clear NK
  obtain ⟨hCP, rfl⟩ := GOOD.out (by rw [SPLIT.out, hm, HTT.out]; rfl)
  rw [Int.toNat_natCast] at hCP
  have HCP := hid hCP
  have HM := hid hm
  have Q5 := hid (And.intro q5 qf5)
  clear q5 qf5 hCP BAD GOOD SPLIT hm
  go_wp2_with fail
  refine (refCopyProf_any _ _ _ l _ (HR.out.kept B5.out)).mono ?_
  rintro e w6 ⟨v6, rfl, o6', b6'⟩
  have q6 := kept_cell b6' Q5.out.1
  have qf6 := (b6'.frozen (p := ⟨w.heap.size + 2, 0, none⟩) (lt_of_cell Q5.out.1)).trans Q5.out.2
  have hs6 : w5.heap.size ≤ w6.heap.size := b6'.size
  have B6 := hid (kt B5.out b6')
  have O6 := hid o6'.clip
  have Q6 := hid (And.intro q6 qf6)
  obtain ⟨a6, n6, c6, rfl, _⟩ := o6'.reads
  clear b6' o6' r5 q6 qf6 Q5
  go_upto_region 4 with fail
  obtain ⟨U, hU⟩ : ∃ U : World, U = w6.alloc (.cells #[.slice a6 n6 c6] 27) := ⟨_, rfl⟩
  refine wp_world (U := U) (by rw [hU]) ?_
  have A6 : Hid (Below w6.heap.size w6 U) := hid (by rw [hU]; exact Below.alloc (Below.refl _ _) (Nat.le_refl _) _)
  have BU := hid (kt B6.out A6.out)
  have OU : Hid (OSl layFp 51 80 U (fun b => w5.heap.size ≤ b ∧ b < w6.heap.size) (.slice a6 n6 c6) l) := hid (O6.out.kept A6.out)
  have hblk : U.heap[w6.heap.size]? = some (.cells #[.slice a6 n6 c6] 27) := by rw [hU]; exact heap_alloc_new _ _
  have Q7 : Hid (U.cell? ⟨w.heap.size + 2, 0, none⟩ = some (.slice none 0 0) ∧ U.frozen? ⟨w.heap.size + 2, 0, none⟩ = false) := hid ⟨kept_cell A6.out Q6.out.1, (A6.out.frozen (p := ⟨w.heap.size + 2, 0, none⟩) (lt_of_cell Q6.out.1)).trans Q6.out.2⟩
  have hsU : w6.heap.size + 1 ≤ U.heap.size := by rw [hU]; simp
  have c7 := (cell_of_heap (j := 0) hblk rfl).1
  clear hU Q6 B6 O6 hblk
  obtain ⟨hlen, hkpr⟩ := prof_len HM.out
  obtain ⟨⟨x, jl, fl, al⟩, hx⟩ : ∃ f : Fp, l[k]? = some f := ⟨_, List.getElem?_eq_getElem (by have := LP.out; omega)⟩
  obtain ⟨hcx, hcj, hcf, hal, hap⟩ := hkpr k x jl fl al hx
  rw [FN.out] at hcj hcf hal
  obtain ⟨g, cap', vj, vf, va, Bj, Bf, Ba, e6, hcap, hBg, ⟨c0, c1, c2, c3⟩, hfz, ⟨oj, of, oa⟩, hsub, p0, pj, pf, pa⟩ := fp_elem OU.out hx
  cases e6
  have hgx : l.getD k noFp = (x, jl, fl, al) := getD_of_at hx
  rw [hgx] at HCP
  have HX := hid hx
  have hl6 := OU.out.1
  have LL : (k : Int) < (l.length : Int) := by have := LP.out; omega
  have hll : l.length ≤ c6 := hcap
  have HN : Hid (args.length = al.length) := hid (by have h := HTT.out; rw [TB.out] at h; simp only [Bool.and_eq_true, decide_eq_true_eq] at h; have h1 : (al.length : Int) = fx := hal; omega)
  obtain ⟨hx0, hx1⟩ := (cntB_iff x).1 hcx
  have HAP := hid hap
  have ZE : Hid (callFp (x, jl, fl, al) args = (moreI x, jl, fl, List.zipWith tellA al args)) := hid rfl
  have ZL : Hid ((List.zipWith tellA al args).length = al.length) := hid (by rw [List.length_zipWith, HN.out, Nat.min_self])
  have ZA : Hid (∀ q y a s o, al[q]? = some (a, s, o) → args[q]? = some y → (List.zipWith tellA al args)[q]? = some (tellA (a, s, o) y)) := hid (fun q y a s o h1 h2 => by rw [List.getElem?_zipWith, h1, h2])
  generalize hzz : List.zipWith tellA al args = Z at ZE ZL ZA
  obtain ⟨xja, xjn, xjc, rfl, _⟩ := oj.reads
  obtain ⟨xfa, xfn, xfc, rfl, _⟩ := of.reads
  obtain ⟨xaa, xan, xac, rfl, _⟩ := oa.reads
  have RC0 := hid (And.intro c1 (And.intro c2 c3))
  clear hzz hlen hkpr hcx hcj hcf hal hap hfz p0 pj pf pa hsub oj of oa hx hgx hcap
  go_upto_region 5 with fail
  obtain ⟨V, hV⟩ : ∃ V : World, V = U.alloc (.cells #[.int .i64 x, (.slice xja xjn xjc), (.slice xfa xfn xfc), (.slice xaa xan xac)] 51) := ⟨_, rfl⟩
  refine wp_world (U := V) (by rw [hV]) ?_
  have AV : Hid (Below U.heap.size U V) := hid (by rw [hV]; exact Below.alloc (Below.refl _ _) (Nat.le_refl _) _)
  have hvb : V.heap[U.heap.size]? = some (.cells #[.int .i64 x, (.slice xja xjn xjc), (.slice xfa xfn xfc), (.slice xaa xan xac)] 51) := by rw [hV]; exact heap_alloc_new _ _
  have v0 := cell_of_heap (j := 0) hvb rfl
  obtain ⟨v0, vf0⟩ := v0
  have HVB := hid hvb
  have C7 := hid c7
  clear hV hvb c7 c0 c1 c2 c3
  go_upto_region 6 with (first | (go_at_call 28; refine (refMore_any _ hx0 hx1 _).mono ?_; rintro e w' ⟨rfl, hw⟩; rw [hw]; clear hw))
  obtain ⟨V1, hV1⟩ : ∃ V1 : World, V1 = V.setCell ⟨U.heap.size, 0, none⟩ (.int .i64 (moreI x)) := ⟨_, rfl⟩
  refine wp_world (U := V1) (by rw [hV1]) ?_
  have FB : Hid (V1.heap[U.heap.size]? = some (.cells #[.int .i64 (moreI x), (.slice xja xjn xjc), (.slice xfa xfn xfc), (.slice xaa xan xac)] 51)) := hid (by rw [hV1]; exact heap_setCell_same _ _ 0 _ _ _ HVB.out)
  have B1 : Hid (Below U.heap.size U V1) := hid (by rw [hV1]; exact AV.out.setCell (Nat.le_refl _) _)
  have O1 : Hid (OSl layFp 51 80 V1 (fun b => w5.heap.size ≤ b ∧ b < w6.heap.size) (.slice (some ⟨g, 0, none⟩) l.length c6) (l.set k (x, jl, fl, mixL Z al 0))) := hid (by
    rw [mixL_zero, show l.set k (x, jl, fl, al) = l from set_same HX.out]
    exact OU.out.kept B1.out)
  clear hV1 v0 vf0 HVB
  go_wp2_with fail
  go_loopw [12] (fun i wr => ∃ q : Nat, q ≤ an ∧ i = .int .i64 q ∧ OSl layFp 51 80 wr (fun b => w5.heap.size ≤ b ∧ b < w6.heap.size) (.slice (some ⟨g, 0, none⟩) l.length c6) (l.set k (x, jl, fl, mixL Z al q)) ∧ Frm (fun b => w5.heap.size ≤ b ∧ b < w6.heap.size) V1 wr ∧ wr.cell? ⟨g, k * 4 + 1, none⟩ = some (.slice xja xjn xjc) ∧ wr.cell? ⟨g, k * 4 + 2, none⟩ = some (.slice xfa xfn xfc) ∧ wr.cell? ⟨g, k * 4 + 3, none⟩ = some (.slice xaa xan xac)) (fun i _ => an - (intOf i).toNat)
  case atStart => exact ⟨0, Nat.zero_le _, rfl, O1.out, Frm.refl _ _, kept_cell B1.out RC0.out.1, kept_cell B1.out RC0.out.2.1, kept_cell B1.out RC0.out.2.2⟩
  case round =>
    clear O1
    obtain ⟨q, hq, rfl, ho, hfr, rc⟩ := hrel
    have HO := hid ho
    have HFR := hid hfr
    have RC := hid rc
    have hsz1 : U.heap.size + 1 ≤ V1.heap.size := by have := heap_ltP FB.out; omega
    have hfb : wr.heap[U.heap.size]? = some (.cells #[.int .i64 (moreI x), (.slice xja xjn xjc), (.slice xfa xfn xfc), (.slice xaa xan xac)] 51) := (hfr.block _ (by omega) (by show ¬ (w5.heap.size ≤ U.heap.size ∧ U.heap.size < w6.heap.size); omega)).trans FB.out
    have BW : Hid (Below w.heap.size w wr) := hid ((kt BU.out B1.out).trans (hfr.below (by have := (kt BU.out B1.out).size; omega) (fun b hb e => by have e' : w5.heap.size ≤ b := e.1; omega)))
    have HFBr := hid hfb
    have hszw := hfr.size
    clear ho hfr rc hfb
    by_cases hlt : q < an
    · obtain ⟨b1, o1, rfl, r1⟩ := (HA.out.kept BW.out).row (by omega)
      have y1 := r1 q hlt
      have hy : args[q]? = some (args.getD q 0) := by rw [List.getD_eq_getElem?_getD, List.getElem?_eq_getElem (by have := LA.out; omega)]; rfl
      generalize args.getD q 0 = y at y1 hy
      have hqa : q < al.length := by have := LA.out; have := HN.out; omega
      obtain ⟨⟨a, s, o⟩, hap⟩ : ∃ p : Ap, al[q]? = some p := ⟨al[q], List.getElem?_eq_getElem hqa⟩
      have hcell : (mixL Z al q)[q]? = some (a, s, o) := by rw [mixL_at (by rw [ZL.out]; omega), hap]
      have hapB : apB (a, s, o) = true := List.all_eq_true.1 HAP.out _ (List.mem_of_getElem? hap)
      rw [apB_eq] at hapB
      simp only [Bool.and_eq_true, cntB_iff] at hapB
      obtain ⟨_, ⟨hs0, hs1⟩, ho0, ho1⟩ := hapB
      have STEP : Hid ((mixL Z al q).set q (tellA (a, s, o) y) = mixL Z al (q + 1)) := hid (mixL_set (ZA.out q y a s o hap hy) hqa)
      obtain ⟨g', cap', vj', vf', va', Bj', Bf', Ba', e, hcap, hBg', ⟨e0, e1, e2, e3⟩, hfz, ⟨oj, of, oa⟩, hsub, p0, pj, pf, pa⟩ := fp_elem HO.out (getElem?_set_self' HX.out)
      obtain ⟨rfl, rfl⟩ : g = g' ∧ c6 = cap' := by simpa using e
      have hva : va' = (.slice xaa xan xac) := by have := RC.out.2.2; rw [e3] at this; exact Option.some.inj this
      subst hva
      have hml : (mixL Z al q).length = al.length := mixL_len ZL.out
      obtain ⟨ga, ca, hvv, hca, hBga, hga⟩ : ∃ ga ca, Value.slice xaa xan xac = .slice (some ⟨ga, 0, none⟩) al.length ca ∧ al.length ≤ ca ∧ Ba' ga ∧ ga < wr.heap.size := by
        obtain ⟨ga, ca, _, _, e, hca, hB, hg, _⟩ := oa.elem q _ hcell
        rw [hml] at e hca
        exact ⟨ga, ca, e, hca, hB, hg⟩
      cases hvv
      obtain ⟨c0, c1, c2, hfa, _, _, _⟩ := ap_cells oa hcell
      have hra := oa.1
      rw [hml] at hra
      have HC := hid hcell
      have GA : Hid (w5.heap.size ≤ ga ∧ ga < w6.heap.size) := hid (hsub ga (.inr (.inr hBga))).1
      have GG : Hid (g ≠ ga) := hid (fun e => (hsub ga (.inr (.inr hBga))).2 e.symm)
      have FZ := hid hfa
      have hbf := (cell_of_heap (j := 3) HFBr.out rfl).1
      have hq' : (q : Int) < (al.length : Int) := by omega
      clear hcell hfz oj of oa hsub p0 pj pf pa e e0 e1 e2 e3 r1 hy hap hml hfa
      go_upto_region 11 with fail
      obtain ⟨Y0, hY0⟩ : ∃ Y : World, Y = wr.alloc (.cells #[.int .i64 a, .int .i64 s, .int .i64 o] 53) := ⟨_, rfl⟩
      refine wp_world (U := Y0) (by rw [hY0]) ?_
      have A0 : Hid (Below wr.heap.size wr Y0) := hid (by rw [hY0]; exact Below.alloc (Below.refl _ _) (Nat.le_refl _) _)
      have hb0 : Hid (Y0.heap[wr.heap.size]? = some (.cells #[.int .i64 a, .int .i64 s, .int .i64 o] 53)) := hid (by rw [hY0]; exact heap_alloc_new _ _)
      have y1' := kept_cell A0.out y1
      obtain ⟨k0, f0⟩ := cell_of_heap (j := 0) hb0.out rfl
      obtain ⟨k1, f1⟩ := cell_of_heap (j := 1) hb0.out rfl
      obtain ⟨k2, f2⟩ := cell_of_heap (j := 2) hb0.out rfl
      have C012 := hid (And.intro c0 (And.intro c1 c2))
      clear hY0 y1 c0 c1 c2 hbf
      by_cases hz : s = 0 ∧ o = 0
      · obtain ⟨rfl, rfl⟩ := hz
        have E : Hid (tellA (a, 0, 0) y = (y, 1, 0)) := hid (by simp [tellA])
        go_upto_region 16 with fail
        refine wp_name ?_
        intro Y hY
        have BY : Hid (Below wr.heap.size wr Y) := hid (by rw [hY]; first | exact (A0.out.setCell (Nat.le_refl _) _).setCell (Nat.le_refl _) _ | exact (below_drewN A0.out _).setCell (Nat.le_refl _) _ | exact A0.out.setCell (Nat.le_refl _) _)
        have HB : Y.heap[wr.heap.size]? = some (.cells #[.int .i64 y, .int .i64 (1), .int .i64 (0)] 53) := by rw [hY]; first | exact heap_setCell_same _ _ 1 _ _ _ (heap_setCell_same _ _ 0 _ _ _ hb0.out) | exact heap_setCell_same _ _ 1 _ _ _ hb0.out | exact heap_setCell_same _ _ 2 _ _ _ hb0.out
        have h0 := (cell_of_heap (j := 0) HB rfl).1
        have h1 := (cell_of_heap (j := 1) HB rfl).1
        have h2 := (cell_of_heap (j := 2) HB rfl).1
        have hbf := (cell_of_heap (j := 3) (heap_kept HFBr.out BY.out) rfl).1
        have z0 : Y.frozen? ⟨ga, q * 3, none⟩ = false := (BY.out.frozen (p := ⟨ga, q * 3, none⟩) hga).trans (FZ.out _)
        have z1 : Y.frozen? ⟨ga, q * 3 + 1, none⟩ = false := (BY.out.frozen (p := ⟨ga, q * 3 + 1, none⟩) hga).trans (FZ.out _)
        have z2 : Y.frozen? ⟨ga, q * 3 + 2, none⟩ = false := (BY.out.frozen (p := ⟨ga, q * 3 + 2, none⟩) hga).trans (FZ.out _)
        have m0 := kept_cell BY.out C012.out.1
        have m1 := kept_cell BY.out C012.out.2.1
        have m2 := kept_cell BY.out C012.out.2.2
        clear hY HB
        go_wp2_with fail
        go_roundw
        case rel =>
          refine ⟨q + 1, by omega, by go_num, ?_, (HFR.out.trans (Frm.of_below (S := fun b => w5.heap.size ≤ b ∧ b < w6.heap.size) BY.out) (fun _ _ h => h)).trans (frm_set3 GA.out _ _ _) (fun _ _ h => h), cell_set3 (kept_cell BY.out RC.out.1) GG.out, cell_set3 (kept_cell BY.out RC.out.2.1) GG.out, cell_set3 (kept_cell BY.out RC.out.2.2) GG.out⟩
          obtain ⟨g3, cap3, vj3, vf3, va3, Bj3, Bf3, Ba3, e3', hcap3, hBg3, ⟨k0, k1, k2, k3⟩, hfz3, ⟨oj3, of3, oa3⟩, hsub3, p03, pj3, pf3, pa3⟩ := fp_elem (HO.out.kept BY.out) (getElem?_set_self' HX.out)
          obtain ⟨rfl, rfl⟩ : g = g3 ∧ c6 = cap3 := by simpa using e3'
          have hk3 := kept_cell BY.out RC.out.2.2
          rw [k3] at hk3
          obtain rfl := Option.some.inj hk3
          obtain ⟨rr, hBa3⟩ := ap_put3 oa3 HC.out y (1) (0)
          have := pa3 _ _ (fun b hl hn => heap_set3 (fun e => by subst e; exact hn hBa3)) rr
          rw [set_set', ← E.out, STEP.out] at this
          exact this
        case measure => simp [intOf]; omega
      · have hs : ¬ s = 0 ∨ (s = 0 ∧ ¬ o = 0) := by omega
        by_cases hx : a = y
        · subst hx
          have E : Hid (tellA (a, s, o) a = (a, moreI s, o)) := hid (by unfold tellA; simp only; rw [if_neg hz]; simp)
          clear hz
          rcases hs with hs | ⟨rfl, hs⟩
          · have hs' : (s == 0) = false := by simpa using hs
            go_wp2_with fail
            go_quiet (fail)
            go_upto_region 16 with (first | (go_at_call 28; refine (refMore_any _ hs0 hs1 _).mono ?_; rintro e w' ⟨rfl, hw⟩; rw [hw]; clear hw))
            refine wp_name ?_
            intro Y hY
            have BY : Hid (Below wr.heap.size wr Y) := hid (by rw [hY]; first | exact (A0.out.setCell (Nat.le_refl _) _).setCell (Nat.le_refl _) _ | exact (below_drewN A0.out _).setCell (Nat.le_refl _) _ | exact A0.out.setCell (Nat.le_refl _) _)
            have HB : Y.heap[wr.heap.size]? = some (.cells #[.int .i64 a, .int .i64 (moreI s), .int .i64 (o)] 53) := by rw [hY]; first | exact heap_setCell_same _ _ 1 _ _ _ (heap_setCell_same _ _ 0 _ _ _ hb0.out) | exact heap_setCell_same _ _ 1 _ _ _ hb0.out | exact heap_setCell_same _ _ 2 _ _ _ hb0.out
            have h0 := (cell_of_heap (j := 0) HB rfl).1
            have h1 := (cell_of_heap (j := 1) HB rfl).1
            have h2 := (cell_of_heap (j := 2) HB rfl).1
            have hbf := (cell_of_heap (j := 3) (heap_kept HFBr.out BY.out) rfl).1
            have z0 : Y.frozen? ⟨ga, q * 3, none⟩ = false := (BY.out.frozen (p := ⟨ga, q * 3, none⟩) hga).trans (FZ.out _)
            have z1 : Y.frozen? ⟨ga, q * 3 + 1, none⟩ = false := (BY.out.frozen (p := ⟨ga, q * 3 + 1, none⟩) hga).trans (FZ.out _)
            have z2 : Y.frozen? ⟨ga, q * 3 + 2, none⟩ = false := (BY.out.frozen (p := ⟨ga, q * 3 + 2, none⟩) hga).trans (FZ.out _)
            have m0 := kept_cell BY.out C012.out.1
            have m1 := kept_cell BY.out C012.out.2.1
            have m2 := kept_cell BY.out C012.out.2.2
            clear hY HB
            go_wp2_with fail
            go_roundw
            case rel =>
              refine ⟨q + 1, by omega, by go_num, ?_, (HFR.out.trans (Frm.of_below (S := fun b => w5.heap.size ≤ b ∧ b < w6.heap.size) BY.out) (fun _ _ h => h)).trans (frm_set3 GA.out _ _ _) (fun _ _ h => h), cell_set3 (kept_cell BY.out RC.out.1) GG.out, cell_set3 (kept_cell BY.out RC.out.2.1) GG.out, cell_set3 (kept_cell BY.out RC.out.2.2) GG.out⟩
              obtain ⟨g3, cap3, vj3, vf3, va3, Bj3, Bf3, Ba3, e3', hcap3, hBg3, ⟨k0, k1, k2, k3⟩, hfz3, ⟨oj3, of3, oa3⟩, hsub3, p03, pj3, pf3, pa3⟩ := fp_elem (HO.out.kept BY.out) (getElem?_set_self' HX.out)
              obtain ⟨rfl, rfl⟩ : g = g3 ∧ c6 = cap3 := by simpa using e3'
              have hk3 := kept_cell BY.out RC.out.2.2
              rw [k3] at hk3
              obtain rfl := Option.some.inj hk3
              obtain ⟨rr, hBa3⟩ := ap_put3 oa3 HC.out a (moreI s) (o)
              have := pa3 _ _ (fun b hl hn => heap_set3 (fun e => by subst e; exact hn hBa3)) rr
              rw [set_set', ← E.out, STEP.out] at this
              exact this
            case measure => simp [intOf]; omega
          · have hs' : (o == 0) = false := by simpa using hs
            go_wp2_with fail
            go_quiet (fail)
            go_upto_region 16 with (first | (go_at_call 28; refine (refMore_any _ hs0 hs1 _).mono ?_; rintro e w' ⟨rfl, hw⟩; rw [hw]; clear hw))
            refine wp_name ?_
            intro Y hY
            have BY : Hid (Below wr.heap.size wr Y) := hid (by rw [hY]; first | exact (A0.out.setCell (Nat.le_refl _) _).setCell (Nat.le_refl _) _ | exact (below_drewN A0.out _).setCell (Nat.le_refl _) _ | exact A0.out.setCell (Nat.le_refl _) _)
            have HB : Y.heap[wr.heap.size]? = some (.cells #[.int .i64 a, .int .i64 (moreI 0), .int .i64 (o)] 53) := by rw [hY]; first | exact heap_setCell_same _ _ 1 _ _ _ (heap_setCell_same _ _ 0 _ _ _ hb0.out) | exact heap_setCell_same _ _ 1 _ _ _ hb0.out | exact heap_setCell_same _ _ 2 _ _ _ hb0.out
            have h0 := (cell_of_heap (j := 0) HB rfl).1
            have h1 := (cell_of_heap (j := 1) HB rfl).1
            have h2 := (cell_of_heap (j := 2) HB rfl).1
            have hbf := (cell_of_heap (j := 3) (heap_kept HFBr.out BY.out) rfl).1
            have z0 : Y.frozen? ⟨ga, q * 3, none⟩ = false := (BY.out.frozen (p := ⟨ga, q * 3, none⟩) hga).trans (FZ.out _)
            have z1 : Y.frozen? ⟨ga, q * 3 + 1, none⟩ = false := (BY.out.frozen (p := ⟨ga, q * 3 + 1, none⟩) hga).trans (FZ.out _)
            have z2 : Y.frozen? ⟨ga, q * 3 + 2, none⟩ = false := (BY.out.frozen (p := ⟨ga, q * 3 + 2, none⟩) hga).trans (FZ.out _)
            have m0 := kept_cell BY.out C012.out.1
            have m1 := kept_cell BY.out C012.out.2.1
            have m2 := kept_cell BY.out C012.out.2.2
            clear hY HB
            go_wp2_with fail
            go_roundw
            case rel =>
              refine ⟨q + 1, by omega, by go_num, ?_, (HFR.out.trans (Frm.of_below (S := fun b => w5.heap.size ≤ b ∧ b < w6.heap.size) BY.out) (fun _ _ h => h)).trans (frm_set3 GA.out _ _ _) (fun _ _ h => h), cell_set3 (kept_cell BY.out RC.out.1) GG.out, cell_set3 (kept_cell BY.out RC.out.2.1) GG.out, cell_set3 (kept_cell BY.out RC.out.2.2) GG.out⟩
              obtain ⟨g3, cap3, vj3, vf3, va3, Bj3, Bf3, Ba3, e3', hcap3, hBg3, ⟨k0, k1, k2, k3⟩, hfz3, ⟨oj3, of3, oa3⟩, hsub3, p03, pj3, pf3, pa3⟩ := fp_elem (HO.out.kept BY.out) (getElem?_set_self' HX.out)
              obtain ⟨rfl, rfl⟩ : g = g3 ∧ c6 = cap3 := by simpa using e3'
              have hk3 := kept_cell BY.out RC.out.2.2
              rw [k3] at hk3
              obtain rfl := Option.some.inj hk3
              obtain ⟨rr, hBa3⟩ := ap_put3 oa3 HC.out a (moreI 0) (o)
              have := pa3 _ _ (fun b hl hn => heap_set3 (fun e => by subst e; exact hn hBa3)) rr
              rw [set_set', ← E.out, STEP.out] at this
              exact this
            case measure => simp [intOf]; omega
        · have E : Hid (tellA (a, s, o) y = (a, s, moreI o)) := hid (by unfold tellA; simp only; rw [if_neg hz, if_neg hx])
          have hx' : (a == y) = false := by simpa using hx
          clear hz hx
          rcases hs with hs | ⟨rfl, hs⟩
          · have hs' : (s == 0) = false := by simpa using hs
            go_wp2_with fail
            go_quiet (fail)
            go_upto_region 16 with (first | (go_at_call 28; refine (refMore_any _ ho0 ho1 _).mono ?_; rintro e w' ⟨rfl, hw⟩; rw [hw]; clear hw))
            refine wp_name ?_
            intro Y hY
            have BY : Hid (Below wr.heap.size wr Y) := hid (by rw [hY]; first | exact (A0.out.setCell (Nat.le_refl _) _).setCell (Nat.le_refl _) _ | exact (below_drewN A0.out _).setCell (Nat.le_refl _) _ | exact A0.out.setCell (Nat.le_refl _) _)
            have HB : Y.heap[wr.heap.size]? = some (.cells #[.int .i64 a, .int .i64 (s), .int .i64 (moreI o)] 53) := by rw [hY]; first | exact heap_setCell_same _ _ 1 _ _ _ (heap_setCell_same _ _ 0 _ _ _ hb0.out) | exact heap_setCell_same _ _ 1 _ _ _ hb0.out | exact heap_setCell_same _ _ 2 _ _ _ hb0.out
            have h0 := (cell_of_heap (j := 0) HB rfl).1
            have h1 := (cell_of_heap (j := 1) HB rfl).1
            have h2 := (cell_of_heap (j := 2) HB rfl).1
            have hbf := (cell_of_heap (j := 3) (heap_kept HFBr.out BY.out) rfl).1
            have z0 : Y.frozen? ⟨ga, q * 3, none⟩ = false := (BY.out.frozen (p := ⟨ga, q * 3, none⟩) hga).trans (FZ.out _)
            have z1 : Y.frozen? ⟨ga, q * 3 + 1, none⟩ = false := (BY.out.frozen (p := ⟨ga, q * 3 + 1, none⟩) hga).trans (FZ.out _)
            have z2 : Y.frozen? ⟨ga, q * 3 + 2, none⟩ = false := (BY.out.frozen (p := ⟨ga, q * 3 + 2, none⟩) hga).trans (FZ.out _)
            have m0 := kept_cell BY.out C012.out.1
            have m1 := kept_cell BY.out C012.out.2.1
            have m2 := kept_cell BY.out C012.out.2.2
            clear hY HB
            go_wp2_with fail
            go_roundw
            case rel =>
              refine ⟨q + 1, by omega, by go_num, ?_, (HFR.out.trans (Frm.of_below (S := fun b => w5.heap.size ≤ b ∧ b < w6.heap.size) BY.out) (fun _ _ h => h)).trans (frm_set3 GA.out _ _ _) (fun _ _ h => h), cell_set3 (kept_cell BY.out RC.out.1) GG.out, cell_set3 (kept_cell BY.out RC.out.2.1) GG.out, cell_set3 (kept_cell BY.out RC.out.2.2) GG.out⟩
              obtain ⟨g3, cap3, vj3, vf3, va3, Bj3, Bf3, Ba3, e3', hcap3, hBg3, ⟨k0, k1, k2, k3⟩, hfz3, ⟨oj3, of3, oa3⟩, hsub3, p03, pj3, pf3, pa3⟩ := fp_elem (HO.out.kept BY.out) (getElem?_set_self' HX.out)
              obtain ⟨rfl, rfl⟩ : g = g3 ∧ c6 = cap3 := by simpa using e3'
              have hk3 := kept_cell BY.out RC.out.2.2
              rw [k3] at hk3
              obtain rfl := Option.some.inj hk3
              obtain ⟨rr, hBa3⟩ := ap_put3 oa3 HC.out a (s) (moreI o)
              have := pa3 _ _ (fun b hl hn => heap_set3 (fun e => by subst e; exact hn hBa3)) rr
              rw [set_set', ← E.out, STEP.out] at this
              exact this
            case measure => simp [intOf]; omega
          · have hs' : (o == 0) = false := by simpa using hs
            go_wp2_with fail
            go_quiet (fail)
            go_upto_region 16 with (first | (go_at_call 28; refine (refMore_any _ ho0 ho1 _).mono ?_; rintro e w' ⟨rfl, hw⟩; rw [hw]; clear hw))
            refine wp_name ?_
            intro Y hY
            have BY : Hid (Below wr.heap.size wr Y) := hid (by rw [hY]; first | exact (A0.out.setCell (Nat.le_refl _) _).setCell (Nat.le_refl _) _ | exact (below_drewN A0.out _).setCell (Nat.le_refl _) _ | exact A0.out.setCell (Nat.le_refl _) _)
            have HB : Y.heap[wr.heap.size]? = some (.cells #[.int .i64 a, .int .i64 (0), .int .i64 (moreI o)] 53) := by rw [hY]; first | exact heap_setCell_same _ _ 1 _ _ _ (heap_setCell_same _ _ 0 _ _ _ hb0.out) | exact heap_setCell_same _ _ 1 _ _ _ hb0.out | exact heap_setCell_same _ _ 2 _ _ _ hb0.out
            have h0 := (cell_of_heap (j := 0) HB rfl).1
            have h1 := (cell_of_heap (j := 1) HB rfl).1
            have h2 := (cell_of_heap (j := 2) HB rfl).1
            have hbf := (cell_of_heap (j := 3) (heap_kept HFBr.out BY.out) rfl).1
            have z0 : Y.frozen? ⟨ga, q * 3, none⟩ = false := (BY.out.frozen (p := ⟨ga, q * 3, none⟩) hga).trans (FZ.out _)
            have z1 : Y.frozen? ⟨ga, q * 3 + 1, none⟩ = false := (BY.out.frozen (p := ⟨ga, q * 3 + 1, none⟩) hga).trans (FZ.out _)
            have z2 : Y.frozen? ⟨ga, q * 3 + 2, none⟩ = false := (BY.out.frozen (p := ⟨ga, q * 3 + 2, none⟩) hga).trans (FZ.out _)
            have m0 := kept_cell BY.out C012.out.1
            have m1 := kept_cell BY.out C012.out.2.1
            have m2 := kept_cell BY.out C012.out.2.2
            clear hY HB
            go_wp2_with fail
            go_roundw
            case rel =>
              refine ⟨q + 1, by omega, by go_num, ?_, (HFR.out.trans (Frm.of_below (S := fun b => w5.heap.size ≤ b ∧ b < w6.heap.size) BY.out) (fun _ _ h => h)).trans (frm_set3 GA.out _ _ _) (fun _ _ h => h), cell_set3 (kept_cell BY.out RC.out.1) GG.out, cell_set3 (kept_cell BY.out RC.out.2.1) GG.out, cell_set3 (kept_cell BY.out RC.out.2.2) GG.out⟩
              obtain ⟨g3, cap3, vj3, vf3, va3, Bj3, Bf3, Ba3, e3', hcap3, hBg3, ⟨k0, k1, k2, k3⟩, hfz3, ⟨oj3, of3, oa3⟩, hsub3, p03, pj3, pf3, pa3⟩ := fp_elem (HO.out.kept BY.out) (getElem?_set_self' HX.out)
              obtain ⟨rfl, rfl⟩ : g = g3 ∧ c6 = cap3 := by simpa using e3'
              have hk3 := kept_cell BY.out RC.out.2.2
              rw [k3] at hk3
              obtain rfl := Option.some.inj hk3
              obtain ⟨rr, hBa3⟩ := ap_put3 oa3 HC.out a (0) (moreI o)
              have := pa3 _ _ (fun b hl hn => heap_set3 (fun e => by subst e; exact hn hBa3)) rr
              rw [set_set', ← E.out, STEP.out] at this
              exact this
            case measure => simp [intOf]; omega
    · have hqn : q = an := by omega
      subst hqn
      obtain ⟨g', cap', vj', vf', va', Bj', Bf', Ba', e, hcap, hBg', ⟨e0, e1, e2, e3⟩, hfz, ⟨oj, of, oa⟩, hsub, p0, pj, pf, pa⟩ := fp_elem HO.out (getElem?_set_self' HX.out)
      obtain ⟨rfl, rfl⟩ : g = g' ∧ c6 = cap' := by simpa using e
      have P0 := hid (p0 (moreI x))
      have hbg : w5.heap.size ≤ g ∧ g < w6.heap.size := hBg'
      have hc7 : wr.cell? ⟨w6.heap.size, 0, none⟩ = some (.slice (some ⟨g, 0, none⟩) l.length c6) := HFR.out.cell (kept_cell B1.out C7.out) (by show ¬ (w5.heap.size ≤ w6.heap.size ∧ w6.heap.size < w6.heap.size); omega)
      have hq7 : wr.cell? ⟨w.heap.size + 2, 0, none⟩ = some (.slice none 0 0) := HFR.out.cell (kept_cell B1.out Q7.out.1) (by show ¬ (w5.heap.size ≤ w.heap.size + 2 ∧ w.heap.size + 2 < w6.heap.size); omega)
      have hf7 : wr.frozen? ⟨w.heap.size + 2, 0, none⟩ = false := HFR.out.free (kept_cell B1.out Q7.out.1) ((B1.out.frozen (p := ⟨w.heap.size + 2, 0, none⟩) (lt_of_cell Q7.out.1)).trans Q7.out.2) (by show ¬ (w5.heap.size ≤ w.heap.size + 2 ∧ w.heap.size + 2 < w6.heap.size); omega)
      have i0 := (cell_of_heap (j := 0) HFBr.out rfl).1
      have i1 := (cell_of_heap (j := 1) HFBr.out rfl).1
      have i2 := (cell_of_heap (j := 2) HFBr.out rfl).1
      have i3 := (cell_of_heap (j := 3) HFBr.out rfl).1
      have z0 := hfz (k * 4)
      have z1 := hfz (k * 4 + 1)
      have z2 := hfz (k * 4 + 2)
      have z3 := hfz (k * 4 + 3)
      have EQ : Hid ((((wr.setCell ⟨g, k * 4, none⟩ (.int .i64 (moreI x))).setCell ⟨g, k * 4 + 1, none⟩ (.slice xja xjn xjc)).setCell ⟨g, k * 4 + 2, none⟩ (.slice xfa xfn xfc)).setCell ⟨g, k * 4 + 3, none⟩ (.slice xaa xan xac) = wr.setCell ⟨g, k * 4, none⟩ (.int .i64 (moreI x))) := hid (by
        have j1 := cell_set_off (u := .int .i64 (moreI x)) RC.out.1 (show k * 4 + 1 ≠ k * 4 by omega)
        have j2 := cell_set_off (u := .int .i64 (moreI x)) RC.out.2.1 (show k * 4 + 2 ≠ k * 4 by omega)
        have j3 := cell_set_off (u := .int .i64 (moreI x)) RC.out.2.2 (show k * 4 + 3 ≠ k * 4 by omega)
        rw [setCell_self j1, setCell_self j2, setCell_self j3])
      have n1 := RC.out.1
      have n2 := RC.out.2.1
      have n3 := RC.out.2.2
      clear hfz oj of oa hsub p0 pj pf pa e e1 e2 e3 hcap hBg'
      go_upto_region 18 with fail
      refine wp_name ?_
      intro X hX
      have hX' := hX.trans EQ.out
      clear hX
      have BX : Hid (Below w.heap.size w X) := hid (by rw [hX']; exact BW.out.setCell (by show w.heap.size ≤ g; omega) _)
      have OX : Hid (OSl layFp 51 80 X (fun b => w5.heap.size ≤ b ∧ b < w6.heap.size) (.slice (some ⟨g, 0, none⟩) l.length c6) (l.set k (callFp (x, jl, fl, al) args))) := hid (by
        rw [hX', ZE.out]
        have := P0.out
        rw [set_set', mixL_full _ _ _ (by have := ZL.out; have := LA.out; have := HN.out; omega) (by have := LA.out; have := HN.out; omega)] at this
        exact this)
      have x7 : X.cell? ⟨w6.heap.size, 0, none⟩ = some (.slice (some ⟨g, 0, none⟩) l.length c6) := by rw [hX']; exact cell_set_far hc7 (by show w6.heap.size ≠ g; omega)
      have xq : X.cell? ⟨w.heap.size + 2, 0, none⟩ = some (.slice none 0 0) := by rw [hX']; exact cell_set_far hq7 (by show w.heap.size + 2 ≠ g; omega)
      have xf7 : X.frozen? ⟨w.heap.size + 2, 0, none⟩ = false := by rw [hX', World.frozen?_setCell]; exact hf7
      clear hX' EQ i0 i1 i2 i3 z0 z1 z2 z3 hc7 hq7 hf7 n1 n2 n3 e0
      go_wp2_with fail
      refine bodyPost_ret (v := .tuple #[.agg #[.slice (some ⟨g, 0, none⟩) l.length c6], .int .i64 0]) (by simp [results, Tryz.results11, go_sem, xq]) rfl ⟨_, rfl, ?_, BX.out.setCell (by show w.heap.size ≤ w.heap.size + 2; omega) _⟩
      rw [HCP.out]
      exact (OX.out.set _ _ (by show ¬ (w5.heap.size ≤ w.heap.size + 2 ∧ w.heap.size + 2 < w6.heap.size); omega)).sub (fun b hb _ => by have hb' : w5.heap.size ≤ b := hb.1; show w.heap.size ≤ b; omega)

end Go.Proofs.YtppmkoigblimmaaGreatDoor
