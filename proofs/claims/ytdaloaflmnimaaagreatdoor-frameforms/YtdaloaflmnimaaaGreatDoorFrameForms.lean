/- For any two integers the law FrameForms returns true: a state of two frames that may be may not be by frame.State any more when one thing of it is turned; no conditions. -/
import Derived.Test.YtdaloaflmnimaaaGreatDoorRows
import Derived.WalkKit
import Derived.ProofKit
import Derived.OpenShut
import Derived.ShutString
import Derived.ChangeOld
import Derived.Below
import Derived.Carry
import Derived.Lib.SmallJoins
import Derived.Handy
import Derived.WalkSmall
import Derived.SizedLaws
import Derived.Test.YtdaloaflmnimaaaGreatDoorLaidOpenV
import Derived.Test.YtdaloaflmnimaaaGreatDoorCards
import Derived.Test.YtdaloaflmnimaaaGreatDoorTie
import Derived.SevenTiedAt
import Derived.LaidMore
import Derived.Stop.Joined
import Derived.Test.YtdaloaflmnimaaaGreatDoorJ6b
namespace Go.Proofs.YtdaloaflmnimaaaGreatDoor.frameForms
open Go.ChangeShapes Go.WideShapes Go.ChangeAt Go.RowKit
open Go.ChangeMaps (open_string shut_string)
set_option linter.unusedVariables false

theorem own : ownKnob Tryz.prog.godebug = none := by kernel_rfl
theorem laidOut : laidOutB Tryz.prog = true := by kernel_rfl

theorem calls_two {ps : List Fn} {f g : Fr} : callsB ps [f, g] = (waitB ps f g.1 && frB ps 0 g) := by
  have h1 : callAt ps [f, g] 0 = waitB ps f g.1 := callAt_wait (by simp) rfl rfl
  have h2 : callAt ps [f, g] 1 = frB ps 0 g := callAt_last rfl rfl
  unfold callsB
  show (firstAt _ 2 0).isNone = _
  cases hw : waitB ps f g.1
  · rw [firstAt_hit (by rw [h1, hw]; rfl)]; rfl
  · rw [firstAt_step (by rw [h1, hw]; rfl)]
    cases hf : frB ps 0 g
    · rw [firstAt_hit (by rw [h2, hf]; rfl)]; rfl
    · rw [firstAt_step (by rw [h2, hf]; rfl)]; rfl
theorem st_fuel {ps : List Fn} {fs : List Fr} {fu : Int} {os : List Int} {dn vl : Int} (h : fuelB fu os.length = false) : stateB ps (fs, fu, os, dn, vl) = false := by unfold stateB; simp only []; rw [h]; rfl
theorem st_nums {ps : List Fn} {fs : List Fr} {fu : Int} {os : List Int} {dn vl : Int} (h : numsB os = false) : stateB ps (fs, fu, os, dn, vl) = false := by unfold stateB; simp only []; rw [h]; simp
theorem st_out {ps : List Fn} {fs : List Fr} {fu : Int} {os : List Int} {dn vl : Int} (h : outB dn vl fs.length = false) : stateB ps (fs, fu, os, dn, vl) = false := by unfold stateB; simp only []; rw [h]; simp
theorem st_calls {ps : List Fn} {fs : List Fr} {fu : Int} {os : List Int} {dn vl : Int} (h : callsB ps fs = false) : stateB ps (fs, fu, os, dn, vl) = false := by unfold stateB; simp only []; rw [h]; simp
theorem st_last {ps : List Fn} {f g : Fr} {fu : Int} {os : List Int} {dn vl : Int} (h : frB ps 0 g = false) : stateB ps ([f, g], fu, os, dn, vl) = false := st_calls (by rw [calls_two, h, Bool.and_false])
theorem st_first {ps : List Fn} {f g : Fr} {fu : Int} {os : List Int} {dn vl : Int} (h : frB ps 1 f = false) : stateB ps ([f, g], fu, os, dn, vl) = false := st_calls (by rw [calls_two]; unfold waitB; rw [h]; rfl)
theorem two_len (f : Nat) (hf : f < 2) : (htsV twoL (f : Int)).1.length ≤ 6 := by
  rcases (show f = 0 ∨ f = 1 by omega) with rfl | rfl <;> decide +kernel
theorem pc_off {less x : Int} {ll sl : List Int} (h : x < 0 ∨ 4 < x) : frB twoL less (1, x, ll, sl) = false := by
  refine frB_low ?_
  have hl : (htsV twoL 1).1.length = 4 := by decide +kernel
  rw [height_out (by rw [hl]; simp [inB]; omega)]
  omega
theorem fn_off {less x y : Int} {ll sl : List Int} (h : 2 ≤ x) : frB twoL less (x, y, ll, sl) = false := by
  refine frB_low ?_
  rw [reached_out (.inr (by show (2 : Int) ≤ x; exact h))]
  omega
theorem over_no {x : Int} (h : 5 ≤ x) : outB x 0 ([] : List Fr).length = false := by
  unfold outB
  rw [if_neg (by omega), if_neg (by omega), decide_eq_false (by omega)]
theorem big_not {d : Int} (h : 1 ≤ d) : isNum (2147483647 + d) = false := (num_not _).2 (.inr (by omega))
theorem allocs_free (u : World) (bs : List Obj) (i : Nat) (c : Array Value) (t : TypeId) (h : bs[i]? = some (.cells c t)) (o : Nat) : (allocs u bs).frozen? ⟨u.heap.size + i, o, none⟩ = false := by
  induction bs generalizing u i with
  | nil => simp at h
  | cons b r ih =>
    cases i with
    | zero =>
      have e : b = .cells c t := by simpa using h
      subst e
      show (allocs (u.alloc (.cells c t)) r).frozen? _ = false
      rw [(allocs_below (u.alloc (.cells c t)) r).frozen (by simp)]
      simp [go_sem]
    | succ i =>
      have := ih (u.alloc b) i (by simpa using h)
      simp only [World.size_alloc] at this
      rw [show u.heap.size + (i + 1) = u.heap.size + 1 + i by omega]
      exact this
theorem ints_far {w : World} {p : Addr} {v : Value} {b n c : Nat} {l : List Int} (h : Ints w (some ⟨b, 0, none⟩) n c l) (hb : b ≠ p.block) : Ints (w.setCell p v) (some ⟨b, 0, none⟩) n c l :=
  ⟨h.len, h.cap, h.room, h.nilc, fun hn => by
    obtain ⟨b', o', e, hr⟩ := h.row hn
    cases e
    exact ⟨b, 0, rfl, fun i hi => cell_set_far (hr i hi) hb⟩⟩
theorem ints_put {w : World} {b n c : Nat} {l : List Int} (h : Ints w (some ⟨b, 0, none⟩) n c l) (j : Nat) (hj : j < n) (x : Int) : Ints (w.setCell ⟨b, j, none⟩ (.int .i64 x)) (some ⟨b, 0, none⟩) n c (l.set j x) :=
  ⟨by simpa using h.len, h.cap, h.room, fun e => (by cases e), fun hn => by
    obtain ⟨b', o', e, hr⟩ := h.row hn
    cases e
    refine ⟨b, 0, rfl, fun i hi => ?_⟩
    have hl := h.len
    by_cases e0 : i = j
    · subst e0
      have := hr i hi
      rw [Nat.zero_add] at this ⊢
      rw [World.cell?_setCell_same _ _ _ this]
      simp [List.getD_eq_getElem?_getD, ← hl, hi]
    · rw [World.cell?_setCell_other _ _ _ _ (by simp; try omega), hr i hi]
      simp [List.getD_eq_getElem?_getD, List.getElem?_set_ne (Ne.symm e0)]⟩
theorem frs_cut1 {w : World} {g : Nat} {f h : Fr} (k : Frs w (some ⟨g, 0, none⟩) 2 2 [f, h]) : Frs w (some ⟨g, 0, none⟩) 1 2 [f] := by
  refine ⟨rfl, by omega, by omega, fun e => (by cases e), fun _ => ?_⟩
  obtain ⟨b, o, e, hr⟩ := k.row (by omega)
  refine ⟨b, o, e, fun i hi => ?_⟩
  have h0 : i = 0 := by simpa using hi
  subst h0
  exact hr 0 (by simp)
theorem state_no (pa : Option Addr) (pn pc : Nat) (ps : List Fn) (fa : Option Addr) (fn fc : Nat) (fs : List Fr) (fu : Int) (oa : Option Addr) (on oc : Nat) (os : List Int) (dn vl : Int) (w : World) (hp : Fns w pa pn pc ps) (hf : Frs w fa fn fc fs) (ho : Ints w oa on oc os) (ld : Ld w) (no : stateB ps (fs, fu, os, dn, vl) = false) :
    Calls Tryz.prog 17 #[.agg #[.slice pa pn pc], .agg #[.slice fa fn fc, .int .i64 fu, .slice oa on oc, .int .i64 dn, .int .i64 vl]] w fun e w' => e = .returned (.bool false) ∧ Below w.heap.size w w' :=
  (frameState_any pa pn pc ps fa fn fc fs fu oa on oc os dn vl w hp hf ho ld).mono (by rintro e w' ⟨rfl, hb⟩; exact ⟨by rw [no], hb⟩)
set_option maxRecDepth 100000 in
set_option maxHeartbeats 20000000 in
theorem walk (a0 : Int) (a1 : Int) (w : World) (w0 : (Lit.int .i64 a0).wf = true) (w1 : (Lit.int .i64 a1).wf = true) (ld : Ld w) :
    Calls Tryz.prog 5 #[.int .i64 a0, .int .i64 a1] w fun e w' => e = .returned (.bool true) ∧ Below w.heap.size w w' := by
  have LD0 := hid ld
  clear ld
  go_enter Tryz.func5, Tryz.ntmps5
  go_wp2_with fail
  refine (awake6_any _ LD0.out).mono ?_
  rintro e u1 ⟨rfl, b1⟩
  have ha := and1023 a1
  have hk := umod_bd a0 17 (by omega)
  have B1 := hid b1
  clear b1
  go_wp2_with fail
  refine (two6_any _).mono ?_
  rintro e u2 ⟨pv, pn, pc, rfl, pf, b2⟩
  have B2 := hid (kt B1.out b2)
  have PF := hid pf
  clear pf b2
  obtain ⟨d, hd⟩ : ∃ d : Int, a1 % 1024 = d := ⟨_, rfl⟩
  have hd0 : 0 ≤ d ∧ d ≤ 1023 := by omega
  have W5 : Hid (∃ w5 : World, w5 = allocs u2 [.cells #[.slice pv pn pc] 24, .cells #[.int .i64 5] 3, .cells #[.int .i64 5, .int .i64 2] 3, .cells #[.int .i64 5, .int .i64 2] 3, .cells #[.int .i64 0, .int .i64 3, .slice (some ⟨u2.heap.size + 1, 0, none⟩) 1 1, .slice none 0 0, .int .i64 1, .int .i64 2, .slice (some ⟨u2.heap.size + 1 + 1, 0, none⟩) 2 2, .slice (some ⟨u2.heap.size + 1 + 1 + 1, 0, none⟩) 2 2] 27, .cells #[.int .i64 1] 3, .cells #[.slice (some ⟨u2.heap.size + 1 + 1 + 1 + 1, 0, none⟩) 2 2, .int .i64 4, .slice (some ⟨u2.heap.size + 1 + 1 + 1 + 1 + 1, 0, none⟩) 1 1, .int .i64 0, .int .i64 0] 30]) := hid ⟨_, rfl⟩
  obtain ⟨w5, hw5⟩ := W5.out
  have D5 : Hid (Below u2.heap.size u2 w5) := hid (by rw [hw5]; exact allocs_below _ _)
  have Cp0 : Hid (w5.cell? ⟨u2.heap.size, 0, none⟩ = some (.slice pv pn pc)) := hid (by rw [hw5]; exact allocs_cell u2 _ 0 _ 24 rfl 0 _ rfl)
  have Cq0 : Hid (w5.cell? ⟨u2.heap.size + 1 + 1 + 1 + 1, 0, none⟩ = some (.int .i64 0)) := hid (by rw [hw5]; exact allocs_cell u2 _ 4 _ 27 rfl 0 _ rfl)
  have Cq1 : Hid (w5.cell? ⟨u2.heap.size + 1 + 1 + 1 + 1, 1, none⟩ = some (.int .i64 3)) := hid (by rw [hw5]; exact allocs_cell u2 _ 4 _ 27 rfl 1 _ rfl)
  have Cq2 : Hid (w5.cell? ⟨u2.heap.size + 1 + 1 + 1 + 1, 2, none⟩ = some (.slice (some ⟨u2.heap.size + 1, 0, none⟩) 1 1)) := hid (by rw [hw5]; exact allocs_cell u2 _ 4 _ 27 rfl 2 _ rfl)
  have Cq3 : Hid (w5.cell? ⟨u2.heap.size + 1 + 1 + 1 + 1, 3, none⟩ = some (.slice none 0 0)) := hid (by rw [hw5]; exact allocs_cell u2 _ 4 _ 27 rfl 3 _ rfl)
  have Cq4 : Hid (w5.cell? ⟨u2.heap.size + 1 + 1 + 1 + 1, 4, none⟩ = some (.int .i64 1)) := hid (by rw [hw5]; exact allocs_cell u2 _ 4 _ 27 rfl 4 _ rfl)
  have Cq5 : Hid (w5.cell? ⟨u2.heap.size + 1 + 1 + 1 + 1, 5, none⟩ = some (.int .i64 2)) := hid (by rw [hw5]; exact allocs_cell u2 _ 4 _ 27 rfl 5 _ rfl)
  have Cq6 : Hid (w5.cell? ⟨u2.heap.size + 1 + 1 + 1 + 1, 6, none⟩ = some (.slice (some ⟨u2.heap.size + 1 + 1, 0, none⟩) 2 2)) := hid (by rw [hw5]; exact allocs_cell u2 _ 4 _ 27 rfl 6 _ rfl)
  have Cq7 : Hid (w5.cell? ⟨u2.heap.size + 1 + 1 + 1 + 1, 7, none⟩ = some (.slice (some ⟨u2.heap.size + 1 + 1 + 1, 0, none⟩) 2 2)) := hid (by rw [hw5]; exact allocs_cell u2 _ 4 _ 27 rfl 7 _ rfl)
  have Cs0 : Hid (w5.cell? ⟨u2.heap.size + 1 + 1 + 1 + 1 + 1 + 1, 0, none⟩ = some (.slice (some ⟨u2.heap.size + 1 + 1 + 1 + 1, 0, none⟩) 2 2)) := hid (by rw [hw5]; exact allocs_cell u2 _ 6 _ 30 rfl 0 _ rfl)
  have Cs1 : Hid (w5.cell? ⟨u2.heap.size + 1 + 1 + 1 + 1 + 1 + 1, 1, none⟩ = some (.int .i64 4)) := hid (by rw [hw5]; exact allocs_cell u2 _ 6 _ 30 rfl 1 _ rfl)
  have Cs2 : Hid (w5.cell? ⟨u2.heap.size + 1 + 1 + 1 + 1 + 1 + 1, 2, none⟩ = some (.slice (some ⟨u2.heap.size + 1 + 1 + 1 + 1 + 1, 0, none⟩) 1 1)) := hid (by rw [hw5]; exact allocs_cell u2 _ 6 _ 30 rfl 2 _ rfl)
  have Cs3 : Hid (w5.cell? ⟨u2.heap.size + 1 + 1 + 1 + 1 + 1 + 1, 3, none⟩ = some (.int .i64 0)) := hid (by rw [hw5]; exact allocs_cell u2 _ 6 _ 30 rfl 3 _ rfl)
  have Cs4 : Hid (w5.cell? ⟨u2.heap.size + 1 + 1 + 1 + 1 + 1 + 1, 4, none⟩ = some (.int .i64 0)) := hid (by rw [hw5]; exact allocs_cell u2 _ 6 _ 30 rfl 4 _ rfl)
  have Co0 : Hid (w5.cell? ⟨u2.heap.size + 1 + 1 + 1 + 1 + 1, 0, none⟩ = some (.int .i64 1)) := hid (by rw [hw5]; exact allocs_cell u2 _ 5 _ 3 rfl 0 _ rfl)
  have Ck0 : Hid (w5.cell? ⟨u2.heap.size + 1 + 1 + 1, 0, none⟩ = some (.int .i64 5)) := hid (by rw [hw5]; exact allocs_cell u2 _ 3 _ 3 rfl 0 _ rfl)
  have Ck1 : Hid (w5.cell? ⟨u2.heap.size + 1 + 1 + 1, 1, none⟩ = some (.int .i64 2)) := hid (by rw [hw5]; exact allocs_cell u2 _ 3 _ 3 rfl 1 _ rfl)
  have Zq0 : Hid (w5.frozen? ⟨u2.heap.size + 1 + 1 + 1 + 1, 0, none⟩ = false) := hid (by rw [hw5]; exact allocs_free u2 _ 4 _ 27 rfl 0)
  have Zq1 : Hid (w5.frozen? ⟨u2.heap.size + 1 + 1 + 1 + 1, 1, none⟩ = false) := hid (by rw [hw5]; exact allocs_free u2 _ 4 _ 27 rfl 1)
  have Zq2 : Hid (w5.frozen? ⟨u2.heap.size + 1 + 1 + 1 + 1, 2, none⟩ = false) := hid (by rw [hw5]; exact allocs_free u2 _ 4 _ 27 rfl 2)
  have Zq3 : Hid (w5.frozen? ⟨u2.heap.size + 1 + 1 + 1 + 1, 3, none⟩ = false) := hid (by rw [hw5]; exact allocs_free u2 _ 4 _ 27 rfl 3)
  have Zq4 : Hid (w5.frozen? ⟨u2.heap.size + 1 + 1 + 1 + 1, 4, none⟩ = false) := hid (by rw [hw5]; exact allocs_free u2 _ 4 _ 27 rfl 4)
  have Zq5 : Hid (w5.frozen? ⟨u2.heap.size + 1 + 1 + 1 + 1, 5, none⟩ = false) := hid (by rw [hw5]; exact allocs_free u2 _ 4 _ 27 rfl 5)
  have Zq6 : Hid (w5.frozen? ⟨u2.heap.size + 1 + 1 + 1 + 1, 6, none⟩ = false) := hid (by rw [hw5]; exact allocs_free u2 _ 4 _ 27 rfl 6)
  have Zq7 : Hid (w5.frozen? ⟨u2.heap.size + 1 + 1 + 1 + 1, 7, none⟩ = false) := hid (by rw [hw5]; exact allocs_free u2 _ 4 _ 27 rfl 7)
  have Zs0 : Hid (w5.frozen? ⟨u2.heap.size + 1 + 1 + 1 + 1 + 1 + 1, 0, none⟩ = false) := hid (by rw [hw5]; exact allocs_free u2 _ 6 _ 30 rfl 0)
  have Zs1 : Hid (w5.frozen? ⟨u2.heap.size + 1 + 1 + 1 + 1 + 1 + 1, 1, none⟩ = false) := hid (by rw [hw5]; exact allocs_free u2 _ 6 _ 30 rfl 1)
  have Zs2 : Hid (w5.frozen? ⟨u2.heap.size + 1 + 1 + 1 + 1 + 1 + 1, 2, none⟩ = false) := hid (by rw [hw5]; exact allocs_free u2 _ 6 _ 30 rfl 2)
  have Zs3 : Hid (w5.frozen? ⟨u2.heap.size + 1 + 1 + 1 + 1 + 1 + 1, 3, none⟩ = false) := hid (by rw [hw5]; exact allocs_free u2 _ 6 _ 30 rfl 3)
  have Zs4 : Hid (w5.frozen? ⟨u2.heap.size + 1 + 1 + 1 + 1 + 1 + 1, 4, none⟩ = false) := hid (by rw [hw5]; exact allocs_free u2 _ 6 _ 30 rfl 4)
  have Zo0 : Hid (w5.frozen? ⟨u2.heap.size + 1 + 1 + 1 + 1 + 1, 0, none⟩ = false) := hid (by rw [hw5]; exact allocs_free u2 _ 5 _ 3 rfl 0)
  have Zk0 : Hid (w5.frozen? ⟨u2.heap.size + 1 + 1 + 1, 0, none⟩ = false) := hid (by rw [hw5]; exact allocs_free u2 _ 3 _ 3 rfl 0)
  have I5 : Hid (Ints w5 (some ⟨u2.heap.size + 1, 0, none⟩) 1 1 [5]) := hid (by rw [hw5]; exact allocs_ints u2 _ 1 [5] 3 rfl (by decide))
  have J5 : Hid (Ints w5 (some ⟨u2.heap.size + 1 + 1, 0, none⟩) 2 2 [5, 2]) := hid (by rw [hw5]; exact allocs_ints u2 _ 2 [5, 2] 3 rfl (by decide))
  have K5 : Hid (Ints w5 (some ⟨u2.heap.size + 1 + 1 + 1, 0, none⟩) 2 2 [5, 2]) := hid (by rw [hw5]; exact allocs_ints u2 _ 3 [5, 2] 3 rfl (by decide))
  have O5 : Hid (Ints w5 (some ⟨u2.heap.size + 1 + 1 + 1 + 1 + 1, 0, none⟩) 1 1 [1]) := hid (by rw [hw5]; exact allocs_ints u2 _ 5 [1] 3 rfl (by decide))
  have T5 : Hid (Frs w5 (some ⟨u2.heap.size + 1 + 1 + 1 + 1, 0, none⟩) 2 2 [frT0, frT1]) := hid (frs_two I5.out (Ints.nil _) J5.out K5.out Cq0.out Cq1.out Cq2.out Cq3.out Cq4.out Cq5.out Cq6.out Cq7.out)
  have E5 := hid hw5
  rw [hd] at *
  clear hw5 W5 ha hd
  go_wp2_with fail
  refine calls_world (U := w5) E5.out ?_
  refine (frameState_any _ _ _ twoL _ _ _ [frT0, frT1] 4 _ _ _ [1] 0 0 _ (PF.out.kept D5.out) T5.out O5.out (LD0.out.up (kt B2.out D5.out))).mono ?_
  rintro e w6 ⟨rfl, b6⟩
  rw [show stateB twoL ([frT0, frT1], 4, [1], 0, 0) = true by decide +kernel]
  have D6 := hid (kt D5.out b6)
  have B6 := hid (kt B2.out D6.out)
  have PF6 := hid (PF.out.kept D6.out)
  have I6 := hid (I5.out.kept b6)
  have J6 := hid (J5.out.kept b6)
  have K6 := hid (K5.out.kept b6)
  have O6 := hid (O5.out.kept b6)
  have T6 := hid (T5.out.kept b6)
  have p0 := kept_cell b6 Cp0.out
  have q0 := kept_cell b6 Cq0.out
  have q1 := kept_cell b6 Cq1.out
  have q2 := kept_cell b6 Cq2.out
  have q3 := kept_cell b6 Cq3.out
  have q4 := kept_cell b6 Cq4.out
  have q5 := kept_cell b6 Cq5.out
  have q6 := kept_cell b6 Cq6.out
  have q7 := kept_cell b6 Cq7.out
  have s0 := kept_cell b6 Cs0.out
  have s1 := kept_cell b6 Cs1.out
  have s2 := kept_cell b6 Cs2.out
  have s3 := kept_cell b6 Cs3.out
  have s4 := kept_cell b6 Cs4.out
  have o0 := kept_cell b6 Co0.out
  have k0 := kept_cell b6 Ck0.out
  have k1 := kept_cell b6 Ck1.out
  have zq0 : w6.frozen? ⟨u2.heap.size + 1 + 1 + 1 + 1, 0, none⟩ = false := by rw [b6.frozen (lt_of_cell Cq0.out)]; exact Zq0.out
  have zq1 : w6.frozen? ⟨u2.heap.size + 1 + 1 + 1 + 1, 1, none⟩ = false := by rw [b6.frozen (lt_of_cell Cq1.out)]; exact Zq1.out
  have zq2 : w6.frozen? ⟨u2.heap.size + 1 + 1 + 1 + 1, 2, none⟩ = false := by rw [b6.frozen (lt_of_cell Cq2.out)]; exact Zq2.out
  have zq3 : w6.frozen? ⟨u2.heap.size + 1 + 1 + 1 + 1, 3, none⟩ = false := by rw [b6.frozen (lt_of_cell Cq3.out)]; exact Zq3.out
  have zq4 : w6.frozen? ⟨u2.heap.size + 1 + 1 + 1 + 1, 4, none⟩ = false := by rw [b6.frozen (lt_of_cell Cq4.out)]; exact Zq4.out
  have zq5 : w6.frozen? ⟨u2.heap.size + 1 + 1 + 1 + 1, 5, none⟩ = false := by rw [b6.frozen (lt_of_cell Cq5.out)]; exact Zq5.out
  have zq6 : w6.frozen? ⟨u2.heap.size + 1 + 1 + 1 + 1, 6, none⟩ = false := by rw [b6.frozen (lt_of_cell Cq6.out)]; exact Zq6.out
  have zq7 : w6.frozen? ⟨u2.heap.size + 1 + 1 + 1 + 1, 7, none⟩ = false := by rw [b6.frozen (lt_of_cell Cq7.out)]; exact Zq7.out
  have zs0 : w6.frozen? ⟨u2.heap.size + 1 + 1 + 1 + 1 + 1 + 1, 0, none⟩ = false := by rw [b6.frozen (lt_of_cell Cs0.out)]; exact Zs0.out
  have zs1 : w6.frozen? ⟨u2.heap.size + 1 + 1 + 1 + 1 + 1 + 1, 1, none⟩ = false := by rw [b6.frozen (lt_of_cell Cs1.out)]; exact Zs1.out
  have zs2 : w6.frozen? ⟨u2.heap.size + 1 + 1 + 1 + 1 + 1 + 1, 2, none⟩ = false := by rw [b6.frozen (lt_of_cell Cs2.out)]; exact Zs2.out
  have zs3 : w6.frozen? ⟨u2.heap.size + 1 + 1 + 1 + 1 + 1 + 1, 3, none⟩ = false := by rw [b6.frozen (lt_of_cell Cs3.out)]; exact Zs3.out
  have zs4 : w6.frozen? ⟨u2.heap.size + 1 + 1 + 1 + 1 + 1 + 1, 4, none⟩ = false := by rw [b6.frozen (lt_of_cell Cs4.out)]; exact Zs4.out
  have zo0 : w6.frozen? ⟨u2.heap.size + 1 + 1 + 1 + 1 + 1, 0, none⟩ = false := by rw [b6.frozen (lt_of_cell Co0.out)]; exact Zo0.out
  have zk0 : w6.frozen? ⟨u2.heap.size + 1 + 1 + 1, 0, none⟩ = false := by rw [b6.frozen (lt_of_cell Ck0.out)]; exact Zk0.out
  have h6 : u2.heap.size + 1 + 1 + 1 + 1 + 1 + 1 < w6.heap.size := lt_of_cell s0
  clear b6 E5 Cp0 Cq0 Cq1 Cq2 Cq3 Cq4 Cq5 Cq6 Cq7 Cs0 Cs1 Cs2 Cs3 Cs4 Co0 Ck0 Ck1 Zq0 Zq1 Zq2 Zq3 Zq4 Zq5 Zq6 Zq7 Zs0 Zs1 Zs2 Zs3 Zs4 Zo0 Zk0 I5 J5 K5 O5 T5
  obtain ⟨k, hK⟩ : ∃ k, (IntKind.u64.wrap a0).tmod 17 = k := ⟨_, rfl⟩
  rw [hK] at hk
  have hF : u2.heap.size + 1 + 1 + 1 + 1 < w6.heap.size := lt_of_cell q0
  have hk17 : k = 0 ∨ k = 1 ∨ k = 2 ∨ k = 3 ∨ k = 4 ∨ k = 5 ∨ k = 6 ∨ k = 7 ∨ k = 8 ∨ k = 9 ∨ k = 10 ∨ k = 11 ∨ k = 12 ∨ k = 13 ∨ k = 14 ∨ k = 15 ∨ k = 16 := by omega
  clear hk
  rcases hk17 with rfl | rfl | rfl | rfl | rfl | rfl | rfl | rfl | rfl | rfl | rfl | rfl | rfl | rfl | rfl | rfl | rfl
  · go_wp2_with fail
    have BW := hid (D6.out.setCell (p := ⟨u2.heap.size + 1 + 1 + 1 + 1 + 1 + 1, 1, none⟩) (by simp; try omega) (.int .i64 (-(1 + d))))
    refine (state_no _ _ _ twoL _ _ _ [frT0, frT1] _ _ _ _ [1] _ _ _ (PF.out.kept BW.out) (frs_two (ints_far I6.out (by simp <;> omega)) (Ints.nil _) (ints_far J6.out (by simp <;> omega)) (ints_far K6.out (by simp <;> omega)) (cell_set_far q0 (by simp <;> omega)) (cell_set_far q1 (by simp <;> omega)) (cell_set_far q2 (by simp <;> omega)) (cell_set_far q3 (by simp <;> omega)) (cell_set_far q4 (by simp <;> omega)) (cell_set_far q5 (by simp <;> omega)) (cell_set_far q6 (by simp <;> omega)) (cell_set_far q7 (by simp <;> omega))) (ints_far O6.out (by simp <;> omega)) (LD0.out.up (kt B2.out BW.out)) ?_).mono ?_
    · exact st_fuel (by simp [fuelB]; omega)
    · rintro e w9 ⟨rfl, b9⟩
      go_wp2_with fail
      go_ret
      exact ⟨rfl, kt (kt B2.out BW.out) b9⟩
  · go_wp2_with fail
    have BW := hid (D6.out.setCell (p := ⟨u2.heap.size + 1 + 1 + 1 + 1 + 1 + 1, 1, none⟩) (by simp; try omega) (.int .i64 100000))
    refine (state_no _ _ _ twoL _ _ _ [frT0, frT1] _ _ _ _ [1] _ _ _ (PF.out.kept BW.out) (frs_two (ints_far I6.out (by simp <;> omega)) (Ints.nil _) (ints_far J6.out (by simp <;> omega)) (ints_far K6.out (by simp <;> omega)) (cell_set_far q0 (by simp <;> omega)) (cell_set_far q1 (by simp <;> omega)) (cell_set_far q2 (by simp <;> omega)) (cell_set_far q3 (by simp <;> omega)) (cell_set_far q4 (by simp <;> omega)) (cell_set_far q5 (by simp <;> omega)) (cell_set_far q6 (by simp <;> omega)) (cell_set_far q7 (by simp <;> omega))) (ints_far O6.out (by simp <;> omega)) (LD0.out.up (kt B2.out BW.out)) ?_).mono ?_
    · exact st_fuel (by decide)
    · rintro e w9 ⟨rfl, b9⟩
      go_wp2_with fail
      go_ret
      exact ⟨rfl, kt (kt B2.out BW.out) b9⟩
  · go_wp2_with fail
    have BW := hid (D6.out.setCell (p := ⟨u2.heap.size + 1 + 1 + 1 + 1 + 1, 0, none⟩) (by simp; try omega) (.int .i64 (2147483647 + (1 + d))))
    refine (state_no _ _ _ twoL _ _ _ [frT0, frT1] _ _ _ _ [2147483647 + (1 + d)] _ _ _ (PF.out.kept BW.out) (frs_two (ints_far I6.out (by simp <;> omega)) (Ints.nil _) (ints_far J6.out (by simp <;> omega)) (ints_far K6.out (by simp <;> omega)) (cell_set_far q0 (by simp <;> omega)) (cell_set_far q1 (by simp <;> omega)) (cell_set_far q2 (by simp <;> omega)) (cell_set_far q3 (by simp <;> omega)) (cell_set_far q4 (by simp <;> omega)) (cell_set_far q5 (by simp <;> omega)) (cell_set_far q6 (by simp <;> omega)) (cell_set_far q7 (by simp <;> omega))) (ints_put O6.out 0 (by omega) (2147483647 + (1 + d))) (LD0.out.up (kt B2.out BW.out)) ?_).mono ?_
    · exact st_nums (by simp [numsB, big_not (show 1 ≤ 1 + d by omega)])
    · rintro e w9 ⟨rfl, b9⟩
      go_wp2_with fail
      go_ret
      exact ⟨rfl, kt (kt B2.out BW.out) b9⟩
  · go_wp2_with fail
    have BW := hid (D6.out.setCell (p := ⟨u2.heap.size + 1 + 1 + 1 + 1 + 1 + 1, 3, none⟩) (by simp; try omega) (.int .i64 4))
    refine (state_no _ _ _ twoL _ _ _ [frT0, frT1] _ _ _ _ [1] _ _ _ (PF.out.kept BW.out) (frs_two (ints_far I6.out (by simp <;> omega)) (Ints.nil _) (ints_far J6.out (by simp <;> omega)) (ints_far K6.out (by simp <;> omega)) (cell_set_far q0 (by simp <;> omega)) (cell_set_far q1 (by simp <;> omega)) (cell_set_far q2 (by simp <;> omega)) (cell_set_far q3 (by simp <;> omega)) (cell_set_far q4 (by simp <;> omega)) (cell_set_far q5 (by simp <;> omega)) (cell_set_far q6 (by simp <;> omega)) (cell_set_far q7 (by simp <;> omega))) (ints_far O6.out (by simp <;> omega)) (LD0.out.up (kt B2.out BW.out)) ?_).mono ?_
    · exact st_out (by decide)
    · rintro e w9 ⟨rfl, b9⟩
      go_wp2_with fail
      go_ret
      exact ⟨rfl, kt (kt B2.out BW.out) b9⟩
  · go_wp2_with fail
    have BW := hid (D6.out.setCell (p := ⟨u2.heap.size + 1 + 1 + 1 + 1 + 1 + 1, 4, none⟩) (by simp; try omega) (.int .i64 (1 + d)))
    refine (state_no _ _ _ twoL _ _ _ [frT0, frT1] _ _ _ _ [1] _ _ _ (PF.out.kept BW.out) (frs_two (ints_far I6.out (by simp <;> omega)) (Ints.nil _) (ints_far J6.out (by simp <;> omega)) (ints_far K6.out (by simp <;> omega)) (cell_set_far q0 (by simp <;> omega)) (cell_set_far q1 (by simp <;> omega)) (cell_set_far q2 (by simp <;> omega)) (cell_set_far q3 (by simp <;> omega)) (cell_set_far q4 (by simp <;> omega)) (cell_set_far q5 (by simp <;> omega)) (cell_set_far q6 (by simp <;> omega)) (cell_set_far q7 (by simp <;> omega))) (ints_far O6.out (by simp <;> omega)) (LD0.out.up (kt B2.out BW.out)) ?_).mono ?_
    · exact st_out (by simp [outB]; omega)
    · rintro e w9 ⟨rfl, b9⟩
      go_wp2_with fail
      go_ret
      exact ⟨rfl, kt (kt B2.out BW.out) b9⟩
  · go_wp2_with fail
    have BW := hid (D6.out.setCell (p := ⟨u2.heap.size + 1 + 1 + 1 + 1 + 1 + 1, 0, none⟩) (by simp; try omega) (.slice none 0 0))
    refine (state_no _ _ _ twoL _ _ _ [] _ _ _ _ [1] _ _ _ (PF.out.kept BW.out) (Frs.nil _) (ints_far O6.out (by simp <;> omega)) (LD0.out.up (kt B2.out BW.out)) ?_).mono ?_
    · exact st_out (by decide)
    · rintro e w9 ⟨rfl, b9⟩
      go_wp2_with fail
      go_ret
      exact ⟨rfl, kt (kt B2.out BW.out) b9⟩
  · go_wp2_with fail
    have BW := hid (D6.out.setCell (p := ⟨u2.heap.size + 1 + 1 + 1 + 1 + 1 + 1, 0, none⟩) (by simp; try omega) (.slice (some ⟨u2.heap.size + 1 + 1 + 1 + 1, 0, none⟩) 1 2))
    refine (state_no _ _ _ twoL _ _ _ [frT0] _ _ _ _ [1] _ _ _ (PF.out.kept BW.out) (frs_cut1 (frs_two (ints_far I6.out (by simp <;> omega)) (Ints.nil _) (ints_far J6.out (by simp <;> omega)) (ints_far K6.out (by simp <;> omega)) (cell_set_far q0 (by simp <;> omega)) (cell_set_far q1 (by simp <;> omega)) (cell_set_far q2 (by simp <;> omega)) (cell_set_far q3 (by simp <;> omega)) (cell_set_far q4 (by simp <;> omega)) (cell_set_far q5 (by simp <;> omega)) (cell_set_far q6 (by simp <;> omega)) (cell_set_far q7 (by simp <;> omega)))) (ints_far O6.out (by simp <;> omega)) (LD0.out.up (kt B2.out BW.out)) ?_).mono ?_
    · exact st_calls (by decide +kernel)
    · rintro e w9 ⟨rfl, b9⟩
      go_wp2_with fail
      go_ret
      exact ⟨rfl, kt (kt B2.out BW.out) b9⟩
  · go_wp2_with fail
    have BW := hid (D6.out.setCell (p := ⟨u2.heap.size + 1 + 1 + 1 + 1, 4, none⟩) (by simp; try omega) (.int .i64 0))
    refine (state_no _ _ _ twoL _ _ _ [frT0, (0, 2, [5, 2], [5, 2])] _ _ _ _ [1] _ _ _ (PF.out.kept BW.out) (frs_two (ints_far I6.out (by simp <;> omega)) (Ints.nil _) (ints_far J6.out (by simp <;> omega)) (ints_far K6.out (by simp <;> omega)) (by rw [World.cell?_setCell_other _ _ _ _ (by simp)]; exact q0) (by rw [World.cell?_setCell_other _ _ _ _ (by simp)]; exact q1) (by rw [World.cell?_setCell_other _ _ _ _ (by simp)]; exact q2) (by rw [World.cell?_setCell_other _ _ _ _ (by simp)]; exact q3) (World.cell?_setCell_same _ _ _ q4) (by rw [World.cell?_setCell_other _ _ _ _ (by simp)]; exact q5) (by rw [World.cell?_setCell_other _ _ _ _ (by simp)]; exact q6) (by rw [World.cell?_setCell_other _ _ _ _ (by simp)]; exact q7)) (ints_far O6.out (by simp <;> omega)) (LD0.out.up (kt B2.out BW.out)) ?_).mono ?_
    · decide +kernel
    · rintro e w9 ⟨rfl, b9⟩
      go_wp2_with fail
      go_ret
      exact ⟨rfl, kt (kt B2.out BW.out) b9⟩
  · go_wp2_with fail
    have BW := hid (D6.out.setCell (p := ⟨u2.heap.size + 1 + 1 + 1 + 1, 5, none⟩) (by simp; try omega) (.int .i64 (4 + (1 + d))))
    refine (state_no _ _ _ twoL _ _ _ [frT0, (1, 4 + (1 + d), [5, 2], [5, 2])] _ _ _ _ [1] _ _ _ (PF.out.kept BW.out) (frs_two (ints_far I6.out (by simp <;> omega)) (Ints.nil _) (ints_far J6.out (by simp <;> omega)) (ints_far K6.out (by simp <;> omega)) (by rw [World.cell?_setCell_other _ _ _ _ (by simp)]; exact q0) (by rw [World.cell?_setCell_other _ _ _ _ (by simp)]; exact q1) (by rw [World.cell?_setCell_other _ _ _ _ (by simp)]; exact q2) (by rw [World.cell?_setCell_other _ _ _ _ (by simp)]; exact q3) (by rw [World.cell?_setCell_other _ _ _ _ (by simp)]; exact q4) (World.cell?_setCell_same _ _ _ q5) (by rw [World.cell?_setCell_other _ _ _ _ (by simp)]; exact q6) (by rw [World.cell?_setCell_other _ _ _ _ (by simp)]; exact q7)) (ints_far O6.out (by simp <;> omega)) (LD0.out.up (kt B2.out BW.out)) ?_).mono ?_
    · exact st_last (pc_off (by omega))
    · rintro e w9 ⟨rfl, b9⟩
      go_wp2_with fail
      go_ret
      exact ⟨rfl, kt (kt B2.out BW.out) b9⟩
  · go_wp2_with fail
    have BW := hid (D6.out.setCell (p := ⟨u2.heap.size + 1 + 1 + 1 + 1, 5, none⟩) (by simp; try omega) (.int .i64 (-(1 + d))))
    refine (state_no _ _ _ twoL _ _ _ [frT0, (1, -(1 + d), [5, 2], [5, 2])] _ _ _ _ [1] _ _ _ (PF.out.kept BW.out) (frs_two (ints_far I6.out (by simp <;> omega)) (Ints.nil _) (ints_far J6.out (by simp <;> omega)) (ints_far K6.out (by simp <;> omega)) (by rw [World.cell?_setCell_other _ _ _ _ (by simp)]; exact q0) (by rw [World.cell?_setCell_other _ _ _ _ (by simp)]; exact q1) (by rw [World.cell?_setCell_other _ _ _ _ (by simp)]; exact q2) (by rw [World.cell?_setCell_other _ _ _ _ (by simp)]; exact q3) (by rw [World.cell?_setCell_other _ _ _ _ (by simp)]; exact q4) (World.cell?_setCell_same _ _ _ q5) (by rw [World.cell?_setCell_other _ _ _ _ (by simp)]; exact q6) (by rw [World.cell?_setCell_other _ _ _ _ (by simp)]; exact q7)) (ints_far O6.out (by simp <;> omega)) (LD0.out.up (kt B2.out BW.out)) ?_).mono ?_
    · exact st_last (pc_off (by omega))
    · rintro e w9 ⟨rfl, b9⟩
      go_wp2_with fail
      go_ret
      exact ⟨rfl, kt (kt B2.out BW.out) b9⟩
  · have yp0 := kept_cell (Below.alloc (Below.refl _ _) (Nat.le_refl _) (.cells #[.int .i64 1] 3)) (cell_set_far (p := ⟨u2.heap.size + 1 + 1 + 1 + 1, 6, none⟩) (u := .slice (some ⟨w6.heap.size, 0, none⟩) 1 1) p0 (by simp <;> omega))
    have ys0 := kept_cell (Below.alloc (Below.refl _ _) (Nat.le_refl _) (.cells #[.int .i64 1] 3)) (cell_set_far (p := ⟨u2.heap.size + 1 + 1 + 1 + 1, 6, none⟩) (u := .slice (some ⟨w6.heap.size, 0, none⟩) 1 1) s0 (by simp <;> omega))
    have ys1 := kept_cell (Below.alloc (Below.refl _ _) (Nat.le_refl _) (.cells #[.int .i64 1] 3)) (cell_set_far (p := ⟨u2.heap.size + 1 + 1 + 1 + 1, 6, none⟩) (u := .slice (some ⟨w6.heap.size, 0, none⟩) 1 1) s1 (by simp <;> omega))
    have ys2 := kept_cell (Below.alloc (Below.refl _ _) (Nat.le_refl _) (.cells #[.int .i64 1] 3)) (cell_set_far (p := ⟨u2.heap.size + 1 + 1 + 1 + 1, 6, none⟩) (u := .slice (some ⟨w6.heap.size, 0, none⟩) 1 1) s2 (by simp <;> omega))
    have ys3 := kept_cell (Below.alloc (Below.refl _ _) (Nat.le_refl _) (.cells #[.int .i64 1] 3)) (cell_set_far (p := ⟨u2.heap.size + 1 + 1 + 1 + 1, 6, none⟩) (u := .slice (some ⟨w6.heap.size, 0, none⟩) 1 1) s3 (by simp <;> omega))
    have ys4 := kept_cell (Below.alloc (Below.refl _ _) (Nat.le_refl _) (.cells #[.int .i64 1] 3)) (cell_set_far (p := ⟨u2.heap.size + 1 + 1 + 1 + 1, 6, none⟩) (u := .slice (some ⟨w6.heap.size, 0, none⟩) 1 1) s4 (by simp <;> omega))
    go_wp2_with fail
    have BW := hid (Below.alloc (D6.out.setCell (p := ⟨u2.heap.size + 1 + 1 + 1 + 1, 6, none⟩) (by simp; try omega) (.slice (some ⟨w6.heap.size, 0, none⟩) 1 1)) (by simp; omega) (.cells #[.int .i64 1] 3))
    refine (state_no _ _ _ twoL _ _ _ [frT0, (1, 2, [1], [5, 2])] _ _ _ _ [1] _ _ _ (PF.out.kept BW.out) (frs_two ((ints_far I6.out (by simp <;> omega)).kept (Below.alloc (Below.refl _ _) (Nat.le_refl _) _)) (Ints.nil _) (ints_new (by simp) rfl rfl (by decide)) ((ints_far K6.out (by simp <;> omega)).kept (Below.alloc (Below.refl _ _) (Nat.le_refl _) _)) (kept_cell (Below.alloc (Below.refl _ _) (Nat.le_refl _) _) (by rw [World.cell?_setCell_other _ _ _ _ (by simp)]; exact q0)) (kept_cell (Below.alloc (Below.refl _ _) (Nat.le_refl _) _) (by rw [World.cell?_setCell_other _ _ _ _ (by simp)]; exact q1)) (kept_cell (Below.alloc (Below.refl _ _) (Nat.le_refl _) _) (by rw [World.cell?_setCell_other _ _ _ _ (by simp)]; exact q2)) (kept_cell (Below.alloc (Below.refl _ _) (Nat.le_refl _) _) (by rw [World.cell?_setCell_other _ _ _ _ (by simp)]; exact q3)) (kept_cell (Below.alloc (Below.refl _ _) (Nat.le_refl _) _) (by rw [World.cell?_setCell_other _ _ _ _ (by simp)]; exact q4)) (kept_cell (Below.alloc (Below.refl _ _) (Nat.le_refl _) _) (by rw [World.cell?_setCell_other _ _ _ _ (by simp)]; exact q5)) (kept_cell (Below.alloc (Below.refl _ _) (Nat.le_refl _) _) (World.cell?_setCell_same _ _ _ q6)) (kept_cell (Below.alloc (Below.refl _ _) (Nat.le_refl _) _) (by rw [World.cell?_setCell_other _ _ _ _ (by simp)]; exact q7))) ((ints_far O6.out (by simp <;> omega)).kept (Below.alloc (Below.refl _ _) (Nat.le_refl _) _)) (LD0.out.up (kt B2.out BW.out)) ?_).mono ?_
    · decide +kernel
    · rintro e w9 ⟨rfl, b9⟩
      go_wp2_with fail
      go_ret
      exact ⟨rfl, kt (kt B2.out BW.out) b9⟩
  · have yp0 := kept_cell (Below.alloc (Below.refl _ _) (Nat.le_refl _) (.cells #[.int .i64 1] 3)) (cell_set_far (p := ⟨u2.heap.size + 1 + 1 + 1 + 1, 7, none⟩) (u := .slice (some ⟨w6.heap.size, 0, none⟩) 1 1) p0 (by simp <;> omega))
    have ys0 := kept_cell (Below.alloc (Below.refl _ _) (Nat.le_refl _) (.cells #[.int .i64 1] 3)) (cell_set_far (p := ⟨u2.heap.size + 1 + 1 + 1 + 1, 7, none⟩) (u := .slice (some ⟨w6.heap.size, 0, none⟩) 1 1) s0 (by simp <;> omega))
    have ys1 := kept_cell (Below.alloc (Below.refl _ _) (Nat.le_refl _) (.cells #[.int .i64 1] 3)) (cell_set_far (p := ⟨u2.heap.size + 1 + 1 + 1 + 1, 7, none⟩) (u := .slice (some ⟨w6.heap.size, 0, none⟩) 1 1) s1 (by simp <;> omega))
    have ys2 := kept_cell (Below.alloc (Below.refl _ _) (Nat.le_refl _) (.cells #[.int .i64 1] 3)) (cell_set_far (p := ⟨u2.heap.size + 1 + 1 + 1 + 1, 7, none⟩) (u := .slice (some ⟨w6.heap.size, 0, none⟩) 1 1) s2 (by simp <;> omega))
    have ys3 := kept_cell (Below.alloc (Below.refl _ _) (Nat.le_refl _) (.cells #[.int .i64 1] 3)) (cell_set_far (p := ⟨u2.heap.size + 1 + 1 + 1 + 1, 7, none⟩) (u := .slice (some ⟨w6.heap.size, 0, none⟩) 1 1) s3 (by simp <;> omega))
    have ys4 := kept_cell (Below.alloc (Below.refl _ _) (Nat.le_refl _) (.cells #[.int .i64 1] 3)) (cell_set_far (p := ⟨u2.heap.size + 1 + 1 + 1 + 1, 7, none⟩) (u := .slice (some ⟨w6.heap.size, 0, none⟩) 1 1) s4 (by simp <;> omega))
    go_wp2_with fail
    have BW := hid (Below.alloc (D6.out.setCell (p := ⟨u2.heap.size + 1 + 1 + 1 + 1, 7, none⟩) (by simp; try omega) (.slice (some ⟨w6.heap.size, 0, none⟩) 1 1)) (by simp; omega) (.cells #[.int .i64 1] 3))
    refine (state_no _ _ _ twoL _ _ _ [frT0, (1, 2, [5, 2], [1])] _ _ _ _ [1] _ _ _ (PF.out.kept BW.out) (frs_two ((ints_far I6.out (by simp <;> omega)).kept (Below.alloc (Below.refl _ _) (Nat.le_refl _) _)) (Ints.nil _) ((ints_far J6.out (by simp <;> omega)).kept (Below.alloc (Below.refl _ _) (Nat.le_refl _) _)) (ints_new (by simp) rfl rfl (by decide)) (kept_cell (Below.alloc (Below.refl _ _) (Nat.le_refl _) _) (by rw [World.cell?_setCell_other _ _ _ _ (by simp)]; exact q0)) (kept_cell (Below.alloc (Below.refl _ _) (Nat.le_refl _) _) (by rw [World.cell?_setCell_other _ _ _ _ (by simp)]; exact q1)) (kept_cell (Below.alloc (Below.refl _ _) (Nat.le_refl _) _) (by rw [World.cell?_setCell_other _ _ _ _ (by simp)]; exact q2)) (kept_cell (Below.alloc (Below.refl _ _) (Nat.le_refl _) _) (by rw [World.cell?_setCell_other _ _ _ _ (by simp)]; exact q3)) (kept_cell (Below.alloc (Below.refl _ _) (Nat.le_refl _) _) (by rw [World.cell?_setCell_other _ _ _ _ (by simp)]; exact q4)) (kept_cell (Below.alloc (Below.refl _ _) (Nat.le_refl _) _) (by rw [World.cell?_setCell_other _ _ _ _ (by simp)]; exact q5)) (kept_cell (Below.alloc (Below.refl _ _) (Nat.le_refl _) _) (by rw [World.cell?_setCell_other _ _ _ _ (by simp)]; exact q6)) (kept_cell (Below.alloc (Below.refl _ _) (Nat.le_refl _) _) (World.cell?_setCell_same _ _ _ q7))) ((ints_far O6.out (by simp <;> omega)).kept (Below.alloc (Below.refl _ _) (Nat.le_refl _) _)) (LD0.out.up (kt B2.out BW.out)) ?_).mono ?_
    · decide +kernel
    · rintro e w9 ⟨rfl, b9⟩
      go_wp2_with fail
      go_ret
      exact ⟨rfl, kt (kt B2.out BW.out) b9⟩
  · go_wp2_with fail
    have BW := hid (D6.out.setCell (p := ⟨u2.heap.size + 1 + 1 + 1, 0, none⟩) (by simp; try omega) (.int .i64 (2147483647 + (1 + d))))
    refine (state_no _ _ _ twoL _ _ _ [frT0, (1, 2, [5, 2], [2147483647 + (1 + d), 2])] _ _ _ _ [1] _ _ _ (PF.out.kept BW.out) (frs_two (ints_far I6.out (by simp <;> omega)) (Ints.nil _) (ints_far J6.out (by simp <;> omega)) (ints_put K6.out 0 (by omega) (2147483647 + (1 + d))) (cell_set_far q0 (by simp <;> omega)) (cell_set_far q1 (by simp <;> omega)) (cell_set_far q2 (by simp <;> omega)) (cell_set_far q3 (by simp <;> omega)) (cell_set_far q4 (by simp <;> omega)) (cell_set_far q5 (by simp <;> omega)) (cell_set_far q6 (by simp <;> omega)) (cell_set_far q7 (by simp <;> omega))) (ints_far O6.out (by simp <;> omega)) (LD0.out.up (kt B2.out BW.out)) ?_).mono ?_
    · exact st_last (by simp [frB, numsB, big_not (show 1 ≤ 1 + d by omega)])
    · rintro e w9 ⟨rfl, b9⟩
      go_wp2_with fail
      go_ret
      exact ⟨rfl, kt (kt B2.out BW.out) b9⟩
  · have yp0 := kept_cell (Below.alloc (Below.refl _ _) (Nat.le_refl _) (.cells #[.int .i64 1] 3)) (cell_set_far (p := ⟨u2.heap.size + 1 + 1 + 1 + 1, 3, none⟩) (u := .slice (some ⟨w6.heap.size, 0, none⟩) 1 1) p0 (by simp <;> omega))
    have ys0 := kept_cell (Below.alloc (Below.refl _ _) (Nat.le_refl _) (.cells #[.int .i64 1] 3)) (cell_set_far (p := ⟨u2.heap.size + 1 + 1 + 1 + 1, 3, none⟩) (u := .slice (some ⟨w6.heap.size, 0, none⟩) 1 1) s0 (by simp <;> omega))
    have ys1 := kept_cell (Below.alloc (Below.refl _ _) (Nat.le_refl _) (.cells #[.int .i64 1] 3)) (cell_set_far (p := ⟨u2.heap.size + 1 + 1 + 1 + 1, 3, none⟩) (u := .slice (some ⟨w6.heap.size, 0, none⟩) 1 1) s1 (by simp <;> omega))
    have ys2 := kept_cell (Below.alloc (Below.refl _ _) (Nat.le_refl _) (.cells #[.int .i64 1] 3)) (cell_set_far (p := ⟨u2.heap.size + 1 + 1 + 1 + 1, 3, none⟩) (u := .slice (some ⟨w6.heap.size, 0, none⟩) 1 1) s2 (by simp <;> omega))
    have ys3 := kept_cell (Below.alloc (Below.refl _ _) (Nat.le_refl _) (.cells #[.int .i64 1] 3)) (cell_set_far (p := ⟨u2.heap.size + 1 + 1 + 1 + 1, 3, none⟩) (u := .slice (some ⟨w6.heap.size, 0, none⟩) 1 1) s3 (by simp <;> omega))
    have ys4 := kept_cell (Below.alloc (Below.refl _ _) (Nat.le_refl _) (.cells #[.int .i64 1] 3)) (cell_set_far (p := ⟨u2.heap.size + 1 + 1 + 1 + 1, 3, none⟩) (u := .slice (some ⟨w6.heap.size, 0, none⟩) 1 1) s4 (by simp <;> omega))
    go_wp2_with fail
    have BW := hid (Below.alloc (D6.out.setCell (p := ⟨u2.heap.size + 1 + 1 + 1 + 1, 3, none⟩) (by simp; try omega) (.slice (some ⟨w6.heap.size, 0, none⟩) 1 1)) (by simp; omega) (.cells #[.int .i64 1] 3))
    refine (state_no _ _ _ twoL _ _ _ [(0, 3, [5], [1]), frT1] _ _ _ _ [1] _ _ _ (PF.out.kept BW.out) (frs_two ((ints_far I6.out (by simp <;> omega)).kept (Below.alloc (Below.refl _ _) (Nat.le_refl _) _)) (ints_new (by simp) rfl rfl (by decide)) ((ints_far J6.out (by simp <;> omega)).kept (Below.alloc (Below.refl _ _) (Nat.le_refl _) _)) ((ints_far K6.out (by simp <;> omega)).kept (Below.alloc (Below.refl _ _) (Nat.le_refl _) _)) (kept_cell (Below.alloc (Below.refl _ _) (Nat.le_refl _) _) (by rw [World.cell?_setCell_other _ _ _ _ (by simp)]; exact q0)) (kept_cell (Below.alloc (Below.refl _ _) (Nat.le_refl _) _) (by rw [World.cell?_setCell_other _ _ _ _ (by simp)]; exact q1)) (kept_cell (Below.alloc (Below.refl _ _) (Nat.le_refl _) _) (by rw [World.cell?_setCell_other _ _ _ _ (by simp)]; exact q2)) (kept_cell (Below.alloc (Below.refl _ _) (Nat.le_refl _) _) (World.cell?_setCell_same _ _ _ q3)) (kept_cell (Below.alloc (Below.refl _ _) (Nat.le_refl _) _) (by rw [World.cell?_setCell_other _ _ _ _ (by simp)]; exact q4)) (kept_cell (Below.alloc (Below.refl _ _) (Nat.le_refl _) _) (by rw [World.cell?_setCell_other _ _ _ _ (by simp)]; exact q5)) (kept_cell (Below.alloc (Below.refl _ _) (Nat.le_refl _) _) (by rw [World.cell?_setCell_other _ _ _ _ (by simp)]; exact q6)) (kept_cell (Below.alloc (Below.refl _ _) (Nat.le_refl _) _) (by rw [World.cell?_setCell_other _ _ _ _ (by simp)]; exact q7))) ((ints_far O6.out (by simp <;> omega)).kept (Below.alloc (Below.refl _ _) (Nat.le_refl _) _)) (LD0.out.up (kt B2.out BW.out)) ?_).mono ?_
    · decide +kernel
    · rintro e w9 ⟨rfl, b9⟩
      go_wp2_with fail
      go_ret
      exact ⟨rfl, kt (kt B2.out BW.out) b9⟩
  · go_wp2_with fail
    have BW := hid (D6.out.setCell (p := ⟨u2.heap.size + 1 + 1 + 1 + 1, 1, none⟩) (by simp; try omega) (.int .i64 4))
    refine (state_no _ _ _ twoL _ _ _ [(0, 4, [5], []), frT1] _ _ _ _ [1] _ _ _ (PF.out.kept BW.out) (frs_two (ints_far I6.out (by simp <;> omega)) (Ints.nil _) (ints_far J6.out (by simp <;> omega)) (ints_far K6.out (by simp <;> omega)) (by rw [World.cell?_setCell_other _ _ _ _ (by simp)]; exact q0) (World.cell?_setCell_same _ _ _ q1) (by rw [World.cell?_setCell_other _ _ _ _ (by simp)]; exact q2) (by rw [World.cell?_setCell_other _ _ _ _ (by simp)]; exact q3) (by rw [World.cell?_setCell_other _ _ _ _ (by simp)]; exact q4) (by rw [World.cell?_setCell_other _ _ _ _ (by simp)]; exact q5) (by rw [World.cell?_setCell_other _ _ _ _ (by simp)]; exact q6) (by rw [World.cell?_setCell_other _ _ _ _ (by simp)]; exact q7)) (ints_far O6.out (by simp <;> omega)) (LD0.out.up (kt B2.out BW.out)) ?_).mono ?_
    · decide +kernel
    · rintro e w9 ⟨rfl, b9⟩
      go_wp2_with fail
      go_ret
      exact ⟨rfl, kt (kt B2.out BW.out) b9⟩
  · go_wp2_with fail
    have BW := hid (D6.out.setCell (p := ⟨u2.heap.size + 1 + 1 + 1 + 1, 0, none⟩) (by simp; try omega) (.int .i64 (2 + (1 + d))))
    refine (state_no _ _ _ twoL _ _ _ [(2 + (1 + d), 3, [5], []), frT1] _ _ _ _ [1] _ _ _ (PF.out.kept BW.out) (frs_two (ints_far I6.out (by simp <;> omega)) (Ints.nil _) (ints_far J6.out (by simp <;> omega)) (ints_far K6.out (by simp <;> omega)) (World.cell?_setCell_same _ _ _ q0) (by rw [World.cell?_setCell_other _ _ _ _ (by simp)]; exact q1) (by rw [World.cell?_setCell_other _ _ _ _ (by simp)]; exact q2) (by rw [World.cell?_setCell_other _ _ _ _ (by simp)]; exact q3) (by rw [World.cell?_setCell_other _ _ _ _ (by simp)]; exact q4) (by rw [World.cell?_setCell_other _ _ _ _ (by simp)]; exact q5) (by rw [World.cell?_setCell_other _ _ _ _ (by simp)]; exact q6) (by rw [World.cell?_setCell_other _ _ _ _ (by simp)]; exact q7)) (ints_far O6.out (by simp <;> omega)) (LD0.out.up (kt B2.out BW.out)) ?_).mono ?_
    · exact st_first (fn_off (by omega))
    · rintro e w9 ⟨rfl, b9⟩
      go_wp2_with fail
      go_ret
      exact ⟨rfl, kt (kt B2.out BW.out) b9⟩
  · go_wp2_with fail
    have BW := hid ((D6.out.setCell (p := ⟨u2.heap.size + 1 + 1 + 1 + 1 + 1 + 1, 3, none⟩) (by simp; try omega) (.int .i64 (4 + (1 + d)))).setCell (p := ⟨u2.heap.size + 1 + 1 + 1 + 1 + 1 + 1, 0, none⟩) (by simp; try omega) (.slice none 0 0))
    refine (state_no _ _ _ twoL _ _ _ [] _ _ _ _ [1] _ _ _ (PF.out.kept BW.out) (Frs.nil _) (ints_far (ints_far O6.out (by simp <;> omega)) (by simp <;> omega)) (LD0.out.up (kt B2.out BW.out)) ?_).mono ?_
    · exact st_out (over_no (by omega))
    · rintro e w9 ⟨rfl, b9⟩
      go_wp2_with fail
      go_ret
      exact ⟨rfl, kt (kt B2.out BW.out) b9⟩

set_option maxRecDepth 100000 in
theorem lifted (os : Os) (started : os.Started) (H : Type) (enc : TypeId × Value → H) :
    ReturnsInHanded {} Tryz.checked os 5 .any (fun w args => (Rows.frameFormsSpec.pre enc Tryz.prog Tryz.f5 [] false w args ∧ laidMetH Tryz.prog [("math/bits.deBruijn32tab", Rows.laid_math_bits_deBruijn32tab), ("math/bits.deBruijn64tab", Rows.laid_math_bits_deBruijn64tab), ("internal/strconv.uint64pow10", Rows.laid_internal_strconv_uint64pow10), ("errors.errorType", Rows.laid_errors_errorType), ("swage/pack.errForm", Rows.laid_swage_pack_errForm), ("swage/pack.errEnd", Rows.laid_swage_pack_errEnd)] w) ∧ sizedMet enc Tryz.prog Tryz.f5 (OpenSpec.ofChange Rows.frameFormsSpec) false w args) (Rows.frameFormsSpec.post enc Tryz.prog Tryz.f5 false true false false) := by
  refine returnsInHanded_of_change_and (C := Tryz.checked) (X := fun w _ => laidMetH Tryz.prog [("math/bits.deBruijn32tab", Rows.laid_math_bits_deBruijn32tab), ("math/bits.deBruijn64tab", Rows.laid_math_bits_deBruijn64tab), ("internal/strconv.uint64pow10", Rows.laid_internal_strconv_uint64pow10), ("errors.errorType", Rows.laid_errors_errorType), ("swage/pack.errForm", Rows.laid_swage_pack_errForm), ("swage/pack.errEnd", Rows.laid_swage_pack_errEnd)] w) (fun _ _ _ hh h => h.of_heap hh) own started (by kernel_rfl) Tryz.func5
    (ChangeSpec.witness_shaped (enc := enc) (C := Tryz.checked) (os := os) (X := fun w _ => laidMetH Tryz.prog [("math/bits.deBruijn32tab", Rows.laid_math_bits_deBruijn32tab), ("math/bits.deBruijn64tab", Rows.laid_math_bits_deBruijn64tab), ("internal/strconv.uint64pow10", Rows.laid_internal_strconv_uint64pow10), ("errors.errorType", Rows.laid_errors_errorType), ("swage/pack.errForm", Rows.laid_swage_pack_errForm), ("swage/pack.errEnd", Rows.laid_swage_pack_errEnd)] w) false (World.doorLaid Tryz.prog 400 os) #[.int .i64 0, .int .i64 0] 8 rfl (World.shaped_of_RefB (by kernel_rfl) (by kernel_rfl)) (by kernel_rfl) (by kernel_rfl) (by kernel_rfl) (door_met os _)) ?_
  intro W base args ds gs before hval0 hW hcnd hsz0 hL _
  have hval : ∀ (j : Nat) t v, Tryz.f5.params[j]? = some t → args[j]? = some v → Value.okWide Tryz.prog W .any base t v := hval0
  have hW' := hW
  obtain ⟨p, q, hA0, hV, rfl, hfz, hnd⟩ := hW
  have hA : DataW.TrodAll enc Tryz.prog W 0 (fun _ => true) true Tryz.f5.params.toList args.toList ds p := hA0
  have hsz : (DataW.weightsEach Tryz.prog (Tryz.f5.params.toList ++ Rows.frameFormsSpec.plain.varTypes Tryz.prog) (ds ++ gs)).all (· ≤ reachBytes) = true := hsz0
  rw [Tryz.params5] at hA hval hsz
  obtain ⟨v0, vs0, d0, ds0, p0, q0, hargs, rfl, rfl, h0, r0⟩ := trodAll_cons hA
  obtain ⟨v1, vs1, d1, ds1, p1, q1, rfl, rfl, rfl, h1, r1⟩ := trodAll_cons r0
  obtain ⟨rfl, rfl, rfl⟩ := trodAll_nil r1
  obtain rfl : args = #[v0, v1] := by cases args; simp_all
  obtain ⟨rfl, rfl⟩ := trodVars_none hV
  have k0 := h0
  have lt0 : ∀ x ∈ p0, x.block < W.heap.size := by obtain ⟨m, hm⟩ := k0; exact DataW.trod_lt m _ _ _ hm
  have k1 := h1
  have lt1 : ∀ x ∈ p1, x.block < W.heap.size := by obtain ⟨m, hm⟩ := k1; exact DataW.trod_lt m _ _ _ hm
  obtain ⟨a0, rfl, rfl, rfl, w0⟩ := open_int Tryz.underlying3 (hval 0 3 v0 rfl rfl) h0
  obtain ⟨a1, rfl, rfl, rfl, w1⟩ := open_int Tryz.underlying3 (hval 1 3 v1 rfl rfl) h1
  clear hA0 hval0
  refine (walk a0 a1 W w0 w1 (ld_of hL)).mono fun e W' ⟨he, bel⟩ => ?_
  subst he
  exact ⟨_, rfl, _, _, _, [], _, [], hW', trodAll_mk1 (shut_bool Tryz.underlying4 _), (trodAll_cons_mk (Below.trod laidOut (by kernel_rfl) (of_decide_eq_true (by kernel_rfl)) k0 bel lt0) (trodAll_cons_mk (Below.trod laidOut (by kernel_rfl) (of_decide_eq_true (by kernel_rfl)) k1 bel lt1) trodAll_mk0)), rfl, bel.frame _, fun h => by cases h⟩

theorem over : Rows.frameFormsRow.holds Tryz.pinned (OpenSpec.ofChange Rows.frameFormsSpec) :=
  OpenClaim.holds_of_wide 5 Tryz.f5 rfl rfl rfl rfl rfl rfl rfl ⟨rfl, rfl, rfl, rfl, rfl⟩ rfl rfl rfl rfl rfl (by kernel_rfl) Tryz.func5 (by kernel_rfl)
    (of_decide_eq_true (by kernel_rfl)) (by unfold Func.isWrapper; first | (rw [if_pos (by decide +kernel)]; kernel_rfl) | (rw [if_neg (by decide +kernel)]; exact ⟨rfl, rfl⟩))
    (fun os started H enc _ => lifted os started H enc)
end Go.Proofs.YtdaloaflmnimaaaGreatDoor.frameForms
namespace Go.Proofs.YtdaloaflmnimaaaGreatDoor
open Go
theorem frameForms_holds : Rows.FrameFormsCardSaid :=
  Claim7.holds_tied_plain_at .later [] [.data, .data, .data, .handle, .sentinel, .sentinel] true (true, "4f61182ebcd5d6da87617d114aceb11345d3fb13a72f1a65358a96d1375ec51d") true
    frameForms.over (fun _ h => by cases h) (by kernel_rfl) (fun _ h => by cases h) frameForms_row_tie rfl ⟨rfl, rfl⟩ (by kernel_rfl) rfl
    (fun f fn hf hfn => by
      obtain rfl : f = 5 := Option.some.inj ((show Tryz.prog.funcNamed "swage/swagelaw6.FrameForms" = some 5 by kernel_rfl).symm.trans hf) |>.symm
      obtain rfl : fn = Tryz.f5 := (Option.some.inj (Tryz.func5.symm.trans hfn)).symm
      exact ⟨by kernel_rfl, fun j t ht => by
        rw [Tryz.params5] at ht
        have hm : t ∈ [3, 3] := by simpa using Array.mem_of_getElem? ht
        have hall : ([3, 3].all fun u => !Tryz.prog.wantsStandIn u) = true := by kernel_rfl
        exact (show Tryz.prog.wantsStandIn t = false by simpa using List.all_eq_true.1 hall t hm)⟩)
    (by kernel_rfl)
#print axioms frameForms_holds
end Go.Proofs.YtdaloaflmnimaaaGreatDoor
