/- What the document's own answer Behind returns: is a pc right behind a reached call of a function? -/
import Derived.Test.YtfnfbebkeoilfaaGreatDoorJ6b
namespace Go.Proofs.YtfnfbebkeoilfaaGreatDoor
open Go.RowKit
set_option linter.unusedVariables false

set_option maxRecDepth 100000 in
set_option maxHeartbeats 2000000 in
/-- Of a frame that may be. -/
theorem refBehind_any (pa : Option Addr) (pn pc : Nat) (ps : List Fn) (f q : Nat) (called : Int) (w : World) (hp : Fns w pa pn pc ps) (hh : 0 ≤ heightV ps (f : Int) (q : Int)) :
    Calls Tryz.prog 42 #[.agg #[.slice pa pn pc], .int .i64 (f : Int), .int .i64 (q : Int), .int .i64 called] w fun e w' => e = .returned (.bool (behindB ps (f : Int) (q : Int) called)) ∧ Below w.heap.size w w' := by
  have HP := hid hp
  have LP := hid hp.len
  have hpr := hp.room
  have hpc := hp.cap
  obtain ⟨f2, q2, hf2, hq2, hf, hq, he, _, _⟩ := reached_in hh
  obtain rfl : f = f2 := by omega
  obtain rfl : q = q2 := by omega
  have hfn : f < pn := by rw [LP.out]; exact hf
  have hpk := (hts_ok he).1
  obtain ⟨b0, o0, fx, fy, fa, fn, fc, fl, rfl, e3, d0, d1, d2, i3⟩ := HP.out.at f hfn
  replace hq : q < fl.length := by rw [e3] at hq; exact hq
  have hvf := fnB_bd (fnB_of hpk hf e3)
  have hq64 : q < 64 := by omega
  have LF := hid i3.len
  have hfr3 := i3.room
  have hfc3 := i3.cap
  have E : Hid (behindB ps (f : Int) (q : Int) called = (reachedB ps (f : Int) ((q : Int) - 1) && decide (insAt fl ((q : Int) - 1).toNat = (14, called)))) := hid (by
    unfold behindB callB
    simp only [Int.toNat_natCast, e3])
  have HI := hid i3
  have D2 := hid d2
  clear d0 d1 e3 d2 i3 hf2 hq2 hh hp he hpk
  have G : Hid (Below w.heap.size w (w.alloc (.cells #[.slice (some ⟨b0, o0, none⟩) pn pc] 24))) := hid (by go_grown)
  go_enter Tryz.func42, Tryz.ntmps42
  go_wp2_with fail
  refine (refHeight_any _ _ _ ps (f : Int) ((q : Int) - 1) _ (HP.out.kept G.out)).mono ?_
  rintro e w1 ⟨rfl, b1⟩
  have B2 := hid (kt G.out b1)
  have p0 := kept_cell b1 (b := w.heap.size) (o := 0) (v := .slice (some ⟨b0, o0, none⟩) pn pc) (by simp [go_sem])
  clear b1
  by_cases hh : 0 ≤ heightV ps (f : Int) ((q : Int) - 1)
  · obtain ⟨f3, m, hf3, hm, -, -, -, -, -⟩ := reached_in hh
    clear hf3
    obtain ⟨q', rfl⟩ : ∃ q', q = q' + 1 := ⟨q - 1, by omega⟩
    have hq' : q' < fn := by have := LF.out; omega
    obtain ⟨b7, o7, K, A, rfl, e7, c7, c8⟩ := (HI.out.kept B2.out).at q' hq'
    have E2 : Hid (behindB ps (f : Int) ((q' + 1 : Nat) : Int) called = decide ((K, A) = (14, called))) := hid (by
      rw [E.out]
      unfold reachedB
      rw [decide_eq_true hh, Bool.true_and, show (((q' + 1 : Nat) : Int) - 1).toNat = q' by omega]
      unfold insAt
      rw [e7])
    have d2 := kept_cell B2.out D2.out
    have hh' : ¬ heightV ps (f : Int) (((q' + 1 : Nat) : Int) - 1) < 0 := by omega
    clear hm e7 hh
    generalize heightV ps (f : Int) (((q' + 1 : Nat) : Int) - 1) = H at hh' ⊢
    by_cases hK : K = 14
    · subst hK
      by_cases hA : A = called
      · subst hA
        go_wp2_with fail
        go_ret
        exact ⟨ret_bool (by rw [E2.out]; simp), B2.out⟩
      · have hA' : (A == called) = false := by simpa using hA
        go_wp2_with fail
        go_ret
        exact ⟨ret_bool (by rw [E2.out]; simp [hA]), B2.out⟩
    · have hK' : (K == 14) = false := by simpa using hK
      go_wp2_with fail
      go_ret
      exact ⟨ret_bool (by rw [E2.out]; simp [hK]), B2.out⟩
  · have E2 : Hid (behindB ps (f : Int) (q : Int) called = false) := hid (by rw [E.out]; unfold reachedB; rw [decide_eq_false hh]; rfl)
    have hh' : heightV ps (f : Int) ((q : Int) - 1) < 0 := by omega
    clear hh
    generalize heightV ps (f : Int) ((q : Int) - 1) = H at hh' ⊢
    go_wp2_with fail
    go_ret
    exact ⟨ret_bool E2.out.symm, B2.out⟩

end Go.Proofs.YtfnfbebkeoilfaaGreatDoor
