/- Package ir: how much there is of a code, which registers, how it ends; package fields: which fields a kind has; what a field may hold. -/
import Derived.Test.YtfnfbebkeoilfaaGreatDoorCallsB
import Derived.Test.YtfnfbebkeoilfaaGreatDoorMemIr
import Derived.Test.YtfnfbebkeoilfaaGreatDoorPlainIr2
import Derived.Test.YtfnfbebkeoilfaaGreatDoorNum
namespace Go.Proofs.YtfnfbebkeoilfaaGreatDoor
open Go.RowKit
set_option linter.unusedVariables false

/-- What a checker of code holds: the functions and heights of a verified program, the code's instructions and metas. -/
structure Chk (w : World) (pa : Option Addr) (pn pc : Nat) (ha : Option Addr) (hn hc : Nat) (ca : Option Addr) (cn cc : Nat) (ma : Option Addr) (mn mc : Nat) (ps : List Fn) (cl : List IrT) (ml : List (List PartT)) : Prop where
  p : Fns w pa pn pc ps
  h : Hts w ha hn hc (htsAll ps)
  c : Sl layIr 88 w ca cn cc cl
  m : Sl layMeta 24 w ma mn mc ml
theorem Chk.kept {w w' : World} {pa : Option Addr} {pn pc : Nat} {ha : Option Addr} {hn hc : Nat} {ca : Option Addr} {cn cc : Nat} {ma : Option Addr} {mn mc : Nat} {ps : List Fn} {cl : List IrT} {ml : List (List PartT)}
    (k : Chk w pa pn pc ha hn hc ca cn cc ma mn mc ps cl ml) (hb : Below w.heap.size w w') : Chk w' pa pn pc ha hn hc ca cn cc ma mn mc ps cl ml := ⟨k.p.kept hb, k.h.kept hb, k.c.kept hb, k.m.kept hb⟩

set_option maxHeartbeats 1000000 in
theorem irBelow_any (x l : Int) (w : World) :
    Calls Tryz.prog 24 #[.int .i64 x, .int .i64 l] w fun e w' => e = .returned (.bool (decide (0 ≤ x ∧ x < l))) ∧ w' = w := by
  by_cases h0 : 0 ≤ x
  · by_cases h1 : x < l
    · go_enter Tryz.func24, Tryz.ntmps24
      go_wp2
      go_ret
      exact ⟨ret_bool (by simp; omega), rfl⟩
    · go_enter Tryz.func24, Tryz.ntmps24
      go_wp2
      go_ret
      exact ⟨ret_bool (by simp; omega), rfl⟩
  · go_enter Tryz.func24, Tryz.ntmps24
    go_wp2
    go_ret
    exact ⟨ret_bool (by simp; omega), rfl⟩

set_option maxHeartbeats 1000000 in
theorem irLeast_any (at_ : Nat) (kd r a b k : Int) (xa : Option Addr) (xn xc : Nat) (cost mt pc : Int) (w : World) :
    Calls Tryz.prog 51 #[.int .i64 (at_ : Int), .agg #[.int .i64 kd, .int .i64 r, .int .i64 a, .int .i64 b, .int .i64 k, .slice xa xn xc, .int .i64 cost, .int .i64 mt, .int .i64 pc]] w fun e w' => e = .returned (.int .i64 (leastV at_ kd k)) ∧ Below w.heap.size w w' := by
  by_cases h4 : kd = 4
  · subst h4
    by_cases hp : (at_ : Int) < k
    all_goals
      go_enter Tryz.func51, Tryz.ntmps51
      go_wp2_with fail
      go_ret
      exact ⟨ret_int (by unfold leastV; simp [hp]), by go_grown⟩
  by_cases h5 : kd = 5
  · subst h5
    by_cases hp : (at_ : Int) < k
    all_goals
      go_enter Tryz.func51, Tryz.ntmps51
      go_wp2_with fail
      go_ret
      exact ⟨ret_int (by unfold leastV; simp [hp]), by go_grown⟩
  by_cases h6 : kd = 6
  · subst h6
    go_enter Tryz.func51, Tryz.ntmps51
    go_wp2_with fail
    go_ret
    exact ⟨ret_int (by unfold leastV; simp), by go_grown⟩
  by_cases h7 : kd = 7
  · subst h7
    go_enter Tryz.func51, Tryz.ntmps51
    go_wp2_with fail
    go_ret
    exact ⟨ret_int (by unfold leastV; simp), by go_grown⟩
  have E2 : Hid (leastV at_ kd k = 0) := hid (by unfold leastV; simp [h4, h5, h6, h7])
  replace h4 : (kd == 4) = false := by simpa using h4
  replace h5 : (kd == 5) = false := by simpa using h5
  replace h6 : (kd == 6) = false := by simpa using h6
  replace h7 : (kd == 7) = false := by simpa using h7
  go_enter Tryz.func51, Tryz.ntmps51
  go_wp2_with fail
  go_ret
  exact ⟨ret_int E2.out.symm, by go_grown⟩

set_option maxHeartbeats 4000000 in
theorem fieldsOf_any (kd : Int) (w : World) :
    Calls Tryz.prog 63 #[.int .i64 kd] w fun e w' => ∃ sr sa sb sk sg sm, sortsT kd = (sr, sa, sb, sk, sg, sm) ∧ e = .returned (.tuple #[.agg #[.int .i64 sr, .int .i64 sa, .int .i64 sb, .int .i64 sk, .int .i64 sg, .int .i64 sm], .bool (irKindB kd)]) ∧ Below w.heap.size w w' := by
  by_cases hk : 0 ≤ kd ∧ kd ≤ 11
  · have hc : kd = 0 ∨ kd = 1 ∨ kd = 2 ∨ kd = 3 ∨ kd = 4 ∨ kd = 5 ∨ kd = 6 ∨ kd = 7 ∨ kd = 8 ∨ kd = 9 ∨ kd = 10 ∨ kd = 11 := by omega
    clear hk
    rcases hc with rfl | rfl | rfl | rfl | rfl | rfl | rfl | rfl | rfl | rfl | rfl | rfl
    all_goals
      go_enter Tryz.func63, Tryz.ntmps63
      go_wp2_with fail
      exact bodyPost_ret (v := _) (by simp [results, Tryz.results63, go_sem]; rfl) rfl ⟨_, _, _, _, _, _, rfl, rfl, by go_grown⟩
  · have E : Hid (sortsT kd = (0, 0, 0, 0, 0, 0) ∧ irKindB kd = false) := hid (by
      refine ⟨?_, by unfold irKindB; exact decide_eq_false hk⟩
      unfold sortsT
      repeat (rw [if_neg (by omega)])
      first | rfl | (split <;> rfl))
    have h0 : (kd == 0) = false := by simp; omega
    have h1 : (kd == 1) = false := by simp; omega
    have h2 : (kd == 2) = false := by simp; omega
    have h3 : (kd == 3) = false := by simp; omega
    have h4 : (kd == 4) = false := by simp; omega
    have h5 : (kd == 5) = false := by simp; omega
    have h6 : (kd == 6) = false := by simp; omega
    have h7 : (kd == 7) = false := by simp; omega
    have h8 : (kd == 8) = false := by simp; omega
    have h9 : (kd == 9) = false := by simp; omega
    have h10 : (kd == 10) = false := by simp; omega
    have h11 : (kd == 11) = false := by simp; omega
    clear hk
    go_enter Tryz.func63, Tryz.ntmps63
    go_wp2_with fail
    exact bodyPost_ret (v := .tuple #[.agg #[.int .i64 0, .int .i64 0, .int .i64 0, .int .i64 0, .int .i64 0, .int .i64 0], .bool false]) (by simp [results, Tryz.results63, go_sem]) rfl ⟨_, _, _, _, _, _, E.out.1, by rw [E.out.2], by go_grown⟩

end Go.Proofs.YtfnfbebkeoilfaaGreatDoor
