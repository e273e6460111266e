/- Package frame's small questions: isNumber, areNumbers, isInFuel, isOutcome. What the helpers of the statements over frames return: SameFrames, SameState, SpoilFrames, SpoilState, CopyInts, LendInts, KeptInts. What the helpers of the statements over frames do: SpoilFrames, SpoilState, CopyInts, LendInts, KeptInts. -/
import Derived.Test.YtbbfgdkjgolieabGreatDoorMemFr
import Derived.Test.YtbbfgdkjgolieabGreatDoorDo
import Derived.Test.YtbbfgdkjgolieabGreatDoorLawInts
import Derived.Test.YtbbfgdkjgolieabGreatDoorRefWalk
namespace Go.Proofs.YtbbfgdkjgolieabGreatDoor
open Go.RowKit
set_option linter.unusedVariables false

set_option maxHeartbeats 400000 in
theorem frNumber_any (x : Int) (w : World) :
    Calls Tryz.prog 49 #[.int .i64 x] w fun e w' => e = .returned (.bool (isNum x)) ∧ w' = w := by
  go_enter Tryz.func49, Tryz.ntmps49
  go_wp2_with (go_at_call 65; refine (wrap_any _ _).mono ?_; rintro e w' ⟨rfl, rfl⟩)
  go_ret
  exact ⟨ret_bool (wrap32_eq_iff x), rfl⟩
set_option maxHeartbeats 400000 in
theorem frNotNumber_any (x : Int) (w : World) :
    Calls Tryz.prog 48 #[.int .i64 x] w fun e w' => e = .returned (.bool (!isNum x)) ∧ w' = w := by
  go_enter Tryz.func48, Tryz.ntmps48
  go_wp2_with (go_at_call 49; refine (frNumber_any _ _).mono ?_; rintro e w' ⟨rfl, rfl⟩)
  go_ret
  exact ⟨rfl, rfl⟩

set_option maxHeartbeats 1000000 in
theorem indexNum_any (a : Option Addr) (n c : Nat) (l : List Int) (w : World) (h : Ints w a n c l) :
    Calls Tryz.prog 64 #[.slice a n c, .func (.func 48) #[] #[]] w fun e w' => ∃ r : Int, e = .returned (.int .i64 r) ∧ decide (0 ≤ r) = (!numsB l) ∧ Below w.heap.size w w' := by
  have L := hid h.len
  have hr := h.room
  have hcp := h.cap
  go_enter Tryz.func64, Tryz.ntmps64
  go_wp2
  go_loopw [8] (fun i wr => ∃ q : Nat, q ≤ n ∧ i = .int .i64 q ∧ ((l.take q).all isNum) = true ∧ Below w.heap.size w wr) (fun i _ => n - (intOf i).toNat)
  case atStart => exact ⟨0, Nat.zero_le _, rfl, by simp, by go_grown⟩
  case round =>
    obtain ⟨q, hq, rfl, ht, hb⟩ := hrel
    have HT := hid ht
    clear ht
    by_cases hlt : q < n
    · obtain ⟨b1, o1, ha, r1⟩ := (h.kept hb).row (by omega)
      have c1 := r1 q hlt
      generalize hx : l.getD q 0 = x at c1
      have HX := hid hx
      subst ha
      clear hx r1
      go_wp2_with fail
      refine (frNotNumber_any _ _).mono ?_
      rintro e w1 ⟨rfl, rfl⟩
      cases hm : isNum x
      · have F : Hid (numsB l = false) := hid (all_not_at (l := l) (p := isNum) (q := q) (d := 0) (by have := L.out; omega) (by rw [HX.out]; exact hm))
        go_wp2_with fail
        go_ret
        exact ⟨_, rfl, by rw [F.out]; simp, hb⟩
      · have F : Hid ((l.take (q + 1)).all isNum = true) := hid (all_take_step (d := 0) (by have := L.out; omega) HT.out (by rw [HX.out]; exact hm))
        go_wp2_with fail
        go_roundw
        case rel => exact ⟨q + 1, by omega, by go_num, F.out, hb⟩
        case measure => simp [intOf]; omega
    · have F : Hid (numsB l = true) := hid (all_take_all (l := l) (p := isNum) (by have := L.out; omega) HT.out)
      go_wp2
      go_ret
      exact ⟨_, rfl, by rw [F.out]; simp, hb⟩

set_option maxHeartbeats 400000 in
theorem containsNum_any (a : Option Addr) (n c : Nat) (l : List Int) (w : World) (h : Ints w a n c l) :
    Calls Tryz.prog 47 #[.slice a n c, .func (.func 48) #[] #[]] w fun e w' => e = .returned (.bool (!numsB l)) ∧ Below w.heap.size w w' := by
  go_enter Tryz.func47, Tryz.ntmps47
  go_wp2_with fail
  refine (indexNum_any _ _ _ l _ h).mono ?_
  rintro e w1 ⟨r, rfl, hr, hb⟩
  have HR := hid hr
  clear hr
  go_wp2_with fail
  go_ret
  exact ⟨ret_bool HR.out, hb⟩

set_option maxHeartbeats 400000 in
theorem areNumbers_any (a : Option Addr) (n c : Nat) (l : List Int) (w : World) (h : Ints w a n c l) :
    Calls Tryz.prog 33 #[.slice a n c] w fun e w' => e = .returned (.bool (numsB l)) ∧ Below w.heap.size w w' := by
  go_enter Tryz.func33, Tryz.ntmps33
  go_wp2_with fail
  refine (containsNum_any _ _ _ l _ h).mono ?_
  rintro e w1 ⟨rfl, hb⟩
  go_wp2_with fail
  go_ret
  exact ⟨ret_bool (by simp), hb⟩

set_option maxHeartbeats 400000 in
theorem isInFuel_any (fa : Option Addr) (fn fc : Nat) (fuel : Int) (oa : Option Addr) (on oc : Nat) (dn vl : Int) (w : World) (ho : on * 8 ≤ 140737488351232) :
    Calls Tryz.prog 32 #[.agg #[.slice fa fn fc, .int .i64 fuel, .slice oa on oc, .int .i64 dn, .int .i64 vl]] w fun e w' => e = .returned (.bool (fuelB fuel on)) ∧ Below w.heap.size w w' := by
  by_cases h0 : 0 ≤ fuel
  · by_cases h1 : fuel ≤ 100000 - on
    · have d1 : decide (fuel ≤ 100000 - (on : Int)) = true := by simpa using h1
      go_enter Tryz.func32, Tryz.ntmps32
      go_wp2
      go_ret
      exact ⟨ret_bool (by simp [fuelB, h0, h1]), by go_grown⟩
    · have d1 : decide (fuel ≤ 100000 - (on : Int)) = false := by simpa using h1
      go_enter Tryz.func32, Tryz.ntmps32
      go_wp2
      go_ret
      exact ⟨ret_bool (by simp [fuelB, h1]), by go_grown⟩
  · have d0 : decide (0 ≤ fuel) = false := by simpa using h0
    go_enter Tryz.func32, Tryz.ntmps32
    go_wp2
    go_ret
    exact ⟨ret_bool (by simp [fuelB]; omega), by go_grown⟩

theorem outB_cases (dn vl : Int) (fn : Nat) : outB dn vl fn = true ↔ (dn = 0 ∧ vl = 0 ∧ 1 ≤ fn ∧ fn ≤ 12) ∨ (dn = 1 ∧ isNum vl = true ∧ fn = 0) ∨ ((dn = 2 ∨ dn = 3 ∨ dn = 4) ∧ vl = 0 ∧ fn = 0) := by
  unfold outB
  by_cases h0 : dn = 0
  · subst h0; simp
  · by_cases h1 : dn = 1
    · subst h1; simp
    · simp [h0, h1]
theorem ret_iff {a b : Bool} (h : a = true ↔ b = true) : Ending.returned (.bool a) = .returned (.bool b) := ret_bool (Bool.eq_iff_iff.2 h)

set_option maxHeartbeats 2000000 in
theorem isOutcome_any (fa : Option Addr) (fn fc : Nat) (fuel : Int) (oa : Option Addr) (on oc : Nat) (dn vl : Int) (w : World) (hf : fn * 64 ≤ 140737488351232) :
    Calls Tryz.prog 34 #[.agg #[.slice fa fn fc, .int .i64 fuel, .slice oa on oc, .int .i64 dn, .int .i64 vl]] w fun e w' => e = .returned (.bool (outB dn vl fn)) ∧ Below w.heap.size w w' := by
  by_cases h0 : dn = 0
  · subst h0
    by_cases hv : vl = 0
    · subst hv
      by_cases h1 : 1 ≤ fn
      · go_enter Tryz.func34, Tryz.ntmps34
        go_wp2
        go_ret
        exact ⟨ret_iff (by rw [outB_cases]; simp; omega), by go_grown⟩
      · go_enter Tryz.func34, Tryz.ntmps34
        go_wp2
        go_ret
        exact ⟨ret_iff (by rw [outB_cases]; simp; omega), by go_grown⟩
    · have e : (vl == 0) = false := by simpa using hv
      go_enter Tryz.func34, Tryz.ntmps34
      go_wp2
      go_ret
      exact ⟨ret_iff (by rw [outB_cases]; simp; omega), by go_grown⟩
  · by_cases h1 : dn = 1
    · subst h1
      cases hn : isNum vl
      · go_enter Tryz.func34, Tryz.ntmps34
        go_wp2_with (go_at_call 49; refine (frNumber_any _ _).mono ?_; rintro e w' ⟨rfl, rfl⟩)
        go_ret
        exact ⟨ret_iff (by rw [outB_cases]; simp [hn]), by go_grown⟩
      · go_enter Tryz.func34, Tryz.ntmps34
        go_wp2_with (go_at_call 49; refine (frNumber_any _ _).mono ?_; rintro e w' ⟨rfl, rfl⟩)
        go_ret
        exact ⟨ret_iff (by rw [outB_cases]; simp [hn]), by go_grown⟩
    · have e0 : (dn == 0) = false := by simpa using h0
      have e1 : (dn == 1) = false := by simpa using h1
      by_cases h2 : dn = 2 ∨ dn = 3 ∨ dn = 4
      · by_cases hv : vl = 0
        · subst hv
          rcases h2 with rfl | rfl | rfl
          all_goals
            go_enter Tryz.func34, Tryz.ntmps34
            go_wp2
            go_ret
            exact ⟨ret_iff (by rw [outB_cases]; simp), by go_grown⟩
        · have e : (vl == 0) = false := by simpa using hv
          rcases h2 with rfl | rfl | rfl
          all_goals
            go_enter Tryz.func34, Tryz.ntmps34
            go_wp2
            go_ret
            exact ⟨ret_iff (by rw [outB_cases]; simp; omega), by go_grown⟩
      · have e2 : (dn == 2) = false := by simp; omega
        have e3 : (dn == 3) = false := by simp; omega
        have e4 : (dn == 4) = false := by simp; omega
        go_enter Tryz.func34, Tryz.ntmps34
        go_wp2
        go_ret
        exact ⟨ret_iff (by rw [outB_cases]; simp; omega), by go_grown⟩

end Go.Proofs.YtbbfgdkjgolieabGreatDoor

namespace Go.Proofs.YtbbfgdkjgolieabGreatDoor
open Go.RowKit
set_option linter.unusedVariables false

def sameS (s t : St) : Bool := decide (s.2.1 = t.2.1) && (decide (s.2.2.2.1 = t.2.2.2.1) && (decide (s.2.2.2.2 = t.2.2.2.2) && (decide (s.2.2.1 = t.2.2.1) && decide (s.1 = t.1))))
theorem sameS_self (s : St) : sameS s s = true := by simp [sameS]

end Go.Proofs.YtbbfgdkjgolieabGreatDoor

namespace Go.Proofs.YtbbfgdkjgolieabGreatDoor
open Go.RowKit
set_option linter.unusedVariables false

/-- Numbers with two marked ones behind them, which the slice's length leaves out. -/
structure LentI (w : World) (base g n cap : Nat) (l : List Int) : Prop where
  len : n = l.length
  cap2 : n + 2 ≤ cap
  small : n * 8 ≤ 140737488351232
  row : w.ownsRow base 3 1 (.slice (some ⟨g, 0, none⟩) (n + 2) cap) (n + 2) (ints l ++ [.int .i64 (-7777), .int .i64 (-8888)])
theorem LentI.ints {w : World} {base g n cap : Nat} {l : List Int} (h : LentI w base g n cap l) : Ints w (some ⟨g, 0, none⟩) n cap l := by
  refine ⟨h.len, by have := h.cap2; omega, h.small, fun e => (by cases e), fun hn => ⟨g, 0, rfl, fun i hi => ?_⟩⟩
  have hl := h.len
  rw [Nat.zero_add, h.row.cellAt _ (by omega), List.getElem?_append_left (by rw [ints_len]; omega), ints_at l i (by omega)]
theorem LentI.mark0 {w : World} {base g n cap : Nat} {l : List Int} (h : LentI w base g n cap l) : w.cell? ⟨g, n, none⟩ = some (.int .i64 (-7777)) := by
  have hl := h.len
  rw [h.row.cellAt _ (by omega), List.getElem?_append_right (by rw [ints_len]; omega), ints_len, show n - l.length = 0 by omega]; rfl
theorem LentI.mark1 {w : World} {base g n cap : Nat} {l : List Int} (h : LentI w base g n cap l) : w.cell? ⟨g, n + 1, none⟩ = some (.int .i64 (-8888)) := by
  have hl := h.len
  rw [h.row.cellAt _ (by omega), List.getElem?_append_right (by rw [ints_len]; omega), ints_len, show n + 1 - l.length = 1 by omega]; rfl
theorem LentI.kept {w w' : World} {base g n cap : Nat} {l : List Int} (h : LentI w base g n cap l) (hb : Below w.heap.size w w') : LentI w' base g n cap l := ⟨h.len, h.cap2, h.small, owns_kept h.row hb⟩
theorem LentI.lt {w : World} {base g n cap : Nat} {l : List Int} (h : LentI w base g n cap l) : base ≤ g ∧ g < w.heap.size := h.row.lt g rfl

end Go.Proofs.YtbbfgdkjgolieabGreatDoor
