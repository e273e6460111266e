/- What the small functions of package flow return: isIn, isBranch, isFlow; and the slices' functions that they call. -/
import Derived.Test.YteliljhlfemnpaaGreatDoorPlainFlow
import Derived.Test.YteliljhlfemnpaaGreatDoorMemInts
import Derived.Test.YteliljhlfemnpaaGreatDoorIns
import Derived.Test.YteliljhlfemnpaaGreatDoorSame
import Derived.Test.YteliljhlfemnpaaGreatDoorRefPacks
import Derived.RegionTactic
import Derived.BigRegion
namespace Go.Proofs.YteliljhlfemnpaaGreatDoor
open Go.RowKit
set_option linter.unusedVariables false

set_option maxHeartbeats 400000 in
theorem isIn_any (a : Option Addr) (n c : Nat) (pc : Int) (w : World) :
    Calls Tryz.prog 134 #[.slice a n c, .int .i64 pc] w fun e w' => e = .returned (.bool (inB n pc)) ∧ w' = w := by
  by_cases h : 0 ≤ pc
  · go_enter Tryz.func134, Tryz.ntmps134
    go_wp2
    go_ret
    exact ⟨ret_bool (by simp [inB, h]), rfl⟩
  · have h' : pc < 0 := by omega
    go_enter Tryz.func134, Tryz.ntmps134
    go_wp2
    go_ret
    exact ⟨ret_bool (by simp [inB]; omega), rfl⟩

set_option maxHeartbeats 400000 in
theorem isBranch_any (k : Int) (w : World) :
    Calls Tryz.prog 136 #[.int .i64 k] w fun e w' => e = .returned (.bool (isBr k)) ∧ w' = w := by
  by_cases h : k = 12
  · subst h
    go_enter Tryz.func136, Tryz.ntmps136
    go_wp2
    go_ret
    exact ⟨rfl, rfl⟩
  · have h' : (k == 12) = false := by simp [h]
    go_enter Tryz.func136, Tryz.ntmps136
    go_wp2
    go_ret
    exact ⟨ret_bool (by rw [Bool.eq_iff_iff]; simp [isBr, h]), rfl⟩

set_option maxHeartbeats 400000 in
theorem flowNot_any (k a : Int) (w : World) :
    Calls Tryz.prog 131 #[.agg #[.int .i64 k, .int .i64 a]] w fun e w' => e = .returned (.bool (!mayB k a)) ∧ Below w.heap.size w w' := by
  go_enter Tryz.func131, Tryz.ntmps131
  go_wp2_with fail
  refine (insMay_any _ _ _).mono ?_
  rintro e w1 ⟨rfl, hb⟩
  have B : Hid (Below w.heap.size w w1) := hid (kt (by go_grown) hb)
  clear hb
  go_wp2_with fail
  go_ret
  exact ⟨rfl, B.out⟩

set_option maxHeartbeats 1000000 in
theorem indexFlow_any (a : Option Addr) (n c : Nat) (l : List (Int × Int)) (w : World) (h : Inss w a n c l) :
    Calls Tryz.prog 142 #[.slice a n c, .func (.func 131) #[] #[]] w fun e w' => ∃ r : Int, e = .returned (.int .i64 r) ∧ decide (0 ≤ r) = (!l.all fun p => mayB p.1 p.2) ∧ Below w.heap.size w w' := by
  have L := hid h.len
  have hr := h.room
  have hcp := h.cap
  go_enter Tryz.func142, Tryz.ntmps142
  go_wp2
  go_loopw [8] (fun i wr => ∃ q : Nat, q ≤ n ∧ i = .int .i64 q ∧ ((l.take q).all fun p => mayB p.1 p.2) = true ∧ Below w.heap.size w wr) (fun i _ => n - (intOf i).toNat)
  case atStart => exact ⟨0, Nat.zero_le _, rfl, by simp, by go_grown⟩
  case round =>
    obtain ⟨q, hq, rfl, ht, hb⟩ := hrel
    have HT := hid ht
    clear ht
    by_cases hlt : q < n
    · obtain ⟨b1, o1, x1, y1, rfl, e1, c1, c2⟩ := (h.kept hb).at q hlt
      have E1 := hid e1
      clear e1
      go_wp2_with fail
      refine (flowNot_any _ _ _).mono ?_
      rintro e w1 ⟨rfl, b1'⟩
      have B := hid b1'
      clear b1'
      cases hm : mayB x1 y1
      · have F := hid (all_not_at (l := l) (p := fun p => mayB p.1 p.2) (q := q) (d := (0, 0)) (by have := L.out; omega) (by rw [E1.out]; exact hm))
        go_wp2_with fail
        go_ret
        exact ⟨_, rfl, by rw [F.out]; simp, kt hb B.out⟩
      · go_wp2_with fail
        go_roundw
        case rel => exact ⟨q + 1, by omega, by go_num, all_take_step (d := (0, 0)) (by have := L.out; omega) HT.out (by rw [E1.out]; exact hm), kt hb B.out⟩
        case measure => simp [intOf]; omega
    · have F := hid (all_take_all (l := l) (p := fun p => mayB p.1 p.2) (by have := L.out; omega) HT.out)
      go_wp2
      go_ret
      exact ⟨_, rfl, by rw [F.out]; simp, hb⟩

set_option maxHeartbeats 400000 in
theorem containsFlow_any (a : Option Addr) (n c : Nat) (l : List (Int × Int)) (w : World) (h : Inss w a n c l) :
    Calls Tryz.prog 130 #[.slice a n c, .func (.func 131) #[] #[]] w fun e w' => e = .returned (.bool (!l.all fun p => mayB p.1 p.2)) ∧ Below w.heap.size w w' := by
  go_enter Tryz.func130, Tryz.ntmps130
  go_wp2_with fail
  refine (indexFlow_any _ _ _ l _ h).mono ?_
  rintro e w1 ⟨r, rfl, hr, hb⟩
  have HR := hid hr
  clear hr
  go_wp2_with fail
  go_ret
  exact ⟨ret_bool HR.out, hb⟩

set_option maxHeartbeats 1000000 in
theorem isFlow_any (x y : Int) (a : Option Addr) (n c : Nat) (l : List (Int × Int)) (w : World) (h : Inss w a n c l) :
    Calls Tryz.prog 113 #[.agg #[.int .i64 x, .int .i64 y, .slice a n c]] w fun e w' => e = .returned (.bool (codeB l)) ∧ Below w.heap.size w w' := by
  have L := hid h.len
  have hr := h.room
  have hcp := h.cap
  by_cases h1 : n < 1
  · have F := hid (codeB_short (l := l) (by have := L.out; omega))
    go_enter Tryz.func113, Tryz.ntmps113
    go_wp2
    go_ret
    exact ⟨ret_bool F.out.symm, by go_grown⟩
  by_cases h2 : 64 < n
  · have F := hid (codeB_short (l := l) (by have := L.out; omega))
    go_enter Tryz.func113, Tryz.ntmps113
    go_wp2
    go_ret
    exact ⟨ret_bool F.out.symm, by go_grown⟩
  have HI := hid h
  clear h
  go_enter Tryz.func113, Tryz.ntmps113
  go_wp2_with fail
  refine (containsFlow_any _ _ _ l _ (HI.out.kept (by go_grown))).mono ?_
  rintro e w1 ⟨rfl, hb⟩
  have B : Hid (Below w.heap.size w w1) := hid (kt (by go_grown) hb)
  clear hb
  cases hm : (l.all fun p => mayB p.1 p.2)
  · have F := hid (codeB_not hm)
    go_wp2_with fail
    go_ret
    exact ⟨ret_bool (by rw [F.out]), B.out⟩
  · have F := hid (codeB_yes (by have := L.out; omega) hm)
    go_wp2_with fail
    go_ret
    exact ⟨ret_bool (by rw [F.out]), B.out⟩

theorem hasB_no {l : List Int} {x : Int} (h : ∀ i, i < l.length → ¬ l.getD i 0 = x) : hasB l x = false := by
  simp only [hasB, decide_eq_false_iff_not]
  intro hm
  obtain ⟨i, hi, e⟩ := List.getElem_of_mem hm
  exact h i hi (by simp [List.getD_eq_getElem?_getD, hi, e])
theorem hasB_yes {l : List Int} {x : Int} {i : Nat} (hi : i < l.length) (h : l.getD i 0 = x) : hasB l x = true := by
  simp only [hasB, decide_eq_true_eq, ← h]
  simp [List.getD_eq_getElem?_getD, hi]

set_option maxHeartbeats 1000000 in
theorem indexInt_any (a : Option Addr) (n c : Nat) (l : List Int) (x : Int) (w : World) (h : Ints w a n c l) :
    Calls Tryz.prog 145 #[.slice a n c, .int .i64 x] w fun e w' => ∃ r : Int, e = .returned (.int .i64 r) ∧ decide (0 ≤ r) = hasB l x ∧ w' = w := by
  have L := hid h.len
  have hr := h.room
  have hcp := h.cap
  go_enter Tryz.func145, Tryz.ntmps145
  go_wp2
  go_loopw [8] (fun i wr => ∃ q : Nat, q ≤ n ∧ i = .int .i64 q ∧ (∀ j, j < q → ¬ l.getD j 0 = x) ∧ wr = w) (fun i _ => n - (intOf i).toNat)
  case atStart => exact ⟨0, Nat.zero_le _, rfl, fun j hj => by omega, rfl⟩
  case round =>
    obtain ⟨q, hq, rfl, ht, rfl⟩ := hrel
    have HT := hid ht
    clear ht
    by_cases hlt : q < n
    · obtain ⟨b1, o1, rfl, hrow⟩ := h.row (by omega)
      have c1 := hrow q hlt
      generalize hy : l.getD q 0 = y at c1
      have HY := hid hy
      clear hy hrow
      by_cases e1 : x = y
      · subst e1
        go_wp2
        go_ret
        exact ⟨_, rfl, by rw [hasB_yes (by have := L.out; omega) HY.out]; simp, rfl⟩
      · have e2 : (x == y) = false := by simp [e1]
        clear e1
        go_wp2
        go_roundw
        case rel => exact ⟨q + 1, by omega, by go_num, (fun j hj => by
          rcases Nat.lt_or_ge j q with h' | h'
          · exact HT.out j h'
          · have : j = q := by omega
            rw [this, HY.out]; simp at e2; omega), by first | rfl | trivial⟩
        case measure => simp [intOf]; omega
    · go_wp2
      go_ret
      exact ⟨_, rfl, by rw [hasB_no (fun i hi => HT.out i (by have := L.out; omega))]; simp, rfl⟩

set_option maxHeartbeats 400000 in
theorem containsInt_any (a : Option Addr) (n c : Nat) (l : List Int) (x : Int) (w : World) (h : Ints w a n c l) :
    Calls Tryz.prog 135 #[.slice a n c, .int .i64 x] w fun e w' => e = .returned (.bool (hasB l x)) ∧ w' = w := by
  go_enter Tryz.func135, Tryz.ntmps135
  go_wp2_with fail
  refine (indexInt_any _ _ _ l x _ h).mono ?_
  rintro e w1 ⟨r, rfl, hr, rfl⟩
  have HR := hid hr
  clear hr
  go_wp2_with fail
  go_ret
  exact ⟨ret_bool HR.out, rfl⟩

end Go.Proofs.YteliljhlfemnpaaGreatDoor
