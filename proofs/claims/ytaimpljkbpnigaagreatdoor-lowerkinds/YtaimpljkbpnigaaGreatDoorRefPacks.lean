/- What the document's own FuncMay and Packs return. -/
import Derived.Test.YtaimpljkbpnigaaGreatDoorPlain3
import Derived.Test.YtaimpljkbpnigaaGreatDoorJ2s
import Derived.Test.YtaimpljkbpnigaaGreatDoorInsEff
namespace Go.Proofs.YtaimpljkbpnigaaGreatDoor
open Go.RowKit
set_option linter.unusedVariables false

set_option maxHeartbeats 1000000 in
theorem refFuncMay_any (x y : Int) (a : Option Addr) (n c : Nat) (l : List (Int × Int)) (w : World) (h : Inss w a n c l) :
    Calls Tryz.prog 60 #[.agg #[.int .i64 x, .int .i64 y, .slice a n c]] w fun e w' => e = .returned (.bool (codeB l)) ∧ Below w.heap.size w w' := by
  have L := hid h.len
  have hr := h.room
  have hcp := h.cap
  by_cases h1 : n < 1
  · have F := hid (codeB_short (l := l) (by have := L.out; omega))
    go_enter Tryz.func60, Tryz.ntmps60
    go_wp2
    go_ret
    exact ⟨ret_bool F.out.symm, by go_grown⟩
  by_cases h2 : 64 < n
  · have F := hid (codeB_short (l := l) (by have := L.out; omega))
    go_enter Tryz.func60, Tryz.ntmps60
    go_wp2
    go_ret
    exact ⟨ret_bool F.out.symm, by go_grown⟩
  go_enter Tryz.func60, Tryz.ntmps60
  go_wp2
  go_loopw [3] (fun i wr => ∃ q : Nat, q ≤ n ∧ i = .int .i64 q ∧ ((l.take q).all fun p => mayB p.1 p.2) = true ∧ wr.cell? ⟨w.heap.size, 2, none⟩ = some (.slice a n c) ∧ Below w.heap.size w wr) (fun i _ => n - (intOf i).toNat)
  case atStart => exact ⟨0, Nat.zero_le _, rfl, by simp, by simp [go_sem], by go_grown⟩
  case round =>
    obtain ⟨q, hq, rfl, ht, g0, hb⟩ := hrel
    have HT := hid ht
    clear ht
    by_cases hlt : q < n
    · obtain ⟨b1, o1, x1, y1, rfl, e1, c1, c2⟩ := (h.kept hb).at q hlt
      have E1 := hid e1
      clear e1
      go_wp2_with fail
      refine (refMay_any _ _ _).mono ?_
      rintro e w1 ⟨rfl, b1'⟩
      have B := hid b1'
      have g0' := kept_cell b1' g0
      clear b1'
      cases hm : mayB x1 y1
      · have F := hid (codeB_not (l := l) (all_not_at (q := q) (d := (0, 0)) (by have := L.out; omega) (by rw [E1.out]; exact hm)))
        go_wp2_with fail
        go_ret
        exact ⟨ret_bool F.out.symm, kt hb B.out⟩
      · go_wp2_with fail
        go_roundw
        case rel => exact ⟨q + 1, by omega, by go_num, all_take_step (d := (0, 0)) (by have := L.out; omega) HT.out (by rw [E1.out]; exact hm), g0', kt hb B.out⟩
        case measure => simp [intOf]; omega
    · have F := hid (codeB_yes (l := l) (by have := L.out; omega) (all_take_all (by have := L.out; omega) HT.out))
      go_wp2
      go_ret
      exact ⟨ret_bool F.out.symm, hb⟩

theorem fnB_args {x y : Int} {l : List (Int × Int)} (h : x < 0 ∨ 4 < x ∨ y < x ∨ 8 < y) : fnB (x, y, l) = false := by simp [fnB]; omega
theorem fnB_code {x y : Int} {l : List (Int × Int)} (h : codeB l = false) : fnB (x, y, l) = false := by simp [fnB, h]
theorem fnB_yes {x y : Int} {l : List (Int × Int)} (h1 : ¬ x < 0) (h2 : ¬ 4 < x) (h3 : ¬ y < x) (h4 : ¬ 8 < y) (h : codeB l = true) : fnB (x, y, l) = true := by simp [fnB, h]; omega

set_option maxHeartbeats 2000000 in
theorem refPacks_any (a : Option Addr) (n c : Nat) (l : List Fn) (w : World) (h : Fns w a n c l) :
    Calls Tryz.prog 45 #[.agg #[.slice a n c]] w fun e w' => e = .returned (.bool (packsB l)) ∧ Below w.heap.size w w' := by
  have L := hid h.len
  have hr := h.room
  have hcp := h.cap
  by_cases h1 : n < 1
  · have F := hid (packsB_short (l := l) (by have := L.out; omega))
    go_enter Tryz.func45, Tryz.ntmps45
    go_wp2
    go_ret
    exact ⟨ret_bool F.out.symm, by go_grown⟩
  by_cases h2 : 8 < n
  · have F := hid (packsB_short (l := l) (by have := L.out; omega))
    go_enter Tryz.func45, Tryz.ntmps45
    go_wp2
    go_ret
    exact ⟨ret_bool F.out.symm, by go_grown⟩
  go_enter Tryz.func45, Tryz.ntmps45
  go_wp2
  go_loopw [3] (fun i wr => ∃ q : Nat, q ≤ n ∧ i = .int .i64 q ∧ (l.take q).all fnB = true ∧ wr.cell? ⟨w.heap.size, 0, none⟩ = some (.slice a n c) ∧ Below w.heap.size w wr) (fun i _ => n - (intOf i).toNat)
  case atStart => exact ⟨0, Nat.zero_le _, rfl, by simp, by simp [go_sem], by go_grown⟩
  case round =>
    obtain ⟨q, hq, rfl, ht, g0, hb⟩ := hrel
    have HT := hid ht
    clear ht
    by_cases hlt : q < n
    · obtain ⟨b1, o1, x1, y1, a1, n1, m1, l1, rfl, e1, c1, c2, c3, i1⟩ := (h.kept hb).at q hlt
      have E1 := hid e1
      clear e1
      have hs := hb.size
      have z1 := World.new_ne _ _ c1
      have FN : Hid (fnB (x1, y1, l1) = false → packsB l = false) := hid (fun hf => packsB_not (all_not_at (q := q) (d := noFn) (by have := L.out; omega) (by rw [E1.out]; exact hf)))
      by_cases k1 : x1 < 0
      · go_wp2
        all_goals
          go_ret
          exact ⟨ret_bool (FN.out (fnB_args (by omega))).symm, by go_grown⟩
      by_cases k2 : 4 < x1
      · go_wp2
        all_goals
          go_ret
          exact ⟨ret_bool (FN.out (fnB_args (by omega))).symm, by go_grown⟩
      by_cases k3 : y1 < x1
      · go_wp2
        all_goals
          go_ret
          exact ⟨ret_bool (FN.out (fnB_args (by omega))).symm, by go_grown⟩
      by_cases k4 : 8 < y1
      · go_wp2
        all_goals
          go_ret
          exact ⟨ret_bool (FN.out (fnB_args (by omega))).symm, by go_grown⟩
      go_wp2_with fail
      refine (refFuncMay_any _ _ _ _ _ l1 _ (i1.kept (by go_grown))).mono ?_
      rintro e w1 ⟨rfl, b1'⟩
      have B := hid b1'
      have g0' := kept_cell b1' (kept_cell (by go_grown) g0)
      clear b1'
      cases hm : codeB l1
      · go_wp2_with fail
        go_ret
        exact ⟨ret_bool (FN.out (fnB_code hm)).symm, kt hb (kt (by go_grown) B.out)⟩
      · go_wp2_with fail
        go_roundw
        case rel => exact ⟨q + 1, by omega, by go_num, all_take_step (d := noFn) (by have := L.out; omega) HT.out (by rw [E1.out]; exact fnB_yes (by omega) (by omega) (by omega) (by omega) hm), g0', kt hb (kt (by go_grown) B.out)⟩
        case measure => simp [intOf]; omega
    · have F := hid (packsB_yes (l := l) (by have := L.out; omega) (all_take_all (by have := L.out; omega) HT.out))
      go_wp2
      go_ret
      exact ⟨ret_bool F.out.symm, hb⟩

end Go.Proofs.YtaimpljkbpnigaaGreatDoor
