/- What the comparing functions of the statements (SameInss, SameProgram) return. -/
import Derived.Test.YtcngmkbgcfhmdaaGreatDoorRows
import Derived.Test.YtcngmkbgcfhmdaaGreatDoorMem
import Derived.Test.YtcngmkbgcfhmdaaGreatDoorWrap
import Derived.RegionTactic
import Derived.BigRegion
import Derived.Deep.RegionHeld3
namespace Go.Proofs.YtcngmkbgcfhmdaaGreatDoor
open Go.RowKit
set_option linter.unusedVariables false

theorem take_eq_step {α : Type} [DecidableEq α] {l k : List α} {q : Nat} {d : α} (hl : q < l.length) (hk : q < k.length) (h : l.take q = k.take q) (e : l.getD q d = k.getD q d) : l.take (q + 1) = k.take (q + 1) := by
  rw [List.take_succ_eq_append_getElem hl, List.take_succ_eq_append_getElem hk, h]
  simp [List.getD_eq_getElem?_getD, hl, hk] at e
  rw [e]

theorem ne_at {α : Type} {l k : List α} {q : Nat} {d : α} (e : ¬ l.getD q d = k.getD q d) : ¬ l = k := fun h => e (by rw [h])

set_option maxHeartbeats 400000 in
theorem sameInss_any (a b : Option Addr) (n c m d : Nat) (l k : List (Int × Int)) (w : World) (h1 : Inss w a n c l) (h2 : Inss w b m d k) :
    Calls Tryz.prog 34 #[.slice a n c, .slice b m d] w fun e w' => e = .returned (.bool (decide (l = k))) ∧ Below w.heap.size w w' := by
  have hr := h1.room
  have hc := h1.cap
  have L1 := hid h1.len
  have L2 := hid h2.len
  by_cases hnm : n = m
  · subst hnm
    go_enter Tryz.func34, Tryz.ntmps34
    go_wp2
    go_loopw [5] (fun i wr => ∃ q : Nat, q ≤ n ∧ i = .int .i64 q ∧ l.take q = k.take q ∧ Below w.heap.size w wr) (fun i _ => n - (intOf i).toNat)
    case atStart => exact ⟨0, Nat.zero_le _, rfl, rfl, Below.refl _ _⟩
    case round =>
      obtain ⟨q, hq, rfl, ht, hb⟩ := hrel
      have HT := hid ht
      clear ht
      by_cases hlt : q < n
      · obtain ⟨b1, o1, rfl, r1⟩ := h1.row (by omega)
        obtain ⟨b2, o2, rfl, r2⟩ := h2.row (by omega)
        have e1 := (r1 q (by have := L1.out; omega))
        have e2 := (r2 q (by have := L2.out; omega))
        have c1 := kept_cell hb e1.1
        have c2 := kept_cell hb e1.2
        have c3 := kept_cell hb e2.1
        have c4 := kept_cell hb e2.2
        generalize hx : l.getD q (0, 0) = x at c1 c2
        generalize hy : k.getD q (0, 0) = y at c3 c4
        have HX := hid hx
        have HY := hid hy
        obtain ⟨x1, x2⟩ := x
        obtain ⟨y1, y2⟩ := y
        clear hx hy e1 e2 r1 r2
        by_cases f1 : x1 = y1
        · subst f1
          by_cases f2 : x2 = y2
          · subst f2
            go_wp2
            go_quiet (fail)
            go_wp2
            go_roundw
            case rel => exact ⟨q + 1, by omega, by go_num, take_eq_step (by have := L1.out; omega) (by have := L2.out; omega) HT.out (HX.out.trans HY.out.symm), below_drewN hb _⟩
            case measure => simp [intOf]; omega
          · have f2' : (x2 == y2) = false := by simp [f2]
            clear f2
            go_wp2
            go_quiet (fail)
            go_wp2
            go_ret
            exact ⟨ret_bool (decide_eq_false (ne_at (q := q) (d := (0, 0)) (by rw [HX.out, HY.out]; simp at f2' ⊢; omega))).symm, below_drewN hb _⟩
        · have f1' : (x1 == y1) = false := by simp [f1]
          clear f1
          go_wp2
          go_quiet (fail)
          go_wp2
          go_ret
          exact ⟨ret_bool (decide_eq_false (ne_at (q := q) (d := (0, 0)) (by rw [HX.out, HY.out]; simp at f1' ⊢; omega))).symm, below_drewN hb _⟩
      · go_wp2
        go_ret
        exact ⟨ret_bool (decide_eq_true (by have h := HT.out; rwa [List.take_of_length_le (by have := L1.out; omega), List.take_of_length_le (by have := L2.out; omega)] at h)).symm, hb⟩
  · have hne : ((n : Int) == (m : Int)) = false := by simp; omega
    go_enter Tryz.func34, Tryz.ntmps34
    go_wp2
    go_ret
    exact ⟨ret_bool (decide_eq_false (fun h => hnm (by rw [L1.out, L2.out, h]))).symm, Below.refl _ _⟩

set_option maxHeartbeats 1000000 in
theorem sameProgram_any (a b : Option Addr) (n c m d : Nat) (l k : List Fn) (w : World) (h1 : Fns w a n c l) (h2 : Fns w b m d k) :
    Calls Tryz.prog 13 #[.agg #[.slice a n c], .agg #[.slice b m d]] w fun e w' => e = .returned (.bool (decide (l = k))) ∧ Below w.heap.size w w' := by
  have hr := h1.room
  have hc := h1.cap
  have L1 := hid h1.len
  have L2 := hid h2.len
  by_cases hnm : n = m
  · subst hnm
    go_enter Tryz.func13, Tryz.ntmps13
    go_wp2
    go_loopw [5] (fun i wr => ∃ q : Nat, q ≤ n ∧ i = .int .i64 q ∧ l.take q = k.take q ∧ wr.cell? ⟨w.heap.size, 0, none⟩ = some (.slice a n c) ∧ wr.cell? ⟨w.heap.size + 1, 0, none⟩ = some (.slice b n d) ∧ Below w.heap.size w wr) (fun i _ => n - (intOf i).toNat)
    case atStart => exact ⟨0, Nat.zero_le _, rfl, rfl, by simp [go_sem], by simp [go_sem], by go_grown⟩
    case round =>
      obtain ⟨q, hq, rfl, ht, g1, g2, hb⟩ := hrel
      have HT := hid ht
      clear ht
      by_cases hlt : q < n
      · obtain ⟨b1, o1, x1, y1, a1, n1, m1, l1, rfl, e1, c1, c2, c3, i1⟩ := (h1.kept hb).at q hlt
        obtain ⟨b2, o2, x2, y2, a2, n2, m2, l2, rfl, e2, c4, c5, c6, i2⟩ := (h2.kept hb).at q hlt
        have E1 := hid e1
        have E2 := hid e2
        clear e1 e2
        have hs := hb.size
        have z1 := World.new_ne _ _ c1
        have z2 := World.new_ne _ _ c4
        have z3 := World.new_ne _ _ g1
        have z4 := World.new_ne _ _ g2
        by_cases f1 : x1 = x2
        · subst f1
          by_cases f2 : y1 = y2
          · subst f2
            have hz := lt_of_cell g2
            go_wp2
            go_region_held3 (fun w' => w'.cell? ⟨w.heap.size, 0, none⟩ = some (.slice (some ⟨b1, o1, none⟩) n c) ∧ w'.cell? ⟨w.heap.size + 1, 0, none⟩ = some (.slice (some ⟨b2, o2, none⟩) n d) ∧ w'.cell? ⟨b1, o1 + q * 3, none⟩ = some (.int .i64 x1) ∧ w'.cell? ⟨b1, o1 + q * 3 + 1, none⟩ = some (.int .i64 y1) ∧ w'.cell? ⟨b1, o1 + q * 3 + 2, none⟩ = some (.slice a1 n1 m1) ∧ w'.cell? ⟨b2, o2 + q * 3, none⟩ = some (.int .i64 x1) ∧ w'.cell? ⟨b2, o2 + q * 3 + 1, none⟩ = some (.int .i64 y1) ∧ w'.cell? ⟨b2, o2 + q * 3 + 2, none⟩ = some (.slice a2 n2 m2)) (go_keep) (fail)
            all_goals
              go_wp2_with fail
              refine (sameInss_any _ _ _ _ _ _ l1 l2 _ (i1.kept (by go_grown)) (i2.kept (by go_grown))).mono ?_
              rintro e w1 ⟨rfl, b1'⟩
              have B := hid b1'
              have g1' := kept_cell b1' (b := w.heap.size) (o := 0) (v := .slice (some ⟨b1, o1, none⟩) n c) (by simp [*])
              have g2' := kept_cell b1' (b := w.heap.size + 1) (o := 0) (v := .slice (some ⟨b2, o2, none⟩) n d) (by simp [*])
              clear b1'
              by_cases f3 : l1 = l2
              · have f3' : decide (l1 = l2) = true := by simp [f3]
                clear f3
                go_wp2_with fail
                go_roundw
                case rel => exact ⟨q + 1, by omega, by go_num, take_eq_step (by have := L1.out; omega) (by have := L2.out; omega) HT.out (by rw [E1.out, E2.out]; simp at f3'; rw [f3']), g1', g2', kt hb (kt (by go_grown) B.out)⟩
                case measure => simp [intOf]; omega
              · have f3' : decide (l1 = l2) = false := by simp [f3]
                clear f3
                go_wp2_with fail
                go_ret
                exact ⟨ret_bool (decide_eq_false (ne_at (q := q) (d := noFn) (by rw [E1.out, E2.out]; simp at f3' ⊢; exact f3'))).symm, kt hb (kt (by go_grown) B.out)⟩
          · have f2' : (y1 == y2) = false := by simp [f2]
            clear f2
            go_wp2
            go_region_held3 (fun w' => w'.cell? ⟨w.heap.size, 0, none⟩ = some (.slice (some ⟨b1, o1, none⟩) n c) ∧ w'.cell? ⟨w.heap.size + 1, 0, none⟩ = some (.slice (some ⟨b2, o2, none⟩) n d) ∧ w'.cell? ⟨b1, o1 + q * 3, none⟩ = some (.int .i64 x1) ∧ w'.cell? ⟨b1, o1 + q * 3 + 1, none⟩ = some (.int .i64 y1) ∧ w'.cell? ⟨b1, o1 + q * 3 + 2, none⟩ = some (.slice a1 n1 m1) ∧ w'.cell? ⟨b2, o2 + q * 3, none⟩ = some (.int .i64 x1) ∧ w'.cell? ⟨b2, o2 + q * 3 + 1, none⟩ = some (.int .i64 y2) ∧ w'.cell? ⟨b2, o2 + q * 3 + 2, none⟩ = some (.slice a2 n2 m2)) (go_keep) (fail)
            all_goals
              go_wp2
              go_ret
              exact ⟨ret_bool (decide_eq_false (ne_at (q := q) (d := noFn) (by rw [E1.out, E2.out]; simp at f2' ⊢; omega))).symm, by go_grown⟩
        · have f1' : (x1 == x2) = false := by simp [f1]
          clear f1
          go_wp2
          go_region_held3 (fun w' => w'.cell? ⟨w.heap.size, 0, none⟩ = some (.slice (some ⟨b1, o1, none⟩) n c) ∧ w'.cell? ⟨w.heap.size + 1, 0, none⟩ = some (.slice (some ⟨b2, o2, none⟩) n d) ∧ w'.cell? ⟨b1, o1 + q * 3, none⟩ = some (.int .i64 x1) ∧ w'.cell? ⟨b1, o1 + q * 3 + 1, none⟩ = some (.int .i64 y1) ∧ w'.cell? ⟨b1, o1 + q * 3 + 2, none⟩ = some (.slice a1 n1 m1) ∧ w'.cell? ⟨b2, o2 + q * 3, none⟩ = some (.int .i64 x2) ∧ w'.cell? ⟨b2, o2 + q * 3 + 1, none⟩ = some (.int .i64 y2) ∧ w'.cell? ⟨b2, o2 + q * 3 + 2, none⟩ = some (.slice a2 n2 m2)) (go_keep) (fail)
          all_goals
            go_wp2
            all_goals
              go_ret
              exact ⟨ret_bool (decide_eq_false (ne_at (q := q) (d := noFn) (by rw [E1.out, E2.out]; simp at f1' ⊢; omega))).symm, by go_grown⟩
      · go_wp2
        go_ret
        exact ⟨ret_bool (decide_eq_true (by have h := HT.out; rwa [List.take_of_length_le (by have := L1.out; omega), List.take_of_length_le (by have := L2.out; omega)] at h)).symm, hb⟩
  · have hne : ((n : Int) == (m : Int)) = false := by simp; omega
    go_enter Tryz.func13, Tryz.ntmps13
    go_wp2
    go_ret
    exact ⟨ret_bool (decide_eq_false (fun h => hnm (by rw [L1.out, L2.out, h]))).symm, by go_grown⟩

end Go.Proofs.YtcngmkbgcfhmdaaGreatDoor
