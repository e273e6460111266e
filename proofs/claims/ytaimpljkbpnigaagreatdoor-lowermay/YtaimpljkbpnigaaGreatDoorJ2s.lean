/- What the comparing functions of the statements (SameInss, SameProgram) return. What the copying functions of the statements (CopyInss, CopyProgram) return: the same, in memory of their own. -/
import Derived.Test.YtaimpljkbpnigaaGreatDoorRows
import Derived.Test.YtaimpljkbpnigaaGreatDoorMem
import Derived.Test.YtaimpljkbpnigaaGreatDoorWrap
import Derived.RegionTactic
import Derived.BigRegion
import Derived.Deep.RegionHeld3
import Derived.Deep.AppendLies
namespace Go.Proofs.YtaimpljkbpnigaaGreatDoor
open Go.RowKit
set_option linter.unusedVariables false

theorem take_eq_step {α : Type} [DecidableEq α] {l k : List α} {q : Nat} {d : α} (hl : q < l.length) (hk : q < k.length) (h : l.take q = k.take q) (e : l.getD q d = k.getD q d) : l.take (q + 1) = k.take (q + 1) := by
  rw [List.take_succ_eq_append_getElem hl, List.take_succ_eq_append_getElem hk, h]
  simp [List.getD_eq_getElem?_getD, hl, hk] at e
  rw [e]

theorem ne_at {α : Type} {l k : List α} {q : Nat} {d : α} (e : ¬ l.getD q d = k.getD q d) : ¬ l = k := fun h => e (by rw [h])

set_option maxHeartbeats 400000 in
theorem sameInss_any (a b : Option Addr) (n c m d : Nat) (l k : List (Int × Int)) (w : World) (h1 : Inss w a n c l) (h2 : Inss w b m d k) :
    Calls Tryz.prog 32 #[.slice a n c, .slice b m d] w fun e w' => e = .returned (.bool (decide (l = k))) ∧ Below w.heap.size w w' := by
  have hr := h1.room
  have hc := h1.cap
  have L1 := hid h1.len
  have L2 := hid h2.len
  by_cases hnm : n = m
  · subst hnm
    go_enter Tryz.func32, Tryz.ntmps32
    go_wp2
    go_loopw [5] (fun i wr => ∃ q : Nat, q ≤ n ∧ i = .int .i64 q ∧ l.take q = k.take q ∧ Below w.heap.size w wr) (fun i _ => n - (intOf i).toNat)
    case atStart => exact ⟨0, Nat.zero_le _, rfl, rfl, Below.refl _ _⟩
    case round =>
      obtain ⟨q, hq, rfl, ht, hb⟩ := hrel
      have HT := hid ht
      clear ht
      by_cases hlt : q < n
      · obtain ⟨b1, o1, rfl, r1⟩ := h1.row (by omega)
        obtain ⟨b2, o2, rfl, r2⟩ := h2.row (by omega)
        have e1 := (r1 q (by have := L1.out; omega))
        have e2 := (r2 q (by have := L2.out; omega))
        have c1 := kept_cell hb e1.1
        have c2 := kept_cell hb e1.2
        have c3 := kept_cell hb e2.1
        have c4 := kept_cell hb e2.2
        generalize hx : l.getD q (0, 0) = x at c1 c2
        generalize hy : k.getD q (0, 0) = y at c3 c4
        have HX := hid hx
        have HY := hid hy
        obtain ⟨x1, x2⟩ := x
        obtain ⟨y1, y2⟩ := y
        clear hx hy e1 e2 r1 r2
        by_cases f1 : x1 = y1
        · subst f1
          by_cases f2 : x2 = y2
          · subst f2
            go_wp2
            go_quiet (fail)
            go_wp2
            go_roundw
            case rel => exact ⟨q + 1, by omega, by go_num, take_eq_step (by have := L1.out; omega) (by have := L2.out; omega) HT.out (HX.out.trans HY.out.symm), below_drewN hb _⟩
            case measure => simp [intOf]; omega
          · have f2' : (x2 == y2) = false := by simp [f2]
            clear f2
            go_wp2
            go_quiet (fail)
            go_wp2
            go_ret
            exact ⟨ret_bool (decide_eq_false (ne_at (q := q) (d := (0, 0)) (by rw [HX.out, HY.out]; simp at f2' ⊢; omega))).symm, below_drewN hb _⟩
        · have f1' : (x1 == y1) = false := by simp [f1]
          clear f1
          go_wp2
          go_quiet (fail)
          go_wp2
          go_ret
          exact ⟨ret_bool (decide_eq_false (ne_at (q := q) (d := (0, 0)) (by rw [HX.out, HY.out]; simp at f1' ⊢; omega))).symm, below_drewN hb _⟩
      · go_wp2
        go_ret
        exact ⟨ret_bool (decide_eq_true (by have h := HT.out; rwa [List.take_of_length_le (by have := L1.out; omega), List.take_of_length_le (by have := L2.out; omega)] at h)).symm, hb⟩
  · have hne : ((n : Int) == (m : Int)) = false := by simp; omega
    go_enter Tryz.func32, Tryz.ntmps32
    go_wp2
    go_ret
    exact ⟨ret_bool (decide_eq_false (fun h => hnm (by rw [L1.out, L2.out, h]))).symm, Below.refl _ _⟩

set_option maxHeartbeats 1000000 in
theorem sameProgram_any (a b : Option Addr) (n c m d : Nat) (l k : List Fn) (w : World) (h1 : Fns w a n c l) (h2 : Fns w b m d k) :
    Calls Tryz.prog 13 #[.agg #[.slice a n c], .agg #[.slice b m d]] w fun e w' => e = .returned (.bool (decide (l = k))) ∧ Below w.heap.size w w' := by
  have hr := h1.room
  have hc := h1.cap
  have L1 := hid h1.len
  have L2 := hid h2.len
  by_cases hnm : n = m
  · subst hnm
    go_enter Tryz.func13, Tryz.ntmps13
    go_wp2
    go_loopw [5] (fun i wr => ∃ q : Nat, q ≤ n ∧ i = .int .i64 q ∧ l.take q = k.take q ∧ wr.cell? ⟨w.heap.size, 0, none⟩ = some (.slice a n c) ∧ wr.cell? ⟨w.heap.size + 1, 0, none⟩ = some (.slice b n d) ∧ Below w.heap.size w wr) (fun i _ => n - (intOf i).toNat)
    case atStart => exact ⟨0, Nat.zero_le _, rfl, rfl, by simp [go_sem], by simp [go_sem], by go_grown⟩
    case round =>
      obtain ⟨q, hq, rfl, ht, g1, g2, hb⟩ := hrel
      have HT := hid ht
      clear ht
      by_cases hlt : q < n
      · obtain ⟨b1, o1, x1, y1, a1, n1, m1, l1, rfl, e1, c1, c2, c3, i1⟩ := (h1.kept hb).at q hlt
        obtain ⟨b2, o2, x2, y2, a2, n2, m2, l2, rfl, e2, c4, c5, c6, i2⟩ := (h2.kept hb).at q hlt
        have E1 := hid e1
        have E2 := hid e2
        clear e1 e2
        have hs := hb.size
        have z1 := World.new_ne _ _ c1
        have z2 := World.new_ne _ _ c4
        have z3 := World.new_ne _ _ g1
        have z4 := World.new_ne _ _ g2
        by_cases f1 : x1 = x2
        · subst f1
          by_cases f2 : y1 = y2
          · subst f2
            have hz := lt_of_cell g2
            go_wp2
            go_region_held3 (fun w' => w'.cell? ⟨w.heap.size, 0, none⟩ = some (.slice (some ⟨b1, o1, none⟩) n c) ∧ w'.cell? ⟨w.heap.size + 1, 0, none⟩ = some (.slice (some ⟨b2, o2, none⟩) n d) ∧ w'.cell? ⟨b1, o1 + q * 3, none⟩ = some (.int .i64 x1) ∧ w'.cell? ⟨b1, o1 + q * 3 + 1, none⟩ = some (.int .i64 y1) ∧ w'.cell? ⟨b1, o1 + q * 3 + 2, none⟩ = some (.slice a1 n1 m1) ∧ w'.cell? ⟨b2, o2 + q * 3, none⟩ = some (.int .i64 x1) ∧ w'.cell? ⟨b2, o2 + q * 3 + 1, none⟩ = some (.int .i64 y1) ∧ w'.cell? ⟨b2, o2 + q * 3 + 2, none⟩ = some (.slice a2 n2 m2)) (go_keep) (fail)
            all_goals
              go_wp2_with fail
              refine (sameInss_any _ _ _ _ _ _ l1 l2 _ (i1.kept (by go_grown)) (i2.kept (by go_grown))).mono ?_
              rintro e w1 ⟨rfl, b1'⟩
              have B := hid b1'
              have g1' := kept_cell b1' (b := w.heap.size) (o := 0) (v := .slice (some ⟨b1, o1, none⟩) n c) (by simp [*])
              have g2' := kept_cell b1' (b := w.heap.size + 1) (o := 0) (v := .slice (some ⟨b2, o2, none⟩) n d) (by simp [*])
              clear b1'
              by_cases f3 : l1 = l2
              · have f3' : decide (l1 = l2) = true := by simp [f3]
                clear f3
                go_wp2_with fail
                go_roundw
                case rel => exact ⟨q + 1, by omega, by go_num, take_eq_step (by have := L1.out; omega) (by have := L2.out; omega) HT.out (by rw [E1.out, E2.out]; simp at f3'; rw [f3']), g1', g2', kt hb (kt (by go_grown) B.out)⟩
                case measure => simp [intOf]; omega
              · have f3' : decide (l1 = l2) = false := by simp [f3]
                clear f3
                go_wp2_with fail
                go_ret
                exact ⟨ret_bool (decide_eq_false (ne_at (q := q) (d := noFn) (by rw [E1.out, E2.out]; simp at f3' ⊢; exact f3'))).symm, kt hb (kt (by go_grown) B.out)⟩
          · have f2' : (y1 == y2) = false := by simp [f2]
            clear f2
            go_wp2
            go_region_held3 (fun w' => w'.cell? ⟨w.heap.size, 0, none⟩ = some (.slice (some ⟨b1, o1, none⟩) n c) ∧ w'.cell? ⟨w.heap.size + 1, 0, none⟩ = some (.slice (some ⟨b2, o2, none⟩) n d) ∧ w'.cell? ⟨b1, o1 + q * 3, none⟩ = some (.int .i64 x1) ∧ w'.cell? ⟨b1, o1 + q * 3 + 1, none⟩ = some (.int .i64 y1) ∧ w'.cell? ⟨b1, o1 + q * 3 + 2, none⟩ = some (.slice a1 n1 m1) ∧ w'.cell? ⟨b2, o2 + q * 3, none⟩ = some (.int .i64 x1) ∧ w'.cell? ⟨b2, o2 + q * 3 + 1, none⟩ = some (.int .i64 y2) ∧ w'.cell? ⟨b2, o2 + q * 3 + 2, none⟩ = some (.slice a2 n2 m2)) (go_keep) (fail)
            all_goals
              go_wp2
              go_ret
              exact ⟨ret_bool (decide_eq_false (ne_at (q := q) (d := noFn) (by rw [E1.out, E2.out]; simp at f2' ⊢; omega))).symm, by go_grown⟩
        · have f1' : (x1 == x2) = false := by simp [f1]
          clear f1
          go_wp2
          go_region_held3 (fun w' => w'.cell? ⟨w.heap.size, 0, none⟩ = some (.slice (some ⟨b1, o1, none⟩) n c) ∧ w'.cell? ⟨w.heap.size + 1, 0, none⟩ = some (.slice (some ⟨b2, o2, none⟩) n d) ∧ w'.cell? ⟨b1, o1 + q * 3, none⟩ = some (.int .i64 x1) ∧ w'.cell? ⟨b1, o1 + q * 3 + 1, none⟩ = some (.int .i64 y1) ∧ w'.cell? ⟨b1, o1 + q * 3 + 2, none⟩ = some (.slice a1 n1 m1) ∧ w'.cell? ⟨b2, o2 + q * 3, none⟩ = some (.int .i64 x2) ∧ w'.cell? ⟨b2, o2 + q * 3 + 1, none⟩ = some (.int .i64 y2) ∧ w'.cell? ⟨b2, o2 + q * 3 + 2, none⟩ = some (.slice a2 n2 m2)) (go_keep) (fail)
          all_goals
            go_wp2
            all_goals
              go_ret
              exact ⟨ret_bool (decide_eq_false (ne_at (q := q) (d := noFn) (by rw [E1.out, E2.out]; simp at f1' ⊢; omega))).symm, by go_grown⟩
      · go_wp2
        go_ret
        exact ⟨ret_bool (decide_eq_true (by have h := HT.out; rwa [List.take_of_length_le (by have := L1.out; omega), List.take_of_length_le (by have := L2.out; omega)] at h)).symm, hb⟩
  · have hne : ((n : Int) == (m : Int)) = false := by simp; omega
    go_enter Tryz.func13, Tryz.ntmps13
    go_wp2
    go_ret
    exact ⟨ret_bool (decide_eq_false (fun h => hnm (by rw [L1.out, L2.out, h]))).symm, by go_grown⟩

end Go.Proofs.YtaimpljkbpnigaaGreatDoor

namespace Go.Proofs.YtaimpljkbpnigaaGreatDoor
open Go.RowKit
set_option linter.unusedVariables false

theorem Tryz.infoIns : (Tryz.prog.info? 47).map (fun i => (i.zero, i.size, i.bytes)) = some (some (.agg #[.int .i64 0, .int .i64 0]), 2, 16) := by kernel_rfl

set_option maxHeartbeats 400000 in
theorem copyInss_any (a : Option Addr) (n c : Nat) (l : List (Int × Int)) (w : World) (h : Inss w a n c l) :
    Calls Tryz.prog 19 #[.slice a n c] w fun e w' => ∃ v, e = .returned v ∧ w'.ownsRow w.heap.size 47 2 v l.length (flat2 l) ∧ Below w.heap.size w w' := by
  obtain ⟨i0, hi, hz0, hz1, hz2⟩ := info_parts Tryz.infoIns
  have hown0 : (w.alloc (.cells #[] 47)).ownsRow w.heap.size 47 2 (.slice (some ⟨w.heap.size, 0, none⟩) 0 0) 0 [] := World.ownsRow_lit w #[] 0 (Nat.le_refl _) (by simp [maxLen]) rfl
  cases a with
  | none =>
    obtain ⟨rfl, rfl⟩ := h.nilc rfl
    have hl : l = [] := List.length_eq_zero_iff.1 h.len.symm
    subst hl
    have hrun := run_append_owned_none (P := Tryz.prog) (w := w.alloc (.cells #[] 47)) w.heap.size 48 48 47 i0 2 Tryz.underlying48 hi _ _ _ hown0
    go_enter Tryz.func19, Tryz.ntmps19
    go_wp2
    go_ret
    exact ⟨_, rfl, hown0, by go_grown⟩
  | some x =>
    have hn := h.len
    have hr := h.room
    subst hn
    have hnews : ∀ j u, (flat2 l)[j]? = some u → (w.alloc (.cells #[] 47)).cell? (x.add j) = some u := by
      intro j u hu
      have hpos : 0 < l.length := by
        cases l with
        | nil => simp [flat2] at hu
        | cons p r => simp
      obtain ⟨b, o, hx, hrow⟩ := h.row hpos
      cases hx
      have hc := flat2_cells hrow j u hu
      rw [show (⟨b, o, none⟩ : Addr).add j = ⟨b, o + j, none⟩ by simp [Addr.add]]
      exact kept_cell (by go_grown) hc
    go_enter Tryz.func19, Tryz.ntmps19
    go_wp2_with (at_builtin; refine wpList_append_own _ rfl _ _ 48 rfl w.heap.size 47 i0 (.agg #[.int .i64 0, .int .i64 0]) 2 16 Tryz.underlying48 hi hz0 hz1 hz2 rfl (by decide) _ _ _ rfl hown0 x l.length c (flat2 l) rfl (flat2_len l) hnews (flat2_one l) (by unfold maxLen; omega) (by omega) (by simp) ?_; intro v' w1 ho hg _)
    simp only [Nat.zero_add, List.nil_append] at ho
    go_ret
    exact ⟨_, rfl, ho, (Below.grown (Below.alloc (Below.refl _ _) (Nat.le_refl _) _) hg (by simp) (by intro k hk; cases hk; exact Nat.le_refl _))⟩

theorem Tryz.infoFunc : (Tryz.prog.info? 51).map (fun i => (i.zero, i.size, i.bytes)) = some (some (.agg #[.int .i64 0, .int .i64 0, .slice none 0 0]), 3, 40) := by kernel_rfl

set_option maxHeartbeats 1000000 in
theorem copyProgram_any (a : Option Addr) (n c : Nat) (l : List Fn) (w : World) (h : Fns w a n c l) :
    Calls Tryz.prog 7 #[.agg #[.slice a n c]] w fun e w' => ∃ v, e = .returned (.agg #[v]) ∧ OwnFns 47 51 w' (w.heap.size + 3) v l ∧ Below w.heap.size w w' := by
  obtain ⟨i0, hi, hz0, hz1, hz2⟩ := info_parts Tryz.infoFunc
  have L := hid h.len
  have hr := h.room
  go_enter Tryz.func7, Tryz.ntmps7
  go_wp2
  go_loopw [4] (fun i wr => ∃ q : Nat, q ≤ n ∧ i = .int .i64 q ∧ wr.cell? ⟨w.heap.size, 0, none⟩ = some (.slice a n c) ∧ wr.cell? ⟨w.heap.size + 1, 0, none⟩ = some (.slice none 0 0) ∧ wr.frozen? ⟨w.heap.size + 1, 0, none⟩ = false ∧
      (∃ va vn vc, wr.cell? ⟨w.heap.size + 1 + 1, 0, none⟩ = some (.slice va vn vc) ∧ wr.frozen? ⟨w.heap.size + 1 + 1, 0, none⟩ = false ∧ OwnFns 47 51 wr (w.heap.size + 3) (.slice va vn vc) (l.take q)) ∧ Below w.heap.size w wr) (fun i _ => n - (intOf i).toNat)
  case atStart => exact ⟨0, Nat.zero_le _, rfl, by simp [go_sem], by simp [go_sem], by simp [go_sem], ⟨_, _, _, by simp [go_sem], by simp [go_sem], OwnFns.nil _ _ _ _⟩, by go_grown⟩
  case round =>
    obtain ⟨q, hq, rfl, g0, g1, f1, ⟨va, vn, vc, g2, f2, ho⟩, hb⟩ := hrel
    by_cases hlt : q < n
    · obtain ⟨b1, o1, x1, y1, a1, n1, m1, l1, rfl, e1, c1, c2, c3, i1⟩ := (h.kept hb).at q hlt
      have E1 := hid e1
      clear e1
      have hs := hb.size
      have z1 := World.new_ne _ _ c1
      go_wp2_with fail
      refine (copyInss_any _ _ _ l1 _ (i1.kept (by go_grown))).mono ?_
      rintro e w1 ⟨cv, rfl, hc, hb1⟩
      obtain ⟨a2, n2, m2, rfl, i2⟩ := inss_of_owns hc (by rw [← i1.len]; exact i1.room)
      have k0 := kept_cell hb1 (b := wr.heap.size) (o := 0) (v := .int .i64 x1) (by simp [go_sem])
      have k1 := kept_cell hb1 (b := wr.heap.size) (o := 1) (v := .int .i64 y1) (by simp [go_sem])
      have k2 := kept_cell hb1 (b := wr.heap.size) (o := 2) (v := .slice a1 n1 m1) (by simp [go_sem])
      have kf : w1.frozen? ⟨wr.heap.size, 2, none⟩ = false := by rw [hb1.frozen (by simp)]; simp [go_sem]
      have g0' := kept_cell hb1 (b := w.heap.size) (o := 0) (v := .slice (some ⟨b1, o1, none⟩) n c) (kept_cell (by go_grown) g0)
      have g2' := kept_cell hb1 (b := w.heap.size + 1 + 1) (o := 0) (v := .slice va vn vc) (kept_cell (by go_grown) g2)
      have HB1 := hid hb1
      have hs1 : wr.heap.size + 1 ≤ w1.heap.size := by have := hb1.size; simpa using this
      have hlt2 := lt_of_cell g2
      obtain ⟨t, ht1, ht2, ht3⟩ := ho
      have hlen : (l.take q).length = q := by rw [List.length_take]; have := L.out; omega
      rw [hlen] at ht1 ht2 ht3
      have hB5 : Below wr.heap.size wr ((w1.setCell ⟨wr.heap.size, 2, none⟩ (.slice a2 n2 m2)).alloc (.cells #[.int .i64 x1, .int .i64 y1, .slice a2 n2 m2] 51)) :=
        Below.alloc (Below.setCell (kt (by go_grown) hb1) (Nat.le_refl _) _) (by simp; omega) _
      have hown5 := owns_kept ht2 hB5
      have hcode5 : ((w1.setCell ⟨wr.heap.size, 2, none⟩ (.slice a2 n2 m2)).alloc (.cells #[.int .i64 x1, .int .i64 y1, .slice a2 n2 m2] 51)).ownsRow (w.heap.size + 3) 47 2 (.slice a2 n2 m2) l1.length (flat2 l1) :=
        (owns_base (owns_set hc ⟨wr.heap.size, 2, none⟩ _ (by simp)) (by simp; omega)).alloc _
      have hnews := World.news_of_block (heap_alloc_new (w1.setCell ⟨wr.heap.size, 2, none⟩ (.slice a2 n2 m2)) (.cells #[.int .i64 x1, .int .i64 y1, .slice a2 n2 m2] 51))
      simp only [World.size_setCell] at hnews
      have h3 := fun i (hi : i < q) => (⟨(ht3 i hi).1, (ht3 i hi).2.1, (ht3 i hi).2.2.1, owns_kept (ht3 i hi).2.2.2 hB5⟩ : (t.getD i noT).1 = ((l.take q).getD i noFn).1 ∧ (t.getD i noT).2.1 = ((l.take q).getD i noFn).2.1 ∧ ((l.take q).getD i noFn).2.2.length * 16 ≤ 140737488351232 ∧ World.ownsRow _ (w.heap.size + 3) 47 2 (t.getD i noT).2.2 ((l.take q).getD i noFn).2.2.length (flat2 ((l.take q).getD i noFn).2.2))
      have hne : ∀ b, b < w.heap.size + 3 → some b ≠ (Value.slice va vn vc).ownBlock := fun b hb h => by have := (hown5.lt _ h.symm).1; omega
      have HN := hid hne
      have j0 := kept_cell hB5 g0
      have j1 := kept_cell hB5 g1
      have j2 := kept_cell hB5 g2
      have jf1 := (hB5.frozen (p := ⟨w.heap.size + 1, 0, none⟩) (lt_of_cell g1)).trans f1
      have jf2 := (hB5.frozen (p := ⟨w.heap.size + 1 + 1, 0, none⟩) (lt_of_cell g2)).trans f2
      have J := hid (And.intro j0 (And.intro j1 (And.intro j2 (And.intro jf1 jf2))))
      clear j0 j1 j2 jf1 jf2 hne
      have H3 := hid h3
      have HB5 := hid hB5
      have HC5 := hid hcode5
      have HO5 := hid hown5
      have HT1 := hid ht1
      have HL := hid hlen
      have R1 := hid i1.room
      have L1 := hid i1.len
      clear hb1 h3 hB5 hcode5 hown5 ht1 ht2 ht3 hlen hc i2
      go_wp2_with (at_builtin; go_must ((refine wpList_append_lies _ rfl _ _ 22 rfl (w.heap.size + 3) 51 i0 (.agg #[.int .i64 0, .int .i64 0, .slice none 0 0]) 3 40 Tryz.underlying22 hi hz0 hz1 hz2 rfl (by decide) (.slice va vn vc) q (flat3 t) rfl HO5.out ⟨w1.heap.size, 0, none⟩ 1 1 [.int .i64 x1, .int .i64 y1, .slice a2 n2 m2] rfl rfl hnews (by intro u hu; simp at hu; rcases hu with rfl | rfl | rfl <;> rfl) (by decide) (by unfold maxLen; omega) (by omega) (by simp; omega) (w1.heap.size + 1) (by simp) ?_; intro g cap w6 ho6 hg6 hat hlt6; have q0 := hg6.cell J.out.1 (HN.out w.heap.size (by omega)); have q1 := hg6.cell J.out.2.1 (HN.out (w.heap.size + 1) (by omega)); have q2 := hg6.cell J.out.2.2.1 (HN.out (w.heap.size + 1 + 1) (by omega)); have qf1 := (hg6.frozen_far ⟨w.heap.size + 1, 0, none⟩ (lt_of_cell J.out.2.1) (HN.out (w.heap.size + 1) (by omega))).trans J.out.2.2.2.1; have qf2 := (hg6.frozen_far ⟨w.heap.size + 1 + 1, 0, none⟩ (lt_of_cell J.out.2.2.1) (HN.out (w.heap.size + 1 + 1) (by omega))).trans J.out.2.2.2.2; have P := hid (And.intro ho6 (And.intro hg6 hlt6)); clear ho6 hg6 hat hlt6)))
      go_roundw
      case rel =>
        obtain ⟨p1, p2, p3⟩ := P.out
        refine ⟨q + 1, by omega, by go_num, cell_set_far q0 (by simp; omega), cell_set_far q1 (by simp), by simp [qf1], ⟨_, _, _, World.cell?_setCell_same _ _ _ q2, by simp [qf2], ?_⟩, ?_⟩
        · rw [take_snoc_getD (by have := L.out; omega) E1.out]
          exact (OwnFns.snoc (by decide) HL.out HT1.out HO5.out H3.out HC5.out (by rw [← L1.out]; exact R1.out) p1 p2).set _ _ (by simp)
        · exact Below.setCell (Below.grown (hb.trans (HB5.out.mono hs)) p2 (by have := HB5.out.size; omega) (fun k hk => by have := (HO5.out.lt k hk).1; omega)) (by simp; omega) _
      case measure => simp [intOf]; omega
    · go_wp2
      refine bodyPost_ret (v := .agg #[.slice va vn vc]) (by simp [results, Tryz.results7, go_sem, g1]) rfl ⟨_, rfl, ?_, ?_⟩
      · rw [List.take_of_length_le (by have := L.out; omega)] at ho
        exact ho.set _ _ (by simp)
      · exact Below.setCell hb (by simp) _

end Go.Proofs.YtaimpljkbpnigaaGreatDoor
