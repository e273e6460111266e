/- A list of api.Src: what the helpers of the statements do with it (SameSrcs, CopySrcs, SpoilSrcs). Written by flatgen.py. -/
import Derived.Test.YtfnfbebkeoilfaaGreatDoorJ9a
import Derived.Test.YtfnfbebkeoilfaaGreatDoorJ6a
namespace Go.Proofs.YtfnfbebkeoilfaaGreatDoor
open Go.RowKit
set_option linter.unusedVariables false

def laySrcs : Lay (Bool × Int) := layP layB layI
def cellsSrcs (p : Bool × Int) : List Value := [.bool p.1, .int .i64 p.2]
theorem flatSrcs : Flat laySrcs cellsSrcs := flatP flatB flatI
theorem Tryz.infoSrcs : (Tryz.prog.info? 38).map (fun i => (i.zero, i.size, i.bytes)) = some (some (.agg #[.bool false, .int .i64 0]), 2, 16) := by kernel_rfl

set_option maxHeartbeats 1000000 in
theorem sameSrcs_any (a b : Option Addr) (n c m d : Nat) (l k : List (Bool × Int)) (w : World) (h1 : Sl laySrcs 16 w a n c l) (h2 : Sl laySrcs 16 w b m d k) :
    Calls Tryz.prog 44 #[.slice a n c, .slice b m d] w fun e w' => e = .returned (.bool (decide (l = k))) ∧ Below w.heap.size w w' := by
  have hr := h1.room
  have hc := h1.cap
  have L1 := hid h1.len
  have L2 := hid h2.len
  by_cases hnm : n = m
  · subst hnm
    go_enter Tryz.func44, Tryz.ntmps44
    go_wp2
    go_loopw [5] (fun i wr => ∃ q : Nat, q ≤ n ∧ i = .int .i64 q ∧ l.take q = k.take q ∧ Below w.heap.size w wr) (fun i _ => n - (intOf i).toNat)
    case atStart => exact ⟨0, Nat.zero_le _, rfl, rfl, Below.refl _ _⟩
    case round =>
      obtain ⟨q, hq, rfl, ht, hb⟩ := hrel
      have HT := hid ht
      clear ht
      by_cases hlt : q < n
      · obtain ⟨b1, o1, ⟨x0, x1⟩, rfl, hx, r1⟩ := h1.at q hlt
        obtain ⟨b2, o2, ⟨y0, y1⟩, rfl, hy, r2⟩ := h2.at q hlt
        have c0 : wr.cell? ⟨b1, o1 + q * 2, none⟩ = some (.bool x0) := kept_cell hb r1.1
        have c1 : wr.cell? ⟨b1, o1 + q * 2 + 1, none⟩ = some (.int .i64 x1) := kept_cell hb r1.2
        have d0 : wr.cell? ⟨b2, o2 + q * 2, none⟩ = some (.bool y0) := kept_cell hb r2.1
        have d1 : wr.cell? ⟨b2, o2 + q * 2 + 1, none⟩ = some (.int .i64 y1) := kept_cell hb r2.2
        have HX := hid hx
        have HY := hid hy
        clear hx hy r1 r2
        by_cases f0 : x0 = y0
        · subst f0
          by_cases f1 : x1 = y1
          · subst f1
            go_wp2
            go_quiet (fail)
            go_wp2
            go_roundw
            case rel => exact ⟨q + 1, by omega, by go_num, take_step' HX.out HY.out HT.out, below_drewN hb _⟩
            case measure => simp [intOf]; omega
          · have f1' : (x1 == y1) = false := by simp [f1]
            clear f1
            go_wp2
            go_quiet (fail)
            go_wp2
            go_ret
            exact ⟨ret_bool (decide_eq_false (ne_at' HX.out HY.out (by intro e; cases e; simp at f1'))).symm, below_drewN hb _⟩
        · have f0' : (x0 == y0) = false := by simp [f0]
          clear f0
          go_wp2
          go_quiet (fail)
          go_wp2
          go_ret
          exact ⟨ret_bool (decide_eq_false (ne_at' HX.out HY.out (by intro e; cases e; simp at f0'))).symm, below_drewN hb _⟩
      · go_wp2
        go_ret
        exact ⟨ret_bool (decide_eq_true (by have h := HT.out; rwa [List.take_of_length_le (by have := L1.out; omega), List.take_of_length_le (by have := L2.out; omega)] at h)).symm, hb⟩
  · have hne : ((n : Int) == (m : Int)) = false := by simp; omega
    go_enter Tryz.func44, Tryz.ntmps44
    go_wp2
    go_ret
    exact ⟨ret_bool (decide_eq_false (fun e => hnm (by rw [L1.out, L2.out, e]))).symm, Below.refl _ _⟩

set_option maxHeartbeats 400000 in
theorem copySrcs_any (a : Option Addr) (n c : Nat) (l : List (Bool × Int)) (w : World) (h : Sl laySrcs 16 w a n c l) :
    Calls Tryz.prog 16 #[.slice a n c] w fun e w' => ∃ v, e = .returned v ∧ OSl laySrcs 38 16 w' (fun b => w.heap.size ≤ b) v l ∧ Below w.heap.size w w' := by
  obtain ⟨i0, hi, hz0, hz1, hz2⟩ := info_parts Tryz.infoSrcs
  have hown0 : (w.alloc (.cells #[] 38)).ownsRow w.heap.size 38 2 (.slice (some ⟨w.heap.size, 0, none⟩) 0 0) 0 [] := World.ownsRow_lit w #[] 0 (Nat.le_refl _) (by simp [maxLen]) rfl
  have hlr : l.length * 16 ≤ 140737488351232 := by rw [← h.len]; exact h.room
  cases a with
  | none =>
    obtain ⟨rfl, rfl⟩ := h.nilc rfl
    have hl : l = [] := List.length_eq_zero_iff.1 h.len.symm
    subst hl
    have hrun := run_append_owned_none (P := Tryz.prog) (w := w.alloc (.cells #[] 38)) w.heap.size 39 39 38 i0 2 Tryz.underlying39 hi _ _ _ hown0
    go_enter Tryz.func16, Tryz.ntmps16
    go_wp2
    go_ret
    exact ⟨_, rfl, flatSrcs.osl hlr hown0 (fun g hg => (hown0.lt g hg).1), by go_grown⟩
  | some x =>
    have hn := h.len
    have hr := h.room
    subst hn
    have hnews : ∀ j u, (cellsOf cellsSrcs l)[j]? = some u → (w.alloc (.cells #[] 38)).cell? (x.add j) = some u := by
      intro j u hu
      have hpos : 0 < l.length := by
        cases l with
        | nil => simp [cellsOf] at hu
        | cons p r => simp
      obtain ⟨b, o, hx, hrow⟩ := h.row hpos
      cases hx
      have hc := flatSrcs.cells (by decide) hrow j u hu
      rw [show (⟨b, o, none⟩ : Addr).add j = ⟨b, o + j, none⟩ by simp [Addr.add]]
      exact kept_cell (by go_grown) hc
    go_enter Tryz.func16, Tryz.ntmps16
    go_wp2_with (at_builtin; refine wpList_append_own _ rfl _ _ 39 rfl w.heap.size 38 i0 (.agg #[.bool false, .int .i64 0]) 2 16 Tryz.underlying39 hi hz0 hz1 hz2 rfl (by decide) _ _ _ rfl hown0 x l.length c (cellsOf cellsSrcs l) rfl (flatSrcs.lenOf l) hnews (flatSrcs.one l) (by unfold maxLen; omega) (by omega) (by simp) ?_; intro v' w1 ho hg _)
    simp only [Nat.zero_add, List.nil_append] at ho
    go_ret
    exact ⟨_, rfl, flatSrcs.osl hlr ho (fun g hg => (ho.lt g hg).1), (Below.grown (Below.alloc (Below.refl _ _) (Nat.le_refl _) _) hg (by simp) (by intro k hk; cases hk; exact Nat.le_refl _))⟩

end Go.Proofs.YtfnfbebkeoilfaaGreatDoor
