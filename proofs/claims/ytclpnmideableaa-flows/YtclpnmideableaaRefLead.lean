/- What the document's own Leaders returns. -/
import Derived.Test.YtclpnmideableaaFlowC
import Derived.Test.YtclpnmideableaaRefNext
namespace Go.Proofs.Ytclpnmideableaa
open Go.RowKit
set_option linter.unusedVariables false

theorem setB_in {bs : List Bool} {i : Nat} (h : i < bs.length) : setB bs (i : Int) = bs.set i true := by
  unfold setB; rw [if_pos (by simp [inB, h])]; simp
theorem setB_out {bs : List Bool} {a : Int} (h : bs.length ≤ a) : setB bs a = bs := by
  unfold setB; rw [if_neg (by simp [inB]; omega)]

set_option maxRecDepth 100000 in
set_option maxHeartbeats 4000000 in
theorem refLeaders_any (x y : Int) (a : Option Addr) (n c : Nat) (l : List (Int × Int)) (w : World) (h : Inss w a n c l) :
    Calls Try.prog 12 #[.agg #[.int .i64 x, .int .i64 y, .slice a n c]] w fun e w' => ∃ v, e = .returned (.tuple #[v, .int .i64 (cE l)]) ∧ w'.ownsRow w.heap.size 4 1 v (leadL l).length (bools (leadL l)) ∧ Below w.heap.size w w' := by
  have L := hid h.len
  have hcp := h.cap
  cases hc : codeB l
  · rw [show cE l = 400 by simp [cE, hc], show leadL l = [] by simp [leadL, hc]]
    go_enter Try.func12, Try.ntmps12
    go_wp2_with fail
    refine (refFuncMay_any _ _ _ _ _ l _ (h.kept (by go_grown))).mono ?_
    rintro e w1 ⟨rfl, hb⟩
    have B : Hid (Below w.heap.size w w1) := hid (kt (by go_grown) hb)
    clear hb
    go_wp2_with fail
    go_ret2
    exact ⟨_, rfl, World.ownsRow_nil _ _ _ _, B.out⟩
  · have hlen : 1 ≤ n ∧ n ≤ 64 := by rw [L.out]; simp [codeB] at hc; exact hc.1
    rw [show cE l = 0 by simp [cE, hc], show leadL l = leadSt l l.length by simp [leadL, hc]]
    have hmk := run_make_row' (P := Try.prog) 37 4 (.bool false) 1 Try.underlying37 Try.infoBool rfl .i64 .i64 n (by omega) (by omega)
    have HC := hid hc
    go_enter Try.func12, Try.ntmps12
    go_wp2_with fail
    refine (refFuncMay_any _ _ _ _ _ l _ (h.kept (by go_grown))).mono ?_
    rintro e w1 ⟨rfl, hb⟩
    have B : Hid (Below w.heap.size w w1) := hid (kt (by go_grown) hb)
    have d := kept_cell hb (b := w.heap.size) (o := 2) (v := .slice a n c) (by simp [go_sem])
    have hs : w.heap.size < w1.heap.size := by have := hb.size; simp at this; omega
    clear hb
    have st0 := MarkSt.make w1 n w.heap.size (by omega) (by unfold maxLen; omega)
    have c0 := st0.at 0 (by omega)
    have f0 := st0.free 0
    have S0 : Hid (MarkSt ((w1.alloc (.cells (madeCells #[.bool false] n) 4)).setCell ⟨w1.heap.size, 0, none⟩ (.bool true)) w1.heap.size n w.heap.size (leadSt l 0)) := hid (by
      have := st0.put 0
      rw [show leadSt l 0 = (List.replicate n false).set 0 true by rw [L.out]; exact setB_in (i := 0) (by rw [List.length_replicate, ← L.out]; omega)]
      exact this)
    have D0 : Hid (((w1.alloc (.cells (madeCells #[.bool false] n) 4)).setCell ⟨w1.heap.size, 0, none⟩ (.bool true)).cell? ⟨w.heap.size, 2, none⟩ = some (.slice a n c)) := hid (cell_set_far (kept_cell (by go_grown) d) (by simp; omega))
    have B0 : Hid (Below w.heap.size w ((w1.alloc (.cells (madeCells #[.bool false] n) 4)).setCell ⟨w1.heap.size, 0, none⟩ (.bool true))) := hid (Below.setCell (kt B.out (by go_grown)) (by simp; omega) _)
    have hi := hid h
    have hr := h.room
    clear h st0
    go_wp2_with fail
    go_loopw [5] (fun i wr => ∃ q : Nat, q ≤ n ∧ i = .int .i64 q ∧ wr.cell? ⟨w.heap.size, 2, none⟩ = some (.slice a n c) ∧ MarkSt wr w1.heap.size n w.heap.size (leadSt l q) ∧ Below w.heap.size w wr) (fun i _ => n - (intOf i).toNat)
    case atStart =>
      have EQ : (w1.alloc (.cells (madeCells #[.bool false] n) 4)).setCell ⟨w1.heap.size, 0, none⟩ (.bool true) = w1.alloc (.cells ((madeCells #[.bool false] n).setIfInBounds 0 (.bool true)) 4) := by simp [go_sem]
      rw [← EQ]
      exact ⟨0, Nat.zero_le _, rfl, D0.out, S0.out, B0.out⟩
    case round =>
      clear D0 S0 B0 c0 f0 d hmk
      obtain ⟨q, hq, rfl, dF, st, hb⟩ := hrel
      by_cases hlt : q < n
      · obtain ⟨b1, o1, k, A, rfl, e1, c1, c2⟩ := (hi.out.kept hb).at q hlt
        have E1 := hid (leadSt_succ e1)
        have A0 := hid (br_nonneg HC.out (by have := L.out; omega) e1)
        have hA63 : Hid (k = 12 ∨ k = 13 → 0 ≤ A) := A0
        have hzs := st.lt
        have hlb := lt_of_cell c1
        have hbold : b1 < w.heap.size := by
          obtain ⟨b', o', e', hr'⟩ := hi.out.row (by omega)
          cases e'
          exact lt_of_cell (hr' 0 (by have := L.out; omega)).1
        have ST := hid st
        have SL : Hid ((leadSt l q).length = n) := hid st.len
        clear e1
        have hq1 : Hid (∀ u bs, MarkSt u w1.heap.size n w.heap.size bs → q + 1 < n → u.cell? ⟨w1.heap.size, q + 1, none⟩ = some (.bool (bs.getD (q + 1) false)) ∧ u.frozen? ⟨w1.heap.size, q + 1, none⟩ = false) := hid (fun u bs hm hl => ⟨hm.at _ hl, hm.free _⟩)
        by_cases k16 : k = 16
        · subst k16
          by_cases hf : q + 1 < n
          · obtain ⟨t1, t2⟩ := hq1.out _ _ st hf
            clear st
            go_wp2_with fail
            go_roundw
            case rel => exact ⟨q + 1, by omega, by go_num, cell_set_far dF (by simp; omega), by rw [E1.out, leadStep_ret, show ((q : Int) + 1) = ((q + 1 : Nat) : Int) by omega, setB_in (by rw [SL.out]; exact hf)]; exact ST.out.put (q + 1), Below.setCell hb (by simp; omega) _⟩
            case measure => simp [intOf]; omega
          · clear st
            go_wp2_with fail
            go_roundw
            case rel => exact ⟨q + 1, by omega, by go_num, dF, by rw [E1.out, leadStep_ret, setB_out (by rw [SL.out]; omega)]; exact ST.out, hb⟩
            case measure => simp [intOf]; omega
        by_cases hbr : k = 12 ∨ k = 13
        · have hA := A0.out hbr
          have hB : isBr k = true := by simp [isBr]; omega
          obtain ⟨A', rfl⟩ : ∃ A' : Nat, A = A' := ⟨A.toNat, by omega⟩
          have S1 : Hid (MarkSt (if A' < n then wr.setCell ⟨w1.heap.size, A', none⟩ (.bool true) else wr) w1.heap.size n w.heap.size (setB (leadSt l q) A')) := hid (by
            split
            · rename_i h'; rw [setB_in (by rw [SL.out]; exact h')]; exact st.put A'
            · rename_i h'; rw [setB_out (by rw [SL.out]; omega)]; exact st)
          by_cases hAn : A' < n
          · rw [if_pos hAn] at S1
            have t3 := st.at A' hAn
            have t4 := st.free A'
            have dF1 : (wr.setCell ⟨w1.heap.size, A', none⟩ (.bool true)).cell? ⟨w.heap.size, 2, none⟩ = some (.slice (some ⟨b1, o1, none⟩) n c) := cell_set_far dF (by simp; omega)
            have hb1 : Hid (Below w.heap.size w (wr.setCell ⟨w1.heap.size, A', none⟩ (.bool true))) := hid (Below.setCell hb (by simp; omega) _)
            by_cases hf : q + 1 < n
            · obtain ⟨t1, t2⟩ := hq1.out _ _ S1.out hf
              clear st
              rcases hbr with rfl | rfl
              all_goals
                go_wp2_with fail
                go_roundw
                case rel => exact ⟨q + 1, by omega, by go_num, cell_set_far dF1 (by simp; omega), by rw [E1.out, leadStep_br rfl, show ((q : Int) + 1) = ((q + 1 : Nat) : Int) by omega, setB_in (bs := setB (leadSt l q) A') (by rw [setB_len, SL.out]; exact hf)]; exact S1.out.put (q + 1), Below.setCell hb1.out (by simp; omega) _⟩
                case measure => simp [intOf]; omega
            · clear st
              rcases hbr with rfl | rfl
              all_goals
                go_wp2_with fail
                go_roundw
                case rel => exact ⟨q + 1, by omega, by go_num, dF1, by rw [E1.out, leadStep_br rfl, setB_out (bs := setB (leadSt l q) A') (by rw [setB_len, SL.out]; omega)]; exact S1.out, hb1.out⟩
                case measure => simp [intOf]; omega
          · rw [if_neg hAn] at S1
            by_cases hf : q + 1 < n
            · obtain ⟨t1, t2⟩ := hq1.out _ _ S1.out hf
              clear st
              rcases hbr with rfl | rfl
              all_goals
                go_wp2_with fail
                go_roundw
                case rel => exact ⟨q + 1, by omega, by go_num, cell_set_far dF (by simp; omega), by rw [E1.out, leadStep_br rfl, show ((q : Int) + 1) = ((q + 1 : Nat) : Int) by omega, setB_in (bs := setB (leadSt l q) A') (by rw [setB_len, SL.out]; exact hf)]; exact S1.out.put (q + 1), Below.setCell hb (by simp; omega) _⟩
                case measure => simp [intOf]; omega
            · clear st
              rcases hbr with rfl | rfl
              all_goals
                go_wp2_with fail
                go_roundw
                case rel => exact ⟨q + 1, by omega, by go_num, dF, by rw [E1.out, leadStep_br rfl, setB_out (bs := setB (leadSt l q) A') (by rw [setB_len, SL.out]; omega)]; exact S1.out, hb⟩
                case measure => simp [intOf]; omega
        · have n12 : (k == 12) = false := by simp; omega
          have n13 : (k == 13) = false := by simp; omega
          have n16 : (k == 16) = false := by simp [k16]
          have hB : isBr k = false := by simp [isBr]; omega
          clear st
          go_wp2_with fail
          go_roundw
          case rel => exact ⟨q + 1, by omega, by go_num, dF, by rw [E1.out, leadStep_no hB k16]; exact ST.out, hb⟩
          case measure => simp [intOf]; omega
      · have hqn : q = n := by omega
        subst hqn
        have ST := hid st
        clear st
        go_wp2_with fail
        go_ret2
        refine ⟨_, rfl, ?_, hb⟩
        have := ST.out.row
        rw [L.out] at this ⊢
        rw [leadSt_len]
        exact this

end Go.Proofs.Ytclpnmideableaa
