/- Package ir: where straight pieces of code begin (Leaders). -/
import Derived.Test.YtfnfbebkeoilfaaGreatDoorJ4
import Derived.Test.YtfnfbebkeoilfaaGreatDoorMemIr
import Derived.Test.YtfnfbebkeoilfaaGreatDoorPlainLead
import Derived.Test.YtfnfbebkeoilfaaGreatDoorIrA
import Derived.Test.YtfnfbebkeoilfaaGreatDoorWpName
import Derived.Deep.DeepCutAuto
namespace Go.Proofs.YtfnfbebkeoilfaaGreatDoor
open Go.RowKit
set_option linter.unusedVariables false

set_option maxHeartbeats 1000000 in
theorem irMark_any (x : Int) (T g n base : Nat) (bs : List Bool) (w : World) (hT : w.cell? ⟨T, 0, none⟩ = some (.slice (some ⟨g, 0, none⟩) n n)) (hn : n ≤ 140737488351232) (st : MarkSt w g n base bs) :
    Calls Tryz.prog 23 #[.int .i64 x, .pointer (some ⟨T, 0, none⟩)] w fun e w' => e = .returned (.tuple #[]) ∧ MarkSt w' g n base (setB bs x) ∧ Frm (fun k => k = g) w w' := by
  cases hin : inB n x
  · have hd : decide (0 ≤ x ∧ x < (n : Int)) = false := hin
    go_enter Tryz.func23, Tryz.ntmps23
    go_wp2_with fail
    refine (irBelow_any _ _ _).mono ?_
    rintro e w' ⟨rfl, hw⟩
    rw [hw, hd]
    clear hw w' hd
    go_wp2_with fail
    go_end0
    exact ⟨rfl, by unfold setB; rw [st.len, hin]; exact st, Frm.refl _ _⟩
  · have hx : 0 ≤ x ∧ x < n := by simpa [inB] using hin
    have hd : decide (0 ≤ x ∧ x < (n : Int)) = true := hin
    obtain ⟨p, rfl⟩ : ∃ p : Nat, x = p := ⟨x.toNat, by omega⟩
    have hp : p < n := by omega
    have c1 := st.at p hp
    have f1 := st.free p
    have ST := hid st
    have HIN := hid hin
    clear st hin
    go_enter Tryz.func23, Tryz.ntmps23
    go_wp2_with fail
    refine (irBelow_any _ _ _).mono ?_
    rintro e w' ⟨rfl, hw⟩
    rw [hw, hd]
    clear hw w' hd
    go_wp2_with fail
    go_end0
    refine ⟨rfl, ?_, Frm.set _ rfl⟩
    unfold setB
    rw [ST.out.len, HIN.out]
    exact ST.out.put p

set_option maxRecDepth 100000 in
set_option maxHeartbeats 4000000 in
theorem irLeaders_any (ca : Option Addr) (cn cc : Nat) (ma : Option Addr) (mn mc : Nat) (cl : List IrT) (cf rg : Int) (w : World) (h : Sl layIr 88 w ca cn cc cl) :
    Calls Tryz.prog 10 #[.agg #[.int .i64 cf, .int .i64 rg, .slice ca cn cc, .slice ma mn mc]] w fun e w' => ∃ v, e = .returned v ∧ w'.ownsRow w.heap.size 4 1 v (irLeads cl).length (bools (irLeads cl)) ∧ Below w.heap.size w w' := by
  have L := hid h.len
  have hcp := h.cap
  have hr := h.room
  have HN : Hid (cn ≤ 140737488351232) := hid (by omega)
  have hmk := run_make_row' (P := Tryz.prog) 32 4 (.bool false) 1 Tryz.underlying32 Tryz.infoBool rfl .i64 .i64 cn (by omega) (by omega)
  have HI := hid h
  clear h
  have B1 : Hid (Below w.heap.size w (w.alloc (.cells #[.int .i64 cf, .int .i64 rg, .slice ca cn cc, .slice ma mn mc] 28))) := hid (by go_grown)
  go_enter Tryz.func10, Tryz.ntmps10
  go_wp2_with fail
  have hB2 := markW_below (w.alloc (.cells #[.int .i64 cf, .int .i64 rg, .slice ca cn cc, .slice ma mn mc] 28)) cn
  have dT := markW_cell (w.alloc (.cells #[.int .i64 cf, .int .i64 rg, .slice ca cn cc, .slice ma mn mc] 28)) cn
  have st0 := markW_st (w.alloc (.cells #[.int .i64 cf, .int .i64 rg, .slice ca cn cc, .slice ma mn mc] 28)) cn w.heap.size (by simp) (by unfold maxLen; omega)
  have c2 := kept_cell hB2 (show (w.alloc (.cells #[.int .i64 cf, .int .i64 rg, .slice ca cn cc, .slice ma mn mc] 28)).cell? ⟨w.heap.size, 2, none⟩ = some (.slice ca cn cc) by simp [go_sem])
  have B2 : Hid (Below w.heap.size w (markW (w.alloc (.cells #[.int .i64 cf, .int .i64 rg, .slice ca cn cc, .slice ma mn mc] 28)) cn)) := hid (kt B1.out hB2)
  rw [World.size_alloc] at dT st0
  clear hB2
  have EM : markW (w.alloc (.cells #[.int .i64 cf, .int .i64 rg, .slice ca cn cc, .slice ma mn mc] 28)) cn = ((w.alloc (.cells #[.int .i64 cf, .int .i64 rg, .slice ca cn cc, .slice ma mn mc] 28)).alloc (.cells (madeCells #[.bool false] cn) 4)).alloc (.cells #[.slice (some ⟨w.heap.size + 1, 0, none⟩) cn cn] 32) := by simp [markW]
  rw [EM] at dT st0 c2 B2
  clear EM
  refine (irMark_any 0 (w.heap.size + 1 + 1) (w.heap.size + 1) cn w.heap.size (List.replicate cn false) _ dT HN.out st0).mono ?_
  rintro e w2 ⟨rfl, st2, fr2⟩
  have e2 : setB (List.replicate cn false) 0 = irLeadN cl 0 := by rw [L.out]; rfl
  rw [e2] at st2
  have dT2 := fr2.cell dT (by omega)
  have c22 := fr2.cell c2 (by omega)
  have B3 : Hid (Below w.heap.size w w2) := hid (B2.out.trans (fr2.below (by have := B2.out.size; omega) (fun k hk => by omega)))
  have ST2 := hid st2
  have DT2 := hid dT2
  clear dT st0 fr2 e2 c2 st2 dT2
  go_wp2_with fail
  go_loopw [17] (fun i wr => ∃ q : Nat, q ≤ cn ∧ i = .int .i64 q ∧ wr.cell? ⟨w.heap.size + 1 + 1, 0, none⟩ = some (.slice (some ⟨w.heap.size + 1, 0, none⟩) cn cn) ∧ MarkSt wr (w.heap.size + 1) cn w.heap.size (irLeadN cl q) ∧ Below w.heap.size w wr) (fun i _ => cn - (intOf i).toNat)
  case atStart => exact ⟨0, Nat.zero_le _, rfl, DT2.out, ST2.out, B3.out⟩
  case round =>
    clear DT2 ST2 B3 B1 B2 c22 hmk
    obtain ⟨q, hq, rfl, dT, st, hb⟩ := hrel
    by_cases hlt : q < cn
    · obtain ⟨b, o, kd, r, ra, rb, k, xa, xn, xc, args, cost, mt, ip, rfl, hx, e0, e1, e2, e3, e4, e5, e6, e7, e8, hi⟩ := ir_at (HI.out.kept hb) q hlt
      have EX := hid (irLeadN_next hx)
      have hwT := lt_of_cell dT
      have hzs := st.lt.2
      clear hx hi
      go_upto_region 7 with fail
      refine wp_name ?_
      intro U hU
      have A : Hid (Below wr.heap.size wr U) := hid (by rw [hU]; go_grown)
      have j0 : U.cell? ⟨wr.heap.size, 0, none⟩ = some (.int .i64 kd) := by rw [hU]; simp [go_sem]
      have j4 : U.cell? ⟨wr.heap.size, 4, none⟩ = some (.int .i64 k) := by rw [hU]; simp [go_sem]
      have S0 := hid (st.kept A.out)
      have D := hid (kept_cell A.out dT)
      have B4 := hid (kt hb A.out)
      have DT := hid dT
      have ST := hid st
      have HB := hid hb
      clear hU e0 e1 e2 e3 e4 e5 e6 e7 e8 dT st hb
      by_cases h4 : kd = 4
      · subst h4
        go_wp2_with fail
        refine (irMark_any k (w.heap.size + 1 + 1) (w.heap.size + 1) cn w.heap.size _ _ D.out HN.out S0.out).mono ?_
        rintro e w3 ⟨rfl, st3, fr3⟩
        have ST3 := hid st3
        have FR3 := hid fr3
        have D3 := hid (fr3.cell D.out (by omega))
        clear st3 fr3
        go_wp2_with fail
        refine (irMark_any ((q : Int) + 1) (w.heap.size + 1 + 1) (w.heap.size + 1) cn w.heap.size _ _ D3.out HN.out ST3.out).mono ?_
        rintro e w4 ⟨rfl, st4, fr4⟩
        have ST4 := hid st4
        have FR4 := hid fr4
        have D4 := hid (fr4.cell D3.out (by omega))
        clear st4 fr4
        go_wp2_with fail
        go_roundw
        case rel => exact ⟨q + 1, by omega, by go_num, D4.out, by rw [EX.out, irLead_jump (by simp)]; exact ST4.out, (B4.out.trans (FR3.out.below (by have := B4.out.size; omega) (fun k hk => by omega))).trans (FR4.out.below (by have := B4.out.size; have := FR3.out.size; omega) (fun k hk => by omega))⟩
        case measure => simp [intOf]; omega
      · have h4' : (kd == 4) = false := by simpa using h4
        by_cases h5 : kd = 5
        · subst h5
          go_wp2_with fail
          refine (irMark_any k (w.heap.size + 1 + 1) (w.heap.size + 1) cn w.heap.size _ _ D.out HN.out S0.out).mono ?_
          rintro e w3 ⟨rfl, st3, fr3⟩
          have ST3 := hid st3
          have FR3 := hid fr3
          have D3 := hid (fr3.cell D.out (by omega))
          clear st3 fr3
          go_wp2_with fail
          refine (irMark_any ((q : Int) + 1) (w.heap.size + 1 + 1) (w.heap.size + 1) cn w.heap.size _ _ D3.out HN.out ST3.out).mono ?_
          rintro e w4 ⟨rfl, st4, fr4⟩
          have ST4 := hid st4
          have FR4 := hid fr4
          have D4 := hid (fr4.cell D3.out (by omega))
          clear st4 fr4
          go_wp2_with fail
          go_roundw
          case rel => exact ⟨q + 1, by omega, by go_num, D4.out, by rw [EX.out, irLead_jump (by simp)]; exact ST4.out, (B4.out.trans (FR3.out.below (by have := B4.out.size; omega) (fun k hk => by omega))).trans (FR4.out.below (by have := B4.out.size; have := FR3.out.size; omega) (fun k hk => by omega))⟩
          case measure => simp [intOf]; omega
        · have h5' : (kd == 5) = false := by simpa using h5
          by_cases h8 : kd = 8
          · subst h8
            go_wp2_with fail
            refine (irMark_any ((q : Int) + 1) (w.heap.size + 1 + 1) (w.heap.size + 1) cn w.heap.size _ _ D.out HN.out S0.out).mono ?_
            rintro e w3 ⟨rfl, st3, fr3⟩
            have ST3 := hid st3
            have FR3 := hid fr3
            have D3 := hid (fr3.cell D.out (by omega))
            clear st3 fr3
            go_wp2_with fail
            go_roundw
            case rel => exact ⟨q + 1, by omega, by go_num, D3.out, by rw [EX.out, irLead_ret rfl]; exact ST3.out, B4.out.trans (FR3.out.below (by have := B4.out.size; omega) (fun k hk => by omega))⟩
            case measure => simp [intOf]; omega
          · have h8' : (kd == 8) = false := by simpa using h8
            have EN : Hid (irLeadN cl (q + 1) = irLeadN cl q) := hid (by rw [EX.out, irLead_no h4 h5 h8])
            clear h4 h5 h8
            go_wp2_with fail
            go_roundw
            case rel => exact ⟨q + 1, by omega, by go_num, D.out, by rw [EN.out]; exact S0.out, B4.out⟩
            case measure => simp [intOf]; omega
    · have hqn : q = cn := by omega
      subst hqn
      go_wp2_with fail
      go_ret
      exact ⟨_, rfl, by rw [irLeads, irLeadN_len, ← L.out]; exact st.row, hb⟩

end Go.Proofs.YtfnfbebkeoilfaaGreatDoor
