/- The document's own answer: where straight pieces of code begin (Leaders). Written by reflead10gen.py. -/
import Derived.Test.YtfnfbebkeoilfaaGreatDoorJ4
import Derived.Test.YtfnfbebkeoilfaaGreatDoorMemIr
import Derived.Test.YtfnfbebkeoilfaaGreatDoorPlainLead
import Derived.Test.YtfnfbebkeoilfaaGreatDoorWpName
import Derived.Test.YtfnfbebkeoilfaaGreatDoorJ6b
import Derived.Deep.DeepCutAuto
namespace Go.Proofs.YtfnfbebkeoilfaaGreatDoor
open Go.RowKit
set_option linter.unusedVariables false

theorem setB_put {bs : List Bool} {i : Nat} (h : i < bs.length) : setB bs (i : Int) = bs.set i true := by
  unfold setB; rw [if_pos (by simp [inB, h])]; simp
theorem setB_stay {bs : List Bool} {a : Int} (h : a < 0 ∨ (bs.length : Int) ≤ a) : setB bs a = bs := by
  unfold setB; rw [if_neg (by simp [inB]; omega)]
/-- The marks ahead of round q: none ahead of the first one. -/
def leadR (code : List IrT) (q : Nat) : List Bool := if q = 0 then List.replicate code.length false else irLeadN code q
theorem leadR_succ {code : List IrT} {q : Nat} : leadR code (q + 1) = irLeadN code (q + 1) := rfl
theorem leadR_pos {code : List IrT} {q : Nat} (h : ¬ q = 0) : leadR code q = irLeadN code q := if_neg h

set_option maxRecDepth 100000 in
set_option maxHeartbeats 8000000 in
theorem refIrLeaders_any (ca : Option Addr) (cn cc : Nat) (ma : Option Addr) (mn mc : Nat) (cl : List IrT) (cf rg : Int) (w : World) (h : Sl layIr 88 w ca cn cc cl) :
    Calls Tryz.prog 11 #[.agg #[.int .i64 cf, .int .i64 rg, .slice ca cn cc, .slice ma mn mc]] w fun e w' => ∃ v, e = .returned v ∧ w'.ownsRow w.heap.size 4 1 v (irLeads cl).length (bools (irLeads cl)) ∧ Below w.heap.size w w' := by
  have L := hid h.len
  have hcp := h.cap
  have hr := h.room
  have hmk := run_make_row' (P := Tryz.prog) 32 4 (.bool false) 1 Tryz.underlying32 Tryz.infoBool rfl .i64 .i64 cn (by omega) (by omega)
  have HI := hid h
  clear h
  have st0 := MarkSt.make (w.alloc (.cells #[.int .i64 cf, .int .i64 rg, .slice ca cn cc, .slice ma mn mc] 28)) cn w.heap.size (by simp) (by unfold maxLen; omega)
  rw [World.size_alloc] at st0
  have ST0 := hid st0
  clear st0
  go_enter Tryz.func11, Tryz.ntmps11
  go_wp2_with fail
  go_loopw [4] (fun i wr => ∃ q : Nat, q ≤ cn ∧ i = .int .i64 q ∧ wr.cell? ⟨w.heap.size, 2, none⟩ = some (.slice ca cn cc) ∧ MarkSt wr (w.heap.size + 1) cn w.heap.size (leadR cl q) ∧ Below w.heap.size w wr) (fun i _ => cn - (intOf i).toNat)
  case atStart => exact ⟨0, Nat.zero_le _, rfl, by simp [go_sem], by rw [show leadR cl 0 = List.replicate cn false by rw [L.out]; rfl]; exact ST0.out, by go_grown⟩
  case round =>
    clear hmk ST0
    obtain ⟨q, hq, rfl, c2, st, hb⟩ := hrel
    by_cases hlt : q < cn
    · obtain ⟨b, o, kd, r, ra, rb, k, xa, xn, xc, args, cost, mt, ip, rfl, hx, e0, e1, e2, e3, e4, e5, e6, e7, e8, hi⟩ := ir_at (HI.out.kept hb) q hlt
      have hbold : b < w.heap.size := by
        obtain ⟨b', o', eq', hr'⟩ := HI.out.row (by omega)
        cases eq'
        exact lt_of_cell (hr' q _ hx).1
      have EX := hid (irLeadN_next hx)
      have hzs := st.lt
      have hwb := hb.size
      have z0 : (0 : Int) < (cn : Int) := by omega
      clear hx hi e1 e2 e3 e5 e6 e7 e8
      by_cases hq0 : q = 0
      · have hq0' : ((q : Int) == 0) = true := by simp; omega
        have s1 := st.at 0 (by omega)
        have s2 := st.free 0
        have ST : Hid (MarkSt (wr.setCell ⟨w.heap.size + 1, 0, none⟩ (.bool true)) (w.heap.size + 1) cn w.heap.size (irLeadN cl q)) := hid (by
          have := st.put 0
          rw [hq0] at this ⊢
          rw [show irLeadN cl 0 = (leadR cl 0).set 0 true by
            show setB (List.replicate cl.length false) ((0 : Nat) : Int) = _
            rw [setB_put (by rw [List.length_replicate, ← L.out]; omega)]; rfl]
          exact this)
        have C2 : Hid ((wr.setCell ⟨w.heap.size + 1, 0, none⟩ (.bool true)).cell? ⟨w.heap.size, 2, none⟩ = some (.slice (some ⟨b, o, none⟩) cn cc)) := hid (cell_set_far c2 (by simp))
        have BU : Hid (Below w.heap.size w (wr.setCell ⟨w.heap.size + 1, 0, none⟩ (.bool true))) := hid (Below.setCell hb (by simp) _)
        have E0 := hid e0
        have E4 := hid e4
        clear st hq0
        go_upto_region 8 with fail
        refine wp_world (U := wr.setCell ⟨w.heap.size + 1, 0, none⟩ (.bool true)) rfl ?_
        generalize hU : wr.setCell ⟨w.heap.size + 1, 0, none⟩ (.bool true) = U at ST C2 BU
        have e0' : U.cell? ⟨b, o + q * 9, none⟩ = some (.int .i64 kd) := by rw [← hU]; exact cell_set_far e0 (by simp; omega)
        have e4' : U.cell? ⟨b, o + q * 9 + 4, none⟩ = some (.int .i64 k) := by rw [← hU]; exact cell_set_far e4 (by simp; omega)
        have c2' := C2.out
        have hzu := ST.out.lt
        clear hU s1 s2 e0 e4 c2 hb E0 E4
        by_cases h4 : kd = 4
        · have hkd := hid h4
          have h4' : (kd == 4) = true := by simpa using h4
          clear h4
          by_cases g1 : 0 ≤ k
          rotate_left
          · have g1' : decide (0 ≤ k) = false := by simpa using g1
            have EQ : Hid (irLead (irLeadN cl q) (kd, r, ra, rb, k, args, cost, mt, ip) q = setB (irLeadN cl q) ((q : Int) + 1)) := hid (by rw [irLead_jump (by simp [hkd.out])]; show setB (setB (irLeadN cl q) k) _ = _; rw [setB_stay (a := k) (.inl (by omega))])
            by_cases hf : q + 1 < cn
            · have t1 := (ST.out).at (q + 1) hf
              have t2 := (ST.out).free (q + 1)
              have RW : Hid (irLead (irLeadN cl q) (kd, r, ra, rb, k, args, cost, mt, ip) q = (irLeadN cl q).set (q + 1) true) := hid (by rw [EQ.out, show ((q : Int) + 1) = ((q + 1 : Nat) : Int) by omega]; exact setB_put (by rw [(ST.out).len]; exact hf))
              have hf' : decide ((q : Int) + 1 < (cn : Int)) = true := by simp; omega
              go_wp2_with fail
              go_roundw
              case rel => exact ⟨q + 1, by omega, by go_num, cell_set_far (C2.out) (by simp), by rw [leadR_succ, EX.out]; exact (by rw [RW.out]; exact (ST.out).put (q + 1)), Below.setCell (BU.out) (by simp) _⟩
              case measure => simp [intOf]; omega
            · have RW : Hid (irLead (irLeadN cl q) (kd, r, ra, rb, k, args, cost, mt, ip) q = irLeadN cl q) := hid (by rw [EQ.out]; exact setB_stay (.inr (by rw [(ST.out).len]; omega)))
              have hf' : decide ((q : Int) + 1 < (cn : Int)) = false := by simp; omega
              go_wp2_with fail
              go_roundw
              case rel => exact ⟨q + 1, by omega, by go_num, C2.out, by rw [leadR_succ, EX.out]; exact (by rw [RW.out]; exact ST.out), BU.out⟩
              case measure => simp [intOf]; omega
          by_cases g2 : k < (cn : Int)
          rotate_left
          · have g2' : decide (k < (cn : Int)) = false := by simpa using g2
            have EQ : Hid (irLead (irLeadN cl q) (kd, r, ra, rb, k, args, cost, mt, ip) q = setB (irLeadN cl q) ((q : Int) + 1)) := hid (by rw [irLead_jump (by simp [hkd.out])]; show setB (setB (irLeadN cl q) k) _ = _; rw [setB_stay (bs := irLeadN cl q) (a := k) (.inr (by rw [ST.out.len]; omega))])
            by_cases hf : q + 1 < cn
            · have t1 := (ST.out).at (q + 1) hf
              have t2 := (ST.out).free (q + 1)
              have RW : Hid (irLead (irLeadN cl q) (kd, r, ra, rb, k, args, cost, mt, ip) q = (irLeadN cl q).set (q + 1) true) := hid (by rw [EQ.out, show ((q : Int) + 1) = ((q + 1 : Nat) : Int) by omega]; exact setB_put (by rw [(ST.out).len]; exact hf))
              have hf' : decide ((q : Int) + 1 < (cn : Int)) = true := by simp; omega
              go_wp2_with fail
              go_roundw
              case rel => exact ⟨q + 1, by omega, by go_num, cell_set_far (C2.out) (by simp), by rw [leadR_succ, EX.out]; exact (by rw [RW.out]; exact (ST.out).put (q + 1)), Below.setCell (BU.out) (by simp) _⟩
              case measure => simp [intOf]; omega
            · have RW : Hid (irLead (irLeadN cl q) (kd, r, ra, rb, k, args, cost, mt, ip) q = irLeadN cl q) := hid (by rw [EQ.out]; exact setB_stay (.inr (by rw [(ST.out).len]; omega)))
              have hf' : decide ((q : Int) + 1 < (cn : Int)) = false := by simp; omega
              go_wp2_with fail
              go_roundw
              case rel => exact ⟨q + 1, by omega, by go_num, C2.out, by rw [leadR_succ, EX.out]; exact (by rw [RW.out]; exact ST.out), BU.out⟩
              case measure => simp [intOf]; omega
          obtain ⟨kN, rfl⟩ : ∃ kN : Nat, k = kN := ⟨k.toNat, by omega⟩
          have hkN : kN < cn := by omega
          have s1 := ST.out.at kN hkN
          have s2 := ST.out.free kN
          have S1 := hid (ST.out.put kN)
          have EQ : Hid (irLead (irLeadN cl q) (kd, r, ra, rb, (kN : Int), args, cost, mt, ip) q = setB ((irLeadN cl q).set kN true) ((q : Int) + 1)) := hid (by rw [irLead_jump (by simp [hkd.out])]; show setB (setB (irLeadN cl q) (kN : Int)) _ = _; rw [setB_put (bs := irLeadN cl q) (i := kN) (by rw [ST.out.len]; exact hkN)])
          by_cases hf : q + 1 < cn
          · have t1 := (S1.out).at (q + 1) hf
            have t2 := (S1.out).free (q + 1)
            have RW : Hid (irLead (irLeadN cl q) (kd, r, ra, rb, (kN : Int), args, cost, mt, ip) q = ((irLeadN cl q).set kN true).set (q + 1) true) := hid (by rw [EQ.out, show ((q : Int) + 1) = ((q + 1 : Nat) : Int) by omega]; exact setB_put (by rw [(S1.out).len]; exact hf))
            have hf' : decide ((q : Int) + 1 < (cn : Int)) = true := by simp; omega
            go_wp2_with fail
            go_roundw
            case rel => exact ⟨q + 1, by omega, by go_num, cell_set_far (cell_set_far (C2.out) (by simp)) (by simp), by rw [leadR_succ, EX.out]; exact (by rw [RW.out]; exact (S1.out).put (q + 1)), Below.setCell (Below.setCell (BU.out) (by simp) _) (by simp) _⟩
            case measure => simp [intOf]; omega
          · have RW : Hid (irLead (irLeadN cl q) (kd, r, ra, rb, (kN : Int), args, cost, mt, ip) q = (irLeadN cl q).set kN true) := hid (by rw [EQ.out]; exact setB_stay (.inr (by rw [(S1.out).len]; omega)))
            have hf' : decide ((q : Int) + 1 < (cn : Int)) = false := by simp; omega
            go_wp2_with fail
            go_roundw
            case rel => exact ⟨q + 1, by omega, by go_num, cell_set_far (C2.out) (by simp), by rw [leadR_succ, EX.out]; exact (by rw [RW.out]; exact S1.out), Below.setCell (BU.out) (by simp) _⟩
            case measure => simp [intOf]; omega
        have h4' : (kd == 4) = false := by simpa using h4
        by_cases h5 : kd = 5
        · have hkd := hid h5
          have h5' : (kd == 5) = true := by simpa using h5
          clear h5
          by_cases g1 : 0 ≤ k
          rotate_left
          · have g1' : decide (0 ≤ k) = false := by simpa using g1
            have EQ : Hid (irLead (irLeadN cl q) (kd, r, ra, rb, k, args, cost, mt, ip) q = setB (irLeadN cl q) ((q : Int) + 1)) := hid (by rw [irLead_jump (by simp [hkd.out])]; show setB (setB (irLeadN cl q) k) _ = _; rw [setB_stay (a := k) (.inl (by omega))])
            by_cases hf : q + 1 < cn
            · have t1 := (ST.out).at (q + 1) hf
              have t2 := (ST.out).free (q + 1)
              have RW : Hid (irLead (irLeadN cl q) (kd, r, ra, rb, k, args, cost, mt, ip) q = (irLeadN cl q).set (q + 1) true) := hid (by rw [EQ.out, show ((q : Int) + 1) = ((q + 1 : Nat) : Int) by omega]; exact setB_put (by rw [(ST.out).len]; exact hf))
              have hf' : decide ((q : Int) + 1 < (cn : Int)) = true := by simp; omega
              go_wp2_with fail
              go_roundw
              case rel => exact ⟨q + 1, by omega, by go_num, cell_set_far (C2.out) (by simp), by rw [leadR_succ, EX.out]; exact (by rw [RW.out]; exact (ST.out).put (q + 1)), Below.setCell (BU.out) (by simp) _⟩
              case measure => simp [intOf]; omega
            · have RW : Hid (irLead (irLeadN cl q) (kd, r, ra, rb, k, args, cost, mt, ip) q = irLeadN cl q) := hid (by rw [EQ.out]; exact setB_stay (.inr (by rw [(ST.out).len]; omega)))
              have hf' : decide ((q : Int) + 1 < (cn : Int)) = false := by simp; omega
              go_wp2_with fail
              go_roundw
              case rel => exact ⟨q + 1, by omega, by go_num, C2.out, by rw [leadR_succ, EX.out]; exact (by rw [RW.out]; exact ST.out), BU.out⟩
              case measure => simp [intOf]; omega
          by_cases g2 : k < (cn : Int)
          rotate_left
          · have g2' : decide (k < (cn : Int)) = false := by simpa using g2
            have EQ : Hid (irLead (irLeadN cl q) (kd, r, ra, rb, k, args, cost, mt, ip) q = setB (irLeadN cl q) ((q : Int) + 1)) := hid (by rw [irLead_jump (by simp [hkd.out])]; show setB (setB (irLeadN cl q) k) _ = _; rw [setB_stay (bs := irLeadN cl q) (a := k) (.inr (by rw [ST.out.len]; omega))])
            by_cases hf : q + 1 < cn
            · have t1 := (ST.out).at (q + 1) hf
              have t2 := (ST.out).free (q + 1)
              have RW : Hid (irLead (irLeadN cl q) (kd, r, ra, rb, k, args, cost, mt, ip) q = (irLeadN cl q).set (q + 1) true) := hid (by rw [EQ.out, show ((q : Int) + 1) = ((q + 1 : Nat) : Int) by omega]; exact setB_put (by rw [(ST.out).len]; exact hf))
              have hf' : decide ((q : Int) + 1 < (cn : Int)) = true := by simp; omega
              go_wp2_with fail
              go_roundw
              case rel => exact ⟨q + 1, by omega, by go_num, cell_set_far (C2.out) (by simp), by rw [leadR_succ, EX.out]; exact (by rw [RW.out]; exact (ST.out).put (q + 1)), Below.setCell (BU.out) (by simp) _⟩
              case measure => simp [intOf]; omega
            · have RW : Hid (irLead (irLeadN cl q) (kd, r, ra, rb, k, args, cost, mt, ip) q = irLeadN cl q) := hid (by rw [EQ.out]; exact setB_stay (.inr (by rw [(ST.out).len]; omega)))
              have hf' : decide ((q : Int) + 1 < (cn : Int)) = false := by simp; omega
              go_wp2_with fail
              go_roundw
              case rel => exact ⟨q + 1, by omega, by go_num, C2.out, by rw [leadR_succ, EX.out]; exact (by rw [RW.out]; exact ST.out), BU.out⟩
              case measure => simp [intOf]; omega
          obtain ⟨kN, rfl⟩ : ∃ kN : Nat, k = kN := ⟨k.toNat, by omega⟩
          have hkN : kN < cn := by omega
          have s1 := ST.out.at kN hkN
          have s2 := ST.out.free kN
          have S1 := hid (ST.out.put kN)
          have EQ : Hid (irLead (irLeadN cl q) (kd, r, ra, rb, (kN : Int), args, cost, mt, ip) q = setB ((irLeadN cl q).set kN true) ((q : Int) + 1)) := hid (by rw [irLead_jump (by simp [hkd.out])]; show setB (setB (irLeadN cl q) (kN : Int)) _ = _; rw [setB_put (bs := irLeadN cl q) (i := kN) (by rw [ST.out.len]; exact hkN)])
          by_cases hf : q + 1 < cn
          · have t1 := (S1.out).at (q + 1) hf
            have t2 := (S1.out).free (q + 1)
            have RW : Hid (irLead (irLeadN cl q) (kd, r, ra, rb, (kN : Int), args, cost, mt, ip) q = ((irLeadN cl q).set kN true).set (q + 1) true) := hid (by rw [EQ.out, show ((q : Int) + 1) = ((q + 1 : Nat) : Int) by omega]; exact setB_put (by rw [(S1.out).len]; exact hf))
            have hf' : decide ((q : Int) + 1 < (cn : Int)) = true := by simp; omega
            go_wp2_with fail
            go_roundw
            case rel => exact ⟨q + 1, by omega, by go_num, cell_set_far (cell_set_far (C2.out) (by simp)) (by simp), by rw [leadR_succ, EX.out]; exact (by rw [RW.out]; exact (S1.out).put (q + 1)), Below.setCell (Below.setCell (BU.out) (by simp) _) (by simp) _⟩
            case measure => simp [intOf]; omega
          · have RW : Hid (irLead (irLeadN cl q) (kd, r, ra, rb, (kN : Int), args, cost, mt, ip) q = (irLeadN cl q).set kN true) := hid (by rw [EQ.out]; exact setB_stay (.inr (by rw [(S1.out).len]; omega)))
            have hf' : decide ((q : Int) + 1 < (cn : Int)) = false := by simp; omega
            go_wp2_with fail
            go_roundw
            case rel => exact ⟨q + 1, by omega, by go_num, cell_set_far (C2.out) (by simp), by rw [leadR_succ, EX.out]; exact (by rw [RW.out]; exact S1.out), Below.setCell (BU.out) (by simp) _⟩
            case measure => simp [intOf]; omega
        have h5' : (kd == 5) = false := by simpa using h5
        by_cases h8 : kd = 8
        · have hkd := hid h8
          have h8' : (kd == 8) = true := by simpa using h8
          have EQ : Hid (irLead (irLeadN cl q) (kd, r, ra, rb, k, args, cost, mt, ip) q = setB (irLeadN cl q) ((q : Int) + 1)) := hid (by rw [irLead_ret (by simp [hkd.out])])
          clear h8
          by_cases hf : q + 1 < cn
          · have t1 := (ST.out).at (q + 1) hf
            have t2 := (ST.out).free (q + 1)
            have RW : Hid (irLead (irLeadN cl q) (kd, r, ra, rb, k, args, cost, mt, ip) q = (irLeadN cl q).set (q + 1) true) := hid (by rw [EQ.out, show ((q : Int) + 1) = ((q + 1 : Nat) : Int) by omega]; exact setB_put (by rw [(ST.out).len]; exact hf))
            have hf' : decide ((q : Int) + 1 < (cn : Int)) = true := by simp; omega
            go_wp2_with fail
            go_roundw
            case rel => exact ⟨q + 1, by omega, by go_num, cell_set_far (C2.out) (by simp), by rw [leadR_succ, EX.out]; exact (by rw [RW.out]; exact (ST.out).put (q + 1)), Below.setCell (BU.out) (by simp) _⟩
            case measure => simp [intOf]; omega
          · have RW : Hid (irLead (irLeadN cl q) (kd, r, ra, rb, k, args, cost, mt, ip) q = irLeadN cl q) := hid (by rw [EQ.out]; exact setB_stay (.inr (by rw [(ST.out).len]; omega)))
            have hf' : decide ((q : Int) + 1 < (cn : Int)) = false := by simp; omega
            go_wp2_with fail
            go_roundw
            case rel => exact ⟨q + 1, by omega, by go_num, C2.out, by rw [leadR_succ, EX.out]; exact (by rw [RW.out]; exact ST.out), BU.out⟩
            case measure => simp [intOf]; omega
        have h8' : (kd == 8) = false := by simpa using h8
        have RW : Hid (irLead (irLeadN cl q) (kd, r, ra, rb, k, args, cost, mt, ip) q = irLeadN cl q) := hid (irLead_no h4 h5 h8)
        clear h4 h5 h8
        go_wp2_with fail
        go_roundw
        case rel => exact ⟨q + 1, by omega, by go_num, C2.out, by rw [leadR_succ, EX.out]; exact (by rw [RW.out]; exact ST.out), BU.out⟩
        case measure => simp [intOf]; omega
      · have hq0' : ((q : Int) == 0) = false := by simp; omega
        have ST : Hid (MarkSt wr (w.heap.size + 1) cn w.heap.size (irLeadN cl q)) := hid (by rw [← leadR_pos hq0]; exact st)
        have C2 := hid c2
        have BU := hid hb
        clear st hq0
        by_cases h4 : kd = 4
        · have hkd := hid h4
          have h4' : (kd == 4) = true := by simpa using h4
          clear h4
          by_cases g1 : 0 ≤ k
          rotate_left
          · have g1' : decide (0 ≤ k) = false := by simpa using g1
            have EQ : Hid (irLead (irLeadN cl q) (kd, r, ra, rb, k, args, cost, mt, ip) q = setB (irLeadN cl q) ((q : Int) + 1)) := hid (by rw [irLead_jump (by simp [hkd.out])]; show setB (setB (irLeadN cl q) k) _ = _; rw [setB_stay (a := k) (.inl (by omega))])
            by_cases hf : q + 1 < cn
            · have t1 := (ST.out).at (q + 1) hf
              have t2 := (ST.out).free (q + 1)
              have RW : Hid (irLead (irLeadN cl q) (kd, r, ra, rb, k, args, cost, mt, ip) q = (irLeadN cl q).set (q + 1) true) := hid (by rw [EQ.out, show ((q : Int) + 1) = ((q + 1 : Nat) : Int) by omega]; exact setB_put (by rw [(ST.out).len]; exact hf))
              have hf' : decide ((q : Int) + 1 < (cn : Int)) = true := by simp; omega
              go_wp2_with fail
              go_roundw
              case rel => exact ⟨q + 1, by omega, by go_num, cell_set_far (C2.out) (by simp), by rw [leadR_succ, EX.out]; exact (by rw [RW.out]; exact (ST.out).put (q + 1)), Below.setCell (BU.out) (by simp) _⟩
              case measure => simp [intOf]; omega
            · have RW : Hid (irLead (irLeadN cl q) (kd, r, ra, rb, k, args, cost, mt, ip) q = irLeadN cl q) := hid (by rw [EQ.out]; exact setB_stay (.inr (by rw [(ST.out).len]; omega)))
              have hf' : decide ((q : Int) + 1 < (cn : Int)) = false := by simp; omega
              go_wp2_with fail
              go_roundw
              case rel => exact ⟨q + 1, by omega, by go_num, C2.out, by rw [leadR_succ, EX.out]; exact (by rw [RW.out]; exact ST.out), BU.out⟩
              case measure => simp [intOf]; omega
          by_cases g2 : k < (cn : Int)
          rotate_left
          · have g2' : decide (k < (cn : Int)) = false := by simpa using g2
            have EQ : Hid (irLead (irLeadN cl q) (kd, r, ra, rb, k, args, cost, mt, ip) q = setB (irLeadN cl q) ((q : Int) + 1)) := hid (by rw [irLead_jump (by simp [hkd.out])]; show setB (setB (irLeadN cl q) k) _ = _; rw [setB_stay (bs := irLeadN cl q) (a := k) (.inr (by rw [ST.out.len]; omega))])
            by_cases hf : q + 1 < cn
            · have t1 := (ST.out).at (q + 1) hf
              have t2 := (ST.out).free (q + 1)
              have RW : Hid (irLead (irLeadN cl q) (kd, r, ra, rb, k, args, cost, mt, ip) q = (irLeadN cl q).set (q + 1) true) := hid (by rw [EQ.out, show ((q : Int) + 1) = ((q + 1 : Nat) : Int) by omega]; exact setB_put (by rw [(ST.out).len]; exact hf))
              have hf' : decide ((q : Int) + 1 < (cn : Int)) = true := by simp; omega
              go_wp2_with fail
              go_roundw
              case rel => exact ⟨q + 1, by omega, by go_num, cell_set_far (C2.out) (by simp), by rw [leadR_succ, EX.out]; exact (by rw [RW.out]; exact (ST.out).put (q + 1)), Below.setCell (BU.out) (by simp) _⟩
              case measure => simp [intOf]; omega
            · have RW : Hid (irLead (irLeadN cl q) (kd, r, ra, rb, k, args, cost, mt, ip) q = irLeadN cl q) := hid (by rw [EQ.out]; exact setB_stay (.inr (by rw [(ST.out).len]; omega)))
              have hf' : decide ((q : Int) + 1 < (cn : Int)) = false := by simp; omega
              go_wp2_with fail
              go_roundw
              case rel => exact ⟨q + 1, by omega, by go_num, C2.out, by rw [leadR_succ, EX.out]; exact (by rw [RW.out]; exact ST.out), BU.out⟩
              case measure => simp [intOf]; omega
          obtain ⟨kN, rfl⟩ : ∃ kN : Nat, k = kN := ⟨k.toNat, by omega⟩
          have hkN : kN < cn := by omega
          have s1 := ST.out.at kN hkN
          have s2 := ST.out.free kN
          have S1 := hid (ST.out.put kN)
          have EQ : Hid (irLead (irLeadN cl q) (kd, r, ra, rb, (kN : Int), args, cost, mt, ip) q = setB ((irLeadN cl q).set kN true) ((q : Int) + 1)) := hid (by rw [irLead_jump (by simp [hkd.out])]; show setB (setB (irLeadN cl q) (kN : Int)) _ = _; rw [setB_put (bs := irLeadN cl q) (i := kN) (by rw [ST.out.len]; exact hkN)])
          by_cases hf : q + 1 < cn
          · have t1 := (S1.out).at (q + 1) hf
            have t2 := (S1.out).free (q + 1)
            have RW : Hid (irLead (irLeadN cl q) (kd, r, ra, rb, (kN : Int), args, cost, mt, ip) q = ((irLeadN cl q).set kN true).set (q + 1) true) := hid (by rw [EQ.out, show ((q : Int) + 1) = ((q + 1 : Nat) : Int) by omega]; exact setB_put (by rw [(S1.out).len]; exact hf))
            have hf' : decide ((q : Int) + 1 < (cn : Int)) = true := by simp; omega
            go_wp2_with fail
            go_roundw
            case rel => exact ⟨q + 1, by omega, by go_num, cell_set_far (cell_set_far (C2.out) (by simp)) (by simp), by rw [leadR_succ, EX.out]; exact (by rw [RW.out]; exact (S1.out).put (q + 1)), Below.setCell (Below.setCell (BU.out) (by simp) _) (by simp) _⟩
            case measure => simp [intOf]; omega
          · have RW : Hid (irLead (irLeadN cl q) (kd, r, ra, rb, (kN : Int), args, cost, mt, ip) q = (irLeadN cl q).set kN true) := hid (by rw [EQ.out]; exact setB_stay (.inr (by rw [(S1.out).len]; omega)))
            have hf' : decide ((q : Int) + 1 < (cn : Int)) = false := by simp; omega
            go_wp2_with fail
            go_roundw
            case rel => exact ⟨q + 1, by omega, by go_num, cell_set_far (C2.out) (by simp), by rw [leadR_succ, EX.out]; exact (by rw [RW.out]; exact S1.out), Below.setCell (BU.out) (by simp) _⟩
            case measure => simp [intOf]; omega
        have h4' : (kd == 4) = false := by simpa using h4
        by_cases h5 : kd = 5
        · have hkd := hid h5
          have h5' : (kd == 5) = true := by simpa using h5
          clear h5
          by_cases g1 : 0 ≤ k
          rotate_left
          · have g1' : decide (0 ≤ k) = false := by simpa using g1
            have EQ : Hid (irLead (irLeadN cl q) (kd, r, ra, rb, k, args, cost, mt, ip) q = setB (irLeadN cl q) ((q : Int) + 1)) := hid (by rw [irLead_jump (by simp [hkd.out])]; show setB (setB (irLeadN cl q) k) _ = _; rw [setB_stay (a := k) (.inl (by omega))])
            by_cases hf : q + 1 < cn
            · have t1 := (ST.out).at (q + 1) hf
              have t2 := (ST.out).free (q + 1)
              have RW : Hid (irLead (irLeadN cl q) (kd, r, ra, rb, k, args, cost, mt, ip) q = (irLeadN cl q).set (q + 1) true) := hid (by rw [EQ.out, show ((q : Int) + 1) = ((q + 1 : Nat) : Int) by omega]; exact setB_put (by rw [(ST.out).len]; exact hf))
              have hf' : decide ((q : Int) + 1 < (cn : Int)) = true := by simp; omega
              go_wp2_with fail
              go_roundw
              case rel => exact ⟨q + 1, by omega, by go_num, cell_set_far (C2.out) (by simp), by rw [leadR_succ, EX.out]; exact (by rw [RW.out]; exact (ST.out).put (q + 1)), Below.setCell (BU.out) (by simp) _⟩
              case measure => simp [intOf]; omega
            · have RW : Hid (irLead (irLeadN cl q) (kd, r, ra, rb, k, args, cost, mt, ip) q = irLeadN cl q) := hid (by rw [EQ.out]; exact setB_stay (.inr (by rw [(ST.out).len]; omega)))
              have hf' : decide ((q : Int) + 1 < (cn : Int)) = false := by simp; omega
              go_wp2_with fail
              go_roundw
              case rel => exact ⟨q + 1, by omega, by go_num, C2.out, by rw [leadR_succ, EX.out]; exact (by rw [RW.out]; exact ST.out), BU.out⟩
              case measure => simp [intOf]; omega
          by_cases g2 : k < (cn : Int)
          rotate_left
          · have g2' : decide (k < (cn : Int)) = false := by simpa using g2
            have EQ : Hid (irLead (irLeadN cl q) (kd, r, ra, rb, k, args, cost, mt, ip) q = setB (irLeadN cl q) ((q : Int) + 1)) := hid (by rw [irLead_jump (by simp [hkd.out])]; show setB (setB (irLeadN cl q) k) _ = _; rw [setB_stay (bs := irLeadN cl q) (a := k) (.inr (by rw [ST.out.len]; omega))])
            by_cases hf : q + 1 < cn
            · have t1 := (ST.out).at (q + 1) hf
              have t2 := (ST.out).free (q + 1)
              have RW : Hid (irLead (irLeadN cl q) (kd, r, ra, rb, k, args, cost, mt, ip) q = (irLeadN cl q).set (q + 1) true) := hid (by rw [EQ.out, show ((q : Int) + 1) = ((q + 1 : Nat) : Int) by omega]; exact setB_put (by rw [(ST.out).len]; exact hf))
              have hf' : decide ((q : Int) + 1 < (cn : Int)) = true := by simp; omega
              go_wp2_with fail
              go_roundw
              case rel => exact ⟨q + 1, by omega, by go_num, cell_set_far (C2.out) (by simp), by rw [leadR_succ, EX.out]; exact (by rw [RW.out]; exact (ST.out).put (q + 1)), Below.setCell (BU.out) (by simp) _⟩
              case measure => simp [intOf]; omega
            · have RW : Hid (irLead (irLeadN cl q) (kd, r, ra, rb, k, args, cost, mt, ip) q = irLeadN cl q) := hid (by rw [EQ.out]; exact setB_stay (.inr (by rw [(ST.out).len]; omega)))
              have hf' : decide ((q : Int) + 1 < (cn : Int)) = false := by simp; omega
              go_wp2_with fail
              go_roundw
              case rel => exact ⟨q + 1, by omega, by go_num, C2.out, by rw [leadR_succ, EX.out]; exact (by rw [RW.out]; exact ST.out), BU.out⟩
              case measure => simp [intOf]; omega
          obtain ⟨kN, rfl⟩ : ∃ kN : Nat, k = kN := ⟨k.toNat, by omega⟩
          have hkN : kN < cn := by omega
          have s1 := ST.out.at kN hkN
          have s2 := ST.out.free kN
          have S1 := hid (ST.out.put kN)
          have EQ : Hid (irLead (irLeadN cl q) (kd, r, ra, rb, (kN : Int), args, cost, mt, ip) q = setB ((irLeadN cl q).set kN true) ((q : Int) + 1)) := hid (by rw [irLead_jump (by simp [hkd.out])]; show setB (setB (irLeadN cl q) (kN : Int)) _ = _; rw [setB_put (bs := irLeadN cl q) (i := kN) (by rw [ST.out.len]; exact hkN)])
          by_cases hf : q + 1 < cn
          · have t1 := (S1.out).at (q + 1) hf
            have t2 := (S1.out).free (q + 1)
            have RW : Hid (irLead (irLeadN cl q) (kd, r, ra, rb, (kN : Int), args, cost, mt, ip) q = ((irLeadN cl q).set kN true).set (q + 1) true) := hid (by rw [EQ.out, show ((q : Int) + 1) = ((q + 1 : Nat) : Int) by omega]; exact setB_put (by rw [(S1.out).len]; exact hf))
            have hf' : decide ((q : Int) + 1 < (cn : Int)) = true := by simp; omega
            go_wp2_with fail
            go_roundw
            case rel => exact ⟨q + 1, by omega, by go_num, cell_set_far (cell_set_far (C2.out) (by simp)) (by simp), by rw [leadR_succ, EX.out]; exact (by rw [RW.out]; exact (S1.out).put (q + 1)), Below.setCell (Below.setCell (BU.out) (by simp) _) (by simp) _⟩
            case measure => simp [intOf]; omega
          · have RW : Hid (irLead (irLeadN cl q) (kd, r, ra, rb, (kN : Int), args, cost, mt, ip) q = (irLeadN cl q).set kN true) := hid (by rw [EQ.out]; exact setB_stay (.inr (by rw [(S1.out).len]; omega)))
            have hf' : decide ((q : Int) + 1 < (cn : Int)) = false := by simp; omega
            go_wp2_with fail
            go_roundw
            case rel => exact ⟨q + 1, by omega, by go_num, cell_set_far (C2.out) (by simp), by rw [leadR_succ, EX.out]; exact (by rw [RW.out]; exact S1.out), Below.setCell (BU.out) (by simp) _⟩
            case measure => simp [intOf]; omega
        have h5' : (kd == 5) = false := by simpa using h5
        by_cases h8 : kd = 8
        · have hkd := hid h8
          have h8' : (kd == 8) = true := by simpa using h8
          have EQ : Hid (irLead (irLeadN cl q) (kd, r, ra, rb, k, args, cost, mt, ip) q = setB (irLeadN cl q) ((q : Int) + 1)) := hid (by rw [irLead_ret (by simp [hkd.out])])
          clear h8
          by_cases hf : q + 1 < cn
          · have t1 := (ST.out).at (q + 1) hf
            have t2 := (ST.out).free (q + 1)
            have RW : Hid (irLead (irLeadN cl q) (kd, r, ra, rb, k, args, cost, mt, ip) q = (irLeadN cl q).set (q + 1) true) := hid (by rw [EQ.out, show ((q : Int) + 1) = ((q + 1 : Nat) : Int) by omega]; exact setB_put (by rw [(ST.out).len]; exact hf))
            have hf' : decide ((q : Int) + 1 < (cn : Int)) = true := by simp; omega
            go_wp2_with fail
            go_roundw
            case rel => exact ⟨q + 1, by omega, by go_num, cell_set_far (C2.out) (by simp), by rw [leadR_succ, EX.out]; exact (by rw [RW.out]; exact (ST.out).put (q + 1)), Below.setCell (BU.out) (by simp) _⟩
            case measure => simp [intOf]; omega
          · have RW : Hid (irLead (irLeadN cl q) (kd, r, ra, rb, k, args, cost, mt, ip) q = irLeadN cl q) := hid (by rw [EQ.out]; exact setB_stay (.inr (by rw [(ST.out).len]; omega)))
            have hf' : decide ((q : Int) + 1 < (cn : Int)) = false := by simp; omega
            go_wp2_with fail
            go_roundw
            case rel => exact ⟨q + 1, by omega, by go_num, C2.out, by rw [leadR_succ, EX.out]; exact (by rw [RW.out]; exact ST.out), BU.out⟩
            case measure => simp [intOf]; omega
        have h8' : (kd == 8) = false := by simpa using h8
        have RW : Hid (irLead (irLeadN cl q) (kd, r, ra, rb, k, args, cost, mt, ip) q = irLeadN cl q) := hid (irLead_no h4 h5 h8)
        clear h4 h5 h8
        go_wp2_with fail
        go_roundw
        case rel => exact ⟨q + 1, by omega, by go_num, C2.out, by rw [leadR_succ, EX.out]; exact (by rw [RW.out]; exact ST.out), BU.out⟩
        case measure => simp [intOf]; omega
    · have hqn : q = cn := by omega
      subst hqn
      have st' : MarkSt wr (w.heap.size + 1) q w.heap.size (irLeads cl) := by
        by_cases hq0 : q = 0
        · have : leadR cl q = irLeads cl := by
            have hl : cl = [] := List.length_eq_zero_iff.1 (by rw [← L.out]; exact hq0)
            rw [hl, hq0]; rfl
          rw [← this]; exact st
        · rw [irLeads, ← L.out, ← leadR_pos hq0]; exact st
      have LR : Hid ((irLeads cl).length = q) := hid st'.len
      have ROW := hid st'.row
      clear st st'
      go_wp2_with fail
      go_ret
      exact ⟨_, rfl, by rw [LR.out]; exact ROW.out, hb⟩

end Go.Proofs.YtfnfbebkeoilfaaGreatDoor
