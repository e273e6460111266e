/- A list of api.Src: what the helpers of the statements do with it (SameSrcs, CopySrcs, SpoilSrcs). Written by flatgen.py. -/
import Derived.Test.YtaimpljkbpnigaaGreatDoorJ9a
import Derived.Test.YtaimpljkbpnigaaGreatDoorJ6a
namespace Go.Proofs.YtaimpljkbpnigaaGreatDoor
open Go.RowKit
set_option linter.unusedVariables false

def laySrcs : Lay (Bool × Int) := layP layB layI
def cellsSrcs (p : Bool × Int) : List Value := [.bool p.1, .int .i64 p.2]
theorem flatSrcs : Flat laySrcs cellsSrcs := flatP flatB flatI
theorem Tryz.infoSrcs : (Tryz.prog.info? 63).map (fun i => (i.zero, i.size, i.bytes)) = some (some (.agg #[.bool false, .int .i64 0]), 2, 16) := by kernel_rfl

set_option maxHeartbeats 1000000 in
theorem sameSrcs_any (a b : Option Addr) (n c m d : Nat) (l k : List (Bool × Int)) (w : World) (h1 : Sl laySrcs 16 w a n c l) (h2 : Sl laySrcs 16 w b m d k) :
    Calls Tryz.prog 18 #[.slice a n c, .slice b m d] w fun e w' => e = .returned (.bool (decide (l = k))) ∧ Below w.heap.size w w' := by
  have hr := h1.room
  have hc := h1.cap
  have L1 := hid h1.len
  have L2 := hid h2.len
  by_cases hnm : n = m
  · subst hnm
    go_enter Tryz.func18, Tryz.ntmps18
    go_wp2
    go_loopw [5] (fun i wr => ∃ q : Nat, q ≤ n ∧ i = .int .i64 q ∧ l.take q = k.take q ∧ Below w.heap.size w wr) (fun i _ => n - (intOf i).toNat)
    case atStart => exact ⟨0, Nat.zero_le _, rfl, rfl, Below.refl _ _⟩
    case round =>
      obtain ⟨q, hq, rfl, ht, hb⟩ := hrel
      have HT := hid ht
      clear ht
      by_cases hlt : q < n
      · obtain ⟨b1, o1, ⟨x0, x1⟩, rfl, hx, r1⟩ := h1.at q hlt
        obtain ⟨b2, o2, ⟨y0, y1⟩, rfl, hy, r2⟩ := h2.at q hlt
        have c0 : wr.cell? ⟨b1, o1 + q * 2, none⟩ = some (.bool x0) := kept_cell hb r1.1
        have c1 : wr.cell? ⟨b1, o1 + q * 2 + 1, none⟩ = some (.int .i64 x1) := kept_cell hb r1.2
        have d0 : wr.cell? ⟨b2, o2 + q * 2, none⟩ = some (.bool y0) := kept_cell hb r2.1
        have d1 : wr.cell? ⟨b2, o2 + q * 2 + 1, none⟩ = some (.int .i64 y1) := kept_cell hb r2.2
        have HX := hid hx
        have HY := hid hy
        clear hx hy r1 r2
        by_cases f0 : x0 = y0
        · subst f0
          by_cases f1 : x1 = y1
          · subst f1
            go_wp2
            go_quiet (fail)
            go_wp2
            go_roundw
            case rel => exact ⟨q + 1, by omega, by go_num, take_step' HX.out HY.out HT.out, below_drewN hb _⟩
            case measure => simp [intOf]; omega
          · have f1' : (x1 == y1) = false := by simp [f1]
            clear f1
            go_wp2
            go_quiet (fail)
            go_wp2
            go_ret
            exact ⟨ret_bool (decide_eq_false (ne_at' HX.out HY.out (by intro e; cases e; simp at f1'))).symm, below_drewN hb _⟩
        · have f0' : (x0 == y0) = false := by simp [f0]
          clear f0
          go_wp2
          go_quiet (fail)
          go_wp2
          go_ret
          exact ⟨ret_bool (decide_eq_false (ne_at' HX.out HY.out (by intro e; cases e; simp at f0'))).symm, below_drewN hb _⟩
      · go_wp2
        go_ret
        exact ⟨ret_bool (decide_eq_true (by have h := HT.out; rwa [List.take_of_length_le (by have := L1.out; omega), List.take_of_length_le (by have := L2.out; omega)] at h)).symm, hb⟩
  · have hne : ((n : Int) == (m : Int)) = false := by simp; omega
    go_enter Tryz.func18, Tryz.ntmps18
    go_wp2
    go_ret
    exact ⟨ret_bool (decide_eq_false (fun e => hnm (by rw [L1.out, L2.out, e]))).symm, Below.refl _ _⟩

set_option maxHeartbeats 400000 in
theorem spoilSrcs_any (a : Option Addr) (n c base : Nat) (w : World) (h : SSl laySrcs w base a n) (hn : n * 16 ≤ 140737488351232) (hc : n ≤ c) (hB : base ≤ w.heap.size) :
    Calls Tryz.prog 31 #[.slice a n c] w fun e w' => e = .returned (.tuple #[]) ∧ Like w w' ∧ Below base w w' := by
  go_enter Tryz.func31, Tryz.ntmps31
  go_wp2
  go_loopw [2] (fun i wr => ∃ q : Nat, q ≤ n ∧ i = .int .i64 q ∧ Like w wr ∧ Below base w wr) (fun i _ => n - (intOf i).toNat)
  case atStart => exact ⟨0, Nat.zero_le _, rfl, Like.refl _, Below.refl _ _⟩
  case round =>
    obtain ⟨q, hq, rfl, hl, hb⟩ := hrel
    by_cases hlt : q < n
    · obtain ⟨b, o, rfl, hbb, hr⟩ := (h.like hl) (by omega)
      have hs := (hr q hlt).2
      obtain ⟨x, hx, hf⟩ : ∃ x, wr.cell? ⟨b, o + q * 2 + 1, none⟩ = some (.int .i64 x) ∧ wr.frozen? ⟨b, o + q * 2 + 1, none⟩ = false := hs
      have HR := hid hr
      clear hr
      go_wp2
      go_roundw
      case rel => exact ⟨q + 1, by omega, by go_num, hl.trans (Like.set hx), hb.setCell (by simpa using hbb) _⟩
      case measure => simp [intOf]; omega
    · go_wp2
      go_end0
      exact ⟨rfl, hl, hb⟩

end Go.Proofs.YtaimpljkbpnigaaGreatDoor
