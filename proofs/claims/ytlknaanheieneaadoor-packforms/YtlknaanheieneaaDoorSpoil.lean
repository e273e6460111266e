/- What the functions that write over (SpoilInss, SpoilProgram) do: they turn numbers alone, in the memory that they are handed. -/
import Derived.Test.YtlknaanheieneaaDoorCopy
namespace Go.Proofs.YtlknaanheieneaaDoor
open Go.RowKit
set_option linter.unusedVariables false

set_option maxHeartbeats 400000 in
theorem spoilInss_any (a : Option Addr) (n c base : Nat) (w : World) (h : SoftInss w base a n) (hn : n * 16 ≤ 140737488351232) (hc : n ≤ c) (hB : base ≤ w.heap.size) :
    Calls Tryd.prog 28 #[.slice a n c] w fun e w' => e = .returned (.tuple #[]) ∧ Like w w' ∧ Below base w w' := by
  go_enter Tryd.func28, Tryd.ntmps28
  go_wp2
  go_loopw [2] (fun i wr => ∃ q : Nat, q ≤ n ∧ i = .int .i64 q ∧ Like w wr ∧ Below base w wr) (fun i _ => n - (intOf i).toNat)
  case atStart => exact ⟨0, Nat.zero_le _, rfl, Like.refl _, Below.refl _ _⟩
  case round =>
    obtain ⟨q, hq, rfl, hl, hb⟩ := hrel
    by_cases hlt : q < n
    · obtain ⟨b, o, rfl, hbb, hr⟩ := (h.like hl) (by omega)
      obtain ⟨x, hx, hf⟩ := hr q hlt
      have HR := hid hr
      clear hr
      go_wp2
      go_roundw
      case rel => exact ⟨q + 1, by omega, by go_num, hl.trans (Like.set hx), hb.setCell (by simpa using hbb) _⟩
      case measure => simp [intOf]; omega
    · go_wp2
      go_end0
      exact ⟨rfl, hl, hb⟩

set_option maxHeartbeats 1000000 in
theorem spoilProgram_any (a : Option Addr) (n c base : Nat) (w : World) (h : SoftFns w base a n) (hn : n * 40 ≤ 140737488351232) (hc : n ≤ c) (hB : base ≤ w.heap.size) :
    Calls Tryd.prog 15 #[.agg #[.slice a n c]] w fun e w' => e = .returned (.tuple #[]) ∧ Like w w' ∧ Below base w w' := by
  go_enter Tryd.func15, Tryd.ntmps15
  go_wp2
  go_loopw [2] (fun i wr => ∃ q : Nat, q ≤ n ∧ i = .int .i64 q ∧ wr.cell? ⟨w.heap.size, 0, none⟩ = some (.slice a n c) ∧ Like w wr ∧ Below base w wr) (fun i _ => n - (intOf i).toNat)
  case atStart => exact ⟨0, Nat.zero_le _, rfl, by simp [go_sem], Like.of_below (by go_grown), by go_grown⟩
  case round =>
    obtain ⟨q, hq, rfl, g0, hl, hb⟩ := hrel
    by_cases hlt : q < n
    · obtain ⟨b, o, rfl, hbb, hr⟩ := (h.like hl) (by omega)
      obtain ⟨x, hx, hf, a', n', c', k1, k2, k3, k4⟩ := hr q hlt
      clear hr
      have hs := hb.size
      go_wp2_with fail
      refine (spoilInss_any _ _ _ base _ k4 k2 k3 (by omega)).mono ?_
      rintro e w1 ⟨rfl, hl1, hb1⟩
      obtain ⟨y, hy⟩ := hl1.int hx
      have hf1 := (hl1.frozen _ _ _ hx).trans hf
      have g1 := hl1.slice g0
      clear hx hf k1
      go_wp2
      go_region
      all_goals
        go_wp2
        go_roundw
        case rel => exact ⟨q + 1, by omega, by go_num, (Like.set hy).drew.slice g1, (hl.trans hl1).trans (Like.set hy).drew, ((hb.trans hb1).setCell (by simpa using hbb) _).drew⟩
        case measure => simp [intOf]; omega
    · go_wp2
      go_end0
      exact ⟨rfl, hl, hb⟩

end Go.Proofs.YtlknaanheieneaaDoor
