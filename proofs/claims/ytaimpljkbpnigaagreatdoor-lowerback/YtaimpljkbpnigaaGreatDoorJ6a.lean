/- What the helpers of the statements over frames return: SameFrames, SameState, SpoilFrames, SpoilState, CopyInts, LendInts, KeptInts. What the helpers of the statements over frames do: SpoilFrames, SpoilState, CopyInts, LendInts, KeptInts. -/
import Derived.Test.YtaimpljkbpnigaaGreatDoorMemFr
import Derived.Test.YtaimpljkbpnigaaGreatDoorLawInts
import Derived.Test.YtaimpljkbpnigaaGreatDoorRefWalk
namespace Go.Proofs.YtaimpljkbpnigaaGreatDoor
open Go.RowKit
set_option linter.unusedVariables false

def sameS (s t : St) : Bool := decide (s.2.1 = t.2.1) && (decide (s.2.2.2.1 = t.2.2.2.1) && (decide (s.2.2.2.2 = t.2.2.2.2) && (decide (s.2.2.1 = t.2.2.1) && decide (s.1 = t.1))))
theorem sameS_self (s : St) : sameS s s = true := by simp [sameS]

end Go.Proofs.YtaimpljkbpnigaaGreatDoor

namespace Go.Proofs.YtaimpljkbpnigaaGreatDoor
open Go.RowKit
set_option linter.unusedVariables false

set_option maxHeartbeats 400000 in
theorem spoilIntsS_any (a : Option Addr) (n c base : Nat) (w : World) (h : SoftInts w base a n) (hn : n * 8 ≤ 140737488351232) (hc : n ≤ c) (hB : base ≤ w.heap.size) :
    Calls Tryz.prog 30 #[.slice a n c] w fun e w' => e = .returned (.tuple #[]) ∧ Like w w' ∧ Below base w w' := by
  go_enter Tryz.func30, Tryz.ntmps30
  go_wp2
  go_loopw [2] (fun i wr => ∃ q : Nat, q ≤ n ∧ i = .int .i64 q ∧ Like w wr ∧ Below base w wr) (fun i _ => n - (intOf i).toNat)
  case atStart => exact ⟨0, Nat.zero_le _, rfl, Like.refl _, Below.refl _ _⟩
  case round =>
    obtain ⟨q, hq, rfl, hl, hb⟩ := hrel
    by_cases hlt : q < n
    · obtain ⟨b, o, rfl, hbb, hr⟩ := (h.like hl) (by omega)
      obtain ⟨x, hx, hf⟩ := hr q hlt
      have HR := hid hr
      clear hr
      go_wp2
      go_roundw
      case rel => exact ⟨q + 1, by omega, by go_num, hl.trans (Like.set hx), hb.setCell (by simpa using hbb) _⟩
      case measure => simp [intOf]; omega
    · go_wp2
      go_end0
      exact ⟨rfl, hl, hb⟩

/-- Numbers with two marked ones behind them, which the slice's length leaves out. -/
structure LentI (w : World) (base g n cap : Nat) (l : List Int) : Prop where
  len : n = l.length
  cap2 : n + 2 ≤ cap
  small : n * 8 ≤ 140737488351232
  row : w.ownsRow base 3 1 (.slice (some ⟨g, 0, none⟩) (n + 2) cap) (n + 2) (ints l ++ [.int .i64 (-7777), .int .i64 (-8888)])
theorem LentI.ints {w : World} {base g n cap : Nat} {l : List Int} (h : LentI w base g n cap l) : Ints w (some ⟨g, 0, none⟩) n cap l := by
  refine ⟨h.len, by have := h.cap2; omega, h.small, fun e => (by cases e), fun hn => ⟨g, 0, rfl, fun i hi => ?_⟩⟩
  have hl := h.len
  rw [Nat.zero_add, h.row.cellAt _ (by omega), List.getElem?_append_left (by rw [ints_len]; omega), ints_at l i (by omega)]
theorem LentI.mark0 {w : World} {base g n cap : Nat} {l : List Int} (h : LentI w base g n cap l) : w.cell? ⟨g, n, none⟩ = some (.int .i64 (-7777)) := by
  have hl := h.len
  rw [h.row.cellAt _ (by omega), List.getElem?_append_right (by rw [ints_len]; omega), ints_len, show n - l.length = 0 by omega]; rfl
theorem LentI.mark1 {w : World} {base g n cap : Nat} {l : List Int} (h : LentI w base g n cap l) : w.cell? ⟨g, n + 1, none⟩ = some (.int .i64 (-8888)) := by
  have hl := h.len
  rw [h.row.cellAt _ (by omega), List.getElem?_append_right (by rw [ints_len]; omega), ints_len, show n + 1 - l.length = 1 by omega]; rfl
theorem LentI.kept {w w' : World} {base g n cap : Nat} {l : List Int} (h : LentI w base g n cap l) (hb : Below w.heap.size w w') : LentI w' base g n cap l := ⟨h.len, h.cap2, h.small, owns_kept h.row hb⟩
theorem LentI.lt {w : World} {base g n cap : Nat} {l : List Int} (h : LentI w base g n cap l) : base ≤ g ∧ g < w.heap.size := h.row.lt g rfl

end Go.Proofs.YtaimpljkbpnigaaGreatDoor
