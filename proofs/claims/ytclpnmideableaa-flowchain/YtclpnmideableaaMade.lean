/- Instructions that make has laid: all of them zero. -/
import Derived.Test.YtclpnmideableaaAwake4
namespace Go.Proofs.Ytclpnmideableaa
open Go.RowKit
set_option linter.unusedVariables false

theorem flat2_rep (k : Nat) : flat2 (List.replicate k ((0 : Int), (0 : Int))) = List.replicate (k * 2) (Value.int .i64 0) := by
  induction k with
  | zero => rfl
  | succ k ih => rw [List.replicate_succ, flat2, ih, show (k + 1) * 2 = k * 2 + 1 + 1 by omega, List.replicate_succ, List.replicate_succ]
theorem made_pairs (k : Nat) : (madeCells #[.int .i64 0, .int .i64 0] (k * 2)).toList = flat2 (List.replicate k (0, 0)) := by
  rw [flat2_rep]
  apply List.ext_getElem
  · simp [madeCells]
  · intro i h1 h2
    have h : i % 2 = 0 ∨ i % 2 = 1 := by omega
    rcases h with h | h <;> simp [madeCells, h]
theorem inss_made (w : World) (k : Nat) (t : TypeId) (hk : k ≤ 100000) : Inss (w.alloc (.cells (madeCells #[.int .i64 0, .int .i64 0] (k * 2)) t)) (some ⟨w.heap.size, 0, none⟩) k k (List.replicate k (0, 0)) := by
  have o := World.ownsRow_lit (base := 0) (e := t) (size := 2) w (madeCells #[.int .i64 0, .int .i64 0] (k * 2)) k (Nat.zero_le _) (by unfold maxLen; omega) (size_madeCells _ _)
  rw [made_pairs] at o
  have ol : (List.replicate k ((0 : Int), (0 : Int))).length = k := by simp
  obtain ⟨a', n', c', e', hi'⟩ := inss_of_owns (l := List.replicate k (0, 0)) (by rw [ol]; exact o) (by rw [ol]; omega)
  cases e'
  exact hi'
/-- make of n instructions, n a variable. -/
theorem make_inss (n : Nat) (hn : n ≤ 100000) (u : World) : (Instr.makeSlice 26 (.int .i64 (n : Int)) (.int .i64 (n : Int))).run Try.prog u = .ok (.slice (some ⟨u.heap.size, 0, none⟩) n n) (u.alloc (.cells (madeCells #[.int .i64 0, .int .i64 0] (n * 2)) 50)) := by
  obtain ⟨j0, hjf, hy0, hy1, hy2⟩ := info_parts Try.infoIns
  have hr := run_make (P := Try.prog) u 26 50 j0 (.agg #[.int .i64 0, .int .i64 0]) Try.underlying26 hjf hy0 .i64 .i64 (n : Int) (n : Int) (by omega) (Int.le_refl _) (by rw [hy2]; omega) (by omega)
  simp only [Int.toNat_natCast, hy1] at hr
  exact hr

end Go.Proofs.Ytclpnmideableaa
