/- What the copying functions of the statements (CopyInss, CopyProgram) return: the same, in memory of their own. -/
import Derived.Test.YtclpnmideableaaSame
import Derived.Deep.AppendLies
namespace Go.Proofs.Ytclpnmideableaa
open Go.RowKit
set_option linter.unusedVariables false

theorem Try.infoIns : (Try.prog.info? 50).map (fun i => (i.zero, i.size, i.bytes)) = some (some (.agg #[.int .i64 0, .int .i64 0]), 2, 16) := by kernel_rfl

set_option maxHeartbeats 400000 in
theorem copyInss_any (a : Option Addr) (n c : Nat) (l : List (Int × Int)) (w : World) (h : Inss w a n c l) :
    Calls Try.prog 20 #[.slice a n c] w fun e w' => ∃ v, e = .returned v ∧ w'.ownsRow w.heap.size 50 2 v l.length (flat2 l) ∧ Below w.heap.size w w' := by
  obtain ⟨i0, hi, hz0, hz1, hz2⟩ := info_parts Try.infoIns
  have hown0 : (w.alloc (.cells #[] 50)).ownsRow w.heap.size 50 2 (.slice (some ⟨w.heap.size, 0, none⟩) 0 0) 0 [] := World.ownsRow_lit w #[] 0 (Nat.le_refl _) (by simp [maxLen]) rfl
  cases a with
  | none =>
    obtain ⟨rfl, rfl⟩ := h.nilc rfl
    have hl : l = [] := List.length_eq_zero_iff.1 h.len.symm
    subst hl
    have hrun := run_append_owned_none (P := Try.prog) (w := w.alloc (.cells #[] 50)) w.heap.size 26 26 50 i0 2 Try.underlying26 hi _ _ _ hown0
    go_enter Try.func20, Try.ntmps20
    go_wp2
    go_ret
    exact ⟨_, rfl, hown0, by go_grown⟩
  | some x =>
    have hn := h.len
    have hr := h.room
    subst hn
    have hnews : ∀ j u, (flat2 l)[j]? = some u → (w.alloc (.cells #[] 50)).cell? (x.add j) = some u := by
      intro j u hu
      have hpos : 0 < l.length := by
        cases l with
        | nil => simp [flat2] at hu
        | cons p r => simp
      obtain ⟨b, o, hx, hrow⟩ := h.row hpos
      cases hx
      have hc := flat2_cells hrow j u hu
      rw [show (⟨b, o, none⟩ : Addr).add j = ⟨b, o + j, none⟩ by simp [Addr.add]]
      exact kept_cell (by go_grown) hc
    go_enter Try.func20, Try.ntmps20
    go_wp2_with (at_builtin; refine wpList_append_own _ rfl _ _ 26 rfl w.heap.size 50 i0 (.agg #[.int .i64 0, .int .i64 0]) 2 16 Try.underlying26 hi hz0 hz1 hz2 rfl (by decide) _ _ _ rfl hown0 x l.length c (flat2 l) rfl (flat2_len l) hnews (flat2_one l) (by unfold maxLen; omega) (by omega) (by simp) ?_; intro v' w1 ho hg _)
    simp only [Nat.zero_add, List.nil_append] at ho
    go_ret
    exact ⟨_, rfl, ho, (Below.grown (Below.alloc (Below.refl _ _) (Nat.le_refl _) _) hg (by simp) (by intro k hk; cases hk; exact Nat.le_refl _))⟩

theorem Try.infoFunc : (Try.prog.info? 28).map (fun i => (i.zero, i.size, i.bytes)) = some (some (.agg #[.int .i64 0, .int .i64 0, .slice none 0 0]), 3, 40) := by kernel_rfl

end Go.Proofs.Ytclpnmideableaa
