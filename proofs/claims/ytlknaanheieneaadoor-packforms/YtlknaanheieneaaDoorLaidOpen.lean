/- What the rows' condition on the package's variables gives the walks; that the program's own start meets it. -/
import Derived.Test.YtlknaanheieneaaDoorRows
import Derived.Test.YtlknaanheieneaaDoorPackDev
import Derived.ProofKit
import Derived.LaidMore
import Derived.OpenShut
import Derived.Stop.Joined
import Derived.Stop.LaidErr
import Derived.Stop.LaidTwo
import Derived.Lib.LaidTab
namespace Go.Proofs.YtlknaanheieneaaDoor
open Go.ChangeShapes Go.WideShapes Go.ChangeAt Go.RowKit
set_option linter.unusedVariables false
set_option maxRecDepth 100000

theorem Tryd.gForm : Tryd.prog.globalNamed "swage/pack.errForm" = some 0 := by kernel_rfl
theorem Tryd.gEnd : Tryd.prog.globalNamed "swage/pack.errEnd" = some 1 := by kernel_rfl
theorem Tryd.tForm : (Tryd.prog.globals[0]?).map (·.type) = some 55 := by kernel_rfl
theorem Tryd.tEnd : (Tryd.prog.globals[1]?).map (·.type) = some 55 := by kernel_rfl
theorem Tryd.tPow : (Tryd.prog.globals[2]?).map (·.type) = some 113 := by kernel_rfl
theorem Tryd.star : "*" ++ "errors.errorString" = "*errors.errorString" := by decide
theorem Tryd.rowErr (u : TypeId) (h : Tryd.prog.typeName? 3 u = some "*errors.errorString") : u = 119 :=
  typeName_ptr_named (nm := "errors.errorString") (by rw [Tryd.star]; kernel_rfl) (by kernel_rfl) (by decide) u (by rw [Tryd.star]; exact h)
theorem Tryd.cellsErr : Tryd.prog.cellsOf 143 = 1 := by kernel_rfl
theorem Tryd.cellsStr : Tryd.prog.cellsOf 9 = 1 := by kernel_rfl
theorem Tryd.cellsU64 : Tryd.prog.cellsOf 50 = 1 := by kernel_rfl
theorem Tryd.cellsPow : Tryd.prog.cellsOf 113 = 20 := by kernel_rfl

theorem door_met (os : Os) (args : Array Value) : laidMetH Tryd.prog [("math/bits.deBruijn32tab", Rows.laid_math_bits_deBruijn32tab), ("math/bits.deBruijn64tab", Rows.laid_math_bits_deBruijn64tab), ("internal/strconv.uint64pow10", Rows.laid_internal_strconv_uint64pow10), ("swage/pack.errForm", Rows.laid_swage_pack_errForm), ("swage/pack.errEnd", Rows.laid_swage_pack_errEnd)] ((World.doorLaid Tryd.prog 400 os).forCall (fun _ _ => 0) ⟨#[], args, []⟩).memory :=
  laidMetH_of_parts3 (fuel := 8) (laidMet_of_run' 8 (by kernel_rfl) (by kernel_rfl)) (by kernel_rfl) (by kernel_rfl)

theorem ld_of {W : World} (h : laidMetH Tryd.prog [("math/bits.deBruijn32tab", Rows.laid_math_bits_deBruijn32tab), ("math/bits.deBruijn64tab", Rows.laid_math_bits_deBruijn64tab), ("internal/strconv.uint64pow10", Rows.laid_internal_strconv_uint64pow10), ("swage/pack.errForm", Rows.laid_swage_pack_errForm), ("swage/pack.errEnd", Rows.laid_swage_pack_errEnd)] W) : Ld W := by
  rw [MakeChecks.laidMetH_plain _ _ _ (by kernel_rfl)] at h
  have h3 := h.tail.tail
  have hp : Lib.TabIs Tryd.prog W "internal/strconv.uint64pow10" .u64 Lib.pow10Tab := Lib.tabIs_of_head Tryd.gPow Tryd.tPow Tryd.underlying113 Tryd.underlying50 Tryd.cellsU64 Tryd.cellsPow h3
  obtain ⟨a0, a1, s0, s1, c0, c1, t0, t1, hv0, hv1, hc0, hs0, hz0, hc1, hs1, hz1, hne, hb0, hb1⟩ := laid_sentinels2 h3.tail Tryd.gForm Tryd.tForm Tryd.gEnd Tryd.tEnd Tryd.underlying55 Tryd.rowErr Tryd.underlying119 Tryd.underlying143 rfl rfl Tryd.underlying9 Tryd.cellsErr Tryd.cellsStr
  have f0 : W.cell? ⟨0, 0, none⟩ = some (.iface 119 (.pointer (some a0))) := by simpa using World.var?_cell Tryd.gForm hv0 0
  have f1 : W.cell? ⟨1, 0, none⟩ = some (.iface 119 (.pointer (some a1))) := by simpa using World.var?_cell Tryd.gEnd hv1 0
  have lt : ∀ {k : Nat} {o : Obj}, W.heap[k]? = some o → k < W.heap.size := by
    intro k o e
    rcases Nat.lt_or_ge k W.heap.size with h | h
    · exact h
    · rw [Array.getElem?_eq_none h] at e; cases e
  have lp : 2 < W.heap.size := by
    unfold Lib.TabIs World.var? at hp
    rw [Tryd.gPow] at hp
    simp only [Option.bind_some] at hp
    cases e : W.heap[2]? with
    | none => rw [e] at hp; cases hp
    | some o => exact lt e
  exact ⟨a0, a1, ⟨lt_of_cell f0, lt_of_cell f1, lp⟩, Nat.le_refl _, f0, f1, hne, lt hb0, lt hb1, ⟨_, _, hb0⟩, ⟨_, _, hb1⟩, hp⟩

end Go.Proofs.YtlknaanheieneaaDoor
