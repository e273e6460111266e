/- What the rows' condition on the packages' variables gives the walks; that the program's own start meets it (the list holds a type's handle too). -/
import Derived.Test.YtaimpljkbpnigaaGreatDoorRows
import Derived.Test.YtaimpljkbpnigaaGreatDoorLdVer
import Derived.ProofKit
import Derived.LaidMore
import Derived.LaidSub
import Derived.LaidHandle
import Derived.OpenShut
import Derived.Stop.Joined
import Derived.Stop.LaidErr
import Derived.Stop.LaidTwo
import Derived.Lib.LaidTab
namespace Go.Proofs.YtaimpljkbpnigaaGreatDoor
open Go.ChangeShapes Go.WideShapes Go.ChangeAt Go.RowKit
set_option linter.unusedVariables false
set_option maxRecDepth 100000

theorem Tryz.gForm : Tryz.prog.globalNamed "swage/pack.errForm" = some 1 := by kernel_rfl
theorem Tryz.gEnd : Tryz.prog.globalNamed "swage/pack.errEnd" = some 2 := by kernel_rfl
theorem Tryz.gTy : Tryz.prog.globalNamed "errors.errorType" = some 0 := by kernel_rfl
theorem Tryz.tForm : (Tryz.prog.globals[1]?).map (·.type) = some 106 := by kernel_rfl
theorem Tryz.tEnd : (Tryz.prog.globals[2]?).map (·.type) = some 106 := by kernel_rfl
theorem Tryz.tPow : (Tryz.prog.globals[3]?).map (·.type) = some 225 := by kernel_rfl
theorem Tryz.star : "*" ++ "errors.errorString" = "*errors.errorString" := by decide
theorem Tryz.rowErr (u : TypeId) (h : Tryz.prog.typeName? 3 u = some "*errors.errorString") : u = 232 :=
  typeName_ptr_named (nm := "errors.errorString") (by rw [Tryz.star]; kernel_rfl) (by kernel_rfl) (by decide) u (by rw [Tryz.star]; exact h)
theorem Tryz.cellsErr : Tryz.prog.cellsOf 253 = 1 := by kernel_rfl
theorem Tryz.cellsStr : Tryz.prog.cellsOf 9 = 1 := by kernel_rfl
theorem Tryz.cellsU64 : Tryz.prog.cellsOf 219 = 1 := by kernel_rfl
theorem Tryz.cellsPow : Tryz.prog.cellsOf 225 = 20 := by kernel_rfl
theorem Tryz.rtCut : (Tryz.prog.cutTypes.find? (·.1 == "internal/reflectlite.rtype")).map (·.2) = some 175 := by kernel_rfl
theorem Tryz.tySize : Tryz.prog.types.size = 265 := by kernel_rfl
theorem Tryz.oneRow : ((List.range 265).filter fun t => Tryz.prog.rowNamed t [101, 114, 114, 111, 114]) = [106] := by kernel_rfl

theorem door_met (os : Os) (args : Array Value) : laidMetH Tryz.prog [("math/bits.deBruijn32tab", Rows.laid_math_bits_deBruijn32tab), ("math/bits.deBruijn64tab", Rows.laid_math_bits_deBruijn64tab), ("internal/strconv.uint64pow10", Rows.laid_internal_strconv_uint64pow10), ("errors.errorType", Rows.laid_errors_errorType), ("swage/pack.errForm", Rows.laid_swage_pack_errForm), ("swage/pack.errEnd", Rows.laid_swage_pack_errEnd)] ((World.doorLaid Tryz.prog 400 os).forCall (fun _ _ => 0) ⟨#[], args, []⟩).memory :=
  laidMetH_of_parts3 (fuel := 8) (laidMet_of_run' 8 (by kernel_rfl) (by kernel_rfl)) (by kernel_rfl) (by kernel_rfl)

theorem ty_of {W : World} (h : laidMetH Tryz.prog [("math/bits.deBruijn32tab", Rows.laid_math_bits_deBruijn32tab), ("math/bits.deBruijn64tab", Rows.laid_math_bits_deBruijn64tab), ("internal/strconv.uint64pow10", Rows.laid_internal_strconv_uint64pow10), ("errors.errorType", Rows.laid_errors_errorType), ("swage/pack.errForm", Rows.laid_swage_pack_errForm), ("swage/pack.errEnd", Rows.laid_swage_pack_errEnd)] W) : ErrTy W := by
  have h2 := (laidMetH_iff.1 h).2
  have hx : ("errors.errorType", Rows.laid_errors_errorType) ∈ ([("math/bits.deBruijn32tab", Rows.laid_math_bits_deBruijn32tab), ("math/bits.deBruijn64tab", Rows.laid_math_bits_deBruijn64tab), ("internal/strconv.uint64pow10", Rows.laid_internal_strconv_uint64pow10), ("errors.errorType", Rows.laid_errors_errorType), ("swage/pack.errForm", Rows.laid_swage_pack_errForm), ("swage/pack.errEnd", Rows.laid_swage_pack_errEnd)] : List (String × DataW Unit)).filter fun x => x.2.handleName?.isSome := by
    refine List.mem_filter.2 ⟨?_, rfl⟩
    simp
  obtain ⟨name, u, ty, e1, e2, e3, e4, e5⟩ := h2 _ hx
  have en : name = [101, 114, 114, 111, 114] := (Option.some.inj e1).symm
  subst en
  obtain rfl := Option.some.inj (Tryz.rtCut.symm.trans e2)
  have hm : ty ∈ (List.range 265).filter fun t => Tryz.prog.rowNamed t [101, 114, 114, 111, 114] := List.mem_filter.2 ⟨List.mem_range.2 (by rw [← Tryz.tySize]; exact e3), e4⟩
  rw [Tryz.oneRow] at hm
  obtain rfl := List.mem_singleton.1 hm
  have hh : typeHandle Tryz.prog 106 = .pointer (some ⟨6, 106, none⟩) := by kernel_rfl
  rw [hh] at e5
  have := World.var?_cell Tryz.gTy e5 0
  unfold ErrTy
  simpa using this

theorem ld_of {W : World} (h : laidMetH Tryz.prog [("math/bits.deBruijn32tab", Rows.laid_math_bits_deBruijn32tab), ("math/bits.deBruijn64tab", Rows.laid_math_bits_deBruijn64tab), ("internal/strconv.uint64pow10", Rows.laid_internal_strconv_uint64pow10), ("errors.errorType", Rows.laid_errors_errorType), ("swage/pack.errForm", Rows.laid_swage_pack_errForm), ("swage/pack.errEnd", Rows.laid_swage_pack_errEnd)] W) : Ld W := by
  refine ⟨?_, ty_of h⟩
  have h1 := (laidMetH_iff.1 h).1
  rw [show ([("math/bits.deBruijn32tab", Rows.laid_math_bits_deBruijn32tab), ("math/bits.deBruijn64tab", Rows.laid_math_bits_deBruijn64tab), ("internal/strconv.uint64pow10", Rows.laid_internal_strconv_uint64pow10), ("errors.errorType", Rows.laid_errors_errorType), ("swage/pack.errForm", Rows.laid_swage_pack_errForm), ("swage/pack.errEnd", Rows.laid_swage_pack_errEnd)] : List (String × DataW Unit)).filter (fun x => x.2.handleName?.isNone) = ([("math/bits.deBruijn32tab", Rows.laid_math_bits_deBruijn32tab), ("math/bits.deBruijn64tab", Rows.laid_math_bits_deBruijn64tab), ("internal/strconv.uint64pow10", Rows.laid_internal_strconv_uint64pow10), ("errors.errorType", Rows.laid_errors_errorType), ("swage/pack.errForm", Rows.laid_swage_pack_errForm), ("swage/pack.errEnd", Rows.laid_swage_pack_errEnd)] : List (String × DataW Unit)).filter (fun x => x.1 != "errors.errorType") from rfl] at h1
  have h0 : laidMet Tryz.prog [("math/bits.deBruijn32tab", Rows.laid_math_bits_deBruijn32tab), ("math/bits.deBruijn64tab", Rows.laid_math_bits_deBruijn64tab), ("internal/strconv.uint64pow10", Rows.laid_internal_strconv_uint64pow10), ("swage/pack.errForm", Rows.laid_swage_pack_errForm), ("swage/pack.errEnd", Rows.laid_swage_pack_errEnd)] W := h1
  have h3 := h0.tail.tail
  have hp : Lib.TabIs Tryz.prog W "internal/strconv.uint64pow10" .u64 Lib.pow10Tab := Lib.tabIs_of_head Tryz.gPow Tryz.tPow Tryz.underlying225 Tryz.underlying219 Tryz.cellsU64 Tryz.cellsPow h3
  obtain ⟨a0, a1, s0, s1, c0, c1, t0, t1, hv0, hv1, hc0, hs0, hz0, hc1, hs1, hz1, hne, hb0, hb1⟩ := laid_sentinels2 h3.tail Tryz.gForm Tryz.tForm Tryz.gEnd Tryz.tEnd Tryz.underlying106 Tryz.rowErr Tryz.underlying232 Tryz.underlying253 rfl rfl Tryz.underlying9 Tryz.cellsErr Tryz.cellsStr
  have f0 : W.cell? ⟨1, 0, none⟩ = some (.iface 232 (.pointer (some a0))) := by simpa using World.var?_cell Tryz.gForm hv0 0
  have f1 : W.cell? ⟨2, 0, none⟩ = some (.iface 232 (.pointer (some a1))) := by simpa using World.var?_cell Tryz.gEnd hv1 0
  have lt : ∀ {k : Nat} {o : Obj}, W.heap[k]? = some o → k < W.heap.size := by
    intro k o e
    rcases Nat.lt_or_ge k W.heap.size with h | h
    · exact h
    · rw [Array.getElem?_eq_none h] at e; cases e
  have lp : 3 < W.heap.size := by
    unfold Lib.TabIs World.var? at hp
    rw [Tryz.gPow] at hp
    simp only [Option.bind_some] at hp
    cases e : W.heap[3]? with
    | none => rw [e] at hp; cases hp
    | some o => exact lt e
  exact ⟨a0, a1, ⟨lt_of_cell f0, lt_of_cell f1, lp⟩, Nat.le_refl _, f0, f1, hne, lt hb0, lt hb1, ⟨_, _, hb0⟩, ⟨_, _, hb1⟩, hp⟩

end Go.Proofs.YtaimpljkbpnigaaGreatDoor
