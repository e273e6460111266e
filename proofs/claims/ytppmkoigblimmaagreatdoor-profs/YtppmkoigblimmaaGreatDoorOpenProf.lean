/- A profile that came in as an argument, read as what it holds. -/
import Derived.Test.YtppmkoigblimmaaGreatDoorOpenLay
import Derived.Test.YtppmkoigblimmaaGreatDoorJ9a
namespace Go.Proofs.YtppmkoigblimmaaGreatDoor
open Go.ChangeShapes Go.WideShapes Go.ChangeAt Go.RowKit Go.Deep
set_option linter.unusedVariables false
set_option maxRecDepth 100000

theorem opens_ap : Opens Tryz.prog layArgProfs 53 := opens_struct Tryz.underlying53 (by kernel_rfl) (opensFs_cons rfl Tryz.cellsI opens_i (opensFs_cons rfl Tryz.cellsI opens_i (opensFs_one rfl Tryz.cellsI opens_i)))
theorem opens_aps : Opens Tryz.prog (layS 53 24 layArgProfs) 49 := opens_slice Tryz.underlying49 (by kernel_rfl) (by kernel_rfl) (by decide) opens_ap
theorem Tryz.cellsSlAp : Tryz.prog.cellsOf 49 = 1 := by kernel_rfl
theorem opens_fp : Opens Tryz.prog layFp 51 := opens_struct Tryz.underlying51 (by kernel_rfl) (opensFs_cons rfl Tryz.cellsI opens_i (opensFs_cons rfl Tryz.cellsSlInt opens_ints (opensFs_cons rfl Tryz.cellsSlInt opens_ints (opensFs_one rfl Tryz.cellsSlAp opens_aps))))
theorem Tryz.cellsProf : Tryz.prog.cellsOf 27 = 1 := by kernel_rfl
theorem Tryz.cellsSlFp : Tryz.prog.cellsOf 25 = 1 := by kernel_rfl
theorem open_prof {H : Type} {enc : TypeId × Value → H} {w : World} {spare : Nat → Bool} {held : Bool} {r : Go.Reach} {b0 : Nat} {v : Value} {d : DataW H} {p : List MemPlace}
    (hv : Value.okWide Tryz.prog w r b0 27 v) (h : DataW.Trod enc Tryz.prog w 0 spare held 27 v d p) (hsz : ∀ k ∈ d.weights Tryz.prog 27, k ≤ reachBytes) :
    ∃ a n c l, v = .agg #[.slice a n c] ∧ Sl layFp 80 w a n c l := by
  obtain ⟨cs, rfl, hs⟩ := okWide_struct Tryz.underlying27 hv
  rw [Tryz.cellsProf] at hs
  obtain ⟨c0, rfl⟩ : ∃ c0, cs = #[c0] := by
    obtain ⟨l⟩ := cs
    match l, hs with
    | [c0], _ => exact ⟨c0, rfl⟩
  obtain ⟨fuel, hf⟩ := h
  obtain ⟨y0, k, hxy, _, t0⟩ := trod_struct1 Tryz.underlying27 hf
  simp [Value.cells, Tryz.cellsSlFp] at t0
  simp only [Prod.mk.injEq] at hxy
  obtain ⟨a, n, c, l, e, hl⟩ := opens_sl Tryz.underlying25 (by kernel_rfl) (by kernel_rfl) (by decide) opens_fp t0 (by
    intro k hk
    refine hsz k ?_
    rw [hxy.1]
    simp [DataW.weights, Tryz.underlying27, DataW.weightsEach]
    exact hk)
  simp at e
  subst e
  exact ⟨a, n, c, l, rfl, hl⟩

end Go.Proofs.YtppmkoigblimmaaGreatDoor
