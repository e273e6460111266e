/- A slice of integers that came in as an argument, read as its list. -/
import Derived.Test.YtppmkoigblimmaaGreatDoorOpen
import Derived.Test.YtppmkoigblimmaaGreatDoorMemInts
import Derived.ChangeSlices
namespace Go.Proofs.YtppmkoigblimmaaGreatDoor
open Go.ChangeShapes Go.WideShapes Go.ChangeAt Go.RowKit Go.Deep
set_option linter.unusedVariables false
set_option maxRecDepth 100000

theorem Tryz.bytesInt : Tryz.prog.bytesOf 3 = 8 := by kernel_rfl

theorem open_intsP {H : Type} {enc : TypeId × Value → H} {w : World} {spare : Nat → Bool} {held : Bool} {r : Reach} {b0 : Nat} {v : Value} {d : DataW H} {p : List MemPlace}
    (hv : Value.okWide Tryz.prog w r b0 28 v) (h : DataW.Trod enc Tryz.prog w 0 spare held 28 v d p) (hsz : ∀ k ∈ d.weights Tryz.prog 28, k ≤ reachBytes) :
    ∃ a n c l, v = .slice a n c ∧ Ints w a n c l := by
  obtain ⟨a, n, c, rfl⟩ := okWide_slice Tryz.underlying28 hv
  obtain ⟨fuel, hf⟩ := h
  rcases open_ints Tryz.underlying28 Tryz.underlying3 Tryz.cellsInt hf with ⟨e, hx⟩ | ⟨ad, len, cap, zs, e, hb, hl, hm, hz, hx, hc, _⟩
  · simp [Value.cells] at e
    obtain ⟨rfl, rfl, rfl⟩ := e
    exact ⟨none, 0, 0, [], rfl, rfl, Nat.le_refl _, by omega, fun _ => ⟨rfl, rfl⟩, fun h => absurd h (by omega)⟩
  · simp [Value.cells] at e
    obtain ⟨rfl, rfl, rfl⟩ := e
    simp only [Prod.mk.injEq] at hx
    have hlz : n ≤ zs.length := by rw [hz]; split <;> omega
    have hsize : zs.length * 8 ≤ reachBytes := by
      refine hsz (zs.length * 8) ?_
      rw [hx.1]
      simp only [DataW.weights, Tryz.underlying28, Tryz.bytesInt, List.mem_cons]
      left
      simp [lits]
      omega
    refine ⟨some ad, n, c, zs.take n, rfl, by simp; omega, hl, by unfold reachBytes at hsize; omega, fun h => (by cases h), fun hn => ?_⟩
    obtain ⟨b, o, rfl⟩ := addr_plain (i := 0) (by simpa using hc 0 (by omega))
    refine ⟨b, o, rfl, fun i hi => ?_⟩
    have h1 := hc i (by omega)
    rw [add_at] at h1
    rw [h1]
    simp [List.getD_eq_getElem?_getD, hi]

end Go.Proofs.YtppmkoigblimmaaGreatDoor
