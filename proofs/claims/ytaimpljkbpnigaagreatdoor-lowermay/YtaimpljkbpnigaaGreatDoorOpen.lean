/- A program that came in as an argument, read as its list of functions. -/
import Derived.Test.YtaimpljkbpnigaaGreatDoorRows
import Derived.Test.YtaimpljkbpnigaaGreatDoorMem
import Derived.ProofKit
import Derived.Deep.SlicePairs
import Derived.Deep.Strs
import Derived.SizedLaws
namespace Go.Proofs.YtaimpljkbpnigaaGreatDoor
open Go.ChangeShapes Go.WideShapes Go.ChangeAt Go.RowKit Go.Deep
set_option linter.unusedVariables false
set_option maxRecDepth 100000

theorem addr_plain {w : World} {a : Addr} {i : Nat} {v : Value} (h : w.cell? (a.add 0) = some v) : ∃ b o, a = ⟨b, o, none⟩ := by
  obtain ⟨b, off, spot⟩ := a
  have hspot : spot = none := by simpa [Addr.add] using World.cell?_spot h
  subst hspot
  exact ⟨b, off, rfl⟩

theorem add_at (b o j : Nat) : (⟨b, o, none⟩ : Addr).add j = ⟨b, o + j, none⟩ := by unfold Addr.add; split <;> simp_all

theorem Tryz.bytesIns : Tryz.prog.bytesOf 47 = 16 := by kernel_rfl
theorem Tryz.cellsIns : Tryz.prog.cellsOf 47 = 2 := by kernel_rfl
theorem Tryz.cellsInt : Tryz.prog.cellsOf 3 = 1 := by kernel_rfl

theorem open_inss {H : Type} {enc : TypeId × Value → H} {w : World} {spare : Nat → Bool} {held : Bool} {fuel : Nat} {cs : List Value} {x : DataW H × List MemPlace}
    (h : DataW.trod enc Tryz.prog w 0 spare held fuel 48 cs = some x) (hsz : ∀ k ∈ x.1.weights Tryz.prog 48, k ≤ reachBytes) :
    ∃ a n c l, cs = [.slice a n c] ∧ Inss w a n c l := by
  rcases open_slice_pairs Tryz.underlying48 Tryz.underlying47 Tryz.cellsIns rfl rfl Tryz.cellsInt Tryz.cellsInt h with ⟨rfl, rfl⟩ | ⟨a, len, cap, m, n, V0, V1, D0, D1, P0, P1, rfl, hb, hl, hm, hmm, rfl, hx⟩
  · exact ⟨none, 0, 0, [], rfl, rfl, Nat.le_refl _, by omega, fun _ => ⟨rfl, rfl⟩, fun h => absurd h (by omega)⟩
  · have hlm : len ≤ m := by rw [hmm]; split <;> omega
    have each : ∀ i, i < m → ∃ p : Int × Int, w.cell? (a.add (i * 2)) = some (.int .i64 p.1) ∧ w.cell? (a.add (i * 2 + 1)) = some (.int .i64 p.2) := by
      intro i hi
      obtain ⟨c0, c1, t0, t1⟩ := hx i hi
      obtain ⟨x0, e0, _, _⟩ := DataW.trod_int Tryz.underlying3 t0
      obtain ⟨x1, e1, _, _⟩ := DataW.trod_int Tryz.underlying3 t1
      simp at e0 e1
      rw [e0] at c0
      rw [e1] at c1
      exact ⟨(x0, x1), c0, c1⟩
    obtain ⟨f, hf⟩ := choose_lt each
    have hsize : (len + (m - len)) * 16 ≤ reachBytes := by
      have := hsz ((len + (m - len)) * 16) (by simp [DataW.weights, Tryz.underlying48, Tryz.bytesIns])
      exact this
    refine ⟨some a, len, cap, (List.range len).map f, rfl, by simp, hl, by unfold reachBytes at hsize; omega, fun h => (by cases h), fun hn => ?_⟩
    obtain ⟨b, o, rfl⟩ := addr_plain (i := 0) (by simpa using (hf 0 (by omega)).1)
    refine ⟨b, o, rfl, fun i hi => ?_⟩
    simp at hi
    have h1 := hf i (by omega)
    rw [add_at, add_at] at h1
    simp [List.getD_eq_getElem?_getD, hi]
    exact ⟨h1.1, by rw [Nat.add_assoc]; exact h1.2⟩

theorem Tryz.bytesFunc : Tryz.prog.bytesOf 51 = 40 := by kernel_rfl
theorem Tryz.cellsFunc : Tryz.prog.cellsOf 51 = 3 := by kernel_rfl
theorem Tryz.cellsInss : Tryz.prog.cellsOf 48 = 1 := by kernel_rfl

theorem weights_all {H : Type} {P : Program} {e : TypeId} : ∀ {l : List (DataW H)} {d : DataW H}, d ∈ l → ∀ k ∈ d.weights P e, k ∈ DataW.weightsAll P e l
  | [], _, h, _, _ => by cases h
  | x :: r, d, h, k, hk => by
    simp only [DataW.weightsAll, List.mem_append]
    rcases List.mem_cons.1 h with rfl | h
    · exact .inl hk
    · exact .inr (weights_all h k hk)

theorem open_fns {H : Type} {enc : TypeId × Value → H} {w : World} {spare : Nat → Bool} {held : Bool} {fuel : Nat} {cs : List Value} {x : DataW H × List MemPlace}
    (h : DataW.trod enc Tryz.prog w 0 spare held fuel 22 cs = some x) (hsz : ∀ k ∈ x.1.weights Tryz.prog 22, k ≤ reachBytes) :
    ∃ a n c l, cs = [.slice a n c] ∧ Fns w a n c l := by
  rcases open_slice Tryz.underlying22 h with ⟨rfl, rfl⟩ | ⟨a, len, cap, m, n, D, Pl, rfl, hb, hl, hm, hmm, rfl, hx⟩
  · exact ⟨none, 0, 0, [], rfl, rfl, Nat.le_refl _, by omega, fun _ => ⟨rfl, rfl⟩, fun h => absurd h (by omega)⟩
  · have hlm : len ≤ m := by rw [hmm]; split <;> omega
    have each : ∀ i, i < len → ∃ p : Fn, w.cell? (a.add (i * 3)) = some (.int .i64 p.1) ∧ w.cell? (a.add (i * 3 + 1)) = some (.int .i64 p.2.1) ∧ ∃ a' n' c', w.cell? (a.add (i * 3 + 2)) = some (.slice a' n' c') ∧ Inss w a' n' c' p.2.2 := by
      intro i hi
      obtain ⟨cs', h1, h2⟩ := hx i (by omega)
      rw [Tryz.cellsFunc] at h1
      obtain ⟨_, hlen, hcell⟩ := World.cells?_some h1
      obtain ⟨y0, y1, y2, k, hxy, _, t0, t1, t2⟩ := trod_struct3 Tryz.underlying51 h2
      match cs', hlen with
      | [v0, v1, v2], _ =>
        simp [Tryz.cellsInt, Tryz.cellsInss] at t0 t1 t2
        obtain ⟨x0, e0, _, _⟩ := DataW.trod_int Tryz.underlying3 t0
        obtain ⟨x1, e1, _, _⟩ := DataW.trod_int Tryz.underlying3 t1
        have hw : ∀ k ∈ y2.1.weights Tryz.prog 48, k ≤ reachBytes := by
          intro k hk
          refine hsz k ?_
          have hD : D i = .agg [y0.1, y1.1, y2.1] := by simp only [Prod.mk.injEq] at hxy; exact hxy.1
          have hmem : D i ∈ (List.range len).map D := List.mem_map.2 ⟨i, List.mem_range.2 hi, rfl⟩
          have h3 : k ∈ (D i).weights Tryz.prog 51 := by
            rw [hD]
            simp [DataW.weights, Tryz.underlying51, DataW.weightsEach]
            exact .inr (.inr hk)
          simp only [DataW.weights, Tryz.underlying22, List.mem_cons, List.mem_append]
          exact .inr (.inl (weights_all hmem k h3))
        obtain ⟨a', n', c', l', e2, hi'⟩ := open_inss t2 hw
        simp at e0 e1 e2
        subst e0 e1 e2
        have q0 := hcell 0 (by omega)
        have q1 := hcell 1 (by omega)
        have q2 := hcell 2 (by omega)
        rw [add_add] at q0 q1 q2
        exact ⟨(x0, x1, l'), by simpa using q0, by simpa using q1, a', n', c', by simpa using q2, hi'⟩
    obtain ⟨f, hf⟩ := choose_lt (α := Fn) each
    have hsize : (len + (m - len)) * 40 ≤ reachBytes := by
      have := hsz ((len + (m - len)) * 40) (by simp [DataW.weights, Tryz.underlying22, Tryz.bytesFunc])
      exact this
    refine ⟨some a, len, cap, (List.range len).map f, rfl, by simp, hl, by unfold reachBytes at hsize; omega, fun h => (by cases h), fun hn => ?_⟩
    obtain ⟨b, o, rfl⟩ := addr_plain (i := 0) (by simpa using (hf 0 (by omega)).1)
    refine ⟨b, o, rfl, fun i hi => ?_⟩
    simp at hi
    obtain ⟨h1, h2, a', n', c', h3, h4⟩ := hf i (by omega)
    rw [add_at] at h1 h2 h3
    simp only [List.getD_eq_getElem?_getD, List.getElem?_map, List.getElem?_range hi, Option.map_some, Option.getD_some]
    exact ⟨h1, by rw [Nat.add_assoc]; exact h2, a', n', c', by rw [Nat.add_assoc]; exact h3, h4⟩

theorem Tryz.cellsProgram : Tryz.prog.cellsOf 24 = 1 := by kernel_rfl
theorem Tryz.cellsFuncs : Tryz.prog.cellsOf 22 = 1 := by kernel_rfl

theorem open_program {H : Type} {enc : TypeId × Value → H} {w : World} {spare : Nat → Bool} {held : Bool} {r : Reach} {b0 : Nat} {v : Value} {d : DataW H} {p : List MemPlace}
    (hv : Value.okWide Tryz.prog w r b0 24 v) (h : DataW.Trod enc Tryz.prog w 0 spare held 24 v d p) (hsz : ∀ k ∈ d.weights Tryz.prog 24, k ≤ reachBytes) :
    ∃ a n c l, v = .agg #[.slice a n c] ∧ Fns w a n c l := by
  obtain ⟨cs, rfl, hs⟩ := okWide_struct Tryz.underlying24 hv
  rw [Tryz.cellsProgram] at hs
  obtain ⟨c0, rfl⟩ : ∃ c0, cs = #[c0] := by
    obtain ⟨l⟩ := cs
    match l, hs with
    | [c0], _ => exact ⟨c0, rfl⟩
  obtain ⟨fuel, hf⟩ := h
  obtain ⟨y0, k, hxy, _, t0⟩ := trod_struct1 Tryz.underlying24 hf
  simp [Value.cells, Tryz.cellsFuncs] at t0
  simp only [Prod.mk.injEq] at hxy
  obtain ⟨a, n, c, l, e, hl⟩ := open_fns t0 (by
    intro k hk
    refine hsz k ?_
    rw [hxy.1]
    simp [DataW.weights, Tryz.underlying24, DataW.weightsEach]
    exact hk)
  simp at e
  subst e
  exact ⟨a, n, c, l, rfl, hl⟩

end Go.Proofs.YtaimpljkbpnigaaGreatDoor
