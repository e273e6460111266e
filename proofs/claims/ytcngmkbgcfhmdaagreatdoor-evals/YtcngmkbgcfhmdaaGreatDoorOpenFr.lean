/- A frame and a state that came in as arguments, read as what they hold. -/
import Derived.Test.YtcngmkbgcfhmdaaGreatDoorOpenInts
import Derived.Test.YtcngmkbgcfhmdaaGreatDoorMemFr
import Derived.Lib.SmallJoins
namespace Go.Proofs.YtcngmkbgcfhmdaaGreatDoor
open Go.ChangeShapes Go.WideShapes Go.ChangeAt Go.RowKit Go.Deep
set_option linter.unusedVariables false
set_option maxRecDepth 100000

theorem trod_struct5 {H : Type} {enc : TypeId × Value → H} {P : Program} {w : World} {base : Nat} {spare : Nat → Bool} {held : Bool} {t : TypeId} {f0 f1 f2 f3 f4 : Field} {fuel : Nat} {cs : List Value} {x : DataW H × List MemPlace} (ht : P.underlying t = some (.struct #[f0, f1, f2, f3, f4])) (h : DataW.trod enc P w base spare held fuel t cs = some x) :
    ∃ y0 y1 y2 y3 y4 n, x = (.agg [y0.1, y1.1, y2.1, y3.1, y4.1], y0.2 ++ (y1.2 ++ (y2.2 ++ (y3.2 ++ y4.2)))) ∧ cs.length = P.cellsOf t ∧ DataW.trod enc P w base spare held n f0.type ((cs.drop f0.offset).take (P.cellsOf f0.type)) = some y0 ∧
      DataW.trod enc P w base spare held n f1.type ((cs.drop f1.offset).take (P.cellsOf f1.type)) = some y1 ∧ DataW.trod enc P w base spare held n f2.type ((cs.drop f2.offset).take (P.cellsOf f2.type)) = some y2 ∧
      DataW.trod enc P w base spare held n f3.type ((cs.drop f3.offset).take (P.cellsOf f3.type)) = some y3 ∧ DataW.trod enc P w base spare held n f4.type ((cs.drop f4.offset).take (P.cellsOf f4.type)) = some y4 := by
  obtain ⟨xs, n, _, rfl, hl, hlen, hf⟩ := DataW.trod_struct ht h
  match xs, hlen with
  | [y0, y1, y2, y3, y4], _ => exact ⟨y0, y1, y2, y3, y4, n, by simp, hl, by simpa using hf 0 f0 rfl, by simpa using hf 1 f1 rfl, by simpa using hf 2 f2 rfl, by simpa using hf 3 f3 rfl, by simpa using hf 4 f4 rfl⟩
theorem array5 {α : Type} {cs : Array α} (h : cs.size = 5) : ∃ c0 c1 c2 c3 c4, cs = #[c0, c1, c2, c3, c4] := by
  obtain ⟨l⟩ := cs
  match l, h with
  | [c0, c1, c2, c3, c4], _ => exact ⟨c0, c1, c2, c3, c4, rfl⟩

theorem Tryz.cellsInts : Tryz.prog.cellsOf 26 = 1 := by kernel_rfl
theorem Tryz.bytesFrame : Tryz.prog.bytesOf 51 = 64 := by kernel_rfl
theorem Tryz.cellsFrame : Tryz.prog.cellsOf 51 = 4 := by kernel_rfl
theorem Tryz.cellsFrames : Tryz.prog.cellsOf 25 = 1 := by kernel_rfl
theorem Tryz.cellsState : Tryz.prog.cellsOf 28 = 5 := by kernel_rfl

theorem open_intsL {H : Type} {enc : TypeId × Value → H} {w : World} {spare : Nat → Bool} {held : Bool} {fuel : Nat} {cs : List Value} {x : DataW H × List MemPlace}
    (h : DataW.trod enc Tryz.prog w 0 spare held fuel 26 cs = some x) (hsz : ∀ k ∈ x.1.weights Tryz.prog 26, k ≤ reachBytes) :
    ∃ a n c l, cs = [.slice a n c] ∧ Ints w a n c l := by
  rcases open_ints Tryz.underlying26 Tryz.underlying3 Tryz.cellsInt h with ⟨e, hx⟩ | ⟨ad, n, c, zs, e, hb, hl, hm, hz, hx, hc, _⟩
  · exact ⟨none, 0, 0, [], e, rfl, Nat.le_refl _, by omega, fun _ => ⟨rfl, rfl⟩, fun h => absurd h (by omega)⟩
  · have hlz : n ≤ zs.length := by rw [hz]; split <;> omega
    have hsize : zs.length * 8 ≤ reachBytes := by
      refine hsz (zs.length * 8) ?_
      rw [hx]
      simp only [DataW.weights, Tryz.underlying26, Tryz.bytesInt, List.mem_cons]
      left
      simp [lits]
      omega
    refine ⟨some ad, n, c, zs.take n, e, by simp; omega, hl, by unfold reachBytes at hsize; omega, fun h => (by cases h), fun hn => ?_⟩
    obtain ⟨b, o, rfl⟩ := addr_plain (i := 0) (by simpa using hc 0 (by omega))
    refine ⟨b, o, rfl, fun i hi => ?_⟩
    have h1 := hc i (by omega)
    rw [add_at] at h1
    rw [h1]
    simp [List.getD_eq_getElem?_getD, hi]

/-- One frame's cells. -/
theorem open_frL {H : Type} {enc : TypeId × Value → H} {w : World} {spare : Nat → Bool} {held : Bool} {fuel : Nat} {cs : List Value} {x : DataW H × List MemPlace}
    (h : DataW.trod enc Tryz.prog w 0 spare held fuel 51 cs = some x) (hsz : ∀ k ∈ x.1.weights Tryz.prog 51, k ≤ reachBytes) :
    ∃ x0 x1 la ln lc ll sa sn sc sl, cs = [.int .i64 x0, .int .i64 x1, .slice la ln lc, .slice sa sn sc] ∧ Ints w la ln lc ll ∧ Ints w sa sn sc sl ∧ (Lit.int .i64 x0).wf = true ∧ (Lit.int .i64 x1).wf = true := by
  obtain ⟨y0, y1, y2, y3, k, hxy, hlen, t0, t1, t2, t3⟩ := Joins.trod_struct4 Tryz.underlying51 h
  rw [Tryz.cellsFrame] at hlen
  match cs, hlen with
  | [v0, v1, v2, v3], _ =>
    simp [Tryz.cellsInt, Tryz.cellsInts] at t0 t1 t2 t3
    obtain ⟨x0, e0, _, w0⟩ := DataW.trod_int Tryz.underlying3 t0
    obtain ⟨x1, e1, _, w1⟩ := DataW.trod_int Tryz.underlying3 t1
    have hw2 : ∀ k ∈ y2.1.weights Tryz.prog 26, k ≤ reachBytes := by
      intro k hk
      refine hsz k ?_
      rw [hxy]
      simp [DataW.weights, Tryz.underlying51, DataW.weightsEach]
      exact .inr (.inr (.inl hk))
    have hw3 : ∀ k ∈ y3.1.weights Tryz.prog 26, k ≤ reachBytes := by
      intro k hk
      refine hsz k ?_
      rw [hxy]
      simp [DataW.weights, Tryz.underlying51, DataW.weightsEach]
      exact .inr (.inr (.inr hk))
    obtain ⟨la, ln, lc, ll, e2, i2⟩ := open_intsL t2 hw2
    obtain ⟨sa, sn, sc, sl, e3, i3⟩ := open_intsL t3 hw3
    simp at e0 e1 e2 e3
    subst e0 e1 e2 e3
    exact ⟨x0, x1, la, ln, lc, ll, sa, sn, sc, sl, rfl, i2, i3, w0, w1⟩

theorem open_frs {H : Type} {enc : TypeId × Value → H} {w : World} {spare : Nat → Bool} {held : Bool} {fuel : Nat} {cs : List Value} {x : DataW H × List MemPlace}
    (h : DataW.trod enc Tryz.prog w 0 spare held fuel 25 cs = some x) (hsz : ∀ k ∈ x.1.weights Tryz.prog 25, k ≤ reachBytes) :
    ∃ a n c l, cs = [.slice a n c] ∧ Frs w a n c l := by
  rcases open_slice Tryz.underlying25 h with ⟨rfl, rfl⟩ | ⟨a, len, cap, m, n, D, Pl, rfl, hb, hl, hm, hmm, rfl, hx⟩
  · exact ⟨none, 0, 0, [], rfl, Frs.nil w⟩
  · have hlm : len ≤ m := by rw [hmm]; split <;> omega
    have each : ∀ i, i < len → ∃ p : Fr, w.cell? (a.add (i * 4)) = some (.int .i64 p.1) ∧ w.cell? (a.add (i * 4 + 1)) = some (.int .i64 p.2.1) ∧ (∃ a' n' c', w.cell? (a.add (i * 4 + 2)) = some (.slice a' n' c') ∧ Ints w a' n' c' p.2.2.1) ∧ (∃ a' n' c', w.cell? (a.add (i * 4 + 3)) = some (.slice a' n' c') ∧ Ints w a' n' c' p.2.2.2) := by
      intro i hi
      obtain ⟨cs', h1, h2⟩ := hx i (by omega)
      rw [Tryz.cellsFrame] at h1
      obtain ⟨_, hlen, hcell⟩ := World.cells?_some h1
      have hw : ∀ k ∈ (D i).weights Tryz.prog 51, k ≤ reachBytes := by
        intro k hk
        refine hsz k ?_
        have hmem : D i ∈ (List.range len).map D := List.mem_map.2 ⟨i, List.mem_range.2 hi, rfl⟩
        simp only [DataW.weights, Tryz.underlying25, List.mem_cons, List.mem_append]
        exact .inr (.inl (weights_all hmem k hk))
      obtain ⟨x0, x1, la, ln, lc, ll, sa, sn, sc, sl, rfl, i2, i3, _, _⟩ := open_frL h2 hw
      have q0 := hcell 0 (by omega)
      have q1 := hcell 1 (by omega)
      have q2 := hcell 2 (by omega)
      have q3 := hcell 3 (by omega)
      rw [add_add] at q0 q1 q2 q3
      exact ⟨(x0, x1, ll, sl), by simpa using q0, by simpa using q1, ⟨la, ln, lc, by simpa using q2, i2⟩, sa, sn, sc, by simpa using q3, i3⟩
    obtain ⟨f, hf⟩ := choose_lt (α := Fr) each
    have hsize : (len + (m - len)) * 64 ≤ reachBytes := by
      have := hsz ((len + (m - len)) * 64) (by simp [DataW.weights, Tryz.underlying25, Tryz.bytesFrame])
      exact this
    refine ⟨some a, len, cap, (List.range len).map f, rfl, by simp, hl, by unfold reachBytes at hsize; omega, fun h => (by cases h), fun hn => ?_⟩
    obtain ⟨b, o, rfl⟩ := addr_plain (i := 0) (by simpa using (hf 0 (by omega)).1)
    refine ⟨b, o, rfl, fun i hi => ?_⟩
    simp at hi
    obtain ⟨h1, h2, ⟨a', n', c', h3, h4⟩, a2, n2, c2, h5, h6⟩ := hf i (by omega)
    rw [add_at] at h1 h2 h3 h5
    simp only [List.getD_eq_getElem?_getD, List.getElem?_map, List.getElem?_range hi, Option.map_some, Option.getD_some]
    exact ⟨h1, by rw [Nat.add_assoc]; exact h2, ⟨a', n', c', by rw [Nat.add_assoc]; exact h3, h4⟩, a2, n2, c2, by rw [Nat.add_assoc]; exact h5, h6⟩

theorem open_frame {H : Type} {enc : TypeId × Value → H} {w : World} {spare : Nat → Bool} {held : Bool} {r : Go.Reach} {b0 : Nat} {v : Value} {d : DataW H} {p : List MemPlace}
    (hv : Value.okWide Tryz.prog w r b0 51 v) (h : DataW.Trod enc Tryz.prog w 0 spare held 51 v d p) (hsz : ∀ k ∈ d.weights Tryz.prog 51, k ≤ reachBytes) :
    ∃ x0 x1 la ln lc ll sa sn sc sl, v = .agg #[.int .i64 x0, .int .i64 x1, .slice la ln lc, .slice sa sn sc] ∧ Ints w la ln lc ll ∧ Ints w sa sn sc sl ∧ (Lit.int .i64 x0).wf = true ∧ (Lit.int .i64 x1).wf = true := by
  obtain ⟨cs, rfl, hs⟩ := okWide_struct Tryz.underlying51 hv
  rw [Tryz.cellsFrame] at hs
  obtain ⟨c0, c1, c2, c3, rfl⟩ := Joins.array4 hs
  obtain ⟨fuel, hf⟩ := h
  obtain ⟨x0, x1, la, ln, lc, ll, sa, sn, sc, sl, e, i2, i3, w0, w1⟩ := open_frL hf hsz
  simp [Value.cells] at e
  obtain ⟨rfl, rfl, rfl, rfl⟩ := e
  exact ⟨x0, x1, la, ln, lc, ll, sa, sn, sc, sl, rfl, i2, i3, w0, w1⟩

theorem open_state {H : Type} {enc : TypeId × Value → H} {w : World} {spare : Nat → Bool} {held : Bool} {r : Go.Reach} {b0 : Nat} {v : Value} {d : DataW H} {p : List MemPlace}
    (hv : Value.okWide Tryz.prog w r b0 28 v) (h : DataW.Trod enc Tryz.prog w 0 spare held 28 v d p) (hsz : ∀ k ∈ d.weights Tryz.prog 28, k ≤ reachBytes) :
    ∃ fa fn fc fs fuel oa on oc os dn vl, v = .agg #[.slice fa fn fc, .int .i64 fuel, .slice oa on oc, .int .i64 dn, .int .i64 vl] ∧ Frs w fa fn fc fs ∧ Ints w oa on oc os ∧ (Lit.int .i64 fuel).wf = true ∧ (Lit.int .i64 dn).wf = true ∧ (Lit.int .i64 vl).wf = true := by
  obtain ⟨cs, rfl, hs⟩ := okWide_struct Tryz.underlying28 hv
  rw [Tryz.cellsState] at hs
  obtain ⟨c0, c1, c2, c3, c4, rfl⟩ := array5 hs
  obtain ⟨fuel, hf⟩ := h
  obtain ⟨y0, y1, y2, y3, y4, k, hxy, _, t0, t1, t2, t3, t4⟩ := trod_struct5 Tryz.underlying28 hf
  simp [Value.cells, Tryz.cellsInt, Tryz.cellsInts, Tryz.cellsFrames] at t0 t1 t2 t3 t4
  simp only [Prod.mk.injEq] at hxy
  obtain ⟨fa, fn, fc, fs, e0, i0⟩ := open_frs t0 (by
    intro k hk
    refine hsz k ?_
    rw [hxy.1]
    simp [DataW.weights, Tryz.underlying28, DataW.weightsEach]
    exact .inl hk)
  obtain ⟨x1, e1, _, w1⟩ := DataW.trod_int Tryz.underlying3 t1
  obtain ⟨oa, on, oc, os, e2, i2⟩ := open_intsL t2 (by
    intro k hk
    refine hsz k ?_
    rw [hxy.1]
    simp [DataW.weights, Tryz.underlying28, DataW.weightsEach]
    exact .inr (.inr (.inl hk)))
  obtain ⟨x3, e3, _, w3⟩ := DataW.trod_int Tryz.underlying3 t3
  obtain ⟨x4, e4, _, w4⟩ := DataW.trod_int Tryz.underlying3 t4
  simp at e0 e1 e2 e3 e4
  subst e0 e1 e2 e3 e4
  exact ⟨fa, fn, fc, fs, x1, oa, on, oc, os, x3, x4, rfl, i0, i2, w1, w3, w4⟩

end Go.Proofs.YtcngmkbgcfhmdaaGreatDoor
