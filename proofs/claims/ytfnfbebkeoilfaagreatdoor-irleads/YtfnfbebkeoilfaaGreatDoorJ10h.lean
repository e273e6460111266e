/- Register code as it lies in memory. (Written ahead of a seat that has its types: not yet built.) Register code that came in as an argument, read as what it holds. (Written ahead of a seat that has its types: not yet built.) -/
import Derived.Test.YtfnfbebkeoilfaaGreatDoorFlatSrcs
import Derived.Test.YtfnfbebkeoilfaaGreatDoorJ10g
import Derived.Test.YtfnfbebkeoilfaaGreatDoorJ9a
import Derived.Test.YtfnfbebkeoilfaaGreatDoorOpenLay
namespace Go.Proofs.YtfnfbebkeoilfaaGreatDoor
open Go.RowKit
set_option linter.unusedVariables false

def layPart : Lay PartT := layP layI (layP layI (layP (layS 38 16 laySrcs) (layS 38 16 laySrcs)))
def layMeta : Lay (List PartT) := layS 44 64 layPart
def layIr : Lay IrT := layP layI (layP layI (layP layI (layP layI (layP layI (layP (layS 3 8 layI) (layP layI (layP layI layI)))))))
/-- An instruction, as it lies. -/
theorem ir_at {w : World} {a : Option Addr} {n c : Nat} {l : List IrT} (h : Sl layIr 88 w a n c l) (q : Nat) (hq : q < n) :
    ∃ b o kd r ra rb k xa xn xc args cost mt pc, a = some ⟨b, o, none⟩ ∧ l[q]? = some (kd, r, ra, rb, k, args, cost, mt, pc) ∧ w.cell? ⟨b, o + q * 9, none⟩ = some (.int .i64 kd) ∧ w.cell? ⟨b, o + q * 9 + 1, none⟩ = some (.int .i64 r) ∧ w.cell? ⟨b, o + q * 9 + 2, none⟩ = some (.int .i64 ra) ∧
      w.cell? ⟨b, o + q * 9 + 3, none⟩ = some (.int .i64 rb) ∧ w.cell? ⟨b, o + q * 9 + 4, none⟩ = some (.int .i64 k) ∧ w.cell? ⟨b, o + q * 9 + 5, none⟩ = some (.slice xa xn xc) ∧ w.cell? ⟨b, o + q * 9 + 6, none⟩ = some (.int .i64 cost) ∧ w.cell? ⟨b, o + q * 9 + 7, none⟩ = some (.int .i64 mt) ∧
      w.cell? ⟨b, o + q * 9 + 8, none⟩ = some (.int .i64 pc) ∧ Ints w xa xn xc args := by
  obtain ⟨b, o, ⟨kd, r, ra, rb, k, args, cost, mt, pc⟩, ha, hx, r0, r1, r2, r3, r4, ⟨xa, xn, xc, r5, i5⟩, r6, r7, r8⟩ := h.at q hq
  exact ⟨b, o, kd, r, ra, rb, k, xa, xn, xc, args, cost, mt, pc, ha, hx, r0, r1, r2, r3, r4, r5, r6, r7, r8, i5.ints⟩
/-- A part, as it lies. -/
theorem part_at {w : World} {a : Option Addr} {n c : Nat} {l : List PartT} (h : Sl layPart 64 w a n c l) (q : Nat) (hq : q < n) :
    ∃ b o fn pc la ln lc ll sa sn sc sl, a = some ⟨b, o, none⟩ ∧ l[q]? = some (fn, pc, ll, sl) ∧ w.cell? ⟨b, o + q * 4, none⟩ = some (.int .i64 fn) ∧ w.cell? ⟨b, o + q * 4 + 1, none⟩ = some (.int .i64 pc) ∧ w.cell? ⟨b, o + q * 4 + 2, none⟩ = some (.slice la ln lc) ∧
      w.cell? ⟨b, o + q * 4 + 3, none⟩ = some (.slice sa sn sc) ∧ Sl laySrcs 16 w la ln lc ll ∧ Sl laySrcs 16 w sa sn sc sl := by
  obtain ⟨b, o, ⟨fn, pc, ll, sl⟩, ha, hx, r0, r1, ⟨la, ln, lc, r2, i2⟩, sa, sn, sc, r3, i3⟩ := h.at q hq
  exact ⟨b, o, fn, pc, la, ln, lc, ll, sa, sn, sc, sl, ha, hx, r0, r1, r2, r3, i2, i3⟩
/-- A meta, as it lies. -/
theorem meta_at {w : World} {a : Option Addr} {n c : Nat} {l : List (List PartT)} (h : Sl layMeta 24 w a n c l) (q : Nat) (hq : q < n) :
    ∃ b o pa pn pc parts, a = some ⟨b, o, none⟩ ∧ l[q]? = some parts ∧ w.cell? ⟨b, o + q * 1, none⟩ = some (.slice pa pn pc) ∧ Sl layPart 64 w pa pn pc parts := by
  obtain ⟨b, o, parts, ha, hx, pa, pn, pc, r0, i0⟩ := h.at q hq
  exact ⟨b, o, pa, pn, pc, parts, ha, hx, r0, i0⟩
theorem src_at {w : World} {a : Option Addr} {n c : Nat} {l : List SrcT} (h : Sl laySrcs 16 w a n c l) (q : Nat) (hq : q < n) :
    ∃ b o k v, a = some ⟨b, o, none⟩ ∧ l[q]? = some (k, v) ∧ w.cell? ⟨b, o + q * 2, none⟩ = some (.bool k) ∧ w.cell? ⟨b, o + q * 2 + 1, none⟩ = some (.int .i64 v) := by
  obtain ⟨b, o, ⟨k, v⟩, ha, hx, r0, r1⟩ := h.at q hq
  exact ⟨b, o, k, v, ha, hx, r0, r1⟩

end Go.Proofs.YtfnfbebkeoilfaaGreatDoor

namespace Go.Proofs.YtfnfbebkeoilfaaGreatDoor
open Go.ChangeShapes Go.WideShapes Go.ChangeAt Go.RowKit Go.Deep
set_option linter.unusedVariables false
set_option maxRecDepth 100000

theorem opens_b : Opens Tryz.prog layB 4 := opens_bool Tryz.underlying4
theorem Tryz.cellsBool : Tryz.prog.cellsOf 4 = 1 := by kernel_rfl
theorem opens_src : Opens Tryz.prog laySrcs 38 := opens_struct Tryz.underlying38 (by kernel_rfl) (opensFs_cons rfl Tryz.cellsBool opens_b (opensFs_one rfl Tryz.cellsI opens_i))
theorem opens_srcs : Opens Tryz.prog (layS 38 16 laySrcs) 39 := opens_slice Tryz.underlying39 (by kernel_rfl) (by kernel_rfl) (by decide) opens_src
theorem Tryz.cellsSlSrc : Tryz.prog.cellsOf 39 = 1 := by kernel_rfl
theorem opens_part : Opens Tryz.prog layPart 44 := opens_struct Tryz.underlying44 (by kernel_rfl) (opensFs_cons rfl Tryz.cellsI opens_i (opensFs_cons rfl Tryz.cellsI opens_i (opensFs_cons rfl Tryz.cellsSlSrc opens_srcs (opensFs_one rfl Tryz.cellsSlSrc opens_srcs))))
theorem Tryz.cellsSlPart : Tryz.prog.cellsOf 45 = 1 := by kernel_rfl
theorem opens_parts : Opens Tryz.prog (layS 44 64 layPart) 45 := opens_slice Tryz.underlying45 (by kernel_rfl) (by kernel_rfl) (by decide) opens_part
theorem opens_meta : Opens Tryz.prog layMeta 47 := opens_struct Tryz.underlying47 (by kernel_rfl) (opensFs_one rfl Tryz.cellsSlPart opens_parts)
theorem opens_ir : Opens Tryz.prog layIr 42 := opens_struct Tryz.underlying42 (by kernel_rfl) (opensFs_cons rfl Tryz.cellsI opens_i (opensFs_cons rfl Tryz.cellsI opens_i (opensFs_cons rfl Tryz.cellsI opens_i (opensFs_cons rfl Tryz.cellsI opens_i (opensFs_cons rfl Tryz.cellsI opens_i (opensFs_cons rfl Tryz.cellsSlInt opens_ints (opensFs_cons rfl Tryz.cellsI opens_i (opensFs_cons rfl Tryz.cellsI opens_i (opensFs_one rfl Tryz.cellsI opens_i)))))))))
theorem Tryz.cellsSlIr : Tryz.prog.cellsOf 25 = 1 := by kernel_rfl
theorem Tryz.cellsSlMeta : Tryz.prog.cellsOf 26 = 1 := by kernel_rfl
theorem Tryz.cellsCode : Tryz.prog.cellsOf 28 = 4 := by kernel_rfl
theorem open_code {H : Type} {enc : TypeId × Value → H} {w : World} {spare : Nat → Bool} {held : Bool} {r : Go.Reach} {b0 : Nat} {v : Value} {d : DataW H} {p : List MemPlace}
    (hv : Value.okWide Tryz.prog w r b0 28 v) (h : DataW.Trod enc Tryz.prog w 0 spare held 28 v d p) (hsz : ∀ k ∈ d.weights Tryz.prog 28, k ≤ reachBytes) :
    ∃ fn regs ca cn cc cl ma mn mc ml, v = .agg #[.int .i64 fn, .int .i64 regs, .slice ca cn cc, .slice ma mn mc] ∧ Sl layIr 88 w ca cn cc cl ∧ Sl layMeta 24 w ma mn mc ml ∧ (Lit.int .i64 fn).wf = true ∧ (Lit.int .i64 regs).wf = true := by
  obtain ⟨cs, rfl, hs⟩ := okWide_struct Tryz.underlying28 hv
  rw [Tryz.cellsCode] at hs
  obtain ⟨c0, c1, c2, c3, rfl⟩ := Joins.array4 hs
  obtain ⟨fuel, hf⟩ := h
  obtain ⟨y0, y1, y2, y3, k, hxy, hlen, t0, t1, t2, t3⟩ := Joins.trod_struct4 Tryz.underlying28 hf
  simp [Value.cells, Tryz.cellsI, Tryz.cellsSlIr, Tryz.cellsSlMeta] at t0 t1 t2 t3
  simp only [Prod.mk.injEq] at hxy
  obtain ⟨x0, e0, _, w0⟩ := DataW.trod_int Tryz.underlying3 t0
  obtain ⟨x1, e1, _, w1⟩ := DataW.trod_int Tryz.underlying3 t1
  obtain ⟨ca, cn, cc, cl, e2, i2⟩ := opens_sl Tryz.underlying25 (by kernel_rfl) (by kernel_rfl) (by decide) opens_ir t2 (by
    intro k hk
    refine hsz k ?_
    rw [hxy.1]
    simp [DataW.weights, Tryz.underlying28, DataW.weightsEach]
    exact .inr (.inr (.inl hk)))
  obtain ⟨ma, mn, mc, ml, e3, i3⟩ := opens_sl Tryz.underlying26 (by kernel_rfl) (by kernel_rfl) (by decide) opens_meta t3 (by
    intro k hk
    refine hsz k ?_
    rw [hxy.1]
    simp [DataW.weights, Tryz.underlying28, DataW.weightsEach]
    exact .inr (.inr (.inr hk)))
  simp at e0 e1 e2 e3
  subst e0 e1 e2 e3
  exact ⟨x0, x1, ca, cn, cc, cl, ma, mn, mc, ml, rfl, i2, i3, w0, w1⟩

end Go.Proofs.YtfnfbebkeoilfaaGreatDoor
